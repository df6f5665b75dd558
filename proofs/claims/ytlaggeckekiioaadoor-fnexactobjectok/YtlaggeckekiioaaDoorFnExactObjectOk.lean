/- For every object the law FnExactObjectOk answers true, that is, impl.ObjectOk answers as spec.ObjectOk does and writes into nothing of its argument; the argument reads afterwards as it read before; the two tables of the library that the row lists are as the library lays them. -/
import Derived.Test.YtlaggeckekiioaaDoorCards
import Derived.Test.YtlaggeckekiioaaDoorTie
import Derived.WalkKit
import Derived.ProofKit
import Derived.OpenShut
import Derived.ShutString
import Derived.ChangeOld
import Derived.ChangeVars
import Derived.OpenVars
import Derived.Below
import Derived.Deep.DeepHandedRow
import Derived.Lib.LaidTab
import Derived.Test.YtlaggeckekiioaaDoorObjs
import Derived.Deep.WholeRow
import Derived.Deep.Cut
import Derived.Laws.Rows
import Derived.Laws.Tables
namespace Go.Proofs.YtlaggeckekiioaaDoor.fnExactObjectOk
open Go.ChangeShapes Go.WideShapes Go.ChangeAt Go.RowKit
open Go.ChangeMaps (open_string shut_string)
set_option linter.unusedVariables false

theorem own : ownKnob Tryd.prog.godebug = none := by kernel_rfl
theorem laidOut : laidOutB Tryd.prog = true := by kernel_rfl

set_option maxRecDepth 100000
theorem after {a b c : World} (h : Below a.heap.size a b) (h2 : Below b.heap.size b c) : Below a.heap.size a c := h.trans (h2.mono h.size)
theorem any_cons {P : Program} {ops : Array Oper} {Q : Exit → Act → World → Prop} {md : Region.Mode} {fuel : Nat} {listed : Array Bool} {a : Act} {w : World} {i : Nat} {o : Oper} {rs : List Nat} (ho : ops[i]? = some o) (hg : o.guard = none)
    (h : ∀ K' : Act → World → Prop, (∀ a w, wpAny P md ops Q fuel (listed.setIfInBounds i true) a w → K' a w) → Oper.wp P o a w K' Q) (hs : AllReady P md ops Q fuel listed a w rs) : AllReady P md ops Q fuel listed a w (i :: rs) :=
  AllReady.cons ho (fun K hK => by simp only [Region.wanted, hg, if_true]; exact h K hK) hs
theorem infoL : (Tryd.prog.info? 37).map (·.size) = some 3 := by kernel_rfl
theorem infoI : (Tryd.prog.info? 44).map (·.size) = some 3 := by kernel_rfl

set_option maxHeartbeats 2000000 in
theorem walk (w : World) (x0 : Objr.X) (ra0_0 : Option Addr) (rc0_0 : Nat) (ra1_0 : Option Addr) (rc1_0 : Nat) (ra2_0 : Option Addr) (rc2_0 : Nat) (w0 : Objr.Has 0 w x0 ra0_0 ra1_0 ra2_0) :
    Calls Tryd.prog 4 #[.agg #[.slice ra0_0 x0.f0.length rc0_0, .slice ra1_0 x0.f1.length rc1_0, .slice ra2_0 x0.f2.length rc2_0]] w fun e w' => e = .returned (.bool true) ∧ Below w.heap.size w w' := by
  have H0 : Hid (Objr.Has 0 w x0 ra0_0 ra1_0 ra2_0) := w0
  have cz := fun W (h : Objr.Has 0 W x0 ra0_0 ra1_0 ra2_0) => Objr.szX_any x0 ra0_0 rc0_0 ra1_0 rc1_0 ra2_0 rc2_0 1048576 W h (by decide) (by decide)
  have HI : Hid ((Tryd.prog.info? 37).map (·.size) = some 3 ∧ (Tryd.prog.info? 44).map (·.size) = some 3) := ⟨infoL, infoI⟩
  clear w0
  have HR1 : Hid (∀ W', Below (w.alloc (.cells #[.slice ra0_0 x0.f0.length rc0_0, .slice ra1_0 x0.f1.length rc1_0, .slice ra2_0 x0.f2.length rc2_0] 37)).heap.size (w.alloc (.cells #[.slice ra0_0 x0.f0.length rc0_0, .slice ra1_0 x0.f1.length rc1_0, .slice ra2_0 x0.f2.length rc2_0] 37)) W' → Objr.Has 0 W' x0 ra0_0 ra1_0 ra2_0) := fun W' h => H0.out.below (after ((Below.refl _ _).alloc (Nat.le_refl _) _) h)
  go_enter Tryd.func4, Tryd.ntmps4
  go_upto_region 2 with fail
  have k0 : (w.alloc (.cells #[.slice ra0_0 x0.f0.length rc0_0, .slice ra1_0 x0.f1.length rc1_0, .slice ra2_0 x0.f2.length rc2_0] 37)).heap[w.heap.size]? = some (.cells #[.slice ra0_0 x0.f0.length rc0_0, .slice ra1_0 x0.f1.length rc1_0, .slice ra2_0 x0.f2.length rc2_0] 37) := heap_alloc_last w _
  have HA : Hid (∀ W', Below (w.alloc (.cells #[.slice ra0_0 x0.f0.length rc0_0, .slice ra1_0 x0.f1.length rc1_0, .slice ra2_0 x0.f2.length rc2_0] 37)).heap.size (w.alloc (.cells #[.slice ra0_0 x0.f0.length rc0_0, .slice ra1_0 x0.f1.length rc1_0, .slice ra2_0 x0.f2.length rc2_0] 37)) W' → W'.heap[w.heap.size]? = some (.cells #[.slice ra0_0 x0.f0.length rc0_0, .slice ra1_0 x0.f1.length rc1_0, .slice ra2_0 x0.f2.length rc2_0] 37)) := fun W' h => by
    rw [h.block _ (by simp)]
    exact k0
  refine wp_region_list ?_
  refine wpList_load_row rfl 37 _ rfl w.heap.size rfl _ _ (0, 0) _ k0 Tryd.underlying37 rfl HI.out.1 ?_
  clear k0
  go_wp2_with fail
  refine (cz _ (HR1.out _ (Below.refl _ _))).mono ?_
  rintro e w1 ⟨⟨q, rfl, hq⟩, hb1⟩
  have HB1 : Hid (Below (w.alloc (.cells #[.slice ra0_0 x0.f0.length rc0_0, .slice ra1_0 x0.f1.length rc1_0, .slice ra2_0 x0.f2.length rc2_0] 37)).heap.size (w.alloc (.cells #[.slice ra0_0 x0.f0.length rc0_0, .slice ra1_0 x0.f1.length rc1_0, .slice ra2_0 x0.f2.length rc2_0] 37)) w1) := hb1
  clear cz hb1
  rcases hq with rfl | ⟨q0, q1, hsm⟩
  · go_wp2
    go_ret
    exact ⟨rfl, after ((Below.refl _ _).alloc (Nat.le_refl _) _) HB1.out⟩
  have cs := fun (p0s : Option Addr) (k0s : Nat) (p1s : Option Addr) (k1s : Nat) (p2s : Option Addr) (k2s : Nat) W (h : Objr.Has 0 W x0 p0s p1s p2s) => Objs.specObj_any x0 p0s k0s p1s k1s p2s k2s W h hsm
  have ci := fun (p0s : Option Addr) (k0s : Nat) (p1s : Option Addr) (k1s : Nat) (p2s : Option Addr) (k2s : Nat) W (h : Objr.Has 0 W x0 p0s p1s p2s) => Obje.implObj_any x0 p0s k0s p1s k1s p2s k2s W h hsm
  have ct := fun W (h : Objr.Has 0 W x0 ra0_0 ra1_0 ra2_0) => Objr.toX_any x0 ra0_0 rc0_0 ra1_0 rc1_0 ra2_0 rc2_0 W h hsm
  have ce := fun (p0s : Option Addr) (k0s : Nat) (p1s : Option Addr) (k1s : Nat) (p2s : Option Addr) (k2s : Nat) (p0t : Option Addr) (k0t : Nat) (p1t : Option Addr) (k1t : Nat) (p2t : Option Addr) (k2t : Nat) W (h : Objr.Has 0 W x0 p0s p1s p2s) (h' : Objr.Has 0 W x0 p0t p1t p2t) => Objr.eqX_any x0 p0s k0s p1s k1s p2s k2s p0t k0t p1t k1t p2t k2t W h h' hsm
  generalize Obje.objB x0 = b at cs ci
  clear hsm
  go_upto_region 5 with fail
  refine wp_region_list ?_
  refine wpList_load_row rfl 37 _ rfl w.heap.size rfl _ _ (0, 0) _ (HA.out _ HB1.out) Tryd.underlying37 rfl HI.out.1 ?_
  go_wp2_with fail
  refine Calls.mono (ct _ (HR1.out _ HB1.out)) ?_
  rintro e w2 ⟨⟨p02, k02, p12, k12, p22, k22, rfl, hR2⟩, hb2⟩
  have HB2 : Hid (Below (w.alloc (.cells #[.slice ra0_0 x0.f0.length rc0_0, .slice ra1_0 x0.f1.length rc1_0, .slice ra2_0 x0.f2.length rc2_0] 37)).heap.size (w.alloc (.cells #[.slice ra0_0 x0.f0.length rc0_0, .slice ra1_0 x0.f1.length rc1_0, .slice ra2_0 x0.f2.length rc2_0] 37)) w2) := after HB1.out hb2
  clear hb2 HB1
  go_wp2_with fail
  refine Calls.mono (cs _ _ _ _ _ _ _ (hR2.mono (Nat.zero_le _))) ?_
  rintro e w3 ⟨rfl, hb3⟩
  have HB3 : Hid (Below (w.alloc (.cells #[.slice ra0_0 x0.f0.length rc0_0, .slice ra1_0 x0.f1.length rc1_0, .slice ra2_0 x0.f2.length rc2_0] 37)).heap.size (w.alloc (.cells #[.slice ra0_0 x0.f0.length rc0_0, .slice ra1_0 x0.f1.length rc1_0, .slice ra2_0 x0.f2.length rc2_0] 37)) w3) := after HB2.out hb3
  clear hb3 hR2 HB2 cs
  go_upto_region 6 with fail
  refine wp_region_list ?_
  refine wpList_load_row rfl 37 _ rfl w.heap.size rfl _ _ (0, 0) _ (HA.out _ HB3.out) Tryd.underlying37 rfl HI.out.1 ?_
  go_wp2_with fail
  refine Calls.mono (ct _ (HR1.out _ HB3.out)) ?_
  rintro e w4 ⟨⟨p04, k04, p14, k14, p24, k24, rfl, hR4⟩, hb4⟩
  have HB4 : Hid (Below (w.alloc (.cells #[.slice ra0_0 x0.f0.length rc0_0, .slice ra1_0 x0.f1.length rc1_0, .slice ra2_0 x0.f2.length rc2_0] 37)).heap.size (w.alloc (.cells #[.slice ra0_0 x0.f0.length rc0_0, .slice ra1_0 x0.f1.length rc1_0, .slice ra2_0 x0.f2.length rc2_0] 37)) w4) := after HB3.out hb4
  have HR4 : Hid (Objr.Has 0 w4 x0 p04 p14 p24) := hR4.mono (Nat.zero_le _)
  clear hb4 HB3 hR4
  rename_i hK
  refine hK _ _ ?_
  clear hK
  refine wpList_plain rfl (fun K hK => ?_)
  go_simp
  refine hK _ _ ?_
  clear hK
  refine wpList_store_row rfl 44 _ _ rfl w4.heap.size #[.slice p04 x0.f0.length k04, .slice p14 x0.f1.length k14, .slice p24 x0.f2.length k24] rfl rfl _ #[.slice none 0 0, .slice none 0 0, .slice none 0 0] (heap_alloc_last w4 _) HI.out.2 rfl (by simp [Value.oneCell']) ?_
  rw [World.setRow_alloc_new]
  refine wpList_nil ?_
  go_upto_region 7 with fail
  refine wp_region_list ?_
  refine wpList_load_row rfl 44 _ rfl w4.heap.size rfl _ _ (0, 0) _ (heap_alloc_last w4 _) Tryd.underlying44 rfl HI.out.2 ?_
  go_wp2_with fail
  refine Calls.mono (ci _ _ _ _ _ _ _ (HR4.out.below ((Below.refl _ _).alloc (Nat.le_refl _) _))) ?_
  rintro e w5 ⟨rfl, hb5⟩
  have HB5 : Hid (Below (w.alloc (.cells #[.slice ra0_0 x0.f0.length rc0_0, .slice ra1_0 x0.f1.length rc1_0, .slice ra2_0 x0.f2.length rc2_0] 37)).heap.size (w.alloc (.cells #[.slice ra0_0 x0.f0.length rc0_0, .slice ra1_0 x0.f1.length rc1_0, .slice ra2_0 x0.f2.length rc2_0] 37)) w5) := after (HB4.out.alloc HB4.out.size _) hb5
  have HX : Hid (∀ W', Below w5.heap.size w5 W' → W'.heap[w4.heap.size]? = some (.cells #[.slice p04 x0.f0.length k04, .slice p14 x0.f1.length k14, .slice p24 x0.f2.length k24] 44)) := fun W' h => by
    rw [h.block _ (Nat.lt_of_lt_of_le (by simp) hb5.size), hb5.block _ (by simp)]
    exact heap_alloc_last w4 _
  have HR5 : Hid (∀ W', Below w5.heap.size w5 W' → Objr.Has 0 W' x0 p04 p14 p24) := fun W' h => ((HR4.out.below ((Below.refl _ _).alloc (Nat.le_refl _) _)).below hb5).below h
  clear hb5 HR4 HB4 ci
  go_upto_region 10 with fail
  have HD : Hid (Below w5.heap.size w5 w5.drew) := (Below.refl _ _).drew
  have HD5 : Hid (Below (w.alloc (.cells #[.slice ra0_0 x0.f0.length rc0_0, .slice ra1_0 x0.f1.length rc1_0, .slice ra2_0 x0.f2.length rc2_0] 37)).heap.size (w.alloc (.cells #[.slice ra0_0 x0.f0.length rc0_0, .slice ra1_0 x0.f1.length rc1_0, .slice ra2_0 x0.f2.length rc2_0] 37)) w5.drew) := HB5.out.drew
  refine wp_region_any (by kernel_rfl) ?_
  try (change wpAny _ _ _ _ _ _ _ (World.drew _))
  refine wpAny_ready (rs := [0, 1]) (by kernel_rfl) (by simp) ?_
  refine any_cons rfl rfl (fun K hK => ?_) (any_cons rfl rfl (fun K hK => ?_) AllReady.nil)
  · refine wp_load_row 44 _ rfl w4.heap.size rfl _ _ (0, 0) _ (HX.out _ HD.out) Tryd.underlying44 rfl HI.out.2 ?_
    refine hK _ _ ?_
    clear hK
    refine wpAny_ready (rs := [1]) (by kernel_rfl) (by simp) ?_
    refine any_cons rfl rfl (fun K hK => ?_) AllReady.nil
    refine wp_load_row 37 _ rfl w.heap.size rfl _ _ (0, 0) _ (HA.out _ HD5.out) Tryd.underlying37 rfl HI.out.1 ?_
    refine hK _ _ ?_
    clear hK
    refine wpAny_ready (rs := [2]) (by kernel_rfl) (by simp) ?_
    refine any_cons rfl rfl (fun K hK => ?_) AllReady.nil
    go_wp2_with fail
    refine Calls.mono (ct _ (HR1.out _ HD5.out)) ?_
    rintro e w6 ⟨⟨p06, k06, p16, k16, p26, k26, rfl, hR6⟩, hb6⟩
    have HB6 : Hid (Below w5.heap.size w5 w6) := HD.out.trans (hb6.mono HD.out.size)
    clear hb6
    refine hK _ _ ?_
    clear hK
    refine wpAny_ready (rs := [3]) (by kernel_rfl) (by simp) ?_
    refine any_cons rfl rfl (fun K hK => ?_) AllReady.nil
    go_wp2_with fail
    refine Calls.mono (ce _ _ _ _ _ _ _ _ _ _ _ _ _ (HR5.out _ HB6.out) (hR6.mono (Nat.zero_le _))) ?_
    rintro e w7 ⟨rfl, hb7⟩
    have HB7 : Hid (Below w.heap.size w w7) := after (after ((Below.refl _ _).alloc (Nat.le_refl _) _) HB5.out) (after HB6.out hb7)
    clear hb7 hR6 HB6
    refine hK _ _ ?_
    clear hK
    refine wpAny_ready (rs := [4]) (by kernel_rfl) (by simp) ?_
    refine any_cons rfl rfl (fun K hK => ?_) AllReady.nil
    go_simp
    refine hK _ _ ?_
    clear hK
    refine wpAny_done (by kernel_rfl) ?_ _
    go_wp2
    go_ret
    exact ⟨rfl, HB7.out⟩
  · refine wp_load_row 37 _ rfl w.heap.size rfl _ _ (0, 0) _ (HA.out _ HD5.out) Tryd.underlying37 rfl HI.out.1 ?_
    refine hK _ _ ?_
    clear hK
    refine wpAny_ready (rs := [0, 2]) (by kernel_rfl) (by simp) ?_
    refine any_cons rfl rfl (fun K hK => ?_) (any_cons rfl rfl (fun K hK => ?_) AllReady.nil)
    · refine wp_load_row 44 _ rfl w4.heap.size rfl _ _ (0, 0) _ (HX.out _ HD.out) Tryd.underlying44 rfl HI.out.2 ?_
      refine hK _ _ ?_
      clear hK
      refine wpAny_ready (rs := [2]) (by kernel_rfl) (by simp) ?_
      refine any_cons rfl rfl (fun K hK => ?_) AllReady.nil
      go_wp2_with fail
      refine Calls.mono (ct _ (HR1.out _ HD5.out)) ?_
      rintro e w6 ⟨⟨p06, k06, p16, k16, p26, k26, rfl, hR6⟩, hb6⟩
      have HB6 : Hid (Below w5.heap.size w5 w6) := HD.out.trans (hb6.mono HD.out.size)
      clear hb6
      refine hK _ _ ?_
      clear hK
      refine wpAny_ready (rs := [3]) (by kernel_rfl) (by simp) ?_
      refine any_cons rfl rfl (fun K hK => ?_) AllReady.nil
      go_wp2_with fail
      refine Calls.mono (ce _ _ _ _ _ _ _ _ _ _ _ _ _ (HR5.out _ HB6.out) (hR6.mono (Nat.zero_le _))) ?_
      rintro e w7 ⟨rfl, hb7⟩
      have HB7 : Hid (Below w.heap.size w w7) := after (after ((Below.refl _ _).alloc (Nat.le_refl _) _) HB5.out) (after HB6.out hb7)
      clear hb7 hR6 HB6
      refine hK _ _ ?_
      clear hK
      refine wpAny_ready (rs := [4]) (by kernel_rfl) (by simp) ?_
      refine any_cons rfl rfl (fun K hK => ?_) AllReady.nil
      go_simp
      refine hK _ _ ?_
      clear hK
      refine wpAny_done (by kernel_rfl) ?_ _
      go_wp2
      go_ret
      exact ⟨rfl, HB7.out⟩
    · go_wp2_with fail
      refine Calls.mono (ct _ (HR1.out _ HD5.out)) ?_
      rintro e w6 ⟨⟨p06, k06, p16, k16, p26, k26, rfl, hR6⟩, hb6⟩
      have HB6 : Hid (Below w5.heap.size w5 w6) := HD.out.trans (hb6.mono HD.out.size)
      clear hb6
      refine hK _ _ ?_
      clear hK
      refine wpAny_ready (rs := [0]) (by kernel_rfl) (by simp) ?_
      refine any_cons rfl rfl (fun K hK => ?_) AllReady.nil
      refine wp_load_row 44 _ rfl w4.heap.size rfl _ _ (0, 0) _ (HX.out _ HB6.out) Tryd.underlying44 rfl HI.out.2 ?_
      refine hK _ _ ?_
      clear hK
      refine wpAny_ready (rs := [3]) (by kernel_rfl) (by simp) ?_
      refine any_cons rfl rfl (fun K hK => ?_) AllReady.nil
      go_wp2_with fail
      refine Calls.mono (ce _ _ _ _ _ _ _ _ _ _ _ _ _ (HR5.out _ HB6.out) (hR6.mono (Nat.zero_le _))) ?_
      rintro e w7 ⟨rfl, hb7⟩
      have HB7 : Hid (Below w.heap.size w w7) := after (after ((Below.refl _ _).alloc (Nat.le_refl _) _) HB5.out) (after HB6.out hb7)
      clear hb7 hR6 HB6
      refine hK _ _ ?_
      clear hK
      refine wpAny_ready (rs := [4]) (by kernel_rfl) (by simp) ?_
      refine any_cons rfl rfl (fun K hK => ?_) AllReady.nil
      go_simp
      refine hK _ _ ?_
      clear hK
      refine wpAny_done (by kernel_rfl) ?_ _
      go_wp2
      go_ret
      exact ⟨rfl, HB7.out⟩

set_option maxRecDepth 100000 in
theorem contract (H : Type) (enc : TypeId × Value → H) (W : World) (base : Nat) (args : Array Value) (ds gs : List (DataW H)) (before : List MemPlace)
    (hval : ∀ (j : Nat) t v, Tryd.f4.params[j]? = some t → args[j]? = some v → Value.okWide Tryd.prog W .any base t v)
    (hW : DataW.Whole enc Tryd.prog Tryd.f4.params.toList Rows.fnExactObjectOkSpec.vars false W args.toList ds gs before) (hL : laidMetH Tryd.prog Rows.fnExactObjectOkRow.laid W) :
    Calls Tryd.prog 4 args W fun e W' => ∃ v, e = .returned v ∧ Rows.fnExactObjectOkSpec.post enc Tryd.prog Tryd.f4 false true false false W args v W' := by
  have hW' := hW
  obtain ⟨p, q, hA0, hV, hbef, hfz, hnd⟩ := hW
  have hA : DataW.TrodAll enc Tryd.prog W 0 (fun _ => true) true Tryd.f4.params.toList args.toList ds p := hA0
  rw [Tryd.params4] at hA hval
  obtain ⟨v0, vs0, d0, ds0, p0, q0, hargs, rfl, rfl, h0, r0⟩ := trodAll_cons hA
  obtain ⟨rfl, rfl, rfl⟩ := trodAll_nil r0
  obtain rfl : args = #[v0] := by cases args; simp_all
  obtain ⟨rfl, rfl⟩ := trodVars_none hV
  obtain ⟨cs0, rfl, _⟩ := okWide_struct Tryd.underlying37 (hval 0 37 v0 rfl rfl)
  have kk0 := h0
  have lt0 : ∀ x ∈ p0, x.block < W.heap.size := by obtain ⟨m, hm⟩ := kk0; exact DataW.trod_lt m _ _ _ hm
  obtain ⟨x0, ra0_0, rc0_0, ra1_0, rc1_0, ra2_0, rc2_0, e0, w0⟩ : ∃ (x0 : Objr.X) (ra0_0 : Option Addr) (rc0_0 : Nat) (ra1_0 : Option Addr) (rc1_0 : Nat) (ra2_0 : Option Addr) (rc2_0 : Nat), cs0 = #[.slice ra0_0 x0.f0.length rc0_0, .slice ra1_0 x0.f1.length rc1_0, .slice ra2_0 x0.f2.length rc2_0] ∧ Objr.Has 0 W x0 ra0_0 ra1_0 ra2_0 := by
    obtain ⟨fuel, hf⟩ := h0
    obtain ⟨x, ra0_0, rc0_0, ra1_0, rc1_0, ra2_0, rc2_0, hcs, hh⟩ := Objr.x_of hf
    simp [Value.cells] at hcs
    exact ⟨x, ra0_0, rc0_0, ra1_0, rc1_0, ra2_0, rc2_0, by cases cs0; simp_all, hh⟩
  subst e0
  clear hA0
  refine (walk W x0 ra0_0 rc0_0 ra1_0 rc1_0 ra2_0 rc2_0 w0).mono fun e W' ⟨he, bel⟩ => ?_
  subst he
  exact ⟨_, rfl, _, _, _, [], _, [], hW', trodAll_mk1 (shut_bool Tryd.underlying4 _), (trodAll_cons_mk (Below.trod laidOut (by kernel_rfl) (of_decide_eq_true (by kernel_rfl)) kk0 bel lt0) trodAll_mk0), rfl, bel.frame _, fun h => by cases h⟩

/-- A world for the witness: the settled one, the table holding what its initialiser lays. -/
noncomputable def laidWorld (os : Os) : World :=
  { World.holding Tryd.prog os ⟨#[], #[], []⟩ with heap := (fun h => h.modify 1 fun | .cells _ t frozen => .cells #[.int .u8 128, .int .u8 191, .int .u8 160, .int .u8 191, .int .u8 128, .int .u8 159, .int .u8 144, .int .u8 191, .int .u8 128, .int .u8 143, .int .u8 0, .int .u8 0, .int .u8 0, .int .u8 0, .int .u8 0, .int .u8 0, .int .u8 0, .int .u8 0, .int .u8 0, .int .u8 0, .int .u8 0, .int .u8 0, .int .u8 0, .int .u8 0, .int .u8 0, .int .u8 0, .int .u8 0, .int .u8 0, .int .u8 0, .int .u8 0, .int .u8 0, .int .u8 0] t frozen | o => o) <| (fun h => h.modify 0 fun | .cells _ t frozen => .cells ((Go.Pinned.utf8FirstZ).map fun n => Value.int .u8 (n : Nat)).toArray t frozen | o => o) <| (World.holding Tryd.prog os ⟨#[], #[], []⟩).heap }
theorem laid_met (os : Os) : laidMet Tryd.prog Rows.fnExactObjectOkRow.laid ((laidWorld os).forCall (fun _ _ => 0) ⟨#[], #[.agg #[.slice none 0 0, .slice none 0 0, .slice none 0 0]], []⟩).memory :=
  laidMet_of_run' 8 (by kernel_rfl) (by kernel_rfl)
theorem reads (os : Os) {H : Type} (enc : TypeId × Value → H) : ∃ places, DataW.whole enc Tryd.prog ((laidWorld os).forCall (fun _ _ => 0) ⟨#[], #[.agg #[.slice none 0 0, .slice none 0 0, .slice none 0 0]], []⟩).memory Tryd.f4.params.toList Rows.fnExactObjectOkSpec.vars false [.agg #[.slice none 0 0, .slice none 0 0, .slice none 0 0]] 8 = some ([.agg [.nil, .nil, .nil]], [], places) :=
  ⟨[], by kernel_rfl⟩

set_option maxRecDepth 100000 in
theorem lifted (os : Os) (started : os.Started) (H : Type) (enc : TypeId × Value → H) (F : Stop.Interp) :
    ReturnsInHanded {} Tryd.checked os 4 .any ((OpenSpec.ofChange Rows.fnExactObjectOkSpec).preRow enc Tryd.prog Tryd.f4 Rows.fnExactObjectOkRow.domain false Rows.fnExactObjectOkRow.laid) (((OpenSpec.ofChange Rows.fnExactObjectOkSpec).at F).post enc Tryd.prog Tryd.f4 false true false false) := by
  obtain ⟨places, hx⟩ := reads os enc
  refine returnsInHanded_of_row (C := Tryd.checked) (s := OpenSpec.ofChange Rows.fnExactObjectOkSpec) own started (by kernel_rfl) Tryd.func4
    (witness_row_at (enc := enc) (C := Tryd.checked) false (laidWorld os) #[.agg #[.slice none 0 0, .slice none 0 0, .slice none 0 0]] rfl (by kernel_rfl) (by kernel_rfl) (by kernel_rfl)
      (OpenSpec.preRow_of_cond 8 hx (by kernel_rfl) (fun k hk => by cases hk) (by kernel_rfl) (laid_met os))) ?_
  intro W base args ds gs before hval hW _ _ _ hL _ _
  exact contract H enc W base args ds gs before hval hW hL

theorem said : Rows.FnExactObjectOkSaid :=
  OpenClaim.holds_of_cond 4 Tryd.f4 rfl rfl rfl rfl rfl rfl rfl ⟨rfl, rfl, rfl, rfl, rfl⟩ rfl rfl rfl rfl rfl (by kernel_rfl) Tryd.func4 (by kernel_rfl)
    (of_decide_eq_true (by kernel_rfl)) (by unfold Func.isWrapper; first | (rw [if_pos (by decide +kernel)]; kernel_rfl) | (rw [if_neg (by decide +kernel)]; exact ⟨rfl, rfl⟩))
    (fun os started H enc _ F => by rw [OpenClaim.pre_eq_preRow]; exact lifted os started H enc F)

theorem plain (f : FuncId) (fn : Func) (hf : Tryd.pinned.checked.prog.funcNamed "loop.example/g00460/laws.FnExactObjectOk" = some f) (hfn : Tryd.pinned.checked.prog.funcs[f]? = some fn) :
    false = Tryd.pinned.checked.prog.looks [] ∧ ∀ (j : Nat) t, fn.params[j]? = some t → Tryd.pinned.checked.prog.wantsStandIn t = false := by
  obtain rfl : f = 4 := Option.some.inj ((show Tryd.prog.funcNamed "loop.example/g00460/laws.FnExactObjectOk" = some 4 by kernel_rfl).symm.trans hf) |>.symm
  obtain rfl : fn = Tryd.f4 := (Option.some.inj (Tryd.func4.symm.trans hfn)).symm
  refine ⟨by kernel_rfl, fun j t ht => ?_⟩
  rw [Tryd.params4] at ht
  have h : t = 37 := by simpa using Array.mem_of_getElem? ht
  subst h
  exact (show Tryd.prog.wantsStandIn 37 = false by kernel_rfl)

theorem card : Rows.FnExactObjectOkCardSaid :=
  Claim7.holds_tied_plain_at .later [] _ _ _ _ said (fun _ h => by cases h) (by kernel_rfl) (fun _ h => by cases h) fnExactObjectOk_row_tie rfl ⟨rfl, rfl⟩ (by kernel_rfl) rfl plain (by kernel_rfl)
end Go.Proofs.YtlaggeckekiioaaDoor.fnExactObjectOk
namespace Go.Proofs.YtlaggeckekiioaaDoor
theorem fnExactObjectOk_holds : Rows.FnExactObjectOkCardSaid := fnExactObjectOk.card
end Go.Proofs.YtlaggeckekiioaaDoor
