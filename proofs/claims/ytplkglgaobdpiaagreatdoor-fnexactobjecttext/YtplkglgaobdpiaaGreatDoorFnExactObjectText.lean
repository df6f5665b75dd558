/- For every object the law FnExactObjectText answers true, that is, impl.ObjectText answers as spec.ObjectText does and writes into nothing of its argument; the argument reads afterwards as it read before; the tables that the row lists hold what their texts lay. -/
import Derived.Test.YtplkglgaobdpiaaGreatDoorCards
import Derived.Test.YtplkglgaobdpiaaGreatDoorTie
import Derived.WalkKit
import Derived.ProofKit
import Derived.OpenShut
import Derived.ShutString
import Derived.ChangeOld
import Derived.ChangeVars
import Derived.OpenVars
import Derived.Below
import Derived.Deep.DeepHandedRow
import Derived.Lib.LaidTab
import Derived.Test.YtplkglgaobdpiaaGreatDoorOtxs
import Derived.Deep.WholeRow
import Derived.Deep.Cut
import Derived.Laws.Rows
import Derived.Laws.Tables
import Derived.Test.YtplkglgaobdpiaaGreatDoorLaid
namespace Go.Proofs.YtplkglgaobdpiaaGreatDoor.fnExactObjectText
open Go.ChangeShapes Go.WideShapes Go.ChangeAt Go.RowKit
open Go.ChangeMaps (open_string shut_string)
set_option linter.unusedVariables false

theorem own : ownKnob Tryz.prog.godebug = none := by kernel_rfl
theorem laidOut : laidOutB Tryz.prog = true := by kernel_rfl
theorem rowed : varsRowed Tryz.prog Rows.fnExactObjectTextSpec.vars = true := by kernel_rfl

theorem tables {W : World} (h : laidMetH Tryz.prog Rows.fnExactObjectTextRow.laid W) : Optx.OpTab W ∧ Optx.Pow W ∧ Nums.Tab W := by
  obtain ⟨q0, L0, _⟩ : laidMet Tryz.prog Rows.fnExactObjectTextRow.laid W := h
  obtain ⟨q1, L1⟩ := Laid.skip L0
  obtain ⟨q2, L2⟩ := Laid.skip L1
  have tp := Laid.tab (P := Tryz.prog) (k := .u64) (zs := Lib.pow10Tab) (show Tryz.prog.globalNamed "internal/strconv.uint64pow10" = some 3 by kernel_rfl) (show (Tryz.prog.globals[3]?).map (·.type) = some 220 by kernel_rfl) Tryz.underlying220 Tryz.underlying192 (by kernel_rfl) (by kernel_rfl) L2
  obtain ⟨q3, L3⟩ := Laid.skip L2
  obtain ⟨q4, L4⟩ := Laid.skip L3
  have t4 := Laid.nums (P := Tryz.prog) (k := .u8) (zs := [48, 49, 50, 51, 52, 53, 54, 55, 56, 57, 65, 66, 67, 68, 69, 70]) (show Tryz.prog.globalNamed "loop.example/g00460/impl.hexDigits" = some 0 by kernel_rfl) (show (Tryz.prog.globals[0]?).map (·.type) = some 157 by kernel_rfl) Tryz.underlying157 Tryz.underlying5 (by kernel_rfl) (by kernel_rfl) L4
  obtain ⟨q5, L5⟩ := Laid.skip L4
  have t5 := Laid.txts (P := Tryz.prog) (l := [[110, 101, 103], [110, 111, 116], [104, 105, 103, 104], [108, 111, 119], [43], [45], [42], [47], [37], [38], [94], [124], [60, 60], [62, 62]]) (show Tryz.prog.globalNamed "loop.example/g00460/impl.opTexts" = some 1 by kernel_rfl) (show (Tryz.prog.globals[1]?).map (·.type) = some 169 by kernel_rfl) Tryz.underlying169 Tryz.underlying9 (by kernel_rfl) (by kernel_rfl) L5
  obtain ⟨q6, L6⟩ := Laid.skip L5
  obtain ⟨q7, L7⟩ := Laid.skip L6
  exact ⟨fun i hi => (t5 i hi).trans (by match i, hi with | 0, _ => rfl | 1, _ => rfl | 2, _ => rfl | 3, _ => rfl | 4, _ => rfl | 5, _ => rfl | 6, _ => rfl | 7, _ => rfl | 8, _ => rfl | 9, _ => rfl | 10, _ => rfl | 11, _ => rfl | 12, _ => rfl | 13, _ => rfl), tp, fun i hi => t4 i hi⟩
set_option maxRecDepth 100000
theorem after {a b c : World} (h : Below a.heap.size a b) (h2 : Below b.heap.size b c) : Below a.heap.size a c := h.trans (h2.mono h.size)
theorem any_cons {P : Program} {ops : Array Oper} {Q : Exit → Act → World → Prop} {md : Region.Mode} {fuel : Nat} {listed : Array Bool} {a : Act} {w : World} {i : Nat} {o : Oper} {rs : List Nat} (ho : ops[i]? = some o) (hg : o.guard = none)
    (h : ∀ K' : Act → World → Prop, (∀ a w, wpAny P md ops Q fuel (listed.setIfInBounds i true) a w → K' a w) → Oper.wp P o a w K' Q) (hs : AllReady P md ops Q fuel listed a w rs) : AllReady P md ops Q fuel listed a w (i :: rs) :=
  AllReady.cons ho (fun K hK => by simp only [Region.wanted, hg, if_true]; exact h K hK) hs
theorem infoL : (Tryz.prog.info? 26).map (·.size) = some 3 := by kernel_rfl
theorem infoI : (Tryz.prog.info? 33).map (·.size) = some 3 := by kernel_rfl

set_option maxHeartbeats 2000000 in
theorem walk (w : World) (x0 : Objr.X) (ra0_0 : Option Addr) (rc0_0 : Nat) (ra1_0 : Option Addr) (rc1_0 : Nat) (ra2_0 : Option Addr) (rc2_0 : Nat) (w0 : Objr.Has 0 w x0 ra0_0 ra1_0 ra2_0) (hT : Optx.OpTab w ∧ Optx.Pow w ∧ Nums.Tab w) :
    Calls Tryz.prog 3 #[.agg #[.slice ra0_0 x0.f0.length rc0_0, .slice ra1_0 x0.f1.length rc1_0, .slice ra2_0 x0.f2.length rc2_0]] w fun e w' => e = .returned (.bool true) ∧ Below w.heap.size w w' := by
  have HTT : Hid (Otxc.Tabs w) := ⟨hT.1, hT.2.1, hT.2.2⟩
  clear hT
  have H0 : Hid (Objr.Has 0 w x0 ra0_0 ra1_0 ra2_0) := w0
  have cz := fun W (h : Objr.Has 0 W x0 ra0_0 ra1_0 ra2_0) => Objr.szX_any x0 ra0_0 rc0_0 ra1_0 rc1_0 ra2_0 rc2_0 1048576 W h (by decide) (by decide)
  have HI : Hid ((Tryz.prog.info? 26).map (·.size) = some 3 ∧ (Tryz.prog.info? 33).map (·.size) = some 3) := ⟨infoL, infoI⟩
  clear w0
  have HR1 : Hid (∀ W', Below (w.alloc (.cells #[.slice ra0_0 x0.f0.length rc0_0, .slice ra1_0 x0.f1.length rc1_0, .slice ra2_0 x0.f2.length rc2_0] 26)).heap.size (w.alloc (.cells #[.slice ra0_0 x0.f0.length rc0_0, .slice ra1_0 x0.f1.length rc1_0, .slice ra2_0 x0.f2.length rc2_0] 26)) W' → Objr.Has 0 W' x0 ra0_0 ra1_0 ra2_0) := fun W' h => H0.out.below (after ((Below.refl _ _).alloc (Nat.le_refl _) _) h)
  go_enter Tryz.func3, Tryz.ntmps3
  go_upto_region 2 with fail
  have k0 : (w.alloc (.cells #[.slice ra0_0 x0.f0.length rc0_0, .slice ra1_0 x0.f1.length rc1_0, .slice ra2_0 x0.f2.length rc2_0] 26)).heap[w.heap.size]? = some (.cells #[.slice ra0_0 x0.f0.length rc0_0, .slice ra1_0 x0.f1.length rc1_0, .slice ra2_0 x0.f2.length rc2_0] 26) := heap_alloc_last w _
  have HA : Hid (∀ W', Below (w.alloc (.cells #[.slice ra0_0 x0.f0.length rc0_0, .slice ra1_0 x0.f1.length rc1_0, .slice ra2_0 x0.f2.length rc2_0] 26)).heap.size (w.alloc (.cells #[.slice ra0_0 x0.f0.length rc0_0, .slice ra1_0 x0.f1.length rc1_0, .slice ra2_0 x0.f2.length rc2_0] 26)) W' → W'.heap[w.heap.size]? = some (.cells #[.slice ra0_0 x0.f0.length rc0_0, .slice ra1_0 x0.f1.length rc1_0, .slice ra2_0 x0.f2.length rc2_0] 26)) := fun W' h => by
    rw [h.block _ (by simp)]
    exact k0
  refine wp_region_list ?_
  refine wpList_load_row rfl 26 _ rfl w.heap.size rfl _ _ (0, 0) _ k0 Tryz.underlying26 rfl HI.out.1 ?_
  clear k0
  go_wp2_with fail
  refine (cz _ (HR1.out _ (Below.refl _ _))).mono ?_
  rintro e w1 ⟨⟨q, rfl, hq⟩, hb1⟩
  have HB1 : Hid (Below (w.alloc (.cells #[.slice ra0_0 x0.f0.length rc0_0, .slice ra1_0 x0.f1.length rc1_0, .slice ra2_0 x0.f2.length rc2_0] 26)).heap.size (w.alloc (.cells #[.slice ra0_0 x0.f0.length rc0_0, .slice ra1_0 x0.f1.length rc1_0, .slice ra2_0 x0.f2.length rc2_0] 26)) w1) := hb1
  clear cz hb1
  rcases hq with rfl | ⟨q0, q1, hsm⟩
  · go_wp2
    go_ret
    exact ⟨rfl, after ((Below.refl _ _).alloc (Nat.le_refl _) _) HB1.out⟩
  have cs := fun (p0s : Option Addr) (k0s : Nat) (p1s : Option Addr) (k1s : Nat) (p2s : Option Addr) (k2s : Nat) W (h : Objr.Has 0 W x0 p0s p1s p2s) => Otxs.specText_any x0 p0s k0s p1s k1s p2s k2s W h hsm
  have ci := fun (p0s : Option Addr) (k0s : Nat) (p1s : Option Addr) (k1s : Nat) (p2s : Option Addr) (k2s : Nat) W (h : Objr.Has 0 W x0 p0s p1s p2s) (hT : Otxc.Tabs W) => Otxd.implText_any x0 p0s k0s p1s k1s p2s k2s W h hsm hT
  have ct := fun W (h : Objr.Has 0 W x0 ra0_0 ra1_0 ra2_0) => Objr.toX_any x0 ra0_0 rc0_0 ra1_0 rc1_0 ra2_0 rc2_0 W h hsm
  have ce := fun (p0s : Option Addr) (k0s : Nat) (p1s : Option Addr) (k1s : Nat) (p2s : Option Addr) (k2s : Nat) (p0t : Option Addr) (k0t : Nat) (p1t : Option Addr) (k1t : Nat) (p2t : Option Addr) (k2t : Nat) W (h : Objr.Has 0 W x0 p0s p1s p2s) (h' : Objr.Has 0 W x0 p0t p1t p2t) => Objr.eqX_any x0 p0s k0s p1s k1s p2s k2s p0t k0t p1t k1t p2t k2t W h h' hsm
  generalize Otxq.objV x0 = b at cs ci
  clear hsm
  go_upto_region 5 with fail
  refine wp_region_list ?_
  refine wpList_load_row rfl 26 _ rfl w.heap.size rfl _ _ (0, 0) _ (HA.out _ HB1.out) Tryz.underlying26 rfl HI.out.1 ?_
  go_wp2_with fail
  refine Calls.mono (ct _ (HR1.out _ HB1.out)) ?_
  rintro e w2 ⟨⟨p02, k02, p12, k12, p22, k22, rfl, hR2⟩, hb2⟩
  have HB2 : Hid (Below (w.alloc (.cells #[.slice ra0_0 x0.f0.length rc0_0, .slice ra1_0 x0.f1.length rc1_0, .slice ra2_0 x0.f2.length rc2_0] 26)).heap.size (w.alloc (.cells #[.slice ra0_0 x0.f0.length rc0_0, .slice ra1_0 x0.f1.length rc1_0, .slice ra2_0 x0.f2.length rc2_0] 26)) w2) := after HB1.out hb2
  clear hb2 HB1
  go_wp2_with fail
  refine Calls.mono (cs _ _ _ _ _ _ _ (hR2.mono (Nat.zero_le _))) ?_
  rintro e w3 ⟨rfl, hb3⟩
  have HB3 : Hid (Below (w.alloc (.cells #[.slice ra0_0 x0.f0.length rc0_0, .slice ra1_0 x0.f1.length rc1_0, .slice ra2_0 x0.f2.length rc2_0] 26)).heap.size (w.alloc (.cells #[.slice ra0_0 x0.f0.length rc0_0, .slice ra1_0 x0.f1.length rc1_0, .slice ra2_0 x0.f2.length rc2_0] 26)) w3) := after HB2.out hb3
  clear hb3 hR2 HB2 cs
  go_upto_region 6 with fail
  refine wp_region_list ?_
  refine wpList_load_row rfl 26 _ rfl w.heap.size rfl _ _ (0, 0) _ (HA.out _ HB3.out) Tryz.underlying26 rfl HI.out.1 ?_
  go_wp2_with fail
  refine Calls.mono (ct _ (HR1.out _ HB3.out)) ?_
  rintro e w4 ⟨⟨p04, k04, p14, k14, p24, k24, rfl, hR4⟩, hb4⟩
  have HB4 : Hid (Below (w.alloc (.cells #[.slice ra0_0 x0.f0.length rc0_0, .slice ra1_0 x0.f1.length rc1_0, .slice ra2_0 x0.f2.length rc2_0] 26)).heap.size (w.alloc (.cells #[.slice ra0_0 x0.f0.length rc0_0, .slice ra1_0 x0.f1.length rc1_0, .slice ra2_0 x0.f2.length rc2_0] 26)) w4) := after HB3.out hb4
  have HR4 : Hid (Objr.Has 0 w4 x0 p04 p14 p24) := hR4.mono (Nat.zero_le _)
  clear hb4 HB3 hR4
  rename_i hK
  refine hK _ _ ?_
  clear hK
  refine wpList_plain rfl (fun K hK => ?_)
  go_simp
  refine hK _ _ ?_
  clear hK
  refine wpList_store_row rfl 33 _ _ rfl w4.heap.size #[.slice p04 x0.f0.length k04, .slice p14 x0.f1.length k14, .slice p24 x0.f2.length k24] rfl rfl _ #[.slice none 0 0, .slice none 0 0, .slice none 0 0] (heap_alloc_last w4 _) HI.out.2 rfl (by simp [Value.oneCell']) ?_
  rw [World.setRow_alloc_new]
  refine wpList_nil ?_
  go_upto_region 7 with fail
  refine wp_region_list ?_
  refine wpList_load_row rfl 33 _ rfl w4.heap.size rfl _ _ (0, 0) _ (heap_alloc_last w4 _) Tryz.underlying33 rfl HI.out.2 ?_
  go_wp2_with fail
  refine Calls.mono (ci _ _ _ _ _ _ _ (HR4.out.below ((Below.refl _ _).alloc (Nat.le_refl _) _)) (HTT.out.below (after (after ((Below.refl _ _).alloc (Nat.le_refl _) _) HB4.out) ((Below.refl _ _).alloc (Nat.le_refl _) _)))) ?_
  rintro e w5 ⟨rfl, hb5⟩
  have HB5 : Hid (Below (w.alloc (.cells #[.slice ra0_0 x0.f0.length rc0_0, .slice ra1_0 x0.f1.length rc1_0, .slice ra2_0 x0.f2.length rc2_0] 26)).heap.size (w.alloc (.cells #[.slice ra0_0 x0.f0.length rc0_0, .slice ra1_0 x0.f1.length rc1_0, .slice ra2_0 x0.f2.length rc2_0] 26)) w5) := after (HB4.out.alloc HB4.out.size _) hb5
  have HX : Hid (∀ W', Below w5.heap.size w5 W' → W'.heap[w4.heap.size]? = some (.cells #[.slice p04 x0.f0.length k04, .slice p14 x0.f1.length k14, .slice p24 x0.f2.length k24] 33)) := fun W' h => by
    rw [h.block _ (Nat.lt_of_lt_of_le (by simp) hb5.size), hb5.block _ (by simp)]
    exact heap_alloc_last w4 _
  have HR5 : Hid (∀ W', Below w5.heap.size w5 W' → Objr.Has 0 W' x0 p04 p14 p24) := fun W' h => ((HR4.out.below ((Below.refl _ _).alloc (Nat.le_refl _) _)).below hb5).below h
  clear hb5 HR4 HB4 ci
  go_upto_region 10 with fail
  have HD : Hid (Below w5.heap.size w5 w5.drew) := (Below.refl _ _).drew
  have HD5 : Hid (Below (w.alloc (.cells #[.slice ra0_0 x0.f0.length rc0_0, .slice ra1_0 x0.f1.length rc1_0, .slice ra2_0 x0.f2.length rc2_0] 26)).heap.size (w.alloc (.cells #[.slice ra0_0 x0.f0.length rc0_0, .slice ra1_0 x0.f1.length rc1_0, .slice ra2_0 x0.f2.length rc2_0] 26)) w5.drew) := HB5.out.drew
  refine wp_region_any (by kernel_rfl) ?_
  try (change wpAny _ _ _ _ _ _ _ (World.drew _))
  refine wpAny_ready (rs := [0, 1]) (by kernel_rfl) (by simp) ?_
  refine any_cons rfl rfl (fun K hK => ?_) (any_cons rfl rfl (fun K hK => ?_) AllReady.nil)
  · refine wp_load_row 33 _ rfl w4.heap.size rfl _ _ (0, 0) _ (HX.out _ HD.out) Tryz.underlying33 rfl HI.out.2 ?_
    refine hK _ _ ?_
    clear hK
    refine wpAny_ready (rs := [1]) (by kernel_rfl) (by simp) ?_
    refine any_cons rfl rfl (fun K hK => ?_) AllReady.nil
    refine wp_load_row 26 _ rfl w.heap.size rfl _ _ (0, 0) _ (HA.out _ HD5.out) Tryz.underlying26 rfl HI.out.1 ?_
    refine hK _ _ ?_
    clear hK
    refine wpAny_ready (rs := [2]) (by kernel_rfl) (by simp) ?_
    refine any_cons rfl rfl (fun K hK => ?_) AllReady.nil
    go_wp2_with fail
    refine Calls.mono (ct _ (HR1.out _ HD5.out)) ?_
    rintro e w6 ⟨⟨p06, k06, p16, k16, p26, k26, rfl, hR6⟩, hb6⟩
    have HB6 : Hid (Below w5.heap.size w5 w6) := HD.out.trans (hb6.mono HD.out.size)
    clear hb6
    refine hK _ _ ?_
    clear hK
    refine wpAny_ready (rs := [3]) (by kernel_rfl) (by simp) ?_
    refine any_cons rfl rfl (fun K hK => ?_) AllReady.nil
    go_wp2_with fail
    refine Calls.mono (ce _ _ _ _ _ _ _ _ _ _ _ _ _ (HR5.out _ HB6.out) (hR6.mono (Nat.zero_le _))) ?_
    rintro e w7 ⟨rfl, hb7⟩
    have HB7 : Hid (Below w.heap.size w w7) := after (after ((Below.refl _ _).alloc (Nat.le_refl _) _) HB5.out) (after HB6.out hb7)
    clear hb7 hR6 HB6
    refine hK _ _ ?_
    clear hK
    refine wpAny_ready (rs := [4]) (by kernel_rfl) (by simp) ?_
    refine any_cons rfl rfl (fun K hK => ?_) AllReady.nil
    go_simp
    refine hK _ _ ?_
    clear hK
    refine wpAny_done (by kernel_rfl) ?_ _
    go_wp2
    go_ret
    exact ⟨rfl, HB7.out⟩
  · refine wp_load_row 26 _ rfl w.heap.size rfl _ _ (0, 0) _ (HA.out _ HD5.out) Tryz.underlying26 rfl HI.out.1 ?_
    refine hK _ _ ?_
    clear hK
    refine wpAny_ready (rs := [0, 2]) (by kernel_rfl) (by simp) ?_
    refine any_cons rfl rfl (fun K hK => ?_) (any_cons rfl rfl (fun K hK => ?_) AllReady.nil)
    · refine wp_load_row 33 _ rfl w4.heap.size rfl _ _ (0, 0) _ (HX.out _ HD.out) Tryz.underlying33 rfl HI.out.2 ?_
      refine hK _ _ ?_
      clear hK
      refine wpAny_ready (rs := [2]) (by kernel_rfl) (by simp) ?_
      refine any_cons rfl rfl (fun K hK => ?_) AllReady.nil
      go_wp2_with fail
      refine Calls.mono (ct _ (HR1.out _ HD5.out)) ?_
      rintro e w6 ⟨⟨p06, k06, p16, k16, p26, k26, rfl, hR6⟩, hb6⟩
      have HB6 : Hid (Below w5.heap.size w5 w6) := HD.out.trans (hb6.mono HD.out.size)
      clear hb6
      refine hK _ _ ?_
      clear hK
      refine wpAny_ready (rs := [3]) (by kernel_rfl) (by simp) ?_
      refine any_cons rfl rfl (fun K hK => ?_) AllReady.nil
      go_wp2_with fail
      refine Calls.mono (ce _ _ _ _ _ _ _ _ _ _ _ _ _ (HR5.out _ HB6.out) (hR6.mono (Nat.zero_le _))) ?_
      rintro e w7 ⟨rfl, hb7⟩
      have HB7 : Hid (Below w.heap.size w w7) := after (after ((Below.refl _ _).alloc (Nat.le_refl _) _) HB5.out) (after HB6.out hb7)
      clear hb7 hR6 HB6
      refine hK _ _ ?_
      clear hK
      refine wpAny_ready (rs := [4]) (by kernel_rfl) (by simp) ?_
      refine any_cons rfl rfl (fun K hK => ?_) AllReady.nil
      go_simp
      refine hK _ _ ?_
      clear hK
      refine wpAny_done (by kernel_rfl) ?_ _
      go_wp2
      go_ret
      exact ⟨rfl, HB7.out⟩
    · go_wp2_with fail
      refine Calls.mono (ct _ (HR1.out _ HD5.out)) ?_
      rintro e w6 ⟨⟨p06, k06, p16, k16, p26, k26, rfl, hR6⟩, hb6⟩
      have HB6 : Hid (Below w5.heap.size w5 w6) := HD.out.trans (hb6.mono HD.out.size)
      clear hb6
      refine hK _ _ ?_
      clear hK
      refine wpAny_ready (rs := [0]) (by kernel_rfl) (by simp) ?_
      refine any_cons rfl rfl (fun K hK => ?_) AllReady.nil
      refine wp_load_row 33 _ rfl w4.heap.size rfl _ _ (0, 0) _ (HX.out _ HB6.out) Tryz.underlying33 rfl HI.out.2 ?_
      refine hK _ _ ?_
      clear hK
      refine wpAny_ready (rs := [3]) (by kernel_rfl) (by simp) ?_
      refine any_cons rfl rfl (fun K hK => ?_) AllReady.nil
      go_wp2_with fail
      refine Calls.mono (ce _ _ _ _ _ _ _ _ _ _ _ _ _ (HR5.out _ HB6.out) (hR6.mono (Nat.zero_le _))) ?_
      rintro e w7 ⟨rfl, hb7⟩
      have HB7 : Hid (Below w.heap.size w w7) := after (after ((Below.refl _ _).alloc (Nat.le_refl _) _) HB5.out) (after HB6.out hb7)
      clear hb7 hR6 HB6
      refine hK _ _ ?_
      clear hK
      refine wpAny_ready (rs := [4]) (by kernel_rfl) (by simp) ?_
      refine any_cons rfl rfl (fun K hK => ?_) AllReady.nil
      go_simp
      refine hK _ _ ?_
      clear hK
      refine wpAny_done (by kernel_rfl) ?_ _
      go_wp2
      go_ret
      exact ⟨rfl, HB7.out⟩

set_option maxRecDepth 100000 in
theorem contract (H : Type) (enc : TypeId × Value → H) (W : World) (base : Nat) (args : Array Value) (ds gs : List (DataW H)) (before : List MemPlace)
    (hval : ∀ (j : Nat) t v, Tryz.f3.params[j]? = some t → args[j]? = some v → Value.okWide Tryz.prog W .any base t v)
    (hW : DataW.Whole enc Tryz.prog Tryz.f3.params.toList Rows.fnExactObjectTextSpec.vars false W args.toList ds gs before) (hL : laidMetH Tryz.prog Rows.fnExactObjectTextRow.laid W) :
    Calls Tryz.prog 3 args W fun e W' => ∃ v, e = .returned v ∧ Rows.fnExactObjectTextSpec.post enc Tryz.prog Tryz.f3 false true false false W args v W' := by
  have hW' := hW
  obtain ⟨p, q, hA0, hV, hbef, hfz, hnd⟩ := hW
  have hA : DataW.TrodAll enc Tryz.prog W 0 (fun _ => true) true Tryz.f3.params.toList args.toList ds p := hA0
  have hVk : DataW.TrodVars enc Tryz.prog W (fun _ => true) Rows.fnExactObjectTextSpec.vars gs q := hV
  rw [Tryz.params3] at hA hval
  obtain ⟨v0, vs0, d0, ds0, p0, q0, hargs, rfl, rfl, h0, r0⟩ := trodAll_cons hA
  obtain ⟨rfl, rfl, rfl⟩ := trodAll_nil r0
  obtain rfl : args = #[v0] := by cases args; simp_all
  obtain ⟨g1, g2, rfl⟩ : ∃ g1 g2, gs = [g1, g2] := by
    have hl := Laid.vars_len hVk
    match gs, hl with
    | [g1, g2], _ => exact ⟨_, _, rfl⟩
  obtain ⟨cs0, rfl, _⟩ := okWide_struct Tryz.underlying26 (hval 0 26 v0 rfl rfl)
  have kk0 := h0
  have lt0 : ∀ x ∈ p0, x.block < W.heap.size := by obtain ⟨m, hm⟩ := kk0; exact DataW.trod_lt m _ _ _ hm
  obtain ⟨x0, ra0_0, rc0_0, ra1_0, rc1_0, ra2_0, rc2_0, e0, w0⟩ : ∃ (x0 : Objr.X) (ra0_0 : Option Addr) (rc0_0 : Nat) (ra1_0 : Option Addr) (rc1_0 : Nat) (ra2_0 : Option Addr) (rc2_0 : Nat), cs0 = #[.slice ra0_0 x0.f0.length rc0_0, .slice ra1_0 x0.f1.length rc1_0, .slice ra2_0 x0.f2.length rc2_0] ∧ Objr.Has 0 W x0 ra0_0 ra1_0 ra2_0 := by
    obtain ⟨fuel, hf⟩ := h0
    obtain ⟨x, ra0_0, rc0_0, ra1_0, rc1_0, ra2_0, rc2_0, hcs, hh⟩ := Objr.x_of hf
    simp [Value.cells] at hcs
    exact ⟨x, ra0_0, rc0_0, ra1_0, rc1_0, ra2_0, rc2_0, by cases cs0; simp_all, hh⟩
  subst e0
  clear hA0
  refine (walk W x0 ra0_0 rc0_0 ra1_0 rc1_0 ra2_0 rc2_0 w0 (tables hL)).mono fun e W' ⟨he, bel⟩ => ?_
  subst he
  exact ⟨_, rfl, _, _, _, [], _, q, hW', trodAll_mk1 (shut_bool Tryz.underlying4 _), (trodAll_cons_mk (Below.trod laidOut (by kernel_rfl) (of_decide_eq_true (by kernel_rfl)) kk0 bel lt0) trodAll_mk0), Below.trodVars laidOut bel rowed hVk, bel.frame _, fun h => by cases h⟩

/-- A world for the witness: the settled one, the table holding what its initialiser lays. -/
noncomputable def laidWorld (os : Os) : World :=
  { World.holding Tryz.prog os ⟨#[], #[], []⟩ with heap := (fun h => h.modify 4 fun | .cells _ t frozen => .cells #[.int .u8 0, .int .u8 1, .int .u8 28, .int .u8 2, .int .u8 29, .int .u8 14, .int .u8 24, .int .u8 3, .int .u8 30, .int .u8 22, .int .u8 20, .int .u8 15, .int .u8 25, .int .u8 17, .int .u8 4, .int .u8 8, .int .u8 31, .int .u8 27, .int .u8 13, .int .u8 23, .int .u8 21, .int .u8 19, .int .u8 16, .int .u8 7, .int .u8 26, .int .u8 12, .int .u8 18, .int .u8 6, .int .u8 11, .int .u8 5, .int .u8 10, .int .u8 9] t frozen | o => o) <| (fun h => h.modify 5 fun | .cells _ t frozen => .cells #[.int .u8 0, .int .u8 1, .int .u8 56, .int .u8 2, .int .u8 57, .int .u8 49, .int .u8 28, .int .u8 3, .int .u8 61, .int .u8 58, .int .u8 42, .int .u8 50, .int .u8 38, .int .u8 29, .int .u8 17, .int .u8 4, .int .u8 62, .int .u8 47, .int .u8 59, .int .u8 36, .int .u8 45, .int .u8 43, .int .u8 51, .int .u8 22, .int .u8 53, .int .u8 39, .int .u8 33, .int .u8 30, .int .u8 24, .int .u8 18, .int .u8 12, .int .u8 5, .int .u8 63, .int .u8 55, .int .u8 48, .int .u8 27, .int .u8 60, .int .u8 41, .int .u8 37, .int .u8 16, .int .u8 46, .int .u8 35, .int .u8 44, .int .u8 21, .int .u8 52, .int .u8 32, .int .u8 23, .int .u8 11, .int .u8 54, .int .u8 26, .int .u8 40, .int .u8 15, .int .u8 34, .int .u8 20, .int .u8 31, .int .u8 10, .int .u8 25, .int .u8 14, .int .u8 19, .int .u8 9, .int .u8 13, .int .u8 8, .int .u8 7, .int .u8 6] t frozen | o => o) <| (fun h => h.modify 3 fun | .cells _ t frozen => .cells #[.int .u64 1, .int .u64 10, .int .u64 100, .int .u64 1000, .int .u64 10000, .int .u64 100000, .int .u64 1000000, .int .u64 10000000, .int .u64 100000000, .int .u64 1000000000, .int .u64 10000000000, .int .u64 100000000000, .int .u64 1000000000000, .int .u64 10000000000000, .int .u64 100000000000000, .int .u64 1000000000000000, .int .u64 10000000000000000, .int .u64 100000000000000000, .int .u64 1000000000000000000, .int .u64 10000000000000000000] t frozen | o => o) <| (fun h => h.modify 9 fun | .cells _ t frozen => .cells #[.int .u8 128, .int .u8 191, .int .u8 160, .int .u8 191, .int .u8 128, .int .u8 159, .int .u8 144, .int .u8 191, .int .u8 128, .int .u8 143, .int .u8 0, .int .u8 0, .int .u8 0, .int .u8 0, .int .u8 0, .int .u8 0, .int .u8 0, .int .u8 0, .int .u8 0, .int .u8 0, .int .u8 0, .int .u8 0, .int .u8 0, .int .u8 0, .int .u8 0, .int .u8 0, .int .u8 0, .int .u8 0, .int .u8 0, .int .u8 0, .int .u8 0, .int .u8 0] t frozen | o => o) <| (fun h => h.modify 0 fun | .cells _ t frozen => .cells #[.int .u8 48, .int .u8 49, .int .u8 50, .int .u8 51, .int .u8 52, .int .u8 53, .int .u8 54, .int .u8 55, .int .u8 56, .int .u8 57, .int .u8 65, .int .u8 66, .int .u8 67, .int .u8 68, .int .u8 69, .int .u8 70] t frozen | o => o) <| (fun h => h.modify 1 fun | .cells _ t frozen => .cells #[.string ⟨#[110, 101, 103]⟩, .string ⟨#[110, 111, 116]⟩, .string ⟨#[104, 105, 103, 104]⟩, .string ⟨#[108, 111, 119]⟩, .string ⟨#[43]⟩, .string ⟨#[45]⟩, .string ⟨#[42]⟩, .string ⟨#[47]⟩, .string ⟨#[37]⟩, .string ⟨#[38]⟩, .string ⟨#[94]⟩, .string ⟨#[124]⟩, .string ⟨#[60, 60]⟩, .string ⟨#[62, 62]⟩] t frozen | o => o) <| (fun h => h.modify 8 fun | .cells _ t frozen => .cells ((Go.Pinned.utf8FirstZ).map fun n => Value.int .u8 (n : Nat)).toArray t frozen | o => o) <| (World.holding Tryz.prog os ⟨#[], #[], []⟩).heap }
theorem laid_met (os : Os) : laidMet Tryz.prog Rows.fnExactObjectTextRow.laid ((laidWorld os).forCall (fun _ _ => 0) ⟨#[], #[.agg #[.slice none 0 0, .slice none 0 0, .slice none 0 0]], []⟩).memory :=
  laidMet_of_run' 8 (by kernel_rfl) (by kernel_rfl)
theorem reads (os : Os) {H : Type} (enc : TypeId × Value → H) : ∃ places, DataW.whole enc Tryz.prog ((laidWorld os).forCall (fun _ _ => 0) ⟨#[], #[.agg #[.slice none 0 0, .slice none 0 0, .slice none 0 0]], []⟩).memory Tryz.f3.params.toList Rows.fnExactObjectTextSpec.vars false [.agg #[.slice none 0 0, .slice none 0 0, .slice none 0 0]] 8 = some ([.agg [.nil, .nil, .nil]], [.agg [.lit (.int .u8 48), .lit (.int .u8 49), .lit (.int .u8 50), .lit (.int .u8 51), .lit (.int .u8 52), .lit (.int .u8 53), .lit (.int .u8 54), .lit (.int .u8 55), .lit (.int .u8 56), .lit (.int .u8 57), .lit (.int .u8 65), .lit (.int .u8 66), .lit (.int .u8 67), .lit (.int .u8 68), .lit (.int .u8 69), .lit (.int .u8 70)], .agg [.lit (.string [110, 101, 103]), .lit (.string [110, 111, 116]), .lit (.string [104, 105, 103, 104]), .lit (.string [108, 111, 119]), .lit (.string [43]), .lit (.string [45]), .lit (.string [42]), .lit (.string [47]), .lit (.string [37]), .lit (.string [38]), .lit (.string [94]), .lit (.string [124]), .lit (.string [60, 60]), .lit (.string [62, 62])]], places) :=
  ⟨MemPlace.row ⟨0, 0, none⟩ 16 ++ MemPlace.row ⟨1, 0, none⟩ 14, by kernel_rfl⟩

set_option maxRecDepth 100000 in
theorem lifted (os : Os) (started : os.Started) (H : Type) (enc : TypeId × Value → H) (F : Stop.Interp) :
    ReturnsInHanded {} Tryz.checked os 3 .any ((OpenSpec.ofChange Rows.fnExactObjectTextSpec).preRow enc Tryz.prog Tryz.f3 Rows.fnExactObjectTextRow.domain false Rows.fnExactObjectTextRow.laid) (((OpenSpec.ofChange Rows.fnExactObjectTextSpec).at F).post enc Tryz.prog Tryz.f3 false true false false) := by
  obtain ⟨places, hx⟩ := reads os enc
  refine returnsInHanded_of_row (C := Tryz.checked) (s := OpenSpec.ofChange Rows.fnExactObjectTextSpec) own started (by kernel_rfl) Tryz.func3
    (witness_row_at (enc := enc) (C := Tryz.checked) false (laidWorld os) #[.agg #[.slice none 0 0, .slice none 0 0, .slice none 0 0]] rfl (by kernel_rfl) (by kernel_rfl) (by kernel_rfl)
      (OpenSpec.preRow_of_cond 8 hx (by kernel_rfl) (fun k hk => by cases hk) (by kernel_rfl) (laid_met os))) ?_
  intro W base args ds gs before hval hW _ _ _ hL _ _
  exact contract H enc W base args ds gs before hval hW hL

theorem said : Rows.FnExactObjectTextSaid :=
  OpenClaim.holds_of_cond 3 Tryz.f3 rfl rfl rfl rfl rfl rfl rfl ⟨rfl, rfl, rfl, rfl, rfl⟩ rfl rfl rfl rfl rfl (by kernel_rfl) Tryz.func3 (by kernel_rfl)
    (of_decide_eq_true (by kernel_rfl)) (by unfold Func.isWrapper; first | (rw [if_pos (by decide +kernel)]; kernel_rfl) | (rw [if_neg (by decide +kernel)]; exact ⟨rfl, rfl⟩))
    (fun os started H enc _ F => by rw [OpenClaim.pre_eq_preRow]; exact lifted os started H enc F)

theorem plain (f : FuncId) (fn : Func) (hf : Tryz.pinned.checked.prog.funcNamed "loop.example/g00460/laws.FnExactObjectText" = some f) (hfn : Tryz.pinned.checked.prog.funcs[f]? = some fn) :
    true = Tryz.pinned.checked.prog.looks [] ∧ ∀ (j : Nat) t, fn.params[j]? = some t → Tryz.pinned.checked.prog.wantsStandIn t = false := by
  obtain rfl : f = 3 := Option.some.inj ((show Tryz.prog.funcNamed "loop.example/g00460/laws.FnExactObjectText" = some 3 by kernel_rfl).symm.trans hf) |>.symm
  obtain rfl : fn = Tryz.f3 := (Option.some.inj (Tryz.func3.symm.trans hfn)).symm
  refine ⟨by kernel_rfl, fun j t ht => ?_⟩
  rw [Tryz.params3] at ht
  have h : t = 26 := by simpa using Array.mem_of_getElem? ht
  subst h
  exact (show Tryz.prog.wantsStandIn 26 = false by kernel_rfl)

theorem card : Rows.FnExactObjectTextCardSaid :=
  Claim7.holds_tied_plain_at .later [] _ _ _ _ said (fun _ h => by cases h) (by kernel_rfl) (fun _ h => by cases h) fnExactObjectText_row_tie rfl ⟨rfl, rfl⟩ (by kernel_rfl) rfl plain (by kernel_rfl)
end Go.Proofs.YtplkglgaobdpiaaGreatDoor.fnExactObjectText
namespace Go.Proofs.YtplkglgaobdpiaaGreatDoor
theorem fnExactObjectText_holds : Rows.FnExactObjectTextCardSaid := fnExactObjectText.card
end Go.Proofs.YtplkglgaobdpiaaGreatDoor
