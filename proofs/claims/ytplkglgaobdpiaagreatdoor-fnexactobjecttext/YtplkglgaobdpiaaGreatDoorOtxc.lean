/-
  A contract of ours for impl.tellSection.
-/
import Derived.Test.YtplkglgaobdpiaaGreatDoorOtxp
import Derived.Test.YtplkglgaobdpiaaGreatDoorSta0
namespace Go.Proofs.YtplkglgaobdpiaaGreatDoor.Otxc
open Go.ChangeShapes Go.WideShapes Go.ChangeAt Go.RowKit Go.Deep
open Optx (decW Pow OpTab)
open Extx (exprT)
open Lib (byteCells strCells)
open Bld (Holds)
open Otxa Otxb Otxt Otxp Seco
open Sta0 (Rg rg)
set_option linter.unusedVariables false
set_option linter.unusedSimpArgs false
set_option maxRecDepth 20000

/-- The tables that the text wants. -/
structure Tabs (w : World) : Prop where
  op : OpTab w
  pow : Pow w
  hex : Nums.Tab w
theorem Tabs.below {w w' : World} (h : Tabs w) (hb : Below w.heap.size w w') : Tabs w' := ⟨h.op.below hb, h.pow.below hb, fun i hi => (hb.cell (p := ⟨_, _, none⟩) (Hex.size_pos h.hex)).trans (h.hex i hi)⟩
theorem row_lit {w : World} {vs : Array Value} {T : TypeId} {ws : List ByteArray} (h : vs.toList = ws.map Value.string) : ∀ (j : Nat) x, ws[j]? = some x → (w.alloc (.cells vs T)).cell? ⟨w.heap.size, j, none⟩ = some (.string x) := fun j x hj => by
  rw [World.cell?_alloc_new, ← Array.getElem?_toList, h, List.getElem?_map, hj]; rfl
theorem flat_snoc {α : Type} (f : α → List UInt8) (l : List UInt8) (L : List α) (k : Nat) (h : k < L.length) : (l ++ (L.take k).flatMap f) ++ f L[k] = l ++ (L.take (k + 1)).flatMap f := by
  rw [List.take_succ_eq_append_getElem h, List.flatMap_append]
  simp
theorem flat_all {α : Type} (f : α → List UInt8) (l : List UInt8) (L : List α) : l ++ (L.take L.length).flatMap f = l ++ L.flatMap f := by rw [List.take_length]
set_option maxHeartbeats 4000000 in
theorem tellSec_any (w0 : World) (B b : Nat) (l : List UInt8) (x : Secr.X) (a5 : Option Addr) (c5 sb so : Nat) (w : World) (kB : AtC w0 sb so x a5 c5) (hh : Secr.Has 0 w0 x a5) (hsb : SecB x) (hT : Tabs w0) (hw : Below w0.heap.size w0 w) (hB0 : w0.heap.size ≤ B) (h : Holds B b (byteCells l) w) (hBw : B ≤ w.heap.size) (hlen : l.length ≤ 50000000) :
    Calls Tryz.prog 31 #[.pointer (some ⟨b, 0, none⟩), .pointer (some ⟨sb, so, none⟩)] w fun e w' => e = .returned (.tuple #[]) ∧ Holds B b (byteCells (l ++ secT x)) w' ∧ Below B w w' := by
  have HT : Hid (Tabs w0) := hT
  have HK : Hid (AtC w0 sb so x a5 c5) := kB
  have HR : Hid (Patr.Row 0 w0 a5 x.f5) := hh.1
  have HS : Hid (SecB x) := hsb
  have HW : Hid (Below w0.heap.size w0 w) := hw
  have HB0 : Hid (w0.heap.size ≤ B) := hB0
  have HH : Hid (Holds B b (byteCells l) w) := h
  have HBw : Hid (B ≤ w.heap.size) := hBw
  clear hT kB hh hsb hw hB0 h hBw
  have kw := HK.out.below HW.out
  have r0 := cell_regrown kw.c0
  have r1 := cell_regrown kw.c1
  have r2 := cell_regrown kw.c2
  have r3 := cell_regrown kw.c3
  have r4 := cell_regrown kw.c4
  have k1 : Rg 33 #[.int .i64 x.f1] w (.string (decW x.f1)) := rg fun W hb => decimal_any x.f1 W (HT.out.below (after HW.out hb)).pow (by have := HS.out.k0; omega) (by have := HS.out.k1; omega)
  have k2 : Rg 33 #[.int .i64 x.f2] w (.string (decW x.f2)) := rg fun W hb => decimal_any x.f2 W (HT.out.below (after HW.out hb)).pow (by have := HS.out.b0; omega) (by have := HS.out.b1; omega)
  have k3 : Rg 33 #[.int .i64 x.f3] w (.string (decW x.f3)) := rg fun W hb => decimal_any x.f3 W (HT.out.below (after HW.out hb)).pow (by have := HS.out.a0; omega) (by have := HS.out.a1; omega)
  have k4 : Rg 77 #[.string x.f4] w (.string (hexA x.f4)) := rg fun W hb => digits_any x.f4 W (HT.out.below (after HW.out hb)).hex (by have := HS.out.dt; omega)
  have hhl := head_len HS.out
  have HHD : Hid (headT x = line [wSection, x.f0, decW x.f1, decW x.f2, decW x.f3, hexA x.f4]) := (show _ = _ from rfl)
  clear kw
  go_enter Tryz.func31, Tryz.ntmps31
  go_upto_region 0 with fail
  refine Qmov.tail_move 0 25 (by kernel_rfl) (by kernel_rfl) (fun _ _ _ _ _ h => h) ?_
  simp only [List.take_succ_cons, List.take_zero, List.drop_succ_cons, List.drop_zero]
  generalize decW x.f1 = D1 at k1 HHD
  generalize decW x.f2 = D2 at k2 HHD
  generalize decW x.f3 = D3 at k3 HHD
  generalize hexA x.f4 = D4 at k4 HHD
  repeat (go_big_quiet_step (first | fail | with_reducible exact k1 _ _ | with_reducible exact k2 _ _ | with_reducible exact k3 _ _ | with_reducible exact k4 _ _))
  refine wpQuiet_nil ?_
  intro _ hw'
  obtain ⟨⟨dq, osq⟩, hw''⟩ := hw'
  subst hw''
  have hbr := below_regrown w dq osq
  generalize Go.Sort.grow (redrawn w dq) osq = W1 at hbr ⊢
  have HH1 : Hid (Holds B b (byteCells l) W1) := Bld.holds_below HH.out hbr
  have V1 : Hid (Below B w W1) := hbr.mono HBw.out
  have HB1 : Hid (B ≤ W1.heap.size) := Nat.le_trans HBw.out hbr.size
  clear hbr r0 r1 r2 r3 r4 k1 k2 k3 k4 HH
  go_wp2_with fail
  refine (tell_any B b W1.heap.size 6 l [wSection, x.f0, D1, D2, D3, D4] _ (Bld.holds_below HH1.out ((Below.refl _ _).alloc (Nat.le_refl _) _)) (by have := HB1.out; simp; omega) (row_lit rfl) (by simp) (Nat.le_refl _) (by simp) (by rw [← HHD.out]; omega)).mono ?_
  rintro e w2 ⟨rfl, h2, b2⟩
  rw [← HHD.out] at h2
  have HH2 : Hid (Holds B b (byteCells ((l ++ headT x) ++ (x.f5.take 0).flatMap patT)) w2) := (show Holds _ _ _ _ from by rw [List.take_zero, List.flatMap_nil, List.append_nil]; exact h2)
  have hb2 : Below B W1 w2 := (((Below.refl _ _).alloc (Nat.le_refl _) _).mono HB1.out).trans b2
  have V2 : Hid (Below B w w2) := V1.out.trans hb2
  have HB2 : Hid (B ≤ w2.heap.size) := Nat.le_trans HB1.out hb2.size
  have HW2 : Hid (Below w0.heap.size w0 w2) := HW.out.trans (V2.out.mono HB0.out)
  have HBW : Hid (w0.heap.size ≤ w.heap.size) := Nat.le_trans HB0.out HBw.out
  have cp5 := (HK.out.below HW2.out).c5
  have HPN : Hid (x.f5.length ≤ 256) := HS.out.pn
  have hpl := pats_len HS.out
  have HSE : Hid ((l ++ headT x) ++ (x.f5.take x.f5.length).flatMap patT = l ++ secT x) := (show _ = _ from by rw [List.take_length]; unfold secT; rw [List.append_assoc])
  obtain ⟨l2, hl2⟩ : ∃ z, z = l ++ headT x := ⟨_, rfl⟩
  rw [← hl2] at HH2 HSE
  have hl2n : l2.length ≤ 50000700 := by rw [hl2, List.length_append]; omega
  clear h2 b2 hb2 V1 HB1 HH1 HHD hhl hl2 HBw
  obtain ⟨N, hN⟩ : ∃ n, n = x.f5.length := ⟨_, rfl⟩
  rw [← hN] at cp5
  have hN256 : N ≤ 256 := by rw [hN]; exact HPN.out
  have HN : Hid (N = x.f5.length) := hN
  clear hN
  go_wp2_with fail
  go_loopw [38] (fun i wr => ∃ k : Nat, k ≤ N ∧ i = .int .i64 (k : Int) ∧ Hid (Holds B b (byteCells (l2 ++ (x.f5.take k).flatMap patT)) wr) ∧ Hid (Below B w wr) ∧ Hid (Below w0.heap.size w0 wr) ∧ Hid (B ≤ wr.heap.size)) (fun i _ => N - (intOf i).toNat)
  case atStart => exact ⟨0, Nat.zero_le _, rfl, HH2.out, V2.out, HW2.out, HB2.out⟩
  case round =>
    obtain ⟨k, hk, rfl, HHk, Vk, HWk, HBk⟩ := hrel
    clear HH2 V2 HW2 HB2
    by_cases hlt : k < N
    · have hkx : k < x.f5.length := by rw [← HN.out]; exact hlt
      rcases HR.out with hnil | ⟨pb, po, rfl, _, hpb, hat⟩
      · exfalso; rw [hnil] at hkx; exact absurd hkx (by simp)
      obtain ⟨a2, c2, d0, d1, d2, hrow, hml⟩ := hat k hkx
      obtain ⟨f0l, f0h, f1l, f1h, f2n⟩ := HS.out.pb k hkx
      have HFS : Hid ((l2 ++ (x.f5.take k).flatMap patT) ++ patT x.f5[k] = l2 ++ (x.f5.take (k + 1)).flatMap patT) := flat_snoc patT l2 x.f5 k hkx
      have HPT : Hid (patT x.f5[k] = line [wPatch, decW x.f5[k].f0, decW x.f5[k].f1, exprT x.f5[k].f2]) := (show _ = _ from rfl)
      have hptl := pat_len f0l f0h f1l f1h
      have hpk := hpl k
      have e0 := (HWk.out.cell (p := ⟨pb, _, none⟩) hpb).trans d0
      have e1 := (HWk.out.cell (p := ⟨pb, _, none⟩) hpb).trans d1
      have e2 := (HWk.out.cell (p := ⟨pb, _, none⟩) hpb).trans d2
      clear hat d0 d1 d2
      generalize x.f5[k] = P at *
      obtain ⟨u, hu⟩ : ∃ u, u = wr.alloc (.cells #[.int .i64 P.f0, .int .i64 P.f1, .slice a2 P.f2.length c2] 94) := ⟨_, rfl⟩
      obtain ⟨bp, hbp⟩ : ∃ n, n = wr.heap.size := ⟨_, rfl⟩
      have q0 : u.cell? ⟨bp, 0, none⟩ = some (.int .i64 P.f0) := by rw [hu, hbp]; exact World.cell?_alloc_new _ _ _ _
      have q1 : u.cell? ⟨bp, 1, none⟩ = some (.int .i64 P.f1) := by rw [hu, hbp]; exact World.cell?_alloc_new _ _ _ _
      have q2 : u.cell? ⟨bp, 2, none⟩ = some (.slice a2 P.f2.length c2) := by rw [hu, hbp]; exact World.cell?_alloc_new _ _ _ _
      have hub : Below wr.heap.size wr u := by rw [hu]; exact (Below.refl _ _).alloc (Nat.le_refl _) _
      have HWu : Hid (Below w0.heap.size w0 u) := after HWk.out hub
      have k1 : Rg 33 #[.int .i64 P.f0] u (.string (decW P.f0)) := rg fun W hb => decimal_any P.f0 W (HT.out.below (after HWu.out hb)).pow (by omega) (by omega)
      have k2 : Rg 33 #[.int .i64 P.f1] u (.string (decW P.f1)) := rg fun W hb => decimal_any P.f1 W (HT.out.below (after HWu.out hb)).pow (by omega) (by omega)
      have k3 : Rg 35 #[.slice a2 P.f2.length c2] u (.string (exprT P.f2)) := rg fun W hb => Extx.implText_any a2 c2 P.f2 W (hrow.below (after HWu.out hb)).1 (by omega) (HT.out.below (after HWu.out hb)).op (HT.out.below (after HWu.out hb)).pow
      have r0 := cell_regrown q0
      have r1 := cell_regrown q1
      have r2 := cell_regrown q2
      have HHu : Hid (Holds B b (byteCells (l2 ++ (x.f5.take k).flatMap patT)) u) := Bld.holds_below HHk.out hub
      have Vu : Hid (Below B w u) := Vk.out.trans (hub.mono HBk.out)
      have HBu : Hid (B ≤ u.heap.size) := Nat.le_trans HBk.out hub.size
      have dl : decide ((k : Int) < (N : Int)) = true := decide_eq_true (by omega)
      have dk : IntKind.i64.wrap ((k : Int) + 1) = ((k + 1 : Nat) : Int) := by rw [IntKind.wrap_i64]; omega
      have z0 : (0 : Int) ≤ (k : Int) := by omega
      have z1 : (k : Int) < (N : Int) := by omega
      clear hub hrow
      go_upto_region 4 with fail
      rw [← hu, ← hbp]
      clear hu hbp e0 e1 e2 q0 q1 q2 HHk Vk HWk HBk
      refine Qmov.tail_move 0 10 (by kernel_rfl) (by kernel_rfl) (fun _ _ _ _ _ h => h) ?_
      simp only [List.take_succ_cons, List.take_zero, List.drop_succ_cons, List.drop_zero]
      generalize decW P.f0 = D1 at k1 HPT
      generalize decW P.f1 = D2 at k2 HPT
      generalize exprT P.f2 = D3 at k3 HPT
      repeat (go_big_quiet_step (first | fail | with_reducible exact k1 _ _ | with_reducible exact k2 _ _ | with_reducible exact k3 _ _))
      refine wpQuiet_nil ?_
      intro _ hw'
      obtain ⟨⟨dq, osq⟩, hw''⟩ := hw'
      subst hw''
      have hbr := below_regrown u dq osq
      generalize Go.Sort.grow (redrawn u dq) osq = W3 at hbr ⊢
      have HH3 : Hid (Holds B b (byteCells (l2 ++ (x.f5.take k).flatMap patT)) W3) := Bld.holds_below HHu.out hbr
      have V3 : Hid (Below B w W3) := Vu.out.trans (hbr.mono HBu.out)
      have HB3 : Hid (B ≤ W3.heap.size) := Nat.le_trans HBu.out hbr.size
      clear hbr r0 r1 r2 k1 k2 k3 HHu Vu HBu HWu
      go_wp2_with fail
      refine (tell_any B b W3.heap.size 4 _ [wPatch, D1, D2, D3] _ (Bld.holds_below HH3.out ((Below.refl _ _).alloc (Nat.le_refl _) _)) (by have := HB3.out; simp; omega) (row_lit rfl) (by simp) (Nat.le_refl _) (by simp) (by rw [← HPT.out, List.length_append]; omega)).mono ?_
      rintro e w4 ⟨rfl, h4, b4⟩
      rw [← HPT.out, HFS.out] at h4
      have HH4 : Hid (Holds B b (byteCells (l2 ++ (x.f5.take (k + 1)).flatMap patT)) w4) := h4
      have hb4 : Below B W3 w4 := (((Below.refl _ _).alloc (Nat.le_refl _) _).mono HB3.out).trans b4
      have V4 : Hid (Below B w w4) := V3.out.trans hb4
      have HB4 : Hid (B ≤ w4.heap.size) := Nat.le_trans HB3.out hb4.size
      have HW4 : Hid (Below w0.heap.size w0 w4) := HW.out.trans (V4.out.mono HB0.out)
      clear h4 b4 hb4 V3 HB3 HH3
      go_wp2
      go_roundw
      case rel => exact ⟨k + 1, by omega, by go_num, HH4.out, V4.out, HW4.out, HB4.out⟩
      case measure => simp [intOf]; omega
    · have e : k = N := by omega
      subst e
      have dl : decide ((k : Int) < (k : Int)) = false := decide_eq_false (by omega)
      have HF : Hid (Holds B b (byteCells (l ++ secT x)) wr) := (show Holds _ _ _ _ from by rw [← HSE.out, ← HN.out]; exact HHk.out)
      clear HHk
      go_wp2
      first | go_end0 | refine bodyPost_ret (results_none rfl _ _ _) rfl ?_
      exact ⟨rfl, HF.out, Vk.out⟩
end Go.Proofs.YtplkglgaobdpiaaGreatDoor.Otxc
