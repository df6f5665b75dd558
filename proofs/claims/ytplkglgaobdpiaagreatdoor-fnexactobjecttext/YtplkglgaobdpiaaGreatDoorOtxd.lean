/-
  A contract of ours for impl.ObjectText.
-/
import Derived.Test.YtplkglgaobdpiaaGreatDoorOtxc
import Derived.Test.YtplkglgaobdpiaaGreatDoorOtxq
namespace Go.Proofs.YtplkglgaobdpiaaGreatDoor.Otxd
open Go.ChangeShapes Go.WideShapes Go.ChangeAt Go.RowKit Go.Deep
open Optx (decW Pow OpTab)
open Extx (exprT)
open Lib (byteCells strCells)
open Bld (Holds)
open Otxa Otxb Otxt Otxp Otxq Otxc Seco Obje
open Sta0 (Rg rg)
set_option linter.unusedVariables false
set_option linter.unusedSimpArgs false
set_option maxRecDepth 20000

/-- What stands while the text is told. -/
structure Inv (w : World) (B : Nat) (cs : Array Value) (l : List UInt8) (wr : World) : Prop where
  hold : Holds B B (byteCells l) wr
  bel : Below w.heap.size w wr
  box : wr.heap[w.heap.size]? = some (.cells cs 33)
  le : B ≤ wr.heap.size
theorem Inv.step {w wr w' : World} {B : Nat} {cs : Array Value} {l l' : List UInt8} (h : Inv w B cs l wr) (hw : w.heap.size < B) (hb : Below B wr w') (hh : Holds B B (byteCells l') w') : Inv w B cs l' w' :=
  ⟨hh, h.bel.trans (hb.mono (Nat.le_of_lt hw)), (hb.block _ hw).trans h.box, Nat.le_trans h.le hb.size⟩
theorem Inv.below {w wr w' : World} {B : Nat} {cs : Array Value} {l : List UInt8} (h : Inv w B cs l wr) (hw : w.heap.size < B) (hb : Below wr.heap.size wr w') : Inv w B cs l w' := h.step hw (hb.mono h.le) (Bld.holds_below h.hold hb)
set_option maxHeartbeats 4000000 in
theorem implText_any (x : Objr.X) (a0 : Option Addr) (c0 : Nat) (a1 : Option Addr) (c1 : Nat) (a2 : Option Addr) (c2 : Nat) (w : World) (hh : Objr.Has 0 w x a0 a1 a2) (hsm : Objr.SmallX x) (hT : Tabs w) :
    Calls Tryz.prog 9 #[.agg (ocells x a0 c0 a1 c1 a2 c2)] w fun e w' => e = .returned (.string (objV x)) ∧ Below w.heap.size w w' := by
  have HT : Hid (Tabs w) := hT
  obtain ⟨u0, hu0⟩ : ∃ u, u = w.alloc (.cells (ocells x a0 c0 a1 c1 a2 c2) 33) := ⟨_, rfl⟩
  have hb0 : Below w.heap.size w u0 := by rw [hu0]; exact (Below.refl _ _).alloc (Nat.le_refl _) _
  have co := fun W (hb : Below w.heap.size w W) => implObj_any x a0 c0 a1 c1 a2 c2 W (hh.below hb) hsm
  have HB0 : Hid (Below w.heap.size w u0) := hb0
  have hbx : u0.heap[w.heap.size]? = some (.cells (ocells x a0 c0 a1 c1 a2 c2) 33) := by rw [hu0]; exact (MapKept.heap_alloc w _).1
  have HBX : Hid (u0.heap[w.heap.size]? = some (.cells (ocells x a0 c0 a1 c1 a2 c2) 33)) := hbx
  have HSZ : Hid (w.heap.size < u0.heap.size) := by show _ < _; rw [hu0]; simp
  have HHas : Hid (Objr.Has 0 w x a0 a1 a2) := hh
  clear hT hb0 hbx hh hsm
  cases hok : objB x
  · rw [objV_no hok]
    rw [hok] at co
    clear hok
    go_enter Tryz.func9, Tryz.ntmps9
    go_upto_region 1 with fail
    rw [← hu0]
    clear hu0
    have l0 := cel HBX.out 0 (.slice a0 x.f0.length c0) rfl
    have l1 := cel HBX.out 1 (.slice a1 x.f1.length c1) rfl
    have l2 := cel HBX.out 2 (.slice a2 x.f2.length c2) rfl
    go_wp2_with fail
    refine (co _ HB0.out).mono ?_
    rintro e w1 ⟨rfl, b1⟩
    have B1 : Hid (Below w.heap.size w w1) := after HB0.out b1
    clear b1
    go_wp2
    go_ret
    exact ⟨rfl, B1.out⟩
  rw [objV_yes hok]
  have HR : Hid (Right x) := right_of hok
  rw [hok] at co
  clear hok
  go_enter Tryz.func9, Tryz.ntmps9
  go_upto_region 1 with fail
  rw [← hu0]
  clear hu0
  have l0 := cel HBX.out 0 (.slice a0 x.f0.length c0) rfl
  have l1 := cel HBX.out 1 (.slice a1 x.f1.length c1) rfl
  have l2 := cel HBX.out 2 (.slice a2 x.f2.length c2) rfl
  go_wp2_with fail
  refine (co _ HB0.out).mono ?_
  rintro e wb ⟨rfl, b1⟩
  have HBb : Hid (Below w.heap.size w wb) := after HB0.out b1
  have HXb : Hid (wb.heap[w.heap.size]? = some (.cells (ocells x a0 c0 a1 c1 a2 c2) 33)) := (b1.block _ HSZ.out).trans HBX.out
  have HSb : Hid (w.heap.size < wb.heap.size) := Nat.lt_of_lt_of_le HSZ.out b1.size
  clear b1 co l0 l1 l2 HB0 HBX HSZ
  go_upto_region 4 with fail
  obtain ⟨u1, hu1⟩ : ∃ u, u = wb.alloc (.cells #[.pointer none, .slice none 0 0] 59) := ⟨_, rfl⟩
  obtain ⟨B, hB⟩ : ∃ n, n = wb.heap.size := ⟨_, rfl⟩
  have HH : Hid (Holds B B (byteCells ([] ++ (x.f0.take 0).flatMap secT)) u1) := (show Holds _ _ _ _ from by rw [hu1, hB]; exact Bld.holds_new wb)
  have hbu : Below wb.heap.size wb u1 := by rw [hu1]; exact (Below.refl _ _).alloc (Nat.le_refl _) _
  have HB1 : Hid (Below w.heap.size w u1) := after HBb.out hbu
  have HX1 : Hid (u1.heap[w.heap.size]? = some (.cells (ocells x a0 c0 a1 c1 a2 c2) 33)) := (hbu.block _ HSb.out).trans HXb.out
  have HwB : Hid (w.heap.size < B) := by show _ < _; rw [hB]; exact HSb.out
  have HBu : Hid (B ≤ u1.heap.size) := by show _ ≤ _; rw [hB]; exact hbu.size
  rw [← hu1, ← hB]
  clear hu1 hbu hB HBb HXb HSb
  have HI : Hid (Inv w B (ocells x a0 c0 a1 c1 a2 c2) ([] ++ (x.f0.take 0).flatMap secT) u1) := ⟨HH.out, HB1.out, HX1.out, HBu.out⟩
  clear HH HB1 HX1 HBu
  have hn0 := HR.out.l0
  have hn1 := HR.out.l1
  have hn2 := HR.out.l2
  have HL0 : Hid (∀ k, ((x.f0.take k).flatMap secT).length ≤ 180000 * 12) := take_flat secT 180000 12 x.f0 hn0 (fun i hi => sec_len (sec_b (HR.out.sec i hi)))
  have HL1 : Hid (∀ k, ((x.f1.take k).flatMap symT).length ≤ 100 * 200) := take_flat symT 100 200 x.f1 hn1 (fun i hi => symT_le (sym_b hn0 HR.out.sec (HR.out.sym i hi).sym))
  have HL2 : Hid (∀ k, ((x.f2.take k).flatMap assT).length ≤ 700 * 12) := take_flat assT 700 12 x.f2 hn2 (fun i hi => ass_len)
  obtain ⟨n0, hm0⟩ : ∃ n, n = x.f0.length := ⟨_, rfl⟩
  obtain ⟨n1, hm1⟩ : ∃ n, n = x.f1.length := ⟨_, rfl⟩
  obtain ⟨n2, hm2⟩ : ∃ n, n = x.f2.length := ⟨_, rfl⟩
  have HM : Hid (n0 = x.f0.length ∧ n1 = x.f1.length ∧ n2 = x.f2.length) := ⟨hm0, hm1, hm2⟩
  rw [← hm0] at hn0
  rw [← hm1] at hn1
  rw [← hm2] at hn2
  have l0 : u1.cell? ⟨w.heap.size, 0, none⟩ = some (.slice a0 n0 c0) := by rw [hm0]; exact cel HI.out.box 0 _ rfl
  clear hm0 hm1 hm2
  go_wp2_with fail
  go_loopw [15] (fun i wr => ∃ k : Nat, k ≤ n0 ∧ i = .int .i64 (k : Int) ∧ Hid (Inv w B (ocells x a0 c0 a1 c1 a2 c2) ([] ++ (x.f0.take k).flatMap secT) wr)) (fun i _ => n0 - (intOf i).toNat)
  case atStart => exact ⟨0, Nat.zero_le _, rfl, HI.out⟩
  case round =>
    obtain ⟨k, hk, rfl, HIk⟩ := hrel
    clear HI l0
    by_cases hlt : k < n0
    · have hkx : k < x.f0.length := by rw [← HM.out.1]; exact hlt
      rcases HHas.out.1 with hnil | ⟨sb, so, rfl, _, hsb, hat⟩
      · exfalso; rw [hnil] at hkx; exact absurd hkx (by simp)
      obtain ⟨a5, c5, kA, kH⟩ := sec_at (hat k hkx) hsb
      have hlk := HL0.out k
      have ct := tellSec_any w B B ([] ++ (x.f0.take k).flatMap secT) x.f0[k] a5 c5 sb (so + k * 6) wr kA kH (sec_b (HR.out.sec k hkx)) HT.out HIk.out.bel (Nat.le_of_lt HwB.out) HIk.out.hold HIk.out.le (by rw [List.nil_append]; omega)
      rw [flat_snoc secT [] x.f0 k hkx] at ct
      have l0 : wr.cell? ⟨w.heap.size, 0, none⟩ = some (.slice (some ⟨sb, so, none⟩) n0 c0) := by rw [HM.out.1]; exact cel HIk.out.box 0 _ rfl
      have dl : decide ((k : Int) < (n0 : Int)) = true := decide_eq_true (by omega)
      have dk : IntKind.i64.wrap ((k : Int) + 1) = ((k + 1 : Nat) : Int) := by rw [IntKind.wrap_i64]; omega
      have z0 : (0 : Int) ≤ (k : Int) := by omega
      have z1 : (k : Int) < (n0 : Int) := by omega
      clear hat kA kH
      go_wp2_with fail
      refine ct.mono ?_
      rintro e w2 ⟨rfl, h2, b2⟩
      have HI2 : Hid (Inv w B (ocells x (some ⟨sb, so, none⟩) c0 a1 c1 a2 c2) ([] ++ (x.f0.take (k + 1)).flatMap secT) w2) := HIk.out.step HwB.out b2 h2
      clear ct h2 b2 HIk l0
      go_wp2
      go_roundw
      case rel => exact ⟨k + 1, by omega, by go_num, HI2.out⟩
      case measure => simp [intOf]; omega
    · have e : k = n0 := by omega
      subst e
      have dl : decide ((k : Int) < (k : Int)) = false := decide_eq_false (by omega)
      have hT0 := HL0.out k
      rw [HM.out.1, flat_all, List.nil_append] at HIk
      rw [HM.out.1, List.take_length] at hT0
      have HT1 : Hid (objT x = x.f0.flatMap secT ++ x.f1.flatMap symT ++ x.f2.flatMap assT) := (show _ = _ from rfl)
      generalize x.f0.flatMap secT = T0 at HIk hT0 HT1
      have HI : Hid (Inv w B (ocells x a0 c0 a1 c1 a2 c2) (T0 ++ (x.f1.take 0).flatMap symT) wr) := (show Inv _ _ _ _ _ from by rw [List.take_zero, List.flatMap_nil, List.append_nil]; exact HIk.out)
      have l1 : wr.cell? ⟨w.heap.size, 1, none⟩ = some (.slice a1 n1 c1) := by rw [HM.out.2.1]; exact cel HI.out.box 1 _ rfl
      clear HIk HL0
      go_wp2_with fail
      go_loopw [27] (fun i wq => ∃ q : Nat, q ≤ n1 ∧ i = .int .i64 (q : Int) ∧ Hid (Inv w B (ocells x a0 c0 a1 c1 a2 c2) (T0 ++ (x.f1.take q).flatMap symT) wq)) (fun i _ => n1 - (intOf i).toNat)
      case atStart => exact ⟨0, Nat.zero_le _, rfl, HI.out⟩
      case round =>
        obtain ⟨q, hq, rfl, HIq⟩ := hrel
        clear HI l1
        by_cases hlq : q < n1
        · have hqx : q < x.f1.length := by rw [← HM.out.2.1]; exact hlq
          rcases HHas.out.2.2.1 with hnil | ⟨sb, so, rfl, _, hsb, hat⟩
          · exfalso; rw [hnil] at hqx; exact absurd hqx (by simp)
          obtain ⟨d0, d1, d2, d3, _⟩ := hat q hqx
          have hsy := sym_b (by have := HR.out.l0; exact this) HR.out.sec (HR.out.sym q hqx).sym
          have HFS : Hid ((T0 ++ (x.f1.take q).flatMap symT) ++ symT x.f1[q] = T0 ++ (x.f1.take (q + 1)).flatMap symT) := flat_snoc symT T0 x.f1 q hqx
          have HPT : Hid (symT x.f1[q] = line [wSymbol, x.f1[q].f0, decW x.f1[q].f1, decW x.f1[q].f2, decW (outN x.f1[q].f3)]) := (show _ = _ from rfl)
          have hptl := symT_le hsy
          have hpk := HL1.out q
          have e0 := (HIq.out.bel.cell (p := ⟨sb, _, none⟩) hsb).trans d0
          have e1 := (HIq.out.bel.cell (p := ⟨sb, _, none⟩) hsb).trans d1
          have e2 := (HIq.out.bel.cell (p := ⟨sb, _, none⟩) hsb).trans d2
          have e3 := (HIq.out.bel.cell (p := ⟨sb, _, none⟩) hsb).trans d3
          obtain ⟨_, s0, s1, t0, t1⟩ := hsy
          clear hat d0 d1 d2 d3
          generalize x.f1[q] = P at *
          obtain ⟨u, hu⟩ : ∃ u, u = wr.alloc (.cells #[.string P.f0, .int .i64 P.f1, .int .i64 P.f2, .bool P.f3] 63) := ⟨_, rfl⟩
          obtain ⟨bp, hbp⟩ : ∃ n, n = wr.heap.size := ⟨_, rfl⟩
          have q0 : u.cell? ⟨bp, 0, none⟩ = some (.string P.f0) := by rw [hu, hbp]; exact World.cell?_alloc_new _ _ _ _
          have q1 : u.cell? ⟨bp, 1, none⟩ = some (.int .i64 P.f1) := by rw [hu, hbp]; exact World.cell?_alloc_new _ _ _ _
          have q2 : u.cell? ⟨bp, 2, none⟩ = some (.int .i64 P.f2) := by rw [hu, hbp]; exact World.cell?_alloc_new _ _ _ _
          have q3 : u.cell? ⟨bp, 3, none⟩ = some (.bool P.f3) := by rw [hu, hbp]; exact World.cell?_alloc_new _ _ _ _
          have hub : Below wr.heap.size wr u := by rw [hu]; exact (Below.refl _ _).alloc (Nat.le_refl _) _
          have HIu := (show Hid _ from HIq.out.below HwB.out hub)
          have k1 : Rg 33 #[.int .i64 P.f1] u (.string (decW P.f1)) := rg fun W hb => decimal_any P.f1 W (HT.out.below (after HIu.out.bel hb)).pow (by omega) (by omega)
          have k2 : Rg 33 #[.int .i64 P.f2] u (.string (decW P.f2)) := rg fun W hb => decimal_any P.f2 W (HT.out.below (after HIu.out.bel hb)).pow (by omega) (by omega)
          have k3 : Rg 33 #[.int .i64 (outN P.f3)] u (.string (decW (outN P.f3))) := rg fun W hb => decimal_any (outN P.f3) W (HT.out.below (after HIu.out.bel hb)).pow (by unfold outN; split <;> omega) (by unfold outN; split <;> omega)
          have k4 : Rg 34 #[.bool P.f3, .int .i64 1, .int .i64 0] u (.int .i64 (outN P.f3)) := rg fun W hb => (chosen_any P.f3 1 0 W).mono fun e w' h => ⟨h.1, by rw [h.2]; exact Below.refl _ _⟩
          have r0 := cell_regrown q0
          have r1 := cell_regrown q1
          have r2 := cell_regrown q2
          have r3 := cell_regrown q3
          have dl : decide ((q : Int) < (n1 : Int)) = true := decide_eq_true (by omega)
          have dk : IntKind.i64.wrap ((q : Int) + 1) = ((q + 1 : Nat) : Int) := by rw [IntKind.wrap_i64]; omega
          have z0 : (0 : Int) ≤ (q : Int) := by omega
          have z1 : (q : Int) < (n1 : Int) := by omega
          clear hub
          go_upto_region 12 with fail
          rw [← hu, ← hbp]
          clear hu hbp e0 e1 e2 e3 q0 q1 q2 q3 HIq
          refine Qtail.tail_below 12 (by kernel_rfl) (by kernel_rfl) ?_
          simp only [List.take_succ_cons, List.take_zero, List.drop_succ_cons, List.drop_zero]
          generalize decW P.f1 = D1 at k1 HPT
          generalize decW P.f2 = D2 at k2 HPT
          generalize decW (outN P.f3) = D3 at k3 HPT
          generalize outN P.f3 = on3 at k3 k4
          repeat (go_big_quiet_step (first | fail | with_reducible exact k1 _ _ | with_reducible exact k2 _ _ | with_reducible exact k3 _ _ | with_reducible exact k4 _ _))
          refine wpQuiet_nil ?_
          intro _ hw'
          obtain ⟨⟨dq, osq⟩, hw''⟩ := hw'
          subst hw''
          have hbr := below_regrown u dq osq
          generalize Go.Sort.grow (redrawn u dq) osq = W3 at hbr ⊢
          have HI3 := (show Hid _ from HIu.out.below HwB.out hbr)
          clear hbr r0 r1 r2 r3 k1 k2 k3 k4 HIu
          have HI3' := (show Hid _ from HI3.out.below HwB.out ((Below.refl W3.heap.size W3).alloc (Nat.le_refl _) (.cells #[.string ⟨#[115, 121, 109, 98, 111, 108]⟩, .string P.f0, .string D1, .string D2, .string D3] 9)))
          go_wp2_with fail
          refine (tell_any B B W3.heap.size 5 _ [wSymbol, P.f0, D1, D2, D3] _ HI3'.out.hold HI3'.out.le (row_lit rfl) (by simp) (Nat.le_refl _) (by simp) (by rw [← HPT.out, List.length_append]; omega)).mono ?_
          rintro e w4 ⟨rfl, h4, b4⟩
          rw [← HPT.out, HFS.out] at h4
          have HI4 := (show Hid _ from HI3'.out.step HwB.out b4 h4)
          clear h4 b4 HI3 HI3'
          go_wp2
          go_roundw
          case rel => exact ⟨q + 1, by omega, by go_num, HI4.out⟩
          case measure => simp [intOf]; omega
        · have e : q = n1 := by omega
          subst e
          have dq : decide ((q : Int) < (q : Int)) = false := decide_eq_false (by omega)
          have hT1 := HL1.out q
          rw [HM.out.2.1, flat_all] at HIq
          rw [HM.out.2.1, List.take_length] at hT1
          generalize x.f1.flatMap symT = T1 at HIq hT1 HT1
          have HI : Hid (Inv w B (ocells x a0 c0 a1 c1 a2 c2) ((T0 ++ T1) ++ (x.f2.take 0).flatMap assT) wr) := (show Inv _ _ _ _ _ from by rw [List.take_zero, List.flatMap_nil, List.append_nil]; exact HIq.out)
          have l2 : wr.cell? ⟨w.heap.size, 2, none⟩ = some (.slice a2 n2 c2) := by rw [HM.out.2.2]; exact cel HI.out.box 2 _ rfl
          have hTT : (T0 ++ T1).length ≤ 180000 * 12 + 100 * 200 := by rw [List.length_append]; omega
          generalize T0 ++ T1 = T01 at HI HT1 hTT
          clear HIq HL1
          go_wp2_with fail
          go_loopw [49] (fun i wq => ∃ z : Nat, z ≤ n2 ∧ i = .int .i64 (z : Int) ∧ Hid (Inv w B (ocells x a0 c0 a1 c1 a2 c2) (T01 ++ (x.f2.take z).flatMap assT) wq)) (fun i _ => n2 - (intOf i).toNat)
          case atStart => exact ⟨0, Nat.zero_le _, rfl, HI.out⟩
          case round =>
            obtain ⟨z, hz, rfl, HIz⟩ := hrel
            clear HI l2
            by_cases hlz : z < n2
            · have hzx : z < x.f2.length := by rw [← HM.out.2.2]; exact hlz
              rcases HHas.out.2.2.2.2.1 with hnil | ⟨sb, so, rfl, _, hsb, hat⟩
              · exfalso; rw [hnil] at hzx; exact absurd hzx (by simp)
              obtain ⟨ae, ce, d0, hrow, _⟩ := hat z hzx
              have hel := expr_le (HR.out.ass z hzx)
              have HFS : Hid ((T01 ++ (x.f2.take z).flatMap assT) ++ assT x.f2[z] = T01 ++ (x.f2.take (z + 1)).flatMap assT) := flat_snoc assT T01 x.f2 z hzx
              have HPT : Hid (assT x.f2[z] = line [wAssert, exprT x.f2[z].f0]) := (show _ = _ from rfl)
              have hptl := ass_len (a := x.f2[z])
              have hpk := HL2.out z
              have e0 := (HIz.out.bel.cell (p := ⟨sb, _, none⟩) hsb).trans d0
              clear hat d0
              generalize x.f2[z] = P at *
              have cx := Extx.implText_any ae ce P.f0 wr (hrow.below HIz.out.bel).1 (by omega) (HT.out.below HIz.out.bel).op (HT.out.below HIz.out.bel).pow
              have dl : decide ((z : Int) < (n2 : Int)) = true := decide_eq_true (by omega)
              have dk : IntKind.i64.wrap ((z : Int) + 1) = ((z + 1 : Nat) : Int) := by rw [IntKind.wrap_i64]; omega
              have z0 : (0 : Int) ≤ (z : Int) := by omega
              have z1 : (z : Int) < (n2 : Int) := by omega
              generalize exprT P.f0 = D1 at cx HPT
              clear hrow
              go_wp2_with fail
              refine cx.mono ?_
              rintro e W3 ⟨rfl, hbr⟩
              have HI3 := (show Hid _ from HIz.out.below HwB.out hbr)
              have HI3' := (show Hid _ from HI3.out.below HwB.out ((Below.refl W3.heap.size W3).alloc (Nat.le_refl _) (.cells #[.string ⟨#[97, 115, 115, 101, 114, 116]⟩, .string D1] 9)))
              clear hbr cx e0 HIz HI3
              go_wp2_with fail
              refine (tell_any B B W3.heap.size 2 _ [wAssert, D1] _ HI3'.out.hold HI3'.out.le (row_lit rfl) (by simp) (Nat.le_refl _) (by simp) (by rw [← HPT.out, List.length_append]; omega)).mono ?_
              rintro e w4 ⟨rfl, h4, b4⟩
              rw [← HPT.out, HFS.out] at h4
              have HI4 := (show Hid _ from HI3'.out.step HwB.out b4 h4)
              clear h4 b4 HI3'
              go_wp2
              go_roundw
              case rel => exact ⟨z + 1, by omega, by go_num, HI4.out⟩
              case measure => simp [intOf]; omega
            · have e : z = n2 := by omega
              subst e
              have dz : decide ((z : Int) < (z : Int)) = false := decide_eq_false (by omega)
              rw [HM.out.2.2, flat_all, ← HT1.out] at HIz
              have cs := Tryz.Builder_String_any B B (objT x) wr HIz.out.hold HIz.out.le
              have HBW : Hid (Below w.heap.size w wr) := HIz.out.bel
              obtain ⟨R, hR⟩ : ∃ R, R = (⟨(objT x).toArray⟩ : ByteArray) := ⟨_, rfl⟩
              rw [← hR] at cs
              have HRR : Hid ((⟨(objT x).toArray⟩ : ByteArray) = R) := hR.symm
              clear hR
              clear HIz
              go_wp2_with fail
              refine cs.mono ?_
              rintro e w5 ⟨rfl, b5⟩
              have B5 : Hid (Below w.heap.size w w5) := HBW.out.trans (b5.mono (Nat.le_of_lt HwB.out))
              clear b5 cs
              go_wp2
              go_ret
              exact ⟨ret_str HRR.out, B5.out⟩
end Go.Proofs.YtplkglgaobdpiaaGreatDoor.Otxd
