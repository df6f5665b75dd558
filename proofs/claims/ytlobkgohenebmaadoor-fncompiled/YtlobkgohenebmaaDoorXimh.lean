/-
  Contracts of ours for the program's impl.Compiled: a panic of its reader is recovered.
-/
import Derived.Test.YtlobkgohenebmaaDoorXimg
import Derived.Test.YtlobkgohenebmaaDoorCmxd
import Derived.Defers
import Derived.Recover
import Derived.Laws.Pointers
namespace Go.Proofs.YtlobkgohenebmaaDoor.Ximh
open Go.ChangeShapes Go.WideShapes Go.ChangeAt Go.RowKit Go.Deep
open Prsp Prsl Xima Ximb Ximc Ximd Ximf Ximg
open Cmxd (outC outC.no compV own_low)
open Stepx (exprB)
set_option linter.unusedVariables false
set_option linter.unusedSimpArgs false
set_option maxRecDepth 20000

theorem catch_panicking (p q : Addr) (x y : Value) (u : TypeId) (pv : Value) (older : List PanicEntry) (w : World) (hp : w.cell? p = some x) (fp : w.frozen? p = false) (hq : (w.setCell p (.slice none 0 0)).cell? q = some y) (fq : w.frozen? q = false) :
    CallsD Tryd.prog 22 #[.pointer (some p), .pointer (some q)] (.panicking ({ v := .iface u pv, recovered := false } :: older)) w fun e u' w' =>
      e = .returned (.tuple #[]) ∧ u' = .panicking ({ v := .iface u pv, recovered := true } :: older) ∧ w' = (w.setCell p (.slice none 0 0)).setCell q (.bool false) := by
  refine callsD_of_wpS Tryd.func22 rfl fun c₀ cs hu => ?_
  apply wpS_seq
  apply wpS_region
  simp [wpOpsS, go_sem, recoverD, hu, Tryd.ntmps22, Exit.thenS]
  refine wpS_cond (t := true) (by simp [Act.eval, Array.replicate]) ?_
  simp only [if_true]
  apply wpS_region
  simp [wpOpsS, go_sem, hp, fp, hq, fq, bodyPostS, results, Tryd.results22]

theorem catch_idle (p q : Addr) (w : World) :
    CallsD Tryd.prog 22 #[.pointer (some p), .pointer (some q)] .returning w fun e u' w' => e = .returned (.tuple #[]) ∧ u' = .returning ∧ w' = w := by
  refine callsD_of_wpS Tryd.func22 rfl fun c₀ cs hu => ?_
  apply wpS_seq
  apply wpS_region
  simp [wpOpsS, go_sem, recoverD, hu, Tryd.ntmps22, Exit.thenS]
  refine wpS_cond (t := false) (by simp [Act.eval, Array.replicate]) ?_
  simp only [Bool.false_eq_true, if_false]
  refine wpS_of_wp (wp_skip ?_)
  cases c₀
  simp_all [bodyPostS, results, Tryd.results22]

abbrev pr (b : Nat) : Value := .pointer (some ⟨b, 0, none⟩)
theorem leave_panic (s : ByteArray) (w w1 : World) (u : TypeId) (pv : Value) (tmps : Array Value) (hN : compV 31 s = none) (hB : Below w.heap.size w w1)
    (c0 : w1.cell? ⟨w.heap.size, 0, none⟩ = some (.slice none 0 0)) (c1 : w1.cell? ⟨w.heap.size + 1, 0, none⟩ = some (.bool false)) (f0 : w1.frozen? ⟨w.heap.size, 0, none⟩ = false) (f1 : w1.frozen? ⟨w.heap.size + 1, 0, none⟩ = false)
    (h2 : tmps.getD 2 undef = pr w.heap.size) (h3 : tmps.getD 3 undef = pr (w.heap.size + 1)) :
    bodyPostD Tryd.prog Tryd.f11 (outC (compV 31 s) w) (Exit.panic [{ v := .iface u pv, recovered := false }]) { tmps := tmps, defers := [{ target := Target.fn (Fn.func 22) #[pr w.heap.size, pr (w.heap.size + 1)], args := #[] }] } w1 := by
  have g2 : tmps[2]?.getD undef = pr w.heap.size := by rw [← Array.getD_eq_getD_getElem?]; exact h2
  have g3 : tmps[3]?.getD undef = pr (w.heap.size + 1) := by rw [← Array.getD_eq_getD_getElem?]; exact h3
  rw [hN]
  refine leaves_cons (f := 22) (args := #[pr w.heap.size, pr (w.heap.size + 1)]) (by simp) (by simp [go_sem]) ?_
  have c1' : (w1.setCell ⟨w.heap.size, 0, none⟩ (.slice none 0 0)).cell? ⟨w.heap.size + 1, 0, none⟩ = some (.bool false) := (World.cell?_setCell_other w1 _ _ _ (fun e => by have := congrArg Addr.block e; simp at this)).trans c1
  refine (catch_panicking ⟨w.heap.size, 0, none⟩ ⟨w.heap.size + 1, 0, none⟩ _ _ u pv [] w1 c0 f0 c1' f1).mono ?_
  rintro e u' w'' ⟨rfl, rfl, rfl⟩
  have q1 : ((w1.setCell ⟨w.heap.size, 0, none⟩ (.slice none 0 0)).setCell ⟨w.heap.size + 1, 0, none⟩ (.bool false)).cell? ⟨w.heap.size + 1, 0, none⟩ = some (.bool false) := World.cell?_setCell_same _ _ _ c1'
  have q0 : ((w1.setCell ⟨w.heap.size, 0, none⟩ (.slice none 0 0)).setCell ⟨w.heap.size + 1, 0, none⟩ (.bool false)).cell? ⟨w.heap.size, 0, none⟩ = some (.slice none 0 0) := (World.cell?_setCell_other _ _ _ _ (fun e => by have := congrArg Addr.block e; simp at this)).trans (World.cell?_setCell_same _ _ _ c0)
  have hB2 : Below w.heap.size w ((w1.setCell ⟨w.heap.size, 0, none⟩ (.slice none 0 0)).setCell ⟨w.heap.size + 1, 0, none⟩ (.bool false)) := (hB.trans below_set).trans (below_set.mono (Nat.le_succ _))
  exact ⟨.tuple #[.slice none 0 0, .bool false], by simp [results, Tryd.results11, go_sem, g2, g3, q0, q1], outC.no hB2⟩
theorem leave_ok (w w1 : World) (L : List Stepx.Node) (a : Option Addr) (cap len : Nat) (tmps : Array Value) (hlen : len = L.length) (hB : Below w.heap.size w w1)
    (hO : Nodm.Own w1 (w.heap.size + 2 + 1) (.slice a L.length cap) L) (hR : exprB L = true ∧ L.length ≤ 30 ∧ ∀ x ∈ L, x.2.2.size ≤ 16)
    (c0 : w1.cell? ⟨w.heap.size, 0, none⟩ = some (.slice none 0 0)) (c1 : w1.cell? ⟨w.heap.size + 1, 0, none⟩ = some (.bool false)) (f0 : w1.frozen? ⟨w.heap.size, 0, none⟩ = false) (f1 : w1.frozen? ⟨w.heap.size + 1, 0, none⟩ = false)
    (h2 : tmps.getD 2 undef = pr w.heap.size) (h3 : tmps.getD 3 undef = pr (w.heap.size + 1)) :
    bodyPostD Tryd.prog Tryd.f11 (outC (some L) w) Exit.normal { tmps := tmps, defers := [{ target := Target.fn (Fn.func 22) #[pr w.heap.size, pr (w.heap.size + 1)], args := #[] }] } ((w1.setCell ⟨w.heap.size, 0, none⟩ (.slice a len cap)).setCell ⟨w.heap.size + 1, 0, none⟩ (.bool true)) := by
  have g2 : tmps[2]?.getD undef = pr w.heap.size := by rw [← Array.getD_eq_getD_getElem?]; exact h2
  have g3 : tmps[3]?.getD undef = pr (w.heap.size + 1) := by rw [← Array.getD_eq_getD_getElem?]; exact h3
  subst hlen
  refine leaves_cons (f := 22) (args := #[pr w.heap.size, pr (w.heap.size + 1)]) (by simp) (by simp [go_sem]) ?_
  refine (catch_idle ⟨w.heap.size, 0, none⟩ ⟨w.heap.size + 1, 0, none⟩ _).mono ?_
  rintro e u' w'' ⟨rfl, rfl, rfl⟩
  have c1' : (w1.setCell ⟨w.heap.size, 0, none⟩ (.slice a L.length cap)).cell? ⟨w.heap.size + 1, 0, none⟩ = some (.bool false) := (World.cell?_setCell_other w1 _ _ _ (fun e => by have := congrArg Addr.block e; simp at this)).trans c1
  have q1 : ((w1.setCell ⟨w.heap.size, 0, none⟩ (.slice a L.length cap)).setCell ⟨w.heap.size + 1, 0, none⟩ (.bool true)).cell? ⟨w.heap.size + 1, 0, none⟩ = some (.bool true) := World.cell?_setCell_same _ _ _ c1'
  have q0 : ((w1.setCell ⟨w.heap.size, 0, none⟩ (.slice a L.length cap)).setCell ⟨w.heap.size + 1, 0, none⟩ (.bool true)).cell? ⟨w.heap.size, 0, none⟩ = some (.slice a L.length cap) := (World.cell?_setCell_other _ _ _ _ (fun e => by have := congrArg Addr.block e; simp at this)).trans (World.cell?_setCell_same _ _ _ c0)
  have hB2 : Below w.heap.size w ((w1.setCell ⟨w.heap.size, 0, none⟩ (.slice a L.length cap)).setCell ⟨w.heap.size + 1, 0, none⟩ (.bool true)) := (hB.trans below_set).trans (below_set.mono (Nat.le_succ _))
  have o1 : Nodm.Own (w1.setCell ⟨w.heap.size, 0, none⟩ (.slice a L.length cap)) (w.heap.size + 2 + 1) (.slice a L.length cap) L := hO.kept (grown_set w1 w.heap.size 0 (.slice a L.length cap)) (own_ne hO (by omega))
  have o2 : Nodm.Own _ (w.heap.size + 2 + 1) (.slice a L.length cap) L := o1.kept (grown_set _ (w.heap.size + 1) 0 (.bool true)) (own_ne o1 (by omega))
  exact ⟨.tuple #[.slice a L.length cap, .bool true], by simp [results, Tryd.results11, go_sem, g2, g3, q0, q1], ⟨a, cap, rfl, own_low o2 (by omega), hR.2.1, hR.1, hR.2.2⟩, hB2⟩

theorem leave_no (w : World) (tmps : Array Value) (h2 : tmps.getD 2 undef = pr w.heap.size) (h3 : tmps.getD 3 undef = pr (w.heap.size + 1)) :
    bodyPostD Tryd.prog Tryd.f11 (outC none w) Exit.ret { tmps := tmps, defers := [] } ((w.alloc (.cells #[.slice none 0 0] 27)).alloc (.cells #[.bool false] 4)) := by
  have g2 : tmps[2]?.getD undef = pr w.heap.size := by rw [← Array.getD_eq_getD_getElem?]; exact h2
  have g3 : tmps[3]?.getD undef = pr (w.heap.size + 1) := by rw [← Array.getD_eq_getD_getElem?]; exact h3
  have q0 : ((w.alloc (.cells #[.slice none 0 0] 27)).alloc (.cells #[.bool false] 4)).cell? ⟨w.heap.size, 0, none⟩ = some (.slice none 0 0) := by simp [go_sem]
  have q1 : ((w.alloc (.cells #[.slice none 0 0] 27)).alloc (.cells #[.bool false] 4)).cell? ⟨w.heap.size + 1, 0, none⟩ = some (.bool false) := by simp [go_sem]
  exact ⟨.tuple #[.slice none 0 0, .bool false], by simp [results, Tryd.results11, go_sem, g2, g3, q0, q1], outC.no (((Below.refl _ _).alloc (Nat.le_refl _) _).alloc (by simp) _)⟩

set_option maxHeartbeats 4000000 in
theorem compiled_any (s : ByteArray) (w : World) (hT : Nums.Tab w) (hs : s.size ≤ 1048576) : Calls Tryd.prog 11 #[.string s] w (outC (compV 31 s) w) := by
  have hmf : ∀ (fn : Fn) (first cap : Array Value) (w : World), (Instr.makeFunc fn first cap).run Tryd.prog w = .ok (.func fn first cap) w := fun _ _ _ _ => rfl
  by_cases h2 : 200 < s.size
  · have HN : Hid (compV 31 s = none) := if_pos h2
    go_enter_defers Tryd.func11, Tryd.ntmps11
    go_wp2
    rw [HN.out]
    exact leave_no w _ rfl rfl
  · obtain ⟨W, hW⟩ : ∃ W, W = ((w.alloc (.cells #[.slice none 0 0] 27)).alloc (.cells #[.bool false] 4)).alloc (.cells #[.string s, .int .i64 0, .slice none 0 0] 48) := ⟨_, rfl⟩
    have HB : Hid (Below w.heap.size w W) := (show Below _ _ _ from by rw [hW]; exact (((Below.refl _ _).alloc (Nat.le_refl _) _).alloc (by simp) _).alloc (by simp; omega) _)
    have P0 : Hid (PI W (w.heap.size + 2) s 0 []) := by
      rw [hW]
      have e : w.heap.size + 2 = ((w.alloc (.cells #[.slice none 0 0] 27)).alloc (.cells #[.bool false] 4)).heap.size := by simp
      rw [e]
      refine ⟨none, 0, ?_, ?_, ?_, fun i => ?_, Nat.zero_le _, by omega, by decide, World.ownsRow_nil _ _ _ _⟩
      · rw [World.cell?_alloc_new]; rfl
      · rw [World.cell?_alloc_new]; rfl
      · rw [World.cell?_alloc_new]; rfl
      · exact World.frozen?_alloc_new _ _ _ i
    have hg : 0 < w.heap.size + 2 := Nat.lt_of_lt_of_le (World.block_lt_of_cell? w ⟨0, 0, none⟩ (hT 0 (by decide))) (Nat.le_add_right _ _)
    have HT : Hid (Nums.Tab W) := (show Nums.Tab W from fun i hi => (HB.out.cell (p := ⟨0, i, none⟩) (World.block_lt_of_cell? w ⟨0, 0, none⟩ (hT 0 (by decide)))).trans (hT i hi))
    have E0 : Hid (W.cell? ⟨w.heap.size, 0, none⟩ = some (.slice none 0 0) ∧ W.cell? ⟨w.heap.size + 1, 0, none⟩ = some (.bool false) ∧ W.frozen? ⟨w.heap.size, 0, none⟩ = false ∧ W.frozen? ⟨w.heap.size + 1, 0, none⟩ = false) := by
      rw [hW]; refine ⟨?_, ?_, ?_, ?_⟩ <;> simp [go_sem]
    have HV : Hid (compV 31 s = comp 31 s.data.toList) := if_neg h2
    have cl := expr_any (w.heap.size + 2) s hg 1 0 [] W (by decide) (by decide) P0.out HT.out
    obtain ⟨X, hX⟩ : ∃ X, X = lev 31 1 (s.data.toList.drop 0, ([] : List Stepx.Node)) := ⟨_, rfl⟩
    have HX0 : Hid (X = lev 31 1 (s.data.toList, ([] : List Stepx.Node))) := (show X = _ from by rw [hX, List.drop_zero])
    rw [← hX] at cl
    clear hX P0
    rw [hW] at cl
    go_enter_defers Tryd.func11, Tryd.ntmps11
    go_wp2_with fail
    refine cl.mono ?_
    rw [← hW]
    clear cl hW
    intro e w1 h1
    rcases RI.split h1 with ⟨hn, ⟨u, pv, rfl⟩, b1⟩ | ⟨st, j1, hn, rfl, hj1, hst, p1, b1⟩
    · have c0 : w1.cell? ⟨w.heap.size, 0, none⟩ = some (.slice none 0 0) := (b1.cell (p := ⟨w.heap.size, 0, none⟩) (by show w.heap.size < w.heap.size + 2; omega)).trans E0.out.1
      have c1 : w1.cell? ⟨w.heap.size + 1, 0, none⟩ = some (.bool false) := (b1.cell (p := ⟨w.heap.size + 1, 0, none⟩) (by show w.heap.size + 1 < w.heap.size + 2; omega)).trans E0.out.2.1
      have f0 : w1.frozen? ⟨w.heap.size, 0, none⟩ = false := (World.frozen?_of_block (a := ⟨w.heap.size, 0, none⟩) (b1.block w.heap.size (by omega))).trans E0.out.2.2.1
      have f1 : w1.frozen? ⟨w.heap.size + 1, 0, none⟩ = false := (World.frozen?_of_block (a := ⟨w.heap.size + 1, 0, none⟩) (b1.block (w.heap.size + 1) (by omega))).trans E0.out.2.2.2
      have HN : Hid (compV 31 s = none) := (show compV 31 s = none from by rw [HV.out]; unfold comp; rw [← HX0.out, hn])
      have BF : Hid (Below w.heap.size w w1) := HB.out.trans (b1.mono (by omega))
      clear b1 h1 hn HX0 HV E0 HT HB hT
      go_wp2
      exact leave_panic s w w1 u pv _ HN.out BF.out c0 c1 f0 f1 rfl rfl
    · have c0 : w1.cell? ⟨w.heap.size, 0, none⟩ = some (.slice none 0 0) := (b1.bel.cell (p := ⟨w.heap.size, 0, none⟩) (by show w.heap.size < w.heap.size + 2; omega)).trans E0.out.1
      have c1 : w1.cell? ⟨w.heap.size + 1, 0, none⟩ = some (.bool false) := (b1.bel.cell (p := ⟨w.heap.size + 1, 0, none⟩) (by show w.heap.size + 1 < w.heap.size + 2; omega)).trans E0.out.2.1
      have f0 : w1.frozen? ⟨w.heap.size, 0, none⟩ = false := (World.frozen?_of_block (a := ⟨w.heap.size, 0, none⟩) (b1.bel.block w.heap.size (by omega))).trans E0.out.2.2.1
      have f1 : w1.frozen? ⟨w.heap.size + 1, 0, none⟩ = false := (World.frozen?_of_block (a := ⟨w.heap.size + 1, 0, none⟩) (b1.bel.block (w.heap.size + 1) (by omega))).trans E0.out.2.2.2
      have BF : Hid (Below w.heap.size w w1) := HB.out.trans (b1.bel.mono (by omega))
      have k0 := p1.c0
      have k1 := p1.c1
      have hjs := p1.sz.1
      obtain ⟨a, cap, _, _, k2, _, _, _, hl30, ho⟩ := p1
      have HL : Hid (lev 31 1 (s.data.toList, []) = some (s.data.toList.drop j1, st.2)) := (show _ = _ from by rw [← HX0.out, hn, ← hst])
      by_cases hjz : (j1 : Int) = (s.size : Int)
      · have d1 : ((j1 : Int) == (s.size : Int)) = true := by simp [hjz]
        have d2 : ((j1 : Int) != (s.size : Int)) = false := by simp [hjz]
        have d3 : decide ((j1 : Int) = (s.size : Int)) = true := decide_eq_true hjz
        have HC : Hid (compV 31 s = some st.2) := (show compV 31 s = some st.2 from by rw [HV.out]; unfold comp; rw [HL.out, Nums.drop_end s j1 (by omega)])
        have HO : Hid (Nodm.Own w1 (w.heap.size + 2 + 1) (.slice a st.2.length cap) st.2) := ho
        have HR : Hid (exprB st.2 = true ∧ st.2.length ≤ 30 ∧ ∀ x ∈ st.2, x.2.2.size ≤ 16) := comp_right (HV.out.symm.trans HC.out)
        have e1 : w.heap.size + 1 + 1 = w.heap.size + 2 := rfl
        clear b1 h1 hn HX0 HV E0 HT HB hT ho HL hst hl30 hjz
        generalize st.2 = L at *
        obtain ⟨len, hlen⟩ : ∃ len, len = L.length := ⟨_, rfl⟩
        rw [← hlen] at k2
        have HE : Hid (len = L.length) := hlen
        clear hlen
        go_wp2
        rw [HC.out]
        exact leave_ok w w1 L a cap len _ HE.out BF.out HO.out HR.out c0 c1 f0 f1 rfl rfl
      · have d1 : ((j1 : Int) == (s.size : Int)) = false := by simp [hjz]
        have d2 : ((j1 : Int) != (s.size : Int)) = true := by simp [hjz]
        have d3 : decide ((j1 : Int) = (s.size : Int)) = false := decide_eq_false hjz
        have HN : Hid (compV 31 s = none) := (show compV 31 s = none from by rw [HV.out]; unfold comp; rw [HL.out, Nums.drop_at s j1 (by omega)])
        clear b1 h1 hn HX0 HV E0 HT HB hT ho HL hst hl30 hjz k2
        go_wp2
        exact leave_panic s w w1 _ _ _ HN.out BF.out c0 c1 f0 f1 rfl rfl
end Go.Proofs.YtlobkgohenebmaaDoor.Ximh
