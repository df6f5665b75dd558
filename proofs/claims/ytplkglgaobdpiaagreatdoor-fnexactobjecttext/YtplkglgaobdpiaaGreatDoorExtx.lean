/-
  Contracts of ours for impl.ExprText.
-/
import Derived.Test.YtplkglgaobdpiaaGreatDoorOptx
import Derived.Laws.OwnMore
import Derived.Maps.AppendAt
namespace Go.Proofs.YtplkglgaobdpiaaGreatDoor.Extx
open Go.ChangeShapes Go.WideShapes Go.ChangeAt Go.RowKit
open Go.Proofs.YtplkglgaobdpiaaGreatDoor.Stepx (Nodes takes run exprB StepsRow)
open Go.Proofs.YtplkglgaobdpiaaGreatDoor.Steps (nodeB stepV)
open Optx
set_option linter.unusedVariables false
set_option maxRecDepth 20000
def NodeOk (x : Stepx.Node) : Prop := nodeB x.1 x.2.1 x.2.2 = true
def words (L : List Stepx.Node) : List ByteArray := L.map wordB
theorem words_get {L : List Stepx.Node} {k : Nat} (h : k < (words L).length) (h' : k < L.length) : (words L)[k] = wordB L[k] := List.getElem_map ..
def exprT (L : List Stepx.Node) : ByteArray := if exprB L = true then ⟨(Lib.join ((words L).map (·.data.toList)) [32]).toArray⟩ else ⟨#[]⟩
theorem kinds_of {kd n : Int} {s : ByteArray} (hn : nodeB kd n s = true) : kd = 1 ∨ kd = 2 ∨ kd = 3 ∨ (4 ≤ kd ∧ kd ≤ 7) ∨ (8 ≤ kd ∧ kd ≤ 17) := by
  unfold nodeB at hn
  by_cases e1 : kd = 1
  · exact .inl e1
  rw [if_neg e1] at hn
  by_cases e2 : kd = 2 ∨ kd = 3
  · omega
  rw [if_neg e2] at hn
  by_cases e3 : 4 ≤ kd ∧ kd ≤ 17
  · omega
  rw [if_neg e3] at hn; cases hn
theorem word_of {n : Int} {s : ByteArray} (h : nodeB 1 n s = true) : 0 ≤ n ∧ n ≤ 65535 := by
  unfold nodeB at h; rw [if_pos rfl] at h
  simp only [Bool.and_eq_true] at h
  exact of_decide_eq_true h.1
theorem name_of {kd n : Int} {s : ByteArray} (h : nodeB kd n s = true) (hk : kd = 2 ∨ kd = 3) : s.size ≤ 16 := by
  unfold nodeB at h
  rw [if_neg (by omega), if_pos hk] at h
  simp only [Bool.and_eq_true] at h
  exact (of_decide_eq_true h.2).2.1
theorem itoa_len {n : Int} (h0 : 0 ≤ n) (h1 : n ≤ 65535) : (Lib.itoa n).length ≤ 5 := by
  unfold Lib.itoa
  rw [if_neg (by omega)]
  have key : ∀ (k u : Nat), u < 10 ^ (k + 1) → (Lib.decDigits u).length ≤ k + 1 := by
    intro k
    induction k with
    | zero => intro u hu; rw [Lib.decDigits, dif_pos (by omega)]; exact Nat.le_refl _
    | succ k ih =>
      intro u hu
      rw [Lib.decDigits]
      split
      · simp
      · rw [List.length_append]
        have := ih (u / 10) (by rw [Nat.pow_succ] at hu; omega)
        simp; omega
  exact key 4 _ (by omega)
theorem op_len (kd : Int) : (opW kd).size ≤ 4 := by
  unfold opW
  have : ∀ i : Nat, (opTab.getD i ⟨#[]⟩).size ≤ 4 := by
    intro i
    by_cases h : i < 14
    · exact (by decide : ∀ j, j < 14 → (opTab.getD j ⟨#[]⟩).size ≤ 4) i h
    · rw [List.getD_eq_getElem?_getD, List.getElem?_eq_none (by show 14 ≤ i; omega)]; decide
  exact this _
theorem word_len {x : Stepx.Node} (h : NodeOk x) : (wordB x).size ≤ 20 := by
  obtain ⟨kd, n, s⟩ := x
  have h : nodeB kd n s = true := h
  unfold wordB
  simp only
  split
  · rename_i e; subst e
    have hw := word_of h
    show ((Lib.itoa n).toArray).size ≤ 20
    rw [List.size_toArray]
    have := itoa_len hw.1 hw.2; omega
  split
  · rename_i e; have := name_of h (.inl e); omega
  split
  · rename_i e; have := name_of h (.inr e); rw [ByteArray.size_append]; show 1 + _ ≤ _; omega
  · have := op_len kd; omega
theorem nodes_ok : ∀ {L : List Stepx.Node} {v r : Int}, run v L = some r → ∀ x ∈ L, NodeOk x
  | [], _, _, _, x, hx => by cases hx
  | y :: L, v, r, h, x, hx => by
    rw [run] at h
    split at h
    · rename_i hc
      rcases List.mem_cons.1 hx with rfl | hx
      · exact hc.1
      · exact nodes_ok h x hx
    · cases h
theorem step_one {kd n : Int} {s : ByteArray} (h4 : 4 ≤ kd) (h7 : kd ≤ 7) : stepV kd n s = .iface 168 (.agg #[.int .i64 kd]) := by
  unfold stepV; rw [if_neg (by omega), if_neg (by omega), if_neg (by omega), if_pos ⟨h4, h7⟩]
theorem step_two {kd n : Int} {s : ByteArray} (h8 : 8 ≤ kd) (h17 : kd ≤ 17) : stepV kd n s = .iface 170 (.agg #[.int .i64 kd]) := by
  unfold stepV; rw [if_neg (by omega), if_neg (by omega), if_neg (by omega), if_neg (by omega), if_pos ⟨h8, h17⟩]
theorem word_op {kd n : Int} {s : ByteArray} (h4 : 4 ≤ kd) : wordB (kd, n, s) = opW kd := by
  unfold wordB; simp only; rw [if_neg (by omega), if_neg (by omega), if_neg (by omega)]
/-- A right node's step has its word. -/
theorem stepText_any (x : Stepx.Node) (w : World) (h : NodeOk x) (hT : OpTab w) (hP : Pow w) :
    Calls Tryz.prog 83 #[stepV x.1 x.2.1 x.2.2] w fun e w' => e = .returned (.string (wordB x)) ∧ Below w.heap.size w w' := by
  obtain ⟨kd, n, s⟩ := x
  have h : nodeB kd n s = true := h
  show Calls Tryz.prog 83 #[stepV kd n s] w _
  rcases kinds_of h with rfl | rfl | rfl | ⟨k4, k7⟩ | ⟨k8, k17⟩
  · have hw := word_of h
    exact text1 n w hw.1 hw.2 hP
  · exact text2 s w
  · exact text3 s w (by have := name_of h (.inr rfl); omega)
  · rw [step_one k4 k7, word_op k4]; exact textOne kd w k4 k7 hT
  · rw [step_two k8 k17, word_op (by omega)]; exact textTwo kd w k8 k17 hT
theorem join_len : ∀ (X : List ByteArray), (∀ x ∈ X, x.size ≤ 20) → (Lib.join (X.map (·.data.toList)) [32]).length ≤ 21 * X.length
  | [], _ => Nat.zero_le _
  | [x], h => by
    rw [List.map_cons, List.map_nil, Lib.join_one]
    have := h x (List.mem_cons_self ..)
    rw [Array.length_toList]; show x.size ≤ 21; omega
  | x :: y :: X, h => by
    have ih := join_len (y :: X) (fun z hz => h z (List.mem_cons_of_mem _ hz))
    have hx := h x (List.mem_cons_self ..)
    have e : Lib.join ((x :: y :: X).map (·.data.toList)) [32] = x.data.toList ++ ([32] ++ Lib.join ((y :: X).map (·.data.toList)) [32]) := by
      unfold Lib.join; simp [List.intercalate]
    rw [e, List.length_append, List.length_append, Array.length_toList]
    show x.size + (1 + _) ≤ _
    simp only [List.length_cons] at ih ⊢
    omega

theorem own_below {w w1 : World} {base n : Nat} {v : Value} {xs : List Value} (h : w.ownsRow base 9 1 v n xs) (hb : Below w.heap.size w w1) : w1.ownsRow base 9 1 v n xs :=
  h.kept (row := none) ⟨hb.os, hb.tape, hb.output, hb.size, fun k hk _ => hb.block k hk⟩ (by cases hv : Value.ownBlock v <;> simp)
set_option maxHeartbeats 2000000 in
theorem implText_any (a : Option Addr) (cap : Nat) (L : List Stepx.Node) (w : World) (hN : Nodes w a L) (hlen : L.length ≤ 1048576) (hT : OpTab w) (hP : Pow w) :
    Calls Tryz.prog 35 #[.slice a L.length cap] w fun e w' => e = .returned (.string (exprT L)) ∧ Below w.heap.size w w' := by
  obtain ⟨i0, hi, hz0, hz1, hz2⟩ := info_parts (show (Tryz.prog.info? 9).map (fun i => (i.zero, i.size, i.bytes)) = some (some (.string ⟨#[]⟩), 1, 16) by kernel_rfl)
  have cs := Stepx.stepsOf_any a cap L w hN hlen
  have HT : Hid (OpTab w ∧ Pow w) := ⟨hT, hP⟩
  clear hN hT hP
  cases hx : exprB L with
  | false =>
    have e1 : exprT L = ⟨#[]⟩ := by unfold exprT; rw [hx]; rfl
    rw [e1]
    rw [hx] at cs
    generalize L.length = len at *
    go_enter Tryz.func35, Tryz.ntmps35
    go_wp2_with fail
    refine cs.mono ?_
    rintro e w1 ⟨⟨sv, rfl, hrow⟩, b1⟩
    have B1 : Hid (Below w.heap.size w w1) := b1
    clear hrow b1 cs
    go_wp2
    go_ret
    exact ⟨rfl, B1.out⟩
  | true =>
    have e1 : exprT L = ⟨(Lib.join ((words L).map (·.data.toList)) [32]).toArray⟩ := by unfold exprT; rw [if_pos hx]
    rw [e1]
    rw [hx] at cs
    obtain ⟨R, hR⟩ : ∃ R : ByteArray, R = ⟨(Lib.join ((words L).map (·.data.toList)) [32]).toArray⟩ := ⟨_, rfl⟩
    have HR : Hid (R = ⟨(Lib.join ((words L).map (·.data.toList)) [32]).toArray⟩) := hR
    rw [← hR]
    clear hR e1
    have hrun : run 0 L = some 1 := by
      have := hx
      unfold exprB at this
      simp at this
      exact this.2
    have hl30 : L.length ≤ 30 := by
      have := hx
      unfold exprB at this
      simp at this
      exact this.1
    have HOK : Hid (∀ x ∈ L, NodeOk x) := nodes_ok hrun
    go_enter Tryz.func35, Tryz.ntmps35
    go_wp2_with fail
    refine cs.mono ?_
    rintro e w1 ⟨⟨sv, rfl, hrow⟩, b1⟩
    have ROW : Hid (w1.ownsRow w.heap.size 123 1 sv L.length (L.map fun x => stepV x.1 x.2.1 x.2.2)) := hrow rfl
    have B1 : Hid (Below w.heap.size w w1) := b1
    clear hrow b1 cs
    obtain ⟨gs, scap, hsv, SC, hgl⟩ : ∃ gs scap, sv = .slice (some ⟨gs, 0, none⟩) L.length scap ∧ (∀ k (h : k < L.length), w1.cell? ⟨gs, k, none⟩ = some (stepV L[k].1 L[k].2.1 L[k].2.2)) ∧ gs < w1.heap.size := by
      rcases ROW.out.2 with ⟨hv, h0⟩ | ⟨g, c, cur, hv, _⟩
      · exfalso
        rw [List.length_eq_zero_iff.1 h0] at hrun
        cases hrun
      · refine ⟨g, c, hv, fun k h => ?_, (ROW.out.lt g (by rw [hv]; rfl)).2⟩
        have := ROW.out
        rw [hv] at this
        exact (this.cellAt k (by omega)).trans (by simp [h])
    subst hsv
    have HSC : Hid (∀ k (h : k < L.length), w1.cell? ⟨gs, k, none⟩ = some (stepV L[k].1 L[k].2.1 L[k].2.2)) := SC
    have hpos : Hid (0 < L.length) := by
      show 0 < L.length
      rcases Nat.eq_zero_or_pos L.length with h | h
      · rw [List.length_eq_zero_iff.1 h] at hrun; cases hrun
      · exact h
    obtain ⟨len, hl⟩ : ∃ len, len = L.length := ⟨_, rfl⟩
    have HL : Hid (len = L.length) := hl
    rw [← hl] at hl30 ⊢
    clear hl hrun SC hx hlen ROW
    have HWL : Hid ((words L).length = len) := by show _ = _; unfold words; rw [List.length_map, HL.out]
    go_wp2_with fail
    go_loopw [5, 17] (fun x i wr => ∃ (k : Nat) (wo : Option Addr) (wc : Nat), k ≤ len ∧ i = .int .i64 k ∧ x = .slice wo k wc ∧ Hid (wr.ownsRow w1.heap.size 9 1 (.slice wo k wc) k (((words L).take k).map Value.string)) ∧ Hid (Below w1.heap.size w1 wr)) (fun _ i _ => len - (intOf i).toNat)
    case atStart => exact ⟨0, none, 0, Nat.zero_le _, rfl, rfl, World.ownsRow_nil _ _ _ _, Below.refl _ _⟩
    case round =>
      obtain ⟨k, wo, wc, hk, rfl, rfl, hown, hbel⟩ := hrel
      have BW : Hid (Below w.heap.size w wr) := B1.out.trans (hbel.out.mono B1.out.size)
      by_cases hlt : k < len
      · have hkL : k < L.length := by have := HL.out; omega
        have c_s := (hbel.out.cell (p := ⟨gs, k, none⟩) hgl).trans (HSC.out k hkL)
        have c := fun W hT hP => stepText_any L[k] W (HOK.out _ (List.getElem_mem hkL)) hT hP
        have HTk : Hid (((words L).take (k + 1)).map Value.string = ((words L).take k).map Value.string ++ [.string (wordB L[k])]) := by
          show _ = _
          have hk2 : k < (words L).length := by rw [HWL.out]; exact hlt
          have hw := words_get hk2 hkL
          rw [List.take_succ_eq_append_getElem hk2, List.map_append, hw]; rfl
        generalize stepV L[k].1 L[k].2.1 L[k].2.2 = SV at c_s c
        generalize wordB L[k] = wd at c HTk
        go_wp2_with (first
          | (go_at_call 83; refine (c _ (HT.out.1.below BW.out) (HT.out.2.below BW.out)).mono ?_; rintro e w3 ⟨rfl, b3⟩; have V3 : Hid (w3.ownsRow w1.heap.size 9 1 (.slice wo k wc) k (((words L).take k).map Value.string)) := own_below hown.out b3; have B3 : Hid (Below w1.heap.size w1 w3) := hbel.out.trans (b3.mono hbel.out.size); clear b3)
          | (at_builtin; refine wpList_append_own _ rfl _ _ 111 rfl w1.heap.size 9 i0 (.string ⟨#[]⟩) 1 16 Tryz.underlying111 hi hz0 hz1 hz2 rfl (by decide) (.slice wo k wc) k (((words L).take k).map Value.string) rfl (V3.out.alloc _) ⟨w3.heap.size, 0, none⟩ 1 1 [.string wd] rfl rfl (cell_one_new _ _ _) (by intro u hu; simp at hu; subst hu; rfl) (by unfold maxLen; omega) (by omega) (by have := B3.out.size; simp; omega) ?_)
          | go_in)
        all_goals
          intro v' w4 hown' hgrow _
          have OW : Hid (w4.ownsRow w1.heap.size 9 1 v' (k + 1) (((words L).take (k + 1)).map Value.string)) := by
            show World.ownsRow _ _ _ _ _ _ _
            rw [HTk.out, List.map_take]; exact hown'
          have BW4 : Hid (Below w1.heap.size w1 w4) := (B3.out.alloc B3.out.size _).grown hgrow (by have := B3.out.size; simp; omega) (fun q hq => (V3.out.lt q hq).1)
          obtain ⟨ao', cap', rfl⟩ : ∃ ao' cap', v' = .slice ao' (k + 1) cap' := by
            rcases hown'.2 with ⟨_, h⟩ | ⟨g', c', cur', hv', _⟩
            · omega
            · exact ⟨_, _, hv'⟩
          clear hown' hgrow V3 B3
          go_wp2_with fail
          go_roundw
          case rel => exact ⟨k + 1, ao', cap', by omega, by go_num, rfl, OW.out, BW4.out⟩
          case measure => simp [intOf]; omega
      · have e : k = len := by omega
        subst e
        have hkp : 0 < k := by rw [HL.out]; exact hpos.out
        have hall : (words L).take k = words L := by rw [← HWL.out]; exact List.take_length
        obtain ⟨g, rfl, hwc⟩ : ∃ g, wo = some ⟨g, 0, none⟩ ∧ k ≤ wc := by
          rcases hown.out.2 with ⟨hv, h0⟩ | ⟨g', c', cur', hv', _, _, hn, _⟩
          · omega
          · cases hv'; exact ⟨_, rfl, hn⟩
        have own2 := hown.out
        rw [hall] at own2
        have cj := Tryz.strings_Join g 0 wc (words L) ⟨#[32]⟩ wr (fun j x hj => by
          have hj' : j < k := by rw [← HWL.out]; exact (List.getElem?_eq_some_iff.1 hj).1
          rw [Nat.zero_add, own2.cellAt j (by omega)]
          simp [hj]) (own2.lt g rfl).2 (by rw [HWL.out]; omega) (by rw [HWL.out]; exact hwc) (by
            have := join_len (words L) (fun x hx => by
              unfold words at hx
              obtain ⟨y, hy, rfl⟩ := List.mem_map.1 hx
              exact word_len (HOK.out y hy))
            rw [HWL.out] at this
            show (Lib.join ((words L).map (·.data.toList)) [32]).length ≤ _
            omega)
        rw [HWL.out] at cj
        have cj2 : Calls Tryz.prog 79 #[.slice (some ⟨g, 0, none⟩) k wc, .string ⟨#[32]⟩] wr fun e w' => e = .returned (.string R) ∧ Below wr.heap.size wr w' := by rw [HR.out]; exact cj
        clear cj own2 hown hall
        go_wp2_with fail
        refine cj2.mono ?_
        rintro e w5 ⟨rfl, b5⟩
        have B5 : Hid (Below w.heap.size w w5) := BW.out.trans (b5.mono BW.out.size)
        clear b5 cj2
        go_wp2
        go_ret
        exact ⟨rfl, B5.out⟩
end Go.Proofs.YtplkglgaobdpiaaGreatDoor.Extx
