/-
  A contract of ours for spec.NamesIn.
-/
import Derived.Test.YtfgabgihdcokdaaNamq
namespace Go.Proofs.Ytfgabgihdcokdaa.Namr
open Go.ChangeShapes Go.WideShapes Go.ChangeAt Go.RowKit Go.Deep
open Namp Namq
open Stepx (Nodes exprB)
set_option linter.unusedVariables false
set_option maxRecDepth 20000
def namesT (L : List Stepx.Node) : List T := (L.map fun x => x.2.2.data.toList).filter fun t => !t.isEmpty
def outN (L : List Stepx.Node) : List T := if exprB L = true then (namesT L).foldl put [] else []
theorem names_step {L : List Stepx.Node} {k : Nat} (h : k < L.length) : namesT (L.take (k + 1)) = namesT (L.take k) ++ (if L[k].2.2.data.toList.isEmpty then [] else [L[k].2.2.data.toList]) := by
  unfold namesT
  rw [List.take_add_one, List.getElem?_eq_getElem h, List.map_append, List.filter_append]
  congr 1
  show List.filter _ [_] = _
  cases h2 : L[k].2.2.data.toList.isEmpty <;> simp [List.filter, h2]
theorem put_len (l : List T) (s : T) : (put l s).length ≤ l.length + 1 := by
  induction l with
  | nil => exact Nat.le_refl _
  | cons x l ih =>
    unfold put
    split
    · rw [List.length_cons, List.length_cons]; omega
    split
    · exact Nat.le_succ _
    · exact Nat.le_refl _
def foldN (L : List Stepx.Node) (k : Nat) : List T := (namesT (L.take k)).foldl put []
theorem fold_step {L : List Stepx.Node} {k : Nat} (h : k < L.length) : foldN L (k + 1) = if L[k].2.2.data.toList.isEmpty = true then foldN L k else put (foldN L k) L[k].2.2.data.toList := by
  unfold foldN
  rw [names_step h, List.foldl_append]
  split <;> rfl
def RowAt (w : World) (g cap : Nat) (R : List T) : Prop := g < w.heap.size ∧ R.length ≤ cap ∧ cap ≤ maxLen ∧ ∀ k (h : k < R.length), w.cell? ⟨g, k, none⟩ = some (cell R[k])
theorem RowAt.below {w w' : World} {g cap : Nat} {R : List T} (h : RowAt w g cap R) (hb : Below w.heap.size w w') : RowAt w' g cap R :=
  ⟨Nat.lt_of_lt_of_le h.1 hb.size, h.2.1, h.2.2.1, fun k hk => (hb.cell (p := ⟨g, k, none⟩) h.1).trans (h.2.2.2 k hk)⟩
theorem put_any (g cap : Nat) (R : List T) (x : ByteArray) (w : World) (h : RowAt w g cap R) (hl : R.length ≤ 100) :
    Calls Try.prog 24 #[.slice (some ⟨g, 0, none⟩) R.length cap, .string x] w fun e w' => Putted w w' e (put R x.data.toList) :=
  l2Put_any g cap R x.data.toList w hl h.2.1 h.2.2.1 h.1 h.2.2.2
set_option maxHeartbeats 2000000 in
theorem specNames_any (a : Option Addr) (cap : Nat) (L : List Stepx.Node) (w : World) (hN : Nodes w a L) (hlen : L.length ≤ 1048576) :
    Calls Try.prog 12 #[.slice a L.length cap] w fun e w' => Putted w w' e (outN L) := by
  have H : Hid (Nodes w a L) := hN
  clear hN
  have R0 : Hid (RowAt (w.alloc (.cells #[] 9)) w.heap.size 0 []) := ⟨by simp, Nat.le_refl _, by unfold maxLen; omega, fun k h => absurd h (Nat.not_lt_zero _)⟩
  go_enter Try.func12, Try.ntmps12
  go_wp2_with fail
  go_loopw [3, 4] (fun x y wr => ∃ (k g c : Nat), k ≤ L.length ∧ (foldN L k).length ≤ k ∧ x = .slice (some ⟨g, 0, none⟩) (foldN L k).length c ∧ y = .int .i64 (k : Int) ∧ Hid (RowAt wr g c (foldN L k)) ∧ Hid (exprB L = false → k = 0) ∧ Hid (Below w.heap.size w wr)) (fun _ y _ => L.length - (intOf y).toNat)
  case atStart => exact ⟨0, w.heap.size, 0, Nat.zero_le _, Nat.le_refl _, rfl, rfl, R0.out, fun _ => rfl, (Below.refl _ _).alloc (Nat.le_refl _) _⟩
  case round =>
    obtain ⟨k, g, c, hk, hfl, rfl, rfl, hrow, hbad, hbel⟩ := hrel
    have cs := Specx.exprOk_any a cap L wr (Mirror.Nodes.below H.out hbel.out) hlen
    have OUT : Hid (outN L = if exprB L = true then foldN L L.length else []) := by
      show _ = _
      unfold outN foldN
      rw [List.take_length]
    clear R0
    cases hx : exprB L with
    | false =>
      have hk0 := hbad.out hx
      subst hk0
      rw [hx] at cs OUT
      have OUT2 : Hid (outN L = foldN L 0) := OUT.out
      clear OUT hx
      generalize foldN L 0 = R at *
      go_wp2_with (go_at_call 18; refine cs.mono ?_; rintro e w1 ⟨rfl, b1⟩; have B1 : Hid (Below wr.heap.size wr w1) := b1; clear b1)
      go_ret
      have r := hrow.out.below B1.out
      exact ⟨g, c, by rw [OUT2.out]; rfl, r.1, by rw [OUT2.out]; exact r.2.1, r.2.2.1, by rw [OUT2.out]; exact r.2.2.2, hbel.out.trans (B1.out.mono hbel.out.size)⟩
    | true =>
      rw [hx] at cs OUT
      have h30 : L.length ≤ 30 := by
        unfold Stepx.exprB at hx
        exact of_decide_eq_true (Bool.and_eq_true_iff.1 hx).1
      clear hx hbad
      by_cases hlt : k < L.length
      · have k0 : (0 : Int) ≤ (k : Int) := by omega
        have k1 : (k : Int) < (L.length : Int) := by omega
        have FS := (show Hid _ from fold_step hlt)
        rcases H.out with he | ⟨b, off, rfl, hbl, hcl⟩
        · rw [he] at hlt; exact absurd hlt (Nat.not_lt_zero _)
        · obtain ⟨_, _, hc2, _⟩ := hcl k hlt
          have HC : Hid (w.cell? ⟨b, off + k * 3 + 2, none⟩ = some (.string L[k].2.2)) := by first | exact hc2 | (have h := hc2; rw [Nat.add_assoc]; exact h)
          have HBL : Hid (b < w.heap.size) := hbl
          clear hc2 hcl hbl
          generalize L[k].2.2 = X at *
          have put1 := fun W hr => put_any g c (foldN L k) X W hr (by omega)
          have PL := put_len (foldN L k) X.data.toList
          by_cases hz : X.size = 0
          · have e0 : X.toList.isEmpty = true := Names.empty_yes hz
            have FE : Hid (foldN L (k + 1) = foldN L k) := by show _ = _; rw [FS.out, if_pos (by rw [← ByteArray.toList_eq]; exact e0)]
            clear FS put1 PL
            generalize foldN L k = R at *
            go_wp2_with (go_at_call 18; refine cs.mono ?_; rintro e w1 ⟨rfl, b1⟩; have B1 : Hid (Below wr.heap.size wr w1) := b1; clear b1; have c0 := ((hbel.out.trans (B1.out.mono hbel.out.size)).cell (p := ⟨b, off + k * 3 + 2, none⟩) HBL.out).trans HC.out)
            go_roundw
            case rel => exact ⟨k + 1, g, c, by omega, by rw [FE.out]; omega, by rw [FE.out], by go_num, by rw [FE.out]; exact hrow.out.below B1.out, (fun h => by cases h), hbel.out.trans (B1.out.mono hbel.out.size)⟩
            case measure => simp [intOf]; omega
          · have e0 : X.toList.isEmpty = false := Names.empty_no hz
            have FE : Hid (foldN L (k + 1) = put (foldN L k) X.data.toList) := by show _ = _; rw [FS.out, if_neg (by rw [← ByteArray.toList_eq, e0]; decide)]
            clear FS
            generalize put (foldN L k) X.data.toList = R2 at *
            generalize foldN L k = R at *
            go_wp2_with (first | (go_at_call 18; refine cs.mono ?_; rintro e w1 ⟨rfl, b1⟩; have B1 : Hid (Below wr.heap.size wr w1) := b1; clear b1; have c0 := ((hbel.out.trans (B1.out.mono hbel.out.size)).cell (p := ⟨b, off + k * 3 + 2, none⟩) HBL.out).trans HC.out) | (go_at_call 24; refine (put1 _ (hrow.out.below B1.out)).mono ?_; rintro e w2 ⟨g2, c2, rfl, q1, q2, q3, q4, b2⟩; have Q : Hid (RowAt w2 g2 c2 R2 ∧ Below w1.heap.size w1 w2) := ⟨⟨q1, q2, q3, q4⟩, b2⟩; clear q1 q2 q3 q4 b2))
            go_roundw
            case rel => exact ⟨k + 1, g2, c2, by omega, by rw [FE.out]; omega, by rw [FE.out], by go_num, by rw [FE.out]; exact Q.out.1, (fun h => by cases h), (hbel.out.trans (B1.out.mono hbel.out.size)).trans (Q.out.2.mono (hbel.out.trans (B1.out.mono hbel.out.size)).size)⟩
            case measure => simp [intOf]; omega
      · have e : k = L.length := by omega
        subst e
        have OUT2 : Hid (outN L = foldN L L.length) := OUT.out
        clear OUT
        generalize foldN L L.length = R at *
        go_wp2_with (go_at_call 18; refine cs.mono ?_; rintro e w1 ⟨rfl, b1⟩; have B1 : Hid (Below wr.heap.size wr w1) := b1; clear b1)
        go_ret
        have r := hrow.out.below B1.out
        exact ⟨g, c, by rw [OUT2.out]; rfl, r.1, by rw [OUT2.out]; exact r.2.1, r.2.2.1, by rw [OUT2.out]; exact r.2.2.2, hbel.out.trans (B1.out.mono hbel.out.size)⟩
end Go.Proofs.Ytfgabgihdcokdaa.Namr
