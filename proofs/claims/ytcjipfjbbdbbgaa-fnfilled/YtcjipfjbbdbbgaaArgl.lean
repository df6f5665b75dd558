/-
  Contracts of ours for both ArgsOf.
-/
import Derived.Test.YtcjipfjbbdbbgaaCuts
namespace Go.Proofs.Ytcjipfjbbdbbgaa.Argl
open Go.ChangeShapes Go.WideShapes Go.ChangeAt Go.RowKit Go.Deep
set_option linter.unusedVariables false
open Txts (Texts infoS)
open Fill (numAt numAt_of)
open Names (ret_bool empty_yes empty_no)
open Argz Cuts

theorem cutB_le (s : ByteArray) (c : Int) : (cutB s c).size ≤ s.size := by
  unfold cutB; split
  · rw [ByteArray.size_extract]; omega
  · exact Nat.zero_le _
/-- What stands between commas. -/
def pieces (s : ByteArray) : List ByteArray := if h : cutF s 44 = true then cutA s 44 :: pieces (cutB s 44) else [cutA s 44]
termination_by s.size
decreasing_by exact cutB_lt h
def moreL (x y : ByteArray) (f : Bool) : List ByteArray := if f = true then x :: pieces y else [x]
theorem pieces_eq (s : ByteArray) : pieces s = moreL (cutA s 44) (cutB s 44) (cutF s 44) := by rw [pieces, moreL]; split <;> rfl
def argsL (s : ByteArray) : List ByteArray := if 0 < s.size ∧ okB s = true then pieces s else []
theorem args_yes {s : ByteArray} (h : 0 < s.size) (h1 : okB s = true) : argsL s = pieces s := if_pos ⟨h, h1⟩
theorem args_no {s : ByteArray} (h : ¬ (0 < s.size ∧ okB s = true)) : argsL s = [] := if_neg h
theorem pieces_len (s : ByteArray) : (pieces s).length ≤ s.size + 1 := by
  induction hn : s.size using Nat.strongRecOn generalizing s with
  | _ n ih =>
    rw [pieces]
    split
    · rename_i h
      have := ih _ (by have := cutB_lt h; omega) (cutB s 44) rfl
      have := cutB_lt h
      simp only [List.length_cons]
      omega
    · simp
theorem args_len (s : ByteArray) : (argsL s).length ≤ s.size + 1 := by
  unfold argsL; split
  · exact pieces_len s
  · simp

theorem own_below {w w1 : World} {base : Nat} {e : TypeId} {size : Nat} {v : Value} {n : Nat} {xs : List Value} (h : w.ownsRow base e size v n xs) (hb : Below w.heap.size w w1) : w1.ownsRow base e size v n xs :=
  h.kept (row := none) ⟨hb.os, hb.tape, hb.output, hb.size, fun k hk _ => hb.block k hk⟩ (by cases hv : Value.ownBlock v <;> simp)
def Owned (w w' : World) (v : Value) (L : List ByteArray) : Prop := w'.ownsRow w.heap.size 9 1 v L.length (L.map Value.string) ∧ Below w.heap.size w w'
theorem own_snoc {w : World} {base n : Nat} {v : Value} {D : List ByteArray} {x : ByteArray} (h : w.ownsRow base 9 1 v (n + 1) (D.map Value.string ++ [.string x])) (hn : n = D.length) : w.ownsRow base 9 1 v (D ++ [x]).length ((D ++ [x]).map Value.string) := by
  rw [List.map_append, List.length_append]; rw [hn] at h; exact h
theorem own_nil (w : World) : Owned w w (.slice none 0 0) [] := ⟨World.ownsRow_nil _ _ _ _, Below.refl _ _⟩
/-- How much is left. -/
def msr : Value → Value → Nat
  | .bool true, .string y => y.size + 1
  | _, _ => 0

set_option maxHeartbeats 2000000 in
theorem implArgs_any (s : ByteArray) (w : World) (hs : s.size ≤ 1048576) :
    Calls Try.prog 7 #[.string s] w fun e w' => ∃ v, e = .returned v ∧ Owned w w' v (argsL s) := by
  obtain ⟨i0, hi, hz0, hz1, hz2⟩ := info_parts infoS
  have co := fun w => argsOk_any s w hs
  by_cases h0 : s.size = 0
  · have he := empty_yes h0
    have HE : Hid (argsL s = []) := args_no (by omega)
    clear co
    go_enter Try.func7, Try.ntmps7
    go_wp2
    go_ret
    exact ⟨_, rfl, by rw [HE.out]; exact own_nil w⟩
  have he := empty_no h0
  by_cases hok' : okB s = false
  · have HE : Hid (argsL s = []) := args_no (by rw [hok']; simp)
    rw [hok'] at co
    clear hok'
    go_enter Try.func7, Try.ntmps7
    go_wp2_with (go_at_call 18; refine (co _).mono ?_; rintro e w' ⟨rfl, rfl⟩)
    go_ret
    exact ⟨_, rfl, by rw [HE.out]; exact own_nil _⟩
  have hok : okB s = true := by simpa using hok'
  clear hok'
  have HE : Hid (argsL s = moreL (cutA s 44) (cutB s 44) (cutF s 44)) := (args_yes (by omega) hok).trans (pieces_eq s)
  rw [hok] at co
  have hB : cutF s 44 = true → (cutB s 44).size < s.size := cutB_lt
  have hA := cutA_le s 44
  have cp := fun w => parted_any s 44 w hs
  obtain ⟨x0, hx0⟩ : ∃ x, x = cutA s 44 := ⟨_, rfl⟩
  obtain ⟨y0, hy0⟩ : ∃ y, y = cutB s 44 := ⟨_, rfl⟩
  obtain ⟨f0, hf0⟩ : ∃ f, f = cutF s 44 := ⟨_, rfl⟩
  have hy1 : y0.size ≤ s.size := by rw [hy0]; exact cutB_le _ _
  rw [← hx0, ← hy0, ← hf0] at HE cp
  rw [← hf0, ← hy0] at hB
  rw [← hx0] at hA
  have HB := (show Hid _ from hB)
  clear hB hx0 hy0 hf0 hok
  obtain ⟨L, hL⟩ : ∃ L, L = argsL s := ⟨_, rfl⟩
  rw [← hL] at HE ⊢
  clear hL
  go_enter Try.func7, Try.ntmps7
  go_wp2_with (first | (go_at_call 18; refine (co _).mono ?_; rintro e w' ⟨rfl, hw'⟩; have hw' := hw'.symm; subst hw') | fail)
  refine (cp _).mono ?_
  rintro e w1 ⟨rfl, n1, hw1⟩
  have b1 : Hid (Below w.heap.size w w1) := by rw [hw1]; exact below_drewN (Below.refl _ _) _
  clear hw1 co cp
  go_wp2
  go_loopw [3, 4, 5, 6] (fun v x y f wr => ∃ (D : List ByteArray) (x' y' : ByteArray) (f' : Bool), x = .string x' ∧ y = .string y' ∧ f = .bool f' ∧ x'.size ≤ s.size ∧ y'.size ≤ s.size ∧ Hid (f' = true → D.length + y'.size + 1 ≤ s.size) ∧ D.length ≤ s.size ∧ Hid (L = D ++ moreL x' y' f') ∧ Hid (wr.ownsRow w.heap.size 9 1 v D.length (D.map Value.string)) ∧ Hid (Below w.heap.size w wr)) (fun _ _ y f _ => msr f y)
  case atStart => exact ⟨[], x0, y0, f0, rfl, rfl, rfl, hA, hy1, fun h => by have := HB.out h; simp; omega, Nat.zero_le _, HE.out, World.ownsRow_nil _ _ _ _, b1.out⟩
  case round =>
    obtain ⟨D, x, y, f, rfl, rfl, rfl, hx, hy, hm, hd, hr, hown, hbel⟩ := hrel
    clear HB HE b1
    cases f
    · have HR : Hid (L = D ++ [x]) := hr.out
      clear hr hm
      have hlt2 := hown.out.lt
      go_wp2_with (first | (at_builtin; refine wpList_append_own _ rfl (.tmp 31) (.tmp 33) 25 rfl w.heap.size 9 i0 (.string ⟨#[]⟩) 1 16 Try.underlying25 hi hz0 hz1 hz2 rfl (by decide) _ _ _ rfl (hown.out.alloc _) ⟨wr.heap.size, 0, none⟩ 1 1 [.string x] rfl rfl (cell_one_new _ _ _) (by intro u hu; simp at hu; subst hu; rfl) (by unfold maxLen; omega) (by omega) (by have := hbel.out.size; simp; omega) ?_; intro v' w2 hown' hgrow _) | go_in)
      go_wp2
      go_ret
      exact ⟨_, rfl, by rw [HR.out]; exact ⟨own_snoc hown' rfl, (hbel.out.alloc hbel.out.size _).grown hgrow (by have := hbel.out.size; simp; omega) (fun j hj => (hlt2 j hj).1)⟩⟩
    · have hm1 := hm.out rfl
      have HR : Hid (L = (D ++ [x]) ++ moreL (cutA y 44) (cutB y 44) (cutF y 44)) := by
        have := hr.out
        rw [show moreL x y true = [x] ++ pieces y from rfl, pieces_eq, ← List.append_assoc] at this
        exact this
      have cp := fun w => parted_any y 44 w (by omega)
      have hB : cutF y 44 = true → (cutB y 44).size < y.size := cutB_lt
      have hA := cutA_le y 44
      obtain ⟨x1, hx1⟩ : ∃ x, x = cutA y 44 := ⟨_, rfl⟩
      obtain ⟨y1, hy1'⟩ : ∃ y', y' = cutB y 44 := ⟨_, rfl⟩
      obtain ⟨f1, hf1⟩ : ∃ f, f = cutF y 44 := ⟨_, rfl⟩
      have hy2 : y1.size ≤ y.size := by rw [hy1']; exact cutB_le _ _
      rw [← hx1, ← hy1', ← hf1] at HR cp
      rw [← hf1, ← hy1'] at hB
      rw [← hx1] at hA
      have HB := (show Hid _ from hB)
      clear hB hx1 hy1' hf1 hm hr
      have hlt2 := hown.out.lt
      go_wp2_with (first | (at_builtin; refine wpList_append_own _ rfl (.tmp 21) (.tmp 23) 25 rfl w.heap.size 9 i0 (.string ⟨#[]⟩) 1 16 Try.underlying25 hi hz0 hz1 hz2 rfl (by decide) _ _ _ rfl (hown.out.alloc _) ⟨wr.heap.size, 0, none⟩ 1 1 [.string x] rfl rfl (cell_one_new _ _ _) (by intro u hu; simp at hu; subst hu; rfl) (by unfold maxLen; omega) (by omega) (by have := hbel.out.size; simp; omega) ?_; intro v' w2 hown' hgrow _) | fail)
      have own2 : Hid (w2.ownsRow w.heap.size 9 1 v' (D ++ [x]).length ((D ++ [x]).map Value.string)) := own_snoc hown' rfl
      have bel2 : Hid (Below w.heap.size w w2) := (hbel.out.alloc hbel.out.size _).grown hgrow (by have := hbel.out.size; simp; omega) (fun j hj => (hlt2 j hj).1)
      clear hown' hgrow hown hbel hlt2
      go_wp2_with fail
      refine (cp _).mono ?_
      rintro e w3 ⟨rfl, n3, hw3⟩
      have b3 : Hid (Below w2.heap.size w2 w3) := by rw [hw3]; exact below_drewN (Below.refl _ _) _
      clear hw3 cp
      go_wp2
      go_roundw
      case rel => exact ⟨D ++ [x], x1, y1, f1, rfl, rfl, rfl, by omega, by omega, fun h => by have := HB.out h; simp; omega, by simp; omega, HR.out, own_below own2.out b3.out, bel2.out.trans (b3.out.mono bel2.out.size)⟩
      case measure => cases f1 <;> simp [msr]; have := HB.out rfl; omega

set_option maxHeartbeats 2000000 in
theorem specArgs_any (s : ByteArray) (w : World) (hs : s.size ≤ 1048576) :
    Calls Try.prog 9 #[.string s] w fun e w' => ∃ v, e = .returned v ∧ Owned w w' v (argsL s) := by
  obtain ⟨i0, hi, hz0, hz1, hz2⟩ := info_parts infoS
  have co := fun w => l7Args_any s w hs
  have own0 : Hid ((w.alloc (.cells #[] 9)).ownsRow w.heap.size 9 1 (.slice (some ⟨w.heap.size, 0, none⟩) 0 0) 0 []) := World.ownsRow_lit w #[] 0 (Nat.le_refl _) (Nat.zero_le _) rfl
  have bel0 : Hid (Below w.heap.size w (w.alloc (.cells #[] 9))) := (Below.refl _ _).alloc (Nat.le_refl _) _
  by_cases h0 : s.size = 0
  · have he := empty_yes h0
    have HE : Hid (argsL s = []) := args_no (by omega)
    clear co
    go_enter Try.func9, Try.ntmps9
    go_wp2
    go_ret
    exact ⟨_, rfl, by rw [HE.out]; exact ⟨own0.out, bel0.out⟩⟩
  have he := empty_no h0
  by_cases hok' : okB s = false
  · have HE : Hid (argsL s = []) := args_no (by rw [hok']; simp)
    rw [hok'] at co
    clear hok'
    go_enter Try.func9, Try.ntmps9
    go_wp2_with (go_at_call 20; refine (co _).mono ?_; rintro e w' ⟨rfl, rfl⟩)
    go_ret
    exact ⟨_, rfl, by rw [HE.out]; exact ⟨own0.out, bel0.out⟩⟩
  have hok : okB s = true := by simpa using hok'
  clear hok'
  have HE : Hid (argsL s = pieces s) := args_yes (by omega) hok
  rw [hok] at co
  clear hok
  obtain ⟨L, hL⟩ : ∃ L, L = argsL s := ⟨_, rfl⟩
  rw [← hL] at HE ⊢
  clear hL
  go_enter Try.func9, Try.ntmps9
  go_wp2_with (go_at_call 20; refine (co _).mono ?_; rintro e w' ⟨rfl, rfl⟩)
  go_loopw [3, 4, 5] (fun v y f wr => ∃ (D : List ByteArray) (y' : ByteArray) (f' : Bool), y = .string y' ∧ f = .bool f' ∧ y'.size ≤ s.size ∧ Hid (f' = true → D.length + y'.size ≤ s.size) ∧ D.length ≤ s.size + 1 ∧ Hid (L = D ++ (if f' = true then pieces y' else [])) ∧ Hid (wr.ownsRow w.heap.size 9 1 v D.length (D.map Value.string)) ∧ Hid (Below w.heap.size w wr)) (fun _ y f _ => msr f y)
  case atStart => exact ⟨[], s, true, rfl, rfl, Nat.le_refl _, fun h => by simp, Nat.zero_le _, HE.out, own0.out, bel0.out⟩
  case round =>
    obtain ⟨D, y, f, rfl, rfl, hy, hm, hd, hr, hown, hbel⟩ := hrel
    clear HE own0 bel0 co
    cases f
    · have HR : Hid (L = D) := (show L = D from by have := hr.out; rw [if_neg (by decide), List.append_nil] at this; exact this)
      clear hr hm
      go_wp2
      go_ret
      exact ⟨_, rfl, by rw [HR.out]; exact ⟨hown.out, hbel.out⟩⟩
    · have hm1 := hm.out rfl
      have HR : Hid (L = (D ++ [cutA y 44]) ++ (if cutF y 44 = true then pieces (cutB y 44) else [])) := (show L = (D ++ [cutA y 44]) ++ (if cutF y 44 = true then pieces (cutB y 44) else []) from by
        have := hr.out
        rw [if_pos rfl, pieces] at this
        rw [this]
        split <;> simp)
      have cp := fun w => l1Cut_any y 44 w (by omega)
      have hB : cutF y 44 = true → (cutB y 44).size < y.size := cutB_lt
      obtain ⟨x1, hx1⟩ : ∃ x, x = cutA y 44 := ⟨_, rfl⟩
      obtain ⟨y1, hy1'⟩ : ∃ y', y' = cutB y 44 := ⟨_, rfl⟩
      obtain ⟨f1, hf1⟩ : ∃ f, f = cutF y 44 := ⟨_, rfl⟩
      have hy2 : y1.size ≤ y.size := by rw [hy1']; exact cutB_le _ _
      rw [← hx1, ← hy1', ← hf1] at HR cp
      rw [← hf1, ← hy1'] at hB
      have HB := (show Hid _ from hB)
      clear hB hx1 hy1' hf1 hm hr
      go_wp2_with fail
      refine (cp _).mono ?_
      rintro e w1 ⟨rfl, n1, hw1⟩
      have b1 : Hid (Below wr.heap.size wr w1) := by rw [hw1]; exact below_drewN (Below.refl _ _) _
      have own1 : Hid (w1.ownsRow w.heap.size 9 1 u3 D.length (D.map Value.string)) := own_below hown.out b1.out
      have bel1 : Hid (Below w.heap.size w w1) := hbel.out.trans (b1.out.mono hbel.out.size)
      clear hw1 cp hown hbel b1
      have hlt2 := own1.out.lt
      go_wp2_with (first | (at_builtin; refine wpList_append_own _ rfl (.tmp 24) (.tmp 26) 25 rfl w.heap.size 9 i0 (.string ⟨#[]⟩) 1 16 Try.underlying25 hi hz0 hz1 hz2 rfl (by decide) _ _ _ rfl (own1.out.alloc _) ⟨w1.heap.size, 0, none⟩ 1 1 [.string x1] rfl rfl (cell_one_new _ _ _) (by intro u hu; simp at hu; subst hu; rfl) (by unfold maxLen; omega) (by omega) (by have := bel1.out.size; simp; omega) ?_; intro v' w2 hown' hgrow _) | go_in)
      go_wp2
      go_roundw
      case rel => exact ⟨D ++ [x1], y1, f1, rfl, rfl, by omega, fun h => by have := HB.out h; simp; omega, by simp; omega, HR.out, own_snoc hown' rfl, (bel1.out.alloc bel1.out.size _).grown hgrow (by have := bel1.out.size; simp; omega) (fun j hj => (hlt2 j hj).1)⟩
      case measure => cases f1 <;> simp [msr]; have := HB.out rfl; omega
end Go.Proofs.Ytcjipfjbbdbbgaa.Argl
