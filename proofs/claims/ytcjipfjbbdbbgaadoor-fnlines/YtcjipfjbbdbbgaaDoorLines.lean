/-
  Contracts of ours for lines: impl.lettersAlone, spec.l7Op; the text of a line by both sides.
-/
import Derived.Test.YtcjipfjbbdbbgaaDoorCuts
import Derived.Test.YtcjipfjbbdbbgaaDoorShelf
namespace Go.Proofs.YtcjipfjbbdbbgaaDoor.Lines
open Go.ChangeShapes Go.WideShapes Go.ChangeAt Go.RowKit Go.Deep
set_option linter.unusedVariables false
open Txts (Texts infoS)
open Fill (numAt numAt_of)
open Names (ret_bool empty_yes empty_no nameB implName_any specName_any)
open Argz

def lowB (c : Int) : Bool := decide (97 ≤ c ∧ c ≤ 122)
def letsB (s : ByteArray) : Bool := decide (∀ k, k < s.size → lowB (numAt s k) = true)
theorem lets_no {s : ByteArray} {k : Nat} (h : k < s.size) (hs : ¬ (97 ≤ (s[k].toNat : Int) ∧ (s[k].toNat : Int) ≤ 122)) : letsB s = false := decide_eq_false (fun hh => by have := hh k h; rw [numAt_of h] at this; exact hs (of_decide_eq_true this))
def JL (s : ByteArray) (w : World) (a' : Act) (w' : World) : Prop := w' = w ∧ letsB s = false ∧ ∃ u0 u1 u2 u3 u4 u5 u6 u7 u8 u9 u10 u11 u12 u13 u14 u15 u16 u17 u18 u19 : Value, a' = { tmps := #[u0, u1, u2, u3, u4, u5, u6, u7, u8, u9, u10, u11, u12, u13, u14, u15, u16, u17, u18, u19], defers := [] }

set_option maxHeartbeats 1000000 in
theorem letters_any (s : ByteArray) (w : World) (hs : s.size ≤ 1048576) :
    Calls Tryd.prog 17 #[.string s] w fun e w' => e = .returned (.bool (letsB s)) ∧ w' = w := by
  go_enter Tryd.func17, Tryd.ntmps17
  go_wp2
  refine wp_scope_jumps 0 (JL s w) (fun _ _ => 0) rfl ?_ (by
    rintro a' w' ⟨rfl, hn, u0, u1, u2, u3, u4, u5, u6, u7, u8, u9, u10, u11, u12, u13, u14, u15, u16, u17, u18, u19, rfl⟩
    have HN := (show Hid _ from hn)
    clear hn
    go_wp2
    simp only [Exit.jump]
    go_ret
    exact ⟨ret_bool HN.out.symm, rfl⟩)
  go_wp2
  go_loop [6] (fun i => ∃ (k : Nat), k ≤ s.size ∧ i = .int .i64 k ∧ Hid (∀ j, j < k → lowB (numAt s j) = true)) (fun i => s.size - (intOf i).toNat)
  case atStart => exact ⟨0, Nat.zero_le _, rfl, fun j h => absurd h (Nat.not_lt_zero _)⟩
  case round =>
    obtain ⟨k, hk, rfl, hall⟩ := hrel
    by_cases hlt : k < s.size
    · have hb := UInt8.toNat_lt s[k]
      by_cases h1 : (s[k].toNat : Int) < 97
      · have HN : Hid (letsB s = false) := lets_no hlt (by omega)
        clear hall
        go_wp2
        go_step3
        exact (show 0 = 0 ∧ JL s w _ _ from ⟨rfl, rfl, HN.out, _, _, _, _, _, _, _, _, _, _, _, _, _, _, _, _, _, _, _, _, rfl⟩)
      by_cases h2 : 122 < (s[k].toNat : Int)
      · have d2 : decide (122 < (s[k].toNat : Int)) = true := decide_eq_true h2
        have HN : Hid (letsB s = false) := lets_no hlt (by omega)
        clear hall
        go_wp2
        go_step3
        exact (show 0 = 0 ∧ JL s w _ _ from ⟨rfl, rfl, HN.out, _, _, _, _, _, _, _, _, _, _, _, _, _, _, _, _, _, _, _, _, rfl⟩)
      have HS : Hid (∀ j, j < k + 1 → lowB (numAt s j) = true) := fun j hj => by
        by_cases e : j = k
        · subst e; rw [numAt_of hlt]; exact decide_eq_true (by omega)
        · exact hall.out j (by omega)
      have d2 : decide (122 < (s[k].toNat : Int)) = false := decide_eq_false h2
      clear hall
      go_wp2
      go_round
      case rel => exact ⟨k + 1, by omega, by go_num, HS.out⟩
      case measure => simp [intOf]; omega
    · have HN : Hid (letsB s = true) := decide_eq_true (fun j hj => hall.out j (by omega))
      clear hall
      go_wp2
      simp only [Exit.jump]
      go_ret
      exact ⟨ret_bool HN.out.symm, rfl⟩

def opB (s : ByteArray) : Bool := letsB s && decide ((s.size : Int) ≤ 10)
set_option maxHeartbeats 1000000 in
theorem l7Op_any (s : ByteArray) (w : World) (hs : s.size ≤ 1048576) :
    Calls Tryd.prog 20 #[.string s] w fun e w' => e = .returned (.bool (opB s)) ∧ w' = w := by
  go_enter Tryd.func20, Tryd.ntmps20
  go_wp2
  go_loop [3] (fun i => ∃ (k : Nat), k ≤ s.size ∧ i = .int .i64 k ∧ Hid (∀ j, j < k → lowB (numAt s j) = true)) (fun i => s.size - (intOf i).toNat)
  case atStart => exact ⟨0, Nat.zero_le _, rfl, fun j h => absurd h (Nat.not_lt_zero _)⟩
  case round =>
    obtain ⟨k, hk, rfl, hall⟩ := hrel
    by_cases hlt : k < s.size
    · have hb := UInt8.toNat_lt s[k]
      by_cases h1 : (s[k].toNat : Int) < 97
      · have HN : Hid (opB s = false) := (show opB s = false from by unfold opB; rw [lets_no hlt (by omega)]; rfl)
        clear hall
        go_wp2
        go_ret
        exact ⟨ret_bool HN.out.symm, rfl⟩
      by_cases h2 : 122 < (s[k].toNat : Int)
      · have d2 : decide (122 < (s[k].toNat : Int)) = true := decide_eq_true h2
        have HN : Hid (opB s = false) := (show opB s = false from by unfold opB; rw [lets_no hlt (by omega)]; rfl)
        clear hall
        go_wp2
        go_ret
        exact ⟨ret_bool HN.out.symm, rfl⟩
      have HS : Hid (∀ j, j < k + 1 → lowB (numAt s j) = true) := fun j hj => by
        by_cases e : j = k
        · subst e; rw [numAt_of hlt]; exact decide_eq_true (by omega)
        · exact hall.out j (by omega)
      have d2 : decide (122 < (s[k].toNat : Int)) = false := decide_eq_false h2
      clear hall
      go_wp2
      go_round
      case rel => exact ⟨k + 1, by omega, by go_num, HS.out⟩
      case measure => simp [intOf]; omega
    · have HN : Hid (opB s = decide ((s.size : Int) ≤ 10)) := (show opB s = decide ((s.size : Int) ≤ 10) from by
        have : letsB s = true := decide_eq_true (fun j hj => hall.out j (by omega))
        unfold opB; rw [this]; rfl)
      clear hall
      go_wp2
      go_ret
      exact ⟨ret_bool HN.out.symm, rfl⟩

/-- A label and a colon; two texts, a blank between where none is empty; the text of a line. -/
def labT (l : ByteArray) : ByteArray := if l.size = 0 then ⟨#[]⟩ else l ++ ⟨#[58]⟩
def catT (x y : ByteArray) : ByteArray := if x.size = 0 then y else if y.size = 0 then x else x ++ ⟨#[32]⟩ ++ y
def lineT (l o a : ByteArray) : ByteArray := catT (catT (labT l) o) a
theorem labT_no {l : ByteArray} (h : l.size = 0) : labT l = ⟨#[]⟩ := if_pos h
theorem labT_yes {l : ByteArray} (h : ¬ l.size = 0) : labT l = l ++ ⟨#[58]⟩ := if_neg h
theorem catT_l {x y : ByteArray} (h : x.size = 0) : catT x y = y := if_pos h
theorem catT_r {x y : ByteArray} (h : y.size = 0) (h0 : ¬ x.size = 0) : catT x y = x := by unfold catT; rw [if_neg h0, if_pos h]
theorem catT_b {x y : ByteArray} (h : ¬ y.size = 0) (h0 : ¬ x.size = 0) : catT x y = x ++ ⟨#[32]⟩ ++ y := by unfold catT; rw [if_neg h0, if_neg h]
theorem size_zero {y : ByteArray} (h : y.size = 0) : y = ⟨#[]⟩ := by
  apply ByteArray.ext
  exact Array.eq_empty_of_size_eq_zero h
theorem grow {a w : World} (h : Below a.heap.size a w) (o : Obj) : Below a.heap.size a (w.alloc o) := h.alloc h.size o
theorem ret_str {a b : ByteArray} (h : b = a) : Ending.returned (.string a) = .returned (.string b) := by rw [h]
theorem one58 (l : ByteArray) : (l ++ (⟨#[58]⟩ : ByteArray)).size = l.size + 1 := by rw [ByteArray.size_append]; rfl
theorem one32 (l : ByteArray) : (l ++ (⟨#[32]⟩ : ByteArray)).size = l.size + 1 := by rw [ByteArray.size_append]; rfl
theorem join1 (x : ByteArray) : (⟨(Lib.join ([x].map (·.data.toList)) (⟨#[32]⟩ : ByteArray).data.toList).toArray⟩ : ByteArray) = x := by
  simp [Lib.join]
theorem join2 (x y : ByteArray) : (⟨(Lib.join ([x, y].map (·.data.toList)) (⟨#[32]⟩ : ByteArray).data.toList).toArray⟩ : ByteArray) = x ++ ⟨#[32]⟩ ++ y := by
  apply ByteArray.ext
  simp [Lib.join, ByteArray.data_append]
theorem join3 (x y z : ByteArray) : (⟨(Lib.join ([x, y, z].map (·.data.toList)) (⟨#[32]⟩ : ByteArray).data.toList).toArray⟩ : ByteArray) = x ++ ⟨#[32]⟩ ++ y ++ ⟨#[32]⟩ ++ z := by
  apply ByteArray.ext
  simp [Lib.join, ByteArray.data_append]
theorem new2 (w : World) (o1 : Obj) (v : Value) (t : TypeId) : ∀ j u, [v][j]? = some u → ((w.alloc o1).alloc (.cells #[v] t)).cell? ((⟨w.heap.size + 1, 0, none⟩ : Addr).add j) = some u := by
  have h := cell_one_new (w.alloc o1) v t
  simpa using h
theorem box_kept {w w1 : World} {row : Option Nat} {B : Nat} (hg : w.grownBy w1 row) (hb : B < w.heap.size) (hr : row ≠ some B) (i : Nat) : w1.cell? ⟨B, i, none⟩ = w.cell? ⟨B, i, none⟩ :=
  World.cell?_of_block (a := ⟨B, i, none⟩) (hg.block B hb hr.symm)
theorem box_here (w : World) (C : Array Value) (T : TypeId) (o : Obj) (i : Nat) : ((w.alloc (.cells C T)).alloc o).cell? ⟨w.heap.size, i, none⟩ = C[i]? :=
  (World.cell?_of_block (a := ⟨w.heap.size, i, none⟩) (Below.heap_alloc _ _ _ (by simp))).trans (World.cell?_alloc_new _ _ _ _)

theorem line_0ee {l o a : ByteArray} (hl : l.size = 0) (ho : o.size = 0) (ha : a.size = 0) : lineT l o a = ⟨#[]⟩ := by unfold lineT; rw [labT_no hl, catT_l (x := ⟨#[]⟩) rfl, catT_l ho, size_zero ha]

theorem line_0oe {l o a : ByteArray} (hl : l.size = 0) (ho : ¬ o.size = 0) (ha : a.size = 0) : lineT l o a = o := by unfold lineT; rw [labT_no hl, catT_l (x := ⟨#[]⟩) rfl, catT_r ha ho]

theorem line_0oa {l o a : ByteArray} (hl : l.size = 0) (ho : ¬ o.size = 0) (ha : ¬ a.size = 0) : lineT l o a = o ++ ⟨#[32]⟩ ++ a := by unfold lineT; rw [labT_no hl, catT_l (x := ⟨#[]⟩) rfl, catT_b ha ho]

theorem line_1ee {l o a : ByteArray} (hl : ¬ l.size = 0) (ho : o.size = 0) (ha : a.size = 0) : lineT l o a = l ++ ⟨#[58]⟩ := by unfold lineT; rw [labT_yes hl, catT_r ho (by rw [one58]; omega), catT_r ha (by simp only [ByteArray.size_append]; show ¬ _ + 1 = 0; omega)]

theorem line_1oe {l o a : ByteArray} (hl : ¬ l.size = 0) (ho : ¬ o.size = 0) (ha : a.size = 0) : lineT l o a = l ++ ⟨#[58]⟩ ++ ⟨#[32]⟩ ++ o := by unfold lineT; rw [labT_yes hl, catT_b ho (by rw [one58]; omega), catT_r ha (by simp only [ByteArray.size_append]; omega)]

theorem line_1oa {l o a : ByteArray} (hl : ¬ l.size = 0) (ho : ¬ o.size = 0) (ha : ¬ a.size = 0) : lineT l o a = l ++ ⟨#[58]⟩ ++ ⟨#[32]⟩ ++ o ++ ⟨#[32]⟩ ++ a := by unfold lineT; rw [labT_yes hl, catT_b ho (by rw [one58]; omega), catT_b ha (by simp only [ByteArray.size_append]; omega)]

set_option maxHeartbeats 1000000 in
theorem text_0ee (l o a : ByteArray) (w : World) (zl : l.size ≤ 1048576) (zo : o.size ≤ 1048576) (za : a.size ≤ 1048576) (hl : l.size = 0) (ho : o.size = 0) (ha : a.size = 0) :
    Calls Tryd.prog 15 #[.agg #[.string l, .string o, .string a]] w fun e w' => e = .returned (.string (lineT l o a)) ∧ Below w.heap.size w w' := by
  have HE := (show Hid _ from line_0ee hl ho ha)
  have s1 := one58
  have s2 := one32
  have el := empty_yes hl
  have eo := empty_yes ho
  have ea := empty_yes ha
  clear hl ho ha
  go_enter Tryd.func15, Tryd.ntmps15
  go_wp2
  go_ret
  exact ⟨ret_str HE.out, grow (Below.refl _ _) _⟩

set_option maxHeartbeats 1000000 in
theorem text_0oe (l o a : ByteArray) (w : World) (zl : l.size ≤ 1048576) (zo : o.size ≤ 1048576) (za : a.size ≤ 1048576) (hl : l.size = 0) (ho : ¬ o.size = 0) (ha : a.size = 0) :
    Calls Tryd.prog 15 #[.agg #[.string l, .string o, .string a]] w fun e w' => e = .returned (.string (lineT l o a)) ∧ Below w.heap.size w w' := by
  have HE := (show Hid _ from line_0oe hl ho ha)
  have s1 := one58
  have s2 := one32
  have el := empty_yes hl
  have eo := empty_no ho
  have ea := empty_yes ha
  clear hl ho ha
  go_enter Tryd.func15, Tryd.ntmps15
  go_wp2
  go_ret
  exact ⟨ret_str HE.out, grow (Below.refl _ _) _⟩

set_option maxHeartbeats 1000000 in
theorem text_0oa (l o a : ByteArray) (w : World) (zl : l.size ≤ 1048576) (zo : o.size ≤ 1048576) (za : a.size ≤ 1048576) (hl : l.size = 0) (ho : ¬ o.size = 0) (ha : ¬ a.size = 0) :
    Calls Tryd.prog 15 #[.agg #[.string l, .string o, .string a]] w fun e w' => e = .returned (.string (lineT l o a)) ∧ Below w.heap.size w w' := by
  have HE := (show Hid _ from line_0oa hl ho ha)
  have s1 := one58
  have s2 := one32
  have el := empty_yes hl
  have eo := empty_no ho
  have ea := empty_no ha
  clear hl ho ha
  go_enter Tryd.func15, Tryd.ntmps15
  go_wp2
  go_ret
  exact ⟨ret_str HE.out, grow (Below.refl _ _) _⟩

set_option maxHeartbeats 1000000 in
theorem text_1ee (l o a : ByteArray) (w : World) (zl : l.size ≤ 1048576) (zo : o.size ≤ 1048576) (za : a.size ≤ 1048576) (hl : ¬ l.size = 0) (ho : o.size = 0) (ha : a.size = 0) :
    Calls Tryd.prog 15 #[.agg #[.string l, .string o, .string a]] w fun e w' => e = .returned (.string (lineT l o a)) ∧ Below w.heap.size w w' := by
  have HE := (show Hid _ from line_1ee hl ho ha)
  have s1 := one58
  have s2 := one32
  have el := empty_no hl
  have eo := empty_yes ho
  have ea := empty_yes ha
  clear hl ho ha
  go_enter Tryd.func15, Tryd.ntmps15
  go_wp2
  go_ret
  exact ⟨ret_str HE.out, grow (Below.refl _ _) _⟩

set_option maxHeartbeats 1000000 in
theorem text_1oe (l o a : ByteArray) (w : World) (zl : l.size ≤ 1048576) (zo : o.size ≤ 1048576) (za : a.size ≤ 1048576) (hl : ¬ l.size = 0) (ho : ¬ o.size = 0) (ha : a.size = 0) :
    Calls Tryd.prog 15 #[.agg #[.string l, .string o, .string a]] w fun e w' => e = .returned (.string (lineT l o a)) ∧ Below w.heap.size w w' := by
  have HE := (show Hid _ from line_1oe hl ho ha)
  have s1 := one58
  have s2 := one32
  have el := empty_no hl
  have eo := empty_no ho
  have ea := empty_yes ha
  have e1 : (l ++ (⟨#[58]⟩ : ByteArray)).toList.isEmpty = false := empty_no (by rw [one58]; omega)
  clear hl ho ha
  go_enter Tryd.func15, Tryd.ntmps15
  go_wp2
  go_ret
  exact ⟨ret_str HE.out, grow (Below.refl _ _) _⟩

set_option maxHeartbeats 1000000 in
theorem text_1oa (l o a : ByteArray) (w : World) (zl : l.size ≤ 1048576) (zo : o.size ≤ 1048576) (za : a.size ≤ 1048576) (hl : ¬ l.size = 0) (ho : ¬ o.size = 0) (ha : ¬ a.size = 0) :
    Calls Tryd.prog 15 #[.agg #[.string l, .string o, .string a]] w fun e w' => e = .returned (.string (lineT l o a)) ∧ Below w.heap.size w w' := by
  have HE := (show Hid _ from line_1oa hl ho ha)
  have s1 := one58
  have s2 := one32
  have el := empty_no hl
  have eo := empty_no ho
  have ea := empty_no ha
  have e1 : (l ++ (⟨#[58]⟩ : ByteArray)).toList.isEmpty = false := empty_no (by rw [one58]; omega)
  clear hl ho ha
  go_enter Tryd.func15, Tryd.ntmps15
  go_wp2
  go_ret
  exact ⟨ret_str HE.out, grow (Below.refl _ _) _⟩

set_option maxHeartbeats 2000000 in
theorem joined_0ee (l o a : ByteArray) (w : World) (zl : l.size ≤ 1048576) (zo : o.size ≤ 1048576) (za : a.size ≤ 1048576) (hl : l.size = 0) (ho : o.size = 0) (ha : a.size = 0) :
    Calls Tryd.prog 14 #[.agg #[.string l, .string o, .string a]] w fun e w' => e = .returned (.string (lineT l o a)) ∧ Below w.heap.size w w' := by
  obtain ⟨i0, hi, hz0, hz1, hz2⟩ := info_parts infoS
  have HE := (show Hid _ from line_0ee hl ho ha)
  have s1 := one58
  have el := empty_yes hl
  have eo := empty_yes ho
  have ea := empty_yes ha
  clear hl ho ha
  go_enter Tryd.func14, Tryd.ntmps14
  go_wp2_with (go_at_call 34; refine (Tryd.strings_Join_none _ _ _ _).mono ?_; rintro e w' ⟨rfl, hw'⟩)
  go_ret
  exact ⟨ret_str HE.out, grow (Below.refl _ _) _⟩

set_option maxHeartbeats 2000000 in
theorem joined_0oe (l o a : ByteArray) (w : World) (zl : l.size ≤ 1048576) (zo : o.size ≤ 1048576) (za : a.size ≤ 1048576) (hl : l.size = 0) (ho : ¬ o.size = 0) (ha : a.size = 0) :
    Calls Tryd.prog 14 #[.agg #[.string l, .string o, .string a]] w fun e w' => e = .returned (.string (lineT l o a)) ∧ Below w.heap.size w w' := by
  obtain ⟨i0, hi, hz0, hz1, hz2⟩ := info_parts infoS
  have HE := (show Hid _ from line_0oe hl ho ha)
  have s1 := one58
  have el := empty_yes hl
  have eo := empty_no ho
  have ea := empty_yes ha
  clear hl ho ha
  go_enter Tryd.func14, Tryd.ntmps14
  go_wp2_with (first | (at_builtin; refine wpList_append_own _ rfl (.tmp 16) (.tmp 19) 41 rfl (w.heap.size + 1) 9 i0 (.string ⟨#[]⟩) 1 16 Tryd.underlying41 hi hz0 hz1 hz2 rfl (by decide) (.slice none 0 0) 0 [] rfl (World.ownsRow_nil _ _ _ _) ⟨w.heap.size + 1, 0, none⟩ 1 1 [.string (o)] rfl rfl (new2 _ _ _ _) (by intro u hu; simp at hu; subst hu; rfl) (by unfold maxLen; omega) (by omega) (by first | (simp; done) | (simp; omega)) ?_; intro v1 w1 hown1 hgrow1 _; have own1 : Hid (w1.ownsRow (w.heap.size + 1) 9 1 v1 1 [.string (o)]) := hown1; have bel1 : Hid (Below (w.alloc (.cells #[.string l, .string o, .string a] 25)).heap.size (w.alloc (.cells #[.string l, .string o, .string a] 25)) w1) := (grow (Below.refl _ _) _).grown hgrow1 (by simp) (fun k hk => by simp [Value.ownBlock] at hk); have hc : ∀ i, w1.cell? ⟨w.heap.size, i, none⟩ = (#[.string l, .string o, .string a] : Array Value)[i]? := (fun i => (bel1.out.cell (p := ⟨w.heap.size, i, none⟩) (by simp)).trans (World.cell?_alloc_new _ _ _ _)); have c0 : w1.cell? ⟨w.heap.size, 0, none⟩ = some (.string l) := hc 0; have c1 : w1.cell? ⟨w.heap.size, 1, none⟩ = some (.string o) := hc 1; have c2 : w1.cell? ⟨w.heap.size, 2, none⟩ = some (.string a) := hc 2; clear hc hown1 hgrow1) | fail)
  obtain ⟨g, cap, cur, rfl, hbg, hg, hnc, hcm, hcs, htake⟩ : ∃ g cap cur, v1 = .slice (some ⟨g, 0, none⟩) 1 cap ∧ w.heap.size + 1 ≤ g ∧ w1.heap[g]? = some (.cells cur 9 (0, 0)) ∧ 1 ≤ cap ∧ cap ≤ maxLen ∧ cur.size = cap * 1 ∧ cur.toList.take (1 * 1) = [.string (o)] := by
    rcases own1.out.2 with ⟨_, h⟩ | h
    · cases h
    · exact h
  have hgl : g < w1.heap.size := (Array.getElem?_eq_some_iff.1 hg).1
  have cj := Tryd.strings_Join g 0 cap [o] ⟨#[32]⟩ w1 (fun j x hj => by
    have hl : j < 1 := by
      have := (List.getElem?_eq_some_iff.1 hj).1
      simpa using this
    rw [Nat.zero_add, own1.out.cellAt j (by omega)]
    match j, hl with
    | 0, _ => simp at hj; subst hj; rfl) hgl (by simp) (by simpa using hnc) (by
    simp [Lib.join]
    have := ByteArray.size_data (a := l)
    have := ByteArray.size_data (a := o)
    have := ByteArray.size_data (a := a)
    omega)
  rw [join1] at cj
  have B := (show Hid _ from bel1)
  have CJ : ∀ (Q : Ending → World → Prop), True := fun _ => trivial
  clear hbg hg hnc hcm hcs htake own1 CJ
  refine cj.mono ?_
  rintro e w9 ⟨rfl, hb9⟩
  have B9 : Hid (Below w.heap.size w w9) := (grow (Below.refl _ _) _).trans ((B.out.trans (hb9.mono B.out.size)).mono (by simp))
  clear hb9 B
  go_wp2
  go_ret
  exact ⟨ret_str HE.out, B9.out⟩

set_option maxHeartbeats 2000000 in
theorem joined_0oa (l o a : ByteArray) (w : World) (zl : l.size ≤ 1048576) (zo : o.size ≤ 1048576) (za : a.size ≤ 1048576) (hl : l.size = 0) (ho : ¬ o.size = 0) (ha : ¬ a.size = 0) :
    Calls Tryd.prog 14 #[.agg #[.string l, .string o, .string a]] w fun e w' => e = .returned (.string (lineT l o a)) ∧ Below w.heap.size w w' := by
  obtain ⟨i0, hi, hz0, hz1, hz2⟩ := info_parts infoS
  have HE := (show Hid _ from line_0oa hl ho ha)
  have s1 := one58
  have el := empty_yes hl
  have eo := empty_no ho
  have ea := empty_no ha
  clear hl ho ha
  go_enter Tryd.func14, Tryd.ntmps14
  go_wp2_with (first | (at_builtin; refine wpList_append_own _ rfl (.tmp 16) (.tmp 19) 41 rfl (w.heap.size + 1) 9 i0 (.string ⟨#[]⟩) 1 16 Tryd.underlying41 hi hz0 hz1 hz2 rfl (by decide) (.slice none 0 0) 0 [] rfl (World.ownsRow_nil _ _ _ _) ⟨w.heap.size + 1, 0, none⟩ 1 1 [.string (o)] rfl rfl (new2 _ _ _ _) (by intro u hu; simp at hu; subst hu; rfl) (by unfold maxLen; omega) (by omega) (by first | (simp; done) | (simp; omega)) ?_; intro v1 w1 hown1 hgrow1 _; have own1 : Hid (w1.ownsRow (w.heap.size + 1) 9 1 v1 1 [.string (o)]) := hown1; have bel1 : Hid (Below (w.alloc (.cells #[.string l, .string o, .string a] 25)).heap.size (w.alloc (.cells #[.string l, .string o, .string a] 25)) w1) := (grow (Below.refl _ _) _).grown hgrow1 (by simp) (fun k hk => by simp [Value.ownBlock] at hk); have hc : ∀ i, w1.cell? ⟨w.heap.size, i, none⟩ = (#[.string l, .string o, .string a] : Array Value)[i]? := (fun i => (bel1.out.cell (p := ⟨w.heap.size, i, none⟩) (by simp)).trans (World.cell?_alloc_new _ _ _ _)); have c0 : w1.cell? ⟨w.heap.size, 0, none⟩ = some (.string l) := hc 0; have c1 : w1.cell? ⟨w.heap.size, 1, none⟩ = some (.string o) := hc 1; have c2 : w1.cell? ⟨w.heap.size, 2, none⟩ = some (.string a) := hc 2; clear hc hown1 hgrow1) | (at_builtin; refine wpList_append_own _ rfl (.tmp 24) (.tmp 27) 41 rfl (w.heap.size + 1) 9 i0 (.string ⟨#[]⟩) 1 16 Tryd.underlying41 hi hz0 hz1 hz2 rfl (by decide) _ _ _ rfl (own1.out.alloc _) ⟨w1.heap.size, 0, none⟩ 1 1 [.string (a)] rfl rfl (cell_one_new _ _ _) (by intro u hu; simp at hu; subst hu; rfl) (by unfold maxLen; omega) (by omega) (by have := bel1.out.size; simp at this; simp; omega) ?_; intro v2 w2 hown2 hgrow2 _; have own2 : Hid (w2.ownsRow (w.heap.size + 1) 9 1 v2 2 [.string (o), .string (a)]) := hown2; have bel2 : Hid (Below (w.alloc (.cells #[.string l, .string o, .string a] 25)).heap.size (w.alloc (.cells #[.string l, .string o, .string a] 25)) w2) := (grow bel1.out _).grown hgrow2 (by have := bel1.out.size; simp at this; simp; omega) (fun k hk => by have := (own1.out.lt k hk).1; simp; omega); have hc : ∀ i, w2.cell? ⟨w.heap.size, i, none⟩ = (#[.string l, .string o, .string a] : Array Value)[i]? := (fun i => (bel2.out.cell (p := ⟨w.heap.size, i, none⟩) (by simp)).trans (World.cell?_alloc_new _ _ _ _)); have c0 : w2.cell? ⟨w.heap.size, 0, none⟩ = some (.string l) := hc 0; have c1 : w2.cell? ⟨w.heap.size, 1, none⟩ = some (.string o) := hc 1; have c2 : w2.cell? ⟨w.heap.size, 2, none⟩ = some (.string a) := hc 2; clear hc hown2 hgrow2) | fail)
  obtain ⟨g, cap, cur, rfl, hbg, hg, hnc, hcm, hcs, htake⟩ : ∃ g cap cur, v2 = .slice (some ⟨g, 0, none⟩) 2 cap ∧ w.heap.size + 1 ≤ g ∧ w2.heap[g]? = some (.cells cur 9 (0, 0)) ∧ 2 ≤ cap ∧ cap ≤ maxLen ∧ cur.size = cap * 1 ∧ cur.toList.take (2 * 1) = [.string (o), .string (a)] := by
    rcases own2.out.2 with ⟨_, h⟩ | h
    · cases h
    · exact h
  have hgl : g < w2.heap.size := (Array.getElem?_eq_some_iff.1 hg).1
  have cj := Tryd.strings_Join g 0 cap [o, a] ⟨#[32]⟩ w2 (fun j x hj => by
    have hl : j < 2 := by
      have := (List.getElem?_eq_some_iff.1 hj).1
      simpa using this
    rw [Nat.zero_add, own2.out.cellAt j (by omega)]
    match j, hl with
    | 0, _ => simp at hj; subst hj; rfl
    | 1, _ => simp at hj; subst hj; rfl) hgl (by simp) (by simpa using hnc) (by
    simp [Lib.join]
    have := ByteArray.size_data (a := l)
    have := ByteArray.size_data (a := o)
    have := ByteArray.size_data (a := a)
    omega)
  rw [join2] at cj
  have B := (show Hid _ from bel2)
  have CJ : ∀ (Q : Ending → World → Prop), True := fun _ => trivial
  clear hbg hg hnc hcm hcs htake own2 CJ
  refine cj.mono ?_
  rintro e w9 ⟨rfl, hb9⟩
  have B9 : Hid (Below w.heap.size w w9) := (grow (Below.refl _ _) _).trans ((B.out.trans (hb9.mono B.out.size)).mono (by simp))
  clear hb9 B
  go_wp2
  go_ret
  exact ⟨ret_str HE.out, B9.out⟩

set_option maxHeartbeats 2000000 in
theorem joined_1ee (l o a : ByteArray) (w : World) (zl : l.size ≤ 1048576) (zo : o.size ≤ 1048576) (za : a.size ≤ 1048576) (hl : ¬ l.size = 0) (ho : o.size = 0) (ha : a.size = 0) :
    Calls Tryd.prog 14 #[.agg #[.string l, .string o, .string a]] w fun e w' => e = .returned (.string (lineT l o a)) ∧ Below w.heap.size w w' := by
  obtain ⟨i0, hi, hz0, hz1, hz2⟩ := info_parts infoS
  have HE := (show Hid _ from line_1ee hl ho ha)
  have s1 := one58
  have el := empty_no hl
  have eo := empty_yes ho
  have ea := empty_yes ha
  clear hl ho ha
  go_enter Tryd.func14, Tryd.ntmps14
  go_wp2_with (first | (at_builtin; refine wpList_append_own _ rfl (.tmp 7) (.tmp 11) 41 rfl (w.heap.size + 1) 9 i0 (.string ⟨#[]⟩) 1 16 Tryd.underlying41 hi hz0 hz1 hz2 rfl (by decide) (.slice none 0 0) 0 [] rfl (World.ownsRow_nil _ _ _ _) ⟨w.heap.size + 1, 0, none⟩ 1 1 [.string (l ++ ⟨#[58]⟩)] rfl rfl (new2 _ _ _ _) (by intro u hu; simp at hu; subst hu; rfl) (by unfold maxLen; omega) (by omega) (by first | (simp; done) | (simp; omega)) ?_; intro v1 w1 hown1 hgrow1 _; have own1 : Hid (w1.ownsRow (w.heap.size + 1) 9 1 v1 1 [.string (l ++ ⟨#[58]⟩)]) := hown1; have bel1 : Hid (Below (w.alloc (.cells #[.string l, .string o, .string a] 25)).heap.size (w.alloc (.cells #[.string l, .string o, .string a] 25)) w1) := (grow (Below.refl _ _) _).grown hgrow1 (by simp) (fun k hk => by simp [Value.ownBlock] at hk); have hc : ∀ i, w1.cell? ⟨w.heap.size, i, none⟩ = (#[.string l, .string o, .string a] : Array Value)[i]? := (fun i => (bel1.out.cell (p := ⟨w.heap.size, i, none⟩) (by simp)).trans (World.cell?_alloc_new _ _ _ _)); have c0 : w1.cell? ⟨w.heap.size, 0, none⟩ = some (.string l) := hc 0; have c1 : w1.cell? ⟨w.heap.size, 1, none⟩ = some (.string o) := hc 1; have c2 : w1.cell? ⟨w.heap.size, 2, none⟩ = some (.string a) := hc 2; clear hc hown1 hgrow1) | fail)
  obtain ⟨g, cap, cur, rfl, hbg, hg, hnc, hcm, hcs, htake⟩ : ∃ g cap cur, v1 = .slice (some ⟨g, 0, none⟩) 1 cap ∧ w.heap.size + 1 ≤ g ∧ w1.heap[g]? = some (.cells cur 9 (0, 0)) ∧ 1 ≤ cap ∧ cap ≤ maxLen ∧ cur.size = cap * 1 ∧ cur.toList.take (1 * 1) = [.string (l ++ ⟨#[58]⟩)] := by
    rcases own1.out.2 with ⟨_, h⟩ | h
    · cases h
    · exact h
  have hgl : g < w1.heap.size := (Array.getElem?_eq_some_iff.1 hg).1
  have cj := Tryd.strings_Join g 0 cap [l ++ ⟨#[58]⟩] ⟨#[32]⟩ w1 (fun j x hj => by
    have hl : j < 1 := by
      have := (List.getElem?_eq_some_iff.1 hj).1
      simpa using this
    rw [Nat.zero_add, own1.out.cellAt j (by omega)]
    match j, hl with
    | 0, _ => simp at hj; subst hj; rfl) hgl (by simp) (by simpa using hnc) (by
    simp [Lib.join]
    have := ByteArray.size_data (a := l)
    have := ByteArray.size_data (a := o)
    have := ByteArray.size_data (a := a)
    omega)
  rw [join1] at cj
  have B := (show Hid _ from bel1)
  have CJ : ∀ (Q : Ending → World → Prop), True := fun _ => trivial
  clear hbg hg hnc hcm hcs htake own1 CJ
  refine cj.mono ?_
  rintro e w9 ⟨rfl, hb9⟩
  have B9 : Hid (Below w.heap.size w w9) := (grow (Below.refl _ _) _).trans ((B.out.trans (hb9.mono B.out.size)).mono (by simp))
  clear hb9 B
  go_wp2
  go_ret
  exact ⟨ret_str HE.out, B9.out⟩

set_option maxHeartbeats 2000000 in
theorem joined_1oe (l o a : ByteArray) (w : World) (zl : l.size ≤ 1048576) (zo : o.size ≤ 1048576) (za : a.size ≤ 1048576) (hl : ¬ l.size = 0) (ho : ¬ o.size = 0) (ha : a.size = 0) :
    Calls Tryd.prog 14 #[.agg #[.string l, .string o, .string a]] w fun e w' => e = .returned (.string (lineT l o a)) ∧ Below w.heap.size w w' := by
  obtain ⟨i0, hi, hz0, hz1, hz2⟩ := info_parts infoS
  have HE := (show Hid _ from line_1oe hl ho ha)
  have s1 := one58
  have el := empty_no hl
  have eo := empty_no ho
  have ea := empty_yes ha
  clear hl ho ha
  go_enter Tryd.func14, Tryd.ntmps14
  go_wp2_with (first | (at_builtin; refine wpList_append_own _ rfl (.tmp 7) (.tmp 11) 41 rfl (w.heap.size + 1) 9 i0 (.string ⟨#[]⟩) 1 16 Tryd.underlying41 hi hz0 hz1 hz2 rfl (by decide) (.slice none 0 0) 0 [] rfl (World.ownsRow_nil _ _ _ _) ⟨w.heap.size + 1, 0, none⟩ 1 1 [.string (l ++ ⟨#[58]⟩)] rfl rfl (new2 _ _ _ _) (by intro u hu; simp at hu; subst hu; rfl) (by unfold maxLen; omega) (by omega) (by first | (simp; done) | (simp; omega)) ?_; intro v1 w1 hown1 hgrow1 _; have own1 : Hid (w1.ownsRow (w.heap.size + 1) 9 1 v1 1 [.string (l ++ ⟨#[58]⟩)]) := hown1; have bel1 : Hid (Below (w.alloc (.cells #[.string l, .string o, .string a] 25)).heap.size (w.alloc (.cells #[.string l, .string o, .string a] 25)) w1) := (grow (Below.refl _ _) _).grown hgrow1 (by simp) (fun k hk => by simp [Value.ownBlock] at hk); have hc : ∀ i, w1.cell? ⟨w.heap.size, i, none⟩ = (#[.string l, .string o, .string a] : Array Value)[i]? := (fun i => (bel1.out.cell (p := ⟨w.heap.size, i, none⟩) (by simp)).trans (World.cell?_alloc_new _ _ _ _)); have c0 : w1.cell? ⟨w.heap.size, 0, none⟩ = some (.string l) := hc 0; have c1 : w1.cell? ⟨w.heap.size, 1, none⟩ = some (.string o) := hc 1; have c2 : w1.cell? ⟨w.heap.size, 2, none⟩ = some (.string a) := hc 2; clear hc hown1 hgrow1) | (at_builtin; refine wpList_append_own _ rfl (.tmp 16) (.tmp 19) 41 rfl (w.heap.size + 1) 9 i0 (.string ⟨#[]⟩) 1 16 Tryd.underlying41 hi hz0 hz1 hz2 rfl (by decide) _ _ _ rfl (own1.out.alloc _) ⟨w1.heap.size, 0, none⟩ 1 1 [.string (o)] rfl rfl (cell_one_new _ _ _) (by intro u hu; simp at hu; subst hu; rfl) (by unfold maxLen; omega) (by omega) (by have := bel1.out.size; simp at this; simp; omega) ?_; intro v2 w2 hown2 hgrow2 _; have own2 : Hid (w2.ownsRow (w.heap.size + 1) 9 1 v2 2 [.string (l ++ ⟨#[58]⟩), .string (o)]) := hown2; have bel2 : Hid (Below (w.alloc (.cells #[.string l, .string o, .string a] 25)).heap.size (w.alloc (.cells #[.string l, .string o, .string a] 25)) w2) := (grow bel1.out _).grown hgrow2 (by have := bel1.out.size; simp at this; simp; omega) (fun k hk => by have := (own1.out.lt k hk).1; simp; omega); have hc : ∀ i, w2.cell? ⟨w.heap.size, i, none⟩ = (#[.string l, .string o, .string a] : Array Value)[i]? := (fun i => (bel2.out.cell (p := ⟨w.heap.size, i, none⟩) (by simp)).trans (World.cell?_alloc_new _ _ _ _)); have c0 : w2.cell? ⟨w.heap.size, 0, none⟩ = some (.string l) := hc 0; have c1 : w2.cell? ⟨w.heap.size, 1, none⟩ = some (.string o) := hc 1; have c2 : w2.cell? ⟨w.heap.size, 2, none⟩ = some (.string a) := hc 2; clear hc hown2 hgrow2) | fail)
  obtain ⟨g, cap, cur, rfl, hbg, hg, hnc, hcm, hcs, htake⟩ : ∃ g cap cur, v2 = .slice (some ⟨g, 0, none⟩) 2 cap ∧ w.heap.size + 1 ≤ g ∧ w2.heap[g]? = some (.cells cur 9 (0, 0)) ∧ 2 ≤ cap ∧ cap ≤ maxLen ∧ cur.size = cap * 1 ∧ cur.toList.take (2 * 1) = [.string (l ++ ⟨#[58]⟩), .string (o)] := by
    rcases own2.out.2 with ⟨_, h⟩ | h
    · cases h
    · exact h
  have hgl : g < w2.heap.size := (Array.getElem?_eq_some_iff.1 hg).1
  have cj := Tryd.strings_Join g 0 cap [l ++ ⟨#[58]⟩, o] ⟨#[32]⟩ w2 (fun j x hj => by
    have hl : j < 2 := by
      have := (List.getElem?_eq_some_iff.1 hj).1
      simpa using this
    rw [Nat.zero_add, own2.out.cellAt j (by omega)]
    match j, hl with
    | 0, _ => simp at hj; subst hj; rfl
    | 1, _ => simp at hj; subst hj; rfl) hgl (by simp) (by simpa using hnc) (by
    simp [Lib.join]
    have := ByteArray.size_data (a := l)
    have := ByteArray.size_data (a := o)
    have := ByteArray.size_data (a := a)
    omega)
  rw [join2] at cj
  have B := (show Hid _ from bel2)
  have CJ : ∀ (Q : Ending → World → Prop), True := fun _ => trivial
  clear hbg hg hnc hcm hcs htake own2 CJ
  refine cj.mono ?_
  rintro e w9 ⟨rfl, hb9⟩
  have B9 : Hid (Below w.heap.size w w9) := (grow (Below.refl _ _) _).trans ((B.out.trans (hb9.mono B.out.size)).mono (by simp))
  clear hb9 B
  go_wp2
  go_ret
  exact ⟨ret_str HE.out, B9.out⟩

set_option maxHeartbeats 2000000 in
theorem joined_1oa (l o a : ByteArray) (w : World) (zl : l.size ≤ 1048576) (zo : o.size ≤ 1048576) (za : a.size ≤ 1048576) (hl : ¬ l.size = 0) (ho : ¬ o.size = 0) (ha : ¬ a.size = 0) :
    Calls Tryd.prog 14 #[.agg #[.string l, .string o, .string a]] w fun e w' => e = .returned (.string (lineT l o a)) ∧ Below w.heap.size w w' := by
  obtain ⟨i0, hi, hz0, hz1, hz2⟩ := info_parts infoS
  have HE := (show Hid _ from line_1oa hl ho ha)
  have s1 := one58
  have el := empty_no hl
  have eo := empty_no ho
  have ea := empty_no ha
  clear hl ho ha
  go_enter Tryd.func14, Tryd.ntmps14
  go_wp2_with (first | (at_builtin; refine wpList_append_own _ rfl (.tmp 7) (.tmp 11) 41 rfl (w.heap.size + 1) 9 i0 (.string ⟨#[]⟩) 1 16 Tryd.underlying41 hi hz0 hz1 hz2 rfl (by decide) (.slice none 0 0) 0 [] rfl (World.ownsRow_nil _ _ _ _) ⟨w.heap.size + 1, 0, none⟩ 1 1 [.string (l ++ ⟨#[58]⟩)] rfl rfl (new2 _ _ _ _) (by intro u hu; simp at hu; subst hu; rfl) (by unfold maxLen; omega) (by omega) (by first | (simp; done) | (simp; omega)) ?_; intro v1 w1 hown1 hgrow1 _; have own1 : Hid (w1.ownsRow (w.heap.size + 1) 9 1 v1 1 [.string (l ++ ⟨#[58]⟩)]) := hown1; have bel1 : Hid (Below (w.alloc (.cells #[.string l, .string o, .string a] 25)).heap.size (w.alloc (.cells #[.string l, .string o, .string a] 25)) w1) := (grow (Below.refl _ _) _).grown hgrow1 (by simp) (fun k hk => by simp [Value.ownBlock] at hk); have hc : ∀ i, w1.cell? ⟨w.heap.size, i, none⟩ = (#[.string l, .string o, .string a] : Array Value)[i]? := (fun i => (bel1.out.cell (p := ⟨w.heap.size, i, none⟩) (by simp)).trans (World.cell?_alloc_new _ _ _ _)); have c0 : w1.cell? ⟨w.heap.size, 0, none⟩ = some (.string l) := hc 0; have c1 : w1.cell? ⟨w.heap.size, 1, none⟩ = some (.string o) := hc 1; have c2 : w1.cell? ⟨w.heap.size, 2, none⟩ = some (.string a) := hc 2; clear hc hown1 hgrow1) | (at_builtin; refine wpList_append_own _ rfl (.tmp 16) (.tmp 19) 41 rfl (w.heap.size + 1) 9 i0 (.string ⟨#[]⟩) 1 16 Tryd.underlying41 hi hz0 hz1 hz2 rfl (by decide) _ _ _ rfl (own1.out.alloc _) ⟨w1.heap.size, 0, none⟩ 1 1 [.string (o)] rfl rfl (cell_one_new _ _ _) (by intro u hu; simp at hu; subst hu; rfl) (by unfold maxLen; omega) (by omega) (by have := bel1.out.size; simp at this; simp; omega) ?_; intro v2 w2 hown2 hgrow2 _; have own2 : Hid (w2.ownsRow (w.heap.size + 1) 9 1 v2 2 [.string (l ++ ⟨#[58]⟩), .string (o)]) := hown2; have bel2 : Hid (Below (w.alloc (.cells #[.string l, .string o, .string a] 25)).heap.size (w.alloc (.cells #[.string l, .string o, .string a] 25)) w2) := (grow bel1.out _).grown hgrow2 (by have := bel1.out.size; simp at this; simp; omega) (fun k hk => by have := (own1.out.lt k hk).1; simp; omega); have hc : ∀ i, w2.cell? ⟨w.heap.size, i, none⟩ = (#[.string l, .string o, .string a] : Array Value)[i]? := (fun i => (bel2.out.cell (p := ⟨w.heap.size, i, none⟩) (by simp)).trans (World.cell?_alloc_new _ _ _ _)); have c0 : w2.cell? ⟨w.heap.size, 0, none⟩ = some (.string l) := hc 0; have c1 : w2.cell? ⟨w.heap.size, 1, none⟩ = some (.string o) := hc 1; have c2 : w2.cell? ⟨w.heap.size, 2, none⟩ = some (.string a) := hc 2; clear hc hown2 hgrow2) | (at_builtin; refine wpList_append_own _ rfl (.tmp 24) (.tmp 27) 41 rfl (w.heap.size + 1) 9 i0 (.string ⟨#[]⟩) 1 16 Tryd.underlying41 hi hz0 hz1 hz2 rfl (by decide) _ _ _ rfl (own2.out.alloc _) ⟨w2.heap.size, 0, none⟩ 1 1 [.string (a)] rfl rfl (cell_one_new _ _ _) (by intro u hu; simp at hu; subst hu; rfl) (by unfold maxLen; omega) (by omega) (by have := bel2.out.size; simp at this; simp; omega) ?_; intro v3 w3 hown3 hgrow3 _; have own3 : Hid (w3.ownsRow (w.heap.size + 1) 9 1 v3 3 [.string (l ++ ⟨#[58]⟩), .string (o), .string (a)]) := hown3; have bel3 : Hid (Below (w.alloc (.cells #[.string l, .string o, .string a] 25)).heap.size (w.alloc (.cells #[.string l, .string o, .string a] 25)) w3) := (grow bel2.out _).grown hgrow3 (by have := bel2.out.size; simp at this; simp; omega) (fun k hk => by have := (own2.out.lt k hk).1; simp; omega); have hc : ∀ i, w3.cell? ⟨w.heap.size, i, none⟩ = (#[.string l, .string o, .string a] : Array Value)[i]? := (fun i => (bel3.out.cell (p := ⟨w.heap.size, i, none⟩) (by simp)).trans (World.cell?_alloc_new _ _ _ _)); have c0 : w3.cell? ⟨w.heap.size, 0, none⟩ = some (.string l) := hc 0; have c1 : w3.cell? ⟨w.heap.size, 1, none⟩ = some (.string o) := hc 1; have c2 : w3.cell? ⟨w.heap.size, 2, none⟩ = some (.string a) := hc 2; clear hc hown3 hgrow3) | fail)
  obtain ⟨g, cap, cur, rfl, hbg, hg, hnc, hcm, hcs, htake⟩ : ∃ g cap cur, v3 = .slice (some ⟨g, 0, none⟩) 3 cap ∧ w.heap.size + 1 ≤ g ∧ w3.heap[g]? = some (.cells cur 9 (0, 0)) ∧ 3 ≤ cap ∧ cap ≤ maxLen ∧ cur.size = cap * 1 ∧ cur.toList.take (3 * 1) = [.string (l ++ ⟨#[58]⟩), .string (o), .string (a)] := by
    rcases own3.out.2 with ⟨_, h⟩ | h
    · cases h
    · exact h
  have hgl : g < w3.heap.size := (Array.getElem?_eq_some_iff.1 hg).1
  have cj := Tryd.strings_Join g 0 cap [l ++ ⟨#[58]⟩, o, a] ⟨#[32]⟩ w3 (fun j x hj => by
    have hl : j < 3 := by
      have := (List.getElem?_eq_some_iff.1 hj).1
      simpa using this
    rw [Nat.zero_add, own3.out.cellAt j (by omega)]
    match j, hl with
    | 0, _ => simp at hj; subst hj; rfl
    | 1, _ => simp at hj; subst hj; rfl
    | 2, _ => simp at hj; subst hj; rfl) hgl (by simp) (by simpa using hnc) (by
    simp [Lib.join]
    have := ByteArray.size_data (a := l)
    have := ByteArray.size_data (a := o)
    have := ByteArray.size_data (a := a)
    omega)
  rw [join3] at cj
  have B := (show Hid _ from bel3)
  have CJ : ∀ (Q : Ending → World → Prop), True := fun _ => trivial
  clear hbg hg hnc hcm hcs htake own3 CJ
  refine cj.mono ?_
  rintro e w9 ⟨rfl, hb9⟩
  have B9 : Hid (Below w.heap.size w w9) := (grow (Below.refl _ _) _).trans ((B.out.trans (hb9.mono B.out.size)).mono (by simp))
  clear hb9 B
  go_wp2
  go_ret
  exact ⟨ret_str HE.out, B9.out⟩
end Go.Proofs.YtcjipfjbbdbbgaaDoor.Lines
