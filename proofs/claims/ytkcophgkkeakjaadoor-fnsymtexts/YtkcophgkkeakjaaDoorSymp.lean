/-
  Pure: how a text of symbols is read, line by line, on both sides; that what SymText writes comes back.
-/
import Derived.Test.YtkcophgkkeakjaaDoorSymt
import Derived.Lib.IndexMore
import Derived.Lib.IndexBytes
namespace Go.Proofs.YtkcophgkkeakjaaDoor.Symp
open Go.ChangeShapes Go.WideShapes Go.ChangeAt Go.RowKit Go.Deep
open Symr (Sym)
open Hex (inB)
open Symt
set_option linter.unusedVariables false

/-- What stands ahead of the first byte 10, behind it, and whether there is one. -/
def brk : List UInt8 → List UInt8 × List UInt8 × Bool
  | [] => ([], [], false)
  | c :: r => if c = 10 then ([], r, true) else (c :: (brk r).1, (brk r).2.1, (brk r).2.2)
theorem brk_app : ∀ (X Y : List UInt8), (∀ c ∈ X, c ≠ 10) → brk (X ++ 10 :: Y) = (X, Y, true)
  | [], Y, _ => by rw [List.nil_append, brk, if_pos rfl]
  | c :: X, Y, h => by
    rw [List.cons_append, brk, if_neg (h c (List.mem_cons_self ..)), brk_app X Y (fun d hd => h d (List.mem_cons_of_mem _ hd))]
theorem brk_le : ∀ l : List UInt8, (brk l).1.length ≤ l.length ∧ (l ≠ [] → (brk l).2.1.length < l.length)
  | [] => ⟨Nat.le_refl _, fun h => absurd rfl h⟩
  | c :: r => by
    rw [brk]
    by_cases h : c = 10
    · rw [if_pos h]; exact ⟨Nat.zero_le _, fun _ => Nat.lt_succ_self _⟩
    · rw [if_neg h]
      have := brk_le r
      refine ⟨Nat.succ_le_succ this.1, fun _ => ?_⟩
      show (brk r).2.1.length < r.length + 1
      by_cases hr : r = []
      · subst hr; exact Nat.succ_pos _
      · have := this.2 hr; omega
theorem cut_brk : ∀ l : List UInt8, Lib.cut l [10] = brk l
  | [] => rfl
  | c :: r => by
    have ih := cut_brk r
    unfold Lib.cut at ih ⊢
    rw [brk]
    by_cases h : c = 10
    · subst h
      rw [if_pos rfl]
      have e : Lib.index (10 :: r) [10] = 0 := by unfold Lib.index; simp
      rw [e]; simp
    · rw [if_neg h]
      have e : Lib.index (c :: r) [10] = if Lib.index r [10] == -1 then -1 else Lib.index r [10] + 1 := by
        conv => lhs; unfold Lib.index
        rw [if_neg (by simp; exact fun h' => h h'.symm)]
      have hge := Lib.index_ge r [10]
      by_cases h0 : 0 ≤ Lib.index r [10]
      · rw [if_pos h0] at ih
        have e2 : Lib.index (c :: r) [10] = Lib.index r [10] + 1 := by rw [e, if_neg (by simp; omega)]
        rw [e2, if_pos (by omega), ← ih]
        have e3 : (Lib.index r [10] + 1).toNat = (Lib.index r [10]).toNat + 1 := by omega
        rw [e3]
        simp
      · rw [if_neg h0] at ih
        have e2 : Lib.index (c :: r) [10] = -1 := by rw [e, if_pos (by simp; omega)]
        rw [e2, if_neg (by decide), ← ih]

def A (s : ByteArray) : ByteArray := ⟨(brk s.data.toList).1.toArray⟩
def B (s : ByteArray) : ByteArray := ⟨(brk s.data.toList).2.1.toArray⟩
def F (s : ByteArray) : Bool := (brk s.data.toList).2.2
theorem len_size (s : ByteArray) : s.data.toList.length = s.size := Array.length_toList
theorem A_le (s : ByteArray) : (A s).size ≤ s.size := by
  have := (brk_le s.data.toList).1
  rw [len_size] at this
  exact this
theorem B_lt {s : ByteArray} (h : ¬ s.size = 0) : (B s).size < s.size := by
  have := (brk_le s.data.toList).2 (fun e => h (by rw [← len_size, e]; rfl))
  rw [len_size] at this
  exact this

/-- Both numbers of a line. -/
def numsOf (x : ByteArray) : Option (Int × Int) := match Nums.base (x.extract 0 2) 16, Nums.base (x.extract 3 7) 16 with
  | some b, some v => some (b, v)
  | _, _ => none
def goI : Nat → ByteArray → List Sym → Option (List Sym)
  | 0, _, _ => none
  | n + 1, r, l => if r.size = 0 then some l else if (A r).size < 8 ∨ l.length = 800 then none else match numsOf (A r) with
    | none => none
    | some p => goI n (B r) (l ++ [((A r).extract 8 (A r).size, p.1, p.2)])
def goS : Nat → ByteArray → List Sym → Option (List Sym)
  | 0, _, _ => none
  | n + 1, r, l => if r.size = 0 ∨ 800 < l.length then some l else if (A r).size < 9 ∨ F r = false then none else match numsOf (A r) with
    | none => none
    | some p => goS n (B r) (l ++ [((A r).extract 8 (A r).size, p.1, p.2)])
open Classical in
noncomputable def fin (s : ByteArray) (o : Option (List Sym)) : Option (List Sym) := match o with
  | none => none
  | some l => if symT l = s then some l else none

def Good (x : Sym) : Prop := Names.nameB x.1 = true ∧ inB x.2.1 0 255 = true ∧ inB x.2.2 0 65535 = true
def head (x : Sym) : List UInt8 := (hx x.2.1 2).data.toList ++ 58 :: ((hx x.2.2 4).data.toList ++ 32 :: x.1.data.toList)
theorem line_head (x : Sym) : lineT x = head x ++ [10] := by unfold lineT head; simp

theorem hx_list {n d : Int} (h : 1 ≤ d ∧ d ≤ 4 ∧ 0 ≤ n ∧ n ≤ 65535 ∧ n / Hex.pw d = 0) : (hx n d).data.toList = (Hex.digs n d.toNat).map fun n => UInt8.ofNat n.toNat := by
  unfold hx
  rw [Hex.hexS_yes h, Lib.extract_to_end, strOfNums_data, List.map_cons]; rfl
theorem p2 {n : Int} (h : inB n 0 255 = true) : 1 ≤ (2 : Int) ∧ (2 : Int) ≤ 4 ∧ 0 ≤ n ∧ n ≤ 65535 ∧ n / Hex.pw 2 = 0 := by
  obtain ⟨h0, h1⟩ := of_decide_eq_true h
  exact ⟨by omega, by omega, h0, by omega, by show n / (16 ^ 2) = 0; omega⟩
theorem p4 {n : Int} (h : inB n 0 65535 = true) : 1 ≤ (4 : Int) ∧ (4 : Int) ≤ 4 ∧ 0 ≤ n ∧ n ≤ 65535 ∧ n / Hex.pw 4 = 0 := by
  obtain ⟨h0, h1⟩ := of_decide_eq_true h
  exact ⟨by omega, by omega, h0, by omega, by show n / (16 ^ 4) = 0; omega⟩
theorem tab_no : ∀ m, m < 16 → UInt8.ofNat (Nums.tab.getD m 0).toNat ≠ 10 := by decide
theorem digs_mem : ∀ (k : Nat) (n : Int), ∀ c ∈ (Hex.digs n k).map (fun n => UInt8.ofNat n.toNat), c ≠ 10
  | 0, _, c, h => by cases h
  | k + 1, n, c, h => by
    have e : Hex.digs n (k + 1) = Hex.digs (n / 16) k ++ [Nums.tab.getD (n % 16).toNat 0] := rfl
    rw [e, List.map_append, List.mem_append] at h
    rcases h with h | h
    · exact digs_mem k (n / 16) c h
    · simp only [List.map_cons, List.map_nil, List.mem_singleton] at h
      rw [h]
      exact tab_no _ (by omega)
theorem name_no {s : ByteArray} (h : Names.nameB s = true) : ∀ c ∈ s.data.toList, c ≠ 10 := by
  intro c hc e
  obtain ⟨i, hi, hx⟩ := List.getElem_of_mem hc
  have hi' : i < s.size := by rw [← len_size]; exact hi
  have := (of_decide_eq_true h).2.2.2 i hi'
  have e2 : s[i] = c := by rw [← hx]; show s.data[i] = _; rw [Array.getElem_toList]
  rw [e2, e] at this
  exact absurd this (by decide)
theorem head_no {x : Sym} (h : Good x) : ∀ c ∈ head x, c ≠ 10 := by
  intro c hc
  unfold head at hc
  rw [hx_list (p2 h.2.1), hx_list (p4 h.2.2)] at hc
  rcases List.mem_append.1 hc with hc | hc
  · exact digs_mem _ _ c hc
  rcases List.mem_cons.1 hc with rfl | hc
  · decide
  rcases List.mem_append.1 hc with hc | hc
  · exact digs_mem _ _ c hc
  rcases List.mem_cons.1 hc with rfl | hc
  · decide
  · exact name_no h.1 c hc
theorem hx_len2 {n : Int} (h : inB n 0 255 = true) : (hx n 2).data.toList.length = 2 := by rw [hx_list (p2 h), List.length_map, Hexn.digs_len]; rfl
theorem hx_len4 {n : Int} (h : inB n 0 65535 = true) : (hx n 4).data.toList.length = 4 := by rw [hx_list (p4 h), List.length_map, Hexn.digs_len]; rfl
theorem ext_list (s : ByteArray) (a b : Nat) : (s.extract a b).data.toList = (s.data.toList.drop a).take (b - a) := by
  rw [ByteArray.data_extract, Array.toList_extract]
theorem head_nums {x : Sym} (h : Good x) : numsOf ⟨(head x).toArray⟩ = some (x.2.1, x.2.2) ∧ (⟨(head x).toArray⟩ : ByteArray).extract 8 (⟨(head x).toArray⟩ : ByteArray).size = x.1 ∧ 9 ≤ (⟨(head x).toArray⟩ : ByteArray).size := by
  have l2 := hx_len2 h.2.1
  have l4 := hx_len4 h.2.2
  have hn := (name_le h.1).1
  have hz : (⟨(head x).toArray⟩ : ByteArray).size = 8 + x.1.size := by
    show (head x).toArray.size = _
    rw [List.size_toArray]
    unfold head
    simp only [List.length_append, List.length_cons]
    rw [l2, l4, len_size]; omega
  have e2 : ((⟨(head x).toArray⟩ : ByteArray).extract 0 2).data.toList = (hx x.2.1 2).data.toList := by
    rw [ext_list]
    show ((head x).drop 0).take 2 = _
    unfold head
    rw [List.drop_zero, List.take_append_of_le_length (by omega), List.take_of_length_le (by omega)]
  have e4 : ((⟨(head x).toArray⟩ : ByteArray).extract 3 7).data.toList = (hx x.2.2 4).data.toList := by
    rw [ext_list]
    show ((head x).drop 3).take 4 = _
    unfold head
    rw [List.drop_append, l2, List.drop_eq_nil_of_le (by omega : (hx x.2.1 2).data.toList.length ≤ 3)]
    show (((hx x.2.2 4).data.toList ++ 32 :: x.1.data.toList)).take 4 = _
    rw [List.take_append_of_le_length (by omega), List.take_of_length_le (by omega)]
  have e8 : ((⟨(head x).toArray⟩ : ByteArray).extract 8 (⟨(head x).toArray⟩ : ByteArray).size) = x.1 := by
    apply ByteArray.ext
    apply Array.toList_inj.1
    rw [ext_list, hz]
    show ((head x).drop 8).take (8 + x.1.size - 8) = _
    unfold head
    rw [List.drop_append, l2, List.drop_eq_nil_of_le (by omega : (hx x.2.1 2).data.toList.length ≤ 8), List.nil_append]
    show (((hx x.2.2 4).data.toList ++ 32 :: x.1.data.toList).drop 5).take _ = _
    rw [List.drop_append, l4, List.drop_eq_nil_of_le (by omega : (hx x.2.2 4).data.toList.length ≤ 5), List.nil_append]
    show (x.1.data.toList).take _ = _
    rw [List.take_of_length_le (by rw [len_size]; omega)]
  have ba : ∀ (y : ByteArray) (n d : Int), 1 ≤ d ∧ d ≤ 4 ∧ 0 ≤ n ∧ n ≤ 65535 ∧ n / Hex.pw d = 0 → y.data.toList = (hx n d).data.toList → 0 < (hx n d).data.toList.length → Nums.base y 16 = some n := by
    intro y n d hp he hl
    unfold Nums.base
    rw [if_neg (by rw [← len_size, he]; omega), he, hx_list hp]
    exact Hexn.word_digs hp
  refine ⟨?_, e8, by omega⟩
  unfold numsOf
  rw [ba _ _ _ (p2 h.2.1) e2 (by omega), ba _ _ _ (p4 h.2.2) e4 (by omega)]

theorem text_cut {x : Sym} {L : List Sym} (h : Good x) : A ⟨(textL (x :: L)).toArray⟩ = ⟨(head x).toArray⟩ ∧ B ⟨(textL (x :: L)).toArray⟩ = ⟨(textL L).toArray⟩ ∧ F ⟨(textL (x :: L)).toArray⟩ = true ∧ ¬ (⟨(textL (x :: L)).toArray⟩ : ByteArray).size = 0 := by
  have e : textL (x :: L) = head x ++ 10 :: textL L := by
    unfold textL
    rw [List.flatMap_cons, line_head, List.append_assoc]; rfl
  have hb := brk_app (head x) (textL L) (head_no h)
  rw [← e] at hb
  have e3 : (⟨(textL (x :: L)).toArray⟩ : ByteArray).data.toList = textL (x :: L) := List.toList_toArray
  refine ⟨?_, ?_, ?_, ?_⟩
  · unfold A; rw [e3, hb]
  · unfold B; rw [e3, hb]
  · unfold F; rw [e3, hb]
  · show ¬ (textL (x :: L)).toArray.size = 0
    rw [List.size_toArray, e, List.length_append]
    simp
theorem backI : ∀ (L : List Sym) (n : Nat) (acc : List Sym), (∀ x ∈ L, Good x) → L.length < n → acc.length + L.length ≤ 800 → goI n ⟨(textL L).toArray⟩ acc = some (acc ++ L)
  | [], 0, acc, _, h, _ => absurd h (Nat.not_lt_zero _)
  | [], n + 1, acc, _, _, _ => by rw [goI, if_pos (show (⟨(textL []).toArray⟩ : ByteArray).size = 0 from rfl), List.append_nil]
  | x :: L, 0, acc, _, h, _ => absurd h (Nat.not_lt_zero _)
  | x :: L, n + 1, acc, hg, hn, h8 => by
    have hx := hg x (List.mem_cons_self ..)
    obtain ⟨a1, a2, a3, a4⟩ := text_cut (L := L) hx
    obtain ⟨b1, b2, b3⟩ := head_nums hx
    rw [List.length_cons] at hn h8
    rw [goI, if_neg a4, a1, a2, if_neg (by omega), b1, b2]
    show goI n ⟨(textL L).toArray⟩ (acc ++ [x]) = _
    rw [backI L n (acc ++ [x]) (fun y hy => hg y (List.mem_cons_of_mem _ hy)) (by omega) (by rw [List.length_append]; simp; omega)]
    simp
theorem backS : ∀ (L : List Sym) (n : Nat) (acc : List Sym), (∀ x ∈ L, Good x) → L.length < n → acc.length + L.length ≤ 800 → goS n ⟨(textL L).toArray⟩ acc = some (acc ++ L)
  | [], 0, acc, _, h, _ => absurd h (Nat.not_lt_zero _)
  | [], n + 1, acc, _, _, _ => by rw [goS, if_pos (.inl (show (⟨(textL []).toArray⟩ : ByteArray).size = 0 from rfl)), List.append_nil]
  | x :: L, 0, acc, _, h, _ => absurd h (Nat.not_lt_zero _)
  | x :: L, n + 1, acc, hg, hn, h8 => by
    have hx := hg x (List.mem_cons_self ..)
    obtain ⟨a1, a2, a3, a4⟩ := text_cut (L := L) hx
    obtain ⟨b1, b2, b3⟩ := head_nums hx
    rw [List.length_cons] at hn h8
    rw [goS, if_neg (by intro h; rcases h with h | h; exact a4 h; omega), a1, a2, a3, if_neg (by intro h; rcases h with h | h; omega; cases h), b1, b2]
    show goS n ⟨(textL L).toArray⟩ (acc ++ [x]) = _
    rw [backS L n (acc ++ [x]) (fun y hy => hg y (List.mem_cons_of_mem _ hy)) (by omega) (by rw [List.length_append]; simp; omega)]
    simp
theorem good_of {L : List Sym} (h : Right L) : ∀ x ∈ L, Good x := by
  intro x hx
  obtain ⟨i, hi, rfl⟩ := List.getElem_of_mem hx
  obtain ⟨h1, h2, h3, _⟩ := h.2 i hi
  exact ⟨h1, h2, h3⟩
theorem text_len : ∀ L : List Sym, L.length ≤ (textL L).length
  | [] => Nat.le_refl _
  | x :: L => by
    have := text_len L
    have e : textL (x :: L) = lineT x ++ textL L := by unfold textL; rw [List.flatMap_cons]
    rw [e, line_head, List.length_append, List.length_append]
    simp; omega
/-- What SymText writes, both sides read back. -/
theorem back {L : List Sym} (h : Right L) : goI ((symT L).size + 1) (symT L) [] = some L ∧ goS ((symT L).size + 1) (symT L) [] = some L := by
  rw [symT_yes h]
  have hl : L.length < (⟨(textL L).toArray⟩ : ByteArray).size + 1 := by
    show L.length < (textL L).toArray.size + 1
    rw [List.size_toArray]; have := text_len L; omega
  have h8 : ([] : List Sym).length + L.length ≤ 800 := by have := h.1; simp; exact this
  exact ⟨by rw [backI L _ [] (good_of h) hl h8]; rfl, by rw [backS L _ [] (good_of h) hl h8]; rfl⟩
noncomputable def outI (s : ByteArray) : Option (List Sym) := fin s (goI (s.size + 1) s [])
noncomputable def outS (s : ByteArray) : Option (List Sym) := fin s (goS (s.size + 1) s [])
theorem right_nil : Right [] := ⟨Nat.zero_le _, fun i h => absurd h (Nat.not_lt_zero _)⟩
theorem right_of {L : List Sym} {s : ByteArray} (h : symT L = s) (h0 : ¬ s.size = 0) : Right L := by
  apply Classical.byContradiction
  intro hn
  rw [symT_no hn] at h
  exact h0 (by rw [← h]; rfl)
theorem fin_some {s : ByteArray} {o : Option (List Sym)} {l : List Sym} (h : fin s o = some l) : o = some l ∧ symT l = s := by
  unfold fin at h
  cases o with
  | none => cases h
  | some l' =>
    simp only at h
    split at h
    · cases h; exact ⟨rfl, by assumption⟩
    · cases h
theorem fin_of {s : ByteArray} {l : List Sym} (h : symT l = s) : fin s (some l) = some l := by unfold fin; simp only; rw [if_pos h]
theorem same (s : ByteArray) : outI s = outS s := by
  by_cases h0 : s.size = 0
  · unfold outI outS
    have e1 : goI (s.size + 1) s [] = some [] := by rw [goI, if_pos h0]
    have e2 : goS (s.size + 1) s [] = some [] := by rw [goS, if_pos (.inl h0)]
    rw [e1, e2]
  · cases hI : outI s with
    | some l =>
      obtain ⟨_, h2⟩ := fin_some hI
      have := (back (right_of h2 h0)).2
      rw [h2] at this
      unfold outS
      rw [this, fin_of h2]
    | none =>
      cases hS : outS s with
      | none => rfl
      | some l =>
        obtain ⟨_, h2⟩ := fin_some hS
        have := (back (right_of h2 h0)).1
        rw [h2] at this
        unfold outI at hI
        rw [this, fin_of h2] at hI
        cases hI
theorem again {L : List Sym} (h : ¬ (symT L).size = 0) : outI (symT L) = some L := by
  have hr := right_of rfl h
  unfold outI
  rw [(back hr).1, fin_of rfl]
theorem out_text {s : ByteArray} {l : List Sym} (h : outI s = some l) : symT l = s := (fin_some h).2
end Go.Proofs.YtkcophgkkeakjaaDoor.Symp
