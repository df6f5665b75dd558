/-
  Plain facts of ours on lines, more: a right line comes back from its text, with a comment too; what is read, written, is read as the same.
-/
import Derived.Test.YtcjipfjbbdbbgaaDoorRound
namespace Go.Proofs.YtcjipfjbbdbbgaaDoor.Rounb
open Go.ChangeShapes Go.WideShapes Go.ChangeAt Go.RowKit Go.Deep
set_option linter.unusedVariables false
open Names (nbB nameB decB)
open Slim Trims Slims Cuts Argz Lines Lino Readl Round

def restL (O A : List UInt8) : List UInt8 := if O = [] then [] else if A = [] then O else O ++ 32 :: A
theorem restL_e (A : List UInt8) : restL [] A = [] := if_pos rfl
theorem restL_o {O : List UInt8} (h : O ≠ []) : restL O [] = O := by unfold restL; rw [if_neg h, if_pos rfl]
theorem restL_b {O A : List UInt8} (h : O ≠ []) (h' : A ≠ []) : restL O A = O ++ 32 :: A := by unfold restL; rw [if_neg h, if_neg h']
theorem op_lets {o : ByteArray} (h : opB o = true) : letsB o = true ∧ o.size ≤ 10 := by
  unfold opB at h; rw [Bool.and_eq_true] at h
  exact ⟨h.1, by have := of_decide_eq_true h.2; omega⟩
theorem lets_nb {o : ByteArray} (h : letsB o = true) : ∀ x ∈ o.data.toList, nbB (x.toNat : Int) = true := fun x hx => (low_nb (lets_all h x hx)).1
theorem lets_not {o : ByteArray} (h : letsB o = true) {c : UInt8} (hc : lowB (c.toNat : Int) = false) : c ∉ o.data.toList := fun hm => by have := lets_all h c hm; rw [hc] at this; cases this

theorem rest_ends {o a : ByteArray} (ho : letsB o = true) (ha : okB a = true) : ends (restL o.data.toList a.data.toList) := by
  by_cases h1 : o.data.toList = []
  · rw [h1, restL_e]; exact .inl rfl
  · by_cases h2 : a.data.toList = []
    · rw [h2, restL_o h1]; exact nb_ends (lets_nb ho)
    · rw [restL_b h1 h2]
      rcases nb_ends (lets_nb ho) with h | ⟨⟨d, e, hd, hn⟩, _⟩
      · exact absurd h h1
      · obtain ⟨e', d', hs⟩ := snoc_of h2
        refine .inr ⟨⟨d, e ++ 32 :: a.data.toList, by rw [hd]; rfl, hn⟩, ⟨o.data.toList ++ 32 :: e', d', by rw [hs]; simp, good_last _ 44 (ok_good ha).1 e' d' hs⟩⟩
theorem rest_59 {o a : ByteArray} (ho : letsB o = true) (ha : okB a = true) : (59 : UInt8) ∉ restL o.data.toList a.data.toList := by
  have h1 : (59 : UInt8) ∉ o.data.toList := lets_not ho (by decide)
  have h2 : (59 : UInt8) ∉ a.data.toList := fun h => (ok_good ha).2 59 h rfl
  unfold restL
  split
  · simp
  · split
    · exact h1
    · simp [h1, h2]
theorem rest_parse {o a r : ByteArray} (ho : letsB o = true) (ha : okB a = true) (hoa : o.size = 0 → a.size = 0) (hr : r.data.toList = restL o.data.toList a.data.toList) : cutA r 32 = o ∧ slimS (cutB r 32) = a := by
  have e32 : ((32 : UInt8).toNat : Int) = 32 := rfl
  have hn : (32 : UInt8) ∉ o.data.toList := lets_not ho (by decide)
  have slim0 : slimS ⟨#[]⟩ = (⟨#[]⟩ : ByteArray) := rfl
  by_cases h2 : a.data.toList = []
  · have ha0 : a = ⟨#[]⟩ := ext_lists (by rw [h2])
    have hro : r = o := ext_lists (by
      rw [hr, h2]
      by_cases h1 : o.data.toList = []
      · rw [h1, restL_e]
      · rw [restL_o h1])
    subst hro
    have := cut_not hn
    rw [e32] at this
    exact ⟨this.2.1, by rw [this.2.2, slim0, ha0]⟩
  · have h1 : o.data.toList ≠ [] := fun e => by
      have : a.size = 0 := hoa (by rw [← size_list, e]; rfl)
      exact h2 (list_nil this)
    rw [restL_b h1 h2] at hr
    have := cut_split hr hn
    rw [e32] at this
    have hA : cutA r 32 = o := ext_lists this.2.1
    have hB : cutB r 32 = a := ext_lists this.2.2
    exact ⟨hA, by rw [hB, good_slim ha]⟩
theorem line_list {l o a : ByteArray} (hoa : o.size = 0 → a.size = 0) : (lineT l o a).data.toList = if l.size = 0 then restL o.data.toList a.data.toList else l.data.toList ++ 58 :: (if restL o.data.toList a.data.toList = [] then [] else 32 :: restL o.data.toList a.data.toList) := by
  have z : ∀ x : ByteArray, x.size = 0 → x.data.toList = [] := fun x h => list_nil h
  have nz : ∀ x : ByteArray, ¬ x.size = 0 → x.data.toList ≠ [] := fun x h => list_ne (by omega)
  by_cases hl : l.size = 0
  · rw [if_pos hl]
    by_cases ho : o.size = 0
    · rw [line_0ee hl ho (hoa ho), z o ho, restL_e]
    · by_cases ha : a.size = 0
      · rw [line_0oe hl ho ha, z a ha, restL_o (nz o ho)]
      · rw [line_0oa hl ho ha, restL_b (nz o ho) (nz a ha), list_cat, list_cat]; simp
  · rw [if_neg hl]
    by_cases ho : o.size = 0
    · rw [line_1ee hl ho (hoa ho), z o ho, restL_e, if_pos rfl, list_cat]
    · by_cases ha : a.size = 0
      · rw [line_1oe hl ho ha, z a ha, restL_o (nz o ho), if_neg (nz o ho), list_cat, list_cat, list_cat]; simp
      · rw [line_1oa hl ho ha, restL_b (nz o ho) (nz a ha), if_neg (by simp), list_cat, list_cat, list_cat, list_cat, list_cat]; simp
theorem line_head {l o a : ByteArray} (h : lineB l o a = true) : headB l o a ∧ (lineT l o a).size ≤ 80 := by
  have hh : headB l o a := by
    rcases Classical.em (headB l o a) with h' | h'
    · exact h'
    · rw [line_no h'] at h; cases h
  rw [line_yes hh] at h
  exact ⟨hh, by have := of_decide_eq_true h; omega⟩

theorem text_ends {l o a : ByteArray} (h : headB l o a) : ends (lineT l o a).data.toList ∧ (59 : UInt8) ∉ (lineT l o a).data.toList := by
  obtain ⟨h1, h2, h3, h4⟩ := h
  obtain ⟨h3, _⟩ := op_lets h3
  have re := rest_ends h3 h4
  have r9 := rest_59 h3 h4
  rw [line_list h2]
  by_cases hl : l.size = 0
  · rw [if_pos hl]; exact ⟨re, r9⟩
  · rw [if_neg hl]
    have hn : nameB l = true := h1.resolve_left hl
    obtain ⟨n1, n2, n3⟩ := name_all hn
    have l9 : (59 : UInt8) ∉ l.data.toList := nb_not n3 (by decide)
    refine ⟨?_, ?_⟩
    · rcases nb_ends n3 with h | ⟨⟨d, e, hd, hdn⟩, _⟩
      · exact absurd h (list_ne (by omega))
      · refine .inr ⟨⟨d, e ++ 58 :: (if restL o.data.toList a.data.toList = [] then [] else 32 :: restL o.data.toList a.data.toList), by rw [hd]; rfl, hdn⟩, ?_⟩
        by_cases hr : restL o.data.toList a.data.toList = []
        · rw [if_pos hr]; exact ⟨l.data.toList, 58, rfl, by decide⟩
        · rw [if_neg hr]
          rcases re with h | ⟨_, ⟨e', d', hs, hdn'⟩⟩
          · exact absurd h hr
          · exact ⟨l.data.toList ++ 58 :: 32 :: e', d', by rw [hs]; simp, hdn'⟩
    · by_cases hr : restL o.data.toList a.data.toList = []
      · rw [if_pos hr]; simp [l9]
      · rw [if_neg hr]; simp [l9, r9]
theorem said_text {l o a : ByteArray} (h : headB l o a) : saidT (lineT l o a) = lineT l o a := by
  obtain ⟨he, h9⟩ := text_ends h
  have := cut_not h9
  unfold saidT
  rw [show cutA (lineT l o a) 59 = lineT l o a from this.2.1, trimS_ends he]
/-- A text with blanks ahead and a comment behind. -/
theorem said_comment {t c : ByteArray} (he : ends t.data.toList) (h9 : (59 : UInt8) ∉ t.data.toList) (hc : ∃ q, c.data.toList = 32 :: 59 :: q) : saidT (⟨#[32, 32]⟩ ++ t ++ c) = t := by
  obtain ⟨q, hq⟩ := hc
  have hL : (⟨#[32, 32]⟩ ++ t ++ c : ByteArray).data.toList = ([32, 32] ++ (t.data.toList ++ [32])) ++ 59 :: q := by
    rw [list_cat, list_cat, hq]; simp
  have := cut_split hL (by simp [h9])
  unfold saidT
  apply ext_lists
  rw [list_trim]
  rw [show (cutA (⟨#[32, 32]⟩ ++ t ++ c) 59).data.toList = [32, 32] ++ (t.data.toList ++ [32]) from this.2.1]
  exact trim_mid (by intro x hx; simp at hx; exact hx) (by intro x hx; simp at hx; exact hx) he
theorem text_parse {l o a : ByteArray} (h : headB l o a) (hc : 0 < l.size ∨ labB (lineT l o a) = false) : labelT (lineT l o a) = l ∧ cutA (restT (lineT l o a)) 32 = o ∧ slimS (cutB (restT (lineT l o a)) 32) = a := by
  have hh := h
  obtain ⟨h1, h2, h3, h4⟩ := h
  obtain ⟨h3, _⟩ := op_lets h3
  have hL := line_list (l := l) h2
  by_cases hl : l.size = 0
  · rw [if_pos hl] at hL
    have hb : labB (lineT l o a) = false := hc.resolve_left (by omega)
    obtain ⟨e1, e2⟩ := lab_no hb
    rw [e1, e2]
    have hp := rest_parse h3 h4 h2 hL
    exact ⟨(Lines.size_zero hl).symm, hp.1, hp.2⟩
  · rw [if_neg hl] at hL
    have hn : nameB l = true := h1.resolve_left hl
    obtain ⟨n1, n2, n3⟩ := name_all hn
    have l58 : (58 : UInt8) ∉ l.data.toList := nb_not n3 (by decide)
    have hs := cut_split hL l58
    have hA : cutA (lineT l o a) 58 = l := ext_lists hs.2.1
    have hF : cutF (lineT l o a) 58 = true := hs.1
    have hB : (cutB (lineT l o a) 58).data.toList = (if restL o.data.toList a.data.toList = [] then [] else 32 :: restL o.data.toList a.data.toList) := hs.2.2
    have ht : trimS l = l := trimS_ends (nb_ends n3)
    have hb : labB (lineT l o a) = true := by unfold labB; rw [hF, hA, ht, hn]; rfl
    obtain ⟨e1, e2⟩ := lab_yes hb
    have hR : (trimS (cutB (lineT l o a) 58)).data.toList = restL o.data.toList a.data.toList := by
      rw [list_trim, hB]
      by_cases hr : restL o.data.toList a.data.toList = []
      · rw [if_pos hr, hr]; rfl
      · rw [if_neg hr]
        have := trim_mid (a := [32]) (b := []) (m := restL o.data.toList a.data.toList) (by intro x hx; simp at hx; exact hx) (by intro x hx; exact absurd hx List.not_mem_nil) (rest_ends h3 h4)
        rw [List.append_nil] at this
        exact this
    have hp := rest_parse h3 h4 h2 hR
    rw [e1, e2, hA, ht]
    exact ⟨rfl, hp.1, hp.2⟩
theorem read_of {s l o a : ByteArray} (h : lineB l o a = true) (hc : 0 < l.size ∨ labB (lineT l o a) = false) (hz : s.size ≤ 240) (hs : saidT s = lineT l o a) : readV s = .tuple #[.agg #[.string l, .string o, .string a], .bool true] := by
  obtain ⟨hh, _⟩ := line_head h
  obtain ⟨e1, e2, e3⟩ := text_parse hh hc
  have f1 : lT s = l := by unfold lT; rw [hs]; exact e1
  have f2 : oT s = o := by unfold oT; rw [hs]; exact e2
  have f3 : aT s = a := by unfold aT; rw [hs]; exact e3
  have := read_yes hz (by rw [f1, f2, f3]; exact h)
  rw [f1, f2, f3] at this
  exact this
theorem lab_none {t : ByteArray} (h : (58 : UInt8) ∉ t.data.toList) : labB t = false := by
  have := cut_not h
  unfold labB
  rw [show cutF t 58 = false from this.1]; rfl
theorem no_colon {l o a : ByteArray} (h : headB l o a) (hl : l.size = 0) (ha : (58 : UInt8) ∉ a.data.toList) : labB (lineT l o a) = false := by
  obtain ⟨h1, h2, h3, h4⟩ := h
  obtain ⟨h3, _⟩ := op_lets h3
  apply lab_none
  rw [line_list h2, if_pos hl]
  have ho : (58 : UInt8) ∉ o.data.toList := lets_not h3 (by decide)
  unfold restL
  split
  · simp
  · split
    · exact ho
    · simp [ho, ha]

theorem sq_prefix : ∀ (l A : List UInt8) (p : Bool), ∃ z, sq l A p = A ++ z
  | [], A, p => ⟨[], by rw [sq, List.append_nil]⟩
  | c :: r, A, p => by
    rw [sq]
    split
    · exact sq_prefix r A true
    · split
      · obtain ⟨z, hz⟩ := sq_prefix r (A ++ [32, c]) false
        exact ⟨[32, c] ++ z, by rw [hz, List.append_assoc]⟩
      · obtain ⟨z, hz⟩ := sq_prefix r (A ++ [c]) false
        exact ⟨[c] ++ z, by rw [hz, List.append_assoc]⟩
theorem sq_head : ∀ (l : List UInt8) (p : Bool) (c : UInt8) (z : List UInt8), sq l [] p = c :: z → ∃ b r, l = b ++ c :: r ∧ blnk b
  | [], p, c, z, h => by rw [sq] at h; exact absurd h (by simp)
  | x :: r, p, c, z, h => by
    rw [sq] at h
    split at h
    · rename_i hx
      obtain ⟨b, r', e, hb⟩ := sq_head r true c z h
      exact ⟨x :: b, r', by rw [e]; rfl, fun y hy => by
        rcases List.mem_cons.1 hy with h1 | h1
        · rw [h1, hx]
        · exact hb y h1⟩
    · rw [if_neg (by rintro ⟨_, _, h1, _⟩; exact h1 rfl)] at h
      obtain ⟨z', hz⟩ := sq_prefix r ([] ++ [x]) false
      rw [hz] at h
      have : x = c := by simpa using congrArg List.head? h
      subst this
      exact ⟨[], r, rfl, fun y hy => absurd hy List.not_mem_nil⟩
theorem first_of {c : UInt8} : ∀ {L : List UInt8}, c ∈ L → ∃ a1 a2, L = a1 ++ c :: a2 ∧ c ∉ a1
  | [], h => absurd h List.not_mem_nil
  | x :: r, h => by
    by_cases hx : x = c
    · exact ⟨[], r, by rw [hx]; rfl, List.not_mem_nil⟩
    · have hr : c ∈ r := by
        rcases List.mem_cons.1 h with h' | h'
        · exact absurd h'.symm hx
        · exact h'
      obtain ⟨a1, a2, e, h'⟩ := first_of hr
      exact ⟨x :: a1, a2, by rw [e]; rfl, by simp [Ne.symm hx, h']⟩
theorem cutI_num (u : ByteArray) (c : Int) : ∀ (n k : Nat), u.size - k = n → cutI u c k < u.size → (Fill.numAt u (cutI u c k) : Int) = c := by
  intro n
  induction n using Nat.strongRecOn with
  | _ n ih =>
    intro k hn h'
    rw [cutI] at h' ⊢
    split at h'
    · rename_i hk
      rw [if_pos hk]
      split at h'
      · rename_i hc'; rw [if_pos hc']; exact hc'
      · rename_i hc'; rw [if_neg hc']; exact ih (u.size - (k + 1)) (by omega) (k + 1) rfl h'
    · exact absurd h' (Nat.lt_irrefl _)
theorem cut_whole {u : ByteArray} (hF : cutF u 32 = true) : u.data.toList = (cutA u 32).data.toList ++ 32 :: (cutB u 32).data.toList := by
  have hlt : cutI u 32 0 < u.size := of_decide_eq_true (show decide _ = true from hF)
  have hc0 := cutI_num u 32 _ 0 rfl hlt
  unfold cutA cutB
  rw [if_pos hF, if_pos hF, list_take, list_drop]
  generalize cutI u 32 0 = k at hlt hc0
  have hkl : k < u.data.toList.length := by rw [size_list]; exact hlt
  have hx : u.data.toList[k] = 32 := by
    rw [num_list u hkl] at hc0
    exact UInt8.toNat_inj.1 (by have : (32 : UInt8).toNat = 32 := rfl; omega)
  rw [← hx, ← List.drop_eq_getElem_cons hkl, List.take_append_drop]
theorem tr_ne : ∀ (q : List UInt8), (∃ y, y ∈ q ∧ y ≠ 32) → tr q ≠ []
  | [], h => by obtain ⟨y, hy, _⟩ := h; exact absurd hy List.not_mem_nil
  | x :: r, h => by
    rw [tr_cons]
    by_cases hx : x = 32
    · obtain ⟨y, hy, hyn⟩ := h
      have hr : y ∈ r := by
        rcases List.mem_cons.1 hy with h' | h'
        · exact absurd (h'.trans hx) hyn
        · exact h'
      rw [if_neg (fun hh => tr_ne r ⟨y, hr, hyn⟩ hh.2)]
      simp
    · rw [if_neg (fun hh => hx hh.1)]; simp
theorem tr_mem (q : List UInt8) (hq : ∃ y, y ∈ q ∧ y ≠ 32) : ∀ (p : List UInt8), (32 : UInt8) ∈ tr (p ++ 32 :: q)
  | [] => by
    rw [List.nil_append, tr_cons, if_neg (fun hh => tr_ne q hq hh.2)]; simp
  | x :: r => by
    have ih := tr_mem q hq r
    rw [List.cons_append, tr_cons, if_neg (fun hh => by rw [hh.2] at ih; exact absurd ih List.not_mem_nil)]
    exact List.mem_cons_of_mem _ ih
/-- What is read has a label, or its text has none. -/
theorem read_lab {s : ByteArray} (h : headB (lT s) (oT s) (aT s)) : 0 < (lT s).size ∨ labB (lineT (lT s) (oT s) (aT s)) = false := by
  by_cases hl0 : 0 < (lT s).size
  · exact .inl hl0
  have hl : (lT s).size = 0 := by omega
  right
  by_cases ha' : (58 : UInt8) ∉ (aT s).data.toList
  · exact no_colon h hl ha'
  have ha : (58 : UInt8) ∈ (aT s).data.toList := Classical.not_not.1 ha'
  have hh := h
  obtain ⟨h1, h2, h3, h4⟩ := h
  obtain ⟨h3, h3z⟩ := op_lets h3
  -- the label is none, so all is the rest
  have hlab : labB (saidT s) = false := by
    cases hb : labB (saidT s) with
    | false => rfl
    | true =>
      exfalso
      have e := (lab_yes hb).1
      have hn : nameB (trimS (cutA (saidT s) 58)) = true := by unfold labB at hb; rw [Bool.and_eq_true] at hb; exact hb.2
      have := (name_all hn).1
      unfold lT at hl
      rw [e] at hl
      omega
  have hrest : restT (saidT s) = saidT s := (lab_no hlab).2
  have hane : (aT s).data.toList ≠ [] := fun e => by rw [e] at ha; cases ha
  have hone : (oT s).data.toList ≠ [] := fun e => by
    have : (aT s).size = 0 := h2 (by rw [← size_list, e]; rfl)
    exact hane (list_nil this)
  have ho58 : (58 : UInt8) ∉ (oT s).data.toList := lets_not h3 (by decide)
  have hL := line_list (l := lT s) h2
  rw [if_pos hl, restL_b hone hane] at hL
  obtain ⟨a1, a2, hA, ha1⟩ := first_of ha
  have hLc : (lineT (lT s) (oT s) (aT s)).data.toList = ((oT s).data.toList ++ 32 :: a1) ++ 58 :: a2 := by rw [hL, hA]; simp
  have hs := cut_split hLc (by simp [ho58, ha1])
  have e58 : ((58 : UInt8).toNat : Int) = 58 := rfl
  rw [e58] at hs
  have hX : (trimS (cutA (lineT (lT s) (oT s) (aT s)) 58)).data.toList = tr (tl ((oT s).data.toList ++ 32 :: a1)) := by
    rw [list_trim, hs.2.1]
  obtain ⟨d, e, hd, hdn⟩ : ∃ d e, (oT s).data.toList = d :: e ∧ d ≠ 32 := by
    rcases nb_ends (lets_nb h3) with h' | ⟨h', _⟩
    · exact absurd h' hone
    · exact h'
  have htl : tl ((oT s).data.toList ++ 32 :: a1) = (oT s).data.toList ++ 32 :: a1 := by rw [hd, List.cons_append, tl_cons, if_neg hdn]
  rcases List.eq_nil_or_concat a1 with h0 | ⟨b1, x1, h0⟩
  · -- a colon right behind the op: then the op was a label
    exfalso
    subst h0
    have hsl : sq (cutB (restT (saidT s)) 32).data.toList [] false = 58 :: a2 := by
      have := list_slim (cutB (restT (saidT s)) 32)
      rw [← this]
      exact hA
    obtain ⟨b, r, hraw, hb⟩ := sq_head _ _ _ _ hsl
    rw [hrest] at hraw
    have hF : cutF (saidT s) 32 = true := by
      cases hf : cutF (saidT s) 32 with
      | true => rfl
      | false =>
        exfalso
        have : cutB (saidT s) 32 = ⟨#[]⟩ := by unfold cutB; rw [hf]; rfl
        rw [this] at hraw
        simp at hraw
    have hsplit : (saidT s).data.toList = (oT s).data.toList ++ 32 :: (cutB (saidT s) 32).data.toList := by
      have hoA : oT s = cutA (saidT s) 32 := by unfold oT; rw [hrest]
      rw [hoA]; exact cut_whole hF
    have hcol : (saidT s).data.toList = ((oT s).data.toList ++ 32 :: b) ++ 58 :: r := by rw [hsplit, hraw]; simp
    have hb58 : (58 : UInt8) ∉ b := fun hm => by have := hb 58 hm; revert this; decide
    have hsc := cut_split hcol (by simp [ho58, hb58])
    rw [e58] at hsc
    have hto : trimS (cutA (saidT s) 58) = oT s := ext_lists (by
      rw [list_trim, hsc.2.1]
      have := trim_mid (a := []) (m := (oT s).data.toList) (b := 32 :: b) (by intro x hx; exact absurd hx List.not_mem_nil) (by
        intro x hx
        rcases List.mem_cons.1 hx with h' | h'
        · exact h'
        · exact hb x h') (nb_ends (lets_nb h3))
      exact this)
    have : labB (saidT s) = true := by
      unfold labB
      rw [hsc.1, hto, name_lets h3 (by have := list_ne (o := oT s); rcases Nat.eq_zero_or_pos (oT s).size with h' | h'; exact absurd (list_nil h') hone; exact h') (by omega)]
      rfl
    rw [this] at hlab
    cases hlab
  · -- a blank stands within what is ahead of the colon
    have hx1 : ∃ y, y ∈ a1 ∧ y ≠ 32 := by
      rcases a1 with _ | ⟨y, r⟩
      · simp at h0
      · refine ⟨y, by simp, ?_⟩
        have hg := (ok_good h4).1
        rw [hA] at hg
        exact good_head hg
    have hbl : (32 : UInt8) ∈ tr ((oT s).data.toList ++ 32 :: a1) := tr_mem a1 hx1 _
    have hnm : nameB (trimS (cutA (lineT (lT s) (oT s) (aT s)) 58)) = false := by
      cases hb : nameB (trimS (cutA (lineT (lT s) (oT s) (aT s)) 58)) with
      | false => rfl
      | true =>
        exfalso
        have := (name_all hb).2.2 32 (by rw [hX, htl]; exact hbl)
        revert this; decide
    unfold labB
    rw [hnm, Bool.and_false]
/-- What is read, written, is read as the same. -/
theorem read_again {s : ByteArray} (h : lineB (lT s) (oT s) (aT s) = true) : readV (lineT (lT s) (oT s) (aT s)) = .tuple #[.agg #[.string (lT s), .string (oT s), .string (aT s)], .bool true] := by
  obtain ⟨hh, hz⟩ := line_head h
  exact read_of h (read_lab hh) (by omega) (said_text hh)
end Go.Proofs.YtcjipfjbbdbbgaaDoor.Rounb
