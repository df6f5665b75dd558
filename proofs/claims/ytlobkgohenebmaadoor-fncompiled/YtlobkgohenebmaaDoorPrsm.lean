/-
  Pure: of how an expression is read: the same with more room where few signs stand in the text; the same with a closing bracket behind.
-/
import Derived.Test.YtlobkgohenebmaaDoorPrsl
namespace Go.Proofs.YtlobkgohenebmaaDoor.Prsm
open Prsp Prsl
set_option linter.unusedVariables false
set_option linter.unusedSimpArgs false

/-- Signs ahead of which, or behind which, a value stands deeper. -/
def spc (c : UInt8) : Bool := [45, 126, 40, 42, 47, 37, 43, 38, 94, 124, 60, 62].contains c
def sp (l : List UInt8) : Nat := l.countP spc
theorem sp_suf {a b : List UInt8} (h : a <:+ b) : sp a ≤ sp b := h.sublist.countP_le
theorem hd_cons {l : List UInt8} {c : Int} (h : hd l = c) (hc : c ≠ 0) : ∃ b r, l = b :: r ∧ (b.toNat : Int) = c := by
  cases l with
  | nil => exact absurd h.symm hc
  | cons b r => exact ⟨b, r, rfl, h⟩
theorem sp_hd {l : List UInt8} {b : UInt8} (h : hd l = (b.toNat : Int)) (hb : b.toNat ≠ 0) (hs : spc b = true) : sp l.tail < sp l := by
  obtain ⟨b', r, rfl, e⟩ := hd_cons h (by omega)
  have : b' = b := UInt8.toNat_inj.1 (by omega)
  subst this
  show sp r < List.countP spc (b' :: r)
  rw [List.countP_cons_of_pos hs]
  exact Nat.lt_succ_self _
theorem sp_op {l : List UInt8} (h : 8 ≤ opK l ∧ opK l ≤ 17) : sp (l.drop (opL (opK l))) < sp l := by
  have key : sp l.tail < sp l := by
    unfold opK at h
    split at h
    · rename_i e
      exact sp_hd (b := 60) (by cases l with | nil => cases e | cons b r => cases r <;> simp at e; simp [hd, e]) (by decide) (by decide)
    split at h
    · rename_i e
      exact sp_hd (b := 62) (by cases l with | nil => cases e | cons b r => cases r <;> simp at e; simp [hd, e]) (by decide) (by decide)
    split at h
    · rename_i e; exact sp_hd (b := 42) e (by decide) (by decide)
    split at h
    · rename_i e; exact sp_hd (b := 47) e (by decide) (by decide)
    split at h
    · rename_i e; exact sp_hd (b := 37) e (by decide) (by decide)
    split at h
    · rename_i e; exact sp_hd (b := 43) e (by decide) (by decide)
    split at h
    · rename_i e; exact sp_hd (b := 45) e (by decide) (by decide)
    split at h
    · rename_i e; exact sp_hd (b := 38) e (by decide) (by decide)
    split at h
    · rename_i e; exact sp_hd (b := 94) e (by decide) (by decide)
    split at h
    · rename_i e; exact sp_hd (b := 124) e (by decide) (by decide)
    · omega
  have h1 : l.drop (opL (opK l)) <:+ l.tail := by
    have := (opL_bd (opK l)).1
    rw [show opL (opK l) = 1 + (opL (opK l) - 1) by omega, ← List.drop_drop, List.drop_one]
    exact List.drop_suffix _ _
  exact Nat.lt_of_le_of_lt (sp_suf h1) key

theorem br_congr {l l' : St → Option St} {s : St} {N : Nat} (hl : ∀ t, sp t.1 < N → l t = l' t) (hs : hd s.1 = 40) (hN : sp s.1 ≤ N) : brF l s = brF l' s := by
  unfold brF
  rw [hl _ (Nat.lt_of_lt_of_le (sp_hd (b := 40) hs (by decide) (by decide)) hN)]
theorem value_congr {v v' l l' : St → Option St} {s : St} (hv : ∀ t, sp t.1 < sp s.1 → v t = v' t) (hl : ∀ t, sp t.1 < sp s.1 → l t = l' t) : valueF v l s = valueF v' l' s := by
  unfold valueF
  split
  · rename_i e; rw [hv _ (sp_hd (b := 45) e (by decide) (by decide))]
  split
  · rename_i e; rw [hv _ (sp_hd (b := 126) e (by decide) (by decide))]
  split
  · rename_i e; exact br_congr hl e (Nat.le_refl _)
  · unfold wordF
    split
    · rfl
    split
    · rename_i e; rw [br_congr (s := (af s.1, s.2)) hl (of_decide_eq_true e).1 (sp_suf (af_suf _))]
    split
    · rename_i e; rw [br_congr (s := (af s.1, s.2)) hl (of_decide_eq_true e).1 (sp_suf (af_suf _))]
    · rfl
theorem loop_congr {f f' : Int → St → Option St} (hf : ∀ n s s', 1 ≤ n → f n s = some s' → Shp s s') {least : Int} (hl : 1 ≤ least) {N : Nat} (h : ∀ n t, 1 ≤ n → sp t.1 < N → f n t = f' n t) :
    ∀ (m : Nat) (s : St), s.1.length ≤ m → sp s.1 ≤ N → loopF f least s = loopF f' least s
  | m, s, hm, hN => by
    by_cases ht : tgt (opK s.1) < least
    · rw [loop_stop ht, loop_stop ht]
    · have ho := op_ne hl ht
      have e : stepF f s = stepF f' s := by
        unfold stepF
        rw [h _ (s.1.drop (opL (opK s.1)), s.2) (by have := tight_bd ho; omega) (Nat.lt_of_lt_of_le (sp_op ho) hN)]
      cases hs : stepF f s with
      | none =>
        have hs' : stepF f' s = none := e ▸ hs
        rw [loop_none ht hs, loop_none ht hs']
      | some s1 =>
        have hs' : stepF f' s = some s1 := e ▸ hs
        by_cases hlt : s1.1.length < s.1.length
        · rw [loop_go ht hs hlt, loop_go ht hs' hlt]
          match m, hm with
          | 0, hm => omega
          | m + 1, hm =>
            refine loop_congr hf hl h m s1 (by omega) (Nat.le_trans (sp_suf ?_) hN)
            obtain ⟨s2, h1, h2⟩ := bind_some hs
            have a := hf _ _ _ (by have := tight_bd ho; omega) h1
            obtain ⟨_, rfl⟩ := put_some h2
            exact a.rest.trans (List.drop_suffix _ _)
        · rw [loopF, if_neg ht, hs, loopF, if_neg ht, hs']
          simp only [dif_neg hlt]
theorem more : ∀ k, (∀ s, sp s.1 < k → val k s = val (k + 1) s) ∧ (∀ n s, 1 ≤ n → sp s.1 < k → lev k n s = lev (k + 1) n s)
  | 0 => ⟨(fun s h => absurd h (Nat.not_lt_zero _)), (fun n s _ h => absurd h (Nat.not_lt_zero _))⟩
  | k + 1 => by
    have ih := more k
    have hv : ∀ s, sp s.1 < k + 1 → val (k + 1) s = val (k + 2) s := fun s h => by
      rw [val_succ, val_succ]
      exact value_congr (fun t ht => ih.1 t (by omega)) (fun t ht => ih.2 1 t (by decide) (by omega))
    refine ⟨hv, fun n s hn h => ?_⟩
    rw [lev_succ, lev_succ, ← hv s h]
    cases e : val (k + 1) s with
    | none => rfl
    | some s1 =>
      show loopF (lev k) n s1 = loopF (lev (k + 1)) n s1
      refine loop_congr (both_shp k).2 hn (N := sp s.1) (fun n t h1 h2 => ih.2 n t h1 (by omega)) _ s1 (Nat.le_refl _) (sp_suf ((both_shp (k + 1)).1 _ _ e).rest)
theorem comp_more {k : Nat} {l : List UInt8} (h : sp l < k) : comp k l = comp (k + 1) l := by
  unfold comp
  rw [(more k).2 1 (l, []) (by decide) h]

/- With something behind: nothing, or a closing bracket. -/
def Z (z : List UInt8) : Prop := z = [] ∨ z = [41]
def ph (z : List UInt8) (s : St) : St := (s.1 ++ z, s.2)
theorem hd_z {z : List UInt8} (hz : Z z) {l : List UInt8} {c : Int} (h0 : c ≠ 0) (h1 : c ≠ 41) : hd (l ++ z) = c ↔ hd l = c := by
  cases l with
  | nil =>
    rcases hz with rfl | rfl
    · exact Iff.rfl
    · show (41 : Int) = c ↔ (0 : Int) = c
      constructor <;> intro h <;> omega
  | cons b r => exact Iff.rfl
theorem tail_z {l z : List UInt8} {c : Int} (h : hd l = c) (h0 : c ≠ 0) : (l ++ z).tail = l.tail ++ z := by
  obtain ⟨b, r, rfl, _⟩ := hd_cons h h0
  rfl
theorem isW_41 : isW 41 = false := by decide
theorem wd_z {z : List UInt8} (hz : Z z) : ∀ l : List UInt8, wd (l ++ z) = wd l ∧ af (l ++ z) = af l ++ z
  | [] => by
    rcases hz with rfl | rfl
    · exact ⟨rfl, rfl⟩
    · exact ⟨by decide, by decide⟩
  | b :: r => by
    have ih := wd_z hz r
    unfold wd af at *
    cases hb : isW b with
    | true => exact ⟨by rw [List.cons_append, List.takeWhile_cons, List.takeWhile_cons, hb]; simp [ih.1], by rw [List.cons_append, List.dropWhile_cons, List.dropWhile_cons, hb]; simp [ih.2]⟩
    | false => exact ⟨by rw [List.cons_append, List.takeWhile_cons, List.takeWhile_cons, hb]; simp, by rw [List.cons_append, List.dropWhile_cons, List.dropWhile_cons, hb]; simp⟩
theorem put_z {z : List UInt8} {x : Stepx.Node} {s s' : St} (h : put x s = some s') : put x (ph z s) = some (ph z s') := by
  obtain ⟨h1, rfl⟩ := put_some h
  unfold put ph
  rw [if_pos h1]
theorem close_z {z : List UInt8} (hz : Z z) {s s' : St} (h : close s = some s') : close (ph z s) = some (ph z s') := by
  obtain ⟨h1, rfl⟩ := close_some h
  obtain ⟨b, r, e, hb⟩ := hd_cons h1 (by decide)
  unfold close ph
  rw [e]
  have : hd (b :: r ++ z) = 41 := hb
  rw [if_pos this]
  rfl
theorem bind_z {z : List UInt8} {x y : Option St} {f g : St → Option St} {s' : St} (hx : ∀ a, x = some a → y = some (ph z a)) (hf : ∀ a b, f a = some b → g (ph z a) = some (ph z b)) (h : x.bind f = some s') : y.bind g = some (ph z s') := by
  obtain ⟨a, h1, h2⟩ := bind_some h
  rw [hx a h1]
  exact hf a s' h2
theorem leaf_z {z : List UInt8} {t : ByteArray} {s s' : St} (h : leafF t s = some s') : leafF t (ph z s) = some (ph z s') := by
  unfold leafF at *
  split at h
  · exact put_z h
  · split at h
    · rename_i hn; rw [if_pos hn]; exact put_z h
    · cases h
theorem signed_z {z : List UInt8} (hz : Z z) (l : List UInt8) : signed (l ++ z) = signed l := by
  unfold signed
  simp only [hd_z hz (show (36 : Int) ≠ 0 by decide) (show (36 : Int) ≠ 41 by decide), hd_z hz (show (37 : Int) ≠ 0 by decide) (show (37 : Int) ≠ 41 by decide)]
theorem opens_z {z : List UInt8} (hz : Z z) (l t : List UInt8) : opens (l ++ z) t = opens l t := by
  unfold opens
  rw [(wd_z hz l).1, (wd_z hz l).2]
  simp only [hd_z hz (show (40 : Int) ≠ 0 by decide) (show (40 : Int) ≠ 41 by decide)]
def Sim (z : List UInt8) (f g : St → Option St) : Prop := ∀ s s', f s = some s' → g (ph z s) = some (ph z s')
theorem br_z {z : List UInt8} (hz : Z z) {l l' : St → Option St} (hl : Sim z l l') {s s' : St} (h40 : hd s.1 = 40) (h : brF l s = some s') : brF l' (ph z s) = some (ph z s') := by
  unfold brF at *
  refine bind_z (fun a ha => ?_) (fun a b => close_z hz) h
  have := hl _ _ ha
  rw [← this]
  show l' ((s.1 ++ z).tail, s.2) = l' (s.1.tail ++ z, s.2)
  rw [tail_z h40 (by decide)]
theorem word_z {z : List UInt8} (hz : Z z) {l l' : St → Option St} (hl : Sim z l l') : Sim z (wordF l) (wordF l') := by
  intro s s' h
  unfold wordF at h
  split at h
  · rename_i e
    have e' : signed (ph z s).1 = true := (signed_z hz s.1).trans e
    unfold wordF
    rw [if_pos e']
    have hx := leaf_z (z := z) h
    obtain ⟨b, r, e2, _⟩ : ∃ b r, s.1 = b :: r ∧ True := by
      rcases of_decide_eq_true e with h | h
      · obtain ⟨b, r, e, _⟩ := hd_cons h (by decide); exact ⟨b, r, e, trivial⟩
      · obtain ⟨b, r, e, _⟩ := hd_cons h (by decide); exact ⟨b, r, e, trivial⟩
    rw [← hx]
    show leafF (bs ((s.1 ++ z).take 1 ++ wd (s.1 ++ z).tail)) (af (s.1 ++ z).tail, s.2) = _
    rw [e2]
    show leafF (bs ([b] ++ wd (r ++ z))) (af (r ++ z), s.2) = leafF (bs ([b] ++ wd r)) (af r ++ z, s.2)
    rw [(wd_z hz r).1, (wd_z hz r).2]
  · rename_i e0
    have e0' : ¬ signed (ph z s).1 = true := by rw [show signed (ph z s).1 = signed s.1 from signed_z hz s.1]; exact e0
    have ea : (ph z (af s.1, s.2)) = (af (s.1 ++ z), s.2) := by unfold ph; rw [(wd_z hz s.1).2]
    split at h
    · rename_i e
      unfold wordF
      rw [if_neg e0', if_pos (show opens (ph z s).1 high = true from (opens_z hz s.1 high).trans e)]
      refine bind_z (fun a ha => ?_) (fun a b => put_z) h
      have := br_z hz hl (s := (af s.1, s.2)) (of_decide_eq_true e).1 ha
      rwa [ea] at this
    · rename_i e1
      have e1' : ¬ opens (ph z s).1 high = true := by rw [show opens (ph z s).1 high = opens s.1 high from opens_z hz s.1 high]; exact e1
      split at h
      · rename_i e
        unfold wordF
        rw [if_neg e0', if_neg e1', if_pos (show opens (ph z s).1 low = true from (opens_z hz s.1 low).trans e)]
        refine bind_z (fun a ha => ?_) (fun a b => put_z) h
        have := br_z hz hl (s := (af s.1, s.2)) (of_decide_eq_true e).1 ha
        rwa [ea] at this
      · rename_i e2
        have e2' : ¬ opens (ph z s).1 low = true := by rw [show opens (ph z s).1 low = opens s.1 low from opens_z hz s.1 low]; exact e2
        split at h
        · rename_i e
          unfold wordF
          rw [if_neg e0', if_neg e1', if_neg e2', if_pos (show opens (ph z s).1 bank = true from (opens_z hz s.1 bank).trans e)]
          have et : (af (s.1 ++ z)).tail = (af s.1).tail ++ z := by rw [(wd_z hz s.1).2]; exact tail_z (of_decide_eq_true e).1 (by decide)
          show bankF ((af (s.1 ++ z)).tail, s.2) = _
          rw [et]
          unfold bankF at h ⊢
          simp only [(wd_z hz _).1, (wd_z hz _).2]
          split at h
          · rename_i hn
            rw [if_pos hn]
            exact bind_z (fun a ha => put_z (s := (af (af s.1).tail, s.2)) ha) (fun a b => close_z hz) h
          · cases h
        · rename_i e3
          have e3' : ¬ opens (ph z s).1 bank = true := by rw [show opens (ph z s).1 bank = opens s.1 bank from opens_z hz s.1 bank]; exact e3
          unfold wordF
          rw [if_neg e0', if_neg e1', if_neg e2', if_neg e3']
          show leafF (bs (wd (s.1 ++ z))) (af (s.1 ++ z), s.2) = _
          rw [(wd_z hz s.1).1, (wd_z hz s.1).2]
          exact leaf_z (s := (af s.1, s.2)) h
theorem value_z {z : List UInt8} (hz : Z z) {v v' l l' : St → Option St} (hv : Sim z v v') (hl : Sim z l l') : Sim z (valueF v l) (valueF v' l') := by
  intro s s' h
  have t : ∀ c : Int, c ≠ 0 → c ≠ 41 → (hd (ph z s).1 = c ↔ hd s.1 = c) := fun c h0 h1 => hd_z hz h0 h1
  unfold valueF at h
  split at h
  · rename_i e
    unfold valueF
    rw [if_pos ((t 45 (by decide) (by decide)).2 e)]
    refine bind_z (fun a ha => ?_) (fun a b => put_z) h
    rw [← hv _ _ ha]
    show v' ((s.1 ++ z).tail, s.2) = v' (s.1.tail ++ z, s.2)
    rw [tail_z e (by decide)]
  rename_i e0
  split at h
  · rename_i e
    unfold valueF
    rw [if_neg (fun h => e0 ((t 45 (by decide) (by decide)).1 h)), if_pos ((t 126 (by decide) (by decide)).2 e)]
    refine bind_z (fun a ha => ?_) (fun a b => put_z) h
    rw [← hv _ _ ha]
    show v' ((s.1 ++ z).tail, s.2) = v' (s.1.tail ++ z, s.2)
    rw [tail_z e (by decide)]
  rename_i e1
  split at h
  · rename_i e
    unfold valueF
    rw [if_neg (fun h => e0 ((t 45 (by decide) (by decide)).1 h)), if_neg (fun h => e1 ((t 126 (by decide) (by decide)).1 h)), if_pos ((t 40 (by decide) (by decide)).2 e)]
    exact br_z hz hl e h
  rename_i e2
  unfold valueF
  rw [if_neg (fun h => e0 ((t 45 (by decide) (by decide)).1 h)), if_neg (fun h => e1 ((t 126 (by decide) (by decide)).1 h)), if_neg (fun h => e2 ((t 40 (by decide) (by decide)).1 h))]
  exact word_z hz hl s s' h
theorem op_z {z : List UInt8} (hz : Z z) (l : List UInt8) : opK (l ++ z) = opK l := by
  have t : ∀ c : Int, c ≠ 0 → c ≠ 41 → (hd (l ++ z) = c ↔ hd l = c) := fun c h0 h1 => hd_z hz h0 h1
  have q : ∀ c : UInt8, c ≠ 41 → ((l ++ z).take 2 = [c, c] ↔ l.take 2 = [c, c]) := fun c hc => by
    rcases hz with rfl | rfl
    · rw [List.append_nil]
    · match l with
      | [] => simp
      | [a] => simp; intro _ h; exact hc h.symm
      | a :: b :: r => simp
  unfold opK
  simp only [q 60 (by decide), q 62 (by decide), t 42 (by decide) (by decide), t 47 (by decide) (by decide), t 37 (by decide) (by decide), t 43 (by decide) (by decide), t 45 (by decide) (by decide), t 38 (by decide) (by decide), t 94 (by decide) (by decide), t 124 (by decide) (by decide)]
theorem op_len {l : List UInt8} (h : 8 ≤ opK l) : opL (opK l) ≤ l.length := by
  have hb := (opL_bd (opK l)).2
  unfold opK at h ⊢
  cases l with
  | nil => simp [hd] at h
  | cons a r =>
    split
    · rename_i e; cases r with
      | nil => simp at e
      | cons b r => simp [opL]
    split
    · rename_i e; cases r with
      | nil => simp at e
      | cons b r => simp [opL]
    repeat' split
    all_goals simp [opL]
theorem step_z {z : List UInt8} (hz : Z z) {f f' : Int → St → Option St} (hf : ∀ n, 1 ≤ n → Sim z (f n) (f' n)) {s s' : St} (ho : 8 ≤ opK s.1 ∧ opK s.1 ≤ 17) (h : stepF f s = some s') : stepF f' (ph z s) = some (ph z s') := by
  unfold stepF at *
  rw [show opK (ph z s).1 = opK s.1 from op_z hz s.1]
  refine bind_z (fun a ha => ?_) (fun a b => put_z) h
  have := hf _ (by have := tight_bd ho; omega) _ _ ha
  rw [← this]
  show f' _ ((s.1 ++ z).drop _, s.2) = f' _ (s.1.drop _ ++ z, s.2)
  rw [List.drop_append_of_le_length (op_len ho.1)]
theorem loop_z {z : List UInt8} (hz : Z z) {f f' : Int → St → Option St} (hf : ∀ n, 1 ≤ n → Sim z (f n) (f' n)) {least : Int} (hl : 1 ≤ least) :
    ∀ (m : Nat) (s s' : St), s.1.length ≤ m → loopF f least s = some s' → loopF f' least (ph z s) = some (ph z s')
  | m, s, s', hm, h => by
    by_cases ht : tgt (opK s.1) < least
    · rw [loop_stop ht] at h
      cases h
      rw [loop_stop (by rw [show opK (ph z s).1 = opK s.1 from op_z hz s.1]; exact ht)]
    · have ho := op_ne hl ht
      have ht' : ¬ tgt (opK (ph z s).1) < least := by rw [show opK (ph z s).1 = opK s.1 from op_z hz s.1]; exact ht
      cases hs : stepF f s with
      | none => rw [loop_none ht hs] at h; cases h
      | some s1 =>
        by_cases hlt : s1.1.length < s.1.length
        · rw [loop_go ht hs hlt] at h
          rw [loop_go ht' (step_z hz hf ho hs) (show (s1.1 ++ z).length < (s.1 ++ z).length by simp only [List.length_append]; omega)]
          match m, hm with
          | 0, hm => omega
          | m + 1, hm => exact loop_z hz hf hl m s1 s' (by omega) h
        · rw [loopF, if_neg ht, hs] at h
          simp only [dif_neg hlt] at h
          cases h
theorem grow {z : List UInt8} (hz : Z z) : ∀ k m, k ≤ m → Sim z (val k) (val m) ∧ ∀ n, 1 ≤ n → Sim z (lev k n) (lev m n)
  | 0, m, _ => ⟨(fun s s' h => by cases h), (fun n _ s s' h => by cases h)⟩
  | k + 1, 0, h => absurd h (by omega)
  | k + 1, m + 1, h => by
    have ih := grow hz k m (by omega)
    have hv : Sim z (val (k + 1)) (val (m + 1)) := value_z hz ih.1 (ih.2 1 (by decide))
    refine ⟨hv, fun n hn s s' hs => ?_⟩
    rw [lev_succ] at hs ⊢
    exact bind_z (fun a ha => hv s a ha) (fun a b hab => loop_z hz ih.2 hn _ a b (Nat.le_refl _) hab) hs
theorem loop_nil {f : Int → St → Option St} {L : List Stepx.Node} : loopF f 1 ([], L) = some ([], L) := loop_stop (show tgt (opK []) < 1 by decide)
/-- In brackets it is the same, if it is read at all. -/
theorem comp_br {l : List UInt8} {L : List Stepx.Node} (h : comp 31 l = some L) : comp 31 (40 :: (l ++ [41])) = none ∨ comp 31 (40 :: (l ++ [41])) = some L := by
  have h := comp_some h
  have e : lev 31 1 (40 :: (l ++ [41]), []) = ((lev 30 1 (l ++ [41], [])).bind close).bind (loopF (lev 30) 1) := rfl
  unfold comp
  rw [e]
  cases h1 : lev 30 1 (l ++ [41], []) with
  | none => exact .inl rfl
  | some s1 =>
    obtain ⟨r1, L1⟩ := s1
    have a := (grow (.inl rfl) 30 31 (by decide)).2 1 (by decide) _ _ h1
    have b := (grow (.inr rfl) 31 31 (by decide)).2 1 (by decide) _ _ h
    simp only [ph, List.append_nil] at a b
    rw [a] at b
    cases b
    right
    show (match (close ([] ++ [41], L)).bind (loopF (lev 30) 1) with | some ([], L) => some L | _ => none) = some L
    rw [show close ([] ++ [41], L) = some ([], L) from rfl]
    show (match loopF (lev 30) 1 ([], L) with | some ([], L) => some L | _ => none) = some L
    rw [loop_nil]
/-- With a sign ahead of the brackets it is turned. -/
theorem comp_neg {l : List UInt8} {L : List Stepx.Node} (h : comp 31 l = some L) : comp 31 (45 :: 40 :: (l ++ [41])) = none ∨ comp 31 (45 :: 40 :: (l ++ [41])) = some (L ++ [(4, 0, E0)]) := by
  have h := comp_some h
  have e : lev 31 1 (45 :: 40 :: (l ++ [41]), []) = (((lev 29 1 (l ++ [41], [])).bind close).bind (put (4, 0, E0))).bind (loopF (lev 30) 1) := rfl
  unfold comp
  rw [e]
  cases h1 : lev 29 1 (l ++ [41], []) with
  | none => exact .inl rfl
  | some s1 =>
    obtain ⟨r1, L1⟩ := s1
    have a := (grow (.inl rfl) 29 31 (by decide)).2 1 (by decide) _ _ h1
    have b := (grow (.inr rfl) 31 31 (by decide)).2 1 (by decide) _ _ h
    simp only [ph, List.append_nil] at a b
    rw [a] at b
    cases b
    show (match ((close ([] ++ [41], L)).bind (put (4, 0, E0))).bind (loopF (lev 30) 1) with | some ([], L) => some L | _ => none) = none ∨ (match ((close ([] ++ [41], L)).bind (put (4, 0, E0))).bind (loopF (lev 30) 1) with | some ([], L) => some L | _ => none) = some (L ++ [(4, 0, E0)])
    rw [show close ([] ++ [41], L) = some ([], L) from rfl]
    show (match (put (4, 0, E0) ([], L)).bind (loopF (lev 30) 1) with | some ([], L) => some L | _ => none) = none ∨ (match (put (4, 0, E0) ([], L)).bind (loopF (lev 30) 1) with | some ([], L) => some L | _ => none) = some (L ++ [(4, 0, E0)])
    cases hp : put (4, 0, E0) (([], L) : St) with
    | none => exact .inl rfl
    | some s2 =>
      obtain ⟨_, rfl⟩ := put_some hp
      right
      show (match loopF (lev 30) 1 ([], L ++ [(4, 0, E0)]) with | some ([], L) => some L | _ => none) = _
      rw [loop_nil]
end Go.Proofs.YtlobkgohenebmaaDoor.Prsm
