/-
  Pure: of how an expression is read: what is read is right; the same with more room, and with a closing bracket behind.
-/
import Derived.Test.YtlobkgohenebmaaDoorPrsp
namespace Go.Proofs.YtlobkgohenebmaaDoor.Prsl
open Prsp
set_option linter.unusedVariables false
set_option linter.unusedSimpArgs false

theorem word_bd {b : Int} (hb : 0 ≤ b) : ∀ (l : List UInt8) (n m : Int), 0 ≤ n → n ≤ 65535 → Nums.word b n l = some m → 0 ≤ m ∧ m ≤ 65535
  | [], n, m, h0, h1, h => by simp [Nums.word] at h; omega
  | c :: l, n, m, h0, h1, h => by
    unfold Nums.word at h
    split at h
    · cases h
    · split at h
      · cases h
      · have := (Nums.digS_bd (c.toNat : Int)).1
        have := Int.mul_nonneg h0 hb
        exact word_bd hb l _ m (by omega) (by omega) h
theorem num_bd {s : ByteArray} {n : Int} (h : Nums.num s = some n) : 0 ≤ n ∧ n ≤ 65535 := by
  have hb : ∀ (t : ByteArray) (b : Int), 0 ≤ b → Nums.base t b = some n → 0 ≤ n ∧ n ≤ 65535 := fun t b h0 h => by
    unfold Nums.base at h
    split at h
    · cases h
    · exact word_bd h0 _ _ _ (by decide) (by decide) h
  unfold Nums.num at h
  split at h
  · cases h
  · split at h
    · exact hb _ _ (by decide) h
    · split at h
      · exact hb _ _ (by decide) h
      · exact hb _ _ (by decide) h

/-- Behind these nodes one value more is there. -/
def Blk (M : List Stepx.Node) : Prop := ∀ (v : Int) (R : List Stepx.Node), 0 ≤ v → Stepx.run v (M ++ R) = Stepx.run (v + 1) R
theorem node_run {x : Stepx.Node} {v : Int} {R : List Stepx.Node} (h1 : Steps.nodeB x.1 x.2.1 x.2.2 = true) (h2 : Stepx.takes x.1 ≤ v) : Stepx.run v (x :: R) = Stepx.run (v + (1 - Stepx.takes x.1)) R := by
  show (if _ then _ else _) = _
  rw [if_pos ⟨h1, h2⟩]
theorem blk_leaf {x : Stepx.Node} (h1 : Steps.nodeB x.1 x.2.1 x.2.2 = true) (h2 : Stepx.takes x.1 = 0) : Blk [x] := fun v R hv => by
  show Stepx.run v (x :: R) = _
  rw [node_run h1 (by omega), h2]; rfl
theorem blk_one {M : List Stepx.Node} {x : Stepx.Node} (h : Blk M) (h1 : Steps.nodeB x.1 x.2.1 x.2.2 = true) (h2 : Stepx.takes x.1 = 1) : Blk (M ++ [x]) := fun v R hv => by
  rw [List.append_assoc, h v _ hv]
  show Stepx.run (v + 1) (x :: R) = _
  rw [node_run h1 (by omega), h2]
  congr 1
  omega
theorem blk_two {M N : List Stepx.Node} {x : Stepx.Node} (h : Blk M) (h' : Blk N) (h1 : Steps.nodeB x.1 x.2.1 x.2.2 = true) (h2 : Stepx.takes x.1 = 2) : Blk (M ++ (N ++ [x])) := fun v R hv => by
  rw [List.append_assoc, h v _ hv, List.append_assoc, h' (v + 1) _ (by omega)]
  show Stepx.run (v + 1 + 1) (x :: R) = _
  rw [node_run h1 (by omega), h2]
  congr 1
  omega
theorem node_op (k : Int) (h : 4 ≤ k ∧ k ≤ 17) : Steps.nodeB k 0 E0 = true := by
  unfold Steps.nodeB
  rw [if_neg (by omega), if_neg (by omega), if_pos h, Nums.empty_yes rfl]
  rfl
theorem node_num {n : Int} (h : 0 ≤ n ∧ n ≤ 65535) : Steps.nodeB 1 n E0 = true := by
  unfold Steps.nodeB
  rw [if_pos rfl]
  have : Steps.inB n 0 65535 = true := by unfold Steps.inB; simp; omega
  rw [this, Nums.empty_yes rfl]
  rfl
theorem node_name {k : Int} {t : ByteArray} (hk : k = 2 ∨ k = 3) (h : Names.nameB t = true) : Steps.nodeB k 0 t = true := by
  unfold Steps.nodeB
  rw [if_neg (by omega), if_pos hk, h]
  rfl
theorem name_size {t : ByteArray} (h : Names.nameB t = true) : t.size ≤ 16 := (of_decide_eq_true h).2.1

/-- How a state comes of another. -/
structure Shp (s s' : St) : Prop where
  nodes : ∃ M, s'.2 = s.2 ++ M ∧ Blk M ∧ ∀ x ∈ M, x.2.2.size ≤ 16
  most : s.2.length ≤ 30 → s'.2.length ≤ 30
  rest : s'.1 <:+ s.1
theorem put_some {x : Stepx.Node} {s s' : St} (h : put x s = some s') : s.2.length < 30 ∧ s' = (s.1, s.2 ++ [x]) := by
  unfold put at h
  split at h
  · rename_i h'; exact ⟨h', by cases h; rfl⟩
  · cases h
theorem close_some {s s' : St} (h : close s = some s') : hd s.1 = 41 ∧ s' = (s.1.tail, s.2) := by
  unfold close at h
  split at h
  · rename_i h'; exact ⟨h', by cases h; rfl⟩
  · cases h
theorem put_leaf {x : Stepx.Node} {s s' : St} {r : List UInt8} (h : put x (r, s.2) = some s') (hr : r <:+ s.1) (h1 : Steps.nodeB x.1 x.2.1 x.2.2 = true) (h2 : Stepx.takes x.1 = 0) (h3 : x.2.2.size ≤ 16) : Shp s s' := by
  obtain ⟨h4, rfl⟩ := put_some h
  exact ⟨⟨[x], rfl, blk_leaf h1 h2, fun y hy => by rw [List.mem_singleton.1 hy]; exact h3⟩, fun _ => by have : s.2.length < 30 := h4; simp only [List.length_append, List.length_singleton]; omega, hr⟩
theorem close_shp {s s' s'' : St} (h : Shp s s') (hc : close s' = some s'') : Shp s s'' := by
  obtain ⟨_, rfl⟩ := close_some hc
  exact ⟨h.nodes, h.most, (List.tail_suffix _).trans h.rest⟩
theorem put_one {s s' s'' : St} {k : Int} (h : Shp s s') (hk : 4 ≤ k ∧ k ≤ 7) (hp : put (k, 0, E0) s' = some s'') : Shp s s'' := by
  obtain ⟨h4, rfl⟩ := put_some hp
  obtain ⟨M, hM, hb, hz⟩ := h.nodes
  refine ⟨⟨M ++ [(k, 0, E0)], ?_, blk_one hb (node_op k (by omega)) ?_, ?_⟩, fun _ => by simp only [List.length_append, List.length_singleton]; omega, h.rest⟩
  · show s'.2 ++ _ = _; rw [hM, List.append_assoc]
  · show Stepx.takes k = 1; unfold Stepx.takes; rw [if_neg (by omega), if_pos (by omega)]
  · intro x hx
    rcases List.mem_append.1 hx with h | h
    · exact hz x h
    · rw [List.mem_singleton.1 h]; exact Nat.zero_le _
theorem leaf_shp {t : ByteArray} {s s' : St} {r : List UInt8} (hr : r <:+ s.1) (h : leafF t (r, s.2) = some s') : Shp s s' := by
  unfold leafF at h
  split at h
  · rename_i n hn
    exact put_leaf h hr (node_num (num_bd hn)) rfl (Nat.zero_le _)
  · split at h
    · rename_i hn
      exact put_leaf h hr (node_name (.inl rfl) hn) rfl (name_size hn)
    · cases h
theorem bind_some {α β : Type} {x : Option α} {f : α → Option β} {y : β} (h : x.bind f = some y) : ∃ a, x = some a ∧ f a = some y := by
  cases x with
  | none => cases h
  | some a => exact ⟨a, rfl, h⟩
theorem up {s s' : St} {r : List UInt8} (hr : r <:+ s.1) (h : Shp (r, s.2) s') : Shp s s' := ⟨h.nodes, h.most, h.rest.trans hr⟩
theorem af_suf (l : List UInt8) : af l <:+ l := List.dropWhile_suffix _
theorem br_shp {l : St → Option St} {s s' : St} {r : List UInt8} (hl : ∀ s s', l s = some s' → Shp s s') (hr : r <:+ s.1) (h : brF l (r, s.2) = some s') : Shp s s' := by
  obtain ⟨s1, h1, h2⟩ := bind_some h
  exact close_shp (up ((List.tail_suffix _).trans hr) (hl _ _ h1)) h2
theorem word_shp {l : St → Option St} {s s' : St} (hl : ∀ s s', l s = some s' → Shp s s') (h : wordF l s = some s') : Shp s s' := by
  unfold wordF at h
  split at h
  · exact leaf_shp ((af_suf _).trans (List.tail_suffix _)) h
  split at h
  · obtain ⟨s1, h1, h2⟩ := bind_some h
    exact put_one (br_shp hl (af_suf _) h1) (by decide) h2
  split at h
  · obtain ⟨s1, h1, h2⟩ := bind_some h
    exact put_one (br_shp hl (af_suf _) h1) (by decide) h2
  split at h
  · unfold bankF at h
    split at h
    · rename_i hn
      obtain ⟨s1, h1, h2⟩ := bind_some h
      exact close_shp (put_leaf h1 (((af_suf _).trans (List.tail_suffix _)).trans (af_suf _)) (node_name (.inr rfl) hn) rfl (name_size hn)) h2
    · cases h
  · exact leaf_shp (af_suf _) h
theorem value_shp {v l : St → Option St} {s s' : St} (hv : ∀ s s', v s = some s' → Shp s s') (hl : ∀ s s', l s = some s' → Shp s s') (h : valueF v l s = some s') : Shp s s' := by
  unfold valueF at h
  split at h
  · obtain ⟨s1, h1, h2⟩ := bind_some h
    exact put_one (up (List.tail_suffix _) (hv _ _ h1)) (by decide) h2
  split at h
  · obtain ⟨s1, h1, h2⟩ := bind_some h
    exact put_one (up (List.tail_suffix _) (hv _ _ h1)) (by decide) h2
  split at h
  · exact br_shp (s := s) (r := s.1) hl (List.suffix_refl _) h
  · exact word_shp hl h
theorem op_bd (l : List UInt8) : opK l = 0 ∨ 8 ≤ opK l ∧ opK l ≤ 17 := by
  unfold opK
  repeat' split
  all_goals omega
theorem op_ne {l : List UInt8} {least : Int} (hl : 1 ≤ least) (h : ¬ tgt (opK l) < least) : 8 ≤ opK l ∧ opK l ≤ 17 := by
  rcases op_bd l with h0 | h0
  · rw [h0] at h; exact absurd (show tgt 0 < least from by show (0 : Int) < least; omega) h
  · exact h0
theorem tight_bd {k : Int} (h : 8 ≤ k ∧ k ≤ 17) : 1 ≤ tgt k ∧ tgt k ≤ 6 := by
  unfold tgt
  repeat' split
  all_goals omega
theorem opL_bd (k : Int) : 1 ≤ opL k ∧ opL k ≤ 2 := by unfold opL; split <;> omega
theorem step_shp {f : Int → St → Option St} (hf : ∀ n s s', 1 ≤ n → f n s = some s' → Shp s s') {s0 s s' : St} (h0 : Shp s0 s) {least : Int} (hl : 1 ≤ least) (ht : ¬ tgt (opK s.1) < least) (h : stepF f s = some s') : Shp s0 s' := by
  obtain ⟨s1, h1, h2⟩ := bind_some h
  have ho := op_ne hl ht
  have a := hf _ _ _ (by have := tight_bd ho; omega) h1
  obtain ⟨h4, rfl⟩ := put_some h2
  obtain ⟨M, hM, hb, hz⟩ := h0.nodes
  obtain ⟨N, hN, hb', hz'⟩ := a.nodes
  refine ⟨⟨M ++ (N ++ [(opK s.1, 0, E0)]), ?_, blk_two hb hb' (node_op _ (by omega)) ?_, ?_⟩, fun _ => by simp only [List.length_append, List.length_singleton]; omega, (a.rest.trans (List.drop_suffix _ _)).trans h0.rest⟩
  · show s1.2 ++ _ = _; rw [hN]; show s.2 ++ N ++ _ = _; rw [hM]; simp
  · show Stepx.takes (opK s.1) = 2; unfold Stepx.takes; rw [if_neg (by omega), if_neg (by omega)]
  · intro x hx
    rcases List.mem_append.1 hx with h | h
    · exact hz x h
    · rcases List.mem_append.1 h with h | h
      · exact hz' x h
      · rw [List.mem_singleton.1 h]; exact Nat.zero_le _
theorem loop_shp {f : Int → St → Option St} (hf : ∀ n s s', 1 ≤ n → f n s = some s' → Shp s s') {least : Int} (hl : 1 ≤ least) {s0 : St} : ∀ (n : Nat) (s s' : St), s.1.length ≤ n → Shp s0 s → loopF f least s = some s' → Shp s0 s'
  | n, s, s', hn, h0, h => by
    by_cases ht : tgt (opK s.1) < least
    · rw [loop_stop ht] at h; cases h; exact h0
    · cases hs : stepF f s with
      | none => rw [loop_none ht hs] at h; cases h
      | some s1 =>
        by_cases hlt : s1.1.length < s.1.length
        · rw [loop_go ht hs hlt] at h
          match n, hn with
          | 0, hn => omega
          | n + 1, hn => exact loop_shp hf hl n s1 s' (by omega) (step_shp hf h0 hl ht hs) h
        · rw [loopF, if_neg ht, hs] at h
          simp only [dif_neg hlt] at h
          cases h
theorem both_shp : ∀ k, (∀ s s', val k s = some s' → Shp s s') ∧ (∀ n s s', 1 ≤ n → lev k n s = some s' → Shp s s')
  | 0 => ⟨(fun s s' h => by cases h), (fun n s s' _ h => by cases h)⟩
  | k + 1 => by
    have ih := both_shp k
    have hv : ∀ s s', val (k + 1) s = some s' → Shp s s' := fun s s' h => value_shp ih.1 (fun s s' h => ih.2 1 s s' (by decide) h) h
    refine ⟨hv, fun n s s' hn h => ?_⟩
    rw [lev_succ] at h
    obtain ⟨s1, h1, h2⟩ := bind_some h
    have hv1 := hv _ _ h1
    clear h
    exact loop_shp ih.2 hn _ s1 s' (Nat.le_refl _) hv1 h2
theorem comp_some {k : Nat} {l : List UInt8} {L : List Stepx.Node} (h : comp k l = some L) : lev k 1 (l, []) = some ([], L) := by
  unfold comp at h
  split at h
  · rename_i L' h'; cases h; exact h'
  · cases h
/-- What is read is right. -/
theorem comp_right {k : Nat} {l : List UInt8} {L : List Stepx.Node} (h : comp k l = some L) : Stepx.exprB L = true ∧ L.length ≤ 30 ∧ ∀ x ∈ L, x.2.2.size ≤ 16 := by
  have a := (both_shp k).2 1 _ _ (by decide) (comp_some h)
  obtain ⟨M, hM, hb, hz⟩ := a.nodes
  have hM : L = M := hM
  subst hM
  have hl := a.most (Nat.zero_le _)
  refine ⟨?_, hl, hz⟩
  unfold Stepx.exprB
  have := hb 0 [] (by decide)
  rw [List.append_nil] at this
  rw [this, decide_eq_true hl]
  rfl
end Go.Proofs.YtlobkgohenebmaaDoor.Prsl
