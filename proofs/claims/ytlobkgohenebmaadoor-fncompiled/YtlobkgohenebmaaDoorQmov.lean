/-
  As Qflo, where the operation that may come late only moves a value.
-/
import Derived.Test.YtlobkgohenebmaaDoorQflo
namespace Go.Proofs.YtlobkgohenebmaaDoor.Qmov
open Go.RowKit
open Qflo
set_option linter.unusedVariables false
theorem move_wp {P : Program} {ops : Array Oper} {Q : Exit → Act → World → Prop} {i : Nat} {o : Oper} {x : Operand} (hi : ops[i]? = some o) (ho : o.op = .move x) (hg : o.guard = none) {K : Act → World → Prop} {a : Act} {w : World}
    (h : wpOp P ops Q i K a w) : ∃ v, Yields P ops o v a ∧ K (a.put o.dst v) w := by
  have hw : Region.wanted o (yielded ops a.tmps) = true := by unfold Region.wanted; rw [hg]
  unfold wpOp at h
  simp only [hi, hw, if_true] at h
  have hv : ∀ w, (execOp a.eval o).run P w = .ok (.value (a.eval x)) w := fun w => by unfold execOp; rw [ho]; simp [go_sem]
  rcases h with h | h
  · refine ⟨_, .inl ⟨hw, hv⟩, ?_⟩
    unfold Oper.wp at h
    rw [hv w] at h
    exact h
  · have h3 := h.1
    unfold Oper.asks at h3
    rw [show execOp a.eval o = (pure (.value (a.eval x)) : Sem Next) from by unfold execOp; rw [ho]] at h3
    exact absurd (show noRoomEvent ∈ (#[] : Array _) from h3.1) (by simp)
def followsM (md : Region.Mode) (ops : Array Oper) (k n : Nat) : Bool :=
  match ops[k]?, ops[n]? with
  | some ok, some on => ok.after.all (fun e => !Region.binds md e || on.after.any (fun d => Region.binds md d && d.on == e.on)) && (match ok.op with | .move .. => true | _ => false) && ok.guard.isNone
  | _, _ => false
theorem followsM_spec {md : Region.Mode} {ops : Array Oper} {k n : Nat} (h : followsM md ops k n = true) : ∃ ok on, ops[k]? = some ok ∧ ops[n]? = some on ∧ (∀ e ∈ ok.after, Region.binds md e = true → ∃ d ∈ on.after, Region.binds md d = true ∧ d.on = e.on) ∧ (∃ x, ok.op = .move x) ∧ ok.guard = none := by
  unfold followsM at h
  split at h
  · rename_i ok on h1 h2
    simp only [Bool.and_eq_true] at h
    refine ⟨ok, on, h1, h2, fun e he hb => ?_, ?_, by simpa using h.2⟩
    · have := (Array.all_eq_true_iff_forall_mem.1 h.1.1) e he
      simp only [hb, Bool.not_true, Bool.false_or] at this
      obtain ⟨d, hd, hb2⟩ := Array.any_eq_true'.1 this
      simp only [Bool.and_eq_true, beq_iff_eq] at hb2
      exact ⟨d, hd, hb2.1, hb2.2⟩
    · have := h.1.2
      split at this
      · rename_i x hop; exact ⟨x, hop⟩
      · cases this
  · cases h
theorem any_move {P : Program} {ops : Array Oper} {md : Region.Mode} {Q : Exit → Act → World → Prop} {k n : Nat} (hsel : Region.noSelect ops = true) (hf : followsM md ops k n = true) (hfree : Region.free md ops (before md ops k) k = true) (hkn : k ≠ n)
    (hQ : ∀ (d : Tmp) v c a w, Q (.panic c) (a.put (some d) v) w → Q (.panic c) a w) :
    ∀ (fuel : Nat) (listed : Array Bool) (a : Act) (w : World), listed.size = ops.size → wpAny P md (bound ops k n) Q fuel listed a w → wpAny P md ops Q fuel listed a w := by
  obtain ⟨ok, on, hk, hn, hdep, ⟨x, hop⟩, hg⟩ := followsM_spec hf
  have hlt : k < ops.size := (Array.getElem?_eq_some_iff.1 hk).1
  have key : ∀ (listed : Array Bool), listed.size = ops.size → n ∈ Region.ready md ops listed → ¬ listed.getD k false = true → k ∈ Region.ready md ops listed := fun listed hs hr hl => by
    obtain ⟨_, o, ho, hall⟩ := mem_ready.1 hr
    rw [hn] at ho
    cases ho
    refine mem_ready.2 ⟨getD_in (by omega) (by simpa using hl), ok, hk, fun e he hb => ?_⟩
    obtain ⟨d, hd, hbd, heq⟩ := hdep e he hb
    rw [← heq]
    exact hall d hd hbd
  intro fuel
  induction fuel with
  | zero =>
    intro listed a w hs H
    refine ⟨?_, H.2⟩
    cases hr : Region.ready md ops listed with
    | nil => rfl
    | cons j js =>
      have hj : j ∈ Region.ready md ops listed := by rw [hr]; simp
      by_cases hjn : j = n ∧ ¬ listed.getD k false = true
      · have h1 := key listed hs (hjn.1 ▸ hj) hjn.2
        have h2 : k ∈ Region.ready md (bound ops k n) listed := ready_bound.2 ⟨h1, fun e => absurd e hkn⟩
        rw [H.1] at h2
        cases h2
      · have h2 : j ∈ Region.ready md (bound ops k n) listed := ready_bound.2 ⟨hj, fun e => Decidable.byContradiction fun h => hjn ⟨e, h⟩⟩
        rw [H.1] at h2
        cases h2
  | succ fuel ih =>
    intro listed a w hs H
    by_cases hr : k ∈ Region.ready md ops listed
    · have h1 := H.2 k (ready_bound.2 ⟨hr, fun e => absurd e hkn⟩)
      obtain ⟨v, hy, h2⟩ := move_wp hk hop hg (wpOp_bound.1 h1)
      have h3 := ih _ _ _ (by simp [hs]) h2
      refine wpAny_first hk (Region.noSelect_spec hsel) (fun c a w => put_panic hQ _ _ c a w) fuel listed a w (fun j oj hj hne hun hno => ?_) hr hy h3
      refine Region.free_spec hk hfree j oj hj hne ?_ hno
      rw [before_get (Array.getElem?_eq_some_iff.1 hj).1]
      cases hw : Region.waitsFor md ops k j with
      | false => rfl
      | true =>
        obtain ⟨o2, ho2, e, he, hb, heq⟩ := Region.waitsFor_spec hw
        obtain ⟨_, o3, ho3, hall⟩ := mem_ready.1 hr
        rw [ho2] at ho3
        cases ho3
        have h5 := hall e he hb
        rw [heq, getD_both hun] at h5
        cases h5
    · have hrr : ∀ j, j ∈ Region.ready md ops listed → j ∈ Region.ready md (bound ops k n) listed := fun j hj => ready_bound.2 ⟨hj, fun e => by
        subst e
        exact Decidable.byContradiction fun h => hr (key listed hs hj h)⟩
      refine ⟨fun h0 => H.1 ?_, fun j hj => wpOp_mono (fun a w h => ih _ _ _ (by simp [hs]) h) (wpOp_bound.1 (H.2 j (hrr j hj)))⟩
      cases hb : Region.ready md (bound ops k n) listed with
      | nil => rfl
      | cons j js =>
        have hj : j ∈ Region.ready md (bound ops k n) listed := by rw [hb]; simp
        have := (ready_bound.1 hj).1
        rw [h0] at this
        cases this
/-- As Qtail's law, where operation k may come late: as if operation n (the tail's first) waited for it. -/
theorem tail_move {P : Program} {id : Nat} {Q : Exit → Act → World → Prop} {a : Act} {w : World} {l : List Oper} (k n : Nat) (hm : P.follows .mixedOrders = true) (hB : (decide (k ≠ n) && Region.noSelect l.toArray && followsM .any l.toArray k n && Region.free .any l.toArray (before .any l.toArray k) k && Region.lexTailB .any (bound l.toArray k n) n) = true)
    (hQ : ∀ (d : Tmp) v c a w, Q (.panic c) (a.put (some d) v) w → Q (.panic c) a w)
    (h : wpQuiet P l.toArray (fun w' => ∃ p : Regrown, w' = Go.Sort.grow (redrawn w p.d) p.os) (fun a' => ∀ w', (∃ p : Regrown, w' = Go.Sort.grow (redrawn w p.d) p.os) → wpList P l.toArray Q (l.drop n) a' w') (l.take n) a) : (Code.region id l.toArray true).wp P Q a w := by
  simp only [Bool.and_eq_true, decide_eq_true_eq] at hB
  obtain ⟨⟨⟨⟨hkn, hsel⟩, hf⟩, hfree⟩, hB⟩ := hB
  have hsz : (bound l.toArray k n).size = l.toArray.size := by unfold bound; simp
  refine wp_region_any hm (any_move hsel hf hfree hkn hQ _ _ _ _ (by simp) ?_)
  have hnn : n < l.length := by
    obtain ⟨ok, on, hk, hn, _⟩ := followsM_spec hf
    simpa using (Array.getElem?_eq_some_iff.1 hn).1
  have ht : (bound l.toArray k n).toList.take n = l.take n := by
    apply List.ext_getElem?
    intro i
    rw [List.getElem?_take, List.getElem?_take]
    split
    · rw [Array.getElem?_toList, get_bound, if_neg (by omega)]; simp
    · rfl
  have hd : ∃ o, l.drop n = o :: l.drop (n + 1) ∧ (bound l.toArray k n).toList.drop n = lay k o :: l.drop (n + 1) := by
    refine ⟨l[n], List.drop_eq_getElem_cons hnn, ?_⟩
    apply List.ext_getElem?
    intro i
    rw [List.getElem?_drop, Array.getElem?_toList, get_bound]
    cases i with
    | zero => simp [hnn]
    | succ i => rw [if_neg (by omega)]; simp [Nat.add_assoc, Nat.add_comm 1 i]
  obtain ⟨o, ho1, ho2⟩ := hd
  have H := region_any (l := (bound l.toArray k n).toList) (Q := Q) (a := a) (w := w) (C := fun w' => ∃ p : Regrown, w' = Go.Sort.grow (redrawn w p.d) p.os) n (by rw [Array.toArray_toList]; exact hB) ⟨⟨w.drawn + 1, #[]⟩, by rw [Go.Sort.grow_empty]; rfl⟩ (P := P) (by
    rw [Array.toArray_toList, ht]
    refine wpQuiet_bound _ ?_
    refine wpQuiet_mono (fun a' h w' hw' => ?_) _ _ h
    rw [ho2]
    have h1 := h w' hw'
    rw [ho1] at h1
    exact wpList_bound _ (wpList_lay h1))
  rw [Array.toArray_toList, hsz] at H
  exact H
end Go.Proofs.YtlobkgohenebmaaDoor.Qmov
