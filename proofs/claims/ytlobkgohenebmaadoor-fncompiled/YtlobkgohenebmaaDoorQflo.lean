/-
  A region that leaves its order open, whose operations only read but for a last few that are forced, but that one operation of its head, which takes a part out of a tuple, may come late: it may as well come in its place.
-/
import Derived.Test.YtlobkgohenebmaaDoorQtail
namespace Go.Proofs.YtlobkgohenebmaaDoor.Qflo
open Go.RowKit
set_option linter.unusedVariables false
def lay (k : Nat) (o : Oper) : Oper := { o with after := o.after.push ⟨k, .data⟩ }
def bound (ops : Array Oper) (k n : Nat) : Array Oper := ops.modify n (lay k)
theorem get_bound (ops : Array Oper) (k n i : Nat) : (bound ops k n)[i]? = if n = i then (ops[i]?).map (lay k) else ops[i]? := by
  unfold bound
  rw [Array.getElem?_modify]
theorem dst_bound (ops : Array Oper) (k n i : Nat) : ((bound ops k n)[i]?).bind (·.dst) = (ops[i]?).bind (·.dst) := by
  rw [get_bound]
  split
  · cases ops[i]? <;> rfl
  · rfl
theorem yielded_bound (ops : Array Oper) (k n : Nat) (t : Array Value) : yielded (bound ops k n) t = yielded ops t := by
  funext j
  unfold yielded
  rw [dst_bound]
theorem wpOp_bound {P : Program} {ops : Array Oper} {Q : Exit → Act → World → Prop} {k n i : Nat} {K : Act → World → Prop} {a : Act} {w : World} : wpOp P (bound ops k n) Q i K a w ↔ wpOp P ops Q i K a w := by
  unfold wpOp
  rw [get_bound, yielded_bound]
  by_cases hn : n = i
  · rw [if_pos hn]
    cases ops[i]? with
    | none => exact Iff.rfl
    | some o => exact Iff.rfl
  · rw [if_neg hn]
theorem wpQuiet_bound {P : Program} {ops : Array Oper} {C : World → Prop} {k n : Nat} : ∀ (l : List Oper) {Q : Act → Prop} {a : Act}, wpQuiet P ops C Q l a → wpQuiet P (bound ops k n) C Q l a
  | [], _, _, h => h
  | o :: l, Q, a, h => by
    unfold wpQuiet at h ⊢
    rw [yielded_bound]
    split
    · rename_i hw
      rw [if_pos hw] at h
      exact Oper.quiet_mono (fun a h => wpQuiet_bound l h) h
    · rename_i hw
      rw [if_neg hw] at h
      exact wpQuiet_bound l h
theorem wpList_bound {P : Program} {ops : Array Oper} {Q : Exit → Act → World → Prop} {k n : Nat} : ∀ (l : List Oper) {a : Act} {w : World}, wpList P ops Q l a w → wpList P (bound ops k n) Q l a w
  | [], _, _, h => h
  | o :: l, a, w, h => by
    unfold wpList at h ⊢
    rw [yielded_bound]
    split
    · rename_i hw
      rw [if_pos hw] at h
      exact h.imp (Oper.wp_mono (fun a w h => wpList_bound l h)) id
    · rename_i hw
      rw [if_neg hw] at h
      exact wpList_bound l h
theorem wpList_lay {P : Program} {ops : Array Oper} {Q : Exit → Act → World → Prop} {k : Nat} {o : Oper} {l : List Oper} {a : Act} {w : World} (h : wpList P ops Q (o :: l) a w) : wpList P ops Q (lay k o :: l) a w := h
theorem no_events {P : Program} {x : Value} {ix : Nat} {w : World} : ¬ noRoomEvent ∈ ((do pure (.value (← Instr.extract x ix)) : Sem Next).runT P w #[]).2 := by
  intro h
  cases x with
  | tuple vs =>
    cases hk : vs[ix]? with
    | some v => simp only [Instr.extract, hk] at h; exact absurd (show noRoomEvent ∈ (#[] : Array _) from h) (by simp)
    | none => simp only [Instr.extract, hk] at h; exact absurd (show noRoomEvent ∈ (#[] : Array _) from h) (by simp)
  | _ => exact absurd (show noRoomEvent ∈ (#[] : Array _) from h) (by simp)
theorem extract_wp {P : Program} {ops : Array Oper} {Q : Exit → Act → World → Prop} {i : Nat} {o : Oper} {x : Operand} {ix : Nat} (hi : ops[i]? = some o) (ho : o.op = .extract x ix) (hg : o.guard = none) {K : Act → World → Prop} {a : Act} {w : World}
    (h : wpOp P ops Q i K a w) : ∃ v, Yields P ops o v a ∧ K (a.put o.dst v) w := by
  have hw : Region.wanted o (yielded ops a.tmps) = true := by unfold Region.wanted; rw [hg]
  unfold wpOp at h
  simp only [hi, hw, if_true] at h
  have hx : execOp a.eval o = (do pure (.value (← Instr.extract (a.eval x) ix)) : Sem Next) := by unfold execOp; rw [ho]
  rcases h with h | h
  · unfold Oper.wp at h
    rw [hx] at h
    have hv : ∃ v, ∀ w, (execOp a.eval o).run P w = .ok (.value v) w := by
      cases hq : a.eval x with
      | tuple vs =>
        cases hk : vs[ix]? with
        | some v => exact ⟨v, fun w => by rw [hx, hq]; simp [Instr.extract, hk]⟩
        | none => rw [hq] at h; simp [Instr.extract, hk, Oper.upon, go_sem] at h
      | _ => rw [hq] at h; simp [Instr.extract, Oper.upon, go_sem] at h
    obtain ⟨v, hv⟩ := hv
    refine ⟨v, .inl ⟨hw, hv⟩, ?_⟩
    rw [← hx, hv w] at h
    exact h
  · have h3 := h.1
    unfold Oper.asks at h3
    rw [hx] at h3
    exact absurd h3.1 no_events
theorem ready_bound {md : Region.Mode} {ops : Array Oper} {listed : Array Bool} {k n j : Nat} : j ∈ Region.ready md (bound ops k n) listed ↔ j ∈ Region.ready md ops listed ∧ (j = n → listed.getD k false = true) := by
  rw [mem_ready, mem_ready, get_bound]
  constructor
  · rintro ⟨h0, o, ho, hall⟩
    split at ho
    · rename_i hn
      subst hn
      cases hq : ops[n]? with
      | none => rw [hq] at ho; cases ho
      | some o1 =>
        rw [hq] at ho
        cases ho
        refine ⟨⟨h0, o1, rfl, fun e he hb => hall e (Array.mem_push.2 (.inl he)) hb⟩, fun _ => hall ⟨k, .data⟩ (Array.mem_push.2 (.inr rfl)) rfl⟩
    · rename_i hn
      exact ⟨⟨h0, o, ho, hall⟩, fun e => absurd e.symm hn⟩
  · rintro ⟨⟨h0, o, ho, hall⟩, hk⟩
    by_cases hn : n = j
    · subst hn
      refine ⟨h0, lay k o, by rw [if_pos rfl, ho]; rfl, fun e he hb => ?_⟩
      rcases Array.mem_push.1 he with he | rfl
      · exact hall e he hb
      · exact hk rfl
    · exact ⟨h0, o, by rw [if_neg hn]; exact ho, hall⟩
/-- What the late one waits for, the other waits for too. -/
def follows (md : Region.Mode) (ops : Array Oper) (k n : Nat) : Bool :=
  match ops[k]?, ops[n]? with
  | some ok, some on => ok.after.all (fun e => !Region.binds md e || on.after.any (fun d => Region.binds md d && d.on == e.on)) && (match ok.op with | .extract .. => true | _ => false) && ok.guard.isNone
  | _, _ => false
theorem follows_spec {md : Region.Mode} {ops : Array Oper} {k n : Nat} (h : follows md ops k n = true) : ∃ ok on, ops[k]? = some ok ∧ ops[n]? = some on ∧ (∀ e ∈ ok.after, Region.binds md e = true → ∃ d ∈ on.after, Region.binds md d = true ∧ d.on = e.on) ∧ (∃ x ix, ok.op = .extract x ix) ∧ ok.guard = none := by
  unfold follows at h
  split at h
  · rename_i ok on h1 h2
    simp only [Bool.and_eq_true] at h
    refine ⟨ok, on, h1, h2, fun e he hb => ?_, ?_, by simpa using h.2⟩
    · have := (Array.all_eq_true_iff_forall_mem.1 h.1.1) e he
      simp only [hb, Bool.not_true, Bool.false_or] at this
      obtain ⟨d, hd, hb2⟩ := Array.any_eq_true'.1 this
      simp only [Bool.and_eq_true, beq_iff_eq] at hb2
      exact ⟨d, hd, hb2.1, hb2.2⟩
    · have := h.1.2
      split at this
      · rename_i x ix hop; exact ⟨x, ix, hop⟩
      · cases this
  · cases h
/-- What operation k waits for. -/
def before (md : Region.Mode) (ops : Array Oper) (k : Nat) : Array Bool := ((List.range ops.size).map fun j => Region.waitsFor md ops k j).toArray
theorem before_get {md : Region.Mode} {ops : Array Oper} {k j : Nat} (hj : j < ops.size) : (before md ops k).getD j true = Region.waitsFor md ops k j := by
  unfold before
  simp [hj]
theorem put_panic {Q : Exit → Act → World → Prop} (hQ : ∀ (d : Tmp) v c a w, Q (.panic c) (a.put (some d) v) w → Q (.panic c) a w) (d : Option Tmp) (v : Value) (c) (a : Act) (w : World) (h : Q (.panic c) (a.put d v) w) : Q (.panic c) a w := by
  cases d with
  | none => exact h
  | some d => exact hQ d v c a w h
theorem any_bound {P : Program} {ops : Array Oper} {md : Region.Mode} {Q : Exit → Act → World → Prop} {k n : Nat} (hsel : Region.noSelect ops = true) (hf : follows md ops k n = true) (hfree : Region.free md ops (before md ops k) k = true) (hkn : k ≠ n)
    (hQ : ∀ (d : Tmp) v c a w, Q (.panic c) (a.put (some d) v) w → Q (.panic c) a w) :
    ∀ (fuel : Nat) (listed : Array Bool) (a : Act) (w : World), listed.size = ops.size → wpAny P md (bound ops k n) Q fuel listed a w → wpAny P md ops Q fuel listed a w := by
  obtain ⟨ok, on, hk, hn, hdep, ⟨x, ix, hop⟩, hg⟩ := follows_spec hf
  have hlt : k < ops.size := (Array.getElem?_eq_some_iff.1 hk).1
  have key : ∀ (listed : Array Bool), listed.size = ops.size → n ∈ Region.ready md ops listed → ¬ listed.getD k false = true → k ∈ Region.ready md ops listed := fun listed hs hr hl => by
    obtain ⟨_, o, ho, hall⟩ := mem_ready.1 hr
    rw [hn] at ho
    cases ho
    refine mem_ready.2 ⟨getD_in (by omega) (by simpa using hl), ok, hk, fun e he hb => ?_⟩
    obtain ⟨d, hd, hbd, heq⟩ := hdep e he hb
    rw [← heq]
    exact hall d hd hbd
  intro fuel
  induction fuel with
  | zero =>
    intro listed a w hs H
    refine ⟨?_, H.2⟩
    cases hr : Region.ready md ops listed with
    | nil => rfl
    | cons j js =>
      have hj : j ∈ Region.ready md ops listed := by rw [hr]; simp
      by_cases hjn : j = n ∧ ¬ listed.getD k false = true
      · have h1 := key listed hs (hjn.1 ▸ hj) hjn.2
        have h2 : k ∈ Region.ready md (bound ops k n) listed := ready_bound.2 ⟨h1, fun e => absurd e hkn⟩
        rw [H.1] at h2
        cases h2
      · have h2 : j ∈ Region.ready md (bound ops k n) listed := ready_bound.2 ⟨hj, fun e => Decidable.byContradiction fun h => hjn ⟨e, h⟩⟩
        rw [H.1] at h2
        cases h2
  | succ fuel ih =>
    intro listed a w hs H
    by_cases hr : k ∈ Region.ready md ops listed
    · have h1 := H.2 k (ready_bound.2 ⟨hr, fun e => absurd e hkn⟩)
      obtain ⟨v, hy, h2⟩ := extract_wp hk hop hg (wpOp_bound.1 h1)
      have h3 := ih _ _ _ (by simp [hs]) h2
      refine wpAny_first hk (Region.noSelect_spec hsel) (fun c a w => put_panic hQ _ _ c a w) fuel listed a w (fun j oj hj hne hun hno => ?_) hr hy h3
      refine Region.free_spec hk hfree j oj hj hne ?_ hno
      rw [before_get (Array.getElem?_eq_some_iff.1 hj).1]
      cases hw : Region.waitsFor md ops k j with
      | false => rfl
      | true =>
        obtain ⟨o2, ho2, e, he, hb, heq⟩ := Region.waitsFor_spec hw
        obtain ⟨_, o3, ho3, hall⟩ := mem_ready.1 hr
        rw [ho2] at ho3
        cases ho3
        have h5 := hall e he hb
        rw [heq, getD_both hun] at h5
        cases h5
    · have hrr : ∀ j, j ∈ Region.ready md ops listed → j ∈ Region.ready md (bound ops k n) listed := fun j hj => ready_bound.2 ⟨hj, fun e => by
        subst e
        exact Decidable.byContradiction fun h => hr (key listed hs hj h)⟩
      refine ⟨fun h0 => H.1 ?_, fun j hj => wpOp_mono (fun a w h => ih _ _ _ (by simp [hs]) h) (wpOp_bound.1 (H.2 j (hrr j hj)))⟩
      cases hb : Region.ready md (bound ops k n) listed with
      | nil => rfl
      | cons j js =>
        have hj : j ∈ Region.ready md (bound ops k n) listed := by rw [hb]; simp
        have := (ready_bound.1 hj).1
        rw [h0] at this
        cases this
open Qtail in
theorem region_any {P : Program} {C : World → Prop} {Q : Exit → Act → World → Prop} {a : Act} {w : World} {l : List Oper} (n : Nat) (hB : Region.lexTailB .any l.toArray n = true) (hC : C { w with drawn := w.drawn + 1 })
    (h : wpQuiet P l.toArray C (fun a' => ∀ w', C w' → wpList P l.toArray Q (l.drop n) a' w') (l.take n) a) : wpAny P .any l.toArray Q l.toArray.size (Array.replicate l.toArray.size false) a { w with drawn := w.drawn + 1 } := by
  simp only [Region.lexTailB, Bool.and_eq_true, decide_eq_true_eq] at hB
  obtain ⟨⟨⟨⟨hsel, hn⟩, hs⟩, hc⟩, hlex⟩ := hB
  have hn' : n < l.length := by simpa using hn
  have htl : (l.take n).length = n := by simp; omega
  have hdl : (l.drop n).length = l.toArray.size - n := by simp
  have inv0 : HeadInv .any l.toArray n (Array.replicate l.toArray.size false) :=
    ⟨by simp, fun j oj _ hl => (by rw [getD_replicate_false] at hl; cases hl), fun t _ ht => getD_in (by simpa using ht) (getD_replicate_false _ _)⟩
  have H := anyT_lex (md := .any) (g := l.toArray.size - n) hsel hs hc hn (l.take n) 0 _ a (fun j hj => by
    have hj' : j < n := by rw [htl] at hj; exact hj
    simp [hj']) (by simpa using htl) inv0 (by rw [htl]; exact hlex) h
  have := any_of_head (Q' := Q) (g := l.toArray.size - n) (fun listed a' w' hw' hL => by
    have := wpAny_of_seq (md := .any) (Q' := Q) (l.drop n) n listed a' w' (fun j => by simp [List.getElem?_drop]) (by rw [hdl]; exact hL.1) (hL.2 w' hw')
    rwa [hdl] at this) _ _ _ { w with drawn := w.drawn + 1 } hC H
  rw [htl, show n + (l.toArray.size - n) = l.toArray.size by omega] at this
  exact this
theorem wpQuiet_mono {P : Program} {ops : Array Oper} {C : World → Prop} {Q Q' : Act → Prop} (hq : ∀ a, Q a → Q' a) : ∀ (l : List Oper) (a : Act), wpQuiet P ops C Q l a → wpQuiet P ops C Q' l a
  | [], _, h => hq _ h
  | o :: l, a, h => by
    unfold wpQuiet at h ⊢
    split
    · rename_i hw
      rw [if_pos hw] at h
      exact Oper.quiet_mono (fun a h => wpQuiet_mono hq l a h) h
    · rename_i hw
      rw [if_neg hw] at h
      exact wpQuiet_mono hq l _ h
/-- As Qtail's law, where operation k may come late: as if operation n (the tail's first) waited for it. -/
theorem tail_late {P : Program} {id : Nat} {Q : Exit → Act → World → Prop} {a : Act} {w : World} {l : List Oper} (k n : Nat) (hm : P.follows .mixedOrders = true) (hB : (decide (k ≠ n) && Region.noSelect l.toArray && follows .any l.toArray k n && Region.free .any l.toArray (before .any l.toArray k) k && Region.lexTailB .any (bound l.toArray k n) n) = true)
    (hQ : ∀ (d : Tmp) v c a w, Q (.panic c) (a.put (some d) v) w → Q (.panic c) a w)
    (h : wpQuiet P l.toArray (fun w' => ∃ p : Regrown, w' = Go.Sort.grow (redrawn w p.d) p.os) (fun a' => ∀ w', (∃ p : Regrown, w' = Go.Sort.grow (redrawn w p.d) p.os) → wpList P l.toArray Q (l.drop n) a' w') (l.take n) a) : (Code.region id l.toArray true).wp P Q a w := by
  simp only [Bool.and_eq_true, decide_eq_true_eq] at hB
  obtain ⟨⟨⟨⟨hkn, hsel⟩, hf⟩, hfree⟩, hB⟩ := hB
  have hsz : (bound l.toArray k n).size = l.toArray.size := by unfold bound; simp
  refine wp_region_any hm (any_bound hsel hf hfree hkn hQ _ _ _ _ (by simp) ?_)
  have hnn : n < l.length := by
    obtain ⟨ok, on, hk, hn, _⟩ := follows_spec hf
    simpa using (Array.getElem?_eq_some_iff.1 hn).1
  have ht : (bound l.toArray k n).toList.take n = l.take n := by
    apply List.ext_getElem?
    intro i
    rw [List.getElem?_take, List.getElem?_take]
    split
    · rw [Array.getElem?_toList, get_bound, if_neg (by omega)]; simp
    · rfl
  have hd : ∃ o, l.drop n = o :: l.drop (n + 1) ∧ (bound l.toArray k n).toList.drop n = lay k o :: l.drop (n + 1) := by
    refine ⟨l[n], List.drop_eq_getElem_cons hnn, ?_⟩
    apply List.ext_getElem?
    intro i
    rw [List.getElem?_drop, Array.getElem?_toList, get_bound]
    cases i with
    | zero => simp [hnn]
    | succ i => rw [if_neg (by omega)]; simp [Nat.add_assoc, Nat.add_comm 1 i]
  obtain ⟨o, ho1, ho2⟩ := hd
  have H := region_any (l := (bound l.toArray k n).toList) (Q := Q) (a := a) (w := w) (C := fun w' => ∃ p : Regrown, w' = Go.Sort.grow (redrawn w p.d) p.os) n (by rw [Array.toArray_toList]; exact hB) ⟨⟨w.drawn + 1, #[]⟩, by rw [Go.Sort.grow_empty]; rfl⟩ (P := P) (by
    rw [Array.toArray_toList, ht]
    refine wpQuiet_bound _ ?_
    refine wpQuiet_mono (fun a' h w' hw' => ?_) _ _ h
    rw [ho2]
    have h1 := h w' hw'
    rw [ho1] at h1
    exact wpList_bound _ (wpList_lay h1))
  rw [Array.toArray_toList, hsz] at H
  exact H
end Go.Proofs.YtlobkgohenebmaaDoor.Qflo
