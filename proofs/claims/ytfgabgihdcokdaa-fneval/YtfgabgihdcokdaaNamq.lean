/-
  Contracts of ours for spec.l2Put, spec.NamesIn.
-/
import Derived.Test.YtfgabgihdcokdaaNamp
import Derived.Test.YtfgabgihdcokdaaSpecx
import Derived.Test.YtfgabgihdcokdaaMirror
import Derived.Laws.OwnMore
import Derived.Sort.Walk0
namespace Go.Proofs.Ytfgabgihdcokdaa.Namq
open Go.ChangeShapes Go.WideShapes Go.ChangeAt Go.RowKit Go.Deep
open Namp
open Stepx (Nodes exprB)
set_option linter.unusedVariables false
set_option maxRecDepth 20000
def cell (x : T) : Value := .string ⟨x.toArray⟩
def cells (l : List T) : List Value := l.map cell
theorem cells_len (l : List T) : (cells l).length = l.length := List.length_map ..
theorem cells_one (l : List T) : ∀ u ∈ cells l, u.oneCell' = true := fun u hu => by
  obtain ⟨x, _, rfl⟩ := List.mem_map.1 hu
  rfl
/-- A row of texts that a call leaves, old or new. -/
def Putted (w w' : World) (e : Ending) (R : List T) : Prop := ∃ g cap, e = .returned (.slice (some ⟨g, 0, none⟩) R.length cap) ∧ g < w'.heap.size ∧ R.length ≤ cap ∧ cap ≤ maxLen ∧ (∀ k (h : k < R.length), w'.cell? ⟨g, k, none⟩ = some (cell R[k])) ∧ Below w.heap.size w w'
theorem own_row {w : World} {base n : Nat} {v : Value} {R : List T} (h : w.ownsRow base 9 1 v n (cells R)) (hn : R.length = n) (h0 : 0 < n) : ∃ g cap, v = .slice (some ⟨g, 0, none⟩) R.length cap ∧ g < w.heap.size ∧ R.length ≤ cap ∧ cap ≤ maxLen ∧ ∀ k (h : k < R.length), w.cell? ⟨g, k, none⟩ = some (cell R[k]) := by
  rcases h.2 with ⟨hv, h0'⟩ | ⟨g, c, cur, hv, hb, hg, hnc, hm, hs, ht⟩
  · omega
  · subst hn
    subst hv
    refine ⟨g, c, rfl, (h.lt g rfl).2, by omega, by omega, fun k hk => ?_⟩
    have hc := h.cellAt k (by omega)
    rw [hc]
    unfold cells
    rw [List.getElem?_map, List.getElem?_eq_getElem hk]; rfl
theorem infoS : (Try.prog.info? 9).map (fun i => (i.zero, i.size, i.bytes)) = some (some (.string ⟨#[]⟩), 1, 16) := by kernel_rfl
theorem toL (x : T) : (⟨x.toArray⟩ : ByteArray).toList = x := by rw [ByteArray.toList_eq]
set_option maxHeartbeats 2000000 in
theorem l2Put_any (g cap : Nat) (l : List T) (s : T) (w : World) (hl : l.length ≤ 100) (hcap : l.length ≤ cap) (hc2 : cap ≤ maxLen) (hg : g < w.heap.size) (hc : ∀ k (h : k < l.length), w.cell? ⟨g, k, none⟩ = some (cell l[k])) :
    Calls Try.prog 24 #[.slice (some ⟨g, 0, none⟩) l.length cap, .string ⟨s.toArray⟩] w fun e w' => Putted w w' e (put l s) := by
  obtain ⟨i0, hi, hz0, hz1, hz2⟩ := info_parts infoS
  have HC : Hid (∀ k (h : k < l.length), w.cell? ⟨g, k, none⟩ = some (cell l[k])) := hc
  have OW0 : Hid ((w.alloc (.cells #[] 9)).ownsRow w.heap.size 9 1 (.slice (some ⟨w.heap.size, 0, none⟩) 0 0) 0 []) := World.ownsRow_lit w #[] 0 (Nat.le_refl _) (Nat.zero_le _) rfl
  have hts : Hid ((⟨s.toArray⟩ : ByteArray).toList = s) := toL s
  generalize hS : (⟨s.toArray⟩ : ByteArray) = S at hts
  have HS : Hid ((⟨s.toArray⟩ : ByteArray) = S) := hS
  clear hS
  clear hc
  go_enter Try.func24, Try.ntmps24
  go_wp2_with fail
  go_loopw [5] (fun x wr => ∃ (k : Nat), k ≤ l.length ∧ x = .int .i64 (k : Int) ∧ Hid (∀ j (h : j < l.length), j < k → l[j] < s) ∧ wr = w) (fun x _ => l.length - (intOf x).toNat)
  case atStart => exact ⟨0, Nat.zero_le _, rfl, fun j _ h => absurd h (Nat.not_lt_zero _), rfl⟩
  case round =>
    obtain ⟨k, hk, rfl, hno, rfl⟩ := hrel
    have k0 : (0 : Int) ≤ (k : Int) := by omega
    have TK : Hid (∀ j u, (cells (l.take k))[j]? = some u → (wr.alloc (.cells #[] 9)).cell? ((⟨g, 0, none⟩ : Addr).add j) = some u) := fun j u hj => by
      unfold cells at hj
      rw [List.getElem?_map] at hj
      by_cases hjk : j < (l.take k).length
      · rw [List.getElem?_eq_getElem hjk, List.getElem_take] at hj
        rw [List.length_take] at hjk
        cases hj
        have h := ((Below.refl wr.heap.size wr).alloc (Nat.le_refl _) (.cells #[] 9)).cell (p := ⟨g, j, none⟩) hg
        have e : (⟨g, 0, none⟩ : Addr).add j = ⟨g, j, none⟩ := by cases j <;> simp [Addr.add]
        rw [e]
        exact h.trans (HC.out j (by omega))
      · rw [List.getElem?_eq_none (by omega)] at hj; cases hj
    have TL : Hid (∀ j u, (cells (l.take k))[j]? = some u → wr.cell? ⟨g, j, none⟩ = some u) := fun j u hj => by
      unfold cells at hj
      rw [List.getElem?_map] at hj
      by_cases hjk : j < (l.take k).length
      · rw [List.getElem?_eq_getElem hjk, List.getElem_take] at hj
        rw [List.length_take] at hjk
        cases hj
        exact HC.out j (by omega)
      · rw [List.getElem?_eq_none (by omega)] at hj; cases hj
    have DR : Hid (∀ W, Below wr.heap.size wr W → ∀ j u, (cells (l.drop k))[j]? = some u → W.cell? ((⟨g, k, none⟩ : Addr).add j) = some u) := fun W hb j u hj => by
      unfold cells at hj
      rw [List.getElem?_map, List.getElem?_drop] at hj
      by_cases hjk : k + j < l.length
      · rw [List.getElem?_eq_getElem hjk] at hj
        cases hj
        have e : (⟨g, k, none⟩ : Addr).add j = ⟨g, k + j, none⟩ := by cases j <;> simp [Addr.add]
        rw [e]
        exact (hb.cell (p := ⟨g, k + j, none⟩) hg).trans (HC.out (k + j) hjk)
      · rw [List.getElem?_eq_none (by omega)] at hj; cases hj
    have PA : Hid ((∀ h : k < l.length, ¬ l[k] < s) → put l s = if h : k < l.length then (if l[k] = s then l else l.take k ++ s :: l.drop k) else l ++ [s]) := put_at l s k hk hno.out
    by_cases hlt : k < l.length
    · have c0 : wr.cell? ⟨g, k, none⟩ = some (.string ⟨l[k].toArray⟩) := HC.out k hlt
      have hx := toL l[k]
      have k1 : (k : Int) < (l.length : Int) := by omega
      have lsX : ∀ X : ByteArray, X.toList = l[k] → Op.bytesLess X.toList S.toList = decide (l[k] < s) := fun X h => by rw [h, hts.out, Go.Proofs.bytesLess_eq]
      have eqX : ∀ X : ByteArray, X.toList = l[k] → (X.toList == S.toList) = decide (l[k] = s) := fun X h => by rw [h, hts.out, Bool.eq_iff_iff]; simp
      generalize (⟨l[k].toArray⟩ : ByteArray) = X at c0 hx
      have lsX := lsX X hx
      have eqX := eqX X hx
      clear hx
      by_cases h1 : l[k] < s
      · rw [decide_eq_true h1] at lsX
        clear eqX
        have HN : Hid (∀ j (h : j < l.length), j < k + 1 → l[j] < s) := fun j h hj => by
          by_cases e : j = k
          · subst e; exact h1
          · exact hno.out j h (by omega)
        clear hno TK TL DR PA h1
        go_wp2_with fail
        go_roundw
        case rel => exact ⟨k + 1, by omega, by go_num, HN.out, by first | rfl | trivial⟩
        case measure => simp [intOf]; omega
      · rw [decide_eq_false h1] at lsX
        by_cases h2 : l[k] = s
        · rw [decide_eq_true h2] at eqX
          have PUT : Hid (put l s = l) := by show _ = _; rw [PA.out (fun _ => h1), dif_pos hlt, if_pos h2]
          clear h1 h2 TK TL DR PA
          go_wp2_with fail
          go_ret
          exact ⟨g, cap, by rw [PUT.out]; rfl, hg, by rw [PUT.out]; exact hcap, hc2, by rw [PUT.out]; exact HC.out, Below.refl _ _⟩
        · rw [decide_eq_false h2] at eqX
          have PUT : Hid (put l s = l.take k ++ s :: l.drop k) := by show _ = _; rw [PA.out (fun _ => h1), dif_pos hlt, if_neg h2]
          clear h1 h2 PA hno
          go_wp2_with (at_builtin; refine wpList_append_own _ rfl _ _ 30 rfl wr.heap.size 9 i0 (.string ⟨#[]⟩) 1 16 Try.underlying30 hi hz0 hz1 hz2 rfl (by decide) (.slice (some ⟨wr.heap.size, 0, none⟩) 0 0) 0 [] rfl OW0.out ⟨g, 0, none⟩ k cap (cells (l.take k)) rfl ?a1 ?a2 ?a3 ?a4 ?a5 ?a6 ?_)
          case a1 => rw [cells_len, List.length_take]; omega
          case a2 => first | exact fun j u hj => TK.out j u hj | exact fun j u hj => TL.out j u hj
          case a3 => exact cells_one _
          case a4 => unfold maxLen; omega
          case a5 => omega
          all_goals try (case a6 => simp)
          intro v1 w1 own1 grow1 _
          have B1 : Hid (Below wr.heap.size wr w1) := ((Below.refl _ _).alloc (Nat.le_refl _) _).grown grow1 (by simp) (fun b hb => (OW0.out.lt b hb).1)
          have O1 : Hid (w1.ownsRow wr.heap.size 9 1 v1 k (cells (l.take k))) := own1
          clear own1 grow1
          have own2 : Hid (∀ o, (w1.alloc o).ownsRow wr.heap.size 9 1 v1 k (cells (l.take k))) := fun o => O1.out.alloc o
          go_wp2_with (at_builtin; refine wpList_append_own _ rfl _ _ 30 rfl wr.heap.size 9 i0 (.string ⟨#[]⟩) 1 16 Try.underlying30 hi hz0 hz1 hz2 rfl (by decide) v1 k (cells (l.take k)) rfl (own2.out _) ⟨w1.heap.size, 0, none⟩ 1 1 [.string S] rfl ?a1 ?a2 ?a3 ?a4 ?a5 ?a6 ?_)
          case a1 => rfl
          case a2 =>
            intro j u hj
            match j, hj with
            | 0, hj => simp at hj; subst hj; show World.cell? _ ⟨w1.heap.size, 0, none⟩ = _; rw [World.cell?_alloc_new]; rfl
          case a3 => intro u hu; rw [List.mem_singleton.1 hu]; rfl
          case a4 => unfold maxLen; omega
          case a5 => omega
          case a6 => simp; have := B1.out.size; omega
          intro v2 w2 own3 grow3 _
          have B2 : Hid (Below wr.heap.size wr w2) := (B1.out.alloc B1.out.size _).grown grow3 (by have := B1.out.size; simp; omega) (fun b hb => (O1.out.lt b hb).1)
          have O2 : Hid (w2.ownsRow wr.heap.size 9 1 v2 (k + 1) (cells (l.take k) ++ [.string S])) := own3
          clear own3 grow3 own2 O1 B1
          have own4 : Hid (w2.ownsRow wr.heap.size 9 1 v2 (k + 1) (cells (l.take k) ++ [.string S])) := O2.out
          go_wp2_with (at_builtin; refine wpList_append_own _ rfl _ _ 30 rfl wr.heap.size 9 i0 (.string ⟨#[]⟩) 1 16 Try.underlying30 hi hz0 hz1 hz2 rfl (by decide) v2 (k + 1) (cells (l.take k) ++ [.string S]) rfl own4.out ⟨g, k, none⟩ (l.length - k) (cap - k) (cells (l.drop k)) rfl ?a1 ?a2 ?a3 ?a4 ?a5 ?a6 ?_)
          case a1 => rw [cells_len, List.length_drop]; omega
          case a2 => exact fun j u hj => DR.out w2 B2.out j u hj
          case a3 => exact cells_one _
          case a4 => unfold maxLen; omega
          case a5 => omega
          case a6 => exact B2.out.size
          intro v3 w3 own5 grow5 _
          have B3 : Hid (Below wr.heap.size wr w3) := B2.out.grown grow5 B2.out.size (fun b hb => (O2.out.lt b hb).1)
          have O3 : Hid (w3.ownsRow wr.heap.size 9 1 v3 (k + 1 + (l.length - k)) (cells (put l s))) := by
            have h := own5
            have e : cells (put l s) = cells (l.take k) ++ Value.string S :: cells (l.drop k) := by
              rw [PUT.out, ← HS.out]
              unfold cells
              simp [cell]
            show World.ownsRow _ _ _ _ _ _ _
            rw [e]
            first | exact h | (rw [List.append_assoc] at h; exact h)
          have LN : Hid ((put l s).length = k + 1 + (l.length - k)) := by
            show _ = _
            rw [PUT.out, List.length_append, List.length_cons, List.length_take, List.length_drop]; omega
          clear own5 grow5 own4 O2 B2 TK TL DR
          obtain ⟨g3, cap3, rfl, q1, q2, q3, q4⟩ := own_row O3.out LN.out (by omega)
          have Q : Hid (g3 < w3.heap.size ∧ (put l s).length ≤ cap3 ∧ cap3 ≤ maxLen ∧ ∀ k (h : k < (put l s).length), w3.cell? ⟨g3, k, none⟩ = some (cell (put l s)[k])) := ⟨q1, q2, q3, q4⟩
          clear q1 q2 q3 q4
          go_wp2_with fail
          go_ret
          exact ⟨g3, cap3, rfl, Q.out.1, Q.out.2.1, Q.out.2.2.1, Q.out.2.2.2, B3.out⟩
    · have e : k = l.length := by omega
      subst e
      have PUT : Hid (put l s = l ++ [s]) := by
        show _ = _
        rw [PA.out (fun h => absurd h hlt), dif_neg hlt]
      have TF : Hid (∀ j u, (cells l)[j]? = some u → wr.cell? ⟨g, j, none⟩ = some u) := fun j u hj => TL.out j u (by rw [List.take_length]; exact hj)
      have TG : Hid (∀ j u, (cells l)[j]? = some u → (wr.alloc (.cells #[] 9)).cell? ((⟨g, 0, none⟩ : Addr).add j) = some u) := fun j u hj => TK.out j u (by rw [List.take_length]; exact hj)
      clear PA hno TK TL DR hlt hk
      go_wp2_with (at_builtin; refine wpList_append_own _ rfl _ _ 30 rfl wr.heap.size 9 i0 (.string ⟨#[]⟩) 1 16 Try.underlying30 hi hz0 hz1 hz2 rfl (by decide) (.slice (some ⟨wr.heap.size, 0, none⟩) 0 0) 0 [] rfl OW0.out ⟨g, 0, none⟩ l.length cap (cells l) rfl ?a1 ?a2 ?a3 ?a4 ?a5 ?a6 ?_)
      case a1 => rw [cells_len]; omega
      case a2 => first | exact fun j u hj => TG.out j u hj | exact fun j u hj => TF.out j u hj
      case a3 => exact cells_one _
      case a4 => unfold maxLen; omega
      case a5 => omega
      all_goals try (case a6 => simp)
      intro v1 w1 own1 grow1 _
      have B1 : Hid (Below wr.heap.size wr w1) := ((Below.refl _ _).alloc (Nat.le_refl _) _).grown grow1 (by simp) (fun b hb => (OW0.out.lt b hb).1)
      have O1 : Hid (w1.ownsRow wr.heap.size 9 1 v1 l.length (cells l)) := own1
      clear own1 grow1
      have own2 : Hid (∀ o, (w1.alloc o).ownsRow wr.heap.size 9 1 v1 l.length (cells l)) := fun o => O1.out.alloc o
      go_wp2_with (at_builtin; refine wpList_append_own _ rfl _ _ 30 rfl wr.heap.size 9 i0 (.string ⟨#[]⟩) 1 16 Try.underlying30 hi hz0 hz1 hz2 rfl (by decide) v1 l.length (cells l) rfl (own2.out _) ⟨w1.heap.size, 0, none⟩ 1 1 [.string S] rfl ?a1 ?a2 ?a3 ?a4 ?a5 ?a6 ?_)
      case a1 => rfl
      case a2 =>
        intro j u hj
        match j, hj with
        | 0, hj => simp at hj; subst hj; show World.cell? _ ⟨w1.heap.size, 0, none⟩ = _; rw [World.cell?_alloc_new]; rfl
      case a3 => intro u hu; rw [List.mem_singleton.1 hu]; rfl
      case a4 => unfold maxLen; omega
      case a5 => omega
      case a6 => simp; have := B1.out.size; omega
      intro v2 w2 own3 grow3 _
      have B2 : Hid (Below wr.heap.size wr w2) := (B1.out.alloc B1.out.size _).grown grow3 (by have := B1.out.size; simp; omega) (fun b hb => (O1.out.lt b hb).1)
      have O2 : Hid (w2.ownsRow wr.heap.size 9 1 v2 (l.length + 1) (cells l ++ [.string S])) := own3
      clear own3 grow3 own2 O1 B1
      by_cases hce : cap = l.length
      · subst hce
        go_wp2_with (at_builtin; refine wpList_append_own _ rfl _ _ 30 rfl wr.heap.size 9 i0 (.string ⟨#[]⟩) 1 16 Try.underlying30 hi hz0 hz1 hz2 rfl (by decide) v2 (l.length + 1) (cells l ++ [.string S]) rfl O2.out ⟨g, 0, none⟩ 0 0 [] rfl ?a1 ?a2 ?a3 ?a4 ?a5 ?a6 ?_)
        case a1 => rfl
        case a2 => intro j u hj; simp at hj
        case a3 => intro u hu; cases hu
        case a4 => unfold maxLen; omega
        case a5 => omega
        case a6 => exact B2.out.size
        intro v3 w3 own5 grow5 _
        have B3 : Hid (Below wr.heap.size wr w3) := B2.out.grown grow5 B2.out.size (fun b hb => (O2.out.lt b hb).1)
        have O3 : Hid (w3.ownsRow wr.heap.size 9 1 v3 (l.length + 1) (cells (put l s))) := by
          have h := own5
          have e : cells (put l s) = cells l ++ [Value.string S] := by
            rw [PUT.out, ← HS.out]
            unfold cells
            simp [cell]
          show World.ownsRow _ _ _ _ _ _ _
          rw [e]
          first | exact h | (rw [List.append_nil] at h; exact h)
        have LN : Hid ((put l s).length = l.length + 1) := by
          show _ = _
          rw [PUT.out, List.length_append]; rfl
        clear own5 grow5 O2 B2
        obtain ⟨g3, cap3, rfl, q1, q2, q3, q4⟩ := own_row O3.out LN.out (by omega)
        have Q : Hid (g3 < w3.heap.size ∧ (put l s).length ≤ cap3 ∧ cap3 ≤ maxLen ∧ ∀ k (h : k < (put l s).length), w3.cell? ⟨g3, k, none⟩ = some (cell (put l s)[k])) := ⟨q1, q2, q3, q4⟩
        clear q1 q2 q3 q4
        go_wp2_with fail
        go_ret
        exact ⟨g3, cap3, rfl, Q.out.1, Q.out.2.1, Q.out.2.2.1, Q.out.2.2.2, B3.out⟩
      · have hlc : l.length < cap := by omega
        have hn0 : ¬ cap - l.length = 0 := by omega
        go_wp2_with (at_builtin; refine wpList_append_own _ rfl _ _ 30 rfl wr.heap.size 9 i0 (.string ⟨#[]⟩) 1 16 Try.underlying30 hi hz0 hz1 hz2 rfl (by decide) v2 (l.length + 1) (cells l ++ [.string S]) rfl O2.out ⟨g, l.length, none⟩ 0 (cap - l.length) [] rfl ?a1 ?a2 ?a3 ?a4 ?a5 ?a6 ?_)
        case a1 => rfl
        case a2 => intro j u hj; simp at hj
        case a3 => intro u hu; cases hu
        case a4 => unfold maxLen; omega
        case a5 => omega
        case a6 => exact B2.out.size
        intro v3 w3 own5 grow5 _
        have B3 : Hid (Below wr.heap.size wr w3) := B2.out.grown grow5 B2.out.size (fun b hb => (O2.out.lt b hb).1)
        have O3 : Hid (w3.ownsRow wr.heap.size 9 1 v3 (l.length + 1) (cells (put l s))) := by
          have h := own5
          have e : cells (put l s) = cells l ++ [Value.string S] := by
            rw [PUT.out, ← HS.out]
            unfold cells
            simp [cell]
          show World.ownsRow _ _ _ _ _ _ _
          rw [e]
          first | exact h | (rw [List.append_nil] at h; exact h)
        have LN : Hid ((put l s).length = l.length + 1) := by
          show _ = _
          rw [PUT.out, List.length_append]; rfl
        clear own5 grow5 O2 B2
        obtain ⟨g3, cap3, rfl, q1, q2, q3, q4⟩ := own_row O3.out LN.out (by omega)
        have Q : Hid (g3 < w3.heap.size ∧ (put l s).length ≤ cap3 ∧ cap3 ≤ maxLen ∧ ∀ k (h : k < (put l s).length), w3.cell? ⟨g3, k, none⟩ = some (cell (put l s)[k])) := ⟨q1, q2, q3, q4⟩
        clear q1 q2 q3 q4
        go_wp2_with fail
        go_ret
        exact ⟨g3, cap3, rfl, Q.out.1, Q.out.2.1, Q.out.2.2.1, Q.out.2.2.2, B3.out⟩
end Go.Proofs.Ytfgabgihdcokdaa.Namq
