/-
  Contracts of ours for what makes drawn texts: spec.l1Dec, and the reader's hurt.
-/
import Derived.Test.YtlobkgohenebmaaDoorRd
import Derived.Laws.BytesArg
import Derived.Deep.RegionWith
namespace Go.Proofs.YtlobkgohenebmaaDoor.Draw
open Go.ChangeShapes Go.WideShapes Go.ChangeAt Go.RowKit
open Rdr (Rd Post)


/-- A row that was laid ahead of a call of the reader reads behind it as it was laid. -/
theorem row_cell {W w1 w2 : World} {rb : Nat} {C : Array Value} {T : TypeId} (hp : Post W rb w2) (hW : W.heap = (w1.alloc (.cells C T)).heap) (hl : rb < w1.heap.size) (i : Nat) : w2.cell? ⟨w1.heap.size, i, none⟩ = C[i]? := by
  have e : w2.heap[w1.heap.size]? = (w1.alloc (.cells C T)).heap[w1.heap.size]? := by
    rw [hp.2.block _ (by rw [hW]; simp) (fun e => by have : w1.heap.size = rb := Option.some.inj e; omega), hW]
  exact (World.cell?_of_block (a := ⟨w1.heap.size, i, none⟩) e).trans (World.cell?_alloc_new _ _ _ _)
/-- One of a row of texts of at most k bytes. -/
theorem row_text {W w1 w2 : World} {rb : Nat} {T : TypeId} {C : List ByteArray} (k : Nat) (hp : Post W rb w2) (hW : W.heap = (w1.alloc (.cells (C.map Value.string).toArray T)).heap) (hl : rb < w1.heap.size) (hk : ∀ t ∈ C, t.size ≤ k) {y : Int} (y0 : 0 ≤ y) (y1 : y < C.length) :
    ∃ t : ByteArray, t.size ≤ k ∧ w2.cell? ⟨w1.heap.size, y.toNat, none⟩ = some (.string t) := by
  have h : y.toNat < C.length := by omega
  refine ⟨C[y.toNat], hk _ (List.getElem_mem h), (row_cell hp hW hl y.toNat).trans ?_⟩
  simp [h]

theorem row_get {C : List ByteArray} (k : Nat) (hk : ∀ t ∈ C, t.size ≤ k) {y : Int} (y0 : 0 ≤ y) (y1 : y < C.length) : ∃ t : ByteArray, t.size ≤ k ∧ ∀ h, (C.map Value.string)[y.toNat]'h = .string t := by
  have h : y.toNat < C.length := by omega
  exact ⟨C[y.toNat], hk _ (List.getElem_mem h), fun h => by simp⟩

set_option maxHeartbeats 1000000 in
theorem hurt_any (rb : Nat) (s : ByteArray) (w : World) (h : Rd w rb) (hs : s.size ≤ 100000000) :
    Calls Tryd.prog 21 #[.pointer (some ⟨rb, 0, none⟩), .string s] w fun e w' => (∃ t : ByteArray, t.size ≤ s.size + 1 ∧ e = .returned (.string t)) ∧ Post w rb w' := by
  have H : Hid (Rd w rb) := h
  clear h
  go_enter Tryd.func21, Tryd.ntmps21
  go_wp2_with fail
  refine (Rdr.below_any _ _ _ H.out (by decide) (by decide)).mono ?_
  rintro e w1 ⟨⟨x, x0, x1, rfl⟩, hp⟩
  by_cases e1 : x = 1
  · subst e1
    go_wp2_with fail
    refine (Rdr.below_any _ _ _ hp.1 (by omega) (by omega)).mono ?_
    rintro e w2 ⟨⟨y, y0, y1, rfl⟩, hp'⟩
    go_wp2
    go_ret
    exact ⟨⟨_, by rw [ByteArray.size_extract]; omega, rfl⟩, hp.trans hp'⟩
  by_cases e2 : x = 2
  · subst e2
    by_cases hz : 0 < s.size
    · go_wp2_with fail
      refine (Rdr.below_any _ _ _ hp.1 (by omega) (by omega)).mono ?_
      rintro e w2 ⟨⟨y, y0, y1, rfl⟩, hp'⟩
      have hl := hp'.1.lt
      obtain ⟨k, rfl⟩ := Int.eq_ofNat_of_zero_le y0
      have hk : k < s.size := by omega
      have hk1 : k + 1 ≤ s.size := hk
      have hk0 : k ≤ s.size := Nat.le_of_lt hk
      have hwr : IntKind.i64.wrap ((k : Int) + 1) = (k : Int) + 1 := by rw [IntKind.wrap_i64]; omega
      have hi0 : (0 : Int) ≤ (k : Int) + 1 := by omega
      have hi1 : (k : Int) + 1 ≤ (s.size : Int) := by omega
      have hi2 : ((k : Int) + 1).toNat = k + 1 := by omega
      have z1 : (s.extract 0 k).size = k := by rw [ByteArray.size_extract]; omega
      have z2 : (s.extract (k + 1) s.size).size = s.size - (k + 1) := by rw [ByteArray.size_extract]; omega
      clear y0 y1
      go_wp2_with fail
      go_region_with (first
        | (go_at_call 37; refine (Rdr.below_any _ _ (w2.drew) ?rd (by decide) (by decide)).mono ?_; (case rd => exact hp'.1.kept (fun _ _ => rfl)); rintro e w3 ⟨⟨z, z0, z1, rfl⟩, hp3⟩; obtain ⟨t, ht, hc⟩ := row_get (C := [⟨#[48]⟩, ⟨#[97]⟩, ⟨#[32]⟩, ⟨#[44]⟩, ⟨#[36]⟩, ⟨#[43]⟩]) 1 (by decide) z0 z1; have hc : ∀ h, ([Value.string ⟨#[48]⟩, .string ⟨#[97]⟩, .string ⟨#[32]⟩, .string ⟨#[44]⟩, .string ⟨#[36]⟩, .string ⟨#[43]⟩] : List Value)[z.toNat]'h = .string t := hc; have q1 : ¬ 9223372036854775807 < k + t.size := (by omega); have q2 : ¬ 9223372036854775807 < k + t.size + (s.size - (k + 1)) := (by omega))
        | (go_at_call 37; refine (Rdr.below_any _ _ _ ?rd (by decide) (by decide)).mono ?_; (case rd => exact (hp'.alloc _).1.kept (fun _ _ => rfl)); rintro e w3 ⟨⟨z, z0, z1, rfl⟩, hp3⟩; obtain ⟨t, ht, hc⟩ := row_text (C := [⟨#[48]⟩, ⟨#[97]⟩, ⟨#[32]⟩, ⟨#[44]⟩, ⟨#[36]⟩, ⟨#[43]⟩]) 1 hp3 rfl hl (by decide) z0 z1; have q1 : ¬ 9223372036854775807 < k + t.size := (by omega); have q2 : ¬ 9223372036854775807 < k + t.size + (s.size - (k + 1)) := (by omega)))
      all_goals go_wp2
      all_goals go_ret
      · exact ⟨⟨s.extract 0 k ++ t ++ s.extract (k + 1) s.size, by rw [ByteArray.size_append, ByteArray.size_append]; omega, rfl⟩, hp.trans ((hp'.alloc _).trans ⟨hp3.1, ⟨hp3.2.os, hp3.2.tape, hp3.2.output, hp3.2.size, hp3.2.block⟩⟩)⟩
      · exact ⟨⟨s.extract 0 k ++ t ++ s.extract (k + 1) s.size, by rw [ByteArray.size_append, ByteArray.size_append]; omega, rfl⟩, hp.trans (hp'.trans (Post.alloc (w := w2) ⟨hp3.1, ⟨hp3.2.os, hp3.2.tape, hp3.2.output, hp3.2.size, hp3.2.block⟩⟩ _))⟩
    · go_wp2
      go_ret
      exact ⟨⟨s, by omega, rfl⟩, hp⟩
  by_cases e3 : x = 3
  · subst e3
    go_wp2_with fail
    refine (Rdr.below_any _ _ _ (hp.alloc _).1 (by decide) (by decide)).mono ?_
    rintro e w2 ⟨⟨y, y0, y1, rfl⟩, hp'⟩
    obtain ⟨t, ht, hc⟩ := row_text (C := [⟨#[32]⟩, ⟨#[48]⟩, ⟨#[120]⟩]) 1 hp' rfl hp.1.lt (by decide) y0 y1
    go_wp2
    go_ret
    exact ⟨⟨s ++ t, by rw [ByteArray.size_append]; omega, rfl⟩, (hp.alloc _).trans hp'⟩
  · have b1 : (x == 1) = false := by simpa using e1
    have b2 : (x == 2) = false := by simpa using e2
    have b3 : (x == 3) = false := by simpa using e3
    go_wp2
    go_ret
    exact ⟨⟨s, by omega, rfl⟩, hp⟩

end Go.Proofs.YtlobkgohenebmaaDoor.Draw
