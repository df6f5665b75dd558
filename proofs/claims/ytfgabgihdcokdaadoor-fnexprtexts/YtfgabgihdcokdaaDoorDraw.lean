/-
  Contracts of ours for what makes drawn texts: spec.l1Dec, and the reader's hurt.
-/
import Derived.Test.YtfgabgihdcokdaaDoorRd
import Derived.Laws.BytesArg
import Derived.Deep.RegionWith
namespace Go.Proofs.YtfgabgihdcokdaaDoor.Draw
open Go.ChangeShapes Go.WideShapes Go.ChangeAt Go.RowKit
open Rdr (Rd Post)

/-- A number's decimal digits, ahead of a text. -/
def dec (n : Int) (t : ByteArray) : ByteArray := if n < 10 then strOfNums [48 + n] ++ t else dec (n / 10) (strOfNums [48 + n % 10] ++ t)
termination_by n.toNat
decreasing_by omega
theorem dec_small {n : Int} {t : ByteArray} (h : n < 10) : dec n t = strOfNums [48 + n] ++ t := by rw [dec, if_pos h]
theorem dec_great {n : Int} {t : ByteArray} (h : ¬ n < 10) : dec n t = dec (n / 10) (strOfNums [48 + n % 10] ++ t) := by rw [dec, if_neg h]
theorem one_size (x : Int) : (strOfNums [x]).size = 1 := strOfNums_size _
theorem cat_size (x : Int) (t : ByteArray) : (strOfNums [x] ++ t).size = t.size + 1 := by rw [ByteArray.size_append, one_size]; omega
theorem dec_size : ∀ (k : Nat) (n : Int) (t : ByteArray), n.toNat ≤ k → 0 ≤ n → ((dec n t).size : Int) ≤ t.size + n + 1
  | 0, n, t, hk, h0 => by rw [dec_small (by omega), cat_size]; omega
  | k + 1, n, t, hk, h0 => by
    by_cases h : n < 10
    · rw [dec_small h, cat_size]; omega
    · rw [dec_great h]
      have := dec_size k (n / 10) (strOfNums [48 + n % 10] ++ t) (by omega) (by omega)
      rw [cat_size] at this
      omega

set_option maxHeartbeats 400000 in
theorem l1Dec_any (n : Int) (w : World) (h0 : 0 ≤ n) (h1 : n ≤ 1000000000) :
    Calls Tryd.prog 28 #[.int .i64 n] w fun e w' => e = .returned (.string (dec n ⟨#[]⟩)) ∧ Below w.heap.size w w' := by
  have hcv : ∀ (u : World) (x : Int), (convert 22 9 (.slice (some ⟨u.heap.size, 0, none⟩) 1 1)).run Tryd.prog (u.alloc (.cells #[.int .u8 x] 5)) = .ok (.string (strOfNums [x])) (u.alloc (.cells #[.int .u8 x] 5)) := fun u x =>
    run_convert_bytes_arg _ 22 5 Tryd.underlying22 Tryd.underlying5 u.heap.size 0 1 1 [x] rfl (fun i hi => by
      rw [Nat.zero_add, World.cell?_alloc_new]
      match i, hi with
      | 0, _ => rfl) 9 Tryd.underlying9
  have hsz := one_size
  obtain ⟨r, hr⟩ : ∃ r, r = dec n ⟨#[]⟩ := ⟨_, rfl⟩
  rw [← hr]
  go_enter Tryd.func28, Tryd.ntmps28
  go_wp2
  go_loopw [0, 3] (fun v t wr => ∃ (m : Int) (s : ByteArray), 0 ≤ m ∧ (s.size : Int) + m ≤ n ∧ v = .int .i64 m ∧ t = .string s ∧ Hid (r = dec m s) ∧ Hid (Below w.heap.size w wr)) (fun v _ _ => (intOf v).toNat)
  case atStart => exact ⟨n, ⟨#[]⟩, h0, by show ((0 : Nat) : Int) + n ≤ n; omega, rfl, rfl, hr, Below.refl _ _⟩
  case round =>
    clear hr
    obtain ⟨m, s, hm0, hm1, rfl, rfl, hr, hb⟩ := hrel
    by_cases hlt : 10 ≤ m
    · have HR : Hid (r = dec (m / 10) (strOfNums [48 + m % 10] ++ s)) := by have := hr.out; rw [dec_great (by omega)] at this; exact this
      clear hr
      go_wp2
      go_roundw
      case rel => exact ⟨m / 10, strOfNums [48 + m % 10] ++ s, by omega, by rw [cat_size]; omega, rfl, rfl, HR, hb.out.alloc hb.out.size _⟩
      case measure => simp [intOf]; omega
    · have HR : Hid (r = strOfNums [48 + m] ++ s) := by have := hr.out; rw [dec_small (by omega)] at this; exact this
      clear hr
      go_wp2
      go_ret
      exact ⟨by rw [HR.out]; rfl, hb.out.alloc hb.out.size _⟩

/-- A row that was laid ahead of a call of the reader reads behind it as it was laid. -/
theorem row_cell {W w1 w2 : World} {rb : Nat} {C : Array Value} {T : TypeId} (hp : Post W rb w2) (hW : W.heap = (w1.alloc (.cells C T)).heap) (hl : rb < w1.heap.size) (i : Nat) : w2.cell? ⟨w1.heap.size, i, none⟩ = C[i]? := by
  have e : w2.heap[w1.heap.size]? = (w1.alloc (.cells C T)).heap[w1.heap.size]? := by
    rw [hp.2.block _ (by rw [hW]; simp) (fun e => by have : w1.heap.size = rb := Option.some.inj e; omega), hW]
  exact (World.cell?_of_block (a := ⟨w1.heap.size, i, none⟩) e).trans (World.cell?_alloc_new _ _ _ _)
/-- One of a row of texts of at most k bytes. -/
theorem row_text {W w1 w2 : World} {rb : Nat} {T : TypeId} {C : List ByteArray} (k : Nat) (hp : Post W rb w2) (hW : W.heap = (w1.alloc (.cells (C.map Value.string).toArray T)).heap) (hl : rb < w1.heap.size) (hk : ∀ t ∈ C, t.size ≤ k) {y : Int} (y0 : 0 ≤ y) (y1 : y < C.length) :
    ∃ t : ByteArray, t.size ≤ k ∧ w2.cell? ⟨w1.heap.size, y.toNat, none⟩ = some (.string t) := by
  have h : y.toNat < C.length := by omega
  refine ⟨C[y.toNat], hk _ (List.getElem_mem h), (row_cell hp hW hl y.toNat).trans ?_⟩
  simp [h]

theorem row_get {C : List ByteArray} (k : Nat) (hk : ∀ t ∈ C, t.size ≤ k) {y : Int} (y0 : 0 ≤ y) (y1 : y < C.length) : ∃ t : ByteArray, t.size ≤ k ∧ ∀ h, (C.map Value.string)[y.toNat]'h = .string t := by
  have h : y.toNat < C.length := by omega
  exact ⟨C[y.toNat], hk _ (List.getElem_mem h), fun h => by simp⟩

set_option maxHeartbeats 1000000 in
theorem hurt_any (rb : Nat) (s : ByteArray) (w : World) (h : Rd w rb) (hs : s.size ≤ 100000000) :
    Calls Tryd.prog 33 #[.pointer (some ⟨rb, 0, none⟩), .string s] w fun e w' => (∃ t : ByteArray, t.size ≤ s.size + 1 ∧ e = .returned (.string t)) ∧ Post w rb w' := by
  have H : Hid (Rd w rb) := h
  clear h
  go_enter Tryd.func33, Tryd.ntmps33
  go_wp2_with fail
  refine (Rdr.below_any _ _ _ H.out (by decide) (by decide)).mono ?_
  rintro e w1 ⟨⟨x, x0, x1, rfl⟩, hp⟩
  by_cases e1 : x = 1
  · subst e1
    go_wp2_with fail
    refine (Rdr.below_any _ _ _ hp.1 (by omega) (by omega)).mono ?_
    rintro e w2 ⟨⟨y, y0, y1, rfl⟩, hp'⟩
    go_wp2
    go_ret
    exact ⟨⟨_, by rw [ByteArray.size_extract]; omega, rfl⟩, hp.trans hp'⟩
  by_cases e2 : x = 2
  · subst e2
    by_cases hz : 0 < s.size
    · go_wp2_with fail
      refine (Rdr.below_any _ _ _ hp.1 (by omega) (by omega)).mono ?_
      rintro e w2 ⟨⟨y, y0, y1, rfl⟩, hp'⟩
      have hl := hp'.1.lt
      obtain ⟨k, rfl⟩ := Int.eq_ofNat_of_zero_le y0
      have hk : k < s.size := by omega
      have hk1 : k + 1 ≤ s.size := hk
      have hk0 : k ≤ s.size := Nat.le_of_lt hk
      have hwr : IntKind.i64.wrap ((k : Int) + 1) = (k : Int) + 1 := by rw [IntKind.wrap_i64]; omega
      have hi0 : (0 : Int) ≤ (k : Int) + 1 := by omega
      have hi1 : (k : Int) + 1 ≤ (s.size : Int) := by omega
      have hi2 : ((k : Int) + 1).toNat = k + 1 := by omega
      have z1 : (s.extract 0 k).size = k := by rw [ByteArray.size_extract]; omega
      have z2 : (s.extract (k + 1) s.size).size = s.size - (k + 1) := by rw [ByteArray.size_extract]; omega
      clear y0 y1
      go_wp2_with fail
      go_region_with (first
        | (go_at_call 54; refine (Rdr.below_any _ _ (w2.drew) ?rd (by decide) (by decide)).mono ?_; (case rd => exact hp'.1.kept (fun _ _ => rfl)); rintro e w3 ⟨⟨z, z0, z1, rfl⟩, hp3⟩; obtain ⟨t, ht, hc⟩ := row_get (C := [⟨#[48]⟩, ⟨#[97]⟩, ⟨#[32]⟩, ⟨#[44]⟩, ⟨#[36]⟩, ⟨#[43]⟩]) 1 (by decide) z0 z1; have hc : ∀ h, ([Value.string ⟨#[48]⟩, .string ⟨#[97]⟩, .string ⟨#[32]⟩, .string ⟨#[44]⟩, .string ⟨#[36]⟩, .string ⟨#[43]⟩] : List Value)[z.toNat]'h = .string t := hc; have q1 : ¬ 9223372036854775807 < k + t.size := (by omega); have q2 : ¬ 9223372036854775807 < k + t.size + (s.size - (k + 1)) := (by omega))
        | (go_at_call 54; refine (Rdr.below_any _ _ _ ?rd (by decide) (by decide)).mono ?_; (case rd => exact (hp'.alloc _).1.kept (fun _ _ => rfl)); rintro e w3 ⟨⟨z, z0, z1, rfl⟩, hp3⟩; obtain ⟨t, ht, hc⟩ := row_text (C := [⟨#[48]⟩, ⟨#[97]⟩, ⟨#[32]⟩, ⟨#[44]⟩, ⟨#[36]⟩, ⟨#[43]⟩]) 1 hp3 rfl hl (by decide) z0 z1; have q1 : ¬ 9223372036854775807 < k + t.size := (by omega); have q2 : ¬ 9223372036854775807 < k + t.size + (s.size - (k + 1)) := (by omega)))
      all_goals go_wp2
      all_goals go_ret
      · exact ⟨⟨s.extract 0 k ++ t ++ s.extract (k + 1) s.size, by rw [ByteArray.size_append, ByteArray.size_append]; omega, rfl⟩, hp.trans ((hp'.alloc _).trans ⟨hp3.1, ⟨hp3.2.os, hp3.2.tape, hp3.2.output, hp3.2.size, hp3.2.block⟩⟩)⟩
      · exact ⟨⟨s.extract 0 k ++ t ++ s.extract (k + 1) s.size, by rw [ByteArray.size_append, ByteArray.size_append]; omega, rfl⟩, hp.trans (hp'.trans (Post.alloc (w := w2) ⟨hp3.1, ⟨hp3.2.os, hp3.2.tape, hp3.2.output, hp3.2.size, hp3.2.block⟩⟩ _))⟩
    · go_wp2
      go_ret
      exact ⟨⟨s, by omega, rfl⟩, hp⟩
  by_cases e3 : x = 3
  · subst e3
    go_wp2_with fail
    refine (Rdr.below_any _ _ _ (hp.alloc _).1 (by decide) (by decide)).mono ?_
    rintro e w2 ⟨⟨y, y0, y1, rfl⟩, hp'⟩
    obtain ⟨t, ht, hc⟩ := row_text (C := [⟨#[32]⟩, ⟨#[48]⟩, ⟨#[120]⟩]) 1 hp' rfl hp.1.lt (by decide) y0 y1
    go_wp2
    go_ret
    exact ⟨⟨s ++ t, by rw [ByteArray.size_append]; omega, rfl⟩, (hp.alloc _).trans hp'⟩
  · have b1 : (x == 1) = false := by simpa using e1
    have b2 : (x == 2) = false := by simpa using e2
    have b3 : (x == 3) = false := by simpa using e3
    go_wp2
    go_ret
    exact ⟨⟨s, by omega, rfl⟩, hp⟩

end Go.Proofs.YtfgabgihdcokdaaDoor.Draw
