/-
  Contracts of ours for both sides' ReadInsText at every text: one answer.
-/
import Derived.Test.YtoajaadobieekaaGreatDoorSame
namespace Go.Proofs.YtoajaadobieekaaGreatDoor.Rinsw
open Go.ChangeShapes Go.WideShapes Go.ChangeAt Go.RowKit
open HoleX (n8 n16 e8 holeT holeP)
open HolI LenX InsX Texi Fits Like Rinst Fitz Rinsu Same
set_option linter.unusedVariables false
set_option maxRecDepth 20000

theorem cb_all : ∀ c : Fin 256, ¬ (Tmpl.tmplS (c.val : Int) true).size = 0 := by decide +kernel
theorem cb_at (code : Int) (h0 : 0 ≤ code) (h1 : code ≤ 255) : ¬ (Tmpl.tmplS code true).size = 0 := by
  have := cb_all ⟨code.toNat, by omega⟩
  rwa [show ((⟨code.toNat, by omega⟩ : Fin 256).val : Int) = code by show ((code.toNat : Nat) : Int) = code; omega] at this
theorem flag_empty {s : ByteArray} (hs : s.size = 0) (code : Int) (cb : Bool) (h0 : 0 ≤ code) (h1 : code ≤ 255) : flagS s code cb = false := by
  unfold flagS
  by_cases hE : cb = false ∧ (Tmpl.tmplS code cb).size = 0
  · rw [if_pos hE]
  · have hT : ¬ (Tmpl.tmplS code cb).size = 0 := by
      cases cb with
      | false => exact fun h => hE ⟨rfl, h⟩
      | true => exact cb_at code h0 h1
    have hf : fits s (Tmpl.tmplS code cb) = false := by
      unfold fits
      split
      · rcases Bool.eq_false_or_eq_true (s.toList == (Tmpl.tmplS code cb).toList) with h | h
        · exact absurd (by rw [← eq_of_lists h]; exact hs) hT
        · exact h
      · rw [if_pos (by omega)]
    rw [if_neg hE, if_pos hf]
theorem firstK_no {f : Nat → Bool} (h : ∀ k, f k = false) : ∀ n k : Nat, firstK f n k = none
  | 0, _ => rfl
  | n + 1, k => by
    unfold firstK
    rw [if_neg (by rw [h]; decide)]
    exact firstK_no h n (k + 1)
def res (s : ByteArray) : Option Nat := if s.size ≤ 20 then firstK (kS s) 512 0 else none
set_option maxHeartbeats 1000000 in
theorem specFull_any (s : ByteArray) (w : World) (hs : s.size ≤ 1048576) :
    Calls Tryz.prog 11 #[.string s] w fun e w' => e = outS s (res s) ∧ Below w.heap.size w w' := by
  by_cases h : s.size ≤ 20
  · unfold res
    rw [if_pos h]
    exact specRead_any s w h
  · have HR : Hid (res s = none) := by show _ = _; unfold res; rw [if_neg h]
    have hl : ¬ (s.size : Int) ≤ 20 := by omega
    have hd : decide ((s.size : Int) ≤ 20) = false := decide_eq_false hl
    clear h
    go_enter Tryz.func11, Tryz.ntmps11
    go_wp2
    go_loopw [4] (fun i wr => i = .int .i64 0 ∧ wr = (w.alloc (.cells #[.int .i64 0, .bool false, .int .i64 0] 25))) (fun i _ => 0)
    case atStart => exact ⟨rfl, rfl⟩
    case round =>
      obtain ⟨rfl, rfl⟩ := hrel
      have BK : Hid (Below (w.alloc (.cells #[.int .i64 0, .bool false, .int .i64 0] 25)).heap.size (w.alloc (.cells #[.int .i64 0, .bool false, .int .i64 0] 25)) (w.alloc (.cells #[.int .i64 0, .bool false, .int .i64 0] 25))) := Below.refl _ _
      have r0 := box BK.out 0 _ rfl
      have r1 := box BK.out 1 _ rfl
      have r2 := box BK.out 2 _ rfl
      have f0 := fro BK.out 0
      have f1 := fro BK.out 1
      have f2 := fro BK.out 2
      go_wp2
      rw [HR.out]
      exact bodyPost_ret (v := .tuple #[.agg #[.int .i64 0, .bool false, .int .i64 0], .bool false]) (by simp [results, Tryz.results11, go_sem, r0, r1, r2]) rfl ⟨rfl, unbox BK.out⟩
set_option maxHeartbeats 1000000 in
theorem implFull_any (s : ByteArray) (w : World) (hT : PartN.Tables w) (hP : Pow w) (hm : MaxL w) (hs : s.size ≤ 1048576) :
    Calls Tryz.prog 7 #[.string s] w fun e w' => e = outS s (res s) ∧ Below w.heap.size w w' := by
  by_cases h0 : s.size = 0
  · have HR : Hid (res s = none) := by
      show _ = _
      unfold res
      rw [if_pos (by omega)]
      exact firstK_no (fun k => flag_empty h0 (codeK k) (cbK k) (code_bd k).1 (code_bd k).2) 512 0
    have he := Leng.empty_yes h0
    have BK : Hid (Below (w.alloc (.cells #[.int .i64 0, .bool false, .int .i64 0] 25)).heap.size (w.alloc (.cells #[.int .i64 0, .bool false, .int .i64 0] 25)) (w.alloc (.cells #[.int .i64 0, .bool false, .int .i64 0] 25))) := Below.refl _ _
    have r0 := box BK.out 0 _ rfl
    have r1 := box BK.out 1 _ rfl
    have r2 := box BK.out 2 _ rfl
    have f0 := fro BK.out 0
    have f1 := fro BK.out 1
    have f2 := fro BK.out 2
    clear h0 hT hP hm
    go_enter Tryz.func7, Tryz.ntmps7
    go_wp2
    rw [HR.out]
    exact bodyPost_ret (v := .tuple #[.agg #[.int .i64 0, .bool false, .int .i64 0], .bool false]) (by simp [results, Tryz.results7, go_sem, r0, r1, r2]) rfl ⟨rfl, unbox BK.out⟩
  by_cases h : s.size ≤ 20
  · unfold res
    rw [if_pos h, ← out_same s h0]
    exact implRead_any s w hT hP hm h h0
  · have HR : Hid (res s = none) := by show _ = _; unfold res; rw [if_neg h]
    have hl : (20 : Int) < (s.size : Int) := by omega
    have hd : decide ((20 : Int) < (s.size : Int)) = true := decide_eq_true hl
    have he := Leng.empty_no h0
    have BK : Hid (Below (w.alloc (.cells #[.int .i64 0, .bool false, .int .i64 0] 25)).heap.size (w.alloc (.cells #[.int .i64 0, .bool false, .int .i64 0] 25)) (w.alloc (.cells #[.int .i64 0, .bool false, .int .i64 0] 25))) := Below.refl _ _
    have r0 := box BK.out 0 _ rfl
    have r1 := box BK.out 1 _ rfl
    have r2 := box BK.out 2 _ rfl
    have f0 := fro BK.out 0
    have f1 := fro BK.out 1
    have f2 := fro BK.out 2
    clear h h0 hT hP hm
    go_enter Tryz.func7, Tryz.ntmps7
    go_wp2
    rw [HR.out]
    exact bodyPost_ret (v := .tuple #[.agg #[.int .i64 0, .bool false, .int .i64 0], .bool false]) (by simp [results, Tryz.results7, go_sem, r0, r1, r2]) rfl ⟨rfl, unbox BK.out⟩
theorem outS_shape (s : ByteArray) (o : Option Nat) : ∃ (c v : Int) (b f : Bool), outS s o = .returned (.tuple #[.agg #[.int .i64 c, .bool b, .int .i64 v], .bool f]) := by
  cases o with
  | none => exact ⟨0, 0, false, false, rfl⟩
  | some k => exact ⟨_, _, _, _, rfl⟩
end Go.Proofs.YtoajaadobieekaaGreatDoor.Rinsw
