/-
  What can be drawn of chapter 16: spec.DrawUnmapped.
-/
import Derived.Test.YtjhacbkmoepffaaDrawM
import Derived.Laws.IdiomStrings
namespace Go.Proofs.Ytjhacbkmoepffaa.DrawU
open Go.ChangeShapes Go.WideShapes Go.ChangeAt Go.RowKit Go.Deep
open Rdr (Rd Post)
open Pairr (Pair Pairs)
open DrawM
set_option linter.unusedVariables false
set_option linter.unusedSimpArgs false
set_option maxRecDepth 20000
set_option maxHeartbeats 2000000 in
theorem drawUnmapped_any (a : Option Addr) (len cap : Nat) (zs : List Int) (w : World) (h : Rdr.IsRow .u8 w a len cap zs) :
    Calls Try.prog 11 #[.slice a len cap] w fun e w' => (∃ (L : List Pair) (ao : Option Addr) (c : Nat) (s : ByteArray), e = .returned (.tuple #[.slice ao L.length c, .string s]) ∧ L.length ≤ 6 ∧ s.size ≤ 8 ∧ Pairs w' ao L) ∧ Below w.heap.size w w' := by
  have H : Hid (Rdr.IsRow .u8 w a len cap zs) := h
  clear h
  go_enter Try.func11, Try.ntmps11
  go_wp2_with fail
  refine (Rdr.open_any _ _ _ _ _ H.out).mono ?_
  rintro e w1 ⟨rfl, hr, hb⟩
  have R1 : Hid (Rd w1 w.heap.size) := hr
  have B1 : Hid (Below w.heap.size w w1) := hb
  clear hr hb H
  go_wp2_with fail
  refine (pairs_any _ _ R1.out).mono ?_
  rintro e w2 ⟨⟨L, ao, c, rfl, hL, hP, hao⟩, hp2⟩
  have P2 : Hid (Post w1 w.heap.size w2) := hp2
  have HP : Hid (Pairs w2 ao L) := hP
  have HA : Hid (∀ p, ao = some p → w.heap.size < p.block) := hao
  clear hp2 hP hao
  go_wp2_with fail
  refine (Rdr.below_any _ _ _ P2.out.1 (by decide) (by decide)).mono ?_
  rintro e w3 ⟨⟨x, x0, x1, rfl⟩, hp3⟩
  have P3 : Hid (Post w2 w.heap.size w3) := hp3
  clear hp3
  obtain ⟨rb, hrb⟩ : ∃ rb, rb = w.heap.size := ⟨_, rfl⟩
  have HR : Hid (rb = w.heap.size) := hrb
  rw [← hrb] at P3 P2 HA R1 ⊢
  clear hrb
  obtain ⟨k0, rfl⟩ := Int.eq_ofNat_of_zero_le x0
  generalize hLn : L.length = n at *
  have HL : Hid (L.length = n) := hLn
  clear hLn
  go_wp2_with fail
  go_loopw [6, 7] (fun v i wr => ∃ (k : Nat) (s : ByteArray), k ≤ 8 ∧ i = .int .i64 k ∧ v = .string s ∧ s.size + k ≤ 8 ∧ Hid (Post w2 rb wr)) (fun _ i _ => (intOf i).toNat)
  case atStart => exact ⟨k0, ⟨#[]⟩, by omega, rfl, rfl, by show 0 + k0 ≤ 8; omega, P3.out⟩
  case round =>
    clear P3
    obtain ⟨k, s, hk, rfl, rfl, hs, hp⟩ := hrel
    by_cases hlt : 0 < k
    · have hlt' : (0 : Int) < (k : Int) := by omega
      have hl := hp.out.1.lt
      go_wp2_with fail
      refine (Rdr.below_any _ _ _ hp.out.1 (by decide) (by decide)).mono ?_
      rintro e w4 ⟨⟨y, y0, y1, rfl⟩, hp4⟩
      have P4 : Hid (Post w2 rb w4) := hp.out.trans hp4
      clear hp4 hp
      obtain ⟨b, hb⟩ : ∃ b : UInt8, y = (b.toNat : Int) := ⟨UInt8.ofNat y.toNat, by rw [UInt8.toNat_ofNat']; omega⟩
      subst hb
      have ew : IntKind.u8.wrap (b.toNat : Int) = (b.toNat : Int) := by rw [IntKind.wrap_u8]; have := UInt8.toNat_lt b; omega
      have ec : (convert 30 9 (.slice (some ⟨w4.heap.size, 0, none⟩) 1 1)).run Try.prog (w4.alloc (.cells #[.int .u8 (b.toNat : Int)] 5)) = .ok (.string ⟨#[b]⟩) (w4.alloc (.cells #[.int .u8 (b.toNat : Int)] 5)) :=
        run_convert_bytes_back (P := Try.prog) _ 30 9 5 ⟨w4.heap.size, 0, none⟩ 1 [b] Try.underlying30 Try.underlying5 Try.underlying9 (fun j hj => by
          obtain rfl : j = 0 := by simpa using hj
          simp [Addr.add])
      have P5 : Hid (Post w2 rb (w4.alloc (.cells #[.int .u8 (b.toNat : Int)] 5))) := P4.out.alloc _
      have hsz : (s ++ (⟨#[b]⟩ : ByteArray)).size = s.size + 1 := by rw [ByteArray.size_append]; rfl
      have zb : (⟨#[b]⟩ : ByteArray).size = 1 := rfl
      go_wp2
      go_roundw
      case rel => exact ⟨k - 1, s ++ ⟨#[b]⟩, by omega, by congr 1; omega, rfl, by omega, P5.out⟩
      case measure => simp [intOf]; omega
    · obtain rfl : k = 0 := by omega
      have hlt' : ¬ (0 : Int) < ((0 : Nat) : Int) := by omega
      go_wp2
      go_ret2
      refine ⟨⟨L, ao, c, s, by rw [HL.out]; rfl, by rw [HL.out]; exact hL, by omega, pairs_post HP.out HA.out hp.out.2⟩, B1.out.trans (Post.below (w := w1) (P2.out.trans hp.out) (Nat.le_of_eq HR.out.symm) (Nat.le_of_lt R1.out.lt))⟩
end Go.Proofs.Ytjhacbkmoepffaa.DrawU
