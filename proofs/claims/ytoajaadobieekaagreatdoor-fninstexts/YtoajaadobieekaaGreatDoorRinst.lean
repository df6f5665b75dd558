/-
  A contract of ours for impl.ReadInsText: the first of the 512 codes of which the text is an instruction's.
-/
import Derived.Test.YtoajaadobieekaaGreatDoorLike
namespace Go.Proofs.YtoajaadobieekaaGreatDoor.Rinst
open Go.ChangeShapes Go.WideShapes Go.ChangeAt Go.RowKit
open HoleX (n8 n16 e8 holeT holeP)
open HolI LenX InsX Texi Fits Like
set_option linter.unusedVariables false
set_option maxRecDepth 20000

def firstK (f : Nat → Bool) : Nat → Nat → Option Nat
  | 0, _ => none
  | n + 1, k => if f k = true then some k else firstK f n (k + 1)
def codeK (k : Nat) : Int := ((k % 256 : Nat) : Int)
def cbK (k : Nat) : Bool := decide (256 ≤ k)
def kI (s : ByteArray) (k : Nat) : Bool := flagI s (codeK k) (cbK k)
def outI (s : ByteArray) : Option Nat → Ending
  | none => .returned (.tuple #[.agg #[.int .i64 0, .bool false, .int .i64 0], .bool false])
  | some k => .returned (.tuple #[.agg #[.int .i64 (codeK k), .bool (cbK k), .int .i64 (valI s (codeK k) (cbK k))], .bool true])
theorem outI_some (s : ByteArray) (k : Nat) : outI s (some k) = .returned (.tuple #[.agg #[.int .i64 (codeK k), .bool (cbK k), .int .i64 (valI s (codeK k) (cbK k))], .bool true]) := rfl
theorem firstK_hit {f : Nat → Bool} {k : Nat} (hk : k < 512) (h : f k = true) (e : firstK f 512 0 = firstK f (512 - k) k) : firstK f 512 0 = some k := by
  rw [e, show 512 - k = (511 - k) + 1 by omega, firstK, if_pos h]
theorem firstK_next {f : Nat → Bool} {k : Nat} (hk : k < 512) (h : f k = false) (e : firstK f 512 0 = firstK f (512 - k) k) : firstK f 512 0 = firstK f (512 - (k + 1)) (k + 1) := by
  rw [e, show 512 - k = (512 - (k + 1)) + 1 by omega, firstK, if_neg (by rw [h]; decide)]
set_option maxHeartbeats 1000000 in
theorem implRead_any (s : ByteArray) (w : World) (hT : PartN.Tables w) (hP : Pow w) (hm : MaxL w) (hs : s.size ≤ 20) (h0 : ¬ s.size = 0) :
    Calls Tryz.prog 7 #[.string s] w fun e w' => e = outI s (firstK (kI s) 512 0) ∧ Below w.heap.size w w' := by
  have HX : Hid (PartN.Tables w ∧ Pow w ∧ MaxL w) := ⟨hT, hP, hm⟩
  have hn := Leng.empty_no h0
  have hl : ¬ (20 : Int) < (s.size : Int) := by omega
  have hd : decide ((20 : Int) < (s.size : Int)) = false := decide_eq_false hl
  have x0 : ∀ w : World, (Instr.index 36 (.agg #[.bool false, .bool true]) (.int .i64 0)).run Tryz.prog w = .ok (.bool false) w := fun _ => by kernel_rfl
  have x1 : ∀ w : World, (Instr.index 36 (.agg #[.bool false, .bool true]) (.int .i64 1)).run Tryz.prog w = .ok (.bool true) w := fun _ => by kernel_rfl
  clear hT hP hm
  go_enter Tryz.func7, Tryz.ntmps7
  go_wp2
  have HB : Hid (Below w.heap.size w (w.alloc (.cells #[.int .i64 0, .bool false, .int .i64 0] 25))) := (Below.refl _ _).alloc (Nat.le_refl _) _
  go_loopw [18] (fun i wr => ((i = .int .i64 0 ∧ Hid (firstK (kI s) 512 0 = firstK (kI s) (512 - 0) 0)) ∨ (i = .int .i64 1 ∧ Hid (firstK (kI s) 512 0 = firstK (kI s) (512 - 256) 256)) ∨ (i = .int .i64 2 ∧ Hid (firstK (kI s) 512 0 = none))) ∧ Hid (Below (w.alloc (.cells #[.int .i64 0, .bool false, .int .i64 0] 25)).heap.size (w.alloc (.cells #[.int .i64 0, .bool false, .int .i64 0] 25)) wr)) (fun i _ => 2 - (intOf i).toNat)
  case atStart => exact ⟨.inl ⟨rfl, rfl⟩, Below.refl _ _⟩
  case round =>
    obtain ⟨hi, hb⟩ := hrel
    rcases hi with ⟨rfl, ha⟩ | ⟨rfl, ha⟩ | ⟨rfl, ha⟩
    · go_wp2_with fail
      go_loopw [21] (fun i wr => ∃ m : Nat, m ≤ 256 ∧ i = .int .i64 m ∧ Hid (firstK (kI s) 512 0 = firstK (kI s) (512 - m) m) ∧ Hid (Below (w.alloc (.cells #[.int .i64 0, .bool false, .int .i64 0] 25)).heap.size (w.alloc (.cells #[.int .i64 0, .bool false, .int .i64 0] 25)) wr)) (fun i _ => 256 - (intOf i).toNat)
      case atStart => exact ⟨0, Nat.zero_le _, rfl, rfl, hb⟩
      case round =>
        clear ha hb
        obtain ⟨m, hm, rfl, ha, hb⟩ := hrel
        by_cases hlt : m < 256
        · have cl := fun w hT hP hm => like_any s (m : Int) false w hT hP hm (by omega) (by omega) (by omega)
          have k1 : (m : Int) < 256 := by omega
          have HM : Hid (m < 256) := hlt
          clear hm hlt
          have HF : Hid (kI s m = flagI s (m : Int) false ∧ codeK m = (m : Int) ∧ cbK m = false) := by
            have := HM.out
            have e1 : codeK m = (m : Int) := by unfold codeK; omega
            have e2 : cbK m = false := by unfold cbK; simp; try omega
            exact ⟨by unfold kI; rw [e1, e2], e1, e2⟩
          have HV : Hid (valI s (codeK m) (cbK m) = valI s (m : Int) false) := by
            show _ = _; rw [HF.out.2.1, HF.out.2.2]
          generalize valI s (m : Int) false = V at cl HV
          generalize flagI s (m : Int) false = F at cl HF
          cases F
          · go_wp2_with fail
            refine (cl _ (HX.out.1.below (unbox hb.out)) (HX.out.2.1.below (unbox hb.out)) (HX.out.2.2.below (unbox hb.out))).mono ?_
            rintro e w2 ⟨rfl, b2⟩
            have BK : Hid (Below _ _ w2) := after hb.out b2
            have BL : Hid (Below (w.alloc (.cells #[.int .i64 0, .bool false, .int .i64 0] 25)).heap.size (w.alloc (.cells #[.int .i64 0, .bool false, .int .i64 0] 25)) (w2.alloc (.cells #[.int .i64 (m : Int), .bool false, .int .i64 V] 25))) := BK.out.alloc BK.out.size _
            clear b2 cl
            go_wp2_with fail
            all_goals
              try go_roundw
            case rel => exact ⟨m + 1, HM.out, by go_num, firstK_next (k := m) (by have := HM.out; omega) HF.out.1 ha.out, BL.out⟩
            case measure => have := HM.out; simp [intOf]; omega
          · go_wp2_with fail
            refine (cl _ (HX.out.1.below (unbox hb.out)) (HX.out.2.1.below (unbox hb.out)) (HX.out.2.2.below (unbox hb.out))).mono ?_
            rintro e w2 ⟨rfl, b2⟩
            have BK : Hid (Below _ _ w2) := after hb.out b2
            have BL : Hid (Below (w.alloc (.cells #[.int .i64 0, .bool false, .int .i64 0] 25)).heap.size (w.alloc (.cells #[.int .i64 0, .bool false, .int .i64 0] 25)) (w2.alloc (.cells #[.int .i64 (m : Int), .bool false, .int .i64 V] 25))) := BK.out.alloc BK.out.size _
            clear b2 cl
            have r0 := box BL.out 0 _ rfl
            have r1 := box BL.out 1 _ rfl
            have r2 := box BL.out 2 _ rfl
            have f0 := fro BL.out 0
            have f1 := fro BL.out 1
            have f2 := fro BL.out 2
            have HQ : Hid (outI s (firstK (kI s) 512 0) = .returned (.tuple #[.agg #[.int .i64 (m : Int), .bool false, .int .i64 V], .bool true])) := by
              show _ = _
              rw [firstK_hit (k := m) (by have := HM.out; omega) HF.out.1 ha.out]
              rw [outI_some, HV.out, HF.out.2.1, HF.out.2.2]
            go_wp2
            all_goals exact bodyPost_ret (v := .tuple #[.agg #[.int .i64 (m : Int), .bool false, .int .i64 V], .bool true]) (by simp [results, Tryz.results7, go_sem, r0, r1, r2]) rfl ⟨HQ.out.symm, ((((unbox BL.out)).setCell (p := ⟨w.heap.size, 0, none⟩) (Nat.le_refl _) _).setCell (p := ⟨w.heap.size, 1, none⟩) (Nat.le_refl _) _).setCell (p := ⟨w.heap.size, 2, none⟩) (Nat.le_refl _) _⟩
        · have HM : Hid (m = 256) := by show m = 256; omega
          have k1 : ¬ (m : Int) < 256 := by omega
          clear hm hlt
          go_wp2_with fail
          all_goals
            try go_roundw
          case rel =>
            refine ⟨(.inr (.inl ⟨rfl, ?_⟩)), hb⟩
            have := ha.out
            rw [HM.out] at this
            exact this
          case measure => simp [intOf]
    · go_wp2_with fail
      go_loopw [21] (fun i wr => ∃ m : Nat, m ≤ 256 ∧ i = .int .i64 m ∧ Hid (firstK (kI s) 512 0 = firstK (kI s) (512 - (256 + m)) (256 + m)) ∧ Hid (Below (w.alloc (.cells #[.int .i64 0, .bool false, .int .i64 0] 25)).heap.size (w.alloc (.cells #[.int .i64 0, .bool false, .int .i64 0] 25)) wr)) (fun i _ => 256 - (intOf i).toNat)
      case atStart => exact ⟨0, Nat.zero_le _, rfl, ha, hb⟩
      case round =>
        clear ha hb
        obtain ⟨m, hm, rfl, ha, hb⟩ := hrel
        by_cases hlt : m < 256
        · have cl := fun w hT hP hm => like_any s (m : Int) true w hT hP hm (by omega) (by omega) (by omega)
          have k1 : (m : Int) < 256 := by omega
          have HM : Hid (m < 256) := hlt
          clear hm hlt
          have HF : Hid (kI s (256 + m) = flagI s (m : Int) true ∧ codeK (256 + m) = (m : Int) ∧ cbK (256 + m) = true) := by
            have := HM.out
            have e1 : codeK (256 + m) = (m : Int) := by unfold codeK; omega
            have e2 : cbK (256 + m) = true := by unfold cbK; simp; try omega
            exact ⟨by unfold kI; rw [e1, e2], e1, e2⟩
          have HV : Hid (valI s (codeK (256 + m)) (cbK (256 + m)) = valI s (m : Int) true) := by
            show _ = _; rw [HF.out.2.1, HF.out.2.2]
          generalize valI s (m : Int) true = V at cl HV
          generalize flagI s (m : Int) true = F at cl HF
          cases F
          · go_wp2_with fail
            refine (cl _ (HX.out.1.below (unbox hb.out)) (HX.out.2.1.below (unbox hb.out)) (HX.out.2.2.below (unbox hb.out))).mono ?_
            rintro e w2 ⟨rfl, b2⟩
            have BK : Hid (Below _ _ w2) := after hb.out b2
            have BL : Hid (Below (w.alloc (.cells #[.int .i64 0, .bool false, .int .i64 0] 25)).heap.size (w.alloc (.cells #[.int .i64 0, .bool false, .int .i64 0] 25)) (w2.alloc (.cells #[.int .i64 (m : Int), .bool true, .int .i64 V] 25))) := BK.out.alloc BK.out.size _
            clear b2 cl
            go_wp2_with fail
            all_goals
              try go_roundw
            case rel => exact ⟨m + 1, HM.out, by go_num, firstK_next (k := (256 + m)) (by have := HM.out; omega) HF.out.1 ha.out, BL.out⟩
            case measure => have := HM.out; simp [intOf]; omega
          · go_wp2_with fail
            refine (cl _ (HX.out.1.below (unbox hb.out)) (HX.out.2.1.below (unbox hb.out)) (HX.out.2.2.below (unbox hb.out))).mono ?_
            rintro e w2 ⟨rfl, b2⟩
            have BK : Hid (Below _ _ w2) := after hb.out b2
            have BL : Hid (Below (w.alloc (.cells #[.int .i64 0, .bool false, .int .i64 0] 25)).heap.size (w.alloc (.cells #[.int .i64 0, .bool false, .int .i64 0] 25)) (w2.alloc (.cells #[.int .i64 (m : Int), .bool true, .int .i64 V] 25))) := BK.out.alloc BK.out.size _
            clear b2 cl
            have r0 := box BL.out 0 _ rfl
            have r1 := box BL.out 1 _ rfl
            have r2 := box BL.out 2 _ rfl
            have f0 := fro BL.out 0
            have f1 := fro BL.out 1
            have f2 := fro BL.out 2
            have HQ : Hid (outI s (firstK (kI s) 512 0) = .returned (.tuple #[.agg #[.int .i64 (m : Int), .bool true, .int .i64 V], .bool true])) := by
              show _ = _
              rw [firstK_hit (k := (256 + m)) (by have := HM.out; omega) HF.out.1 ha.out]
              rw [outI_some, HV.out, HF.out.2.1, HF.out.2.2]
            go_wp2
            all_goals exact bodyPost_ret (v := .tuple #[.agg #[.int .i64 (m : Int), .bool true, .int .i64 V], .bool true]) (by simp [results, Tryz.results7, go_sem, r0, r1, r2]) rfl ⟨HQ.out.symm, ((((unbox BL.out)).setCell (p := ⟨w.heap.size, 0, none⟩) (Nat.le_refl _) _).setCell (p := ⟨w.heap.size, 1, none⟩) (Nat.le_refl _) _).setCell (p := ⟨w.heap.size, 2, none⟩) (Nat.le_refl _) _⟩
        · have HM : Hid (m = 256) := by show m = 256; omega
          have k1 : ¬ (m : Int) < 256 := by omega
          clear hm hlt
          go_wp2_with fail
          all_goals
            try go_roundw
          case rel =>
            refine ⟨(.inr (.inr ⟨rfl, ?_⟩)), hb⟩
            have := ha.out
            rw [HM.out] at this
            exact this
          case measure => simp [intOf]
    · have r0 := box hb.out 0 _ rfl
      have r1 := box hb.out 1 _ rfl
      have r2 := box hb.out 2 _ rfl
      have f0 := fro hb.out 0
      have f1 := fro hb.out 1
      have f2 := fro hb.out 2
      go_wp2
      rw [ha.out]
      exact bodyPost_ret (v := .tuple #[.agg #[.int .i64 0, .bool false, .int .i64 0], .bool false]) (by simp [results, Tryz.results7, go_sem, r0, r1, r2]) rfl ⟨rfl, ((((unbox hb.out)).setCell (p := ⟨w.heap.size, 0, none⟩) (Nat.le_refl _) _).setCell (p := ⟨w.heap.size, 1, none⟩) (Nat.le_refl _) _).setCell (p := ⟨w.heap.size, 2, none⟩) (Nat.le_refl _) _⟩
end Go.Proofs.YtoajaadobieekaaGreatDoor.Rinst
