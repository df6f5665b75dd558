/-
  A contract of ours for spec.Fixed, at every argument.
-/
import Derived.Test.YtpnaohonadoofaaDoorFixi
namespace Go.Proofs.YtpnaohonadoofaaDoor.Fixs
open Go.ChangeShapes Go.WideShapes Go.ChangeAt Go.RowKit
open Signed (inB ret_int ret_bool l1In_any)
open Sums Fixa Titl Fixb Fixi
set_option linter.unusedVariables false
set_option maxRecDepth 20000

theorem over_set (l : List UInt8) (o k : Nat) (T : List UInt8) (hk : k < T.length) (ho : o + k < l.length) : (over l o (T.take k)).set (o + k) T[k] = over l o (T.take (k + 1)) := by
  have htk : (T.take k).length = k := by simp; omega
  have htk1 : (T.take (k + 1)).length = k + 1 := by simp; omega
  apply List.ext_getElem?
  intro i
  by_cases e : i = o + k
  · subst e
    rw [List.getElem?_set_self (by rw [over_length _ _ _ (by rw [htk]; omega)]; omega), over_get _ _ _ _ (by omega), if_neg (by omega), htk1, if_pos (by omega), Nat.add_sub_cancel_left, List.getElem?_take_of_lt (by omega), List.getElem?_eq_getElem hk]
  · rw [List.getElem?_set_ne (by omega), over_get _ _ _ _ (by omega), over_get _ _ _ _ (by omega), htk, htk1]
    by_cases h1 : i < o
    · rw [if_pos h1, if_pos h1]
    rw [if_neg h1, if_neg h1]
    by_cases h2 : i < o + k
    · rw [if_pos h2, if_pos (by omega), List.getElem?_take_of_lt (by omega), List.getElem?_take_of_lt (by omega)]
    · rw [if_neg h2, if_neg (by omega)]
theorem pad_get_in {l : List UInt8} {n i : Nat} (h : i < l.length) (hn : l.length ≤ n) : (pad l n)[i]'(by rw [pad_length _ _ hn]; omega) = l[i] := by
  unfold pad
  rw [List.getElem_append_left h]
theorem pad_get_out {l : List UInt8} {n i : Nat} (h : l.length ≤ i) (hn : l.length ≤ n) (hi : i < n) : (pad l n)[i]'(by rw [pad_length _ _ hn]; omega) = 0 := by
  unfold pad
  rw [List.getElem_append_right h]
  simp
def Pow2 (v : Int) : Prop := v = 2 ∨ v = 4 ∨ v = 8 ∨ v = 16
theorem room_min (n : Int) (h : n ≤ 16) : Hid (Pow2 (roomV n) ∧ n ≤ roomV n ∧ ∀ v, Pow2 v → v < roomV n → v < n) := by
  show _ ∧ _
  unfold Pow2 roomV
  refine ⟨?_, ?_, ?_⟩
  · repeat' split
    all_goals omega
  · repeat' split
    all_goals omega
  · intro v hv
    repeat' split
    all_goals omega
set_option maxHeartbeats 2000000 in
theorem specFixed_yes (rom title : ByteArray) (kind : Int) (w : World) (h : fixB rom title kind = true) :
    Calls Tryd.prog 8 #[.string rom, .string title, .int .i64 kind] w fun e w' => e = .returned (.tuple #[.string (fixedV rom title kind), .bool true]) ∧ Below w.heap.size w w' := by
  have hf := h
  unfold fixB at hf
  simp only [Bool.and_eq_true] at hf
  obtain ⟨hs1, ht, hk1⟩ := hf
  have ht2 : title.size ≤ 15 := by unfold title15 at ht; simp only [Bool.and_eq_true, decide_eq_true_eq] at ht; exact ht.2
  obtain ⟨s1, s2, s3⟩ := size1_yes hs1
  obtain ⟨l0, l1, l2, l3, l4⟩ := len_bd hs1
  have HL1 : Hid ((f1 rom title).length = lenV rom.size) := f1_length h
  have ct := fun w => l12Title_any title w (by unfold maxLen; omega)
  rw [ht] at ct
  have cl := fun w => l1In_any ((rom.size : Int) / 256) 1 16 w
  rw [show inB ((rom.size : Int) / 256) 1 16 = true from decide_eq_true (by omega)] at cl
  have ck := fun w => l1In_any kind 0 2 w
  rw [hk1] at ck
  have cc : ∀ w : World, Calls Tryd.prog 30 #[.int .i64 (roomV ((rom.size : Int) / 256))] w fun e w' => e = .returned (.int .i64 (timesV ((rom.size : Int) / 256))) ∧ w' = w := fun w => by
    rcases times_cases ((rom.size : Int) / 256) with ⟨h1, h2⟩ | ⟨h1, h2⟩ | ⟨h1, h2⟩ | ⟨h1, h2⟩ <;> rw [h1, h2]
    · exact l12Code_any 2 w (by omega) (by omega)
    · exact l12Code_any 4 w (by omega) (by omega)
    · exact l12Code_any 8 w (by omega) (by omega)
    · exact l12Code_any 16 w (by omega) (by omega)
  obtain ⟨o, hm⟩ := made (lenV rom.size) (by omega)
  have hm1 := fun u => (hm u).1
  have HM2 : Hid (∀ u : World, Row (u.alloc o) u.heap.size (List.replicate (lenV rom.size) 0)) := fun u => (hm u).2
  have m1 : (rom.size : Int) % 256 = 0 := by omega
  have m1' : ((rom.size : Int) % 256 != 0) = false := by simpa using m1
  obtain ⟨k0, k1⟩ := of_decide_eq_true hk1
  have HT2 : Hid (0 ≤ timesV ((rom.size : Int) / 256) ∧ timesV ((rom.size : Int) / 256) ≤ 3) := by rcases times_cases ((rom.size : Int) / 256) with x | x | x | x <;> exact ⟨by omega, by omega⟩
  have HF2 : Hid (f2 rom title kind = ((f1 rom title).set 71 (u8 kind)).set 72 (u8 (timesV ((rom.size : Int) / 256)))) := rfl
  have HX : Hid (f1 rom title = over (pad rom.data.toList (lenV rom.size)) 52 (pad title.data.toList 15)) := rfl
  have HR : Hid (romB (lenV rom.size) = true) := l0
  have HRV : Hid (roomV ((rom.size : Int) / 256) = if (rom.size : Int) / 256 ≤ 2 then 2 else if (rom.size : Int) / 256 ≤ 4 then 4 else if (rom.size : Int) / 256 ≤ 8 then 8 else 16) := rfl
  have hn16 : (rom.size : Int) / 256 ≤ 16 := by omega
  have HMin := room_min ((rom.size : Int) / 256) hn16
  generalize timesV ((rom.size : Int) / 256) = tv at *
  generalize roomV ((rom.size : Int) / 256) = rv at *
  generalize hN : lenV rom.size = N at *
  rw [l4] at hm1
  clear hm hs1 ht hk1 h s1 hN
  go_enter Tryd.func8, Tryd.ntmps8
  go_wp2_with (first | (go_at_call_of 28 kind; refine (ck _).mono ?_; rintro e w' ⟨rfl, hw⟩; have hw := hw.symm; subst hw) | (go_at_call 28; refine (cl _).mono ?_; rintro e w' ⟨rfl, hw⟩; have hw := hw.symm; subst hw) | (go_at_call 29; refine (ct _).mono ?_; rintro e w' ⟨rfl, hw⟩; have hw := hw.symm; subst hw) | fail)
  go_loop [9] (fun b => ∃ v : Int, b = .int .i64 v ∧ Hid (Pow2 v ∧ v ≤ rv) ∧ 2 ≤ v ∧ v ≤ 16) (fun b => 16 - (intOf b).toNat)
  case atStart => exact ⟨2, rfl, ⟨.inl rfl, by rcases HMin.out.1 with x | x | x | x <;> omega⟩, by omega, by omega⟩
  case round =>
  obtain ⟨v, rfl, HV0, hv0, hv1⟩ := hrel
  by_cases hlt : v < (rom.size : Int) / 256
  · have HN : Hid (Pow2 (2 * v) ∧ 2 * v ≤ rv) := by
      obtain ⟨p1, p2⟩ := HV0.out
      obtain ⟨q1, q2, q3⟩ := HMin.out
      unfold Pow2 at p1 q1
      show _ ∧ _
      unfold Pow2
      omega
    have hv2 : v ≤ 8 := by rcases HV0.out.1 with x | x | x | x <;> omega
    go_wp2_with fail
    go_round
    case rel => exact ⟨2 * v, rfl, HN, by omega, by omega⟩
    case measure => simp [intOf]; omega
  obtain rfl : v = rv := by
    obtain ⟨p1, p2⟩ := HV0.out
    obtain ⟨q1, q2, q3⟩ := HMin.out
    rcases Int.lt_or_eq_of_le p2 with x | x
    · exact absurd (q3 v p1 x) hlt
    · exact x
  clear HV0 HMin HRV
  go_upto_region 8 with fail
  have R1 : Hid (Row (w.alloc o) w.heap.size (List.replicate N 0)) := HM2.out w
  have B1 : Hid (Below w.heap.size w (w.alloc o)) := (Below.refl _ _).alloc (Nat.le_refl _) _
  have hle := R1.out.lt
  generalize w.alloc o = w1 at R1 B1 hle ⊢
  generalize hB : w.heap.size = B at R1 B1 hle ⊢
  obtain ⟨w2, hc2, r2, b2⟩ := copy_at R1.out 0 N N rom (by omega) (by simp; omega)
  have R2 : Hid (Row w2 B (pad rom.data.toList N)) := by have := r2; rw [replicate_over N _ (by rw [rom_list]; omega)] at this; exact this
  have B2 : Hid (Below B w w2) := b2 B w (Nat.le_refl _) B1.out
  clear r2 b2 R1 B1 hm1 HM2 ct ck cl
  go_upto_region 9 with fail
  clear hc2
  have HT : Hid ((pad title.data.toList 15).length = 15) := pad_length _ _ (by rw [rom_list]; omega)
  have HPL : Hid ((pad rom.data.toList N).length = N) := pad_length _ _ (by rw [rom_list]; omega)
  go_wp2_with fail
  go_loopw [11] (fun i wr => ∃ k : Nat, k ≤ 15 ∧ i = .int .i64 k ∧ Hid (Row wr B (over (pad rom.data.toList N) 52 ((pad title.data.toList 15).take k))) ∧ Hid (Below B w wr)) (fun i _ => 15 - (intOf i).toNat)
  case atStart => exact ⟨0, by omega, rfl, by rw [List.take_zero, over_nil]; exact R2, B2⟩
  case round =>
  clear R2 B2
  obtain ⟨k, hk, rfl, RK, BK⟩ := hrel
  have ol : ∀ j, j ≤ 15 → (over (pad rom.data.toList N) 52 ((pad title.data.toList 15).take j)).length = N := fun j hj => by
    rw [over_length _ _ _ (by rw [HPL.out, List.length_take, HT.out]; omega), HPL.out]
  have OL : Hid (∀ j, j ≤ 15 → (over (pad rom.data.toList N) 52 ((pad title.data.toList 15).take j)).length = N) := ol
  clear ol
  by_cases hlt : k < 15
  · have tn : ((52 : Int) + (k : Int)).toNat = 52 + k := by omega
    have hwk : IntKind.i64.wrap ((52 : Int) + (k : Int)) = 52 + k := by rw [IntKind.wrap_i64]; omega
    obtain ⟨x0, g0⟩ : ∃ x0, wr.cell? ⟨B, 52 + k, none⟩ = some x0 := ⟨_, cell_at RK.out (52 + k) (by rw [OL.out k hk]; omega)⟩
    have q0 := free_at RK.out (52 + k)
    have HS := over_set (pad rom.data.toList N) 52 k (pad title.data.toList 15) (by rw [HT.out]; omega) (by rw [HPL.out]; omega)
    have HS : Hid (_ = _) := HS
    have R1 := put_at RK.out (52 + k) (by rw [OL.out k hk]; omega) 0 (by omega) (by omega)
    by_cases hk2 : k < title.size
    · obtain ⟨x1, g1⟩ : ∃ x1, (wr.setCell ⟨B, 52 + k, none⟩ (.int .u8 0)).cell? ⟨B, 52 + k, none⟩ = some x1 := ⟨_, cell_at R1 (52 + k) (by rw [List.length_set, OL.out k hk]; omega)⟩
      have q1 := free_at R1 (52 + k)
      have hbt := (title[k]).toNat_lt
      have R2 : Hid (Row ((wr.setCell ⟨B, 52 + k, none⟩ (.int .u8 0)).setCell ⟨B, 52 + k, none⟩ (.int .u8 (title[k].toNat : Int))) B (over (pad rom.data.toList N) 52 ((pad title.data.toList 15).take (k + 1)))) := by
        have r := put_at R1 (52 + k) (by rw [List.length_set, OL.out k hk]; omega) (title[k].toNat : Int) (by omega) (by omega)
        rw [List.set_set, u8_nat] at r
        have e : (pad title.data.toList 15)[k]'(by rw [HT.out]; omega) = title[k] := by
          rw [pad_get_in (by rw [rom_list]; omega) (by rw [rom_list]; omega)]
          simp [ByteArray.getElem_eq_getElem_data]
        have e2 : (over (pad rom.data.toList N) 52 ((pad title.data.toList 15).take k)).set (52 + k) title[k] = over (pad rom.data.toList N) 52 ((pad title.data.toList 15).take (k + 1)) := by rw [← e]; exact HS.out
        rw [e2] at r
        exact r
      clear R1 HS OL
      go_wp2_with fail
      go_roundw
      case rel => exact ⟨k + 1, by omega, by go_num, R2, (BK.out.setCell (Nat.le_refl _) _).setCell (Nat.le_refl _) _⟩
      case measure => simp [intOf]; omega
    · have R2 : Hid (Row (wr.setCell ⟨B, 52 + k, none⟩ (.int .u8 0)) B (over (pad rom.data.toList N) 52 ((pad title.data.toList 15).take (k + 1)))) := by
        have r := R1
        have e : (pad title.data.toList 15)[k]'(by rw [HT.out]; omega) = 0 := pad_get_out (by rw [rom_list]; omega) (by rw [rom_list]; omega) hlt
        have e2 : (over (pad rom.data.toList N) 52 ((pad title.data.toList 15).take k)).set (52 + k) 0 = over (pad rom.data.toList N) 52 ((pad title.data.toList 15).take (k + 1)) := by rw [← e]; exact HS.out
        rw [show u8 0 = (0 : UInt8) from rfl, e2] at r
        exact r
      have hk3 : ¬ (k : Int) < (title.size : Int) := by omega
      clear R1 HS OL
      go_wp2_with fail
      go_roundw
      case rel => exact ⟨k + 1, by omega, by go_num, R2, BK.out.setCell (Nat.le_refl _) _⟩
      case measure => simp [intOf]; omega
  have R3 : Hid (Row wr B (f1 rom title)) := by
    have r := RK.out
    rw [List.take_of_length_le (by rw [HT.out]; omega), ← HX.out] at r
    exact r
  have B3 := BK
  clear RK BK OL HT HPL HX
  rename World => w3
  have F1 : Hid ((f1 rom title).length = N) := HL1
  generalize f1 rom title = L1 at R3 F1 HF2 HL1
  clear HL1
  have g71 := cell_at R3.out 71 (by rw [F1.out]; omega)
  have q71 := free_at R3.out 71
  have hk : IntKind.u8.wrap kind = kind := wrapU8 (by omega) (by omega)
  go_upto_region 16 with fail
  have R4 : Hid (Row (w3.setCell ⟨B, 71, none⟩ (.int .u8 kind)) B (L1.set 71 (u8 kind))) := put_at R3.out 71 (by rw [F1.out]; omega) kind (by omega) (by omega)
  have B4 : Hid (Below B w (w3.setCell ⟨B, 71, none⟩ (.int .u8 kind))) := B3.out.setCell (Nat.le_refl _) _
  clear g71 q71 R3 B3 hk
  generalize w3.setCell ⟨B, 71, none⟩ (.int .u8 kind) = w4 at R4 B4 ⊢
  have g72 := cell_at R4.out 72 (by rw [List.length_set, F1.out]; omega)
  have q72 := free_at R4.out 72
  obtain ⟨t0, t1⟩ := HT2.out
  have hk : IntKind.u8.wrap tv = tv := wrapU8 (by omega) (by omega)
  go_upto_region 17 with (first | (go_at_call 30; refine (cc _).mono ?_; rintro e w' ⟨rfl, hw⟩; have hw := hw.symm; subst hw) | fail)
  have R5 : Hid (Row (w4.setCell ⟨B, 72, none⟩ (.int .u8 tv)) B (f2 rom title kind)) := by rw [HF2.out]; exact put_at R4.out 72 (by rw [List.length_set, F1.out]; omega) tv (by omega) (by omega)
  have B5 : Hid (Below B w (w4.setCell ⟨B, 72, none⟩ (.int .u8 tv))) := B4.out.setCell (Nat.le_refl _) _
  have F5 : Hid ((f2 rom title kind).length = N) := by show _ = _; rw [HF2.out, List.length_set, List.length_set]; exact F1.out
  clear g72 q72 R4 B4 hk HF2 F1 t0 t1 cc
  generalize w4.setCell ⟨B, 72, none⟩ (.int .u8 tv) = w5 at R5 B5 ⊢
  have HV : Hid (fixedV rom title kind = ⟨(f4 (f3 (f2 rom title kind))).toArray⟩) := rfl
  generalize f2 rom title kind = L2 at R5 F5 HV
  have s5 := str_at R5.out N N F5.out
  have hz5 : (⟨L2.toArray⟩ : ByteArray).size ≤ maxLen := by rw [size_list, F5.out]; unfold maxLen; omega
  have ch := fun w => specHead_any ⟨L2.toArray⟩ w hz5
  have hb5 : romB (⟨L2.toArray⟩ : ByteArray).size = true := by rw [size_list, F5.out]; exact HR.out
  obtain ⟨v0, v1⟩ := head_bd hb5
  have HF3 : Hid (f3 L2 = L2.set 77 (u8 (headV ⟨L2.toArray⟩))) := rfl
  generalize headV ⟨L2.toArray⟩ = hv at ch v0 v1 HF3
  generalize (⟨L2.toArray⟩ : ByteArray) = S2 at s5 ch
  clear hz5 hb5
  have hk : IntKind.u8.wrap hv = hv := wrapU8 (by omega) (by omega)
  have g77 := cell_at R5.out 77 (by rw [F5.out]; omega)
  have q77 := free_at R5.out 77
  go_upto_region 18 with (first | (go_at_call 14; refine (ch _).mono ?_; rintro e w' ⟨rfl, hw⟩; have hw := hw.symm; subst hw) | fail)
  have R7 : Hid (Row (w5.setCell ⟨B, 77, none⟩ (.int .u8 hv)) B (f3 L2)) := by rw [HF3.out]; exact put_at R5.out 77 (by rw [F5.out]; omega) hv (by omega) (by omega)
  have B7 : Hid (Below B w (w5.setCell ⟨B, 77, none⟩ (.int .u8 hv))) := B5.out.setCell (Nat.le_refl _) _
  have F7 : Hid ((f3 L2).length = N) := by show _ = _; rw [HF3.out, List.length_set]; exact F5.out
  clear g77 q77 R5 B5 hk HF3 F5 v0 v1 ch s5
  generalize w5.setCell ⟨B, 77, none⟩ (.int .u8 hv) = w7 at R7 B7 ⊢
  generalize f3 L2 = L3 at R7 F7 HV
  have s7 := str_at R7.out N N F7.out
  have hz7 : (⟨L3.toArray⟩ : ByteArray).size ≤ maxLen := by rw [size_list, F7.out]; unfold maxLen; omega
  have ch := fun w => specWhole_any ⟨L3.toArray⟩ w hz7
  have hb7 : romB (⟨L3.toArray⟩ : ByteArray).size = true := by rw [size_list, F7.out]; exact HR.out
  obtain ⟨v0, v1⟩ := whole_bd hb7
  have HF4 : Hid (f4 L3 = (L3.set 78 (u8 (wholeV ⟨L3.toArray⟩ / 256))).set 79 (u8 (wholeV ⟨L3.toArray⟩ % 256))) := rfl
  generalize wholeV ⟨L3.toArray⟩ = hv at ch v0 v1 HF4
  generalize (⟨L3.toArray⟩ : ByteArray) = S3 at s7 ch
  clear hz7 hb7
  go_upto_region 19 with (first | (go_at_call 16; refine (ch _).mono ?_; rintro e w' ⟨rfl, hw⟩; have hw := hw.symm; subst hw) | fail)
  have g78 := cell_at R7.out 78 (by rw [F7.out]; omega)
  have q78 := free_at R7.out 78
  have R9 : Hid (Row (w7.setCell ⟨B, 78, none⟩ (.int .u8 (hv / 256))) B (L3.set 78 (u8 (hv / 256)))) := put_at R7.out 78 (by rw [F7.out]; omega) (hv / 256) (by omega) (by omega)
  have g79 := cell_at R9.out 79 (by rw [List.length_set, F7.out]; omega)
  have q79 := free_at R9.out 79
  have hk : IntKind.u8.wrap (hv / 256) = hv / 256 := wrapU8 (by omega) (by omega)
  have hk2 : IntKind.u8.wrap hv = hv % 256 := by rw [IntKind.wrap_u8]
  go_upto_region 21 with fail
  have R10 : Hid (Row ((w7.setCell ⟨B, 78, none⟩ (.int .u8 (hv / 256))).setCell ⟨B, 79, none⟩ (.int .u8 (hv % 256))) B (f4 L3)) := by rw [HF4.out]; exact put_at R9.out 79 (by rw [List.length_set, F7.out]; omega) (hv % 256) (by omega) (by omega)
  have B10 : Hid (Below B w ((w7.setCell ⟨B, 78, none⟩ (.int .u8 (hv / 256))).setCell ⟨B, 79, none⟩ (.int .u8 (hv % 256)))) := (B7.out.setCell (Nat.le_refl _) _).setCell (Nat.le_refl _) _
  have F10 : Hid ((f4 L3).length = N) := by show _ = _; rw [HF4.out, List.length_set, List.length_set]; exact F7.out
  clear g78 q78 g79 q79 R9 R7 B7 hk hk2 HF4 v0 v1 ch s7 F7
  generalize (w7.setCell ⟨B, 78, none⟩ (.int .u8 (hv / 256))).setCell ⟨B, 79, none⟩ (.int .u8 (hv % 256)) = w10 at R10 B10 ⊢
  generalize f4 L3 = L4 at R10 F10 HV
  have s10 := str_at R10.out N N F10.out
  go_wp2
  go_ret2
  exact ⟨by rw [HV.out]; rfl, by rw [hB]; exact B10.out⟩
set_option maxHeartbeats 2000000 in
theorem specFixed_no (rom title : ByteArray) (kind : Int) (w : World) (h : fixB rom title kind = false) (hs : rom.size ≤ maxLen) (ht : title.size ≤ maxLen) :
    Calls Tryd.prog 8 #[.string rom, .string title, .int .i64 kind] w fun e w' => e = .returned (.tuple #[.string ⟨#[]⟩, .bool false]) ∧ w' = w := by
  have ct := fun w => l12Title_any title w ht
  have cl := fun w => l1In_any ((rom.size : Int) / 256) 1 16 w
  have ck := fun w => l1In_any kind 0 2 w
  unfold maxLen at hs ht
  by_cases h1 : (rom.size : Int) % 256 = 0
  · have m1 : ((rom.size : Int) % 256 != 0) = false := by simpa using h1
    have hr : (inB ((rom.size : Int) / 256) 1 16 && (title15 title && inB kind 0 2)) = false := by
      unfold fixB size1 at h
      rw [← h]
      congr 1
      unfold inB
      rw [Bool.eq_iff_iff, decide_eq_true_eq, decide_eq_true_eq]
      omega
    clear h
    generalize inB ((rom.size : Int) / 256) 1 16 = lb at cl hr
    generalize title15 title = tb at ct hr
    generalize inB kind 0 2 = kb at ck hr
    cases lb
    · clear hr
      go_enter Tryd.func8, Tryd.ntmps8
      go_wp2_with (first | (go_at_call_of 28 kind; refine (ck _).mono ?_; rintro e w' ⟨rfl, hw⟩; have hw := hw.symm; subst hw) | (go_at_call 28; refine (cl _).mono ?_; rintro e w' ⟨rfl, hw⟩; have hw := hw.symm; subst hw) | (go_at_call 29; refine (ct _).mono ?_; rintro e w' ⟨rfl, hw⟩; have hw := hw.symm; subst hw) | fail)
      all_goals go_ret2
      all_goals exact ⟨rfl, rfl⟩
    cases tb
    · clear hr
      go_enter Tryd.func8, Tryd.ntmps8
      go_wp2_with (first | (go_at_call_of 28 kind; refine (ck _).mono ?_; rintro e w' ⟨rfl, hw⟩; have hw := hw.symm; subst hw) | (go_at_call 28; refine (cl _).mono ?_; rintro e w' ⟨rfl, hw⟩; have hw := hw.symm; subst hw) | (go_at_call 29; refine (ct _).mono ?_; rintro e w' ⟨rfl, hw⟩; have hw := hw.symm; subst hw) | fail)
      all_goals go_ret2
      all_goals exact ⟨rfl, rfl⟩
    · obtain rfl : kb = false := by simpa using hr
      clear hr
      go_enter Tryd.func8, Tryd.ntmps8
      go_wp2_with (first | (go_at_call_of 28 kind; refine (ck _).mono ?_; rintro e w' ⟨rfl, hw⟩; have hw := hw.symm; subst hw) | (go_at_call 28; refine (cl _).mono ?_; rintro e w' ⟨rfl, hw⟩; have hw := hw.symm; subst hw) | (go_at_call 29; refine (ct _).mono ?_; rintro e w' ⟨rfl, hw⟩; have hw := hw.symm; subst hw) | fail)
      all_goals go_ret2
      all_goals exact ⟨rfl, rfl⟩
  · have m1 : ((rom.size : Int) % 256 != 0) = true := by simpa using h1
    clear h
    go_enter Tryd.func8, Tryd.ntmps8
    go_wp2_with (first | (go_at_call_of 28 kind; refine (ck _).mono ?_; rintro e w' ⟨rfl, hw⟩; have hw := hw.symm; subst hw) | (go_at_call 28; refine (cl _).mono ?_; rintro e w' ⟨rfl, hw⟩; have hw := hw.symm; subst hw) | (go_at_call 29; refine (ct _).mono ?_; rintro e w' ⟨rfl, hw⟩; have hw := hw.symm; subst hw) | fail)
    all_goals go_ret2
    all_goals exact ⟨rfl, rfl⟩
theorem specFixed_any (rom title : ByteArray) (kind : Int) (w : World) (hs : rom.size ≤ maxLen) (ht : title.size ≤ maxLen) :
    Calls Tryd.prog 8 #[.string rom, .string title, .int .i64 kind] w fun e w' => e = .returned (outV rom title kind) ∧ Below w.heap.size w w' := by
  unfold outV
  cases h : fixB rom title kind with
  | true => rw [if_pos rfl]; exact specFixed_yes rom title kind w h
  | false =>
    rw [if_neg (by decide)]
    refine (specFixed_no rom title kind w h hs ht).mono ?_
    rintro e w' ⟨rfl, rfl⟩
    exact ⟨rfl, Below.refl _ _⟩
end Go.Proofs.YtpnaohonadoofaaDoor.Fixs
