/-
  A contract of ours for impl.Fixed, at every argument.
-/
import Derived.Test.YtpnaohonadoofaaDoorFixb
import Derived.Deep.Cut
import Derived.Deep.DeepCutAuto
namespace Go.Proofs.YtpnaohonadoofaaDoor.Fixi
open Go.ChangeShapes Go.WideShapes Go.ChangeAt Go.RowKit
open Signed (inB ret_int ret_bool l1In_any)
open Sums Fixa Titl Fixb
set_option linter.unusedVariables false
set_option maxRecDepth 20000

def size1 (n : Nat) : Bool := decide (n % 256 = 0 ∧ 256 ≤ n ∧ n ≤ 4096)
def fixB (rom title : ByteArray) (kind : Int) : Bool := size1 rom.size && (title15 title && inB kind 0 2)
/-- How many bytes a fixed rom has. -/
def lenV (n : Nat) : Nat := (roomV ((n : Int) / 256) * 256).toNat
def pad (l : List UInt8) (n : Nat) : List UInt8 := l ++ List.replicate (n - l.length) 0
def f1 (rom title : ByteArray) : List UInt8 := over (pad rom.data.toList (lenV rom.size)) 52 (pad title.data.toList 15)
def f2 (rom title : ByteArray) (kind : Int) : List UInt8 := ((f1 rom title).set 71 (u8 kind)).set 72 (u8 (timesV ((rom.size : Int) / 256)))
def f3 (l : List UInt8) : List UInt8 := l.set 77 (u8 (headV ⟨l.toArray⟩))
def f4 (l : List UInt8) : List UInt8 := (l.set 78 (u8 (wholeV ⟨l.toArray⟩ / 256))).set 79 (u8 (wholeV ⟨l.toArray⟩ % 256))
def fixedV (rom title : ByteArray) (kind : Int) : ByteArray := ⟨(f4 (f3 (f2 rom title kind))).toArray⟩
theorem size1_yes {n : Nat} (h : size1 n = true) : n % 256 = 0 ∧ 256 ≤ n ∧ n ≤ 4096 := of_decide_eq_true h
theorem len_bd {n : Nat} (h : size1 n = true) : romB (lenV n) = true ∧ n ≤ lenV n ∧ lenV n ≤ 4096 ∧ 512 ≤ lenV n ∧ (lenV n : Int) = roomV ((n : Int) / 256) * 256 := by
  have h := size1_yes h
  have hr : 2 ≤ roomV ((n : Int) / 256) ∧ roomV ((n : Int) / 256) ≤ 16 ∧ (n : Int) / 256 ≤ roomV ((n : Int) / 256) := by
    unfold roomV
    split
    · omega
    split
    · omega
    split
    · omega
    · omega
  have e : (lenV n : Int) = roomV ((n : Int) / 256) * 256 := by unfold lenV; omega
  refine ⟨decide_eq_true ?_, ?_, ?_, ?_, e⟩ <;> omega
theorem pad_length (l : List UInt8) (n : Nat) (h : l.length ≤ n) : (pad l n).length = n := by unfold pad; simp; omega
theorem rom_list (rom : ByteArray) : rom.data.toList.length = rom.size := Array.length_toList
theorem f1_length {rom title : ByteArray} {kind : Int} (h : fixB rom title kind = true) : (f1 rom title).length = lenV rom.size := by
  unfold fixB title15 at h
  simp only [Bool.and_eq_true, decide_eq_true_eq] at h
  have hl := len_bd h.1
  unfold f1
  have e1 : (pad rom.data.toList (lenV rom.size)).length = lenV rom.size := pad_length _ _ (by rw [rom_list]; omega)
  have e2 : (pad title.data.toList 15).length = 15 := pad_length _ _ (by rw [rom_list]; omega)
  rw [over_length _ _ _ (by rw [e1, e2]; omega), e1]
theorem replicate_over (n : Nat) (s : List UInt8) (h : s.length ≤ n) : over (List.replicate n 0) 0 s = pad s n := by
  unfold over pad
  simp
theorem head_bd {s : ByteArray} (h : romB s.size = true) : 0 ≤ headV s ∧ headV s ≤ 255 := by unfold headV; rw [if_pos h]; omega
theorem whole_bd {s : ByteArray} (h : romB s.size = true) : 0 ≤ wholeV s ∧ wholeV s ≤ 65535 := by unfold wholeV; rw [if_pos h]; omega
theorem size_list (l : List UInt8) : (⟨l.toArray⟩ : ByteArray).size = l.length := rfl
/-- impl.noughts at 0 .. 15. -/
def Z (n : Nat) : ByteArray := ⟨(List.replicate n (0 : UInt8)).toArray⟩
theorem Z_size (n : Nat) : (Z n).size = n := by simp [Z, ByteArray.size]
theorem noughts_any (n : Nat) (hn : n ≤ 5000) (w : World) : Calls Tryd.prog 27 #[.int .i64 (n : Int)] w fun e w' => e = .returned (.string (Z n)) ∧ Below w.heap.size w w' := by
  obtain ⟨o, h⟩ := made n hn
  have h1 : ∀ u : World, (Instr.makeSlice 22 (.int .i64 (n : Int)) (.int .i64 (n : Int))).run Tryd.prog u = .ok (.slice (some ⟨u.heap.size, 0, none⟩) n n) (u.alloc o) := fun u => (h u).1
  have h2 : ∀ u : World, (convert 22 9 (.slice (some ⟨u.heap.size, 0, none⟩) n n)).run Tryd.prog (u.alloc o) = .ok (.string (Z n)) (u.alloc o) := fun u => str_at (h u).2 n n (by simp)
  clear h
  go_enter Tryd.func27, Tryd.ntmps27
  go_wp2
  go_ret
  exact ⟨rfl, (Below.refl _ _).alloc (Nat.le_refl _) _⟩
theorem title_pad (title : ByteArray) (h : title.size ≤ 15) : (title ++ Z (15 - title.size)).data.toList = pad title.data.toList 15 ∧ (title ++ Z (15 - title.size)).size = 15 := by
  constructor
  · unfold pad
    rw [rom_list]
    simp [ByteArray.data_append, Z]
  · rw [ByteArray.size_append, Z_size]; omega
theorem wrapU8 {x : Int} (h0 : 0 ≤ x) (h1 : x ≤ 255) : IntKind.u8.wrap x = x := by rw [IntKind.wrap_u8]; omega
theorem drew_below {a b : World} (h : Below a.drew.heap.size a.drew b) : Below a.heap.size a b := ((Below.refl a.heap.size a).drew).trans h
theorem title_step {w w2 wk : World} {B N : Nat} {l : List UInt8} {s : ByteArray} {l' : List UInt8} (R2 : Row w2 B l) (B2 : Below B w w2) (bk : Below w2.heap.size w2 wk) (hl : l.length = N) (hN : 512 ≤ N) (hs : s.size = 15) (he : over l 52 s.data.toList = l') :
    ∃ w3, (∀ ty, (Builtin.copy_ #[22, 9] ty #[.slice (some ⟨B, 52, none⟩) (N - 52) (N - 52), .string s]).run Tryd.prog wk = .ok (goInt s.size) w3) ∧ Hid (Row w3 B l') ∧ Hid (Below B w w3) := by
  have hlt := R2.lt
  obtain ⟨w3, hc3, r3, b3⟩ := copy_at (R2.below bk) 52 (N - 52) (N - 52) s (by omega) (by omega)
  rw [he] at r3
  exact ⟨w3, hc3, r3, b3 B w (Nat.le_refl _) (B2.trans (bk.mono (by omega)))⟩
set_option maxHeartbeats 2000000 in
theorem implFixed_yes (rom title : ByteArray) (kind : Int) (w : World) (h : fixB rom title kind = true) :
    Calls Tryd.prog 7 #[.string rom, .string title, .int .i64 kind] w fun e w' => e = .returned (.tuple #[.string (fixedV rom title kind), .bool true]) ∧ Below w.heap.size w w' := by
  have hf := h
  unfold fixB title15 at hf
  simp only [Bool.and_eq_true, decide_eq_true_eq] at hf
  obtain ⟨hs1, ⟨ht1, ht2⟩, hk1⟩ := hf
  obtain ⟨s1, s2, s3⟩ := size1_yes hs1
  obtain ⟨l0, l1, l2, l3, l4⟩ := len_bd hs1
  have HL1 : Hid ((f1 rom title).length = lenV rom.size) := f1_length h
  have he : rom.toList.isEmpty = false := by
    rw [ByteArray.toList_eq]; cases e : rom.data.toList with
    | nil => exact absurd (by have := congrArg List.length e; rw [Array.length_toList] at this; exact this) (show ¬ rom.size = 0 by omega)
    | cons _ _ => rfl
  have ct := fun w => isTitle_any title w (by unfold maxLen; omega)
  rw [ht1] at ct
  have ck := fun w => isCartKind_any kind w
  rw [hk1] at ck
  have cb := fun w => banksOf_any rom w (by unfold maxLen; omega)
  have cd := fun w => doubledFor_any ((rom.size : Int) / 256) w (by omega)
  have cr := fun w => room_any ((rom.size : Int) / 256) w
  obtain ⟨o, hm⟩ := made (lenV rom.size) (by omega)
  have hm1 := fun u => (hm u).1
  have HM2 : Hid (∀ u : World, Row (u.alloc o) u.heap.size (List.replicate (lenV rom.size) 0)) := fun u => (hm u).2
  have m1 : (rom.size : Int) % 256 = 0 := by omega
  have m2 : ¬ (4096 : Int) < (rom.size : Int) := by omega
  have d2 : decide ((4096 : Int) < (rom.size : Int)) = false := decide_eq_false m2
  have m3 : ¬ (15 : Int) < (title.size : Int) := by omega
  obtain ⟨k0, k1⟩ := of_decide_eq_true hk1
  have HT2 : Hid (0 ≤ timesV ((rom.size : Int) / 256) ∧ timesV ((rom.size : Int) / 256) ≤ 3) := by rcases times_cases ((rom.size : Int) / 256) with x | x | x | x <;> exact ⟨by omega, by omega⟩
  have HF2 : Hid (f2 rom title kind = ((f1 rom title).set 71 (u8 kind)).set 72 (u8 (timesV ((rom.size : Int) / 256)))) := rfl
  have HX : Hid (f1 rom title = over (pad rom.data.toList (lenV rom.size)) 52 (pad title.data.toList 15)) := rfl
  have hw : wrap64 (roomV ((rom.size : Int) / 256) * 256) = (lenV rom.size : Int) := by rw [← l4]; unfold wrap64; omega
  have HR : Hid (romB (lenV rom.size) = true) := l0
  generalize timesV ((rom.size : Int) / 256) = tv at *
  generalize roomV ((rom.size : Int) / 256) = rv at *
  generalize hN : lenV rom.size = N at *
  rw [l4] at hm1
  clear hm hs1 ht1 hk1 h s1 hN hw
  go_enter Tryd.func7, Tryd.ntmps7
  go_upto_region 7 with (first | (go_at_call 22; refine (ct _).mono ?_; rintro e w' ⟨rfl, hw⟩; have hw := hw.symm; subst hw) | (go_at_call 23; refine (ck _).mono ?_; rintro e w' ⟨rfl, hw⟩; have hw := hw.symm; subst hw) | (go_at_call 25; refine (cb _).mono ?_; rintro e w' ⟨rfl, hw⟩; have hw := hw.symm; subst hw) | (go_at_call 24; refine (cd _).mono ?_; rintro e w' ⟨rfl, hw⟩; have hw := hw.symm; subst hw) | (go_at_call 26; refine (cr _).mono ?_; rintro e w' ⟨rfl, hw⟩; have hw := hw.symm; subst hw) | fail)
  have R1 : Hid (Row (w.alloc o) w.heap.size (List.replicate N 0)) := HM2.out w
  have B1 : Hid (Below w.heap.size w (w.alloc o)) := (Below.refl _ _).alloc (Nat.le_refl _) _
  have hle := R1.out.lt
  generalize w.alloc o = w1 at R1 B1 hle ⊢
  generalize hB : w.heap.size = B at R1 B1 hle ⊢
  obtain ⟨w2, hc2, r2, b2⟩ := copy_at R1.out 0 N N rom (by omega) (by simp; omega)
  have R2 : Hid (Row w2 B (pad rom.data.toList N)) := by have := r2; rw [replicate_over N _ (by rw [rom_list]; omega)] at this; exact this
  have B2 : Hid (Below B w w2) := b2 B w (Nat.le_refl _) B1.out
  clear r2 b2 R1 B1 hm1 HM2 ct ck cb cd cr
  go_upto_region 8 with fail
  have cn := fun w => noughts_any (15 - title.size) (by omega) w
  rw [show ((15 - title.size : Nat) : Int) = 15 - (title.size : Int) by omega] at cn
  obtain ⟨tp1, tp2⟩ := title_pad title ht2
  have HP : Hid ((title ++ Z (15 - title.size)).data.toList = pad title.data.toList 15) := tp1
  have zs := Z_size (15 - title.size)
  generalize Z (15 - title.size) = ZZ at cn HP tp2 zs
  have HS : Hid ((title ++ ZZ).size = 15) := tp2
  have HO : Hid (over (pad rom.data.toList N) 52 (title ++ ZZ).data.toList = f1 rom title) := by show _ = _; rw [HP.out]; exact HX.out.symm
  have HLN : Hid ((pad rom.data.toList N).length = N) := pad_length _ _ (by rw [rom_list]; omega)
  have hkw : IntKind.i64.wrap (15 - (title.size : Int)) = 15 - (title.size : Int) := by rw [IntKind.wrap_i64]; omega
  clear tp1 HP
  go_cut [9] (fun v wx => v = .slice (some ⟨B, 0, none⟩) N N ∧ Hid (Row wx B (f1 rom title)) ∧ Hid (Below B w wx))
  case first =>
    go_region_with (first
      | (go_at_call 27; (refine (cn _).mono ?_; rintro e wk ⟨rfl, bk⟩; obtain ⟨w3, hc3, R3, B3⟩ := title_step R2.out B2.out (by first | exact bk | exact drew_below bk) HLN.out l3 HS.out HO.out; rw [tp2] at hc3; clear bk))
      | fail)
    all_goals
      go_wp2_with fail
      go_meet
      exact ⟨rfl, R3, B3⟩
  case rest =>
  obtain ⟨rfl, R3, B3⟩ := hcut
  rename World => w3
  clear R2 B2 hc2 HO HLN HS cn hkw tp2 zs HX
  have F1 : Hid ((f1 rom title).length = N) := HL1
  generalize f1 rom title = L1 at R3 F1 HF2 HL1
  clear HL1
  have g71 := cell_at R3.out 71 (by rw [F1.out]; omega)
  have q71 := free_at R3.out 71
  have hk : IntKind.u8.wrap kind = kind := wrapU8 (by omega) (by omega)
  go_upto_region 10 with fail
  have R4 : Hid (Row (w3.setCell ⟨B, 71, none⟩ (.int .u8 kind)) B (L1.set 71 (u8 kind))) := put_at R3.out 71 (by rw [F1.out]; omega) kind (by omega) (by omega)
  have B4 : Hid (Below B w (w3.setCell ⟨B, 71, none⟩ (.int .u8 kind))) := B3.out.setCell (Nat.le_refl _) _
  clear g71 q71 R3 B3 hk
  generalize w3.setCell ⟨B, 71, none⟩ (.int .u8 kind) = w4 at R4 B4 ⊢
  have g72 := cell_at R4.out 72 (by rw [List.length_set, F1.out]; omega)
  have q72 := free_at R4.out 72
  obtain ⟨t0, t1⟩ := HT2.out
  have hk : IntKind.u8.wrap tv = tv := wrapU8 (by omega) (by omega)
  go_upto_region 11 with fail
  have R5 : Hid (Row (w4.setCell ⟨B, 72, none⟩ (.int .u8 tv)) B (f2 rom title kind)) := by rw [HF2.out]; exact put_at R4.out 72 (by rw [List.length_set, F1.out]; omega) tv (by omega) (by omega)
  have B5 : Hid (Below B w (w4.setCell ⟨B, 72, none⟩ (.int .u8 tv))) := B4.out.setCell (Nat.le_refl _) _
  have F5 : Hid ((f2 rom title kind).length = N) := by show _ = _; rw [HF2.out, List.length_set, List.length_set]; exact F1.out
  clear g72 q72 R4 B4 hk HF2 F1 t0 t1
  generalize w4.setCell ⟨B, 72, none⟩ (.int .u8 tv) = w5 at R5 B5 ⊢
  have HV : Hid (fixedV rom title kind = ⟨(f4 (f3 (f2 rom title kind))).toArray⟩) := rfl
  generalize f2 rom title kind = L2 at R5 F5 HV
  have s5 := str_at R5.out N N F5.out
  have hz5 : (⟨L2.toArray⟩ : ByteArray).size ≤ maxLen := by rw [size_list, F5.out]; unfold maxLen; omega
  have ch := fun w => implHead_any ⟨L2.toArray⟩ w hz5
  have hb5 : romB (⟨L2.toArray⟩ : ByteArray).size = true := by rw [size_list, F5.out]; exact HR.out
  obtain ⟨v0, v1⟩ := head_bd hb5
  have HF3 : Hid (f3 L2 = L2.set 77 (u8 (headV ⟨L2.toArray⟩))) := rfl
  generalize headV ⟨L2.toArray⟩ = hv at ch v0 v1 HF3
  generalize (⟨L2.toArray⟩ : ByteArray) = S2 at s5 ch
  clear hz5 hb5
  have hk : IntKind.u8.wrap hv = hv := wrapU8 (by omega) (by omega)
  go_upto_region 12 with (first | (go_at_call 13; refine (ch _).mono ?_; rintro e w6 ⟨rfl, b6⟩; have R6 : Hid (Row w6 B L2) := R5.out.below b6; have B6 : Hid (Below B w w6) := B5.out.trans (b6.mono (Nat.le_of_lt R5.out.lt)); have g77 := cell_at R6.out 77 (by rw [F5.out]; omega); have q77 := free_at R6.out 77; clear b6) | fail)
  rename World => w6
  have R7 : Hid (Row (w6.setCell ⟨B, 77, none⟩ (.int .u8 hv)) B (f3 L2)) := by rw [HF3.out]; exact put_at R6.out 77 (by rw [F5.out]; omega) hv (by omega) (by omega)
  have B7 : Hid (Below B w (w6.setCell ⟨B, 77, none⟩ (.int .u8 hv))) := B6.out.setCell (Nat.le_refl _) _
  have F7 : Hid ((f3 L2).length = N) := by show _ = _; rw [HF3.out, List.length_set]; exact F5.out
  clear g77 q77 R6 B6 R5 B5 hk HF3 F5 v0 v1 ch s5
  generalize w6.setCell ⟨B, 77, none⟩ (.int .u8 hv) = w7 at R7 B7 ⊢
  generalize f3 L2 = L3 at R7 F7 HV
  have s7 := str_at R7.out N N F7.out
  have hz7 : (⟨L3.toArray⟩ : ByteArray).size ≤ maxLen := by rw [size_list, F7.out]; unfold maxLen; omega
  have ch := fun w => implWhole_any ⟨L3.toArray⟩ w hz7
  have hb7 : romB (⟨L3.toArray⟩ : ByteArray).size = true := by rw [size_list, F7.out]; exact HR.out
  obtain ⟨v0, v1⟩ := whole_bd hb7
  have HF4 : Hid (f4 L3 = (L3.set 78 (u8 (wholeV ⟨L3.toArray⟩ / 256))).set 79 (u8 (wholeV ⟨L3.toArray⟩ % 256))) := rfl
  generalize wholeV ⟨L3.toArray⟩ = hv at ch v0 v1 HF4
  generalize (⟨L3.toArray⟩ : ByteArray) = S3 at s7 ch
  clear hz7 hb7
  go_upto_region 13 with (first | (go_at_call 15; refine (ch _).mono ?_; rintro e w8 ⟨rfl, b8⟩; have R8 : Hid (Row w8 B L3) := R7.out.below b8; have B8 : Hid (Below B w w8) := B7.out.trans (b8.mono (Nat.le_of_lt R7.out.lt)); clear b8) | fail)
  rename World => w8
  have g78 := cell_at R8.out 78 (by rw [F7.out]; omega)
  have q78 := free_at R8.out 78
  have R9 : Hid (Row (w8.setCell ⟨B, 78, none⟩ (.int .u8 (hv / 256))) B (L3.set 78 (u8 (hv / 256)))) := put_at R8.out 78 (by rw [F7.out]; omega) (hv / 256) (by omega) (by omega)
  have g79 := cell_at R9.out 79 (by rw [List.length_set, F7.out]; omega)
  have q79 := free_at R9.out 79
  have hk : IntKind.u8.wrap (hv / 256) = hv / 256 := wrapU8 (by omega) (by omega)
  have hk2 : IntKind.u8.wrap hv = hv % 256 := by rw [IntKind.wrap_u8]
  go_upto_region 14 with fail
  have R10 : Hid (Row ((w8.setCell ⟨B, 78, none⟩ (.int .u8 (hv / 256))).setCell ⟨B, 79, none⟩ (.int .u8 (hv % 256))) B (f4 L3)) := by rw [HF4.out]; exact put_at R9.out 79 (by rw [List.length_set, F7.out]; omega) (hv % 256) (by omega) (by omega)
  have B10 : Hid (Below B w ((w8.setCell ⟨B, 78, none⟩ (.int .u8 (hv / 256))).setCell ⟨B, 79, none⟩ (.int .u8 (hv % 256)))) := (B8.out.setCell (Nat.le_refl _) _).setCell (Nat.le_refl _) _
  have F10 : Hid ((f4 L3).length = N) := by show _ = _; rw [HF4.out, List.length_set, List.length_set]; exact F7.out
  clear g78 q78 g79 q79 R9 R8 B8 R7 B7 hk hk2 HF4 v0 v1 ch s7 F7
  generalize (w8.setCell ⟨B, 78, none⟩ (.int .u8 (hv / 256))).setCell ⟨B, 79, none⟩ (.int .u8 (hv % 256)) = w10 at R10 B10 ⊢
  generalize f4 L3 = L4 at R10 F10 HV
  have s10 := str_at R10.out N N F10.out
  go_wp2
  go_ret2
  exact ⟨by rw [HV.out]; rfl, by rw [hB]; exact B10.out⟩
set_option maxHeartbeats 2000000 in
theorem implFixed_no (rom title : ByteArray) (kind : Int) (w : World) (h : fixB rom title kind = false) (hs : rom.size ≤ maxLen) (ht : title.size ≤ maxLen) :
    Calls Tryd.prog 7 #[.string rom, .string title, .int .i64 kind] w fun e w' => e = .returned (.tuple #[.string ⟨#[]⟩, .bool false]) ∧ w' = w := by
  have ct := fun w => isTitle_any title w ht
  have ck := fun w => isCartKind_any kind w
  unfold maxLen at hs ht
  by_cases hs1 : size1 rom.size = true
  · obtain ⟨s1, s2, s3⟩ := size1_yes hs1
    have he : rom.toList.isEmpty = false := by
      rw [ByteArray.toList_eq]; cases e : rom.data.toList with
      | nil => exact absurd (by have := congrArg List.length e; rw [Array.length_toList] at this; exact this) (show ¬ rom.size = 0 by omega)
      | cons _ _ => rfl
    have m1 : (rom.size : Int) % 256 = 0 := by omega
    have m2 : ¬ (4096 : Int) < (rom.size : Int) := by omega
    have d2 : decide ((4096 : Int) < (rom.size : Int)) = false := decide_eq_false m2
    have hr : (titleB title && decide (title.size ≤ 15) && inB kind 0 2) = false := by
      unfold fixB title15 at h
      rw [hs1] at h
      simpa using h
    clear h hs1 s1
    by_cases m3 : (15 : Int) < (title.size : Int)
    · go_enter Tryd.func7, Tryd.ntmps7
      go_wp2_with (first | (go_at_call 22; refine (ct _).mono ?_; rintro e w' ⟨rfl, hw⟩; have hw := hw.symm; subst hw) | (go_at_call 23; refine (ck _).mono ?_; rintro e w' ⟨rfl, hw⟩; have hw := hw.symm; subst hw) | fail)
      all_goals go_ret2
      all_goals exact ⟨rfl, rfl⟩
    · have ht15 : decide (title.size ≤ 15) = true := decide_eq_true (by omega)
      rw [ht15, Bool.and_true] at hr
      clear ht15
      generalize titleB title = tb at ct hr
      generalize inB kind 0 2 = kb at ck hr
      cases tb
      · clear hr
        go_enter Tryd.func7, Tryd.ntmps7
        go_wp2_with (first | (go_at_call 22; refine (ct _).mono ?_; rintro e w' ⟨rfl, hw⟩; have hw := hw.symm; subst hw) | (go_at_call 23; refine (ck _).mono ?_; rintro e w' ⟨rfl, hw⟩; have hw := hw.symm; subst hw) | fail)
        all_goals go_ret2
        all_goals exact ⟨rfl, rfl⟩
      · obtain rfl : kb = false := by simpa using hr
        clear hr
        go_enter Tryd.func7, Tryd.ntmps7
        go_wp2_with (first | (go_at_call 22; refine (ct _).mono ?_; rintro e w' ⟨rfl, hw⟩; have hw := hw.symm; subst hw) | (go_at_call 23; refine (ck _).mono ?_; rintro e w' ⟨rfl, hw⟩; have hw := hw.symm; subst hw) | fail)
        all_goals go_ret2
        all_goals exact ⟨rfl, rfl⟩
  · have hn : ¬ (rom.size % 256 = 0 ∧ 256 ≤ rom.size ∧ rom.size ≤ 4096) := fun x => hs1 (decide_eq_true x)
    clear h hs1 ct ck
    by_cases h0 : rom.size = 0
    · have he : rom.toList.isEmpty = true := by rw [ByteArray.toList_eq, List.isEmpty_iff_length_eq_zero, Array.length_toList]; exact h0
      clear hn
      go_enter Tryd.func7, Tryd.ntmps7
      go_wp2
      go_ret2
      exact ⟨rfl, rfl⟩
    have he : rom.toList.isEmpty = false := by
      rw [ByteArray.toList_eq]; cases e : rom.data.toList with
      | nil => exact absurd (by have := congrArg List.length e; rw [Array.length_toList] at this; exact this) h0
      | cons _ _ => rfl
    by_cases h1 : (rom.size : Int) % 256 = 0
    · have m2 : (4096 : Int) < (rom.size : Int) := by omega
      have d2 : decide ((4096 : Int) < (rom.size : Int)) = true := decide_eq_true m2
      clear hn
      go_enter Tryd.func7, Tryd.ntmps7
      go_wp2
      go_ret2
      exact ⟨rfl, rfl⟩
    · have d1 : ((rom.size : Int) % 256 != 0) = true := by simpa using h1
      clear hn
      go_enter Tryd.func7, Tryd.ntmps7
      go_wp2
      go_ret2
      exact ⟨rfl, rfl⟩
def outV (rom title : ByteArray) (kind : Int) : Value := .tuple #[.string (if fixB rom title kind = true then fixedV rom title kind else ⟨#[]⟩), .bool (fixB rom title kind)]
theorem implFixed_any (rom title : ByteArray) (kind : Int) (w : World) (hs : rom.size ≤ maxLen) (ht : title.size ≤ maxLen) :
    Calls Tryd.prog 7 #[.string rom, .string title, .int .i64 kind] w fun e w' => e = .returned (outV rom title kind) ∧ Below w.heap.size w w' := by
  unfold outV
  cases h : fixB rom title kind with
  | true => rw [if_pos rfl]; exact implFixed_yes rom title kind w h
  | false =>
    rw [if_neg (by decide)]
    refine (implFixed_no rom title kind w h hs ht).mono ?_
    rintro e w' ⟨rfl, rfl⟩
    exact ⟨rfl, Below.refl _ _⟩
end Go.Proofs.YtpnaohonadoofaaDoor.Fixi
