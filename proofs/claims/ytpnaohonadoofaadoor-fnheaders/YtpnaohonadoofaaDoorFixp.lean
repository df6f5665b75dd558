/-
  Of ours, without the program: a fixed rom is as long as its size says, has a right header with its title, and is else as it was; fixed again nothing changes.
-/
import Derived.Test.YtpnaohonadoofaaDoorFixi
import Derived.Test.YtpnaohonadoofaaDoorHeda
namespace Go.Proofs.YtpnaohonadoofaaDoor.Fixp
open Go.ChangeShapes Go.WideShapes Go.ChangeAt Go.RowKit
open Signed (inB)
open Sums Fixa Titl Fixb Fixi Heda
set_option linter.unusedVariables false
set_option maxRecDepth 20000

def bytes (l : List UInt8) : ByteArray := ⟨l.toArray⟩
/-- The number at a place of a list, 0 behind its end. -/
def at_ (l : List UInt8) (i : Nat) : Int := ((l.getD i 0).toNat : Int)
theorem byteAt_list (l : List UInt8) (i : Nat) : byteAt ⟨l.toArray⟩ i = at_ l i := by
  unfold byteAt at_
  by_cases h : i < l.length
  · rw [dif_pos (show i < (⟨l.toArray⟩ : ByteArray).size from h)]
    simp [ByteArray.getElem_eq_getElem_data, h]
  · rw [dif_neg (show ¬ i < (⟨l.toArray⟩ : ByteArray).size from h)]
    simp [List.getD, List.getElem?_eq_none (by omega : l.length ≤ i)]
theorem at_set_ne (l : List UInt8) (i j : Nat) (x : UInt8) (h : i ≠ j) : at_ (l.set j x) i = at_ l i := by
  unfold at_ List.getD
  rw [List.getElem?_set_ne (by omega)]
theorem at_set_self (l : List UInt8) (i : Nat) (x : UInt8) (h : i < l.length) : at_ (l.set i x) i = (x.toNat : Int) := by
  unfold at_ List.getD
  rw [List.getElem?_set_self h]
  rfl
theorem sumOf_congr {s t : ByteArray} {a : Nat} : ∀ n, (∀ i, a ≤ i → i < a + n → byteAt s i = byteAt t i) → sumOf s a n = sumOf t a n
  | 0, _ => rfl
  | n + 1, h => by
    simp only [sumOf]
    rw [sumOf_congr n (fun i h0 h1 => h i h0 (by omega)), h (a + n) (by omega) (by omega)]
theorem head_congr {s t : ByteArray} (hs : s.size = t.size) (h : ∀ i, 52 ≤ i → i < 77 → byteAt s i = byteAt t i) : headV s = headV t := by
  unfold headV
  rw [hs, sumOf_congr 25 (fun i h0 h1 => h i h0 (by omega))]
theorem whole_congr {s t : ByteArray} (hs : s.size = t.size) (h : ∀ i, i ≠ 78 → i ≠ 79 → byteAt s i = byteAt t i) : wholeV s = wholeV t := by
  unfold wholeV
  rw [hs, sumOf_congr 78 (fun i h0 h1 => h i (by omega) (by omega)), sumOf_congr (t.size - 80) (fun i h0 h1 => h i (by omega) (by omega))]
theorem at_over_out (l : List UInt8) (o : Nat) (s : List UInt8) (i : Nat) (ho : o ≤ l.length) (h : i < o ∨ o + s.length ≤ i) : at_ (over l o s) i = at_ l i := by
  unfold at_ List.getD
  rw [over_get _ _ _ _ ho]
  rcases h with h | h
  · rw [if_pos h]
  · by_cases h1 : i < o
    · rw [if_pos h1]
    · rw [if_neg h1, if_neg (by omega)]
theorem at_over_in (l : List UInt8) (o : Nat) (s : List UInt8) (i : Nat) (ho : o ≤ l.length) (h0 : o ≤ i) (h1 : i < o + s.length) : at_ (over l o s) i = at_ s (i - o) := by
  unfold at_ List.getD
  rw [over_get _ _ _ _ ho, if_neg (by omega), if_pos h1]
theorem at_pad (l : List UInt8) (n i : Nat) : at_ (pad l n) i = at_ l i := by
  unfold at_ pad List.getD
  by_cases h : i < l.length
  · rw [List.getElem?_append_left h]
  · rw [List.getElem?_append_right (by omega), List.getElem?_eq_none (by omega : l.length ≤ i), List.getElem?_replicate]
    split <;> rfl
theorem list_ext {a b : List UInt8} (hl : a.length = b.length) (h : ∀ i, i < a.length → at_ a i = at_ b i) : a = b := by
  apply List.ext_getElem hl
  intro i h1 h2
  have := h i h1
  unfold at_ at this
  rw [List.getD, List.getD, List.getElem?_eq_getElem h1, List.getElem?_eq_getElem h2] at this
  simp only [Option.getD_some] at this
  exact UInt8.toNat_inj.1 (by omega)
/-- What is known of a fixed rom, byte by byte. -/
structure Is (rom title : ByteArray) (kind : Int) (F : List UInt8) : Prop where
  len : F.length = lenV rom.size
  out : ∀ i, i < 52 ∨ 80 ≤ i → at_ F i = at_ rom.data.toList i
  tit : ∀ i, i < 15 → at_ F (52 + i) = at_ title.data.toList i
  mid : ∀ i, 67 ≤ i → i < 77 → i ≠ 71 → i ≠ 72 → at_ F i = at_ rom.data.toList i
  knd : at_ F 71 = kind
  siz : at_ F 72 = timesV ((rom.size : Int) / 256)
  sum : at_ F 77 = headV ⟨F.toArray⟩
  who : at_ F 78 * 256 + at_ F 79 = wholeV ⟨F.toArray⟩
  hi : at_ F 78 = wholeV ⟨F.toArray⟩ / 256
  lo : at_ F 79 = wholeV ⟨F.toArray⟩ % 256
theorem fixed_is (rom title : ByteArray) (kind : Int) (h : fixB rom title kind = true) : Is rom title kind (f4 (f3 (f2 rom title kind))) := by
  have hl1 := f1_length h
  have hf := h
  unfold fixB title15 at hf
  simp only [Bool.and_eq_true, decide_eq_true_eq] at hf
  obtain ⟨hs1, ⟨ht1, ht2⟩, hk1⟩ := hf
  obtain ⟨k0, k1⟩ := of_decide_eq_true hk1
  obtain ⟨l0, l1, l2, l3, l4⟩ := len_bd hs1
  have ht : 0 ≤ timesV ((rom.size : Int) / 256) ∧ timesV ((rom.size : Int) / 256) ≤ 3 := by rcases times_cases ((rom.size : Int) / 256) with x | x | x | x <;> exact ⟨by omega, by omega⟩
  have hp1 : (pad rom.data.toList (lenV rom.size)).length = lenV rom.size := pad_length _ _ (by rw [rom_list]; omega)
  have hp2 : (pad title.data.toList 15).length = 15 := pad_length _ _ (by rw [rom_list]; omega)
  have o1 : ∀ i, i < 52 ∨ 67 ≤ i → at_ (f1 rom title) i = at_ rom.data.toList i := fun i hi => by
    unfold f1
    rw [at_over_out _ _ _ _ (by omega) (by omega), at_pad]
  have o2 : ∀ i, i < 15 → at_ (f1 rom title) (52 + i) = at_ title.data.toList i := fun i hi => by
    unfold f1
    rw [at_over_in _ _ _ _ (by omega) (by omega) (by omega), at_pad, Nat.add_sub_cancel_left]
  have hl2 : (f2 rom title kind).length = lenV rom.size := by unfold f2; rw [List.length_set, List.length_set]; exact hl1
  have p2 : ∀ i, i ≠ 71 → i ≠ 72 → at_ (f2 rom title kind) i = at_ (f1 rom title) i := fun i h1 h2 => by unfold f2; rw [at_set_ne _ _ _ _ h2, at_set_ne _ _ _ _ h1]
  have p71 : at_ (f2 rom title kind) 71 = kind := by unfold f2; rw [at_set_ne _ _ _ _ (by omega), at_set_self _ _ _ (by omega), u8_val k0 (by omega)]
  have p72 : at_ (f2 rom title kind) 72 = timesV ((rom.size : Int) / 256) := by unfold f2; rw [at_set_self _ _ _ (by rw [List.length_set]; omega), u8_val ht.1 (by omega)]
  generalize f2 rom title kind = L2 at hl2 p2 p71 p72
  have b2 : romB (⟨L2.toArray⟩ : ByteArray).size = true := by rw [size_list, hl2]; exact l0
  have hd := head_bd b2
  have hl3 : (f3 L2).length = lenV rom.size := by unfold f3; rw [List.length_set]; exact hl2
  have p3 : ∀ i, i ≠ 77 → at_ (f3 L2) i = at_ L2 i := fun i h1 => by unfold f3; rw [at_set_ne _ _ _ _ h1]
  have p77 : at_ (f3 L2) 77 = headV ⟨L2.toArray⟩ := by unfold f3; rw [at_set_self _ _ _ (by omega), u8_val hd.1 hd.2]
  generalize f3 L2 = L3 at hl3 p3 p77
  have b3 : romB (⟨L3.toArray⟩ : ByteArray).size = true := by rw [size_list, hl3]; exact l0
  have wd := whole_bd b3
  have hl4 : (f4 L3).length = lenV rom.size := by unfold f4; rw [List.length_set, List.length_set]; exact hl3
  have p4 : ∀ i, i ≠ 78 → i ≠ 79 → at_ (f4 L3) i = at_ L3 i := fun i h1 h2 => by unfold f4; rw [at_set_ne _ _ _ _ h2, at_set_ne _ _ _ _ h1]
  have p78 : at_ (f4 L3) 78 = wholeV ⟨L3.toArray⟩ / 256 := by unfold f4; rw [at_set_ne _ _ _ _ (by omega), at_set_self _ _ _ (by omega), u8_val (by omega) (by omega)]
  have p79 : at_ (f4 L3) 79 = wholeV ⟨L3.toArray⟩ % 256 := by unfold f4; rw [at_set_self _ _ _ (by rw [List.length_set]; omega), u8_val (by omega) (by omega)]
  generalize f4 L3 = L4 at hl4 p4 p78 p79
  have ew : wholeV ⟨L3.toArray⟩ = wholeV ⟨L4.toArray⟩ := whole_congr (by rw [size_list, size_list, hl3, hl4]) (fun i h1 h2 => by rw [byteAt_list, byteAt_list, p4 i h1 h2])
  have eh : headV ⟨L2.toArray⟩ = headV ⟨L4.toArray⟩ := head_congr (by rw [size_list, size_list, hl2, hl4]) (fun i h1 h2 => by rw [byteAt_list, byteAt_list, p4 i (by omega) (by omega), p3 i (by omega)])
  refine ⟨hl4, fun i hi => ?_, fun i hi => ?_, fun i h0 h1 h2 h3 => ?_, ?_, ?_, ?_, ?_, ?_, ?_⟩
  · rw [p4 i (by omega) (by omega), p3 i (by omega), p2 i (by omega) (by omega), o1 i (by omega)]
  · rw [p4 _ (by omega) (by omega), p3 _ (by omega), p2 _ (by omega) (by omega), o2 i hi]
  · rw [p4 i (by omega) (by omega), p3 i (by omega), p2 i h2 h3, o1 i (by omega)]
  · rw [p4 _ (by omega) (by omega), p3 _ (by omega), p71]
  · rw [p4 _ (by omega) (by omega), p3 _ (by omega), p72]
  · rw [p4 _ (by omega) (by omega), p77, eh]
  · rw [p78, p79, ew]; omega
  · rw [p78, ew]
  · rw [p79, ew]
theorem times_room (n : Int) (h0 : 1 ≤ n) (h1 : n ≤ 16) : codeV (roomV n) = timesV n ∧ timesV (roomV n) = timesV n ∧ roomV (roomV n) = roomV n := by
  unfold roomV
  rcases (show n ≤ 2 ∨ (¬ n ≤ 2 ∧ n ≤ 4) ∨ (¬ n ≤ 2 ∧ ¬ n ≤ 4 ∧ n ≤ 8) ∨ (¬ n ≤ 2 ∧ ¬ n ≤ 4 ∧ ¬ n ≤ 8) from by omega) with a | ⟨a, b⟩ | ⟨a, b, c⟩ | ⟨a, b, c⟩
  · simp only [a, if_true, timesV]; decide
  · simp only [a, b, if_true, if_false, timesV]; decide
  · simp only [a, b, c, if_true, if_false, timesV]; decide
  · simp only [a, b, c, if_false, timesV]; decide
theorem trim_all {l : List UInt8} (n : Nat) (h : ∀ i (hi : i < l.length), ¬ l[i] = 0) : Lib.trimRightB (l ++ List.replicate n 0) 0 = l := by
  induction n with
  | zero =>
    rw [List.replicate_zero, List.append_nil]
    rcases List.eq_nil_or_concat l with rfl | ⟨a, x, rfl⟩
    · rfl
    · rw [List.concat_eq_append] at h ⊢
      refine trim_stop a 0 x ?_
      have := h a.length (by simp)
      simpa using this
  | succ n ih =>
    rw [List.replicate_succ', ← List.append_assoc, trim_last]
    exact ih
/-- The header of a fixed rom is right, with its title and kind. -/
theorem fixed_head (rom title : ByteArray) (kind : Int) (h : fixB rom title kind = true) : hdrB (fixedV rom title kind) = true ∧ titleS (fixedV rom title kind) = title ∧ byteAt (fixedV rom title kind) 71 = kind ∧
    banks (fixedV rom title kind).size * 256 = ((fixedV rom title kind).size : Int) ∧ rom.size ≤ (fixedV rom title kind).size ∧ (fixedV rom title kind).size ≤ 4096 := by
  have hi := fixed_is rom title kind h
  unfold fixedV
  generalize f4 (f3 (f2 rom title kind)) = F at hi
  have hf := h
  unfold fixB title15 at hf
  simp only [Bool.and_eq_true, decide_eq_true_eq] at hf
  obtain ⟨hs1, ⟨ht1, ht2⟩, hk1⟩ := hf
  obtain ⟨k0, k1⟩ := of_decide_eq_true hk1
  obtain ⟨l0, l1, l2, l3, l4⟩ := len_bd hs1
  have hs := size1_yes hs1
  have hsz : (⟨F.toArray⟩ : ByteArray).size = lenV rom.size := by rw [size_list]; exact hi.len
  have hb : romB (⟨F.toArray⟩ : ByteArray).size = true := by rw [hsz]; exact l0
  obtain ⟨b0, b1, b2, b3, b4, b5⟩ := banks_yes hb
  have hbk : banks (⟨F.toArray⟩ : ByteArray).size = roomV ((rom.size : Int) / 256) := by rw [b5, hsz]; omega
  have htr := times_room ((rom.size : Int) / 256) (by omega) (by omega)
  have htl : ((⟨F.toArray⟩ : ByteArray).extract 52 67).data.toList = title.data.toList ++ List.replicate (15 - title.size) 0 := by
    have hl : ((⟨F.toArray⟩ : ByteArray).extract 52 67).data.toList = (F.drop 52).take 15 := by simp [ByteArray.data_extract, List.extract_eq_take_drop]
    rw [hl]
    apply list_ext
    · rw [List.length_append, List.length_replicate, rom_list]
      simp only [List.length_take, List.length_drop, hi.len]
      omega
    · intro i hlt
      have hi15 : i < 15 := by simp at hlt; omega
      have e1 : at_ ((F.drop 52).take 15) i = at_ F (52 + i) := by
        unfold at_ List.getD
        rw [List.getElem?_take_of_lt hi15, List.getElem?_drop]
      rw [e1, hi.tit i hi15]
      have e2 := at_pad title.data.toList 15 i
      unfold pad at e2
      rw [rom_list] at e2
      exact e2.symm
  have htS : titleS ⟨F.toArray⟩ = title := by
    unfold titleS
    rw [htl, trim_all _ (fun i hlt => ?_)]
    · have := (of_decide_eq_true ht1) i (by rw [rom_list] at hlt; exact hlt)
      intro e
      have e2 : title[i]'(by rw [rom_list] at hlt; exact hlt) = 0 := by simpa [ByteArray.getElem_eq_getElem_data] using e
      rw [e2] at this
      exact absurd this.1 (by decide)
  refine ⟨?_, htS, by rw [byteAt_list, hi.knd], by rw [hbk, hsz]; omega, by omega, by omega⟩
  unfold hdrB
  rw [hb, htS, ht1, byteAt_list, byteAt_list, byteAt_list, byteAt_list, byteAt_list, hi.knd, hi.siz, hi.sum, hi.who, hbk, htr.1]
  simp
  omega
/-- Fixed again nothing changes. -/
theorem fixed_again (rom title : ByteArray) (kind : Int) (h : fixB rom title kind = true) : fixB (fixedV rom title kind) title kind = true ∧ fixedV (fixedV rom title kind) title kind = fixedV rom title kind := by
  have hi := fixed_is rom title kind h
  have hf := h
  unfold fixB at hf
  simp only [Bool.and_eq_true] at hf
  obtain ⟨hs1, ht1, hk1⟩ := hf
  obtain ⟨l0, l1, l2, l3, l4⟩ := len_bd hs1
  have hs := size1_yes hs1
  have htr := times_room ((rom.size : Int) / 256) (by omega) (by omega)
  have hsz : (fixedV rom title kind).size = lenV rom.size := by show (⟨_⟩ : ByteArray).size = _; rw [size_list]; exact hi.len
  have hb : fixB (fixedV rom title kind) title kind = true := by
    unfold fixB
    rw [ht1, hk1, hsz]
    have : size1 (lenV rom.size) = true := by have := of_decide_eq_true l0; exact decide_eq_true ⟨this.1, by omega, by omega⟩
    rw [this]; rfl
  refine ⟨hb, ?_⟩
  have hj := fixed_is (fixedV rom title kind) title kind hb
  have hFl : (fixedV rom title kind).data.toList = f4 (f3 (f2 rom title kind)) := by unfold fixedV; simp
  have hln : lenV (fixedV rom title kind).size = lenV rom.size := by
    rw [hsz]
    have e : ((lenV rom.size : Nat) : Int) / 256 = roomV ((rom.size : Int) / 256) := by omega
    unfold lenV at e ⊢
    rw [e, htr.2.2]
  have e72 : timesV (((fixedV rom title kind).size : Int) / 256) = timesV ((rom.size : Int) / 256) := by
    rw [hsz, show ((lenV rom.size : Nat) : Int) / 256 = roomV ((rom.size : Int) / 256) by omega, htr.2.1]
  show (⟨(f4 (f3 (f2 (fixedV rom title kind) title kind))).toArray⟩ : ByteArray) = ⟨(f4 (f3 (f2 rom title kind))).toArray⟩
  generalize f4 (f3 (f2 (fixedV rom title kind) title kind)) = G at hj
  generalize f4 (f3 (f2 rom title kind)) = F at hi hFl
  have hGl : G.length = F.length := by rw [hj.len, hln, hi.len]
  have a1 : ∀ i, i < 77 ∨ 80 ≤ i → at_ G i = at_ F i := fun i hlt => by
    by_cases c1 : i < 52 ∨ 80 ≤ i
    · rw [hj.out i c1, hFl]
    by_cases c2 : i < 67
    · rw [show i = 52 + (i - 52) by omega, hj.tit _ (by omega), hi.tit _ (by omega)]
    by_cases c3 : i = 71
    · rw [c3, hj.knd, hi.knd]
    by_cases c4 : i = 72
    · rw [c4, hj.siz, hi.siz, e72]
    · rw [hj.mid i (by omega) (by omega) c3 c4, hFl]
  have eh : headV ⟨G.toArray⟩ = headV ⟨F.toArray⟩ := head_congr (by rw [size_list, size_list, hGl]) (fun i h1 h2 => by rw [byteAt_list, byteAt_list, a1 i (by omega)])
  have a2 : ∀ i, i ≠ 78 → i ≠ 79 → at_ G i = at_ F i := fun i h1 h2 => by
    by_cases c : i = 77
    · rw [c, hj.sum, hi.sum, eh]
    · exact a1 i (by omega)
  have ew : wholeV ⟨G.toArray⟩ = wholeV ⟨F.toArray⟩ := whole_congr (by rw [size_list, size_list, hGl]) (fun i h1 h2 => by rw [byteAt_list, byteAt_list, a2 i h1 h2])
  have : G = F := list_ext hGl (fun i _ => by
    by_cases c1 : i = 78
    · rw [c1, hj.hi, hi.hi, ew]
    by_cases c2 : i = 79
    · rw [c2, hj.lo, hi.lo, ew]
    · exact a2 i c1 c2)
  rw [this]
/-- It is else as it was. -/
theorem fixed_else (rom title : ByteArray) (kind : Int) (h : fixB rom title kind = true) (i : Nat) (hi : i < rom.size) (ho : i < 52 ∨ 80 ≤ i) : byteAt (fixedV rom title kind) i = byteAt rom i := by
  have := (fixed_is rom title kind h).out i ho
  unfold fixedV
  rw [byteAt_list, this, ← byteAt_list]
end Go.Proofs.YtpnaohonadoofaaDoor.Fixp
