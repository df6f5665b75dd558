/-
  Contracts of ours for a bank's lines: impl.decimal, noughtsAhead, lineFor, listedBank, spec.l13Listed.
-/
import Derived.Test.YtnfonccimaikgaaGreatDoorLsta
import Derived.Test.YtnfonccimaikgaaGreatDoorMarks
namespace Go.Proofs.YtnfonccimaikgaaGreatDoor.Lstb
open Go.ChangeShapes Go.WideShapes Go.ChangeAt Go.RowKit Go.Deep
open Signed (inB sgn)
open HolI LenX InsX Texi ReadI Lstp Lsta
open Txts (Texts infoS)
set_option linter.unusedVariables false
set_option maxRecDepth 20000

theorem decimal_any (n : Int) (w : World) (hP : Pow w) (h0 : 0 ≤ n) (h1 : n ≤ 256) :
    Calls Tryz.prog 28 #[.int .i64 n] w fun e w' => e = .returned (.string (Deci.dec n ⟨#[]⟩)) ∧ Below w.heap.size w w' := by
  have c : Calls Tryz.prog 43 #[.int .i64 n, .int .i64 10] w fun e w' => e = .returned (.string (Deci.dec n ⟨#[]⟩)) ∧ Below w.heap.size w w' :=
    (Tryz.strconv_FormatInt_10 n (by omega) (by omega) w hP).mono (by
      rintro e w' ⟨rfl, k, os, rfl⟩
      exact ⟨by rw [itoa_dec h0 h1], Lib.below_grow _ _ (Nat.le_refl _) k os⟩)
  clear hP
  generalize Deci.dec n ⟨#[]⟩ = V at c ⊢
  go_enter Tryz.func28, Tryz.ntmps28
  go_wp2_with fail
  refine c.mono ?_
  rintro e w1 ⟨rfl, b1⟩
  have B1 : Hid (Below w.heap.size w w1) := b1
  clear b1 c
  go_wp2
  go_ret
  exact ⟨rfl, B1.out⟩
theorem noughts_any (s : ByteArray) (a : Nat) (w : World) (h : a ≤ s.size) (hs : s.size ≤ 1048576) :
    Calls Tryz.prog 39 #[.string (s.extract a s.size)] w fun e w' => e = .returned (.int .i64 (zer s a : Int)) ∧ w' = w := by
  have ct := fun w => Tryz.strings_TrimLeft_one (s.extract a s.size) 0 (by decide) w
  have hl := trim_zer s a h
  have hz := zer_le s a h
  have hx : (s.extract a s.size).size = s.size - a := by simp
  have hy : (⟨(Lib.trimLeftB (s.extract a s.size).data.toList 0).toArray⟩ : ByteArray).size = s.size - a - zer s a := by
    show (List.toArray _).size = _
    rw [List.size_toArray]; exact hl
  generalize (⟨(Lib.trimLeftB (s.extract a s.size).data.toList 0).toArray⟩ : ByteArray) = Y at ct hy
  generalize s.extract a s.size = X at ct hx ⊢
  generalize zer s a = z at hy hz ⊢
  have e1 : (X.size : Int) - (Y.size : Int) = (z : Int) := by omega
  have e2 : IntKind.i64.wrap (z : Int) = (z : Int) := by rw [IntKind.wrap_i64]; omega
  clear hl hx hy
  go_enter Tryz.func39, Tryz.ntmps39
  go_wp2_with (go_at_call 52; refine (ct _).mono ?_; rintro e w' ⟨rfl, hw⟩; have hw := hw.symm; subst hw)
  go_ret
  exact ⟨rfl, rfl⟩
theorem tup {t t' : ByteArray} {n n' : Int} (h : t = t') (h' : n = n') : Ending.returned (.tuple #[.string t, .int .i64 n]) = .returned (.tuple #[.string t', .int .i64 n']) := by rw [h, h']
set_option maxHeartbeats 1000000 in
theorem lineFor_any (s : ByteArray) (base : Int) (a : Nat) (w : World) (hT : PartN.Tables w) (hP : Pow w) (hm : MaxL w) (hs : s.size ≤ 256) (h : a < s.size) (hb0 : 0 ≤ base) (hb1 : base ≤ 256) :
    Calls Tryz.prog 25 #[.string s, .int .i64 (a : Int), .int .i64 (base + a)] w fun e w' => e = .returned (.tuple #[.string (lineAt s base a).1, .int .i64 ((lineAt s base a).2 : Int)]) ∧ Below w.heap.size w w' := by
  have HX : Hid (PartN.Tables w ∧ Pow w ∧ MaxL w) := ⟨hT, hP, hm⟩
  clear hT hP hm
  have cz := fun w => noughts_any s a w (by omega) (by omega)
  have hz := zer_le s a (by omega)
  have sl : ∀ w, (Instr.slice 9 (.string s) (some (.int .i64 (a : Int))) none none).run Tryz.prog w = .ok (.string (s.extract a s.size)) w := fun w => by
    have := run_slice_string_l (P := Tryz.prog) w (t := 9) (s := s) Tryz.underlying9 .i64 (a : Int) (by omega) (by omega)
    rwa [show ((a : Int)).toNat = a by omega] at this
  have a0 : 0 ≤ (a : Int) := by omega
  have a1 : (a : Int) ≤ (s.size : Int) := by omega
  by_cases h4 : 4 ≤ zer s a
  · have hv : lineAt s base a = (dsB ++ Deci.dec (zer s a : Int) ⟨#[]⟩, zer s a) := if_pos h4
    rw [hv]
    have cd := fun w hP => decimal_any (zer s a : Int) w hP (by omega) (by omega)
    have zd := dec_le (n := (zer s a : Int)) (by omega) (by omega)
    generalize Deci.dec (zer s a : Int) ⟨#[]⟩ = D at cd zd ⊢
    clear hv
    generalize zer s a = z at cz hz h4 cd ⊢
    generalize s.extract a s.size = X at cz sl
    have q : ¬ 9223372036854775807 < 3 + D.size := by omega
    have d4 : decide ((4 : Int) ≤ (z : Int)) = true := decide_eq_true (by omega)
    go_enter Tryz.func25, Tryz.ntmps25
    go_wp2_with first | (go_at_call 39; refine (cz _).mono ?_; rintro e w' ⟨rfl, hw⟩; have hw := hw.symm; subst hw) | fail
    refine (cd _ HX.out.2.1).mono ?_
    rintro e w1 ⟨rfl, b1⟩
    have B1 : Hid (Below w.heap.size w w1) := b1
    clear b1 cd
    go_wp2
    go_ret2
    exact ⟨rfl, B1.out⟩
  have cr := fun w hm => ReadJ.implRead_any s (a : Int) w hm (by omega)
  rw [readI_P] at cr
  unfold Tup at cr
  have hbd := readP_bd s (a : Int)
  have hn := readN_bd s (a : Int)
  have hv : lineAt s base a = (if 0 < readN s a ∧ ¬ (insV s base a).size = 0 then (insV s base a, (readN s a).toNat) else (dbB ++ Hex.hexS (byteAt s a) 2, 1)) := if_neg h4
  rw [hv]
  have hi : insV s base a = lineV (readP s a).1 (readP s a).2.1 (readP s a).2.2 (base + a) := rfl
  have cx := fun w hT hP hm => textAt_any (readP s a).1 (readP s a).2.1 (readP s a).2.2 (base + a) w hT hP hm hbd.1 hbd.2 (by omega) (by omega)
  rw [← hi] at cx
  have ix := ReadI.ix s (a : Int) a0 (by omega)
  have hby := byteAt_bd s (a : Int)
  have ch := fun w hT => Hex.implHex_any (byteAt s a) 2 w hT
  have zv := hex_size (byteAt s a) 2 (by omega)
  have zv : (Hex.hexS (byteAt s a) 2).size ≤ 5 := by omega
  clear hi hv
  generalize Hex.hexS (byteAt s a) 2 = HV at ch zv ⊢
  generalize byteAt s a = by0 at ix hby ch
  generalize insV s base a = V at cx ⊢
  generalize (readP s a).1 = rc at cr cx
  generalize (readP s a).2.1 = rb at cr cx
  generalize (readP s a).2.2 = rm at cr cx
  generalize readN s a = n at cr hn ⊢
  generalize zer s a = z at cz hz h4
  generalize s.extract a s.size = X at cz sl
  have d4 : decide ((4 : Int) ≤ (z : Int)) = false := decide_eq_false (by omega)
  have q : ¬ 9223372036854775807 < 3 + HV.size := by omega
  have hw8 : IntKind.i64.wrap by0 = by0 := by rw [IntKind.wrap_i64]; omega
  have a2 : (a : Int) < (s.size : Int) := by omega
  obtain ⟨n0, n3, -⟩ := hn
  clear hbd hby
  have HH4 : Hid (¬ 4 ≤ z) := h4
  clear h4
  by_cases hn0 : 0 < n
  · have dn : decide (0 < n) = true := decide_eq_true hn0
    by_cases hV : V.size = 0
    · have he := Leng.empty_yes hV
      rw [if_neg (fun hh => hh.2 hV)]
      go_enter Tryz.func25, Tryz.ntmps25
      go_wp2_with first | (go_at_call 39; refine (cz _).mono ?_; rintro e w' ⟨rfl, hw⟩; have hw := hw.symm; subst hw) | fail
      refine (cr _ HX.out.2.2).mono ?_
      rintro e w1 ⟨rfl, b1⟩
      have B1 : Hid (Below w.heap.size w w1) := b1
      clear b1 cr
      go_wp2_with fail
      refine (cx _ (HX.out.1.below (B1.out.alloc B1.out.size _)) (HX.out.2.1.below (B1.out.alloc B1.out.size _)) (HX.out.2.2.below (B1.out.alloc B1.out.size _))).mono ?_
      rintro e w2 ⟨rfl, b2⟩
      have B2 : Hid (Below w.heap.size w w2) := (B1.out.alloc B1.out.size _).trans (b2.mono (by have := B1.out.size; simp; omega))
      clear b2 cx B1
      go_wp2_with fail
      refine (ch _ (HX.out.1.below B2.out).hex).mono ?_
      rintro e w3 ⟨rfl, b3⟩
      have B3 : Hid (Below w.heap.size w w3) := after B2.out b3
      clear b3 ch B2
      go_wp2
      go_ret2
      exact ⟨rfl, B3.out⟩
    · have he := Leng.empty_no hV
      rw [if_pos ⟨hn0, hV⟩]
      have HV0 : Hid (¬ V.size = 0) := hV
      clear hV
      go_enter Tryz.func25, Tryz.ntmps25
      go_wp2_with first | (go_at_call 39; refine (cz _).mono ?_; rintro e w' ⟨rfl, hw⟩; have hw := hw.symm; subst hw) | fail
      refine (cr _ HX.out.2.2).mono ?_
      rintro e w1 ⟨rfl, b1⟩
      have B1 : Hid (Below w.heap.size w w1) := b1
      clear b1 cr
      go_wp2_with fail
      refine (cx _ (HX.out.1.below (B1.out.alloc B1.out.size _)) (HX.out.2.1.below (B1.out.alloc B1.out.size _)) (HX.out.2.2.below (B1.out.alloc B1.out.size _))).mono ?_
      rintro e w2 ⟨rfl, b2⟩
      have B2 : Hid (Below w.heap.size w w2) := (B1.out.alloc B1.out.size _).trans (b2.mono (by have := B1.out.size; simp; omega))
      clear b2 cx B1
      have HN : Hid (n = ((n.toNat : Nat) : Int)) := by show n = _; omega
      go_wp2
      go_ret2
      exact ⟨tup rfl HN.out, B2.out⟩
  · have dn : decide (0 < n) = false := decide_eq_false hn0
    rw [if_neg (fun hh => hn0 hh.1)]
    have HN0 : Hid (¬ 0 < n) := hn0
    clear hn0
    go_enter Tryz.func25, Tryz.ntmps25
    go_wp2_with first | (go_at_call 39; refine (cz _).mono ?_; rintro e w' ⟨rfl, hw⟩; have hw := hw.symm; subst hw) | fail
    refine (cr _ HX.out.2.2).mono ?_
    rintro e w1 ⟨rfl, b1⟩
    have B1 : Hid (Below w.heap.size w w1) := b1
    clear b1 cr
    go_wp2_with fail
    refine (cx _ (HX.out.1.below (B1.out.alloc B1.out.size _)) (HX.out.2.1.below (B1.out.alloc B1.out.size _)) (HX.out.2.2.below (B1.out.alloc B1.out.size _))).mono ?_
    rintro e w2 ⟨rfl, b2⟩
    have B2 : Hid (Below w.heap.size w w2) := (B1.out.alloc B1.out.size _).trans (b2.mono (by have := B1.out.size; simp; omega))
    clear b2 cx B1
    go_wp2_with fail
    refine (ch _ (HX.out.1.below B2.out).hex).mono ?_
    rintro e w3 ⟨rfl, b3⟩
    have B3 : Hid (Below w.heap.size w w3) := after B2.out b3
    clear b3 ch B2
    go_wp2
    go_ret2
    exact ⟨rfl, B3.out⟩

def Owned (w w' : World) (v : Value) (L : List ByteArray) : Prop := w'.ownsRow w.heap.size 9 1 v L.length (L.map Value.string) ∧ Below w.heap.size w w'
theorem own_snoc {w : World} {base n : Nat} {v : Value} {D : List ByteArray} {x : ByteArray} (h : w.ownsRow base 9 1 v (n + 1) (D.map Value.string ++ [.string x])) (hn : n = D.length) : w.ownsRow base 9 1 v (D ++ [x]).length ((D ++ [x]).map Value.string) := by
  rw [List.map_append, List.length_append]; rw [hn] at h; exact h
theorem bankAt_any (rom : ByteArray) (bank : Int) (w : World) (h0 : 0 ≤ bank) (h1 : bank * 256 + 256 ≤ rom.size) (hs : rom.size ≤ 1048576) :
    Calls Tryz.prog 26 #[.string rom, .int .i64 bank] w fun e w' => e = .returned (.string (rom.extract (bank * 256).toNat (bank * 256 + 256).toNat)) ∧ w' = w := by
  have d0 : IntKind.i64.wrap (bank * 256) = bank * 256 := by rw [IntKind.wrap_i64]; omega
  have d1 : IntKind.i64.wrap (bank + 1) = bank + 1 := by rw [IntKind.wrap_i64]; omega
  have d2 : IntKind.i64.wrap ((bank + 1) * 256) = bank * 256 + 256 := by rw [IntKind.wrap_i64]; omega
  have sl : ∀ w, (Instr.slice 9 (.string rom) (some (.int .i64 (bank * 256))) (some (.int .i64 (bank * 256 + 256))) none).run Tryz.prog w = .ok (.string (rom.extract (bank * 256).toNat (bank * 256 + 256).toNat)) w := fun w => run_slice_string w 9 rom .i64 .i64 (bank * 256) (bank * 256 + 256) Tryz.underlying9 (by omega) (by omega) (by omega)
  generalize rom.extract (bank * 256).toNat (bank * 256 + 256).toNat = X at sl ⊢
  go_enter Tryz.func26, Tryz.ntmps26
  go_wp2
  go_ret
  exact ⟨rfl, rfl⟩
/-- From where on a bank is seen. -/
def baseV (bank : Int) : Int := if bank = 0 then 0 else 256
theorem addrIn_any (bank : Int) (a : Nat) (w : World) (h : a ≤ 1000) :
    Calls Tryz.prog 27 #[.int .i64 bank, .int .i64 (a : Int)] w fun e w' => e = .returned (.int .i64 (baseV bank + a)) ∧ w' = w := by
  have d0 : IntKind.i64.wrap (256 + (a : Int)) = 256 + (a : Int) := by rw [IntKind.wrap_i64]; omega
  by_cases hb : bank = 0
  · have e0 : (bank == 0) = true := by simpa using hb
    have hv : baseV bank + a = a := by unfold baseV; rw [if_pos hb]; omega
    rw [hv]
    subst hb
    go_enter Tryz.func27, Tryz.ntmps27
    go_wp2
    go_ret
    exact ⟨rfl, rfl⟩
  · have e0 : (bank == 0) = false := by simpa using hb
    have hv : baseV bank + a = 256 + a := by unfold baseV; rw [if_neg hb]
    rw [hv]
    clear hv
    go_enter Tryz.func27, Tryz.ntmps27
    go_wp2
    go_ret
    exact ⟨rfl, rfl⟩
theorem base_bd (bank : Int) : 0 ≤ baseV bank ∧ baseV bank ≤ 256 := by unfold baseV; split <;> omega
/-- A bank's bytes. -/
def bankB (rom : ByteArray) (bank : Int) : ByteArray := rom.extract (bank * 256).toNat (bank * 256 + 256).toNat
theorem bank_size {rom : ByteArray} {bank : Int} (h0 : 0 ≤ bank) (h1 : bank * 256 + 256 ≤ rom.size) : (bankB rom bank).size = 256 := by
  unfold bankB
  rw [ByteArray.size_extract]
  omega
set_option maxHeartbeats 2000000 in
theorem listed_any (rom : ByteArray) (bank : Int) (w : World) (hT : PartN.Tables w) (hP : Pow w) (hm : MaxL w) (h0 : 0 ≤ bank) (h1 : bank * 256 + 256 ≤ rom.size) (hs : rom.size ≤ 1048576) :
    Calls Tryz.prog 17 #[.string rom, .int .i64 bank] w fun e w' => ∃ v, e = .returned v ∧ Owned w w' v (listL (bankB rom bank) (baseV bank) 0) := by
  obtain ⟨i0, hi, hz0, hz1, hz2⟩ := info_parts infoS
  have HX : Hid (PartN.Tables w ∧ Pow w ∧ MaxL w) := ⟨hT, hP, hm⟩
  clear hT hP hm
  have cb := fun w => bankAt_any rom bank w h0 h1 hs
  rw [show rom.extract (bank * 256).toNat (bank * 256 + 256).toNat = bankB rom bank from rfl] at cb
  have hbs := bank_size h0 h1
  have ca := fun a w h => addrIn_any bank a w h
  have cl := fun a w hT hP hm h => lineFor_any (bankB rom bank) (baseV bank) a w hT hP hm (by omega) h (base_bd bank).1 (base_bd bank).2
  have hst := fun a h => list_step (s := bankB rom bank) (base := baseV bank) (a := a) h
  have hen := fun a h => list_end (s := bankB rom bank) (base := baseV bank) (a := a) h
  have hbd := fun a h => lineAt_bd (bankB rom bank) (baseV bank) a h
  have HST : Hid (∀ a, a < (bankB rom bank).size → _) := hst
  have HEN : Hid (∀ a, ¬ a < (bankB rom bank).size → _) := hen
  have HBD : Hid (∀ a, a < (bankB rom bank).size → _) := hbd
  clear hst hen hbd
  obtain ⟨L, hL⟩ : ∃ L, L = listL (bankB rom bank) (baseV bank) 0 := ⟨_, rfl⟩
  rw [← hL]
  have HL : Hid (L = [] ++ listL (bankB rom bank) (baseV bank) 0) := hL
  clear hL
  generalize bankB rom bank = s at cb hbs cl HST HEN HBD HL
  generalize baseV bank = bs at ca cl HST HEN HBD HL
  go_enter Tryz.func17, Tryz.ntmps17
  go_wp2
  go_loopw [5, 6] (fun v i wr => ∃ (D : List ByteArray) (a : Nat), i = .int .i64 (a : Int) ∧ a ≤ 256 ∧ D.length ≤ a ∧ Hid (L = D ++ listL s bs a) ∧ Hid (wr.ownsRow w.heap.size 9 1 v D.length (D.map Value.string)) ∧ Hid (Below w.heap.size w wr)) (fun _ i _ => 256 - (intOf i).toNat)
  case atStart => exact ⟨[], 0, rfl, Nat.zero_le _, Nat.zero_le _, HL.out, World.ownsRow_nil _ _ _ _, Below.refl _ _⟩
  case round =>
    obtain ⟨D, a, rfl, ha, hd, hr, hown, hbel⟩ := hrel
    clear HL
    by_cases hlt : a < 256
    · have hb := HBD.out a (by omega)
      have HR : Hid (L = (D ++ [(lineAt s bs a).1]) ++ listL s bs (a + (lineAt s bs a).2)) := (show _ = _ from by have := hr.out; rw [HST.out a (by omega)] at this; rw [this, List.append_assoc]; rfl)
      have cl := fun w hT hP hm => cl a w hT hP hm (by omega)
      have ca := fun w => ca a w (by omega)
      generalize (lineAt s bs a).1 = x at cl HR
      generalize (lineAt s bs a).2 = n at cl HR hb
      have dl : decide ((a : Int) < 256) = true := decide_eq_true (by omega)
      have da : IntKind.i64.wrap ((a : Int) + (n : Int)) = ((a + n : Nat) : Int) := by rw [IntKind.wrap_i64]; omega
      obtain ⟨hn0, hn1⟩ := hb
      clear hr HST HEN HBD
      go_wp2_with first | (go_at_call 26; refine (cb _).mono ?_; rintro e w' ⟨rfl, hw⟩; have hw := hw.symm; subst hw) | (go_at_call 27; refine (ca _).mono ?_; rintro e w' ⟨rfl, hw⟩; have hw := hw.symm; subst hw) | fail
      refine (cl _ (HX.out.1.below hbel.out) (HX.out.2.1.below hbel.out) (HX.out.2.2.below hbel.out)).mono ?_
      rintro e w1 ⟨rfl, b1⟩
      have own1 : Hid (w1.ownsRow w.heap.size 9 1 u5 D.length (D.map Value.string)) := Marks.own_below hown.out b1
      have bel1 : Hid (Below w.heap.size w w1) := after hbel.out b1
      clear b1 cl ca cb hown hbel
      have hlt2 := own1.out.lt
      go_wp2_with (first | (at_builtin; refine wpList_append_own _ rfl (.tmp 22) (.tmp 24) 22 rfl w.heap.size 9 i0 (.string ⟨#[]⟩) 1 16 Tryz.underlying22 hi hz0 hz1 hz2 rfl (by decide) _ _ _ rfl (own1.out.alloc _) ⟨w1.heap.size, 0, none⟩ 1 1 [.string x] rfl rfl (cell_one_new _ _ _) (by intro u hu; simp at hu; subst hu; rfl) (by unfold maxLen; omega) (by omega) (by have := bel1.out.size; simp; omega) ?_; intro v' w2 hown' hgrow _) | fail)
      go_wp2
      go_roundw
      case rel => exact ⟨D ++ [x], a + n, by go_num, by omega, by simp; omega, HR.out, own_snoc hown' rfl, (bel1.out.alloc bel1.out.size _).grown hgrow (by have := bel1.out.size; simp; omega) (fun j hj => (hlt2 j hj).1)⟩
      case measure => simp [intOf]; omega
    · have dl : decide ((a : Int) < 256) = false := decide_eq_false (by omega)
      have HR : Hid (L = D) := (show L = D from by have := hr.out; rw [HEN.out a (by omega), List.append_nil] at this; exact this)
      clear hr HST HEN HBD cl ca cb
      go_wp2
      go_ret
      exact ⟨_, rfl, by rw [HR.out]; exact ⟨hown.out, hbel.out⟩⟩
end Go.Proofs.YtnfonccimaikgaaGreatDoor.Lstb
