/-
  A contract of ours for spec.ReadInsText: the first of the 512 codes of which the text is an instruction's.
-/
import Derived.Test.YtoajaadobieekaaGreatDoorRinst
import Derived.Test.YtoajaadobieekaaGreatDoorFitz
namespace Go.Proofs.YtoajaadobieekaaGreatDoor.Rinsu
open Go.ChangeShapes Go.WideShapes Go.ChangeAt Go.RowKit
open HoleX (n8 n16 e8 holeT holeP)
open HolI LenX InsX Texi Fits Like Rinst Fitz
set_option linter.unusedVariables false
set_option maxRecDepth 20000

def valS (s : ByteArray) (code : Int) (cb : Bool) : Int := if (fitT s (Tmpl.tmplS code cb)).size = 0 then 0 else im (fitT s (Tmpl.tmplS code cb))
def flagS (s : ByteArray) (code : Int) (cb : Bool) : Bool :=
  if cb = false ∧ (Tmpl.tmplS code cb).size = 0 then false
  else if fits s (Tmpl.tmplS code cb) = false then false
  else (textV code cb (valS s code cb)).toList == s.toList
def kS (s : ByteArray) (k : Nat) : Bool := flagS s (codeK k) (cbK k)
def outS (s : ByteArray) : Option Nat → Ending
  | none => .returned (.tuple #[.agg #[.int .i64 0, .bool false, .int .i64 0], .bool false])
  | some k => .returned (.tuple #[.agg #[.int .i64 (codeK k), .bool (cbK k), .int .i64 (valS s (codeK k) (cbK k))], .bool true])
theorem outS_some (s : ByteArray) (k : Nat) : outS s (some k) = .returned (.tuple #[.agg #[.int .i64 (codeK k), .bool (cbK k), .int .i64 (valS s (codeK k) (cbK k))], .bool true]) := rfl
theorem hp_all : ∀ (c : Fin 256) (b : Bool), 0 ≤ holeP (Tmpl.tmplS (c.val : Int) b) → (holeP (Tmpl.tmplS (c.val : Int) b)).toNat + (holeT (Tmpl.tmplS (c.val : Int) b)).size ≤ (Tmpl.tmplS (c.val : Int) b).size := by decide +kernel
theorem hp_at (code : Int) (cb : Bool) (h0 : 0 ≤ code) (h1 : code ≤ 255) : 0 ≤ holeP (Tmpl.tmplS code cb) → (holeP (Tmpl.tmplS code cb)).toNat + (holeT (Tmpl.tmplS code cb)).size ≤ (Tmpl.tmplS code cb).size := by
  have := hp_all ⟨code.toNat, by omega⟩ cb
  rwa [show ((⟨code.toNat, by omega⟩ : Fin 256).val : Int) = code by show ((code.toNat : Nat) : Int) = code; omega] at this
theorem fitT_le (s T : ByteArray) : (fitT s T).size ≤ s.size := by
  unfold fitT
  split
  · exact Nat.zero_le _
  split
  · simp; omega
  · exact Nat.zero_le _
theorem len_zero {code : Int} (h : (Tmpl.tmplS code false).size = 0) : lenV (decide ((Tmpl.tmplS code false).size = 0)) false (hole code false) = 0 := by unfold lenV; rw [if_pos (decide_eq_true h)]
theorem len_some {code : Int} (h : ¬ (Tmpl.tmplS code false).size = 0) : ¬ lenV (decide ((Tmpl.tmplS code false).size = 0)) false (hole code false) = 0 := by
  unfold lenV
  rw [if_neg (by simpa using h), if_neg (by decide)]
  split
  · decide
  split <;> decide
theorem through {wr w3 w4 : World} {a b : Value} {V : Value} (h : Below (wr.alloc (.cells #[a, b, .int .i64 0] 25)).heap.size (wr.alloc (.cells #[a, b, .int .i64 0] 25)) w3) (k : Below (w3.setCell ⟨wr.heap.size, 2, none⟩ V).heap.size (w3.setCell ⟨wr.heap.size, 2, none⟩ V) w4) :
    Hid (Below wr.heap.size wr w4) ∧ w4.cell? ⟨wr.heap.size, 0, none⟩ = some a ∧ w4.cell? ⟨wr.heap.size, 1, none⟩ = some b ∧ w4.cell? ⟨wr.heap.size, 2, none⟩ = some V := by
  have hsz : wr.heap.size < (w3.setCell ⟨wr.heap.size, 2, none⟩ V).heap.size := by
    have := h.size
    simp [World.setCell] at this ⊢
    omega
  refine ⟨after ((unbox h).setCell (p := ⟨wr.heap.size, 2, none⟩) (Nat.le_refl _) V) k, ?_, ?_, ?_⟩
  · rw [k.cell (p := ⟨wr.heap.size, 0, none⟩) hsz, World.cell?_setCell_other _ _ _ _ (by simp)]; exact box h 0 _ rfl
  · rw [k.cell (p := ⟨wr.heap.size, 1, none⟩) hsz, World.cell?_setCell_other _ _ _ _ (by simp)]; exact box h 1 _ rfl
  · rw [k.cell (p := ⟨wr.heap.size, 2, none⟩) hsz]; exact World.cell?_setCell_same _ _ _ (box h 2 _ rfl)
set_option maxHeartbeats 4000000 in
theorem specRead_any (s : ByteArray) (w : World) (hs : s.size ≤ 20) :
    Calls Tryz.prog 11 #[.string s] w fun e w' => e = outS s (firstK (kS s) 512 0) ∧ Below w.heap.size w w' := by
  have hl : (s.size : Int) ≤ 20 := by omega
  go_enter Tryz.func11, Tryz.ntmps11
  go_wp2
  go_loopw [4] (fun i wr => ∃ k : Nat, k ≤ 512 ∧ i = .int .i64 k ∧ Hid (firstK (kS s) 512 0 = firstK (kS s) (512 - k) k) ∧ Hid (Below (w.alloc (.cells #[.int .i64 0, .bool false, .int .i64 0] 25)).heap.size (w.alloc (.cells #[.int .i64 0, .bool false, .int .i64 0] 25)) wr)) (fun i _ => 512 - (intOf i).toNat)
  case atStart => exact ⟨0, Nat.zero_le _, rfl, rfl, Below.refl _ _⟩
  case round =>
    obtain ⟨k, hk, rfl, ha, hb⟩ := hrel
    by_cases hlt : k < 512
    · have HM : Hid (k < 512) := hlt
      have k1 : (k : Int) < 512 := by omega
      obtain ⟨C, hC⟩ : ∃ C : Int, C = codeK k := ⟨_, rfl⟩
      have c0 : 0 ≤ C := by rw [hC]; unfold codeK; omega
      have c1 : C ≤ 255 := by rw [hC]; unfold codeK; omega
      have hC1 : codeK k = C := hC.symm
      have k2 : (k : Int).tmod 256 = C := by rw [hC, Int.tmod_eq_emod_of_nonneg (by omega)]; unfold codeK; omega
      clear hC hk
      by_cases hb2 : k < 256
      · have hC2 : cbK k = false := by unfold cbK; simp; omega
        have k3 : (k : Int) < 256 := by omega
        have k4 : decide ((256 : Int) ≤ (k : Int)) = false := by simp; omega
        clear hb2 hlt
        try skip
        · have HR : Hid (codeK k = C ∧ cbK k = false) := ⟨hC1, hC2⟩
          have HKS : Hid (kS s k = flagS s C false) := by show _ = _; unfold kS; rw [hC1, hC2]
          have hz := Leng.tmpl_le C false c0 c1
          have hpp := hp_at C false c0 c1
          have ct := fun w => Tmpl.template_any C false w c0 c1
          have cf := fun w => fits_any s (Tmpl.tmplS C false) w (by omega) (by omega) hpp
          have cl := fun w => LenX.length_any C false w c0 c1
          have BK : Hid (Below (wr.alloc (.cells #[.int .i64 C, .bool false, .int .i64 0] 25)).heap.size (wr.alloc (.cells #[.int .i64 C, .bool false, .int .i64 0] 25)) (wr.alloc (.cells #[.int .i64 C, .bool false, .int .i64 0] 25))) := Below.refl _ _
          clear hC1 hC2 hpp
          by_cases hE : (Tmpl.tmplS C false).size = 0
          · have HF : Hid (kS s k = false) := by show _ = _; rw [HKS.out]; unfold flagS; rw [if_pos ⟨rfl, hE⟩]
            rw [len_zero hE] at cl
            clear hE hz ct cf
            go_wp2_with first | (go_at_call 31; refine (cl _).mono ?_; rintro e w1 ⟨rfl, b⟩; have BK : Hid (Below _ _ w1) := after BK.out b; clear b; have i0 := box BK.out 0 _ rfl; have i1 := box BK.out 1 _ rfl; have i2 := box BK.out 2 _ rfl; have i3 := fro BK.out 2) | fail
            all_goals
              try go_roundw
            case rel => exact ⟨k + 1, HM.out, by go_num, firstK_next (k := k) HM.out (HF.out) ha.out, after (hb.out.alloc hb.out.size _) BK.out⟩
            case measure => have := HM.out; simp [intOf]; omega
          have hLn := len_some hE
          have HE : Hid (¬ (false = false ∧ (Tmpl.tmplS C false).size = 0)) := fun h => hE h.2
          generalize lenV (decide ((Tmpl.tmplS C false).size = 0)) false (hole C false) = L at cl hLn
          have hLb : (L == 0) = false := by simpa using hLn
          clear hE
          by_cases hF : fits s (Tmpl.tmplS C false) = false
          · have HF : Hid (kS s k = false) := by show _ = _; rw [HKS.out]; unfold flagS; rw [if_neg HE.out, if_pos hF]
            rw [hF] at cf
            generalize fitT s (Tmpl.tmplS C false) = I at cf
            clear hF HE hz HKS
            generalize Tmpl.tmplS C false = T at ct cf
            go_wp2_with first | (go_at_call 31; refine (cl _).mono ?_; rintro e w1 ⟨rfl, b⟩; have BK : Hid (Below _ _ w1) := after BK.out b; clear b; have i0 := box BK.out 0 _ rfl; have i1 := box BK.out 1 _ rfl; have i2 := box BK.out 2 _ rfl; have i3 := fro BK.out 2) | (go_at_call 19; refine (ct _).mono ?_; rintro e w2 ⟨rfl, b⟩; have BK : Hid (Below _ _ w2) := after BK.out b; clear b; have i0 := box BK.out 0 _ rfl; have i1 := box BK.out 1 _ rfl; have i2 := box BK.out 2 _ rfl; have i3 := fro BK.out 2) | (go_at_call 32; refine (cf _).mono ?_; rintro e w3 ⟨rfl, b⟩; have BK : Hid (Below _ _ w3) := after BK.out b; clear b; have i0 := box BK.out 0 _ rfl; have i1 := box BK.out 1 _ rfl; have i2 := box BK.out 2 _ rfl; have i3 := fro BK.out 2) | fail
            all_goals
              try go_roundw
            case rel => exact ⟨k + 1, HM.out, by go_num, firstK_next (k := k) HM.out (HF.out) ha.out, after (hb.out.alloc hb.out.size _) BK.out⟩
            case measure => have := HM.out; simp [intOf]; omega
          have hG : flagS s C false = ((textV C false (valS s C false)).toList == s.toList) := by unfold flagS; rw [if_neg HE.out, if_neg hF]
          rw [show fits s (Tmpl.tmplS C false) = true by simpa using hF] at cf
          by_cases hI : (fitT s (Tmpl.tmplS C false)).size = 0
          · have hV : valS s C false = 0 := by unfold valS; rw [if_pos hI]
            have he := Leng.empty_yes hI
            rw [hV] at hG
            have HV : Hid (valS s C false = 0) := hV
            have cx := fun w => Texj.specText_any C false 0 w
            generalize textV C false 0 = X at cx hG
            generalize fitT s (Tmpl.tmplS C false) = I at cf he
            clear hV hI hF HE hz
            generalize Tmpl.tmplS C false = T at ct cf
            cases hX : X.toList == s.toList
            · rw [hX] at hG
              have HF : Hid (kS s k = false) := HKS.out.trans hG
              clear hG HKS HV
              go_wp2_with first | (go_at_call 31; refine (cl _).mono ?_; rintro e w1 ⟨rfl, b⟩; have BK : Hid (Below _ _ w1) := after BK.out b; clear b; have i0 := box BK.out 0 _ rfl; have i1 := box BK.out 1 _ rfl; have i2 := box BK.out 2 _ rfl; have i3 := fro BK.out 2) | (go_at_call 19; refine (ct _).mono ?_; rintro e w2 ⟨rfl, b⟩; have BK : Hid (Below _ _ w2) := after BK.out b; clear b; have i0 := box BK.out 0 _ rfl; have i1 := box BK.out 1 _ rfl; have i2 := box BK.out 2 _ rfl; have i3 := fro BK.out 2) | (go_at_call 32; refine (cf _).mono ?_; rintro e w3 ⟨rfl, b⟩; have BK : Hid (Below _ _ w3) := after BK.out b; clear b; have i0 := box BK.out 0 _ rfl; have i1 := box BK.out 1 _ rfl; have i2 := box BK.out 2 _ rfl; have i3 := fro BK.out 2) | fail
              refine (cx _).mono ?_
              rintro e w4 ⟨rfl, b⟩
              have BK : Hid (Below _ _ w4) := after BK.out b
              clear b
              have BR : Hid (Below _ _ w4) := after (hb.out.alloc hb.out.size _) BK.out
              have i0 := box BK.out 0 _ rfl; have i1 := box BK.out 1 _ rfl; have i2 := box BK.out 2 _ rfl
              have r0 := box BR.out 0 _ rfl; have r1 := box BR.out 1 _ rfl; have r2 := box BR.out 2 _ rfl; have f0 := fro BR.out 0; have f1 := fro BR.out 1; have f2 := fro BR.out 2
              go_wp2_with fail
              all_goals
                try go_roundw
              case rel => exact ⟨k + 1, HM.out, by go_num, firstK_next (k := k) HM.out (HF.out) ha.out, BR.out⟩
              case measure => have := HM.out; simp [intOf]; omega
            · rw [hX] at hG
              have HQ : Hid (outS s (firstK (kS s) 512 0) = .returned (.tuple #[.agg #[.int .i64 C, .bool false, .int .i64 0], .bool true])) := by
                show _ = _
                rw [firstK_hit (k := k) HM.out (HKS.out.trans hG) ha.out, outS_some, HR.out.1, HR.out.2, HV.out]
              clear hG HKS HV
              go_wp2_with first | (go_at_call 31; refine (cl _).mono ?_; rintro e w1 ⟨rfl, b⟩; have BK : Hid (Below _ _ w1) := after BK.out b; clear b; have i0 := box BK.out 0 _ rfl; have i1 := box BK.out 1 _ rfl; have i2 := box BK.out 2 _ rfl; have i3 := fro BK.out 2) | (go_at_call 19; refine (ct _).mono ?_; rintro e w2 ⟨rfl, b⟩; have BK : Hid (Below _ _ w2) := after BK.out b; clear b; have i0 := box BK.out 0 _ rfl; have i1 := box BK.out 1 _ rfl; have i2 := box BK.out 2 _ rfl; have i3 := fro BK.out 2) | (go_at_call 32; refine (cf _).mono ?_; rintro e w3 ⟨rfl, b⟩; have BK : Hid (Below _ _ w3) := after BK.out b; clear b; have i0 := box BK.out 0 _ rfl; have i1 := box BK.out 1 _ rfl; have i2 := box BK.out 2 _ rfl; have i3 := fro BK.out 2) | fail
              refine (cx _).mono ?_
              rintro e w4 ⟨rfl, b⟩
              have BK : Hid (Below _ _ w4) := after BK.out b
              clear b
              have BR : Hid (Below _ _ w4) := after (hb.out.alloc hb.out.size _) BK.out
              have i0 := box BK.out 0 _ rfl; have i1 := box BK.out 1 _ rfl; have i2 := box BK.out 2 _ rfl
              have r0 := box BR.out 0 _ rfl; have r1 := box BR.out 1 _ rfl; have r2 := box BR.out 2 _ rfl; have f0 := fro BR.out 0; have f1 := fro BR.out 1; have f2 := fro BR.out 2
              go_wp2
              all_goals exact bodyPost_ret (v := .tuple #[.agg #[.int .i64 C, .bool false, .int .i64 0], .bool true]) (by simp [results, Tryz.results11, go_sem, r0, r1, r2]) rfl ⟨HQ.out.symm, ((((unbox BR.out)).setCell (p := ⟨w.heap.size, 0, none⟩) (Nat.le_refl _) _).setCell (p := ⟨w.heap.size, 1, none⟩) (Nat.le_refl _) _).setCell (p := ⟨w.heap.size, 2, none⟩) (Nat.le_refl _) _⟩
          · have hV : valS s C false = im (fitT s (Tmpl.tmplS C false)) := by unfold valS; rw [if_neg hI]
            have he := Leng.empty_no hI
            rw [hV] at hG
            have ci := fun w => l3Imm_any (fitT s (Tmpl.tmplS C false)) w (by have := fitT_le s (Tmpl.tmplS C false); omega)
            have HV : Hid (valS s C false = im (fitT s (Tmpl.tmplS C false))) := hV
            generalize im (fitT s (Tmpl.tmplS C false)) = V at ci hG HV
            have cx := fun w => Texj.specText_any C false V w
            generalize textV C false V = X at cx hG
            generalize fitT s (Tmpl.tmplS C false) = I at cf he ci
            clear hV hI hF HE hz
            generalize Tmpl.tmplS C false = T at ct cf
            cases hX : X.toList == s.toList
            · rw [hX] at hG
              have HF : Hid (kS s k = false) := HKS.out.trans hG
              clear hG HKS HV
              go_wp2_with first | (go_at_call 31; refine (cl _).mono ?_; rintro e w1 ⟨rfl, b⟩; have BK : Hid (Below _ _ w1) := after BK.out b; clear b; have i0 := box BK.out 0 _ rfl; have i1 := box BK.out 1 _ rfl; have i2 := box BK.out 2 _ rfl; have i3 := fro BK.out 2) | (go_at_call 19; refine (ct _).mono ?_; rintro e w2 ⟨rfl, b⟩; have BK : Hid (Below _ _ w2) := after BK.out b; clear b; have i0 := box BK.out 0 _ rfl; have i1 := box BK.out 1 _ rfl; have i2 := box BK.out 2 _ rfl; have i3 := fro BK.out 2) | (go_at_call 32; refine (cf _).mono ?_; rintro e w3 ⟨rfl, b⟩; have BK : Hid (Below _ _ w3) := after BK.out b; clear b; have i0 := box BK.out 0 _ rfl; have i1 := box BK.out 1 _ rfl; have i2 := box BK.out 2 _ rfl; have i3 := fro BK.out 2) | (go_at_call 33; refine (ci _).mono ?_; rintro e w' ⟨rfl, hw⟩; have hw := hw.symm; subst hw) | fail
              refine (cx _).mono ?_
              rintro e w4 ⟨rfl, b⟩
              obtain ⟨BT, i0, i1, i2⟩ := through BK.out b
              have BR : Hid (Below _ _ w4) := after hb.out BT.out
              clear b
              have r0 := box BR.out 0 _ rfl; have r1 := box BR.out 1 _ rfl; have r2 := box BR.out 2 _ rfl; have f0 := fro BR.out 0; have f1 := fro BR.out 1; have f2 := fro BR.out 2
              go_wp2_with fail
              all_goals
                try go_roundw
              case rel => exact ⟨k + 1, HM.out, by go_num, firstK_next (k := k) HM.out (HF.out) ha.out, BR.out⟩
              case measure => have := HM.out; simp [intOf]; omega
            · rw [hX] at hG
              have HQ : Hid (outS s (firstK (kS s) 512 0) = .returned (.tuple #[.agg #[.int .i64 C, .bool false, .int .i64 V], .bool true])) := by
                show _ = _
                rw [firstK_hit (k := k) HM.out (HKS.out.trans hG) ha.out, outS_some, HR.out.1, HR.out.2, HV.out]
              clear hG HKS HV
              go_wp2_with first | (go_at_call 31; refine (cl _).mono ?_; rintro e w1 ⟨rfl, b⟩; have BK : Hid (Below _ _ w1) := after BK.out b; clear b; have i0 := box BK.out 0 _ rfl; have i1 := box BK.out 1 _ rfl; have i2 := box BK.out 2 _ rfl; have i3 := fro BK.out 2) | (go_at_call 19; refine (ct _).mono ?_; rintro e w2 ⟨rfl, b⟩; have BK : Hid (Below _ _ w2) := after BK.out b; clear b; have i0 := box BK.out 0 _ rfl; have i1 := box BK.out 1 _ rfl; have i2 := box BK.out 2 _ rfl; have i3 := fro BK.out 2) | (go_at_call 32; refine (cf _).mono ?_; rintro e w3 ⟨rfl, b⟩; have BK : Hid (Below _ _ w3) := after BK.out b; clear b; have i0 := box BK.out 0 _ rfl; have i1 := box BK.out 1 _ rfl; have i2 := box BK.out 2 _ rfl; have i3 := fro BK.out 2) | (go_at_call 33; refine (ci _).mono ?_; rintro e w' ⟨rfl, hw⟩; have hw := hw.symm; subst hw) | fail
              refine (cx _).mono ?_
              rintro e w4 ⟨rfl, b⟩
              obtain ⟨BT, i0, i1, i2⟩ := through BK.out b
              have BR : Hid (Below _ _ w4) := after hb.out BT.out
              clear b
              have r0 := box BR.out 0 _ rfl; have r1 := box BR.out 1 _ rfl; have r2 := box BR.out 2 _ rfl; have f0 := fro BR.out 0; have f1 := fro BR.out 1; have f2 := fro BR.out 2
              go_wp2
              all_goals exact bodyPost_ret (v := .tuple #[.agg #[.int .i64 C, .bool false, .int .i64 V], .bool true]) (by simp [results, Tryz.results11, go_sem, r0, r1, r2]) rfl ⟨HQ.out.symm, ((((unbox BR.out)).setCell (p := ⟨w.heap.size, 0, none⟩) (Nat.le_refl _) _).setCell (p := ⟨w.heap.size, 1, none⟩) (Nat.le_refl _) _).setCell (p := ⟨w.heap.size, 2, none⟩) (Nat.le_refl _) _⟩
      · have hC2 : cbK k = true := by unfold cbK; simp; omega
        have k3 : (256 : Int) ≤ (k : Int) := by omega
        clear hb2 hlt
        try skip
        · have HR : Hid (codeK k = C ∧ cbK k = true) := ⟨hC1, hC2⟩
          have HKS : Hid (kS s k = flagS s C true) := by show _ = _; unfold kS; rw [hC1, hC2]
          have hz := Leng.tmpl_le C true c0 c1
          have hpp := hp_at C true c0 c1
          have ct := fun w => Tmpl.template_any C true w c0 c1
          have cf := fun w => fits_any s (Tmpl.tmplS C true) w (by omega) (by omega) hpp
          have BK : Hid (Below (wr.alloc (.cells #[.int .i64 C, .bool true, .int .i64 0] 25)).heap.size (wr.alloc (.cells #[.int .i64 C, .bool true, .int .i64 0] 25)) (wr.alloc (.cells #[.int .i64 C, .bool true, .int .i64 0] 25))) := Below.refl _ _
          clear hC1 hC2 hpp
          have HE : Hid (¬ (true = false ∧ (Tmpl.tmplS C true).size = 0)) := fun h => by cases h.1
          by_cases hF : fits s (Tmpl.tmplS C true) = false
          · have HF : Hid (kS s k = false) := by show _ = _; rw [HKS.out]; unfold flagS; rw [if_neg HE.out, if_pos hF]
            rw [hF] at cf
            generalize fitT s (Tmpl.tmplS C true) = I at cf
            clear hF HE hz HKS
            generalize Tmpl.tmplS C true = T at ct cf
            go_wp2_with first | (go_at_call 19; refine (ct _).mono ?_; rintro e w2 ⟨rfl, b⟩; have BK : Hid (Below _ _ w2) := after BK.out b; clear b; have i0 := box BK.out 0 _ rfl; have i1 := box BK.out 1 _ rfl; have i2 := box BK.out 2 _ rfl; have i3 := fro BK.out 2) | (go_at_call 32; refine (cf _).mono ?_; rintro e w3 ⟨rfl, b⟩; have BK : Hid (Below _ _ w3) := after BK.out b; clear b; have i0 := box BK.out 0 _ rfl; have i1 := box BK.out 1 _ rfl; have i2 := box BK.out 2 _ rfl; have i3 := fro BK.out 2) | fail
            all_goals
              try go_roundw
            case rel => exact ⟨k + 1, HM.out, by go_num, firstK_next (k := k) HM.out (HF.out) ha.out, after (hb.out.alloc hb.out.size _) BK.out⟩
            case measure => have := HM.out; simp [intOf]; omega
          have hG : flagS s C true = ((textV C true (valS s C true)).toList == s.toList) := by unfold flagS; rw [if_neg HE.out, if_neg hF]
          rw [show fits s (Tmpl.tmplS C true) = true by simpa using hF] at cf
          by_cases hI : (fitT s (Tmpl.tmplS C true)).size = 0
          · have hV : valS s C true = 0 := by unfold valS; rw [if_pos hI]
            have he := Leng.empty_yes hI
            rw [hV] at hG
            have HV : Hid (valS s C true = 0) := hV
            have cx := fun w => Texj.specText_any C true 0 w
            generalize textV C true 0 = X at cx hG
            generalize fitT s (Tmpl.tmplS C true) = I at cf he
            clear hV hI hF HE hz
            generalize Tmpl.tmplS C true = T at ct cf
            cases hX : X.toList == s.toList
            · rw [hX] at hG
              have HF : Hid (kS s k = false) := HKS.out.trans hG
              clear hG HKS HV
              go_wp2_with first | (go_at_call 19; refine (ct _).mono ?_; rintro e w2 ⟨rfl, b⟩; have BK : Hid (Below _ _ w2) := after BK.out b; clear b; have i0 := box BK.out 0 _ rfl; have i1 := box BK.out 1 _ rfl; have i2 := box BK.out 2 _ rfl; have i3 := fro BK.out 2) | (go_at_call 32; refine (cf _).mono ?_; rintro e w3 ⟨rfl, b⟩; have BK : Hid (Below _ _ w3) := after BK.out b; clear b; have i0 := box BK.out 0 _ rfl; have i1 := box BK.out 1 _ rfl; have i2 := box BK.out 2 _ rfl; have i3 := fro BK.out 2) | fail
              refine (cx _).mono ?_
              rintro e w4 ⟨rfl, b⟩
              have BK : Hid (Below _ _ w4) := after BK.out b
              clear b
              have BR : Hid (Below _ _ w4) := after (hb.out.alloc hb.out.size _) BK.out
              have i0 := box BK.out 0 _ rfl; have i1 := box BK.out 1 _ rfl; have i2 := box BK.out 2 _ rfl
              have r0 := box BR.out 0 _ rfl; have r1 := box BR.out 1 _ rfl; have r2 := box BR.out 2 _ rfl; have f0 := fro BR.out 0; have f1 := fro BR.out 1; have f2 := fro BR.out 2
              go_wp2_with fail
              all_goals
                try go_roundw
              case rel => exact ⟨k + 1, HM.out, by go_num, firstK_next (k := k) HM.out (HF.out) ha.out, BR.out⟩
              case measure => have := HM.out; simp [intOf]; omega
            · rw [hX] at hG
              have HQ : Hid (outS s (firstK (kS s) 512 0) = .returned (.tuple #[.agg #[.int .i64 C, .bool true, .int .i64 0], .bool true])) := by
                show _ = _
                rw [firstK_hit (k := k) HM.out (HKS.out.trans hG) ha.out, outS_some, HR.out.1, HR.out.2, HV.out]
              clear hG HKS HV
              go_wp2_with first | (go_at_call 19; refine (ct _).mono ?_; rintro e w2 ⟨rfl, b⟩; have BK : Hid (Below _ _ w2) := after BK.out b; clear b; have i0 := box BK.out 0 _ rfl; have i1 := box BK.out 1 _ rfl; have i2 := box BK.out 2 _ rfl; have i3 := fro BK.out 2) | (go_at_call 32; refine (cf _).mono ?_; rintro e w3 ⟨rfl, b⟩; have BK : Hid (Below _ _ w3) := after BK.out b; clear b; have i0 := box BK.out 0 _ rfl; have i1 := box BK.out 1 _ rfl; have i2 := box BK.out 2 _ rfl; have i3 := fro BK.out 2) | fail
              refine (cx _).mono ?_
              rintro e w4 ⟨rfl, b⟩
              have BK : Hid (Below _ _ w4) := after BK.out b
              clear b
              have BR : Hid (Below _ _ w4) := after (hb.out.alloc hb.out.size _) BK.out
              have i0 := box BK.out 0 _ rfl; have i1 := box BK.out 1 _ rfl; have i2 := box BK.out 2 _ rfl
              have r0 := box BR.out 0 _ rfl; have r1 := box BR.out 1 _ rfl; have r2 := box BR.out 2 _ rfl; have f0 := fro BR.out 0; have f1 := fro BR.out 1; have f2 := fro BR.out 2
              go_wp2
              all_goals exact bodyPost_ret (v := .tuple #[.agg #[.int .i64 C, .bool true, .int .i64 0], .bool true]) (by simp [results, Tryz.results11, go_sem, r0, r1, r2]) rfl ⟨HQ.out.symm, ((((unbox BR.out)).setCell (p := ⟨w.heap.size, 0, none⟩) (Nat.le_refl _) _).setCell (p := ⟨w.heap.size, 1, none⟩) (Nat.le_refl _) _).setCell (p := ⟨w.heap.size, 2, none⟩) (Nat.le_refl _) _⟩
          · have hV : valS s C true = im (fitT s (Tmpl.tmplS C true)) := by unfold valS; rw [if_neg hI]
            have he := Leng.empty_no hI
            rw [hV] at hG
            have ci := fun w => l3Imm_any (fitT s (Tmpl.tmplS C true)) w (by have := fitT_le s (Tmpl.tmplS C true); omega)
            have HV : Hid (valS s C true = im (fitT s (Tmpl.tmplS C true))) := hV
            generalize im (fitT s (Tmpl.tmplS C true)) = V at ci hG HV
            have cx := fun w => Texj.specText_any C true V w
            generalize textV C true V = X at cx hG
            generalize fitT s (Tmpl.tmplS C true) = I at cf he ci
            clear hV hI hF HE hz
            generalize Tmpl.tmplS C true = T at ct cf
            cases hX : X.toList == s.toList
            · rw [hX] at hG
              have HF : Hid (kS s k = false) := HKS.out.trans hG
              clear hG HKS HV
              go_wp2_with first | (go_at_call 19; refine (ct _).mono ?_; rintro e w2 ⟨rfl, b⟩; have BK : Hid (Below _ _ w2) := after BK.out b; clear b; have i0 := box BK.out 0 _ rfl; have i1 := box BK.out 1 _ rfl; have i2 := box BK.out 2 _ rfl; have i3 := fro BK.out 2) | (go_at_call 32; refine (cf _).mono ?_; rintro e w3 ⟨rfl, b⟩; have BK : Hid (Below _ _ w3) := after BK.out b; clear b; have i0 := box BK.out 0 _ rfl; have i1 := box BK.out 1 _ rfl; have i2 := box BK.out 2 _ rfl; have i3 := fro BK.out 2) | (go_at_call 33; refine (ci _).mono ?_; rintro e w' ⟨rfl, hw⟩; have hw := hw.symm; subst hw) | fail
              refine (cx _).mono ?_
              rintro e w4 ⟨rfl, b⟩
              obtain ⟨BT, i0, i1, i2⟩ := through BK.out b
              have BR : Hid (Below _ _ w4) := after hb.out BT.out
              clear b
              have r0 := box BR.out 0 _ rfl; have r1 := box BR.out 1 _ rfl; have r2 := box BR.out 2 _ rfl; have f0 := fro BR.out 0; have f1 := fro BR.out 1; have f2 := fro BR.out 2
              go_wp2_with fail
              all_goals
                try go_roundw
              case rel => exact ⟨k + 1, HM.out, by go_num, firstK_next (k := k) HM.out (HF.out) ha.out, BR.out⟩
              case measure => have := HM.out; simp [intOf]; omega
            · rw [hX] at hG
              have HQ : Hid (outS s (firstK (kS s) 512 0) = .returned (.tuple #[.agg #[.int .i64 C, .bool true, .int .i64 V], .bool true])) := by
                show _ = _
                rw [firstK_hit (k := k) HM.out (HKS.out.trans hG) ha.out, outS_some, HR.out.1, HR.out.2, HV.out]
              clear hG HKS HV
              go_wp2_with first | (go_at_call 19; refine (ct _).mono ?_; rintro e w2 ⟨rfl, b⟩; have BK : Hid (Below _ _ w2) := after BK.out b; clear b; have i0 := box BK.out 0 _ rfl; have i1 := box BK.out 1 _ rfl; have i2 := box BK.out 2 _ rfl; have i3 := fro BK.out 2) | (go_at_call 32; refine (cf _).mono ?_; rintro e w3 ⟨rfl, b⟩; have BK : Hid (Below _ _ w3) := after BK.out b; clear b; have i0 := box BK.out 0 _ rfl; have i1 := box BK.out 1 _ rfl; have i2 := box BK.out 2 _ rfl; have i3 := fro BK.out 2) | (go_at_call 33; refine (ci _).mono ?_; rintro e w' ⟨rfl, hw⟩; have hw := hw.symm; subst hw) | fail
              refine (cx _).mono ?_
              rintro e w4 ⟨rfl, b⟩
              obtain ⟨BT, i0, i1, i2⟩ := through BK.out b
              have BR : Hid (Below _ _ w4) := after hb.out BT.out
              clear b
              have r0 := box BR.out 0 _ rfl; have r1 := box BR.out 1 _ rfl; have r2 := box BR.out 2 _ rfl; have f0 := fro BR.out 0; have f1 := fro BR.out 1; have f2 := fro BR.out 2
              go_wp2
              all_goals exact bodyPost_ret (v := .tuple #[.agg #[.int .i64 C, .bool true, .int .i64 V], .bool true]) (by simp [results, Tryz.results11, go_sem, r0, r1, r2]) rfl ⟨HQ.out.symm, ((((unbox BR.out)).setCell (p := ⟨w.heap.size, 0, none⟩) (Nat.le_refl _) _).setCell (p := ⟨w.heap.size, 1, none⟩) (Nat.le_refl _) _).setCell (p := ⟨w.heap.size, 2, none⟩) (Nat.le_refl _) _⟩
    · have HM : Hid (k = 512) := by show k = 512; omega
      have k1 : ¬ (k : Int) < 512 := by omega
      have k2 : decide ((k : Int) < 512) = false := decide_eq_false k1
      have HQ : Hid (firstK (kS s) 512 0 = none) := by
        have := ha.out
        rw [HM.out] at this
        exact this
      clear hk hlt
      have r0 := box hb.out 0 _ rfl
      have r1 := box hb.out 1 _ rfl
      have r2 := box hb.out 2 _ rfl
      have f0 := fro hb.out 0
      have f1 := fro hb.out 1
      have f2 := fro hb.out 2
      go_wp2
      rw [HQ.out]
      exact bodyPost_ret (v := .tuple #[.agg #[.int .i64 0, .bool false, .int .i64 0], .bool false]) (by simp [results, Tryz.results11, go_sem, r0, r1, r2]) rfl ⟨rfl, ((((unbox hb.out)).setCell (p := ⟨w.heap.size, 0, none⟩) (Nat.le_refl _) _).setCell (p := ⟨w.heap.size, 1, none⟩) (Nat.le_refl _) _).setCell (p := ⟨w.heap.size, 2, none⟩) (Nat.le_refl _) _⟩
end Go.Proofs.YtoajaadobieekaaGreatDoor.Rinsu
