/-
  Contracts of ours for spec.l13Listed and both Listed.
-/
import Derived.Test.YtnfonccimaikgaaGreatDoorLstb
namespace Go.Proofs.YtnfonccimaikgaaGreatDoor.Lstc
open Go.ChangeShapes Go.WideShapes Go.ChangeAt Go.RowKit Go.Deep
open Signed (inB sgn)
open HolI LenX InsX Texi ReadI Lstp Lsta Lstb
open Txts (Texts infoS)
set_option linter.unusedVariables false
set_option maxRecDepth 20000

theorem lineAt_ds {s : ByteArray} {base : Int} {a : Nat} (h4 : 4 ≤ zer s a) : lineAt s base a = (dsB ++ Deci.dec (zer s a : Int) ⟨#[]⟩, zer s a) := if_pos h4
theorem lineAt_ins {s : ByteArray} {base : Int} {a : Nat} (h4 : ¬ 4 ≤ zer s a) (hn : 0 < readN s a) (hV : ¬ (insV s base a).size = 0) : lineAt s base a = (insV s base a, (readN s a).toNat) := by
  unfold lineAt; rw [if_neg h4, if_pos ⟨hn, hV⟩]
theorem lineAt_db {s : ByteArray} {base : Int} {a : Nat} (h4 : ¬ 4 ≤ zer s a) (h : ¬ (0 < readN s a ∧ ¬ (insV s base a).size = 0)) : lineAt s base a = (dbB ++ Hex.hexS (byteAt s a) 2, 1) := by
  unfold lineAt; rw [if_neg h4, if_neg h]
set_option maxHeartbeats 4000000 in
theorem specList_any (s : ByteArray) (bs : Int) (w : World) (hs : s.size ≤ 256) (hb0 : 0 ≤ bs) (hb1 : bs ≤ 256) :
    Calls Tryz.prog 14 #[.string s, .int .i64 bs] w fun e w' => ∃ v, e = .returned v ∧ Owned w w' v (listL s bs 0) := by
  obtain ⟨i0, hi, hz0, hz1, hz2⟩ := info_parts infoS
  have own0 : Hid ((w.alloc (.cells #[] 9)).ownsRow w.heap.size 9 1 (.slice (some ⟨w.heap.size, 0, none⟩) 0 0) 0 []) := World.ownsRow_lit w #[] 0 (Nat.le_refl _) (Nat.zero_le _) rfl
  have bel0 : Hid (Below w.heap.size w (w.alloc (.cells #[] 9))) := (Below.refl _ _).alloc (Nat.le_refl _) _
  obtain ⟨L, hL⟩ : ∃ L, L = listL s bs 0 := ⟨_, rfl⟩
  rw [← hL]
  have HL : Hid (L = [] ++ listL s bs 0) := hL
  clear hL
  go_enter Tryz.func14, Tryz.ntmps14
  go_wp2
  go_loopw [5, 6] (fun v i wr => ∃ (D : List ByteArray) (a : Nat), i = .int .i64 (a : Int) ∧ a ≤ s.size ∧ D.length ≤ a ∧ Hid (L = D ++ listL s bs a) ∧ Hid (wr.ownsRow w.heap.size 9 1 v D.length (D.map Value.string)) ∧ Hid (Below w.heap.size w wr)) (fun _ i _ => s.size - (intOf i).toNat)
  case atStart => exact ⟨[], 0, rfl, Nat.zero_le _, Nat.zero_le _, HL.out, own0.out, bel0.out⟩
  case round =>
    obtain ⟨D, a, rfl, ha, hd, hr, hown, hbel⟩ := hrel
    clear HL own0 bel0
    by_cases hlt : a < s.size
    · have HBD : Hid (_ ∧ _) := lineAt_bd s bs a hlt
      have HR : Hid (L = (D ++ [(lineAt s bs a).1]) ++ listL s bs (a + (lineAt s bs a).2)) := (show _ = _ from by have := hr.out; rw [list_step hlt] at this; rw [this, List.append_assoc]; rfl)
      have dl : decide ((a : Int) < (s.size : Int)) = true := decide_eq_true (by omega)
      have dl2 : decide (a < s.size) = true := decide_eq_true (by omega)
      have HZ : Hid (zer s a = 0 + zer s (a + 0)) := (show zer s a = 0 + zer s (a + 0) from by simp)
      have hzl := zer_le s a (by omega)
      clear hr
      obtain ⟨W0, hW0⟩ : ∃ W, W = wr := ⟨_, rfl⟩
      subst hW0
      obtain ⟨v0, hv0⟩ : ∃ v, v = u5 := ⟨_, rfl⟩
      subst hv0
      go_wp2
      go_loopw [7] (fun j wq => ∃ q : Nat, j = .int .i64 (q : Int) ∧ a + q ≤ s.size ∧ Hid (zer s a = q + zer s (a + q)) ∧ wq = W0) (fun j _ => s.size - a - (intOf j).toNat)
      case atStart => exact ⟨0, rfl, by omega, HZ.out, rfl⟩
      case round =>
        obtain ⟨q, rfl, hq, HQ, rfl⟩ := hrel
        clear HZ
        have dw : IntKind.i64.wrap ((a : Int) + (q : Int)) = (a : Int) + (q : Int) := by rw [IntKind.wrap_i64]; omega
        have hc : ((a + q : Nat) : Int) = (a : Int) + (q : Int) := by omega
        by_cases hz : a + q < s.size ∧ byteAt s ((a : Int) + (q : Int)) = 0
        · have ix := ReadI.ix s ((a : Int) + (q : Int)) (by omega) (by omega)
          have HS : Hid (zer s a = (q + 1) + zer s (a + (q + 1))) := (show _ = _ from by have := HQ.out; rw [zer_step hz.1 (by rw [hc]; exact hz.2)] at this; rw [this, Nat.add_assoc a q 1]; omega)
          rw [hz.2] at ix
          have dz : decide ((a : Int) + (q : Int) < (s.size : Int)) = true := decide_eq_true (by omega)
          have dp : IntKind.i64.wrap ((q : Int) + 1) = ((q + 1 : Nat) : Int) := by rw [IntKind.wrap_i64]; omega
          have hz1 := hz.1
          clear hz HQ hc
          go_wp2
          go_roundw
          case rel => exact ⟨q + 1, by go_num, by omega, HS.out, by first | rfl | trivial⟩
          case measure => simp [intOf]; omega
        have HE : Hid (zer s a = q) := (show _ = _ from by
          have := HQ.out
          by_cases h1 : a + q < s.size
          · rw [zer_stop h1 (by rw [hc]; exact fun h => hz ⟨h1, h⟩)] at this; omega
          · rw [zer_end h1] at this; omega)
        have key : (decide ((a : Int) + (q : Int) < (s.size : Int)) = false) ∨ (decide ((a : Int) + (q : Int) < (s.size : Int)) = true ∧ ∃ y : Int, (y == 0) = false ∧ ¬ y = 0 ∧ ∀ w, (Instr.index 9 (.string s) (.int .i64 ((a : Int) + (q : Int)))).run Tryz.prog w = .ok (.int .u8 y) w) := by
          by_cases h1 : a + q < s.size
          · exact .inr ⟨decide_eq_true (by omega), _, by simpa using fun h => hz ⟨h1, h⟩, fun h => hz ⟨h1, h⟩, ReadI.ix s ((a : Int) + (q : Int)) (by omega) (by omega)⟩
          · exact .inl (decide_eq_false (by omega))
        clear HQ hz hc
        have go : True := trivial
        rcases key with dz | ⟨dz, y, y0, y1, ix⟩
        all_goals go_upto_region 7 with fail
        all_goals (try clear ix y0 y1)
        all_goals clear dz dw
        all_goals
          by_cases h4 : 4 ≤ q
          · have e := lineAt_ds (s := s) (base := bs) (a := a) (by rw [HE.out]; exact h4)
            rw [HE.out] at e
            have HR : Hid (L = (D ++ [dsB ++ Deci.dec (q : Int) ⟨#[]⟩]) ++ listL s bs (a + q)) := (show _ = _ from by have := HR.out; rw [e] at this; exact this)
            have cd := fun w => Deci.l1Dec_any (q : Int) w (by omega) (by omega)
            have zd := dec_le (n := (q : Int)) (by omega) (by omega)
            clear e
            generalize Deci.dec (q : Int) ⟨#[]⟩ = X at cd zd HR
            have q3 : ¬ 9223372036854775807 < 3 + X.size := by omega
            have d4 : decide ((3 : Int) < (q : Int)) = true := decide_eq_true (by omega)
            have da : IntKind.i64.wrap ((a : Int) + (q : Int)) = ((a + q : Nat) : Int) := by rw [IntKind.wrap_i64]; omega
            go_wp2_with fail
            refine (cd _).mono ?_
            rintro e w1 ⟨rfl, b1⟩
            have own1 : Hid (w1.ownsRow w.heap.size 9 1 v0 D.length (D.map Value.string)) := Marks.own_below hown.out b1
            have bel1 : Hid (Below w.heap.size w w1) := after hbel.out b1
            clear b1 cd hown hbel
            have hlt2 := own1.out.lt
            go_wp2_with (first | (at_builtin; refine wpList_append_own _ rfl (.tmp 34) (.tmp 38) 22 rfl w.heap.size 9 i0 (.string ⟨#[]⟩) 1 16 Tryz.underlying22 hi hz0 hz1 hz2 rfl (by decide) _ _ _ rfl (own1.out.alloc _) ⟨w1.heap.size, 0, none⟩ 1 1 [.string (dsB ++ X)] rfl rfl (cell_one_new _ _ _) (by intro u hu; simp at hu; subst hu; rfl) (by unfold maxLen; omega) (by omega) (by have := bel1.out.size; simp; omega) ?_; intro v' w9 hown' hgrow _) | fail)
            have own9 : Hid (w9.ownsRow w.heap.size 9 1 v' (D ++ [dsB ++ X]).length ((D ++ [dsB ++ X]).map Value.string)) := own_snoc hown' rfl
            have bel9 : Hid (Below w.heap.size w w9) := (bel1.out.alloc bel1.out.size _).grown hgrow (by have := bel1.out.size; simp; omega) (fun j hj => (hlt2 j hj).1)
            clear hown' hgrow hlt2
            go_wp2
            go_roundw
            case rel => exact ⟨D ++ [dsB ++ X], a + q, by go_num, by omega, by simp; omega, HR.out, own9.out, bel9.out⟩
            case measure => simp [intOf]; omega
          · have cr := fun w => ReadI.specRead_any s (a : Int) w (by omega) (by omega)
            rw [readI_P] at cr
            unfold Tup at cr
            have hbd := readP_bd s (a : Int)
            have hn := readN_bd s (a : Int)
            have hrn : relB (readP s a).1 (readP s a).2.1 = true → readN s a = 2 := read_rel
            have hins := fun hn hV => lineAt_ins (s := s) (base := bs) (a := a) (by rw [HE.out]; exact h4) hn hV
            have hdb := fun h => lineAt_db (s := s) (base := bs) (a := a) (by rw [HE.out]; exact h4) h
            have HINS : Hid (∀ hn hV, _) := hins
            have HDB : Hid (∀ h, _) := hdb
            clear hins hdb
            have hi' : insV s bs a = lineV (readP s a).1 (readP s a).2.1 (readP s a).2.2 (bs + a) := rfl
            have cx := fun w => specLine_any (readP s a).1 (readP s a).2.1 (readP s a).2.2 (bs + a) (readN s a) w hbd.1 hbd.2 (by omega) (by omega) hrn
            rw [← hi'] at cx
            clear hi' hrn
            generalize insV s bs a = V at cx HINS HDB
            generalize (readP s a).1 = rc at cr cx
            generalize (readP s a).2.1 = rb at cr cx
            generalize (readP s a).2.2 = rm at cr cx
            generalize readN s a = n at cr cx hn HINS HDB
            have d4 : decide ((3 : Int) < (q : Int)) = false := decide_eq_false (by omega)
            have dbs : IntKind.i64.wrap (bs + (a : Int)) = bs + (a : Int) := by rw [IntKind.wrap_i64]; omega
            obtain ⟨n0, n3, nb⟩ := hn
            have HH4 : Hid (¬ 4 ≤ q) := h4
            clear hbd h4
            go_wp2_with fail
            refine (cr _).mono ?_
            rintro e w1 ⟨rfl, b1⟩
            have own1 : Hid (w1.ownsRow w.heap.size 9 1 v0 D.length (D.map Value.string)) := Marks.own_below hown.out b1
            have bel1 : Hid (Below w.heap.size w w1) := after hbel.out b1
            clear b1 cr hown hbel
            have own2 : Hid ((w1.alloc (.cells #[.int .i64 rc, .bool rb, .int .i64 rm] 38)).ownsRow w.heap.size 9 1 v0 D.length (D.map Value.string)) := own1.out.alloc _
            have bel2 : Hid (Below w.heap.size w (w1.alloc (.cells #[.int .i64 rc, .bool rb, .int .i64 rm] 38))) := bel1.out.alloc bel1.out.size _
            by_cases hn0 : 0 < n
            · have dn : decide (0 < n) = true := decide_eq_true hn0
              have hnb := nb hn0
              clear nb
              go_wp2_with fail
              refine (cx _).mono ?_
              rintro e w2 ⟨rfl, b2⟩
              have own3 : Hid (w2.ownsRow w.heap.size 9 1 v0 D.length (D.map Value.string)) := Marks.own_below own2.out b2
              have bel3 : Hid (Below w.heap.size w w2) := after bel2.out b2
              clear b2 cx own1 bel1 own2 bel2
              by_cases hV : V.size = 0
              · have he := Leng.empty_yes hV
                have HR : Hid (L = (D ++ [dbB ++ Hex.hexS (byteAt s a) 2]) ++ listL s bs (a + 1)) := (show _ = _ from by have := HR.out; rw [HDB.out (fun hh => hh.2 hV)] at this; exact this)
                clear HINS HDB hV
                have ix := ReadI.ix s (a : Int) (by omega) (by omega)
                have hby := byteAt_bd s (a : Int)
                have ch := fun w => Hex.specHex_any (byteAt s a) 2 w
                have zv := hex_size (byteAt s a) 2 (by omega)
                have zv : (Hex.hexS (byteAt s a) 2).size ≤ 5 := by omega
                generalize Hex.hexS (byteAt s a) 2 = X at ch zv HR
                generalize byteAt s a = by0 at ix hby ch
                have q3 : ¬ 9223372036854775807 < 3 + X.size := by omega
                have hw8 : IntKind.i64.wrap by0 = by0 := by rw [IntKind.wrap_i64]; omega
                have da : IntKind.i64.wrap ((a : Int) + 1) = ((a + 1 : Nat) : Int) := by rw [IntKind.wrap_i64]; omega
                have own3 : Hid (w2.ownsRow w.heap.size 9 1 v0 D.length (D.map Value.string)) := own3.out
                have hlt2 := own3.out.lt
                go_wp2_with (first | (go_at_call 24; refine (ch _).mono ?_; rintro e w' ⟨rfl, hw⟩; have hw := hw.symm; subst hw) | (at_builtin; refine wpList_append_own _ rfl (.tmp 65) (.tmp 67) 22 rfl w.heap.size 9 i0 (.string ⟨#[]⟩) 1 16 Tryz.underlying22 hi hz0 hz1 hz2 rfl (by decide) _ _ _ rfl (own3.out.alloc _) ⟨w2.heap.size, 0, none⟩ 1 1 [.string (dbB ++ X)] rfl rfl (cell_one_new _ _ _) (by intro u hu; simp at hu; subst hu; rfl) (by unfold maxLen; omega) (by omega) (by have := bel3.out.size; simp; omega) ?_; intro v' w9 hown' hgrow _) | fail)
                have own9 : Hid (w9.ownsRow w.heap.size 9 1 v' (D ++ [dbB ++ X]).length ((D ++ [dbB ++ X]).map Value.string)) := own_snoc hown' rfl
                have bel9 : Hid (Below w.heap.size w w9) := (bel3.out.alloc bel3.out.size _).grown hgrow (by have := bel3.out.size; simp; omega) (fun j hj => (hlt2 j hj).1)
                clear hown' hgrow hlt2
                go_wp2
                go_roundw
                case rel => exact ⟨D ++ [dbB ++ X], a + 1, by go_num, by omega, by simp; omega, HR.out, own9.out, bel9.out⟩
                case measure => simp [intOf]; omega
              · have he := Leng.empty_no hV
                have HR : Hid (L = (D ++ [V]) ++ listL s bs (a + n.toNat)) := (show _ = _ from by have := HR.out; rw [HINS.out hn0 hV] at this; exact this)
                clear HINS HDB hV
                have da : IntKind.i64.wrap ((a : Int) + n) = ((a + n.toNat : Nat) : Int) := by rw [IntKind.wrap_i64]; omega
                have hlt2 := own3.out.lt
                go_wp2_with (first | (at_builtin; refine wpList_append_own _ rfl (.tmp 65) (.tmp 67) 22 rfl w.heap.size 9 i0 (.string ⟨#[]⟩) 1 16 Tryz.underlying22 hi hz0 hz1 hz2 rfl (by decide) _ _ _ rfl (own3.out.alloc _) ⟨w2.heap.size, 0, none⟩ 1 1 [.string V] rfl rfl (cell_one_new _ _ _) (by intro u hu; simp at hu; subst hu; rfl) (by unfold maxLen; omega) (by omega) (by have := bel3.out.size; simp; omega) ?_; intro v' w9 hown' hgrow _) | fail)
                have own9 : Hid (w9.ownsRow w.heap.size 9 1 v' (D ++ [V]).length ((D ++ [V]).map Value.string)) := own_snoc hown' rfl
                have bel9 : Hid (Below w.heap.size w w9) := (bel3.out.alloc bel3.out.size _).grown hgrow (by have := bel3.out.size; simp; omega) (fun j hj => (hlt2 j hj).1)
                clear hown' hgrow hlt2
                go_wp2
                go_roundw
                case rel => exact ⟨D ++ [V], a + n.toNat, by go_num, by omega, by simp; omega, HR.out, own9.out, bel9.out⟩
                case measure => simp [intOf]; omega
            · have dn : decide (0 < n) = false := decide_eq_false hn0
              have HR : Hid (L = (D ++ [dbB ++ Hex.hexS (byteAt s a) 2]) ++ listL s bs (a + 1)) := (show _ = _ from by have := HR.out; rw [HDB.out (fun hh => hn0 hh.1)] at this; exact this)
              clear HINS HDB cx nb own1 bel1
              have HN0 : Hid (¬ 0 < n) := hn0
              clear hn0
              obtain ⟨W2, hW2⟩ : ∃ W, W = w1.alloc (.cells #[.int .i64 rc, .bool rb, .int .i64 rm] 38) := ⟨_, rfl⟩
              rw [← hW2] at own2 bel2
              go_upto_region 12 with fail
              rw [← hW2]
              clear hW2
              have ix := ReadI.ix s (a : Int) (by omega) (by omega)
              have hby := byteAt_bd s (a : Int)
              have ch := fun w => Hex.specHex_any (byteAt s a) 2 w
              have zv := hex_size (byteAt s a) 2 (by omega)
              have zv : (Hex.hexS (byteAt s a) 2).size ≤ 5 := by omega
              generalize Hex.hexS (byteAt s a) 2 = X at ch zv HR
              generalize byteAt s a = by0 at ix hby ch
              have q3 : ¬ 9223372036854775807 < 3 + X.size := by omega
              have hw8 : IntKind.i64.wrap by0 = by0 := by rw [IntKind.wrap_i64]; omega
              have da : IntKind.i64.wrap ((a : Int) + 1) = ((a + 1 : Nat) : Int) := by rw [IntKind.wrap_i64]; omega
              have own3 : Hid (W2.ownsRow w.heap.size 9 1 v0 D.length (D.map Value.string)) := own2.out
              have hlt2 := own3.out.lt
              go_wp2_with (first | (go_at_call 24; refine (ch _).mono ?_; rintro e w' ⟨rfl, hw⟩; have hw := hw.symm; subst hw) | (at_builtin; refine wpList_append_own _ rfl (.tmp 65) (.tmp 67) 22 rfl w.heap.size 9 i0 (.string ⟨#[]⟩) 1 16 Tryz.underlying22 hi hz0 hz1 hz2 rfl (by decide) _ _ _ rfl (own3.out.alloc _) ⟨W2.heap.size, 0, none⟩ 1 1 [.string (dbB ++ X)] rfl rfl (cell_one_new _ _ _) (by intro u hu; simp at hu; subst hu; rfl) (by unfold maxLen; omega) (by omega) (by have := bel2.out.size; simp; omega) ?_; intro v' w9 hown' hgrow _) | fail)
              have own9 : Hid (w9.ownsRow w.heap.size 9 1 v' (D ++ [dbB ++ X]).length ((D ++ [dbB ++ X]).map Value.string)) := own_snoc hown' rfl
              have bel9 : Hid (Below w.heap.size w w9) := (bel2.out.alloc bel2.out.size _).grown hgrow (by have := bel2.out.size; simp; omega) (fun j hj => (hlt2 j hj).1)
              clear hown' hgrow hlt2
              go_wp2
              go_roundw
              case rel => exact ⟨D ++ [dbB ++ X], a + 1, by go_num, by omega, by simp; omega, HR.out, own9.out, bel9.out⟩
              case measure => simp [intOf]; omega
    · have dl : decide ((a : Int) < (s.size : Int)) = false := decide_eq_false (by omega)
      have dl2 : decide (a < s.size) = false := decide_eq_false (by omega)
      have HR : Hid (L = D) := (show L = D from by have := hr.out; rw [list_end hlt, List.append_nil] at this; exact this)
      clear hr
      go_wp2
      go_ret
      exact ⟨_, rfl, by rw [HR.out]; exact ⟨hown.out, hbel.out⟩⟩
end Go.Proofs.YtnfonccimaikgaaGreatDoor.Lstc
