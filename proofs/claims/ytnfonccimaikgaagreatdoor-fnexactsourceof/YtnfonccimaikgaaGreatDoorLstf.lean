/-
  Contracts of ours for both SourceOf.
-/
import Derived.Test.YtnfonccimaikgaaGreatDoorLste
namespace Go.Proofs.YtnfonccimaikgaaGreatDoor.Lstf
open Go.ChangeShapes Go.WideShapes Go.ChangeAt Go.RowKit Go.Deep
open Signed (inB l1In_any ret_bool ret_int)
open HolI LenX InsX Texi ReadI Lstp Lsta Lstb Lstc Lstd Lste
open Txts (Texts infoS)
set_option linter.unusedVariables false
set_option maxRecDepth 20000

theorem dec_256 : Deci.dec 256 ⟨#[]⟩ = ⟨#[50, 53, 54]⟩ := by
  rw [Deci.dec_pos (by omega) (by omega)]
  rfl
theorem sec_impl {k : Nat} (h : ¬ k = 0) : (⟨#[115, 101, 99, 116, 105, 111, 110, 32, 98, 97, 110, 107]⟩ : ByteArray) ++ Deci.dec (k : Int) ⟨#[]⟩ ++ ⟨#[44, 114, 111, 109, 120, 44]⟩ ++ ⟨#[50, 53, 54]⟩ ++ ⟨#[44]⟩ ++ Deci.dec (k : Int) ⟨#[]⟩ = secL k := by
  unfold secL
  rw [if_neg h]
  apply ByteArray.ext
  apply Array.ext'
  simp [ByteArray.data_append]
theorem ret_str {a b : ByteArray} (h : b = a) : Ending.returned (.string a) = .returned (.string b) := by rw [h]
set_option maxHeartbeats 1000000 in
theorem section_any (k : Nat) (w : World) (hP : Pow w) (hk : k ≤ 256) :
    Calls Tryz.prog 20 #[.int .i64 (k : Int)] w fun e w' => e = .returned (.string (secL k)) ∧ Below w.heap.size w w' := by
  by_cases h : k = 0
  · subst h
    go_enter Tryz.func20, Tryz.ntmps20
    go_wp2
    go_ret
    exact ⟨rfl, Below.refl _ _⟩
  · have HS : Hid (_ = secL k) := sec_impl h
    have HP : Hid (Pow w) := hP
    have c1 := fun w hP => decimal_any (k : Int) w hP (by omega) (by omega)
    have c2 := fun w hP => decimal_any 256 w hP (by omega) (by omega)
    rw [dec_256] at c2
    have hd := dec_le (n := (k : Int)) (by omega) (by omega)
    have e0 : ((k : Int) == 0) = false := by simp; omega
    have e1 : ¬ (k : Int) = 0 := by omega
    generalize Deci.dec (k : Int) ⟨#[]⟩ = D at c1 hd HS
    have q1 : ¬ 9223372036854775807 < 12 + D.size := by omega
    have q2 : ¬ 9223372036854775807 < 12 + D.size + 6 := by omega
    have q3 : ¬ 9223372036854775807 < 12 + D.size + 6 + 3 := by omega
    have q4 : ¬ 9223372036854775807 < 12 + D.size + 6 + 3 + 1 := by omega
    have q5 : ¬ 9223372036854775807 < 12 + D.size + 6 + 3 + 1 + D.size := by omega
    clear hP h
    go_enter Tryz.func20, Tryz.ntmps20
    go_wp2_with fail
    refine (c1 _ HP.out).mono ?_
    rintro e w1 ⟨rfl, b1⟩
    have B1 : Hid (Below w.heap.size w w1) := b1
    clear b1
    go_wp2_with fail
    refine (c2 _ (HP.out.below B1.out)).mono ?_
    rintro e w2 ⟨rfl, b2⟩
    have B2 : Hid (Below w.heap.size w w2) := after B1.out b2
    clear b2 B1
    go_wp2_with fail
    refine (c1 _ (HP.out.below B2.out)).mono ?_
    rintro e w3 ⟨rfl, b3⟩
    have B3 : Hid (Below w.heap.size w w3) := after B2.out b3
    clear b3 B2
    go_wp2
    go_ret
    exact ⟨ret_str HS.out.symm, B3.out⟩
theorem own_app {w : World} {base n m : Nat} {v : Value} {D E : List ByteArray} (h : w.ownsRow base 9 1 v (n + m) (D.map Value.string ++ E.map Value.string)) (hn : n = D.length) (hm : m = E.length) : w.ownsRow base 9 1 v (D ++ E).length ((D ++ E).map Value.string) := by
  rw [List.map_append, List.length_append]; rw [hn, hm] at h; exact h
theorem srcV_no {rom : ByteArray} (h : okS rom = false) : srcV rom = ⟨#[]⟩ ∧ srcB rom = false := ⟨if_neg (fun e => by rw [h] at e; exact absurd e.1 (by decide)), by unfold srcB; rw [h]; rfl⟩
theorem srcV_out {rom : ByteArray} (h : okS rom = true) (hf : fitS rom = false) : srcV rom = ⟨#[]⟩ ∧ srcB rom = false := ⟨if_neg (fun e => by rw [hf] at e; exact absurd e.2 (by decide)), by unfold srcB; rw [hf, Bool.and_false]⟩
theorem srcV_in {rom : ByteArray} (h : okS rom = true) (hf : fitS rom = true) : srcV rom = cat (allL rom (rom.size / 256)) ∧ srcB rom = true := ⟨if_pos ⟨h, hf⟩, by unfold srcB; rw [h, hf]; rfl⟩
set_option maxHeartbeats 2000000 in
theorem implSource_any (rom : ByteArray) (w : World) (hT : PartN.Tables w) (hP : Pow w) (hm : MaxL w) (hs : rom.size ≤ 1048576) :
    Calls Tryz.prog 11 #[.string rom] w fun e w' => e = .returned (.tuple #[.string (srcV rom), .bool (srcB rom)]) ∧ Below w.heap.size w w' := by
  obtain ⟨i0, hi, hz0, hz1, hz2⟩ := info_parts infoS
  have HX : Hid (PartN.Tables w ∧ Pow w ∧ MaxL w) := ⟨hT, hP, hm⟩
  clear hT hP hm
  have c1 := fun w => romOk_any rom w hs
  have c2 := fun w => banksOf_any rom w hs
  cases hok : okS rom
  · rw [(srcV_no hok).1, (srcV_no hok).2]
    have h' : romB rom.size = false ∨ (romB rom.size = true ∧ 12 < (rom.size : Int) / 256) := by
      unfold okS at hok
      cases hr : romB rom.size
      · exact .inl rfl
      · rw [hr, Bool.true_and] at hok
        have := of_decide_eq_false hok
        exact .inr ⟨rfl, by omega⟩
    clear hok
    rcases h' with hr | ⟨hr, hb⟩
    · rw [hr] at c1
      go_enter Tryz.func11, Tryz.ntmps11
      go_wp2_with first | (go_at_call 15; refine (c1 _).mono ?_; rintro e w' ⟨rfl, hw⟩; have hw := hw.symm; subst hw) | (go_at_call 16; refine (c2 _).mono ?_; rintro e w' ⟨rfl, hw⟩; have hw := hw.symm; subst hw)
      go_ret2
      exact ⟨rfl, Below.refl _ _⟩
    · rw [hr] at c1
      generalize (rom.size : Int) / 256 = n at c2 hb
      have d2 : decide (12 < n) = true := decide_eq_true hb
      go_enter Tryz.func11, Tryz.ntmps11
      go_wp2_with first | (go_at_call 15; refine (c1 _).mono ?_; rintro e w' ⟨rfl, hw⟩; have hw := hw.symm; subst hw) | (go_at_call 16; refine (c2 _).mono ?_; rintro e w' ⟨rfl, hw⟩; have hw := hw.symm; subst hw)
      go_ret2
      exact ⟨rfl, Below.refl _ _⟩
  have HO := okS_of hok
  have HLS : Hid (∀ k : Nat, k < rom.size / 256 → okL rom (k : Int) = true) := fun k hk => okL_of hok k hk
  have HSV : Hid ((fitS rom = false → srcV rom = ⟨#[]⟩ ∧ srcB rom = false) ∧ (fitS rom = true → srcV rom = cat (allL rom (rom.size / 256)) ∧ srcB rom = true)) := ⟨fun h => srcV_out hok h, fun h => srcV_in hok h⟩
  have HLE : Hid (∀ k : Nat, k ≤ 256 → ∀ x ∈ allL rom k, x.size ≤ 85) := all_le rom
  have HLN : Hid (∀ k : Nat, (allL rom k).length ≤ 257 * k) := all_len rom
  have HFT : Hid (fitS rom = decide ((allL rom (rom.size / 256)).length ≤ 1500 ∧ (cat (allL rom (rom.size / 256))).size ≤ 40000)) := (show _ = _ from rfl)
  rw [HO.1] at c1
  obtain ⟨-, -, -, -, hn2, hn12⟩ := HO
  rw [show (rom.size : Int) / 256 = ((rom.size / 256 : Nat) : Int) by omega] at c2
  clear hok
  have hrs := hs
  generalize rom.size / 256 = n at *
  have d2 : decide (12 < (n : Int)) = false := decide_eq_false (by omega)
  go_enter Tryz.func11, Tryz.ntmps11
  go_wp2_with first | (go_at_call 15; refine (c1 _).mono ?_; rintro e w' ⟨rfl, hw⟩; have hw := hw.symm; subst hw) | (go_at_call 16; refine (c2 _).mono ?_; rintro e w' ⟨rfl, hw⟩; have hw := hw.symm; subst hw) | fail
  go_loopw [4, 17] (fun v i wr => ∃ k : Nat, i = .int .i64 (k : Int) ∧ k ≤ n ∧ Hid (wr.ownsRow w.heap.size 9 1 v (allL rom k).length ((allL rom k).map Value.string)) ∧ Hid (Below w.heap.size w wr)) (fun _ i _ => n - (intOf i).toNat)
  case atStart => exact ⟨0, rfl, Nat.zero_le _, World.ownsRow_nil _ _ _ _, Below.refl _ _⟩
  case round =>
    obtain ⟨k, rfl, hk, hown, hbel⟩ := hrel
    by_cases hlt : k < n
    · have hln := HLN.out k
      have hokk := HLS.out k hlt
      have cs := fun w hP => section_any k w hP (by omega)
      have hol := out_len (rom := rom) (bank := (k : Int))
      have hone := out_ne hokk
      have cl : ∀ w, PartN.Tables w → Pow w → MaxL w → Calls Tryz.prog 17 #[.string rom, .int .i64 (k : Int)] w fun e w' => ∃ v, e = .returned v ∧ Owned w w' v (outL rom (k : Int)) := fun w hT hP hm => by
        obtain ⟨_, _, _, _, b0, _, b2⟩ := ok_rom hokk
        rw [out_yes hokk]
        exact listed_any rom (k : Int) w hT hP hm b0 b2 hrs
      have HAL : Hid (allL rom (k + 1) = (allL rom k ++ [secL k]) ++ outL rom (k : Int)) := (show _ = _ from by show allL rom k ++ (secL k :: outL rom (k : Int)) = _; simp)
      have dl : decide ((k : Int) < (n : Int)) = true := decide_eq_true (by omega)
      have dk : IntKind.i64.wrap ((k : Int) + 1) = ((k + 1 : Nat) : Int) := by rw [IntKind.wrap_i64]; omega
      have hE : 0 < (outL rom (k : Int)).length := List.length_pos_iff.2 hone
      clear hone hokk
      generalize allL rom k = D at hown hln HAL
      generalize outL rom (k : Int) = E at cl hol HAL hE
      generalize secL k = S at cs HAL
      go_wp2_with fail
      refine (cs _ (HX.out.2.1.below hbel.out)).mono ?_
      rintro e w1 ⟨rfl, b1⟩
      have own1 : Hid (w1.ownsRow w.heap.size 9 1 u4 D.length (D.map Value.string)) := Marks.own_below hown.out b1
      have bel1 : Hid (Below w.heap.size w w1) := after hbel.out b1
      clear b1 cs hown hbel
      have hlt2 := own1.out.lt
      go_wp2_with (first | (at_builtin; refine wpList_append_own _ rfl (.tmp 20) (.tmp 23) 22 rfl w.heap.size 9 i0 (.string ⟨#[]⟩) 1 16 Tryz.underlying22 hi hz0 hz1 hz2 rfl (by decide) _ _ _ rfl (own1.out.alloc _) ⟨w1.heap.size, 0, none⟩ 1 1 [.string S] rfl rfl (cell_one_new _ _ _) (by intro u hu; simp at hu; subst hu; rfl) (by unfold maxLen; omega) (by omega) (by have := bel1.out.size; simp; omega) ?_; intro v2 w2 hown' hgrow _) | fail)
      have own2 : Hid (w2.ownsRow w.heap.size 9 1 v2 (D ++ [S]).length ((D ++ [S]).map Value.string)) := own_snoc hown' rfl
      have bel2 : Hid (Below w.heap.size w w2) := (bel1.out.alloc bel1.out.size _).grown hgrow (by have := bel1.out.size; simp; omega) (fun j hj => (hlt2 j hj).1)
      clear hown' hgrow hlt2 own1 bel1
      have hDS : (D ++ [S]).length = D.length + 1 := by simp
      generalize D ++ [S] = DS at own2 hDS HAL
      go_wp2_with fail
      refine (cl _ (HX.out.1.below bel2.out) (HX.out.2.1.below bel2.out) (HX.out.2.2.below bel2.out)).mono ?_
      rintro e w3 ⟨v3, rfl, o3, b3⟩
      obtain ⟨g, c3, rfl, hg3⟩ : ∃ g c, v3 = .slice (some ⟨g, 0, none⟩) E.length c ∧ E.length ≤ c := by
        rcases o3.2 with ⟨hv, h0⟩ | ⟨g', c', cur', hv', _, _, hn', _⟩
        · omega
        · exact ⟨g', c', hv', hn'⟩
      have HC : Hid (∀ j u, (E.map Value.string)[j]? = some u → w3.cell? ((⟨g, 0, none⟩ : Addr).add j) = some u) := fun j u hu => by
        have hj : j < E.length := by have := (List.getElem?_eq_some_iff.1 hu).1; simpa using this
        rw [Addr.add_lit, Nat.zero_add]
        exact (o3.cellAt j (by omega)).trans hu
      have own3 : Hid (w3.ownsRow w.heap.size 9 1 v2 DS.length (DS.map Value.string)) := Marks.own_below own2.out b3
      have bel3 : Hid (Below w.heap.size w w3) := after bel2.out b3
      clear b3 o3 cl own2 bel2
      have hlt3 := own3.out.lt
      go_wp2_with (first | (at_builtin; refine wpList_append_own _ rfl (.tmp 25) (.tmp 28) 22 rfl w.heap.size 9 i0 (.string ⟨#[]⟩) 1 16 Tryz.underlying22 hi hz0 hz1 hz2 rfl (by decide) _ _ _ rfl own3.out ⟨g, 0, none⟩ E.length c3 (E.map Value.string) rfl (by simp) HC.out (by intro u hu; obtain ⟨y, _, rfl⟩ := List.mem_map.1 hu; rfl) (by unfold maxLen; omega) (by omega) (by have := bel3.out.size; omega) ?_; intro v4 w4 hown' hgrow _) | fail)
      have own4 : Hid (w4.ownsRow w.heap.size 9 1 v4 (DS ++ E).length ((DS ++ E).map Value.string)) := own_app hown' rfl rfl
      have bel4 : Hid (Below w.heap.size w w4) := bel3.out.grown hgrow bel3.out.size (fun j hj => (hlt3 j hj).1)
      clear hown' hgrow hlt3 own3 bel3 HC
      go_wp2
      go_roundw
      case rel => exact ⟨k + 1, by go_num, by omega, by rw [HAL.out]; exact own4.out, bel4.out⟩
      case measure => simp [intOf]; omega
    · have e : k = n := by omega
      subst e
      have hln := HLN.out k
      have hcs := cat_size (allL rom k) (HLE.out k (by omega))
      have hne : allL rom k ≠ [] := by
        obtain ⟨j, rfl⟩ : ∃ j, k = j + 1 := ⟨k - 1, by omega⟩
        show allL rom j ++ (secL j :: outL rom (j : Int)) ≠ []
        simp
      have HJ : Hid (_ = cat (allL rom k)) := join_cat (allL rom k) hne
      have HF := HFT.out
      have HV := HSV.out
      clear HLE HLN HFT HSV HLS c1 c2
      have hlp : 0 < (allL rom k).length := List.length_pos_iff.2 hne
      generalize hL : allL rom k = L at hown hln hcs HJ HF HV hlp
      clear hL hne
      obtain ⟨g, c, rfl, hgc⟩ : ∃ g c, u4 = .slice (some ⟨g, 0, none⟩) L.length c ∧ L.length ≤ c := by
        rcases hown.out.2 with ⟨hv, h0⟩ | ⟨g', c', cur', hv', _, _, hn', _⟩
        · omega
        · exact ⟨g', c', hv', hn'⟩
      have hsz : (⟨(Lib.join (L.map (·.data.toList)) [10]).toArray⟩ : ByteArray).size + 1 = (cat L).size := by
        rw [← HJ.out, ByteArray.size_append]; rfl
      have hjl : (Lib.join (L.map (·.data.toList)) [10]).length + 1 = (cat L).size := by
        rw [← hsz]; show _ + 1 = (List.toArray _).size + 1; rw [List.size_toArray]
      have cj := Tryz.strings_Join g 0 c L ⟨#[10]⟩ wr (fun j x hj => by
        have hj' : j < L.length := (List.getElem?_eq_some_iff.1 hj).1
        rw [Nat.zero_add, hown.out.cellAt j (by omega)]
        simp [hj]) (hown.out.lt g rfl).2 (by omega) hgc (by show (Lib.join (L.map (·.data.toList)) [10]).length ≤ _; omega)
      obtain ⟨J, hJ⟩ : ∃ J, J = (⟨(Lib.join (L.map (·.data.toList)) [10]).toArray⟩ : ByteArray) := ⟨_, rfl⟩
      have cq : Calls Tryz.prog 21 #[.slice (some ⟨g, 0, none⟩) L.length c, .string ⟨#[10]⟩] wr fun e w' => e = .returned (.string J) ∧ Below wr.heap.size wr w' := by rw [hJ]; exact cj
      rw [← hJ] at hsz HJ
      clear hjl hown hJ cj
      have dl : decide ((k : Int) < (k : Int)) = false := decide_eq_false (by omega)
      have q1 : ¬ 9223372036854775807 < J.size + 1 := by omega
      have hJs : (J ++ ⟨#[10]⟩).size = J.size + 1 := by rw [ByteArray.size_append]; rfl
      by_cases h1 : L.length ≤ 1500
      · have d1 : decide ((1500 : Int) < (L.length : Int)) = false := decide_eq_false (by omega)
        by_cases h2 : (cat L).size ≤ 40000
        · have d3 : decide ((40000 : Int) < ((J.size : Int) + 1)) = false := decide_eq_false (by omega)
          have d4 : decide ((40000 : Int) < ((J.size + 1 : Nat) : Int)) = false := decide_eq_false (by omega)
          rw [decide_eq_true (⟨h1, h2⟩ : _ ∧ _)] at HF
          have HW : Hid (srcV rom = J ++ ⟨#[10]⟩ ∧ srcB rom = true) := ⟨(HV.2 HF).1.trans HJ.out.symm, (HV.2 HF).2⟩
          clear HV HF hcs hln
          go_wp2_with fail
          refine cq.mono ?_
          rintro e w1 ⟨rfl, b1⟩
          have B1 : Hid (Below w.heap.size w w1) := after hbel.out b1
          clear b1 cq
          go_wp2
          go_ret2
          exact ⟨by rw [HW.out.1, HW.out.2]; rfl, B1.out⟩
        · have d3 : decide ((40000 : Int) < ((J.size : Int) + 1)) = true := decide_eq_true (by omega)
          have d4 : decide ((40000 : Int) < ((J.size + 1 : Nat) : Int)) = true := decide_eq_true (by omega)
          rw [decide_eq_false (fun h => h2 h.2)] at HF
          have HW : Hid (srcV rom = ⟨#[]⟩ ∧ srcB rom = false) := HV.1 HF
          clear HV HF hcs hln
          go_wp2_with fail
          refine cq.mono ?_
          rintro e w1 ⟨rfl, b1⟩
          have B1 : Hid (Below w.heap.size w w1) := after hbel.out b1
          clear b1 cq
          go_wp2
          go_ret2
          exact ⟨by rw [HW.out.1, HW.out.2]; rfl, B1.out⟩
      · have d1 : decide ((1500 : Int) < (L.length : Int)) = true := decide_eq_true (by omega)
        rw [decide_eq_false (fun h => h1 h.1)] at HF
        have HW : Hid (srcV rom = ⟨#[]⟩ ∧ srcB rom = false) := HV.1 HF
        clear HV HF hcs hln
        go_wp2_with fail
        refine cq.mono ?_
        rintro e w1 ⟨rfl, b1⟩
        have B1 : Hid (Below w.heap.size w w1) := after hbel.out b1
        clear b1 cq
        go_wp2
        go_ret2
        exact ⟨by rw [HW.out.1, HW.out.2]; rfl, B1.out⟩
theorem sec_spec {k : Nat} (s : ByteArray) (h : ¬ k = 0) : s ++ (⟨#[115, 101, 99, 116, 105, 111, 110, 32, 98, 97, 110, 107]⟩ : ByteArray) ++ Deci.dec (k : Int) ⟨#[]⟩ ++ ⟨#[44, 114, 111, 109, 120, 44, 50, 53, 54, 44]⟩ ++ Deci.dec (k : Int) ⟨#[]⟩ ++ ⟨#[10]⟩ = s ++ secL k ++ ⟨#[10]⟩ := by
  unfold secL
  rw [if_neg h]
  apply ByteArray.ext
  apply Array.ext'
  simp [ByteArray.data_append]
theorem sec_zero (s : ByteArray) : s ++ (⟨#[115, 101, 99, 116, 105, 111, 110, 32, 98, 97, 110, 107, 48, 44, 114, 111, 109, 48, 44, 48, 10]⟩ : ByteArray) = s ++ secL 0 ++ ⟨#[10]⟩ := by
  apply ByteArray.ext
  apply Array.ext'
  simp [ByteArray.data_append, secL]
set_option maxHeartbeats 4000000 in
theorem specSource_any (rom : ByteArray) (w : World) (hs : rom.size ≤ 1048576) :
    Calls Tryz.prog 10 #[.string rom] w fun e w' => e = .returned (.tuple #[.string (srcV rom), .bool (srcB rom)]) ∧ Below w.heap.size w w' := by
  have c1 := fun w => l5Banks_any rom w hs
  have c2 := fun w => l1In_any (banks rom.size) 2 12 w
  have hv : inB (banks rom.size) 2 12 = okS rom := by
    unfold inB okS romB banks
    by_cases h : rom.size % 256 = 0 ∧ 512 ≤ rom.size ∧ rom.size ≤ 4096
    · rw [if_pos h, decide_eq_true h, Bool.true_and]
      rw [Bool.eq_iff_iff]
      simp
      omega
    · rw [if_neg h, decide_eq_false h, Bool.false_and]
      simp
  rw [hv] at c2
  cases hok : okS rom
  · rw [(srcV_no hok).1, (srcV_no hok).2]
    rw [hok] at c2
    clear hv hok
    generalize banks rom.size = n at c1 c2
    go_enter Tryz.func10, Tryz.ntmps10
    go_wp2_with first | (go_at_call 13; refine (c1 _).mono ?_; rintro e w' ⟨rfl, hw⟩; have hw := hw.symm; subst hw) | (go_at_call 12; refine (c2 _).mono ?_; rintro e w' ⟨rfl, hw⟩; have hw := hw.symm; subst hw)
    go_ret2
    exact ⟨rfl, Below.refl _ _⟩
  rw [hok] at c2
  have HO := okS_of hok
  have hbk : banks rom.size = ((rom.size / 256 : Nat) : Int) := by
    have h1 := of_decide_eq_true HO.1
    unfold banks
    rw [if_pos h1]
    omega
  rw [hbk] at c1 c2
  have HLS : Hid (∀ k : Nat, k < rom.size / 256 → okL rom (k : Int) = true) := fun k hk => okL_of hok k hk
  have HSV : Hid ((fitS rom = false → srcV rom = ⟨#[]⟩ ∧ srcB rom = false) ∧ (fitS rom = true → srcV rom = cat (allL rom (rom.size / 256)) ∧ srcB rom = true)) := ⟨fun h => srcV_out hok h, fun h => srcV_in hok h⟩
  have HLE : Hid (∀ k : Nat, k ≤ 256 → ∀ x ∈ allL rom k, x.size ≤ 85) := all_le rom
  have HLN : Hid (∀ k : Nat, (allL rom k).length ≤ 257 * k) := all_len rom
  have HFT : Hid (fitS rom = decide ((allL rom (rom.size / 256)).length ≤ 1500 ∧ (cat (allL rom (rom.size / 256))).size ≤ 40000)) := (show _ = _ from rfl)
  obtain ⟨-, -, -, -, hn2, hn12⟩ := HO
  clear hok hv hbk
  generalize rom.size / 256 = n at *
  go_enter Tryz.func10, Tryz.ntmps10
  go_wp2_with first | (go_at_call 13; refine (c1 _).mono ?_; rintro e w' ⟨rfl, hw⟩; have hw := hw.symm; subst hw) | (go_at_call 12; refine (c2 _).mono ?_; rintro e w' ⟨rfl, hw⟩; have hw := hw.symm; subst hw) | fail
  go_loopw [4, 5, 6] (fun s m i wr => ∃ k : Nat, i = .int .i64 (k : Int) ∧ k ≤ n ∧ s = .string (cat (allL rom k)) ∧ m = .int .i64 ((allL rom k).length : Int) ∧ Hid (Below w.heap.size w wr)) (fun _ _ i _ => n - (intOf i).toNat)
  case atStart => exact ⟨0, rfl, Nat.zero_le _, rfl, rfl, Below.refl _ _⟩
  case round =>
    obtain ⟨k, rfl, hk, rfl, rfl, hbel⟩ := hrel
    by_cases hlt : k < n
    · have hln := HLN.out k
      have hcs := cat_size (allL rom k) (HLE.out k (by omega))
      have hoe := out_le rom (k : Int)
      have hsl := sec_le k (by omega)
      have cl := fun w => specListed_any rom (k : Int) w hs
      have hol := out_len (rom := rom) (bank := (k : Int))
      have HAL : Hid (allL rom (k + 1) = (allL rom k ++ [secL k]) ++ outL rom (k : Int)) := (show _ = _ from by show allL rom k ++ (secL k :: outL rom (k : Int)) = _; simp)
      have HCS : Hid (cat (allL rom k ++ [secL k]) = cat (allL rom k) ++ secL k ++ ⟨#[10]⟩) := cat_snoc _ _
      have HDE : Hid (∀ x ∈ allL rom k ++ [secL k], x.size ≤ 85) := fun x hx => by
        rcases List.mem_append.1 hx with hx | hx
        · exact HLE.out k (by omega) x hx
        · rw [List.mem_singleton.1 hx]; exact hsl
      have hDl : (allL rom k ++ [secL k]).length = (allL rom k).length + 1 := by simp
      have dl : decide ((k : Int) < (n : Int)) = true := decide_eq_true (by omega)
      have dk : IntKind.i64.wrap ((k : Int) + 1) = ((k + 1 : Nat) : Int) := by rw [IntKind.wrap_i64]; omega
      have HOE : Hid (∀ x ∈ outL rom (k : Int), x.size ≤ 85) := hoe
      clear hoe
      obtain ⟨Dl, hDl0⟩ : ∃ n, n = (allL rom k).length := ⟨_, rfl⟩
      rw [← hDl0] at hln hcs hDl
      rw [← hDl0]
      clear hDl0
      generalize outL rom (k : Int) = E at cl hol HAL HOE
      by_cases h0 : k = 0
      · have HC : Hid (cat (allL rom k) ++ ⟨#[115, 101, 99, 116, 105, 111, 110, 32, 98, 97, 110, 107, 48, 44, 114, 111, 109, 48, 44, 48, 10]⟩ = cat (allL rom k ++ [secL k])) := (show _ = _ from by rw [HCS.out, h0]; exact sec_zero _)
        have e0 : ((k : Int) == 0) = true := by simp; omega
        generalize cat (allL rom k) = C at HC hcs HCS
        generalize allL rom k ++ [secL k] = DS at HC HAL HDE hDl HCS
        have q0 : ¬ 9223372036854775807 < C.size + 21 := by omega
        have HH0 : Hid (k = 0) := h0
        clear h0
        go_upto_region 11 with first | (go_at_call 13; refine (c1 _).mono ?_; rintro e w' ⟨rfl, hw⟩; have hw := hw.symm; subst hw) | fail
        rw [HC.out]
        go_wp2_with fail
        refine (cl _).mono ?_
        rintro e w3 ⟨v3, rfl, o3, b3⟩
        obtain ⟨x3, c3, rfl, T3, _⟩ := Txts.owned_texts o3
        have bel3 : Hid (Below w.heap.size w w3) := after hbel.out b3
        have HT3 : Hid (Texts w3 x3 E) := T3
        clear b3 o3 T3 cl
        have dm : IntKind.i64.wrap ((Dl : Int) + (E.length : Int)) = (Dl : Int) + (E.length : Int) := by rw [IntKind.wrap_i64]; omega
        have dm2 : IntKind.i64.wrap ((Dl : Int) + (E.length : Int) + 1) = (Dl : Int) + (E.length : Int) + 1 := by rw [IntKind.wrap_i64]; omega
        go_wp2
        go_loopw [4, 9] (fun s j wq => ∃ q : Nat, j = .int .i64 (q : Int) ∧ q ≤ E.length ∧ s = .string (cat (DS ++ E.take q)) ∧ wq = w3) (fun _ j _ => E.length - (intOf j).toNat)
        case atStart => exact ⟨0, rfl, Nat.zero_le _, by simp, rfl⟩
        case round =>
          obtain ⟨q, rfl, hq, rfl, rfl⟩ := hrel
          by_cases hlq : q < E.length
          · have dq : decide ((q : Int) < (E.length : Int)) = true := decide_eq_true (by omega)
            have dq1 : IntKind.i64.wrap ((q : Int) + 1) = ((q + 1 : Nat) : Int) := by rw [IntKind.wrap_i64]; omega
            rcases HT3.out with hnil | ⟨bb, off, hx3, hbb, hcell⟩
            · exfalso; rw [hnil] at hlq; exact absurd hlq (by simp)
            subst hx3
            have cc := hcell q hlq
            clear hcell
            have hsz := cat_size (DS ++ E.take q) (fun x hx => by
              rcases List.mem_append.1 hx with hx | hx
              · exact HDE.out x hx
              · exact HOE.out x (List.mem_of_mem_take hx))
            have hll : (DS ++ E.take q).length ≤ Dl + 1 + 256 := by rw [List.length_append, hDl, List.length_take]; omega
            have HN : Hid (cat (DS ++ E.take (q + 1)) = cat (DS ++ E.take q) ++ E[q] ++ ⟨#[10]⟩) := (show _ = _ from by rw [← cat_snoc, List.append_assoc, ← List.take_succ_eq_append_getElem hlq])
            have hxs := HOE.out E[q] (List.getElem_mem hlq)
            generalize E[q] = X at cc HN hxs
            generalize cat (DS ++ E.take q) = S4 at hsz HN
            have q1 : ¬ 9223372036854775807 < S4.size + X.size := by omega
            have q2 : ¬ 9223372036854775807 < S4.size + X.size + 1 := by omega
            have k0 : (0 : Int) ≤ (q : Int) := by omega
            have k1 : (q : Int) < (E.length : Int) := by omega
            go_wp2
            go_roundw
            case rel => exact ⟨q + 1, by go_num, by omega, by rw [HN.out], by first | rfl | trivial⟩
            case measure => simp [intOf]; omega
          · have dq : decide ((q : Int) < (E.length : Int)) = false := decide_eq_false (by omega)
            have hqe : E.take q = E := List.take_of_length_le (by omega)
            rw [hqe]
            have HE1 : Hid (cat (DS ++ E) = cat (allL rom (k + 1))) := (show _ = _ from by rw [HAL.out])
            have HE2 : Hid ((Dl : Int) + (E.length : Int) + 1 = ((allL rom (k + 1)).length : Int)) := (show _ = _ from by rw [HAL.out, List.length_append, hDl]; omega)
            clear HT3
            go_wp2
            go_roundw
            case rel => exact ⟨k + 1, by go_num, by omega, by rw [HE1.out], by rw [HE2.out], bel3.out⟩
            case measure => simp [intOf]; omega
      · have hdk := dec_le (n := (k : Int)) (by omega) (by omega)
        have cd := fun w => Deci.l1Dec_any (k : Int) w (by omega) (by omega)
        have HC : Hid (cat (allL rom k) ++ (⟨#[115, 101, 99, 116, 105, 111, 110, 32, 98, 97, 110, 107]⟩ : ByteArray) ++ Deci.dec (k : Int) ⟨#[]⟩ ++ ⟨#[44, 114, 111, 109, 120, 44, 50, 53, 54, 44]⟩ ++ Deci.dec (k : Int) ⟨#[]⟩ ++ ⟨#[10]⟩ = cat (allL rom k ++ [secL k])) := (show _ = _ from by rw [HCS.out]; exact sec_spec _ h0)
        have e0 : ((k : Int) == 0) = false := by simp; omega
        have e1 : ¬ (k : Int) = 0 := by omega
        generalize cat (allL rom k) = C at HC hcs HCS
        generalize allL rom k ++ [secL k] = DS at HC HAL HDE hDl HCS
        generalize Deci.dec (k : Int) ⟨#[]⟩ = D at cd hdk HC
        have q0 : ¬ 9223372036854775807 < C.size + 12 := by omega
        have q1 : ¬ 9223372036854775807 < C.size + 12 + D.size := by omega
        have q2 : ¬ 9223372036854775807 < C.size + 12 + D.size + 10 := by omega
        have q3 : ¬ 9223372036854775807 < C.size + 12 + D.size + 10 + D.size := by omega
        have q4 : ¬ 9223372036854775807 < C.size + 12 + D.size + 10 + D.size + 1 := by omega
        have HH0 : Hid (¬ k = 0) := h0
        clear h0
        go_wp2_with first | (go_at_call 13; refine (c1 _).mono ?_; rintro e w' ⟨rfl, hw⟩; have hw := hw.symm; subst hw) | fail
        refine (cd _).mono ?_
        rintro e w1 ⟨rfl, b1⟩
        have bel1 : Hid (Below w.heap.size w w1) := after hbel.out b1
        clear b1
        go_wp2_with fail
        refine (cd _).mono ?_
        rintro e w2 ⟨rfl, b2⟩
        have bel2 : Hid (Below w.heap.size w w2) := after bel1.out b2
        clear b2 bel1 cd
        go_upto_region 11 with fail
        rw [HC.out]
        go_wp2_with fail
        refine (cl _).mono ?_
        rintro e w3 ⟨v3, rfl, o3, b3⟩
        obtain ⟨x3, c3, rfl, T3, _⟩ := Txts.owned_texts o3
        have bel3 : Hid (Below w.heap.size w w3) := after bel2.out b3
        have HT3 : Hid (Texts w3 x3 E) := T3
        clear b3 o3 T3 cl
        have dm : IntKind.i64.wrap ((Dl : Int) + (E.length : Int)) = (Dl : Int) + (E.length : Int) := by rw [IntKind.wrap_i64]; omega
        have dm2 : IntKind.i64.wrap ((Dl : Int) + (E.length : Int) + 1) = (Dl : Int) + (E.length : Int) + 1 := by rw [IntKind.wrap_i64]; omega
        go_wp2
        go_loopw [4, 9] (fun s j wq => ∃ q : Nat, j = .int .i64 (q : Int) ∧ q ≤ E.length ∧ s = .string (cat (DS ++ E.take q)) ∧ wq = w3) (fun _ j _ => E.length - (intOf j).toNat)
        case atStart => exact ⟨0, rfl, Nat.zero_le _, by simp, rfl⟩
        case round =>
          obtain ⟨q, rfl, hq, rfl, rfl⟩ := hrel
          by_cases hlq : q < E.length
          · have dq : decide ((q : Int) < (E.length : Int)) = true := decide_eq_true (by omega)
            have dq1 : IntKind.i64.wrap ((q : Int) + 1) = ((q + 1 : Nat) : Int) := by rw [IntKind.wrap_i64]; omega
            rcases HT3.out with hnil | ⟨bb, off, hx3, hbb, hcell⟩
            · exfalso; rw [hnil] at hlq; exact absurd hlq (by simp)
            subst hx3
            have cc := hcell q hlq
            clear hcell
            have hsz := cat_size (DS ++ E.take q) (fun x hx => by
              rcases List.mem_append.1 hx with hx | hx
              · exact HDE.out x hx
              · exact HOE.out x (List.mem_of_mem_take hx))
            have hll : (DS ++ E.take q).length ≤ Dl + 1 + 256 := by rw [List.length_append, hDl, List.length_take]; omega
            have HN : Hid (cat (DS ++ E.take (q + 1)) = cat (DS ++ E.take q) ++ E[q] ++ ⟨#[10]⟩) := (show _ = _ from by rw [← cat_snoc, List.append_assoc, ← List.take_succ_eq_append_getElem hlq])
            have hxs := HOE.out E[q] (List.getElem_mem hlq)
            generalize E[q] = X at cc HN hxs
            generalize cat (DS ++ E.take q) = S4 at hsz HN
            have q1 : ¬ 9223372036854775807 < S4.size + X.size := by omega
            have q2 : ¬ 9223372036854775807 < S4.size + X.size + 1 := by omega
            have k0 : (0 : Int) ≤ (q : Int) := by omega
            have k1 : (q : Int) < (E.length : Int) := by omega
            go_wp2
            go_roundw
            case rel => exact ⟨q + 1, by go_num, by omega, by rw [HN.out], by first | rfl | trivial⟩
            case measure => simp [intOf]; omega
          · have dq : decide ((q : Int) < (E.length : Int)) = false := decide_eq_false (by omega)
            have hqe : E.take q = E := List.take_of_length_le (by omega)
            rw [hqe]
            have HE1 : Hid (cat (DS ++ E) = cat (allL rom (k + 1))) := (show _ = _ from by rw [HAL.out])
            have HE2 : Hid ((Dl : Int) + (E.length : Int) + 1 = ((allL rom (k + 1)).length : Int)) := (show _ = _ from by rw [HAL.out, List.length_append, hDl]; omega)
            clear HT3
            go_wp2
            go_roundw
            case rel => exact ⟨k + 1, by go_num, by omega, by rw [HE1.out], by rw [HE2.out], bel3.out⟩
            case measure => simp [intOf]; omega
    · have e : k = n := by omega
      subst e
      have hln := HLN.out k
      have hcs := cat_size (allL rom k) (HLE.out k (by omega))
      have HF := HFT.out
      have HV := HSV.out
      clear HLE HLN HFT HSV HLS c2
      have dl : decide ((k : Int) < (k : Int)) = false := decide_eq_false (by omega)
      generalize cat (allL rom k) = C at hcs HF HV
      generalize (allL rom k).length = n at hln hcs HF
      by_cases h1 : n ≤ 1500
      · have d1 : decide ((1500 : Int) < (n : Int)) = false := decide_eq_false (by omega)
        by_cases h2 : C.size ≤ 40000
        · have d3 : decide ((40000 : Int) < (C.size : Int)) = false := decide_eq_false (by omega)
          rw [decide_eq_true (⟨h1, h2⟩ : _ ∧ _)] at HF
          have HW : Hid (srcV rom = C ∧ srcB rom = true) := HV.2 HF
          clear HV HF
          go_wp2_with first | (go_at_call 13; refine (c1 _).mono ?_; rintro e w' ⟨rfl, hw⟩; have hw := hw.symm; subst hw) | fail
          go_ret2
          exact ⟨by rw [HW.out.1, HW.out.2]; rfl, hbel.out⟩
        · have d3 : decide ((40000 : Int) < (C.size : Int)) = true := decide_eq_true (by omega)
          rw [decide_eq_false (fun h => h2 h.2)] at HF
          have HW : Hid (srcV rom = ⟨#[]⟩ ∧ srcB rom = false) := HV.1 HF
          clear HV HF
          go_wp2_with first | (go_at_call 13; refine (c1 _).mono ?_; rintro e w' ⟨rfl, hw⟩; have hw := hw.symm; subst hw) | fail
          go_ret2
          exact ⟨by rw [HW.out.1, HW.out.2]; rfl, hbel.out⟩
      · have d1 : decide ((1500 : Int) < (n : Int)) = true := decide_eq_true (by omega)
        rw [decide_eq_false (fun h => h1 h.1)] at HF
        have HW : Hid (srcV rom = ⟨#[]⟩ ∧ srcB rom = false) := HV.1 HF
        clear HV HF
        go_wp2_with first | (go_at_call 13; refine (c1 _).mono ?_; rintro e w' ⟨rfl, hw⟩; have hw := hw.symm; subst hw) | fail
        go_ret2
        exact ⟨by rw [HW.out.1, HW.out.2]; rfl, hbel.out⟩
end Go.Proofs.YtnfonccimaikgaaGreatDoor.Lstf
