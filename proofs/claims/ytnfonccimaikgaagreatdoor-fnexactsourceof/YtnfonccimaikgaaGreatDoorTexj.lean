/-
  Contracts of ours for both InsText.
-/
import Derived.Test.YtnfonccimaikgaaGreatDoorTexi
namespace Go.Proofs.YtnfonccimaikgaaGreatDoor.Texj
open Go.ChangeShapes Go.WideShapes Go.ChangeAt Go.RowKit
open Signed (inB l1In_any isByte_any sgn)
open HoleX (n8 n16 e8 holeT holeP)
open HolI LenX InsX Texi
set_option linter.unusedVariables false
set_option maxRecDepth 20000

set_option maxHeartbeats 1000000 in
theorem implText_any (code : Int) (cb : Bool) (imm : Int) (w : World) (hT : PartN.Tables w) (hP : Pow w) (hm : MaxL w) :
    Calls Tryz.prog 55 #[.agg #[.int .i64 code, .bool cb, .int .i64 imm]] w fun e w' => e = .returned (.string (textV code cb imm)) ∧ Below w.heap.size w w' := by
  have HX : Hid (PartN.Tables w ∧ Pow w ∧ MaxL w) := ⟨hT, hP, hm⟩
  clear hT hP hm
  have co := fun w hm => implOk_any code cb imm w hm
  cases ho : okV code cb imm
  · have hv : textV code cb imm = ⟨#[]⟩ := by unfold textV; rw [ho]; rfl
    rw [hv]
    rw [ho] at co
    go_enter Tryz.func55, Tryz.ntmps55
    go_wp2_with fail
    refine (co _ (HX.out.2.2.below ((Below.refl _ _).alloc (Nat.le_refl _) _))).mono ?_
    rintro e w1 ⟨rfl, b1⟩
    have B1 : Hid (Below _ _ w1) := b1
    clear b1 co
    go_wp2
    go_ret
    exact ⟨rfl, unbox B1.out⟩
  rw [ho] at co
  obtain ⟨h0, h1, hz, hh, hs, ht, ha⟩ := at_hole ho
  have hv : textV code cb imm = (if (hole code cb).size = 0 then Tmpl.tmplS code cb else put (Tmpl.tmplS code cb) (hole code cb) (newV (hole code cb) imm) (holeP (Tmpl.tmplS code cb))) := by unfold textV; rw [ho]; rfl
  rw [hv]
  have ct := fun w hT => TmplI.implTemplate_any code cb w hT
  rw [ht] at ct
  have ch := fun w hm => holeOf_any (Tmpl.tmplS code cb) w (by omega) hm
  rw [hh] at ch
  have HA : Hid _ := ha
  have hcs := hole_cases code cb
  clear hv hh ht hz ha ho
  generalize holeP (Tmpl.tmplS code cb) = P at HA ⊢
  generalize Tmpl.tmplS code cb = T at ct ch hs HA ⊢
  generalize hole code cb = G at ch hcs HA ⊢
  go_enter Tryz.func55, Tryz.ntmps55
  go_wp2_with fail
  refine (co _ (HX.out.2.2.below ((Below.refl _ _).alloc (Nat.le_refl _) _))).mono ?_
  rintro e w1 ⟨rfl, b1⟩
  have B1 : Hid (Below _ _ w1) := b1
  have k0 := box b1 0 _ rfl
  have k1 := box b1 1 _ rfl
  clear b1 co
  go_wp2_with fail
  refine (ct _ (HX.out.1.below (unbox B1.out))).mono ?_
  rintro e w2 ⟨rfl, b2⟩
  have B2 : Hid (Below _ _ w2) := after B1.out b2
  clear b2 ct B1 k0 k1
  go_wp2_with fail
  refine (ch _ (HX.out.2.2.below (unbox B2.out))).mono ?_
  rintro e w3 ⟨rfl, b3⟩
  have B3 : Hid (Below _ _ w3) := after B2.out b3
  have k2 := box B3.out 2 _ rfl
  clear b3 ch B2
  rcases hcs with rfl | rfl | rfl | rfl
  · have hne := new_8 imm
    obtain ⟨a1, a2, a3, a4, a5⟩ := HA.out (by decide)
    have cf := fun w hT => fill_n8 imm w hT
    have HP : Hid ((if (⟨#[110, 56]⟩ : ByteArray).size = 0 then T else put T ⟨#[110, 56]⟩ (newV ⟨#[110, 56]⟩ imm) P) = ⟨(Lib.replaceK (⟨#[110, 56]⟩ : ByteArray).data.toList (Hex.hexS imm 2).data.toList 1 T.data.toList).toArray⟩) := (put_eq T ⟨#[110, 56]⟩ (Hex.hexS imm 2) P a4 a5 a3).symm
    generalize (Hex.hexS imm 2) = V at cf hne HP
    go_wp2_with fail
    refine (cf _ (HX.out.1.below (unbox B3.out))).mono ?_
    rintro e w4 ⟨rfl, b4⟩
    have B4 : Hid (Below _ _ w4) := after B3.out b4
    clear b4 cf B3 k2
    obtain ⟨mm, hmm⟩ := HX.out.2.2.below (unbox B4.out)
    have cr := Tryz.strings_Replace_some T ⟨#[110, 56]⟩ V 1 mm w4 (by omega) hmm (by decide) hne.1 (by decide) (by rw [a1]; decide) (by rw [a1]; have := hne.2; omega)
    rw [a2] at cr
    clear hmm a1 a2 a3 a4 a5 hne
    go_wp2_with fail
    refine cr.mono ?_
    rintro e w5 ⟨rfl, b5⟩
    have B5 : Hid (Below _ _ w5) := after B4.out b5
    clear b5 cr B4
    go_wp2
    go_ret
    exact ⟨congrArg (fun s => Ending.returned (.string s)) HP.out.symm, unbox B5.out⟩
  · have hne := new_16 imm
    obtain ⟨a1, a2, a3, a4, a5⟩ := HA.out (by decide)
    have cf := fun w hT => fill_n16 imm w hT
    have HP : Hid ((if (⟨#[110, 49, 54]⟩ : ByteArray).size = 0 then T else put T ⟨#[110, 49, 54]⟩ (newV ⟨#[110, 49, 54]⟩ imm) P) = ⟨(Lib.replaceK (⟨#[110, 49, 54]⟩ : ByteArray).data.toList (Hex.hexS imm 4).data.toList 1 T.data.toList).toArray⟩) := (put_eq T ⟨#[110, 49, 54]⟩ (Hex.hexS imm 4) P a4 a5 a3).symm
    generalize (Hex.hexS imm 4) = V at cf hne HP
    go_wp2_with fail
    refine (cf _ (HX.out.1.below (unbox B3.out))).mono ?_
    rintro e w4 ⟨rfl, b4⟩
    have B4 : Hid (Below _ _ w4) := after B3.out b4
    clear b4 cf B3 k2
    obtain ⟨mm, hmm⟩ := HX.out.2.2.below (unbox B4.out)
    have cr := Tryz.strings_Replace_some T ⟨#[110, 49, 54]⟩ V 1 mm w4 (by omega) hmm (by decide) hne.1 (by decide) (by rw [a1]; decide) (by rw [a1]; have := hne.2; omega)
    rw [a2] at cr
    clear hmm a1 a2 a3 a4 a5 hne
    go_wp2_with fail
    refine cr.mono ?_
    rintro e w5 ⟨rfl, b5⟩
    have B5 : Hid (Below _ _ w5) := after B4.out b5
    clear b5 cr B4
    go_wp2
    go_ret
    exact ⟨congrArg (fun s => Ending.returned (.string s)) HP.out.symm, unbox B5.out⟩
  · have hne := (⟨(dec_ne_at (sgn_bd imm).1 (sgn_bd imm).2).1.symm, (dec_ne_at (sgn_bd imm).1 (sgn_bd imm).2).2⟩ : (⟨#[101, 56]⟩ : ByteArray) ≠ Deci.decE (sgn imm) ∧ (Deci.decE (sgn imm)).size ≤ 5)
    obtain ⟨a1, a2, a3, a4, a5⟩ := HA.out (by decide)
    have cf := fun w hT => fill_e8 imm w hT
    have HP : Hid ((if (⟨#[101, 56]⟩ : ByteArray).size = 0 then T else put T ⟨#[101, 56]⟩ (newV ⟨#[101, 56]⟩ imm) P) = ⟨(Lib.replaceK (⟨#[101, 56]⟩ : ByteArray).data.toList (Deci.decE (sgn imm)).data.toList 1 T.data.toList).toArray⟩) := (put_eq T ⟨#[101, 56]⟩ (Deci.decE (sgn imm)) P a4 a5 a3).symm
    generalize (Deci.decE (sgn imm)) = V at cf hne HP
    go_wp2_with fail
    refine (cf _ (HX.out.2.1.below (unbox B3.out))).mono ?_
    rintro e w4 ⟨rfl, b4⟩
    have B4 : Hid (Below _ _ w4) := after B3.out b4
    clear b4 cf B3 k2
    obtain ⟨mm, hmm⟩ := HX.out.2.2.below (unbox B4.out)
    have cr := Tryz.strings_Replace_some T ⟨#[101, 56]⟩ V 1 mm w4 (by omega) hmm (by decide) hne.1 (by decide) (by rw [a1]; decide) (by rw [a1]; have := hne.2; omega)
    rw [a2] at cr
    clear hmm a1 a2 a3 a4 a5 hne
    go_wp2_with fail
    refine cr.mono ?_
    rintro e w5 ⟨rfl, b5⟩
    have B5 : Hid (Below _ _ w5) := after B4.out b5
    clear b5 cr B4
    go_wp2
    go_ret
    exact ⟨congrArg (fun s => Ending.returned (.string s)) HP.out.symm, unbox B5.out⟩
  · clear HA
    go_wp2
    go_ret
    exact ⟨rfl, unbox B3.out⟩
set_option maxHeartbeats 1000000 in
theorem specText_any (code : Int) (cb : Bool) (imm : Int) (w : World) :
    Calls Tryz.prog 38 #[.agg #[.int .i64 code, .bool cb, .int .i64 imm]] w fun e w' => e = .returned (.string (textV code cb imm)) ∧ Below w.heap.size w w' := by
  have co := fun w => specOk_any code cb imm w
  cases ho : okV code cb imm
  · have hv : textV code cb imm = ⟨#[]⟩ := by unfold textV; rw [ho]; rfl
    rw [hv]
    rw [ho] at co
    go_enter Tryz.func38, Tryz.ntmps38
    go_wp2_with fail
    refine (co _).mono ?_
    rintro e w1 ⟨rfl, b1⟩
    have B1 : Hid (Below _ _ w1) := b1
    clear b1 co
    go_wp2
    go_ret
    exact ⟨rfl, unbox B1.out⟩
  rw [ho] at co
  obtain ⟨h0, h1, hz, hh, hs, ht, ha⟩ := at_hole ho
  have hv : textV code cb imm = (if (hole code cb).size = 0 then Tmpl.tmplS code cb else put (Tmpl.tmplS code cb) (hole code cb) (newV (hole code cb) imm) (holeP (Tmpl.tmplS code cb))) := by unfold textV; rw [ho]; rfl
  rw [hv]
  have ct := fun w => Tmpl.template_any code cb w h0 h1
  have ch := fun w => HoleX.hole_any (Tmpl.tmplS code cb) w (by omega)
  unfold HoleX.ret at ch
  rw [show holeT (Tmpl.tmplS code cb) = hole code cb from rfl] at ch
  have HA : Hid _ := ha
  have hcs := hole_cases code cb
  clear hv hh ht hz ha ho
  generalize holeP (Tmpl.tmplS code cb) = P at HA ch ⊢
  generalize Tmpl.tmplS code cb = T at ct ch hs HA ⊢
  generalize hole code cb = G at ch hcs HA ⊢
  go_enter Tryz.func38, Tryz.ntmps38
  go_wp2_with fail
  refine (co _).mono ?_
  rintro e w1 ⟨rfl, b1⟩
  have B1 : Hid (Below _ _ w1) := b1
  have k0 := box b1 0 _ rfl
  have k1 := box b1 1 _ rfl
  clear b1 co
  go_wp2_with fail
  refine (ct _).mono ?_
  rintro e w2 ⟨rfl, b2⟩
  have B2 : Hid (Below _ _ w2) := after B1.out b2
  clear b2 ct B1 k0 k1
  go_wp2_with fail
  refine (ch _).mono ?_
  rintro e w3 ⟨rfl, b3⟩
  have B3 : Hid (Below _ _ w3) := after B2.out b3
  have k2 := box B3.out 2 _ rfl
  clear b3 ch B2
  rcases hcs with rfl | rfl | rfl | rfl
  · obtain ⟨a1, a2, a3, a4, a5⟩ := HA.out (by decide)
    clear a1 a2 a3 HA
    have a5 : P.toNat + 2 ≤ T.size := a5
    have HP : Hid ((if (⟨#[110, 56]⟩ : ByteArray).size = 0 then T else put T ⟨#[110, 56]⟩ (newV ⟨#[110, 56]⟩ imm) P) = T.extract 0 P.toNat ++ Hex.hexS imm 2 ++ T.extract (P.toNat + 2) T.size) := rfl
    have cx := fun w => Hex.specHex_any imm 2 w
    have zv := hex_size imm 2 (by omega)
    have zv : (Hex.hexS imm 2).size ≤ 5 := by omega
    generalize Hex.hexS imm 2 = V at cx zv HP
    have s1 : ∀ w, (Instr.slice 9 (.string T) none (some (.int .i64 P)) none).run Tryz.prog w = .ok (.string (T.extract 0 P.toNat)) w := fun w => run_slice_string_h w (t := 9) (s := T) Tryz.underlying9 .i64 P a4 (by omega)
    have s2 : ∀ w, (Instr.slice 9 (.string T) (some (.int .i64 (P + 2))) none none).run Tryz.prog w = .ok (.string (T.extract (P.toNat + 2) T.size)) w := fun w => by
      have := run_slice_string_l w (t := 9) (s := T) Tryz.underlying9 .i64 (P + 2) (by omega) (by omega)
      rwa [show (P + 2).toNat = P.toNat + 2 by omega] at this
    have z1 : (T.extract 0 P.toNat).size ≤ 40 := by simp; omega
    have z2 : (T.extract (P.toNat + 2) T.size).size ≤ 40 := by simp; omega
    generalize T.extract 0 P.toNat = A1 at s1 z1 HP
    generalize T.extract (P.toNat + 2) T.size = A2 at s2 z2 HP
    have q1 : ¬ 9223372036854775807 < A1.size + V.size := by omega
    have q2 : ¬ 9223372036854775807 < A1.size + V.size + A2.size := by omega
    have p0 : 0 ≤ P := a4
    have p1 : P ≤ (T.size : Int) := by omega
    have p2 : 0 ≤ P + 2 := by omega
    have p3 : P + 2 ≤ (T.size : Int) := by omega
    have p4 : IntKind.i64.wrap (P + 2) = P + 2 := by rw [IntKind.wrap_i64]; omega
    have p5 : wrap64 (P + 2) = P + 2 := by unfold wrap64; omega
    clear a4 a5
    go_wp2_with fail
    go_region_with (first
      | (go_at_call 24; refine (cx _).mono ?_; rintro e w4 ⟨rfl, rfl⟩; have B4 : Hid (Below _ _ w3.drew) := B3.out.drew)
      | fail)
    all_goals
      go_wp2
      go_ret
      exact ⟨congrArg (fun s => Ending.returned (.string s)) HP.out.symm, unbox B4.out⟩
  · obtain ⟨a1, a2, a3, a4, a5⟩ := HA.out (by decide)
    clear a1 a2 a3 HA
    have a5 : P.toNat + 3 ≤ T.size := a5
    have HP : Hid ((if (⟨#[110, 49, 54]⟩ : ByteArray).size = 0 then T else put T ⟨#[110, 49, 54]⟩ (newV ⟨#[110, 49, 54]⟩ imm) P) = T.extract 0 P.toNat ++ Hex.hexS imm 4 ++ T.extract (P.toNat + 3) T.size) := rfl
    have cx := fun w => Hex.specHex_any imm 4 w
    have zv := hex_size imm 4 (by omega)
    have zv : (Hex.hexS imm 4).size ≤ 5 := by omega
    generalize Hex.hexS imm 4 = V at cx zv HP
    have s1 : ∀ w, (Instr.slice 9 (.string T) none (some (.int .i64 P)) none).run Tryz.prog w = .ok (.string (T.extract 0 P.toNat)) w := fun w => run_slice_string_h w (t := 9) (s := T) Tryz.underlying9 .i64 P a4 (by omega)
    have s2 : ∀ w, (Instr.slice 9 (.string T) (some (.int .i64 (P + 3))) none none).run Tryz.prog w = .ok (.string (T.extract (P.toNat + 3) T.size)) w := fun w => by
      have := run_slice_string_l w (t := 9) (s := T) Tryz.underlying9 .i64 (P + 3) (by omega) (by omega)
      rwa [show (P + 3).toNat = P.toNat + 3 by omega] at this
    have z1 : (T.extract 0 P.toNat).size ≤ 40 := by simp; omega
    have z2 : (T.extract (P.toNat + 3) T.size).size ≤ 40 := by simp; omega
    generalize T.extract 0 P.toNat = A1 at s1 z1 HP
    generalize T.extract (P.toNat + 3) T.size = A2 at s2 z2 HP
    have q1 : ¬ 9223372036854775807 < A1.size + V.size := by omega
    have q2 : ¬ 9223372036854775807 < A1.size + V.size + A2.size := by omega
    have p0 : 0 ≤ P := a4
    have p1 : P ≤ (T.size : Int) := by omega
    have p2 : 0 ≤ P + 3 := by omega
    have p3 : P + 3 ≤ (T.size : Int) := by omega
    have p4 : IntKind.i64.wrap (P + 3) = P + 3 := by rw [IntKind.wrap_i64]; omega
    have p5 : wrap64 (P + 3) = P + 3 := by unfold wrap64; omega
    clear a4 a5
    go_wp2_with fail
    go_region_with (first
      | (go_at_call 24; refine (cx _).mono ?_; rintro e w4 ⟨rfl, rfl⟩; have B4 : Hid (Below _ _ w3.drew) := B3.out.drew)
      | fail)
    all_goals
      go_wp2
      go_ret
      exact ⟨congrArg (fun s => Ending.returned (.string s)) HP.out.symm, unbox B4.out⟩
  · obtain ⟨a1, a2, a3, a4, a5⟩ := HA.out (by decide)
    clear a1 a2 a3 HA
    have a5 : P.toNat + 2 ≤ T.size := a5
    have HP : Hid ((if (⟨#[101, 56]⟩ : ByteArray).size = 0 then T else put T ⟨#[101, 56]⟩ (newV ⟨#[101, 56]⟩ imm) P) = T.extract 0 P.toNat ++ Deci.decE (sgn imm) ++ T.extract (P.toNat + 2) T.size) := rfl
    have cg := fun w => Signed.specSigned_any imm w
    have cx := fun w => Deci.dec_any (sgn imm) w (sgn_bd imm).1 (sgn_bd imm).2
    have zv := (dec_ne_at (sgn_bd imm).1 (sgn_bd imm).2).2
    generalize Deci.decE (sgn imm) = V at cx zv HP
    generalize sgn imm = g at cx cg
    have s1 : ∀ w, (Instr.slice 9 (.string T) none (some (.int .i64 P)) none).run Tryz.prog w = .ok (.string (T.extract 0 P.toNat)) w := fun w => run_slice_string_h w (t := 9) (s := T) Tryz.underlying9 .i64 P a4 (by omega)
    have s2 : ∀ w, (Instr.slice 9 (.string T) (some (.int .i64 (P + 2))) none none).run Tryz.prog w = .ok (.string (T.extract (P.toNat + 2) T.size)) w := fun w => by
      have := run_slice_string_l w (t := 9) (s := T) Tryz.underlying9 .i64 (P + 2) (by omega) (by omega)
      rwa [show (P + 2).toNat = P.toNat + 2 by omega] at this
    have z1 : (T.extract 0 P.toNat).size ≤ 40 := by simp; omega
    have z2 : (T.extract (P.toNat + 2) T.size).size ≤ 40 := by simp; omega
    generalize T.extract 0 P.toNat = A1 at s1 z1 HP
    generalize T.extract (P.toNat + 2) T.size = A2 at s2 z2 HP
    have q1 : ¬ 9223372036854775807 < A1.size + V.size := by omega
    have q2 : ¬ 9223372036854775807 < A1.size + V.size + A2.size := by omega
    have p0 : 0 ≤ P := a4
    have p1 : P ≤ (T.size : Int) := by omega
    have p2 : 0 ≤ P + 2 := by omega
    have p3 : P + 2 ≤ (T.size : Int) := by omega
    have p4 : IntKind.i64.wrap (P + 2) = P + 2 := by rw [IntKind.wrap_i64]; omega
    have p5 : wrap64 (P + 2) = P + 2 := by unfold wrap64; omega
    clear a4 a5
    go_wp2_with fail
    go_region_with (first
      | (go_at_call 36; refine (cg _).mono ?_; rintro e w' ⟨rfl, hw⟩; have hw := hw.symm; subst hw)
      | (go_at_call 19; refine (cx _).mono ?_; rintro e w4 ⟨rfl, b4⟩; have B4 : Hid (Below _ _ w4) := (by first | exact after B3.out.drew b4 | exact after B3.out b4); clear b4)
      | fail)
    all_goals
      go_wp2
      go_ret
      exact ⟨congrArg (fun s => Ending.returned (.string s)) HP.out.symm, unbox B4.out⟩
  · clear HA
    go_wp2
    go_ret
    exact ⟨rfl, unbox B3.out⟩
end Go.Proofs.YtnfonccimaikgaaGreatDoor.Texj
