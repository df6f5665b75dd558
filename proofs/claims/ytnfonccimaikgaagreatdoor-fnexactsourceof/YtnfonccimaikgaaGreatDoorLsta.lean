/-
  Contracts of ours for an instruction's line: spec.l13Line, impl.isRelative, jumpFrom (of a jr), textAt, noughtsAhead.
-/
import Derived.Test.YtnfonccimaikgaaGreatDoorLstp
import Derived.Test.YtnfonccimaikgaaGreatDoorShelf
namespace Go.Proofs.YtnfonccimaikgaaGreatDoor.Lsta
open Go.ChangeShapes Go.WideShapes Go.ChangeAt Go.RowKit
open Signed (inB sgn)
open HoleX (n8 n16 e8 holeT holeP)
open HolI LenX InsX Texi ReadI Lstp
set_option linter.unusedVariables false
set_option maxRecDepth 20000

theorem l4Word_any (n : Int) (w : World) :
    Calls Tryz.prog 37 #[.int .i64 n] w fun e w' => e = .returned (.bool (inB n 0 65535)) ∧ w' = w := by
  have c := fun lo hi w => Signed.l1In_any n lo hi w
  go_enter Tryz.func37, Tryz.ntmps37
  go_wp2_with (go_at_call 12; refine (c _ _ _).mono ?_; rintro e w' ⟨rfl, hw⟩; have hw := hw.symm; subst hw)
  go_ret
  exact ⟨rfl, rfl⟩
set_option maxHeartbeats 1000000 in
theorem specLine_any (c : Int) (b : Bool) (m addr n : Int) (w : World) (h0 : 0 ≤ c) (h1 : c ≤ 255) (ha0 : 0 ≤ addr) (ha1 : addr ≤ 65535) (hr : relB c b = true → n = 2) :
    Calls Tryz.prog 23 #[.agg #[.int .i64 c, .bool b, .int .i64 m], .int .i64 addr, .int .i64 n] w fun e w' => e = .returned (.string (lineV c b m addr)) ∧ Below w.heap.size w w' := by
  have ct := fun w => Tmpl.template_any c b w h0 h1
  have hs := Leng.tmpl_le c b h0 h1
  have ch := fun w => HoleX.hole_any (Tmpl.tmplS c b) w (by omega)
  unfold HoleX.ret at ch
  rw [show holeT (Tmpl.tmplS c b) = hole c b from rfl] at ch
  cases hrel : relB c b
  · have hv := lineV_not (m := m) (addr := addr) hrel
    rw [hv]
    obtain ⟨-, hno⟩ := rel_no h0 h1 hrel
    have hcs := hole_cases c b
    have cx := fun w => Texj.specText_any c b m w
    generalize textV c b m = V at cx ⊢
    generalize holeP (Tmpl.tmplS c b) = P at ch
    generalize Tmpl.tmplS c b = T at ct ch hs
    generalize hole c b = G at ch hcs hno
    have HN : Hid (¬ (G = ⟨#[101, 56]⟩ ∧ c < 64)) := hno
    clear hno hrel hr hv
    go_enter Tryz.func23, Tryz.ntmps23
    go_wp2_with fail
    refine (ct _).mono ?_
    rintro e w1 ⟨rfl, b1⟩
    have B1 : Hid (Below _ _ w1) := b1
    clear b1 ct
    go_wp2_with fail
    refine (ch _).mono ?_
    rintro e w2 ⟨rfl, b2⟩
    have B2 : Hid (Below _ _ w2) := after B1.out b2
    have k0 := box B2.out 0 _ rfl
    have k1 := box B2.out 1 _ rfl
    have k2 := box B2.out 2 _ rfl
    clear b2 ch B1
    rcases hcs with rfl | rfl | rfl | rfl
    · go_wp2_with fail
      refine (cx _).mono ?_
      rintro e w3 ⟨rfl, b3⟩
      have B3 : Hid (Below _ _ w3) := after B2.out b3
      clear b3 cx B2
      go_wp2
      go_ret
      exact ⟨rfl, unbox B3.out⟩
    · go_wp2_with fail
      refine (cx _).mono ?_
      rintro e w3 ⟨rfl, b3⟩
      have B3 : Hid (Below _ _ w3) := after B2.out b3
      clear b3 cx B2
      go_wp2
      go_ret
      exact ⟨rfl, unbox B3.out⟩
    · have h64 : ¬ c < 64 := fun h => HN.out ⟨rfl, h⟩
      have d64 : decide (c < 64) = false := decide_eq_false h64
      go_wp2_with fail
      refine (cx _).mono ?_
      rintro e w3 ⟨rfl, b3⟩
      have B3 : Hid (Below _ _ w3) := after B2.out b3
      clear b3 cx B2
      go_wp2
      go_ret
      exact ⟨rfl, unbox B3.out⟩
    · go_wp2_with fail
      refine (cx _).mono ?_
      rintro e w3 ⟨rfl, b3⟩
      have B3 : Hid (Below _ _ w3) := after B2.out b3
      clear b3 cx B2
      go_wp2
      go_ret
      exact ⟨rfl, unbox B3.out⟩
  · obtain ⟨rfl, h64, -, hh, -⟩ := rel_yes h0 h1 hrel
    obtain ⟨hz, -, -, -, -, -, a4, a5⟩ := rel_hole h0 h1 hrel
    have hn2 := hr hrel
    subst hn2
    rw [lineV_rel hrel]
    rw [hh] at ch
    have cg := fun w => Signed.specSigned_any m w
    have hsg := sgn_bd m
    have ht : toV m addr = addr + 2 + sgn m := rfl
    have d64 : decide (c < 64) = true := decide_eq_true h64
    have cw := fun w => l4Word_any (toV m addr) w
    have cx := fun w => Hex.specHex_any (toV m addr) 4 w
    have zv := hex_size (toV m addr) 4 (by omega)
    have zv : (Hex.hexS (toV m addr) 4).size ≤ 5 := by omega
    have hj1 := fun h => jr_in (c := c) (b := false) (t := toV m addr) h
    have hj2 := fun h => jr_out (c := c) (b := false) (t := toV m addr) h
    generalize Hex.hexS (toV m addr) 4 = V at cx zv hj1
    generalize jrV c false (toV m addr) = R at hj1 hj2 ⊢
    generalize toV m addr = t at ht cw cx hj1 hj2
    generalize sgn m = g at cg hsg ht
    generalize holeP (Tmpl.tmplS c false) = P at ch a4 a5 hj1
    generalize Tmpl.tmplS c false = T at ct ch hs a5 hj1 hz
    have s1 : ∀ w, (Instr.slice 9 (.string T) none (some (.int .i64 P)) none).run Tryz.prog w = .ok (.string (T.extract 0 P.toNat)) w := fun w => run_slice_string_h w (t := 9) (s := T) Tryz.underlying9 .i64 P a4 (by omega)
    have s2 : ∀ w, (Instr.slice 9 (.string T) (some (.int .i64 (P + 2))) none none).run Tryz.prog w = .ok (.string (T.extract (P.toNat + 2) T.size)) w := fun w => by
      have := run_slice_string_l w (t := 9) (s := T) Tryz.underlying9 .i64 (P + 2) (by omega) (by omega)
      rwa [show (P + 2).toNat = P.toNat + 2 by omega] at this
    have z1 : (T.extract 0 P.toNat).size ≤ 40 := by simp; omega
    have z2 : (T.extract (P.toNat + 2) T.size).size ≤ 40 := by simp; omega
    have HP : Hid (inB t 0 65535 = true → R = T.extract 0 P.toNat ++ V ++ T.extract (P.toNat + 2) T.size) := fun h => hj1 h
    have HN : Hid (inB t 0 65535 = false → R = ⟨#[]⟩) := hj2
    clear hj1 hj2
    generalize T.extract 0 P.toNat = A1 at s1 z1 HP
    generalize T.extract (P.toNat + 2) T.size = A2 at s2 z2 HP
    have q1 : ¬ 9223372036854775807 < A1.size + V.size := by omega
    have q2 : ¬ 9223372036854775807 < A1.size + V.size + A2.size := by omega
    have p0 : 0 ≤ P := a4
    have p1 : P ≤ (T.size : Int) := by omega
    have p2 : 0 ≤ P + 2 := by omega
    have p3 : P + 2 ≤ (T.size : Int) := by omega
    have p4 : IntKind.i64.wrap (P + 2) = P + 2 := by rw [IntKind.wrap_i64]; omega
    have p5 : wrap64 (P + 2) = P + 2 := by unfold wrap64; omega
    have p6 : IntKind.i64.wrap (addr + 2) = addr + 2 := by rw [IntKind.wrap_i64]; omega
    have p7 : IntKind.i64.wrap (addr + 2 + g) = t := by rw [IntKind.wrap_i64]; omega
    clear a4 a5 hrel hr hz hs hh h64
    have HT : Hid (t = addr + 2 + g) := ht
    clear ht hsg
    generalize hq : inB t 0 65535 = q at cw
    have HQ : Hid (inB t 0 65535 = q) := hq
    clear hq
    go_enter Tryz.func23, Tryz.ntmps23
    go_wp2_with fail
    refine (ct _).mono ?_
    rintro e w1 ⟨rfl, b1⟩
    have B1 : Hid (Below _ _ w1) := b1
    clear b1 ct
    go_wp2_with fail
    refine (ch _).mono ?_
    rintro e w2 ⟨rfl, b2⟩
    have B2 : Hid (Below _ _ w2) := after B1.out b2
    have k0 := box B2.out 0 _ rfl
    have k1 := box B2.out 1 _ rfl
    have k2 := box B2.out 2 _ rfl
    clear b2 ch B1
    cases q
    · go_wp2_with first
        | (go_at_call 36; refine (cg _).mono ?_; rintro e w' ⟨rfl, hw⟩; have hw := hw.symm; subst hw)
        | (go_at_call 37; refine (cw _).mono ?_; rintro e w' ⟨rfl, hw⟩; have hw := hw.symm; subst hw)
      go_ret
      exact ⟨congrArg (fun s => Ending.returned (.string s)) (HN.out HQ.out).symm, unbox B2.out⟩
    · have HP : Hid (R = A1 ++ V ++ A2) := HP.out HQ.out
      go_wp2_with first
        | (go_at_call 36; refine (cg _).mono ?_; rintro e w' ⟨rfl, hw⟩; have hw := hw.symm; subst hw)
        | (go_at_call 37; refine (cw _).mono ?_; rintro e w' ⟨rfl, hw⟩; have hw := hw.symm; subst hw)
        | fail
      go_region_with (first
        | (go_at_call 24; refine (cx _).mono ?_; rintro e w4 ⟨rfl, rfl⟩; have B4 : Hid (Below _ _ w2.drew) := B2.out.drew)
        | fail)
      all_goals
        go_wp2
        go_ret
        exact ⟨congrArg (fun s => Ending.returned (.string s)) HP.out.symm, unbox B4.out⟩
theorem isRel_any (c : Int) (b : Bool) (m : Int) (w : World) (h0 : 0 ≤ c) (h1 : c ≤ 255) :
    Calls Tryz.prog 54 #[.agg #[.int .i64 c, .bool b, .int .i64 m]] w fun e w' => e = .returned (.bool (relB c b)) ∧ Below w.heap.size w w' := by
  have cs := fun w => Shape.shapeOf_any c b w
  rw [shape_in (show inB c 0 255 = true by unfold inB; simp; omega)] at cs
  have cp := fun w => Tryz.strings_HasPrefix (Shape.shapeR c b) ⟨#[106, 114]⟩ w
  have hv : Lib.hasPrefix (Shape.shapeR c b).data.toList (⟨#[106, 114]⟩ : ByteArray).data.toList = relB c b := by
    cases hrel : relB c b
    · exact (rel_no h0 h1 hrel).1
    · obtain ⟨-, -, hsh, -⟩ := rel_yes h0 h1 hrel
      rcases hsh with h | h
      · rw [h]; decide
      · rw [h]; decide
  rw [hv] at cp
  clear hv
  generalize Shape.shapeR c b = T at cs cp
  generalize relB c b = r at cp ⊢
  go_enter Tryz.func54, Tryz.ntmps54
  go_wp2_with fail
  refine (cs _).mono ?_
  rintro e w1 ⟨rfl, b1⟩
  have B1 : Hid (Below _ _ w1) := b1
  clear b1 cs
  go_wp2_with (go_at_call 72; refine (cp _).mono ?_; rintro e w' ⟨rfl, hw⟩; have hw := hw.symm; subst hw)
  go_ret
  exact ⟨rfl, unbox B1.out⟩
set_option maxHeartbeats 1000000 in
theorem jump_rel (c : Int) (b : Bool) (m addr : Int) (w : World) (hm : MaxL w) (h0 : 0 ≤ c) (h1 : c ≤ 255) (ha0 : 0 ≤ addr) (ha1 : addr ≤ 65535) (hrel : relB c b = true) :
    Calls Tryz.prog 56 #[.agg #[.int .i64 c, .bool b, .int .i64 m], .int .i64 addr] w fun e w' => e = .returned (.tuple #[.int .i64 (toV m addr), .bool true]) ∧ Below w.heap.size w w' := by
  have cs := fun w => Shape.shapeOf_any c b w
  rw [shape_in (show inB c 0 255 = true by unfold inB; simp; omega)] at cs
  obtain ⟨-, -, hsh, -⟩ := rel_yes h0 h1 hrel
  have HM : Hid (MaxL w) := hm
  have cc : ∀ W, Below w.heap.size w W → Calls Tryz.prog 75 #[.string (Shape.shapeR c b), .string ⟨#[32]⟩] W fun e w' => (∃ (y : ByteArray) (f : Bool), e = .returned (.tuple #[.string ⟨#[106, 114]⟩, .string y, .bool f])) ∧ Below W.heap.size W w' := fun W hb => by
    obtain ⟨mm, hmm⟩ := HM.out.below hb
    rcases hsh with h | h
    · rw [h]
      refine (Tryz.strings_Cut ⟨#[106, 114, 32, 101, 56]⟩ ⟨#[32]⟩ mm W (by decide) hmm).mono ?_
      rintro e w' ⟨rfl, k, rfl⟩
      exact ⟨⟨_, _, rfl⟩, Hole.below_drewN (Below.refl _ _) k⟩
    · rw [h]
      refine (Tryz.strings_Cut ⟨#[106, 114, 32, 67, 44, 101, 56]⟩ ⟨#[32]⟩ mm W (by decide) hmm).mono ?_
      rintro e w' ⟨rfl, k, rfl⟩
      exact ⟨⟨_, _, rfl⟩, Hole.below_drewN (Below.refl _ _) k⟩
  have cg := fun w => Signed.implSigned_any m w
  have hsg := sgn_bd m
  have ht : toV m addr = addr + 2 + sgn m := rfl
  generalize toV m addr = t at ht ⊢
  generalize sgn m = g at cg hsg ht
  have p6 : IntKind.i64.wrap (addr + 2) = addr + 2 := by rw [IntKind.wrap_i64]; omega
  have p7 : IntKind.i64.wrap (addr + 2 + g) = t := by rw [IntKind.wrap_i64]; omega
  clear hm hsh hrel ht hsg
  generalize Shape.shapeR c b = T at cs cc
  go_enter Tryz.func56, Tryz.ntmps56
  go_wp2_with fail
  refine (cs _).mono ?_
  rintro e w1 ⟨rfl, b1⟩
  have B1 : Hid (Below _ _ w1) := b1
  clear b1 cs
  go_wp2_with fail
  refine (cc _ (unbox B1.out)).mono ?_
  rintro e w2 ⟨⟨y, f, rfl⟩, b2⟩
  have B2 : Hid (Below _ _ w2) := after B1.out b2
  have k0 := box B2.out 0 _ rfl
  have k1 := box B2.out 1 _ rfl
  have k2 := box B2.out 2 _ rfl
  clear b2 cc B1
  go_wp2_with (go_at_call 76; refine (cg _).mono ?_; rintro e w' ⟨rfl, hw⟩; have hw := hw.symm; subst hw)
  go_ret2
  exact ⟨rfl, unbox B2.out⟩
set_option maxHeartbeats 1000000 in
theorem textAt_any (c : Int) (b : Bool) (m addr : Int) (w : World) (hT : PartN.Tables w) (hP : Pow w) (hm : MaxL w) (h0 : 0 ≤ c) (h1 : c ≤ 255) (ha0 : 0 ≤ addr) (ha1 : addr ≤ 65535) :
    Calls Tryz.prog 41 #[.agg #[.int .i64 c, .bool b, .int .i64 m], .int .i64 addr] w fun e w' => e = .returned (.string (lineV c b m addr)) ∧ Below w.heap.size w w' := by
  have HX : Hid (PartN.Tables w ∧ Pow w ∧ MaxL w) := ⟨hT, hP, hm⟩
  clear hT hP hm
  have cr := fun w => isRel_any c b m w h0 h1
  cases hrel : relB c b
  · rw [lineV_not hrel]
    rw [hrel] at cr
    have ci := fun w hT hP hm => Texj.implText_any c b m w hT hP hm
    generalize textV c b m = V at ci ⊢
    clear hrel
    go_enter Tryz.func41, Tryz.ntmps41
    go_wp2_with fail
    refine (cr _).mono ?_
    rintro e w1 ⟨rfl, b1⟩
    have B1 : Hid (Below _ _ w1) := b1
    have k0 := box B1.out 0 _ rfl
    have k1 := box B1.out 1 _ rfl
    have k2 := box B1.out 2 _ rfl
    clear b1 cr
    go_wp2_with fail
    refine (ci _ (HX.out.1.below (unbox B1.out)) (HX.out.2.1.below (unbox B1.out)) (HX.out.2.2.below (unbox B1.out))).mono ?_
    rintro e w2 ⟨rfl, b2⟩
    have B2 : Hid (Below _ _ w2) := after B1.out b2
    clear b2 ci B1
    go_wp2
    go_ret
    exact ⟨rfl, unbox B2.out⟩
  rw [lineV_rel hrel]
  rw [hrel] at cr
  obtain ⟨hz, hs, ht, a1, a2, a3, a4, a5⟩ := rel_hole h0 h1 hrel
  have cj := fun w hm => jump_rel c b m addr w hm h0 h1 ha0 ha1 hrel
  have ct := fun w hT => TmplI.implTemplate_any c b w hT
  rw [ht] at ct
  have cw := fun w => isWord_any (toV m addr) w
  have cx := fun w hT => Hex.implHex_any (toV m addr) 4 w hT
  have zv := hex_size (toV m addr) 4 (by omega)
  have hne : (⟨#[101, 56]⟩ : ByteArray) ≠ Hex.hexS (toV m addr) 4 ∧ (Hex.hexS (toV m addr) 4).size ≤ 5 := by
    refine ⟨fun h => ?_, by omega⟩
    rw [← h] at zv
    revert zv
    decide
  have hj1 := fun h => jr_in (c := c) (b := b) (t := toV m addr) h
  have hj2 := fun h => jr_out (c := c) (b := b) (t := toV m addr) h
  have hpe := put_eq (Tmpl.tmplS c b) ⟨#[101, 56]⟩ (Hex.hexS (toV m addr) 4) (holeP (Tmpl.tmplS c b)) a4 a5 a3
  have HP : Hid (inB (toV m addr) 0 65535 = true → jrV c b (toV m addr) = ⟨(Lib.replaceK (⟨#[101, 56]⟩ : ByteArray).data.toList (Hex.hexS (toV m addr) 4).data.toList 1 (Tmpl.tmplS c b).data.toList).toArray⟩) := fun h => (hj1 h).trans hpe.symm
  have HN : Hid (inB (toV m addr) 0 65535 = false → jrV c b (toV m addr) = ⟨#[]⟩) := hj2
  clear hj1 hj2 hpe ht hz zv a3 a4 a5 hrel
  generalize Hex.hexS (toV m addr) 4 = V at cx hne HP
  generalize jrV c b (toV m addr) = R at HP HN ⊢
  generalize toV m addr = t at cj cw cx HP HN
  generalize Tmpl.tmplS c b = T at ct hs a1 a2 HP
  generalize hq : inB t 0 65535 = q at cw HP HN
  clear hq
  go_enter Tryz.func41, Tryz.ntmps41
  go_wp2_with fail
  refine (cr _).mono ?_
  rintro e w1 ⟨rfl, b1⟩
  have B1 : Hid (Below _ _ w1) := b1
  have k0 := box B1.out 0 _ rfl
  have k1 := box B1.out 1 _ rfl
  have k2 := box B1.out 2 _ rfl
  clear b1 cr
  go_wp2_with fail
  refine (cj _ (HX.out.2.2.below (unbox B1.out))).mono ?_
  rintro e w2 ⟨rfl, b2⟩
  have B2 : Hid (Below _ _ w2) := after B1.out b2
  have k0 := box B2.out 0 _ rfl
  have k1 := box B2.out 1 _ rfl
  clear b2 cj B1 k2
  cases q
  · go_wp2_with (go_at_call 57; refine (cw _).mono ?_; rintro e w' ⟨rfl, hw⟩; have hw := hw.symm; subst hw)
    go_ret
    exact ⟨congrArg (fun s => Ending.returned (.string s)) (HN.out trivial).symm, unbox B2.out⟩
  · have HQ : Hid (R = _) := HP.out (by first | rfl | trivial)
    clear HN HP
    go_wp2_with first | (go_at_call 57; refine (cw _).mono ?_; rintro e w' ⟨rfl, hw⟩; have hw := hw.symm; subst hw) | fail
    refine (ct _ (HX.out.1.below (unbox B2.out))).mono ?_
    rintro e w3 ⟨rfl, b3⟩
    have B3 : Hid (Below _ _ w3) := after B2.out b3
    clear b3 ct B2 k0 k1
    go_wp2_with fail
    refine (cx _ (HX.out.1.below (unbox B3.out)).hex).mono ?_
    rintro e w4 ⟨rfl, b4⟩
    have B4 : Hid (Below _ _ w4) := after B3.out b4
    clear b4 cx B3
    obtain ⟨mm, hmm⟩ := HX.out.2.2.below (unbox B4.out)
    have cr := Tryz.strings_Replace_some T ⟨#[101, 56]⟩ V 1 mm w4 (by omega) hmm (by decide) hne.1 (by decide) (by rw [a1]; decide) (by rw [a1]; have := hne.2; omega)
    rw [a2] at cr
    clear hmm a1 a2 hne
    go_wp2_with fail
    refine cr.mono ?_
    rintro e w5 ⟨rfl, b5⟩
    have B5 : Hid (Below _ _ w5) := after B4.out b5
    clear b5 cr B4
    go_wp2
    go_ret
    exact ⟨congrArg (fun s => Ending.returned (.string s)) HQ.out.symm, unbox B5.out⟩
end Go.Proofs.YtnfonccimaikgaaGreatDoor.Lsta
