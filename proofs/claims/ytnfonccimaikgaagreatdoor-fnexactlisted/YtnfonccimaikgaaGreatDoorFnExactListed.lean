/- For every rom and bank the law FnExactListed answers true, that is, impl.Listed answers as spec.Listed does, its answer owns its memory, behind another call too, where the program's tables and the library's table of powers of ten hold what their texts lay. -/
import Derived.Test.YtnfonccimaikgaaGreatDoorCards
import Derived.Test.YtnfonccimaikgaaGreatDoorTie
import Derived.WalkKit
import Derived.ProofKit
import Derived.OpenShut
import Derived.ShutString
import Derived.ChangeOld
import Derived.ChangeVars
import Derived.OpenVars
import Derived.Below
import Derived.Deep.DeepHandedRow
import Derived.Lib.LaidTab
import Derived.Test.YtnfonccimaikgaaGreatDoorLstd
import Derived.Test.YtnfonccimaikgaaGreatDoorLaid
namespace Go.Proofs.YtnfonccimaikgaaGreatDoor.fnExactListed
open Go.ChangeShapes Go.WideShapes Go.ChangeAt Go.RowKit
open Go.ChangeMaps (open_string shut_string)
set_option linter.unusedVariables false

theorem own : ownKnob Tryz.prog.godebug = none := by kernel_rfl
theorem laidOut : laidOutB Tryz.prog = true := by kernel_rfl
theorem rowed : varsRowed Tryz.prog Rows.fnExactListedSpec.vars = true := by kernel_rfl

theorem tables {W : World} (h : laidMetH Tryz.prog Rows.fnExactListedRow.laid W) : PartN.Tables W := by
  obtain ⟨q0, L0, _⟩ : laidMet Tryz.prog Rows.fnExactListedRow.laid W := h
  obtain ⟨q1, L1⟩ := Laid.skip L0
  obtain ⟨q2, L2⟩ := Laid.skip L1
  obtain ⟨q3, L3⟩ := Laid.skip L2
  obtain ⟨q4, L4⟩ := Laid.skip L3
  have t4 := Laid.nums (P := Tryz.prog) (k := .u8) (zs := [48, 49, 50, 51, 52, 53, 54, 55, 56, 57, 65, 66, 67, 68, 69, 70]) (show Tryz.prog.globalNamed "loop.example/g00460/impl.hexDigits" = some 0 by kernel_rfl) (show (Tryz.prog.globals[0]?).map (·.type) = some 74 by kernel_rfl) Tryz.underlying74 Tryz.underlying5 (by kernel_rfl) (by kernel_rfl) L4
  obtain ⟨q5, L5⟩ := Laid.skip L4
  have t5 := Laid.txts (P := Tryz.prog) (l := [[98], [99], [100], [101], [104], [108], [91, 104, 108, 93], [97]]) (show Tryz.prog.globalNamed "loop.example/g00460/impl.regNames" = some 8 by kernel_rfl) (show (Tryz.prog.globals[8]?).map (·.type) = some 109 by kernel_rfl) Tryz.underlying109 Tryz.underlying9 (by kernel_rfl) (by kernel_rfl) L5
  obtain ⟨q6, L6⟩ := Laid.skip L5
  have t6 := Laid.txts (P := Tryz.prog) (l := [[98, 99], [100, 101], [104, 108], [115, 112]]) (show Tryz.prog.globalNamed "loop.example/g00460/impl.pairNames" = some 6 by kernel_rfl) (show (Tryz.prog.globals[6]?).map (·.type) = some 110 by kernel_rfl) Tryz.underlying110 Tryz.underlying9 (by kernel_rfl) (by kernel_rfl) L6
  obtain ⟨q7, L7⟩ := Laid.skip L6
  have t7 := Laid.txts (P := Tryz.prog) (l := [[98, 99], [100, 101], [104, 108], [97, 102]]) (show Tryz.prog.globalNamed "loop.example/g00460/impl.stackNames" = some 7 by kernel_rfl) (show (Tryz.prog.globals[7]?).map (·.type) = some 110 by kernel_rfl) Tryz.underlying110 Tryz.underlying9 (by kernel_rfl) (by kernel_rfl) L7
  obtain ⟨q8, L8⟩ := Laid.skip L7
  have t8 := Laid.txts (P := Tryz.prog) (l := [[91, 98, 99, 93], [91, 100, 101, 93], [91, 104, 108, 43, 93], [91, 104, 108, 45, 93]]) (show Tryz.prog.globalNamed "loop.example/g00460/impl.placeNames" = some 5 by kernel_rfl) (show (Tryz.prog.globals[5]?).map (·.type) = some 110 by kernel_rfl) Tryz.underlying110 Tryz.underlying9 (by kernel_rfl) (by kernel_rfl) L8
  obtain ⟨q9, L9⟩ := Laid.skip L8
  have t9 := Laid.txts (P := Tryz.prog) (l := [[110, 122], [122], [110, 99], [99]]) (show Tryz.prog.globalNamed "loop.example/g00460/impl.condNames" = some 4 by kernel_rfl) (show (Tryz.prog.globals[4]?).map (·.type) = some 110 by kernel_rfl) Tryz.underlying110 Tryz.underlying9 (by kernel_rfl) (by kernel_rfl) L9
  obtain ⟨q10, L10⟩ := Laid.skip L9
  have t10 := Laid.txts (P := Tryz.prog) (l := [[97, 100, 100], [97, 100, 99], [115, 117, 98], [115, 98, 99], [97, 110, 100], [120, 111, 114], [111, 114], [99, 112]]) (show Tryz.prog.globalNamed "loop.example/g00460/impl.aluNames" = some 2 by kernel_rfl) (show (Tryz.prog.globals[2]?).map (·.type) = some 109 by kernel_rfl) Tryz.underlying109 Tryz.underlying9 (by kernel_rfl) (by kernel_rfl) L10
  obtain ⟨q11, L11⟩ := Laid.skip L10
  have t11 := Laid.txts (P := Tryz.prog) (l := [[114, 108, 99], [114, 114, 99], [114, 108], [114, 114], [115, 108, 97], [115, 114, 97], [115, 119, 97, 112], [115, 114, 108]]) (show Tryz.prog.globalNamed "loop.example/g00460/impl.turnNames" = some 9 by kernel_rfl) (show (Tryz.prog.globals[9]?).map (·.type) = some 109 by kernel_rfl) Tryz.underlying109 Tryz.underlying9 (by kernel_rfl) (by kernel_rfl) L11
  obtain ⟨q12, L12⟩ := Laid.skip L11
  have t12 := Laid.txts (P := Tryz.prog) (l := [[], [98, 105, 116], [114, 101, 115], [115, 101, 116]]) (show Tryz.prog.globalNamed "loop.example/g00460/impl.bitNames" = some 3 by kernel_rfl) (show (Tryz.prog.globals[3]?).map (·.type) = some 110 by kernel_rfl) Tryz.underlying110 Tryz.underlying9 (by kernel_rfl) (by kernel_rfl) L12
  obtain ⟨q13, L13⟩ := Laid.skip L12
  obtain ⟨q14, L14⟩ := Laid.skip L13
  exact ⟨fun i hi => (t10 i hi).trans (by match i, hi with | 0, _ => rfl | 1, _ => rfl | 2, _ => rfl | 3, _ => rfl | 4, _ => rfl | 5, _ => rfl | 6, _ => rfl | 7, _ => rfl), fun i hi => (t12 i hi).trans (by match i, hi with | 0, _ => rfl | 1, _ => rfl | 2, _ => rfl | 3, _ => rfl), fun i hi => (t9 i hi).trans (by match i, hi with | 0, _ => rfl | 1, _ => rfl | 2, _ => rfl | 3, _ => rfl), fun i hi => (t8 i hi).trans (by match i, hi with | 0, _ => rfl | 1, _ => rfl | 2, _ => rfl | 3, _ => rfl), fun i hi => (t6 i hi).trans (by match i, hi with | 0, _ => rfl | 1, _ => rfl | 2, _ => rfl | 3, _ => rfl), fun i hi => (t7 i hi).trans (by match i, hi with | 0, _ => rfl | 1, _ => rfl | 2, _ => rfl | 3, _ => rfl), fun i hi => (t5 i hi).trans (by match i, hi with | 0, _ => rfl | 1, _ => rfl | 2, _ => rfl | 3, _ => rfl | 4, _ => rfl | 5, _ => rfl | 6, _ => rfl | 7, _ => rfl), fun i hi => (t11 i hi).trans (by match i, hi with | 0, _ => rfl | 1, _ => rfl | 2, _ => rfl | 3, _ => rfl | 4, _ => rfl | 5, _ => rfl | 6, _ => rfl | 7, _ => rfl), fun i hi => t4 i hi⟩
theorem pow {W : World} (h : laidMetH Tryz.prog Rows.fnExactListedRow.laid W) : Texi.Pow W := by
  obtain ⟨q0, L0, _⟩ : laidMet Tryz.prog Rows.fnExactListedRow.laid W := h
  obtain ⟨q1, L1⟩ := Laid.skip L0
  obtain ⟨q2, L2⟩ := Laid.skip L1
  exact Laid.tab (P := Tryz.prog) (k := .u64) (zs := Lib.pow10Tab) (show Tryz.prog.globalNamed "internal/strconv.uint64pow10" = some 10 by kernel_rfl) (show (Tryz.prog.globals[10]?).map (·.type) = some 113 by kernel_rfl) Tryz.underlying113 Tryz.underlying99 (by kernel_rfl) (by kernel_rfl) L2
set_option maxRecDepth 20000
theorem texts_own {w : World} {base cap : Nat} {a : Option Addr} {L : List ByteArray} (h : w.ownsRow base 9 1 (.slice a L.length cap) L.length (L.map Value.string)) : Txts.Texts w a L := by
  obtain ⟨a', cap', hv, T, _⟩ := Txts.owned_texts h
  have e : a = a' := by injection hv
  rw [e]; exact T
theorem other_block {w1 w2 : World} {b1 b2 : Nat} {v1 v2 : Value} {n1 n2 : Nat} {x1 x2 : List Value} (h1 : w1.ownsRow b1 9 1 v1 n1 x1) (h2 : w2.ownsRow b2 9 1 v2 n2 x2) (hb : w1.heap.size ≤ b2) : v1.ownBlock = none ∨ v1.ownBlock ≠ v2.ownBlock := by
  cases e : v1.ownBlock with
  | none => exact .inl rfl
  | some k =>
    refine .inr (fun h => ?_)
    have a := (h1.lt k e).2
    have b := (h2.lt k h.symm).1
    omega

set_option maxHeartbeats 2000000 in
theorem walk (w : World) (a0 : ByteArray) (w0 : a0.size ≤ maxLen) (a1 : Int) (w1 : (Lit.int .i64 a1).wf = true) (hT : PartN.Tables w) (hP : Texi.Pow w) (hm : HolI.MaxL w) :
    Calls Tryz.prog 3 #[.string a0, .int .i64 a1] w fun e w' => e = .returned (.bool true) ∧ Below w.heap.size w w' := by
  have HM : Hid (PartN.Tables w ∧ Texi.Pow w ∧ HolI.MaxL w) := ⟨hT, hP, hm⟩
  clear hm hT hP
  by_cases hbig : 1048576 < a0.size
  · have hl : (1048576 : Int) < a0.size := by omega
    go_enter Tryz.func3, Tryz.ntmps3
    go_wp2
    go_ret
    exact ⟨rfl, Below.refl _ _⟩
  have cs := fun w => Lstd.specListed_any a0 a1 w (by omega)
  have ci := fun w hT hP hm => Lstd.implListed_any a0 a1 w hT hP hm (by omega)
  have hl := Lstd.out_len (rom := a0) (bank := a1)
  generalize Lstd.outL a0 a1 = L at cs ci hl
  generalize Lstd.okL a0 a1 = ok at cs ci
  have B0 : Hid (Below w.heap.size w w) := Below.refl _ _
  go_enter Tryz.func3, Tryz.ntmps3
  go_wp2_with fail
  refine (cs _).mono ?_
  rintro e w1 ⟨v1, rfl, own1, b1⟩
  obtain ⟨x1, cap1, rfl, _, _⟩ := Txts.owned_texts own1
  have O1 := (show Hid _ from own1)
  have B1 := (show Hid _ from b1)
  clear own1 b1
  go_wp2_with fail
  refine (ci _ (HM.out.1.below B1.out) (HM.out.2.1.below B1.out) (HM.out.2.2.below B1.out)).mono ?_
  rintro e w2 ⟨v2, rfl, own2, b2⟩
  obtain ⟨x2, cap2, rfl, T2, _⟩ := Txts.owned_texts own2
  have own1 := Marks.own_below O1.out b2
  have O1' := (show Hid _ from own1)
  have O2 := (show Hid _ from own2)
  have T1 := (show Hid _ from texts_own own1)
  have T2' := (show Hid _ from T2)
  have NE := (show Hid _ from other_block O1.out own2 (Nat.le_refl _))
  have B2 := (show Hid _ from B1.out.trans (b2.mono B1.out.size))
  have S12 := (show Hid _ from Nat.le_trans B1.out.size (Nat.le_refl w1.heap.size))
  clear own1 own2 T2 b2 O1 B1
  go_wp2_with fail
  refine (Txts.eqStringS_any _ _ _ _ L _ T2'.out T1.out (by omega)).mono ?_
  rintro e w3 ⟨rfl, n3, hw3⟩
  have b3 : Hid (Below w2.heap.size w2 w3) := by rw [hw3]; exact below_drewN (Below.refl _ _) _
  have O13 := (show Hid _ from Marks.own_below O1'.out b3.out)
  have O23 := (show Hid _ from Marks.own_below O2.out b3.out)
  have B3 := (show Hid _ from B2.out.trans (b3.out.mono B2.out.size))
  clear hw3 T1 T2' O1' O2 B2 b3
  go_wp2_with fail
  refine (Marks.markStringS_any _ _ _ _ _ O23.out (by omega)).mono ?_
  rintro e w4 ⟨rfl, own4, gr4⟩
  have O14 := (show Hid _ from World.ownsRow.kept O13.out gr4 NE.out)
  have O24 := (show Hid _ from own4)
  have hlt4 := World.ownsRow.lt O23.out
  have B4 := (show Hid _ from B3.out.grown gr4 B3.out.size (fun j hj => Nat.le_trans S12.out (hlt4 j hj).1))
  clear own4 gr4 hlt4 O13 O23 B3 NE S12
  go_wp2_with fail
  refine (Marks.heldStringS_any _ _ _ _ O24.out (by omega)).mono ?_
  rintro e w5 ⟨rfl, b5⟩
  have O15 := (show Hid _ from Marks.own_below O14.out b5)
  have O25 := (show Hid _ from Marks.own_below O24.out b5)
  have B5 := (show Hid _ from B4.out.trans (b5.mono B4.out.size))
  clear b5 O14 O24 B4
  go_wp2_with fail
  refine (ci _ (HM.out.1.below B5.out) (HM.out.2.1.below B5.out) (HM.out.2.2.below B5.out)).mono ?_
  rintro e w6 ⟨v6, rfl, own6, b6⟩
  obtain ⟨x6, cap6, rfl, T6, _⟩ := Txts.owned_texts own6
  have T6' := (show Hid _ from T6)
  have T16 := (show Hid _ from texts_own (Marks.own_below O15.out b6))
  have O26 := (show Hid _ from Marks.own_below O25.out b6)
  have B6 := (show Hid _ from B5.out.trans (b6.mono B5.out.size))
  clear own6 b6 T6 O15 O25 B5
  go_wp2_with fail
  refine (Txts.eqStringS_any _ _ _ _ L _ T6'.out T16.out (by omega)).mono ?_
  rintro e w7 ⟨rfl, n7, hw7⟩
  have b7 : Hid (Below w6.heap.size w6 w7) := by rw [hw7]; exact below_drewN (Below.refl _ _) _
  have O27 := (show Hid _ from Marks.own_below O26.out b7.out)
  have B7 := (show Hid _ from B6.out.trans (b7.out.mono B6.out.size))
  clear hw7 b7 O26 B6 T6' T16
  go_wp2_with fail
  refine (Marks.heldStringS_any _ _ _ _ O27.out (by omega)).mono ?_
  rintro e w8 ⟨rfl, b8⟩
  have B8 := (show Hid _ from B7.out.trans (b8.mono B7.out.size))
  clear b8 O27 B7
  go_wp2
  go_ret
  exact ⟨rfl, B8.out⟩

set_option maxRecDepth 100000 in
theorem contract (H : Type) (enc : TypeId × Value → H) (W : World) (base : Nat) (args : Array Value) (ds gs : List (DataW H)) (before : List MemPlace)
    (hval : ∀ (j : Nat) t v, Tryz.f3.params[j]? = some t → args[j]? = some v → Value.okWide Tryz.prog W .any base t v)
    (hW : DataW.Whole enc Tryz.prog Tryz.f3.params.toList Rows.fnExactListedSpec.vars false W args.toList ds gs before) (hL : laidMetH Tryz.prog Rows.fnExactListedRow.laid W) (hsh : W.ShapedOpen Tryz.prog) :
    Calls Tryz.prog 3 args W fun e W' => ∃ v, e = .returned v ∧ Rows.fnExactListedSpec.post enc Tryz.prog Tryz.f3 false true false false W args v W' := by
  have hW' := hW
  obtain ⟨p, q, hA0, hV, hbef, hfz, hnd⟩ := hW
  have hA : DataW.TrodAll enc Tryz.prog W 0 (fun _ => true) true Tryz.f3.params.toList args.toList ds p := hA0
  have hVk : DataW.TrodVars enc Tryz.prog W (fun _ => true) Rows.fnExactListedSpec.vars gs q := hV
  rw [Tryz.params3] at hA hval
  obtain ⟨v0, vs0, d0, ds0, p0, q0, hargs, rfl, rfl, h0, r0⟩ := trodAll_cons hA
  obtain ⟨v1, vs1, d1, ds1, p1, q1, rfl, rfl, rfl, h1, r1⟩ := trodAll_cons r0
  obtain ⟨rfl, rfl, rfl⟩ := trodAll_nil r1
  obtain rfl : args = #[v0, v1] := by cases args; simp_all
  obtain ⟨g1, g2, g3, g4, g5, g6, g7, g8, g9, rfl⟩ : ∃ g1 g2 g3 g4 g5 g6 g7 g8 g9, gs = [g1, g2, g3, g4, g5, g6, g7, g8, g9] := by
    have hl := Laid.vars_len hVk
    match gs, hl with
    | [g1, g2, g3, g4, g5, g6, g7, g8, g9], _ => exact ⟨_, _, _, _, _, _, _, _, _, rfl⟩
  obtain ⟨a0, rfl, rfl, rfl, w0⟩ := open_string Tryz.underlying9 (hval 0 9 v0 rfl rfl) h0
  obtain ⟨a1, rfl, rfl, rfl, w1⟩ := open_int Tryz.underlying2 (hval 1 2 v1 rfl rfl) h1
  clear hA0
  refine (walk W a0 w0 a1 w1 (tables hL) (pow hL) (Tryz.laysM144.s1_3 W hsh)).mono fun e W' ⟨he, bel⟩ => ?_
  subst he
  exact ⟨_, rfl, _, _, _, [], _, q, hW', trodAll_mk1 (shut_bool Tryz.underlying4 _), (trodAll_cons_mk (shut_string Tryz.underlying9 w0) (trodAll_cons_mk (shut_int Tryz.underlying2 w1) trodAll_mk0)), Below.trodVars laidOut bel rowed hVk, bel.frame _, fun h => by cases h⟩

/-- A world for the witness: the settled one, the table holding what its initialiser lays. -/
noncomputable def laidWorld (os : Os) : World :=
  { World.holding Tryz.prog os ⟨#[], #[], []⟩ with heap := (fun h => h.modify 13 fun | .cells _ t frozen => .cells #[.int .u8 0, .int .u8 1, .int .u8 28, .int .u8 2, .int .u8 29, .int .u8 14, .int .u8 24, .int .u8 3, .int .u8 30, .int .u8 22, .int .u8 20, .int .u8 15, .int .u8 25, .int .u8 17, .int .u8 4, .int .u8 8, .int .u8 31, .int .u8 27, .int .u8 13, .int .u8 23, .int .u8 21, .int .u8 19, .int .u8 16, .int .u8 7, .int .u8 26, .int .u8 12, .int .u8 18, .int .u8 6, .int .u8 11, .int .u8 5, .int .u8 10, .int .u8 9] t frozen | o => o) <| (fun h => h.modify 14 fun | .cells _ t frozen => .cells #[.int .u8 0, .int .u8 1, .int .u8 56, .int .u8 2, .int .u8 57, .int .u8 49, .int .u8 28, .int .u8 3, .int .u8 61, .int .u8 58, .int .u8 42, .int .u8 50, .int .u8 38, .int .u8 29, .int .u8 17, .int .u8 4, .int .u8 62, .int .u8 47, .int .u8 59, .int .u8 36, .int .u8 45, .int .u8 43, .int .u8 51, .int .u8 22, .int .u8 53, .int .u8 39, .int .u8 33, .int .u8 30, .int .u8 24, .int .u8 18, .int .u8 12, .int .u8 5, .int .u8 63, .int .u8 55, .int .u8 48, .int .u8 27, .int .u8 60, .int .u8 41, .int .u8 37, .int .u8 16, .int .u8 46, .int .u8 35, .int .u8 44, .int .u8 21, .int .u8 52, .int .u8 32, .int .u8 23, .int .u8 11, .int .u8 54, .int .u8 26, .int .u8 40, .int .u8 15, .int .u8 34, .int .u8 20, .int .u8 31, .int .u8 10, .int .u8 25, .int .u8 14, .int .u8 19, .int .u8 9, .int .u8 13, .int .u8 8, .int .u8 7, .int .u8 6] t frozen | o => o) <| (fun h => h.modify 10 fun | .cells _ t frozen => .cells #[.int .u64 1, .int .u64 10, .int .u64 100, .int .u64 1000, .int .u64 10000, .int .u64 100000, .int .u64 1000000, .int .u64 10000000, .int .u64 100000000, .int .u64 1000000000, .int .u64 10000000000, .int .u64 100000000000, .int .u64 1000000000000, .int .u64 10000000000000, .int .u64 100000000000000, .int .u64 1000000000000000, .int .u64 10000000000000000, .int .u64 100000000000000000, .int .u64 1000000000000000000, .int .u64 10000000000000000000] t frozen | o => o) <| (fun h => h.modify 12 fun | .cells _ t frozen => .cells #[.int .u8 128, .int .u8 191, .int .u8 160, .int .u8 191, .int .u8 128, .int .u8 159, .int .u8 144, .int .u8 191, .int .u8 128, .int .u8 143, .int .u8 0, .int .u8 0, .int .u8 0, .int .u8 0, .int .u8 0, .int .u8 0, .int .u8 0, .int .u8 0, .int .u8 0, .int .u8 0, .int .u8 0, .int .u8 0, .int .u8 0, .int .u8 0, .int .u8 0, .int .u8 0, .int .u8 0, .int .u8 0, .int .u8 0, .int .u8 0, .int .u8 0, .int .u8 0] t frozen | o => o) <| (fun h => h.modify 0 fun | .cells _ t frozen => .cells #[.int .u8 48, .int .u8 49, .int .u8 50, .int .u8 51, .int .u8 52, .int .u8 53, .int .u8 54, .int .u8 55, .int .u8 56, .int .u8 57, .int .u8 65, .int .u8 66, .int .u8 67, .int .u8 68, .int .u8 69, .int .u8 70] t frozen | o => o) <| (fun h => h.modify 8 fun | .cells _ t frozen => .cells #[.string ⟨#[98]⟩, .string ⟨#[99]⟩, .string ⟨#[100]⟩, .string ⟨#[101]⟩, .string ⟨#[104]⟩, .string ⟨#[108]⟩, .string ⟨#[91, 104, 108, 93]⟩, .string ⟨#[97]⟩] t frozen | o => o) <| (fun h => h.modify 6 fun | .cells _ t frozen => .cells #[.string ⟨#[98, 99]⟩, .string ⟨#[100, 101]⟩, .string ⟨#[104, 108]⟩, .string ⟨#[115, 112]⟩] t frozen | o => o) <| (fun h => h.modify 7 fun | .cells _ t frozen => .cells #[.string ⟨#[98, 99]⟩, .string ⟨#[100, 101]⟩, .string ⟨#[104, 108]⟩, .string ⟨#[97, 102]⟩] t frozen | o => o) <| (fun h => h.modify 5 fun | .cells _ t frozen => .cells #[.string ⟨#[91, 98, 99, 93]⟩, .string ⟨#[91, 100, 101, 93]⟩, .string ⟨#[91, 104, 108, 43, 93]⟩, .string ⟨#[91, 104, 108, 45, 93]⟩] t frozen | o => o) <| (fun h => h.modify 4 fun | .cells _ t frozen => .cells #[.string ⟨#[110, 122]⟩, .string ⟨#[122]⟩, .string ⟨#[110, 99]⟩, .string ⟨#[99]⟩] t frozen | o => o) <| (fun h => h.modify 2 fun | .cells _ t frozen => .cells #[.string ⟨#[97, 100, 100]⟩, .string ⟨#[97, 100, 99]⟩, .string ⟨#[115, 117, 98]⟩, .string ⟨#[115, 98, 99]⟩, .string ⟨#[97, 110, 100]⟩, .string ⟨#[120, 111, 114]⟩, .string ⟨#[111, 114]⟩, .string ⟨#[99, 112]⟩] t frozen | o => o) <| (fun h => h.modify 9 fun | .cells _ t frozen => .cells #[.string ⟨#[114, 108, 99]⟩, .string ⟨#[114, 114, 99]⟩, .string ⟨#[114, 108]⟩, .string ⟨#[114, 114]⟩, .string ⟨#[115, 108, 97]⟩, .string ⟨#[115, 114, 97]⟩, .string ⟨#[115, 119, 97, 112]⟩, .string ⟨#[115, 114, 108]⟩] t frozen | o => o) <| (fun h => h.modify 3 fun | .cells _ t frozen => .cells #[.string ⟨#[]⟩, .string ⟨#[98, 105, 116]⟩, .string ⟨#[114, 101, 115]⟩, .string ⟨#[115, 101, 116]⟩] t frozen | o => o) <| (fun h => h.modify 11 fun | .cells _ t frozen => .cells ((Go.Pinned.utf8FirstZ).map fun n => Value.int .u8 (n : Nat)).toArray t frozen | o => o) <| (World.holding Tryz.prog os ⟨#[], #[], []⟩).heap }
theorem laid_met (os : Os) : laidMet Tryz.prog Rows.fnExactListedRow.laid ((laidWorld os).forCall (fun _ _ => 0) ⟨#[], #[.string ByteArray.empty, .int .i64 0], []⟩).memory :=
  laidMet_of_run' 8 (by kernel_rfl) (by kernel_rfl)
theorem reads (os : Os) {H : Type} (enc : TypeId × Value → H) : ∃ places, DataW.whole enc Tryz.prog ((laidWorld os).forCall (fun _ _ => 0) ⟨#[], #[.string ByteArray.empty, .int .i64 0], []⟩).memory Tryz.f3.params.toList Rows.fnExactListedSpec.vars false [.string ByteArray.empty, .int .i64 0] 8 = some ([.lit (.string []), .lit (.int .i64 0)], [.agg [.lit (.string [97, 100, 100]), .lit (.string [97, 100, 99]), .lit (.string [115, 117, 98]), .lit (.string [115, 98, 99]), .lit (.string [97, 110, 100]), .lit (.string [120, 111, 114]), .lit (.string [111, 114]), .lit (.string [99, 112])], .agg [.lit (.string []), .lit (.string [98, 105, 116]), .lit (.string [114, 101, 115]), .lit (.string [115, 101, 116])], .agg [.lit (.string [110, 122]), .lit (.string [122]), .lit (.string [110, 99]), .lit (.string [99])], .agg [.lit (.string [91, 98, 99, 93]), .lit (.string [91, 100, 101, 93]), .lit (.string [91, 104, 108, 43, 93]), .lit (.string [91, 104, 108, 45, 93])], .agg [.lit (.string [98, 99]), .lit (.string [100, 101]), .lit (.string [104, 108]), .lit (.string [115, 112])], .agg [.lit (.string [98, 99]), .lit (.string [100, 101]), .lit (.string [104, 108]), .lit (.string [97, 102])], .agg [.lit (.string [98]), .lit (.string [99]), .lit (.string [100]), .lit (.string [101]), .lit (.string [104]), .lit (.string [108]), .lit (.string [91, 104, 108, 93]), .lit (.string [97])], .agg [.lit (.string [114, 108, 99]), .lit (.string [114, 114, 99]), .lit (.string [114, 108]), .lit (.string [114, 114]), .lit (.string [115, 108, 97]), .lit (.string [115, 114, 97]), .lit (.string [115, 119, 97, 112]), .lit (.string [115, 114, 108])], .agg [.lit (.int .u8 48), .lit (.int .u8 49), .lit (.int .u8 50), .lit (.int .u8 51), .lit (.int .u8 52), .lit (.int .u8 53), .lit (.int .u8 54), .lit (.int .u8 55), .lit (.int .u8 56), .lit (.int .u8 57), .lit (.int .u8 65), .lit (.int .u8 66), .lit (.int .u8 67), .lit (.int .u8 68), .lit (.int .u8 69), .lit (.int .u8 70)]], places) :=
  ⟨MemPlace.row ⟨2, 0, none⟩ 8 ++ MemPlace.row ⟨3, 0, none⟩ 4 ++ MemPlace.row ⟨4, 0, none⟩ 4 ++ MemPlace.row ⟨5, 0, none⟩ 4 ++ MemPlace.row ⟨6, 0, none⟩ 4 ++ MemPlace.row ⟨7, 0, none⟩ 4 ++ MemPlace.row ⟨8, 0, none⟩ 8 ++ MemPlace.row ⟨9, 0, none⟩ 8 ++ MemPlace.row ⟨0, 0, none⟩ 16, by kernel_rfl⟩

set_option maxRecDepth 100000 in
theorem lifted (os : Os) (started : os.Started) (H : Type) (enc : TypeId × Value → H) (F : Stop.Interp) :
    ReturnsInHanded {} Tryz.checked os 3 .any ((OpenSpec.ofChange Rows.fnExactListedSpec).preRow enc Tryz.prog Tryz.f3 Rows.fnExactListedRow.domain false Rows.fnExactListedRow.laid) (((OpenSpec.ofChange Rows.fnExactListedSpec).at F).post enc Tryz.prog Tryz.f3 false true false false) := by
  obtain ⟨places, hx⟩ := reads os enc
  refine returnsInHanded_of_row (C := Tryz.checked) (s := OpenSpec.ofChange Rows.fnExactListedSpec) own started (by kernel_rfl) Tryz.func3
    (witness_row_at (enc := enc) (C := Tryz.checked) false (laidWorld os) #[.string ByteArray.empty, .int .i64 0] rfl (by kernel_rfl) (by kernel_rfl) (by kernel_rfl)
      (OpenSpec.preRow_of_cond 8 hx (by kernel_rfl) (fun k hk => by cases hk) (by kernel_rfl) (laid_met os))) ?_
  intro W base args ds gs before hval hW _ _ _ hL hsh _
  exact contract H enc W base args ds gs before hval hW hL hsh

theorem said : Rows.FnExactListedSaid :=
  OpenClaim.holds_of_cond 3 Tryz.f3 rfl rfl rfl rfl rfl rfl rfl ⟨rfl, rfl, rfl, rfl, rfl⟩ rfl rfl rfl rfl rfl (by kernel_rfl) Tryz.func3 (by kernel_rfl)
    (of_decide_eq_true (by kernel_rfl)) (by unfold Func.isWrapper; first | (rw [if_pos (by decide +kernel)]; kernel_rfl) | (rw [if_neg (by decide +kernel)]; exact ⟨rfl, rfl⟩))
    (fun os started H enc _ F => by rw [OpenClaim.pre_eq_preRow]; exact lifted os started H enc F)

theorem plain (f : FuncId) (fn : Func) (hf : Tryz.pinned.checked.prog.funcNamed "loop.example/g00460/laws.FnExactListed" = some f) (hfn : Tryz.pinned.checked.prog.funcs[f]? = some fn) :
    false = Tryz.pinned.checked.prog.looks [] ∧ ∀ (j : Nat) t, fn.params[j]? = some t → Tryz.pinned.checked.prog.wantsStandIn t = false := by
  obtain rfl : f = 3 := Option.some.inj ((show Tryz.prog.funcNamed "loop.example/g00460/laws.FnExactListed" = some 3 by kernel_rfl).symm.trans hf) |>.symm
  obtain rfl : fn = Tryz.f3 := (Option.some.inj (Tryz.func3.symm.trans hfn)).symm
  refine ⟨by kernel_rfl, fun j t ht => ?_⟩
  rw [Tryz.params3] at ht
  have h : t = 9 ∨ t = 2 := by simpa using Array.mem_of_getElem? ht
  rcases h with rfl | rfl
  · exact (show Tryz.prog.wantsStandIn 9 = false by kernel_rfl)
  · exact (show Tryz.prog.wantsStandIn 2 = false by kernel_rfl)

theorem card : Rows.FnExactListedCardSaid :=
  Claim7.holds_tied_plain_at .later [] _ _ _ _ said (fun _ h => by cases h) (by kernel_rfl) (fun _ h => by cases h) fnExactListed_row_tie rfl ⟨rfl, rfl⟩ (by kernel_rfl) rfl plain (by kernel_rfl)
end Go.Proofs.YtnfonccimaikgaaGreatDoor.fnExactListed
namespace Go.Proofs.YtnfonccimaikgaaGreatDoor
theorem fnExactListed_holds : Rows.FnExactListedCardSaid := fnExactListed.card
end Go.Proofs.YtnfonccimaikgaaGreatDoor
