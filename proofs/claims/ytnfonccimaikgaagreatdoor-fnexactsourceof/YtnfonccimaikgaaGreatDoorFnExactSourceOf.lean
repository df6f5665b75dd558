/- For every rom the law FnExactSourceOf answers true, that is, impl.SourceOf answers as spec.SourceOf does, where the program's tables and the library's table of powers of ten hold what their texts lay. -/
import Derived.Test.YtnfonccimaikgaaGreatDoorCards
import Derived.Test.YtnfonccimaikgaaGreatDoorTie
import Derived.WalkKit
import Derived.ProofKit
import Derived.OpenShut
import Derived.ShutString
import Derived.ChangeOld
import Derived.ChangeVars
import Derived.OpenVars
import Derived.Below
import Derived.Deep.DeepHandedRow
import Derived.Lib.LaidTab
import Derived.Test.YtnfonccimaikgaaGreatDoorLstf
import Derived.Test.YtnfonccimaikgaaGreatDoorLaid
namespace Go.Proofs.YtnfonccimaikgaaGreatDoor.fnExactSourceOf
open Go.ChangeShapes Go.WideShapes Go.ChangeAt Go.RowKit
open Go.ChangeMaps (open_string shut_string)
set_option linter.unusedVariables false

theorem own : ownKnob Tryz.prog.godebug = none := by kernel_rfl
theorem laidOut : laidOutB Tryz.prog = true := by kernel_rfl
theorem rowed : varsRowed Tryz.prog Rows.fnExactSourceOfSpec.vars = true := by kernel_rfl

theorem tables {W : World} (h : laidMetH Tryz.prog Rows.fnExactSourceOfRow.laid W) : PartN.Tables W := by
  obtain ⟨q0, L0, _⟩ : laidMet Tryz.prog Rows.fnExactSourceOfRow.laid W := h
  obtain ⟨q1, L1⟩ := Laid.skip L0
  obtain ⟨q2, L2⟩ := Laid.skip L1
  obtain ⟨q3, L3⟩ := Laid.skip L2
  obtain ⟨q4, L4⟩ := Laid.skip L3
  have t4 := Laid.nums (P := Tryz.prog) (k := .u8) (zs := [48, 49, 50, 51, 52, 53, 54, 55, 56, 57, 65, 66, 67, 68, 69, 70]) (show Tryz.prog.globalNamed "loop.example/g00460/impl.hexDigits" = some 0 by kernel_rfl) (show (Tryz.prog.globals[0]?).map (·.type) = some 74 by kernel_rfl) Tryz.underlying74 Tryz.underlying5 (by kernel_rfl) (by kernel_rfl) L4
  obtain ⟨q5, L5⟩ := Laid.skip L4
  have t5 := Laid.txts (P := Tryz.prog) (l := [[98], [99], [100], [101], [104], [108], [91, 104, 108, 93], [97]]) (show Tryz.prog.globalNamed "loop.example/g00460/impl.regNames" = some 8 by kernel_rfl) (show (Tryz.prog.globals[8]?).map (·.type) = some 109 by kernel_rfl) Tryz.underlying109 Tryz.underlying9 (by kernel_rfl) (by kernel_rfl) L5
  obtain ⟨q6, L6⟩ := Laid.skip L5
  have t6 := Laid.txts (P := Tryz.prog) (l := [[98, 99], [100, 101], [104, 108], [115, 112]]) (show Tryz.prog.globalNamed "loop.example/g00460/impl.pairNames" = some 6 by kernel_rfl) (show (Tryz.prog.globals[6]?).map (·.type) = some 110 by kernel_rfl) Tryz.underlying110 Tryz.underlying9 (by kernel_rfl) (by kernel_rfl) L6
  obtain ⟨q7, L7⟩ := Laid.skip L6
  have t7 := Laid.txts (P := Tryz.prog) (l := [[98, 99], [100, 101], [104, 108], [97, 102]]) (show Tryz.prog.globalNamed "loop.example/g00460/impl.stackNames" = some 7 by kernel_rfl) (show (Tryz.prog.globals[7]?).map (·.type) = some 110 by kernel_rfl) Tryz.underlying110 Tryz.underlying9 (by kernel_rfl) (by kernel_rfl) L7
  obtain ⟨q8, L8⟩ := Laid.skip L7
  have t8 := Laid.txts (P := Tryz.prog) (l := [[91, 98, 99, 93], [91, 100, 101, 93], [91, 104, 108, 43, 93], [91, 104, 108, 45, 93]]) (show Tryz.prog.globalNamed "loop.example/g00460/impl.placeNames" = some 5 by kernel_rfl) (show (Tryz.prog.globals[5]?).map (·.type) = some 110 by kernel_rfl) Tryz.underlying110 Tryz.underlying9 (by kernel_rfl) (by kernel_rfl) L8
  obtain ⟨q9, L9⟩ := Laid.skip L8
  have t9 := Laid.txts (P := Tryz.prog) (l := [[110, 122], [122], [110, 99], [99]]) (show Tryz.prog.globalNamed "loop.example/g00460/impl.condNames" = some 4 by kernel_rfl) (show (Tryz.prog.globals[4]?).map (·.type) = some 110 by kernel_rfl) Tryz.underlying110 Tryz.underlying9 (by kernel_rfl) (by kernel_rfl) L9
  obtain ⟨q10, L10⟩ := Laid.skip L9
  have t10 := Laid.txts (P := Tryz.prog) (l := [[97, 100, 100], [97, 100, 99], [115, 117, 98], [115, 98, 99], [97, 110, 100], [120, 111, 114], [111, 114], [99, 112]]) (show Tryz.prog.globalNamed "loop.example/g00460/impl.aluNames" = some 2 by kernel_rfl) (show (Tryz.prog.globals[2]?).map (·.type) = some 109 by kernel_rfl) Tryz.underlying109 Tryz.underlying9 (by kernel_rfl) (by kernel_rfl) L10
  obtain ⟨q11, L11⟩ := Laid.skip L10
  have t11 := Laid.txts (P := Tryz.prog) (l := [[114, 108, 99], [114, 114, 99], [114, 108], [114, 114], [115, 108, 97], [115, 114, 97], [115, 119, 97, 112], [115, 114, 108]]) (show Tryz.prog.globalNamed "loop.example/g00460/impl.turnNames" = some 9 by kernel_rfl) (show (Tryz.prog.globals[9]?).map (·.type) = some 109 by kernel_rfl) Tryz.underlying109 Tryz.underlying9 (by kernel_rfl) (by kernel_rfl) L11
  obtain ⟨q12, L12⟩ := Laid.skip L11
  have t12 := Laid.txts (P := Tryz.prog) (l := [[], [98, 105, 116], [114, 101, 115], [115, 101, 116]]) (show Tryz.prog.globalNamed "loop.example/g00460/impl.bitNames" = some 3 by kernel_rfl) (show (Tryz.prog.globals[3]?).map (·.type) = some 110 by kernel_rfl) Tryz.underlying110 Tryz.underlying9 (by kernel_rfl) (by kernel_rfl) L12
  obtain ⟨q13, L13⟩ := Laid.skip L12
  obtain ⟨q14, L14⟩ := Laid.skip L13
  exact ⟨fun i hi => (t10 i hi).trans (by match i, hi with | 0, _ => rfl | 1, _ => rfl | 2, _ => rfl | 3, _ => rfl | 4, _ => rfl | 5, _ => rfl | 6, _ => rfl | 7, _ => rfl), fun i hi => (t12 i hi).trans (by match i, hi with | 0, _ => rfl | 1, _ => rfl | 2, _ => rfl | 3, _ => rfl), fun i hi => (t9 i hi).trans (by match i, hi with | 0, _ => rfl | 1, _ => rfl | 2, _ => rfl | 3, _ => rfl), fun i hi => (t8 i hi).trans (by match i, hi with | 0, _ => rfl | 1, _ => rfl | 2, _ => rfl | 3, _ => rfl), fun i hi => (t6 i hi).trans (by match i, hi with | 0, _ => rfl | 1, _ => rfl | 2, _ => rfl | 3, _ => rfl), fun i hi => (t7 i hi).trans (by match i, hi with | 0, _ => rfl | 1, _ => rfl | 2, _ => rfl | 3, _ => rfl), fun i hi => (t5 i hi).trans (by match i, hi with | 0, _ => rfl | 1, _ => rfl | 2, _ => rfl | 3, _ => rfl | 4, _ => rfl | 5, _ => rfl | 6, _ => rfl | 7, _ => rfl), fun i hi => (t11 i hi).trans (by match i, hi with | 0, _ => rfl | 1, _ => rfl | 2, _ => rfl | 3, _ => rfl | 4, _ => rfl | 5, _ => rfl | 6, _ => rfl | 7, _ => rfl), fun i hi => t4 i hi⟩
theorem pow {W : World} (h : laidMetH Tryz.prog Rows.fnExactSourceOfRow.laid W) : Texi.Pow W := by
  obtain ⟨q0, L0, _⟩ : laidMet Tryz.prog Rows.fnExactSourceOfRow.laid W := h
  obtain ⟨q1, L1⟩ := Laid.skip L0
  obtain ⟨q2, L2⟩ := Laid.skip L1
  exact Laid.tab (P := Tryz.prog) (k := .u64) (zs := Lib.pow10Tab) (show Tryz.prog.globalNamed "internal/strconv.uint64pow10" = some 10 by kernel_rfl) (show (Tryz.prog.globals[10]?).map (·.type) = some 113 by kernel_rfl) Tryz.underlying113 Tryz.underlying99 (by kernel_rfl) (by kernel_rfl) L2
set_option maxRecDepth 20000

set_option maxHeartbeats 2000000 in
theorem walk (w : World) (a0 : ByteArray) (w0 : a0.size ≤ maxLen) (hT : PartN.Tables w) (hP : Texi.Pow w) (hm : HolI.MaxL w) :
    Calls Tryz.prog 4 #[.string a0] w fun e w' => e = .returned (.bool true) ∧ Below w.heap.size w w' := by
  have HM : Hid (PartN.Tables w ∧ Texi.Pow w ∧ HolI.MaxL w) := ⟨hT, hP, hm⟩
  clear hm hT hP
  by_cases hbig : 1048576 < a0.size
  · have hl : (1048576 : Int) < a0.size := by omega
    go_enter Tryz.func4, Tryz.ntmps4
    go_wp2
    go_ret
    exact ⟨rfl, Below.refl _ _⟩
  have cs := fun w => Lstf.specSource_any a0 w (by omega)
  have ci := fun w hT hP hm => Lstf.implSource_any a0 w hT hP hm (by omega)
  generalize Lste.srcV a0 = V at cs ci
  generalize Lste.srcB a0 = ok at cs ci
  go_enter Tryz.func4, Tryz.ntmps4
  go_wp2_with fail
  refine (cs _).mono ?_
  rintro e w1 ⟨rfl, b1⟩
  have B1 : Hid (Below w.heap.size w w1) := b1
  clear b1 cs
  go_wp2_with fail
  refine (ci _ (HM.out.1.below B1.out) (HM.out.2.1.below B1.out) (HM.out.2.2.below B1.out)).mono ?_
  rintro e w2 ⟨rfl, b2⟩
  have B2 : Hid (Below w.heap.size w w2) := HolI.after B1.out b2
  clear b2 ci B1
  go_wp2
  go_ret
  exact ⟨rfl, B2.out⟩

set_option maxRecDepth 100000 in
theorem contract (H : Type) (enc : TypeId × Value → H) (W : World) (base : Nat) (args : Array Value) (ds gs : List (DataW H)) (before : List MemPlace)
    (hval : ∀ (j : Nat) t v, Tryz.f4.params[j]? = some t → args[j]? = some v → Value.okWide Tryz.prog W .any base t v)
    (hW : DataW.Whole enc Tryz.prog Tryz.f4.params.toList Rows.fnExactSourceOfSpec.vars false W args.toList ds gs before) (hL : laidMetH Tryz.prog Rows.fnExactSourceOfRow.laid W) (hsh : W.ShapedOpen Tryz.prog) :
    Calls Tryz.prog 4 args W fun e W' => ∃ v, e = .returned v ∧ Rows.fnExactSourceOfSpec.post enc Tryz.prog Tryz.f4 false true false false W args v W' := by
  have hW' := hW
  obtain ⟨p, q, hA0, hV, hbef, hfz, hnd⟩ := hW
  have hA : DataW.TrodAll enc Tryz.prog W 0 (fun _ => true) true Tryz.f4.params.toList args.toList ds p := hA0
  have hVk : DataW.TrodVars enc Tryz.prog W (fun _ => true) Rows.fnExactSourceOfSpec.vars gs q := hV
  rw [Tryz.params4] at hA hval
  obtain ⟨v0, vs0, d0, ds0, p0, q0, hargs, rfl, rfl, h0, r0⟩ := trodAll_cons hA
  obtain ⟨rfl, rfl, rfl⟩ := trodAll_nil r0
  obtain rfl : args = #[v0] := by cases args; simp_all
  obtain ⟨g1, g2, g3, g4, g5, g6, g7, g8, g9, rfl⟩ : ∃ g1 g2 g3 g4 g5 g6 g7 g8 g9, gs = [g1, g2, g3, g4, g5, g6, g7, g8, g9] := by
    have hl := Laid.vars_len hVk
    match gs, hl with
    | [g1, g2, g3, g4, g5, g6, g7, g8, g9], _ => exact ⟨_, _, _, _, _, _, _, _, _, rfl⟩
  obtain ⟨a0, rfl, rfl, rfl, w0⟩ := open_string Tryz.underlying9 (hval 0 9 v0 rfl rfl) h0
  clear hA0
  refine (walk W a0 w0 (tables hL) (pow hL) (Tryz.laysM144.s1_3 W hsh)).mono fun e W' ⟨he, bel⟩ => ?_
  subst he
  exact ⟨_, rfl, _, _, _, [], _, q, hW', trodAll_mk1 (shut_bool Tryz.underlying4 _), (trodAll_cons_mk (shut_string Tryz.underlying9 w0) trodAll_mk0), Below.trodVars laidOut bel rowed hVk, bel.frame _, fun h => by cases h⟩

/-- A world for the witness: the settled one, the table holding what its initialiser lays. -/
noncomputable def laidWorld (os : Os) : World :=
  { World.holding Tryz.prog os ⟨#[], #[], []⟩ with heap := (fun h => h.modify 13 fun | .cells _ t frozen => .cells #[.int .u8 0, .int .u8 1, .int .u8 28, .int .u8 2, .int .u8 29, .int .u8 14, .int .u8 24, .int .u8 3, .int .u8 30, .int .u8 22, .int .u8 20, .int .u8 15, .int .u8 25, .int .u8 17, .int .u8 4, .int .u8 8, .int .u8 31, .int .u8 27, .int .u8 13, .int .u8 23, .int .u8 21, .int .u8 19, .int .u8 16, .int .u8 7, .int .u8 26, .int .u8 12, .int .u8 18, .int .u8 6, .int .u8 11, .int .u8 5, .int .u8 10, .int .u8 9] t frozen | o => o) <| (fun h => h.modify 14 fun | .cells _ t frozen => .cells #[.int .u8 0, .int .u8 1, .int .u8 56, .int .u8 2, .int .u8 57, .int .u8 49, .int .u8 28, .int .u8 3, .int .u8 61, .int .u8 58, .int .u8 42, .int .u8 50, .int .u8 38, .int .u8 29, .int .u8 17, .int .u8 4, .int .u8 62, .int .u8 47, .int .u8 59, .int .u8 36, .int .u8 45, .int .u8 43, .int .u8 51, .int .u8 22, .int .u8 53, .int .u8 39, .int .u8 33, .int .u8 30, .int .u8 24, .int .u8 18, .int .u8 12, .int .u8 5, .int .u8 63, .int .u8 55, .int .u8 48, .int .u8 27, .int .u8 60, .int .u8 41, .int .u8 37, .int .u8 16, .int .u8 46, .int .u8 35, .int .u8 44, .int .u8 21, .int .u8 52, .int .u8 32, .int .u8 23, .int .u8 11, .int .u8 54, .int .u8 26, .int .u8 40, .int .u8 15, .int .u8 34, .int .u8 20, .int .u8 31, .int .u8 10, .int .u8 25, .int .u8 14, .int .u8 19, .int .u8 9, .int .u8 13, .int .u8 8, .int .u8 7, .int .u8 6] t frozen | o => o) <| (fun h => h.modify 10 fun | .cells _ t frozen => .cells #[.int .u64 1, .int .u64 10, .int .u64 100, .int .u64 1000, .int .u64 10000, .int .u64 100000, .int .u64 1000000, .int .u64 10000000, .int .u64 100000000, .int .u64 1000000000, .int .u64 10000000000, .int .u64 100000000000, .int .u64 1000000000000, .int .u64 10000000000000, .int .u64 100000000000000, .int .u64 1000000000000000, .int .u64 10000000000000000, .int .u64 100000000000000000, .int .u64 1000000000000000000, .int .u64 10000000000000000000] t frozen | o => o) <| (fun h => h.modify 12 fun | .cells _ t frozen => .cells #[.int .u8 128, .int .u8 191, .int .u8 160, .int .u8 191, .int .u8 128, .int .u8 159, .int .u8 144, .int .u8 191, .int .u8 128, .int .u8 143, .int .u8 0, .int .u8 0, .int .u8 0, .int .u8 0, .int .u8 0, .int .u8 0, .int .u8 0, .int .u8 0, .int .u8 0, .int .u8 0, .int .u8 0, .int .u8 0, .int .u8 0, .int .u8 0, .int .u8 0, .int .u8 0, .int .u8 0, .int .u8 0, .int .u8 0, .int .u8 0, .int .u8 0, .int .u8 0] t frozen | o => o) <| (fun h => h.modify 0 fun | .cells _ t frozen => .cells #[.int .u8 48, .int .u8 49, .int .u8 50, .int .u8 51, .int .u8 52, .int .u8 53, .int .u8 54, .int .u8 55, .int .u8 56, .int .u8 57, .int .u8 65, .int .u8 66, .int .u8 67, .int .u8 68, .int .u8 69, .int .u8 70] t frozen | o => o) <| (fun h => h.modify 8 fun | .cells _ t frozen => .cells #[.string ⟨#[98]⟩, .string ⟨#[99]⟩, .string ⟨#[100]⟩, .string ⟨#[101]⟩, .string ⟨#[104]⟩, .string ⟨#[108]⟩, .string ⟨#[91, 104, 108, 93]⟩, .string ⟨#[97]⟩] t frozen | o => o) <| (fun h => h.modify 6 fun | .cells _ t frozen => .cells #[.string ⟨#[98, 99]⟩, .string ⟨#[100, 101]⟩, .string ⟨#[104, 108]⟩, .string ⟨#[115, 112]⟩] t frozen | o => o) <| (fun h => h.modify 7 fun | .cells _ t frozen => .cells #[.string ⟨#[98, 99]⟩, .string ⟨#[100, 101]⟩, .string ⟨#[104, 108]⟩, .string ⟨#[97, 102]⟩] t frozen | o => o) <| (fun h => h.modify 5 fun | .cells _ t frozen => .cells #[.string ⟨#[91, 98, 99, 93]⟩, .string ⟨#[91, 100, 101, 93]⟩, .string ⟨#[91, 104, 108, 43, 93]⟩, .string ⟨#[91, 104, 108, 45, 93]⟩] t frozen | o => o) <| (fun h => h.modify 4 fun | .cells _ t frozen => .cells #[.string ⟨#[110, 122]⟩, .string ⟨#[122]⟩, .string ⟨#[110, 99]⟩, .string ⟨#[99]⟩] t frozen | o => o) <| (fun h => h.modify 2 fun | .cells _ t frozen => .cells #[.string ⟨#[97, 100, 100]⟩, .string ⟨#[97, 100, 99]⟩, .string ⟨#[115, 117, 98]⟩, .string ⟨#[115, 98, 99]⟩, .string ⟨#[97, 110, 100]⟩, .string ⟨#[120, 111, 114]⟩, .string ⟨#[111, 114]⟩, .string ⟨#[99, 112]⟩] t frozen | o => o) <| (fun h => h.modify 9 fun | .cells _ t frozen => .cells #[.string ⟨#[114, 108, 99]⟩, .string ⟨#[114, 114, 99]⟩, .string ⟨#[114, 108]⟩, .string ⟨#[114, 114]⟩, .string ⟨#[115, 108, 97]⟩, .string ⟨#[115, 114, 97]⟩, .string ⟨#[115, 119, 97, 112]⟩, .string ⟨#[115, 114, 108]⟩] t frozen | o => o) <| (fun h => h.modify 3 fun | .cells _ t frozen => .cells #[.string ⟨#[]⟩, .string ⟨#[98, 105, 116]⟩, .string ⟨#[114, 101, 115]⟩, .string ⟨#[115, 101, 116]⟩] t frozen | o => o) <| (fun h => h.modify 11 fun | .cells _ t frozen => .cells ((Go.Pinned.utf8FirstZ).map fun n => Value.int .u8 (n : Nat)).toArray t frozen | o => o) <| (World.holding Tryz.prog os ⟨#[], #[], []⟩).heap }
theorem laid_met (os : Os) : laidMet Tryz.prog Rows.fnExactSourceOfRow.laid ((laidWorld os).forCall (fun _ _ => 0) ⟨#[], #[.string ByteArray.empty], []⟩).memory :=
  laidMet_of_run' 8 (by kernel_rfl) (by kernel_rfl)
theorem reads (os : Os) {H : Type} (enc : TypeId × Value → H) : ∃ places, DataW.whole enc Tryz.prog ((laidWorld os).forCall (fun _ _ => 0) ⟨#[], #[.string ByteArray.empty], []⟩).memory Tryz.f4.params.toList Rows.fnExactSourceOfSpec.vars false [.string ByteArray.empty] 8 = some ([.lit (.string [])], [.agg [.lit (.string [97, 100, 100]), .lit (.string [97, 100, 99]), .lit (.string [115, 117, 98]), .lit (.string [115, 98, 99]), .lit (.string [97, 110, 100]), .lit (.string [120, 111, 114]), .lit (.string [111, 114]), .lit (.string [99, 112])], .agg [.lit (.string []), .lit (.string [98, 105, 116]), .lit (.string [114, 101, 115]), .lit (.string [115, 101, 116])], .agg [.lit (.string [110, 122]), .lit (.string [122]), .lit (.string [110, 99]), .lit (.string [99])], .agg [.lit (.string [91, 98, 99, 93]), .lit (.string [91, 100, 101, 93]), .lit (.string [91, 104, 108, 43, 93]), .lit (.string [91, 104, 108, 45, 93])], .agg [.lit (.string [98, 99]), .lit (.string [100, 101]), .lit (.string [104, 108]), .lit (.string [115, 112])], .agg [.lit (.string [98, 99]), .lit (.string [100, 101]), .lit (.string [104, 108]), .lit (.string [97, 102])], .agg [.lit (.string [98]), .lit (.string [99]), .lit (.string [100]), .lit (.string [101]), .lit (.string [104]), .lit (.string [108]), .lit (.string [91, 104, 108, 93]), .lit (.string [97])], .agg [.lit (.string [114, 108, 99]), .lit (.string [114, 114, 99]), .lit (.string [114, 108]), .lit (.string [114, 114]), .lit (.string [115, 108, 97]), .lit (.string [115, 114, 97]), .lit (.string [115, 119, 97, 112]), .lit (.string [115, 114, 108])], .agg [.lit (.int .u8 48), .lit (.int .u8 49), .lit (.int .u8 50), .lit (.int .u8 51), .lit (.int .u8 52), .lit (.int .u8 53), .lit (.int .u8 54), .lit (.int .u8 55), .lit (.int .u8 56), .lit (.int .u8 57), .lit (.int .u8 65), .lit (.int .u8 66), .lit (.int .u8 67), .lit (.int .u8 68), .lit (.int .u8 69), .lit (.int .u8 70)]], places) :=
  ⟨MemPlace.row ⟨2, 0, none⟩ 8 ++ MemPlace.row ⟨3, 0, none⟩ 4 ++ MemPlace.row ⟨4, 0, none⟩ 4 ++ MemPlace.row ⟨5, 0, none⟩ 4 ++ MemPlace.row ⟨6, 0, none⟩ 4 ++ MemPlace.row ⟨7, 0, none⟩ 4 ++ MemPlace.row ⟨8, 0, none⟩ 8 ++ MemPlace.row ⟨9, 0, none⟩ 8 ++ MemPlace.row ⟨0, 0, none⟩ 16, by kernel_rfl⟩

set_option maxRecDepth 100000 in
theorem lifted (os : Os) (started : os.Started) (H : Type) (enc : TypeId × Value → H) (F : Stop.Interp) :
    ReturnsInHanded {} Tryz.checked os 4 .any ((OpenSpec.ofChange Rows.fnExactSourceOfSpec).preRow enc Tryz.prog Tryz.f4 Rows.fnExactSourceOfRow.domain false Rows.fnExactSourceOfRow.laid) (((OpenSpec.ofChange Rows.fnExactSourceOfSpec).at F).post enc Tryz.prog Tryz.f4 false true false false) := by
  obtain ⟨places, hx⟩ := reads os enc
  refine returnsInHanded_of_row (C := Tryz.checked) (s := OpenSpec.ofChange Rows.fnExactSourceOfSpec) own started (by kernel_rfl) Tryz.func4
    (witness_row_at (enc := enc) (C := Tryz.checked) false (laidWorld os) #[.string ByteArray.empty] rfl (by kernel_rfl) (by kernel_rfl) (by kernel_rfl)
      (OpenSpec.preRow_of_cond 8 hx (by kernel_rfl) (fun k hk => by cases hk) (by kernel_rfl) (laid_met os))) ?_
  intro W base args ds gs before hval hW _ _ _ hL hsh _
  exact contract H enc W base args ds gs before hval hW hL hsh

theorem said : Rows.FnExactSourceOfSaid :=
  OpenClaim.holds_of_cond 4 Tryz.f4 rfl rfl rfl rfl rfl rfl rfl ⟨rfl, rfl, rfl, rfl, rfl⟩ rfl rfl rfl rfl rfl (by kernel_rfl) Tryz.func4 (by kernel_rfl)
    (of_decide_eq_true (by kernel_rfl)) (by unfold Func.isWrapper; first | (rw [if_pos (by decide +kernel)]; kernel_rfl) | (rw [if_neg (by decide +kernel)]; exact ⟨rfl, rfl⟩))
    (fun os started H enc _ F => by rw [OpenClaim.pre_eq_preRow]; exact lifted os started H enc F)

theorem plain (f : FuncId) (fn : Func) (hf : Tryz.pinned.checked.prog.funcNamed "loop.example/g00460/laws.FnExactSourceOf" = some f) (hfn : Tryz.pinned.checked.prog.funcs[f]? = some fn) :
    false = Tryz.pinned.checked.prog.looks [] ∧ ∀ (j : Nat) t, fn.params[j]? = some t → Tryz.pinned.checked.prog.wantsStandIn t = false := by
  obtain rfl : f = 4 := Option.some.inj ((show Tryz.prog.funcNamed "loop.example/g00460/laws.FnExactSourceOf" = some 4 by kernel_rfl).symm.trans hf) |>.symm
  obtain rfl : fn = Tryz.f4 := (Option.some.inj (Tryz.func4.symm.trans hfn)).symm
  refine ⟨by kernel_rfl, fun j t ht => ?_⟩
  rw [Tryz.params4] at ht
  have h : t = 9 := by simpa using Array.mem_of_getElem? ht
  subst h
  exact (show Tryz.prog.wantsStandIn 9 = false by kernel_rfl)

theorem card : Rows.FnExactSourceOfCardSaid :=
  Claim7.holds_tied_plain_at .later [] _ _ _ _ said (fun _ h => by cases h) (by kernel_rfl) (fun _ h => by cases h) fnExactSourceOf_row_tie rfl ⟨rfl, rfl⟩ (by kernel_rfl) rfl plain (by kernel_rfl)
end Go.Proofs.YtnfonccimaikgaaGreatDoor.fnExactSourceOf
namespace Go.Proofs.YtnfonccimaikgaaGreatDoor
theorem fnExactSourceOf_holds : Rows.FnExactSourceOfCardSaid := fnExactSourceOf.card
end Go.Proofs.YtnfonccimaikgaaGreatDoor
