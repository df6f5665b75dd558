/- For every text the law FnExactReadInsText answers true, that is, impl.ReadInsText answers as spec.ReadInsText does, where the program's tables and the library's table of powers of ten hold what their texts lay. -/
import Derived.Test.YthagdgdnjjdbfaaDoorCards
import Derived.Test.YthagdgdnjjdbfaaDoorTie
import Derived.WalkKit
import Derived.ProofKit
import Derived.OpenShut
import Derived.ShutString
import Derived.ChangeOld
import Derived.ChangeVars
import Derived.OpenVars
import Derived.Below
import Derived.Deep.DeepHandedRow
import Derived.Lib.LaidTab
import Derived.Test.YthagdgdnjjdbfaaDoorRinsw
import Derived.Test.YthagdgdnjjdbfaaDoorInsp
import Derived.Test.YthagdgdnjjdbfaaDoorLaid
namespace Go.Proofs.YthagdgdnjjdbfaaDoor.fnExactReadInsText
open Go.ChangeShapes Go.WideShapes Go.ChangeAt Go.RowKit
open Go.ChangeMaps (open_string shut_string)
set_option linter.unusedVariables false

theorem own : ownKnob Tryd.prog.godebug = none := by kernel_rfl
theorem laidOut : laidOutB Tryd.prog = true := by kernel_rfl
theorem rowed : varsRowed Tryd.prog Rows.fnExactReadInsTextSpec.vars = true := by kernel_rfl

theorem tables {W : World} (h : laidMetH Tryd.prog Rows.fnExactReadInsTextRow.laid W) : PartN.Tables W := by
  obtain ⟨q0, L0, _⟩ : laidMet Tryd.prog Rows.fnExactReadInsTextRow.laid W := h
  obtain ⟨q1, L1⟩ := Laid.skip L0
  obtain ⟨q2, L2⟩ := Laid.skip L1
  obtain ⟨q3, L3⟩ := Laid.skip L2
  obtain ⟨q4, L4⟩ := Laid.skip L3
  have t4 := Laid.nums (P := Tryd.prog) (k := .u8) (zs := [48, 49, 50, 51, 52, 53, 54, 55, 56, 57, 65, 66, 67, 68, 69, 70]) (show Tryd.prog.globalNamed "loop.example/g00460/impl.hexDigits" = some 8 by kernel_rfl) (show (Tryd.prog.globals[8]?).map (·.type) = some 85 by kernel_rfl) Tryd.underlying85 Tryd.underlying5 (by kernel_rfl) (by kernel_rfl) L4
  obtain ⟨q5, L5⟩ := Laid.skip L4
  have t5 := Laid.txts (P := Tryd.prog) (l := [[98], [99], [100], [101], [104], [108], [91, 104, 108, 93], [97]]) (show Tryd.prog.globalNamed "loop.example/g00460/impl.regNames" = some 6 by kernel_rfl) (show (Tryd.prog.globals[6]?).map (·.type) = some 69 by kernel_rfl) Tryd.underlying69 Tryd.underlying9 (by kernel_rfl) (by kernel_rfl) L5
  obtain ⟨q6, L6⟩ := Laid.skip L5
  have t6 := Laid.txts (P := Tryd.prog) (l := [[98, 99], [100, 101], [104, 108], [115, 112]]) (show Tryd.prog.globalNamed "loop.example/g00460/impl.pairNames" = some 4 by kernel_rfl) (show (Tryd.prog.globals[4]?).map (·.type) = some 70 by kernel_rfl) Tryd.underlying70 Tryd.underlying9 (by kernel_rfl) (by kernel_rfl) L6
  obtain ⟨q7, L7⟩ := Laid.skip L6
  have t7 := Laid.txts (P := Tryd.prog) (l := [[98, 99], [100, 101], [104, 108], [97, 102]]) (show Tryd.prog.globalNamed "loop.example/g00460/impl.stackNames" = some 5 by kernel_rfl) (show (Tryd.prog.globals[5]?).map (·.type) = some 70 by kernel_rfl) Tryd.underlying70 Tryd.underlying9 (by kernel_rfl) (by kernel_rfl) L7
  obtain ⟨q8, L8⟩ := Laid.skip L7
  have t8 := Laid.txts (P := Tryd.prog) (l := [[91, 98, 99, 93], [91, 100, 101, 93], [91, 104, 108, 43, 93], [91, 104, 108, 45, 93]]) (show Tryd.prog.globalNamed "loop.example/g00460/impl.placeNames" = some 3 by kernel_rfl) (show (Tryd.prog.globals[3]?).map (·.type) = some 70 by kernel_rfl) Tryd.underlying70 Tryd.underlying9 (by kernel_rfl) (by kernel_rfl) L8
  obtain ⟨q9, L9⟩ := Laid.skip L8
  have t9 := Laid.txts (P := Tryd.prog) (l := [[110, 122], [122], [110, 99], [99]]) (show Tryd.prog.globalNamed "loop.example/g00460/impl.condNames" = some 2 by kernel_rfl) (show (Tryd.prog.globals[2]?).map (·.type) = some 70 by kernel_rfl) Tryd.underlying70 Tryd.underlying9 (by kernel_rfl) (by kernel_rfl) L9
  obtain ⟨q10, L10⟩ := Laid.skip L9
  have t10 := Laid.txts (P := Tryd.prog) (l := [[97, 100, 100], [97, 100, 99], [115, 117, 98], [115, 98, 99], [97, 110, 100], [120, 111, 114], [111, 114], [99, 112]]) (show Tryd.prog.globalNamed "loop.example/g00460/impl.aluNames" = some 0 by kernel_rfl) (show (Tryd.prog.globals[0]?).map (·.type) = some 69 by kernel_rfl) Tryd.underlying69 Tryd.underlying9 (by kernel_rfl) (by kernel_rfl) L10
  obtain ⟨q11, L11⟩ := Laid.skip L10
  have t11 := Laid.txts (P := Tryd.prog) (l := [[114, 108, 99], [114, 114, 99], [114, 108], [114, 114], [115, 108, 97], [115, 114, 97], [115, 119, 97, 112], [115, 114, 108]]) (show Tryd.prog.globalNamed "loop.example/g00460/impl.turnNames" = some 7 by kernel_rfl) (show (Tryd.prog.globals[7]?).map (·.type) = some 69 by kernel_rfl) Tryd.underlying69 Tryd.underlying9 (by kernel_rfl) (by kernel_rfl) L11
  obtain ⟨q12, L12⟩ := Laid.skip L11
  have t12 := Laid.txts (P := Tryd.prog) (l := [[], [98, 105, 116], [114, 101, 115], [115, 101, 116]]) (show Tryd.prog.globalNamed "loop.example/g00460/impl.bitNames" = some 1 by kernel_rfl) (show (Tryd.prog.globals[1]?).map (·.type) = some 70 by kernel_rfl) Tryd.underlying70 Tryd.underlying9 (by kernel_rfl) (by kernel_rfl) L12
  obtain ⟨q13, L13⟩ := Laid.skip L12
  obtain ⟨q14, L14⟩ := Laid.skip L13
  exact ⟨fun i hi => (t10 i hi).trans (by match i, hi with | 0, _ => rfl | 1, _ => rfl | 2, _ => rfl | 3, _ => rfl | 4, _ => rfl | 5, _ => rfl | 6, _ => rfl | 7, _ => rfl), fun i hi => (t12 i hi).trans (by match i, hi with | 0, _ => rfl | 1, _ => rfl | 2, _ => rfl | 3, _ => rfl), fun i hi => (t9 i hi).trans (by match i, hi with | 0, _ => rfl | 1, _ => rfl | 2, _ => rfl | 3, _ => rfl), fun i hi => (t8 i hi).trans (by match i, hi with | 0, _ => rfl | 1, _ => rfl | 2, _ => rfl | 3, _ => rfl), fun i hi => (t6 i hi).trans (by match i, hi with | 0, _ => rfl | 1, _ => rfl | 2, _ => rfl | 3, _ => rfl), fun i hi => (t7 i hi).trans (by match i, hi with | 0, _ => rfl | 1, _ => rfl | 2, _ => rfl | 3, _ => rfl), fun i hi => (t5 i hi).trans (by match i, hi with | 0, _ => rfl | 1, _ => rfl | 2, _ => rfl | 3, _ => rfl | 4, _ => rfl | 5, _ => rfl | 6, _ => rfl | 7, _ => rfl), fun i hi => (t11 i hi).trans (by match i, hi with | 0, _ => rfl | 1, _ => rfl | 2, _ => rfl | 3, _ => rfl | 4, _ => rfl | 5, _ => rfl | 6, _ => rfl | 7, _ => rfl), fun i hi => t4 i hi⟩
theorem pow {W : World} (h : laidMetH Tryd.prog Rows.fnExactReadInsTextRow.laid W) : Texi.Pow W := by
  obtain ⟨q0, L0, _⟩ : laidMet Tryd.prog Rows.fnExactReadInsTextRow.laid W := h
  obtain ⟨q1, L1⟩ := Laid.skip L0
  obtain ⟨q2, L2⟩ := Laid.skip L1
  exact Laid.tab (P := Tryd.prog) (k := .u64) (zs := Lib.pow10Tab) (show Tryd.prog.globalNamed "internal/strconv.uint64pow10" = some 12 by kernel_rfl) (show (Tryd.prog.globals[12]?).map (·.type) = some 107 by kernel_rfl) Tryd.underlying107 Tryd.underlying93 (by kernel_rfl) (by kernel_rfl) L2

set_option maxHeartbeats 2000000 in
theorem walk (w : World) (a0 : ByteArray) (w0 : a0.size ≤ maxLen) (hT : PartN.Tables w) (hP : Texi.Pow w) (hm : HolI.MaxL w) :
    Calls Tryd.prog 5 #[.string a0] w fun e w' => e = .returned (.bool true) ∧ Below w.heap.size w w' := by
  have HM : Hid (PartN.Tables w ∧ Texi.Pow w ∧ HolI.MaxL w) := ⟨hT, hP, hm⟩
  clear hm hT hP
  by_cases hs : a0.size ≤ 1048576
  · have hl : (a0.size : Int) ≤ 1048576 := by omega
    have cs := fun w => Rinsw.specFull_any a0 w hs
    have ci := fun w hT hP hm => Rinsw.implFull_any a0 w hT hP hm hs
    obtain ⟨c, v, b, f, ho⟩ := Rinsw.outS_shape a0 (Rinsw.res a0)
    rw [ho] at cs ci
    have ce := fun w => Insp.eqIns_same c b v w
    clear ho hs
    cases f
    all_goals
      go_enter Tryd.func5, Tryd.ntmps5
      go_wp2_with fail
      refine (cs _).mono ?_
      rintro e w1 ⟨rfl, b1⟩
      have B1 : Hid (Below w.heap.size w w1) := b1
      clear b1 cs
      go_wp2_with fail
      have B1' := B1.out.alloc B1.out.size (.cells #[.int .i64 c, .bool b, .int .i64 v] 27)
      refine (ci _ (HM.out.1.below B1') (HM.out.2.1.below B1') (HM.out.2.2.below B1')).mono ?_
      rintro e w2 ⟨rfl, b2⟩
      have k0 : ∀ o, (w2.alloc o).cell? ⟨w1.heap.size, 0, none⟩ = some (.int .i64 c) := fun o => HolI.box (b2.alloc b2.size o) 0 _ rfl
      have k1 : ∀ o, (w2.alloc o).cell? ⟨w1.heap.size, 1, none⟩ = some (.bool b) := fun o => HolI.box (b2.alloc b2.size o) 1 _ rfl
      have k2 : ∀ o, (w2.alloc o).cell? ⟨w1.heap.size, 2, none⟩ = some (.int .i64 v) := fun o => HolI.box (b2.alloc b2.size o) 2 _ rfl
      have B2 : Hid (Below w.heap.size w w2) := HolI.after B1.out (HolI.unbox b2)
      clear b2 ci B1 B1'
      go_wp2_with fail
      refine (ce _).mono ?_
      rintro e w3 ⟨rfl, b3⟩
      have B3 : Hid (Below w.heap.size w w3) := HolI.after (B2.out.alloc B2.out.size _) b3
      clear b3 B2 k0 k1 k2
      go_wp2
      go_ret
      exact ⟨rfl, B3.out⟩
  · have hl : (1048576 : Int) < (a0.size : Int) := by omega
    clear hs
    go_enter Tryd.func5, Tryd.ntmps5
    go_wp2
    go_ret
    exact ⟨rfl, Below.refl _ _⟩

set_option maxRecDepth 100000 in
theorem contract (H : Type) (enc : TypeId × Value → H) (W : World) (base : Nat) (args : Array Value) (ds gs : List (DataW H)) (before : List MemPlace)
    (hval : ∀ (j : Nat) t v, Tryd.f5.params[j]? = some t → args[j]? = some v → Value.okWide Tryd.prog W .any base t v)
    (hW : DataW.Whole enc Tryd.prog Tryd.f5.params.toList Rows.fnExactReadInsTextSpec.vars false W args.toList ds gs before) (hL : laidMetH Tryd.prog Rows.fnExactReadInsTextRow.laid W) (hsh : W.ShapedOpen Tryd.prog) :
    Calls Tryd.prog 5 args W fun e W' => ∃ v, e = .returned v ∧ Rows.fnExactReadInsTextSpec.post enc Tryd.prog Tryd.f5 false true false false W args v W' := by
  have hW' := hW
  obtain ⟨p, q, hA0, hV, hbef, hfz, hnd⟩ := hW
  have hA : DataW.TrodAll enc Tryd.prog W 0 (fun _ => true) true Tryd.f5.params.toList args.toList ds p := hA0
  have hVk : DataW.TrodVars enc Tryd.prog W (fun _ => true) Rows.fnExactReadInsTextSpec.vars gs q := hV
  rw [Tryd.params5] at hA hval
  obtain ⟨v0, vs0, d0, ds0, p0, q0, hargs, rfl, rfl, h0, r0⟩ := trodAll_cons hA
  obtain ⟨rfl, rfl, rfl⟩ := trodAll_nil r0
  obtain rfl : args = #[v0] := by cases args; simp_all
  obtain ⟨g1, g2, g3, g4, g5, g6, g7, g8, g9, rfl⟩ : ∃ g1 g2 g3 g4 g5 g6 g7 g8 g9, gs = [g1, g2, g3, g4, g5, g6, g7, g8, g9] := by
    have hl := Laid.vars_len hVk
    match gs, hl with
    | [g1, g2, g3, g4, g5, g6, g7, g8, g9], _ => exact ⟨_, _, _, _, _, _, _, _, _, rfl⟩
  obtain ⟨a0, rfl, rfl, rfl, w0⟩ := open_string Tryd.underlying9 (hval 0 9 v0 rfl rfl) h0
  clear hA0
  refine (walk W a0 w0 (tables hL) (pow hL) (Tryd.laysM144.s1_3 W hsh)).mono fun e W' ⟨he, bel⟩ => ?_
  subst he
  exact ⟨_, rfl, _, _, _, [], _, q, hW', trodAll_mk1 (shut_bool Tryd.underlying4 _), (trodAll_cons_mk (shut_string Tryd.underlying9 w0) trodAll_mk0), Below.trodVars laidOut bel rowed hVk, bel.frame _, fun h => by cases h⟩

/-- A world for the witness: the settled one, the table holding what its initialiser lays. -/
noncomputable def laidWorld (os : Os) : World :=
  { World.holding Tryd.prog os ⟨#[], #[], []⟩ with heap := (fun h => h.modify 13 fun | .cells _ t frozen => .cells #[.int .u8 0, .int .u8 1, .int .u8 28, .int .u8 2, .int .u8 29, .int .u8 14, .int .u8 24, .int .u8 3, .int .u8 30, .int .u8 22, .int .u8 20, .int .u8 15, .int .u8 25, .int .u8 17, .int .u8 4, .int .u8 8, .int .u8 31, .int .u8 27, .int .u8 13, .int .u8 23, .int .u8 21, .int .u8 19, .int .u8 16, .int .u8 7, .int .u8 26, .int .u8 12, .int .u8 18, .int .u8 6, .int .u8 11, .int .u8 5, .int .u8 10, .int .u8 9] t frozen | o => o) <| (fun h => h.modify 14 fun | .cells _ t frozen => .cells #[.int .u8 0, .int .u8 1, .int .u8 56, .int .u8 2, .int .u8 57, .int .u8 49, .int .u8 28, .int .u8 3, .int .u8 61, .int .u8 58, .int .u8 42, .int .u8 50, .int .u8 38, .int .u8 29, .int .u8 17, .int .u8 4, .int .u8 62, .int .u8 47, .int .u8 59, .int .u8 36, .int .u8 45, .int .u8 43, .int .u8 51, .int .u8 22, .int .u8 53, .int .u8 39, .int .u8 33, .int .u8 30, .int .u8 24, .int .u8 18, .int .u8 12, .int .u8 5, .int .u8 63, .int .u8 55, .int .u8 48, .int .u8 27, .int .u8 60, .int .u8 41, .int .u8 37, .int .u8 16, .int .u8 46, .int .u8 35, .int .u8 44, .int .u8 21, .int .u8 52, .int .u8 32, .int .u8 23, .int .u8 11, .int .u8 54, .int .u8 26, .int .u8 40, .int .u8 15, .int .u8 34, .int .u8 20, .int .u8 31, .int .u8 10, .int .u8 25, .int .u8 14, .int .u8 19, .int .u8 9, .int .u8 13, .int .u8 8, .int .u8 7, .int .u8 6] t frozen | o => o) <| (fun h => h.modify 12 fun | .cells _ t frozen => .cells #[.int .u64 1, .int .u64 10, .int .u64 100, .int .u64 1000, .int .u64 10000, .int .u64 100000, .int .u64 1000000, .int .u64 10000000, .int .u64 100000000, .int .u64 1000000000, .int .u64 10000000000, .int .u64 100000000000, .int .u64 1000000000000, .int .u64 10000000000000, .int .u64 100000000000000, .int .u64 1000000000000000, .int .u64 10000000000000000, .int .u64 100000000000000000, .int .u64 1000000000000000000, .int .u64 10000000000000000000] t frozen | o => o) <| (fun h => h.modify 11 fun | .cells _ t frozen => .cells #[.int .u8 128, .int .u8 191, .int .u8 160, .int .u8 191, .int .u8 128, .int .u8 159, .int .u8 144, .int .u8 191, .int .u8 128, .int .u8 143, .int .u8 0, .int .u8 0, .int .u8 0, .int .u8 0, .int .u8 0, .int .u8 0, .int .u8 0, .int .u8 0, .int .u8 0, .int .u8 0, .int .u8 0, .int .u8 0, .int .u8 0, .int .u8 0, .int .u8 0, .int .u8 0, .int .u8 0, .int .u8 0, .int .u8 0, .int .u8 0, .int .u8 0, .int .u8 0] t frozen | o => o) <| (fun h => h.modify 8 fun | .cells _ t frozen => .cells #[.int .u8 48, .int .u8 49, .int .u8 50, .int .u8 51, .int .u8 52, .int .u8 53, .int .u8 54, .int .u8 55, .int .u8 56, .int .u8 57, .int .u8 65, .int .u8 66, .int .u8 67, .int .u8 68, .int .u8 69, .int .u8 70] t frozen | o => o) <| (fun h => h.modify 6 fun | .cells _ t frozen => .cells #[.string ⟨#[98]⟩, .string ⟨#[99]⟩, .string ⟨#[100]⟩, .string ⟨#[101]⟩, .string ⟨#[104]⟩, .string ⟨#[108]⟩, .string ⟨#[91, 104, 108, 93]⟩, .string ⟨#[97]⟩] t frozen | o => o) <| (fun h => h.modify 4 fun | .cells _ t frozen => .cells #[.string ⟨#[98, 99]⟩, .string ⟨#[100, 101]⟩, .string ⟨#[104, 108]⟩, .string ⟨#[115, 112]⟩] t frozen | o => o) <| (fun h => h.modify 5 fun | .cells _ t frozen => .cells #[.string ⟨#[98, 99]⟩, .string ⟨#[100, 101]⟩, .string ⟨#[104, 108]⟩, .string ⟨#[97, 102]⟩] t frozen | o => o) <| (fun h => h.modify 3 fun | .cells _ t frozen => .cells #[.string ⟨#[91, 98, 99, 93]⟩, .string ⟨#[91, 100, 101, 93]⟩, .string ⟨#[91, 104, 108, 43, 93]⟩, .string ⟨#[91, 104, 108, 45, 93]⟩] t frozen | o => o) <| (fun h => h.modify 2 fun | .cells _ t frozen => .cells #[.string ⟨#[110, 122]⟩, .string ⟨#[122]⟩, .string ⟨#[110, 99]⟩, .string ⟨#[99]⟩] t frozen | o => o) <| (fun h => h.modify 0 fun | .cells _ t frozen => .cells #[.string ⟨#[97, 100, 100]⟩, .string ⟨#[97, 100, 99]⟩, .string ⟨#[115, 117, 98]⟩, .string ⟨#[115, 98, 99]⟩, .string ⟨#[97, 110, 100]⟩, .string ⟨#[120, 111, 114]⟩, .string ⟨#[111, 114]⟩, .string ⟨#[99, 112]⟩] t frozen | o => o) <| (fun h => h.modify 7 fun | .cells _ t frozen => .cells #[.string ⟨#[114, 108, 99]⟩, .string ⟨#[114, 114, 99]⟩, .string ⟨#[114, 108]⟩, .string ⟨#[114, 114]⟩, .string ⟨#[115, 108, 97]⟩, .string ⟨#[115, 114, 97]⟩, .string ⟨#[115, 119, 97, 112]⟩, .string ⟨#[115, 114, 108]⟩] t frozen | o => o) <| (fun h => h.modify 1 fun | .cells _ t frozen => .cells #[.string ⟨#[]⟩, .string ⟨#[98, 105, 116]⟩, .string ⟨#[114, 101, 115]⟩, .string ⟨#[115, 101, 116]⟩] t frozen | o => o) <| (fun h => h.modify 10 fun | .cells _ t frozen => .cells ((Go.Pinned.utf8FirstZ).map fun n => Value.int .u8 (n : Nat)).toArray t frozen | o => o) <| (World.holding Tryd.prog os ⟨#[], #[], []⟩).heap }
theorem laid_met (os : Os) : laidMet Tryd.prog Rows.fnExactReadInsTextRow.laid ((laidWorld os).forCall (fun _ _ => 0) ⟨#[], #[.string ByteArray.empty], []⟩).memory :=
  laidMet_of_run' 8 (by kernel_rfl) (by kernel_rfl)
theorem reads (os : Os) {H : Type} (enc : TypeId × Value → H) : ∃ places, DataW.whole enc Tryd.prog ((laidWorld os).forCall (fun _ _ => 0) ⟨#[], #[.string ByteArray.empty], []⟩).memory Tryd.f5.params.toList Rows.fnExactReadInsTextSpec.vars false [.string ByteArray.empty] 8 = some ([.lit (.string [])], [.agg [.lit (.string [97, 100, 100]), .lit (.string [97, 100, 99]), .lit (.string [115, 117, 98]), .lit (.string [115, 98, 99]), .lit (.string [97, 110, 100]), .lit (.string [120, 111, 114]), .lit (.string [111, 114]), .lit (.string [99, 112])], .agg [.lit (.string []), .lit (.string [98, 105, 116]), .lit (.string [114, 101, 115]), .lit (.string [115, 101, 116])], .agg [.lit (.string [110, 122]), .lit (.string [122]), .lit (.string [110, 99]), .lit (.string [99])], .agg [.lit (.string [91, 98, 99, 93]), .lit (.string [91, 100, 101, 93]), .lit (.string [91, 104, 108, 43, 93]), .lit (.string [91, 104, 108, 45, 93])], .agg [.lit (.string [98, 99]), .lit (.string [100, 101]), .lit (.string [104, 108]), .lit (.string [115, 112])], .agg [.lit (.string [98, 99]), .lit (.string [100, 101]), .lit (.string [104, 108]), .lit (.string [97, 102])], .agg [.lit (.string [98]), .lit (.string [99]), .lit (.string [100]), .lit (.string [101]), .lit (.string [104]), .lit (.string [108]), .lit (.string [91, 104, 108, 93]), .lit (.string [97])], .agg [.lit (.string [114, 108, 99]), .lit (.string [114, 114, 99]), .lit (.string [114, 108]), .lit (.string [114, 114]), .lit (.string [115, 108, 97]), .lit (.string [115, 114, 97]), .lit (.string [115, 119, 97, 112]), .lit (.string [115, 114, 108])], .agg [.lit (.int .u8 48), .lit (.int .u8 49), .lit (.int .u8 50), .lit (.int .u8 51), .lit (.int .u8 52), .lit (.int .u8 53), .lit (.int .u8 54), .lit (.int .u8 55), .lit (.int .u8 56), .lit (.int .u8 57), .lit (.int .u8 65), .lit (.int .u8 66), .lit (.int .u8 67), .lit (.int .u8 68), .lit (.int .u8 69), .lit (.int .u8 70)]], places) :=
  ⟨MemPlace.row ⟨0, 0, none⟩ 8 ++ MemPlace.row ⟨1, 0, none⟩ 4 ++ MemPlace.row ⟨2, 0, none⟩ 4 ++ MemPlace.row ⟨3, 0, none⟩ 4 ++ MemPlace.row ⟨4, 0, none⟩ 4 ++ MemPlace.row ⟨5, 0, none⟩ 4 ++ MemPlace.row ⟨6, 0, none⟩ 8 ++ MemPlace.row ⟨7, 0, none⟩ 8 ++ MemPlace.row ⟨8, 0, none⟩ 16, by kernel_rfl⟩

set_option maxRecDepth 100000 in
theorem lifted (os : Os) (started : os.Started) (H : Type) (enc : TypeId × Value → H) (F : Stop.Interp) :
    ReturnsInHanded {} Tryd.checked os 5 .any ((OpenSpec.ofChange Rows.fnExactReadInsTextSpec).preRow enc Tryd.prog Tryd.f5 Rows.fnExactReadInsTextRow.domain false Rows.fnExactReadInsTextRow.laid) (((OpenSpec.ofChange Rows.fnExactReadInsTextSpec).at F).post enc Tryd.prog Tryd.f5 false true false false) := by
  obtain ⟨places, hx⟩ := reads os enc
  refine returnsInHanded_of_row (C := Tryd.checked) (s := OpenSpec.ofChange Rows.fnExactReadInsTextSpec) own started (by kernel_rfl) Tryd.func5
    (witness_row_at (enc := enc) (C := Tryd.checked) false (laidWorld os) #[.string ByteArray.empty] rfl (by kernel_rfl) (by kernel_rfl) (by kernel_rfl)
      (OpenSpec.preRow_of_cond 8 hx (by kernel_rfl) (fun k hk => by cases hk) (by kernel_rfl) (laid_met os))) ?_
  intro W base args ds gs before hval hW _ _ _ hL hsh _
  exact contract H enc W base args ds gs before hval hW hL hsh

theorem said : Rows.FnExactReadInsTextSaid :=
  OpenClaim.holds_of_cond 5 Tryd.f5 rfl rfl rfl rfl rfl rfl rfl ⟨rfl, rfl, rfl, rfl, rfl⟩ rfl rfl rfl rfl rfl (by kernel_rfl) Tryd.func5 (by kernel_rfl)
    (of_decide_eq_true (by kernel_rfl)) (by unfold Func.isWrapper; first | (rw [if_pos (by decide +kernel)]; kernel_rfl) | (rw [if_neg (by decide +kernel)]; exact ⟨rfl, rfl⟩))
    (fun os started H enc _ F => by rw [OpenClaim.pre_eq_preRow]; exact lifted os started H enc F)

theorem plain (f : FuncId) (fn : Func) (hf : Tryd.pinned.checked.prog.funcNamed "loop.example/g00460/laws.FnExactReadInsText" = some f) (hfn : Tryd.pinned.checked.prog.funcs[f]? = some fn) :
    false = Tryd.pinned.checked.prog.looks [] ∧ ∀ (j : Nat) t, fn.params[j]? = some t → Tryd.pinned.checked.prog.wantsStandIn t = false := by
  obtain rfl : f = 5 := Option.some.inj ((show Tryd.prog.funcNamed "loop.example/g00460/laws.FnExactReadInsText" = some 5 by kernel_rfl).symm.trans hf) |>.symm
  obtain rfl : fn = Tryd.f5 := (Option.some.inj (Tryd.func5.symm.trans hfn)).symm
  refine ⟨by kernel_rfl, fun j t ht => ?_⟩
  rw [Tryd.params5] at ht
  have h : t = 9 := by simpa using Array.mem_of_getElem? ht
  subst h
  exact (show Tryd.prog.wantsStandIn 9 = false by kernel_rfl)

theorem card : Rows.FnExactReadInsTextCardSaid :=
  Claim7.holds_tied_plain_at .later [] _ _ _ _ said (fun _ h => by cases h) (by kernel_rfl) (fun _ h => by cases h) fnExactReadInsText_row_tie rfl ⟨rfl, rfl⟩ (by kernel_rfl) rfl plain (by kernel_rfl)
end Go.Proofs.YthagdgdnjjdbfaaDoor.fnExactReadInsText
namespace Go.Proofs.YthagdgdnjjdbfaaDoor
theorem fnExactReadInsText_holds : Rows.FnExactReadInsTextCardSaid := fnExactReadInsText.card
end Go.Proofs.YthagdgdnjjdbfaaDoor
