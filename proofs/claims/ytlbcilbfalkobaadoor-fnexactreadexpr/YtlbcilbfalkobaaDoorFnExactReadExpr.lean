/- For every text the law FnExactReadExpr answers true, that is, impl.ReadExpr answers as spec.ReadExpr does, every field; its answer owns its memory, behind another call too; the tables of the ops' words, of the digits and of the powers of ten hold what their initialisers lay when the call begins (tied to the program's text by the card), and are as they were. -/
import Derived.Test.YtlbcilbfalkobaaDoorCards
import Derived.Test.YtlbcilbfalkobaaDoorTie
import Derived.WalkKit
import Derived.ProofKit
import Derived.OpenShut
import Derived.ShutString
import Derived.ChangeOld
import Derived.ChangeVars
import Derived.OpenVars
import Derived.Below
import Derived.Deep.DeepHandedRow
import Derived.Lib.LaidTab
import Derived.Test.YtlbcilbfalkobaaDoorWoru
import Derived.HandedShaped
import Derived.Test.YtlbcilbfalkobaaDoorLaid
namespace Go.Proofs.YtlbcilbfalkobaaDoor.fnExactReadExpr
open Go.ChangeShapes Go.WideShapes Go.ChangeAt Go.RowKit
open Go.ChangeMaps (open_string shut_string)
set_option linter.unusedVariables false

theorem own : ownKnob Tryd.prog.godebug = none := by kernel_rfl
theorem laidOut : laidOutB Tryd.prog = true := by kernel_rfl
theorem rowed : varsRowed Tryd.prog Rows.fnExactReadExprSpec.vars = true := by kernel_rfl

theorem tables {W : World} (h : laidMetH Tryd.prog Rows.fnExactReadExprRow.laid W) : Optx.OpTab W ∧ Optx.Pow W ∧ Nums.Tab W := by
  obtain ⟨q0, L0, _⟩ : laidMet Tryd.prog Rows.fnExactReadExprRow.laid W := h
  obtain ⟨q1, L1⟩ := Laid.skip L0
  obtain ⟨q2, L2⟩ := Laid.skip L1
  have tp := Laid.tab (P := Tryd.prog) (k := .u64) (zs := Lib.pow10Tab) (show Tryd.prog.globalNamed "internal/strconv.uint64pow10" = some 1 by kernel_rfl) (show (Tryd.prog.globals[1]?).map (·.type) = some 107 by kernel_rfl) Tryd.underlying107 Tryd.underlying92 (by kernel_rfl) (by kernel_rfl) L2
  obtain ⟨q3, L3⟩ := Laid.skip L2
  obtain ⟨q4, L4⟩ := Laid.skip L3
  have t4 := Laid.nums (P := Tryd.prog) (k := .u8) (zs := [48, 49, 50, 51, 52, 53, 54, 55, 56, 57, 65, 66, 67, 68, 69, 70]) (show Tryd.prog.globalNamed "loop.example/g00460/impl.hexDigits" = some 3 by kernel_rfl) (show (Tryd.prog.globals[3]?).map (·.type) = some 113 by kernel_rfl) Tryd.underlying113 Tryd.underlying5 (by kernel_rfl) (by kernel_rfl) L4
  obtain ⟨q5, L5⟩ := Laid.skip L4
  have t5 := Laid.txts (P := Tryd.prog) (l := [[110, 101, 103], [110, 111, 116], [104, 105, 103, 104], [108, 111, 119], [43], [45], [42], [47], [37], [38], [94], [124], [60, 60], [62, 62]]) (show Tryd.prog.globalNamed "loop.example/g00460/impl.opTexts" = some 0 by kernel_rfl) (show (Tryd.prog.globals[0]?).map (·.type) = some 69 by kernel_rfl) Tryd.underlying69 Tryd.underlying9 (by kernel_rfl) (by kernel_rfl) L5
  obtain ⟨q6, L6⟩ := Laid.skip L5
  obtain ⟨q7, L7⟩ := Laid.skip L6
  exact ⟨fun i hi => (t5 i hi).trans (by match i, hi with | 0, _ => rfl | 1, _ => rfl | 2, _ => rfl | 3, _ => rfl | 4, _ => rfl | 5, _ => rfl | 6, _ => rfl | 7, _ => rfl | 8, _ => rfl | 9, _ => rfl | 10, _ => rfl | 11, _ => rfl | 12, _ => rfl | 13, _ => rfl), tp, fun i hi => t4 i hi⟩

set_option maxHeartbeats 2000000 in
theorem walk (w : World) (a0 : ByteArray) (w0 : a0.size ≤ maxLen) (hT : Optx.OpTab w ∧ Optx.Pow w ∧ Nums.Tab w) (hm : Wort.MaxL w) :
    Calls Tryd.prog 4 #[.string a0] w fun e w' => e = .returned (.bool true) ∧ Below w.heap.size w w' := by
  have HX : Hid ((Optx.OpTab w ∧ Optx.Pow w ∧ Nums.Tab w) ∧ Wort.MaxL w) := ⟨hT, hm⟩
  clear hT hm
  by_cases hbig : 1048576 < a0.size
  · unfold maxLen at w0
    clear HX
    go_enter Tryd.func4, Tryd.ntmps4
    go_wp2
    go_ret
    exact ⟨rfl, Below.refl _ _⟩
  have cs := fun w => Wors.specRead_any a0 w (by omega)
  have ci := fun w hT hP hX hm => Wort.implRead_any a0 w (by omega) hT hP hX hm
  rw [Woru.same] at ci
  generalize Wors.outS a0 = O at cs ci
  obtain ⟨fl, hfl⟩ : ∃ fl, O.isSome = fl := ⟨_, rfl⟩
  have FL : Hid (O.isSome = fl) := hfl
  obtain ⟨len, hlen⟩ : ∃ len, (Wors.lst O).length = len := ⟨_, rfl⟩
  have HL : Hid ((Wors.lst O).length = len) := hlen
  have ce := fun a a' cap cap' w h h' hl => Mirror.eqENodeS_any a a' cap cap' (Wors.lst O) w h h' hl
  rw [hlen] at ce
  clear hlen hfl
  go_enter Tryd.func4, Tryd.ntmps4
  go_wp2_with fail
  refine (cs _).mono ?_
  rintro e w1 ⟨ao1, cap1, rfl, o1, z1, l1, b1⟩
  rw [HL.out, FL.out]
  rw [HL.out] at l1 o1
  have S1 : Hid (Stepx.Nodes w1 ao1 (Wors.lst O)) := Nodm.nodes_own o1 z1
  have B1 : Hid (Below w.heap.size w w1) := b1
  clear o1 z1 b1 cs
  go_wp2_with fail
  refine (ci _ (HX.out.1.1.below B1.out) (HX.out.1.2.1.below B1.out) (Nodi.tab_below HX.out.1.2.2 B1.out) (HX.out.2.below B1.out)).mono ?_
  rintro e w2 ⟨ao2, cap2, rfl, o2, z2, l2, b2⟩
  rw [HL.out, FL.out]
  rw [HL.out] at o2
  have O2 : Hid (w2.ownsRow w1.heap.size 37 3 (.slice ao2 len cap2) len (Nodm.cellsOf (Wors.lst O))) := by
    have h : w2.ownsRow w1.heap.size 37 3 (.slice ao2 len cap2) (Wors.lst O).length (Nodm.cellsOf (Wors.lst O)) := o2
    rwa [HL.out] at h
  have S2 : Hid (Stepx.Nodes w2 ao2 (Wors.lst O)) := Nodm.nodes_own o2 z2
  have C2 : Hid (Below w1.heap.size w1 w2) := b2
  clear o2 z2 b2 l2
  go_wp2_with fail
  refine (ce _ _ _ _ _ S2.out (Mirror.Nodes.below S1.out C2.out) (by omega)).mono ?_
  rintro e w3 ⟨rfl, b3⟩
  have C3 : Hid (Below w1.heap.size w1 w3) := C2.out.trans (b3.mono C2.out.size)
  have O3 : Hid (w3.ownsRow w1.heap.size 37 3 (.slice ao2 len cap2) len (Nodm.cellsOf (Wors.lst O))) := Nodm.own_belowG O2.out b3
  clear b3 O2 C2 S2
  go_wp2_with fail
  refine (Nodm.markENodeS_any _ len _ _ _ O3.out HL.out (by omega)).mono ?_
  rintro e w4 ⟨rfl, o4, g4⟩
  have C4 : Hid (Below w1.heap.size w1 w4) := C3.out.grown g4 C3.out.size (fun k hk => (O3.out.lt k hk).1)
  have O4 : Hid (w4.ownsRow w1.heap.size 37 3 (.slice ao2 len cap2) len (Nodm.cellsOf (Nodm.marks len))) := o4
  clear o4 g4 O3 C3
  go_wp2_with fail
  refine (Nodm.heldENodeS_any _ len _ _ O4.out (by omega)).mono ?_
  rintro e w5 ⟨rfl, b5⟩
  have C5 : Hid (Below w1.heap.size w1 w5) := C4.out.trans (b5.mono C4.out.size)
  have O5 : Hid (w5.ownsRow w1.heap.size 37 3 (.slice ao2 len cap2) len (Nodm.cellsOf (Nodm.marks len))) := Nodm.own_belowG O4.out b5
  have B5 : Hid (Below w.heap.size w w5) := B1.out.trans (C5.out.mono B1.out.size)
  clear b5 O4 C4
  go_wp2_with fail
  refine (ci _ (HX.out.1.1.below B5.out) (HX.out.1.2.1.below B5.out) (Nodi.tab_below HX.out.1.2.2 B5.out) (HX.out.2.below B5.out)).mono ?_
  rintro e w6 ⟨ao6, cap6, rfl, o6, z6, l6, b6⟩
  rw [HL.out, FL.out]
  rw [HL.out] at o6
  have S6 : Hid (Stepx.Nodes w6 ao6 (Wors.lst O)) := Nodm.nodes_own o6 z6
  have C6 : Hid (Below w1.heap.size w1 w6) := C5.out.trans (b6.mono C5.out.size)
  have O6 : Hid (w6.ownsRow w1.heap.size 37 3 (.slice ao2 len cap2) len (Nodm.cellsOf (Nodm.marks len))) := Nodm.own_belowG O5.out b6
  clear o6 z6 b6 l6 O5 C5
  go_wp2_with fail
  refine (ce _ _ _ _ _ S6.out (Mirror.Nodes.below S1.out C6.out) (by omega)).mono ?_
  rintro e w7 ⟨rfl, b7⟩
  have C7 : Hid (Below w1.heap.size w1 w7) := C6.out.trans (b7.mono C6.out.size)
  have O7 : Hid (w7.ownsRow w1.heap.size 37 3 (.slice ao2 len cap2) len (Nodm.cellsOf (Nodm.marks len))) := Nodm.own_belowG O6.out b7
  clear b7 O6 C6 S6
  go_wp2_with fail
  refine (Nodm.heldENodeS_any _ len _ _ O7.out (by omega)).mono ?_
  rintro e w8 ⟨rfl, b8⟩
  have B8 : Hid (Below w.heap.size w w8) := B1.out.trans ((C7.out.trans (b8.mono C7.out.size)).mono B1.out.size)
  clear b8 O7 C7
  go_wp2
  go_ret
  exact ⟨rfl, B8.out⟩

set_option maxRecDepth 100000 in
theorem contract (H : Type) (enc : TypeId × Value → H) (W : World) (base : Nat) (args : Array Value) (ds gs : List (DataW H)) (before : List MemPlace)
    (hval : ∀ (j : Nat) t v, Tryd.f4.params[j]? = some t → args[j]? = some v → Value.okWide Tryd.prog W .any base t v)
    (hW : DataW.Whole enc Tryd.prog Tryd.f4.params.toList Rows.fnExactReadExprSpec.vars false W args.toList ds gs before) (hL : laidMetH Tryd.prog Rows.fnExactReadExprRow.laid W) (hsh : W.ShapedOpen Tryd.prog) :
    Calls Tryd.prog 4 args W fun e W' => ∃ v, e = .returned v ∧ Rows.fnExactReadExprSpec.post enc Tryd.prog Tryd.f4 false true false false W args v W' := by
  have hW' := hW
  obtain ⟨p, q, hA0, hV, hbef, hfz, hnd⟩ := hW
  have hA : DataW.TrodAll enc Tryd.prog W 0 (fun _ => true) true Tryd.f4.params.toList args.toList ds p := hA0
  have hVk : DataW.TrodVars enc Tryd.prog W (fun _ => true) Rows.fnExactReadExprSpec.vars gs q := hV
  rw [Tryd.params4] at hA hval
  obtain ⟨v0, vs0, d0, ds0, p0, q0, hargs, rfl, rfl, h0, r0⟩ := trodAll_cons hA
  obtain ⟨rfl, rfl, rfl⟩ := trodAll_nil r0
  obtain rfl : args = #[v0] := by cases args; simp_all
  obtain ⟨g1, g2, rfl⟩ : ∃ g1 g2, gs = [g1, g2] := by
    have hl := Laid.vars_len hVk
    match gs, hl with
    | [g1, g2], _ => exact ⟨_, _, rfl⟩
  obtain ⟨a0, rfl, rfl, rfl, w0⟩ := open_string Tryd.underlying9 (hval 0 9 v0 rfl rfl) h0
  clear hA0
  refine (walk W a0 w0 (tables hL) (Tryd.laysM146.s1_3 W hsh)).mono fun e W' ⟨he, bel⟩ => ?_
  subst he
  exact ⟨_, rfl, _, _, _, [], _, q, hW', trodAll_mk1 (shut_bool Tryd.underlying4 _), (trodAll_cons_mk (shut_string Tryd.underlying9 w0) trodAll_mk0), Below.trodVars laidOut bel rowed hVk, bel.frame _, fun h => by cases h⟩

/-- A world for the witness: the settled one, the table holding what its initialiser lays. -/
noncomputable def laidWorld (os : Os) : World :=
  { World.holding Tryd.prog os ⟨#[], #[], []⟩ with heap := (fun h => h.modify 6 fun | .cells _ t frozen => .cells #[.int .u8 0, .int .u8 1, .int .u8 28, .int .u8 2, .int .u8 29, .int .u8 14, .int .u8 24, .int .u8 3, .int .u8 30, .int .u8 22, .int .u8 20, .int .u8 15, .int .u8 25, .int .u8 17, .int .u8 4, .int .u8 8, .int .u8 31, .int .u8 27, .int .u8 13, .int .u8 23, .int .u8 21, .int .u8 19, .int .u8 16, .int .u8 7, .int .u8 26, .int .u8 12, .int .u8 18, .int .u8 6, .int .u8 11, .int .u8 5, .int .u8 10, .int .u8 9] t frozen | o => o) <| (fun h => h.modify 7 fun | .cells _ t frozen => .cells #[.int .u8 0, .int .u8 1, .int .u8 56, .int .u8 2, .int .u8 57, .int .u8 49, .int .u8 28, .int .u8 3, .int .u8 61, .int .u8 58, .int .u8 42, .int .u8 50, .int .u8 38, .int .u8 29, .int .u8 17, .int .u8 4, .int .u8 62, .int .u8 47, .int .u8 59, .int .u8 36, .int .u8 45, .int .u8 43, .int .u8 51, .int .u8 22, .int .u8 53, .int .u8 39, .int .u8 33, .int .u8 30, .int .u8 24, .int .u8 18, .int .u8 12, .int .u8 5, .int .u8 63, .int .u8 55, .int .u8 48, .int .u8 27, .int .u8 60, .int .u8 41, .int .u8 37, .int .u8 16, .int .u8 46, .int .u8 35, .int .u8 44, .int .u8 21, .int .u8 52, .int .u8 32, .int .u8 23, .int .u8 11, .int .u8 54, .int .u8 26, .int .u8 40, .int .u8 15, .int .u8 34, .int .u8 20, .int .u8 31, .int .u8 10, .int .u8 25, .int .u8 14, .int .u8 19, .int .u8 9, .int .u8 13, .int .u8 8, .int .u8 7, .int .u8 6] t frozen | o => o) <| (fun h => h.modify 1 fun | .cells _ t frozen => .cells #[.int .u64 1, .int .u64 10, .int .u64 100, .int .u64 1000, .int .u64 10000, .int .u64 100000, .int .u64 1000000, .int .u64 10000000, .int .u64 100000000, .int .u64 1000000000, .int .u64 10000000000, .int .u64 100000000000, .int .u64 1000000000000, .int .u64 10000000000000, .int .u64 100000000000000, .int .u64 1000000000000000, .int .u64 10000000000000000, .int .u64 100000000000000000, .int .u64 1000000000000000000, .int .u64 10000000000000000000] t frozen | o => o) <| (fun h => h.modify 5 fun | .cells _ t frozen => .cells #[.int .u8 128, .int .u8 191, .int .u8 160, .int .u8 191, .int .u8 128, .int .u8 159, .int .u8 144, .int .u8 191, .int .u8 128, .int .u8 143, .int .u8 0, .int .u8 0, .int .u8 0, .int .u8 0, .int .u8 0, .int .u8 0, .int .u8 0, .int .u8 0, .int .u8 0, .int .u8 0, .int .u8 0, .int .u8 0, .int .u8 0, .int .u8 0, .int .u8 0, .int .u8 0, .int .u8 0, .int .u8 0, .int .u8 0, .int .u8 0, .int .u8 0, .int .u8 0] t frozen | o => o) <| (fun h => h.modify 3 fun | .cells _ t frozen => .cells #[.int .u8 48, .int .u8 49, .int .u8 50, .int .u8 51, .int .u8 52, .int .u8 53, .int .u8 54, .int .u8 55, .int .u8 56, .int .u8 57, .int .u8 65, .int .u8 66, .int .u8 67, .int .u8 68, .int .u8 69, .int .u8 70] t frozen | o => o) <| (fun h => h.modify 0 fun | .cells _ t frozen => .cells #[.string ⟨#[110, 101, 103]⟩, .string ⟨#[110, 111, 116]⟩, .string ⟨#[104, 105, 103, 104]⟩, .string ⟨#[108, 111, 119]⟩, .string ⟨#[43]⟩, .string ⟨#[45]⟩, .string ⟨#[42]⟩, .string ⟨#[47]⟩, .string ⟨#[37]⟩, .string ⟨#[38]⟩, .string ⟨#[94]⟩, .string ⟨#[124]⟩, .string ⟨#[60, 60]⟩, .string ⟨#[62, 62]⟩] t frozen | o => o) <| (fun h => h.modify 4 fun | .cells _ t frozen => .cells ((Go.Pinned.utf8FirstZ).map fun n => Value.int .u8 (n : Nat)).toArray t frozen | o => o) <| (World.holding Tryd.prog os ⟨#[], #[], []⟩).heap }
theorem laid_met (os : Os) : laidMet Tryd.prog Rows.fnExactReadExprRow.laid ((laidWorld os).forCall (fun _ _ => 0) ⟨#[], #[.string ByteArray.empty], []⟩).memory :=
  laidMet_of_run' 8 (by kernel_rfl) (by kernel_rfl)
theorem reads (os : Os) {H : Type} (enc : TypeId × Value → H) : ∃ places, DataW.whole enc Tryd.prog ((laidWorld os).forCall (fun _ _ => 0) ⟨#[], #[.string ByteArray.empty], []⟩).memory Tryd.f4.params.toList Rows.fnExactReadExprSpec.vars false [.string ByteArray.empty] 8 = some ([.lit (.string [])], [.agg [.lit (.string [110, 101, 103]), .lit (.string [110, 111, 116]), .lit (.string [104, 105, 103, 104]), .lit (.string [108, 111, 119]), .lit (.string [43]), .lit (.string [45]), .lit (.string [42]), .lit (.string [47]), .lit (.string [37]), .lit (.string [38]), .lit (.string [94]), .lit (.string [124]), .lit (.string [60, 60]), .lit (.string [62, 62])], .agg [.lit (.int .u8 48), .lit (.int .u8 49), .lit (.int .u8 50), .lit (.int .u8 51), .lit (.int .u8 52), .lit (.int .u8 53), .lit (.int .u8 54), .lit (.int .u8 55), .lit (.int .u8 56), .lit (.int .u8 57), .lit (.int .u8 65), .lit (.int .u8 66), .lit (.int .u8 67), .lit (.int .u8 68), .lit (.int .u8 69), .lit (.int .u8 70)]], places) :=
  ⟨MemPlace.row ⟨0, 0, none⟩ 14 ++ MemPlace.row ⟨3, 0, none⟩ 16, by kernel_rfl⟩

set_option maxRecDepth 100000 in
theorem lifted (os : Os) (started : os.Started) (H : Type) (enc : TypeId × Value → H) (F : Stop.Interp) :
    ReturnsInHanded {} Tryd.checked os 4 .any ((OpenSpec.ofChange Rows.fnExactReadExprSpec).preRow enc Tryd.prog Tryd.f4 Rows.fnExactReadExprRow.domain false Rows.fnExactReadExprRow.laid) (((OpenSpec.ofChange Rows.fnExactReadExprSpec).at F).post enc Tryd.prog Tryd.f4 false true false false) := by
  obtain ⟨places, hx⟩ := reads os enc
  refine returnsInHanded_of_row (C := Tryd.checked) (s := OpenSpec.ofChange Rows.fnExactReadExprSpec) own started (by kernel_rfl) Tryd.func4
    (witness_row_at (enc := enc) (C := Tryd.checked) false (laidWorld os) #[.string ByteArray.empty] rfl (by kernel_rfl) (by kernel_rfl) (by kernel_rfl)
      (OpenSpec.preRow_of_cond 8 hx (by kernel_rfl) (fun k hk => by cases hk) (by kernel_rfl) (laid_met os))) ?_
  intro W base args ds gs before hval hW _ _ _ hL hsh _
  exact contract H enc W base args ds gs before hval hW hL hsh

theorem said : Rows.FnExactReadExprSaid :=
  OpenClaim.holds_of_cond 4 Tryd.f4 rfl rfl rfl rfl rfl rfl rfl ⟨rfl, rfl, rfl, rfl, rfl⟩ rfl rfl rfl rfl rfl (by kernel_rfl) Tryd.func4 (by kernel_rfl)
    (of_decide_eq_true (by kernel_rfl)) (by unfold Func.isWrapper; first | (rw [if_pos (by decide +kernel)]; kernel_rfl) | (rw [if_neg (by decide +kernel)]; exact ⟨rfl, rfl⟩))
    (fun os started H enc _ F => by rw [OpenClaim.pre_eq_preRow]; exact lifted os started H enc F)

theorem plain (f : FuncId) (fn : Func) (hf : Tryd.pinned.checked.prog.funcNamed "loop.example/g00460/laws.FnExactReadExpr" = some f) (hfn : Tryd.pinned.checked.prog.funcs[f]? = some fn) :
    true = Tryd.pinned.checked.prog.looks [] ∧ ∀ (j : Nat) t, fn.params[j]? = some t → Tryd.pinned.checked.prog.wantsStandIn t = false := by
  obtain rfl : f = 4 := Option.some.inj ((show Tryd.prog.funcNamed "loop.example/g00460/laws.FnExactReadExpr" = some 4 by kernel_rfl).symm.trans hf) |>.symm
  obtain rfl : fn = Tryd.f4 := (Option.some.inj (Tryd.func4.symm.trans hfn)).symm
  refine ⟨by kernel_rfl, fun j t ht => ?_⟩
  rw [Tryd.params4] at ht
  have h : t = 9 := by simpa using Array.mem_of_getElem? ht
  subst h
  exact (show Tryd.prog.wantsStandIn 9 = false by kernel_rfl)

theorem card : Rows.FnExactReadExprCardSaid :=
  Claim7.holds_tied_plain_at .later [] _ _ _ _ said (fun _ h => by cases h) (by kernel_rfl) (fun _ h => by cases h) fnExactReadExpr_row_tie rfl ⟨rfl, rfl⟩ (by kernel_rfl) rfl plain (by kernel_rfl)
end Go.Proofs.YtlbcilbfalkobaaDoor.fnExactReadExpr
namespace Go.Proofs.YtlbcilbfalkobaaDoor
theorem fnExactReadExpr_holds : Rows.FnExactReadExprCardSaid := fnExactReadExpr.card
end Go.Proofs.YtlbcilbfalkobaaDoor
