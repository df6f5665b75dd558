/- For every text the law FnExactReadSyms answers true, that is, impl.ReadSyms answers as spec.ReadSyms does, every field; its answer owns its memory, behind another call too; the table of digits holds what its initialiser lays when the call begins (tied to the program's text by the card), and is as it was. -/
import Derived.Test.YtkcophgkkeakjaaDoorCards
import Derived.Test.YtkcophgkkeakjaaDoorTie
import Derived.WalkKit
import Derived.ProofKit
import Derived.OpenShut
import Derived.ShutString
import Derived.ChangeOld
import Derived.ChangeVars
import Derived.OpenVars
import Derived.Below
import Derived.Deep.DeepHandedRow
import Derived.Lib.LaidTab
import Derived.Test.YtkcophgkkeakjaaDoorSymm
import Derived.HandedShaped
namespace Go.Proofs.YtkcophgkkeakjaaDoor.fnExactReadSyms
open Go.ChangeShapes Go.WideShapes Go.ChangeAt Go.RowKit
open Go.ChangeMaps (open_string shut_string)
set_option linter.unusedVariables false

theorem own : ownKnob Tryd.prog.godebug = none := by kernel_rfl
theorem laidOut : laidOutB Tryd.prog = true := by kernel_rfl
theorem gTab : Tryd.prog.globalNamed "loop.example/g00460/impl.hexDigits" = some 0 := by kernel_rfl
theorem gTabType : (Tryd.prog.globals[0]?).map (·.type) = some 68 := by kernel_rfl
theorem cellsTab : Tryd.prog.cellsOf 68 = 16 := by kernel_rfl
theorem cells5 : Tryd.prog.cellsOf 5 = 1 := by kernel_rfl
theorem rowed : varsRowed Tryd.prog Rows.fnExactReadSymsSpec.vars = true := by kernel_rfl

/-- What the row's list gives: the table's cells hold the sixteen digits. -/
theorem table {W : World} (h : laidMetH Tryd.prog Rows.fnExactReadSymsRow.laid W) : Nums.Tab W := fun i hi =>
  (Lib.tabIs_of_head (k := .u8) (zs := Nums.tab) (rest := []) gTab gTabType Tryd.underlying68 Tryd.underlying5 cells5 cellsTab h).cell gTab i hi

set_option maxHeartbeats 2000000 in
theorem walk (w : World) (a0 : ByteArray) (w0 : a0.size ≤ maxLen) (hT : Nums.Tab w) (hm : Symq.MaxL w) :
    Calls Tryd.prog 4 #[.string a0] w fun e w' => e = .returned (.bool true) ∧ Below w.heap.size w w' := by
  have HX : Hid (Nums.Tab w ∧ Symq.MaxL w) := ⟨hT, hm⟩
  clear hT hm
  by_cases hbig : 1048576 < a0.size
  · unfold maxLen at w0
    clear HX
    go_enter Tryd.func4, Tryd.ntmps4
    go_wp2
    go_ret
    exact ⟨rfl, Below.refl _ _⟩
  have cs := fun w => Symq.specRead_any a0 w (by omega)
  have ci := fun w hT hm => Symq.implRead_any a0 w (by omega) hT hm
  rw [Symp.same] at ci
  generalize Symp.outS a0 = O at cs ci
  obtain ⟨fl, hfl⟩ : ∃ fl, O.isSome = fl := ⟨_, rfl⟩
  have FL : Hid (O.isSome = fl) := hfl
  obtain ⟨len, hlen⟩ : ∃ len, (Symq.lst O).length = len := ⟨_, rfl⟩
  have HL : Hid ((Symq.lst O).length = len) := hlen
  have ce := fun a a' cap cap' w h h' hl => Symr.eqSymS_any a a' cap cap' (Symq.lst O) w h h' hl
  rw [hlen] at ce
  clear hlen hfl
  go_enter Tryd.func4, Tryd.ntmps4
  go_wp2_with fail
  refine (cs _).mono ?_
  rintro e w1 ⟨ao1, cap1, rfl, o1, z1, l1, b1⟩
  rw [HL.out, FL.out]
  rw [HL.out] at l1 o1
  have S1 : Hid (Symr.Syms w1 ao1 (Symq.lst O)) := Symq.syms_own o1 z1
  have B1 : Hid (Below w.heap.size w w1) := b1
  clear o1 z1 b1 cs
  go_wp2_with fail
  refine (ci _ (Symt.tab_below HX.out.1 B1.out) (HX.out.2.below B1.out)).mono ?_
  rintro e w2 ⟨ao2, cap2, rfl, o2, z2, l2, b2⟩
  rw [HL.out, FL.out]
  rw [HL.out] at o2
  have O2 : Hid (w2.ownsRow w1.heap.size 40 3 (.slice ao2 len cap2) len (Symq.cellsOf (Symq.lst O))) := by
    have h : w2.ownsRow w1.heap.size 40 3 (.slice ao2 len cap2) (Symq.lst O).length (Symq.cellsOf (Symq.lst O)) := o2
    rwa [HL.out] at h
  have S2 : Hid (Symr.Syms w2 ao2 (Symq.lst O)) := Symq.syms_own o2 z2
  have C2 : Hid (Below w1.heap.size w1 w2) := b2
  clear o2 z2 b2 l2
  go_wp2_with fail
  refine (ce _ _ _ _ _ S2.out (S1.out.below C2.out) (by omega)).mono ?_
  rintro e w3 ⟨rfl, b3⟩
  have C3 : Hid (Below w1.heap.size w1 w3) := C2.out.trans (b3.mono C2.out.size)
  have O3 : Hid (w3.ownsRow w1.heap.size 40 3 (.slice ao2 len cap2) len (Symq.cellsOf (Symq.lst O))) := Symm.own_belowG O2.out b3
  clear b3 O2 C2 S2
  go_wp2_with fail
  refine (Symm.markSymS_any _ len _ _ _ O3.out HL.out (by omega)).mono ?_
  rintro e w4 ⟨rfl, o4, g4⟩
  have C4 : Hid (Below w1.heap.size w1 w4) := C3.out.grown g4 C3.out.size (fun k hk => (O3.out.lt k hk).1)
  have O4 : Hid (w4.ownsRow w1.heap.size 40 3 (.slice ao2 len cap2) len (Symq.cellsOf (Symm.marks len))) := o4
  clear o4 g4 O3 C3
  go_wp2_with fail
  refine (Symm.heldSymS_any _ len _ _ O4.out (by omega)).mono ?_
  rintro e w5 ⟨rfl, b5⟩
  have C5 : Hid (Below w1.heap.size w1 w5) := C4.out.trans (b5.mono C4.out.size)
  have O5 : Hid (w5.ownsRow w1.heap.size 40 3 (.slice ao2 len cap2) len (Symq.cellsOf (Symm.marks len))) := Symm.own_belowG O4.out b5
  have B5 : Hid (Below w.heap.size w w5) := B1.out.trans (C5.out.mono B1.out.size)
  clear b5 O4 C4
  go_wp2_with fail
  refine (ci _ (Symt.tab_below HX.out.1 B5.out) (HX.out.2.below B5.out)).mono ?_
  rintro e w6 ⟨ao6, cap6, rfl, o6, z6, l6, b6⟩
  rw [HL.out, FL.out]
  rw [HL.out] at o6
  have S6 : Hid (Symr.Syms w6 ao6 (Symq.lst O)) := Symq.syms_own o6 z6
  have C6 : Hid (Below w1.heap.size w1 w6) := C5.out.trans (b6.mono C5.out.size)
  have O6 : Hid (w6.ownsRow w1.heap.size 40 3 (.slice ao2 len cap2) len (Symq.cellsOf (Symm.marks len))) := Symm.own_belowG O5.out b6
  clear o6 z6 b6 l6 O5 C5
  go_wp2_with fail
  refine (ce _ _ _ _ _ S6.out (S1.out.below C6.out) (by omega)).mono ?_
  rintro e w7 ⟨rfl, b7⟩
  have C7 : Hid (Below w1.heap.size w1 w7) := C6.out.trans (b7.mono C6.out.size)
  have O7 : Hid (w7.ownsRow w1.heap.size 40 3 (.slice ao2 len cap2) len (Symq.cellsOf (Symm.marks len))) := Symm.own_belowG O6.out b7
  clear b7 O6 C6 S6
  go_wp2_with fail
  refine (Symm.heldSymS_any _ len _ _ O7.out (by omega)).mono ?_
  rintro e w8 ⟨rfl, b8⟩
  have B8 : Hid (Below w.heap.size w w8) := B1.out.trans ((C7.out.trans (b8.mono C7.out.size)).mono B1.out.size)
  clear b8 O7 C7
  go_wp2
  go_ret
  exact ⟨rfl, B8.out⟩

set_option maxRecDepth 100000 in
theorem contract (H : Type) (enc : TypeId × Value → H) (W : World) (base : Nat) (args : Array Value) (ds gs : List (DataW H)) (before : List MemPlace)
    (hval : ∀ (j : Nat) t v, Tryd.f4.params[j]? = some t → args[j]? = some v → Value.okWide Tryd.prog W .any base t v)
    (hW : DataW.Whole enc Tryd.prog Tryd.f4.params.toList Rows.fnExactReadSymsSpec.vars false W args.toList ds gs before) (hL : laidMetH Tryd.prog Rows.fnExactReadSymsRow.laid W) (hsh : W.ShapedOpen Tryd.prog) :
    Calls Tryd.prog 4 args W fun e W' => ∃ v, e = .returned v ∧ Rows.fnExactReadSymsSpec.post enc Tryd.prog Tryd.f4 false true false false W args v W' := by
  have hW' := hW
  obtain ⟨p, q, hA0, hV, hbef, hfz, hnd⟩ := hW
  have hA : DataW.TrodAll enc Tryd.prog W 0 (fun _ => true) true Tryd.f4.params.toList args.toList ds p := hA0
  have hVk : DataW.TrodVars enc Tryd.prog W (fun _ => true) Rows.fnExactReadSymsSpec.vars gs q := hV
  rw [Tryd.params4] at hA hval
  obtain ⟨v0, vs0, d0, ds0, p0, q0, hargs, rfl, rfl, h0, r0⟩ := trodAll_cons hA
  obtain ⟨rfl, rfl, rfl⟩ := trodAll_nil r0
  obtain rfl : args = #[v0] := by cases args; simp_all
  obtain ⟨g, t, cs, fuel, d, p', rfl, hg, ht, hvar, hd, hq⟩ := trodVars_one hV
  obtain ⟨a0, rfl, rfl, rfl, w0⟩ := open_string Tryd.underlying9 (hval 0 9 v0 rfl rfl) h0
  clear hA0
  refine (walk W a0 w0 (table hL) (Tryd.laysM145.s1_3 W hsh)).mono fun e W' ⟨he, bel⟩ => ?_
  subst he
  exact ⟨_, rfl, _, _, _, [], _, q, hW', trodAll_mk1 (shut_bool Tryd.underlying4 _), (trodAll_cons_mk (shut_string Tryd.underlying9 w0) trodAll_mk0), Below.trodVars laidOut bel rowed hVk, bel.frame _, fun h => by cases h⟩

/-- A world for the witness: the settled one, the table holding what its initialiser lays. -/
noncomputable def laidWorld (os : Os) : World :=
  { World.holding Tryd.prog os ⟨#[], #[], []⟩ with heap := (World.holding Tryd.prog os ⟨#[], #[], []⟩).heap.modify 0 fun
      | .cells _ t frozen => .cells #[.int .u8 48, .int .u8 49, .int .u8 50, .int .u8 51, .int .u8 52, .int .u8 53, .int .u8 54, .int .u8 55, .int .u8 56, .int .u8 57, .int .u8 65, .int .u8 66, .int .u8 67, .int .u8 68, .int .u8 69, .int .u8 70] t frozen
      | o => o }
theorem laid_met (os : Os) : laidMet Tryd.prog Rows.fnExactReadSymsRow.laid ((laidWorld os).forCall (fun _ _ => 0) ⟨#[], #[.string ByteArray.empty], []⟩).memory :=
  laidMet_of_run' 8 (by kernel_rfl) (by kernel_rfl)
theorem reads (os : Os) {H : Type} (enc : TypeId × Value → H) : ∃ places, DataW.whole enc Tryd.prog ((laidWorld os).forCall (fun _ _ => 0) ⟨#[], #[.string ByteArray.empty], []⟩).memory Tryd.f4.params.toList Rows.fnExactReadSymsSpec.vars false [.string ByteArray.empty] 8 = some ([.lit (.string [])], [.agg [.lit (.int .u8 48), .lit (.int .u8 49), .lit (.int .u8 50), .lit (.int .u8 51), .lit (.int .u8 52), .lit (.int .u8 53), .lit (.int .u8 54), .lit (.int .u8 55), .lit (.int .u8 56), .lit (.int .u8 57), .lit (.int .u8 65), .lit (.int .u8 66), .lit (.int .u8 67), .lit (.int .u8 68), .lit (.int .u8 69), .lit (.int .u8 70)]], places) :=
  ⟨MemPlace.row ⟨0, 0, none⟩ 16, by kernel_rfl⟩

set_option maxRecDepth 100000 in
theorem lifted (os : Os) (started : os.Started) (H : Type) (enc : TypeId × Value → H) (F : Stop.Interp) :
    ReturnsInHanded {} Tryd.checked os 4 .any ((OpenSpec.ofChange Rows.fnExactReadSymsSpec).preRow enc Tryd.prog Tryd.f4 Rows.fnExactReadSymsRow.domain false Rows.fnExactReadSymsRow.laid) (((OpenSpec.ofChange Rows.fnExactReadSymsSpec).at F).post enc Tryd.prog Tryd.f4 false true false false) := by
  obtain ⟨places, hx⟩ := reads os enc
  refine returnsInHanded_of_row (C := Tryd.checked) (s := OpenSpec.ofChange Rows.fnExactReadSymsSpec) own started (by kernel_rfl) Tryd.func4
    (witness_row_at (enc := enc) (C := Tryd.checked) false (laidWorld os) #[.string ByteArray.empty] rfl (by kernel_rfl) (by kernel_rfl) (by kernel_rfl)
      (OpenSpec.preRow_of_cond 8 hx (by kernel_rfl) (fun k hk => by cases hk) (by kernel_rfl) (laid_met os))) ?_
  intro W base args ds gs before hval hW _ _ _ hL hsh _
  exact contract H enc W base args ds gs before hval hW hL hsh

theorem said : Rows.FnExactReadSymsSaid :=
  OpenClaim.holds_of_cond 4 Tryd.f4 rfl rfl rfl rfl rfl rfl rfl ⟨rfl, rfl, rfl, rfl, rfl⟩ rfl rfl rfl rfl rfl (by kernel_rfl) Tryd.func4 (by kernel_rfl)
    (of_decide_eq_true (by kernel_rfl)) (by unfold Func.isWrapper; first | (rw [if_pos (by decide +kernel)]; kernel_rfl) | (rw [if_neg (by decide +kernel)]; exact ⟨rfl, rfl⟩))
    (fun os started H enc _ F => by rw [OpenClaim.pre_eq_preRow]; exact lifted os started H enc F)

theorem plain (f : FuncId) (fn : Func) (hf : Tryd.pinned.checked.prog.funcNamed "loop.example/g00460/laws.FnExactReadSyms" = some f) (hfn : Tryd.pinned.checked.prog.funcs[f]? = some fn) :
    false = Tryd.pinned.checked.prog.looks [] ∧ ∀ (j : Nat) t, fn.params[j]? = some t → Tryd.pinned.checked.prog.wantsStandIn t = false := by
  obtain rfl : f = 4 := Option.some.inj ((show Tryd.prog.funcNamed "loop.example/g00460/laws.FnExactReadSyms" = some 4 by kernel_rfl).symm.trans hf) |>.symm
  obtain rfl : fn = Tryd.f4 := (Option.some.inj (Tryd.func4.symm.trans hfn)).symm
  refine ⟨by kernel_rfl, fun j t ht => ?_⟩
  rw [Tryd.params4] at ht
  have h : t = 9 := by simpa using Array.mem_of_getElem? ht
  subst h
  exact (show Tryd.prog.wantsStandIn 9 = false by kernel_rfl)

theorem card : Rows.FnExactReadSymsCardSaid :=
  Claim7.holds_tied_plain_at .later [] _ _ _ _ said (fun _ h => by cases h) (by kernel_rfl) (fun _ h => by cases h) fnExactReadSyms_row_tie rfl ⟨rfl, rfl⟩ (by kernel_rfl) rfl plain (by kernel_rfl)
end Go.Proofs.YtkcophgkkeakjaaDoor.fnExactReadSyms
namespace Go.Proofs.YtkcophgkkeakjaaDoor
theorem fnExactReadSyms_holds : Rows.FnExactReadSymsCardSaid := fnExactReadSyms.card
end Go.Proofs.YtkcophgkkeakjaaDoor
