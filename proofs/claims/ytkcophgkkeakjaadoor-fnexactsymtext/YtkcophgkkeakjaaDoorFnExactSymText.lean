/- For every row of symbols the law FnExactSymText answers true, that is, impl.SymText answers as spec.SymText does and writes into no symbol; the symbols read afterwards as they read before; the table of digits holds what its initialiser lays when the call begins (tied to the program's text by the card), and is as it was. -/
import Derived.Test.YtkcophgkkeakjaaDoorCards
import Derived.Test.YtkcophgkkeakjaaDoorTie
import Derived.WalkKit
import Derived.ProofKit
import Derived.OpenShut
import Derived.ShutString
import Derived.ChangeOld
import Derived.ChangeVars
import Derived.OpenVars
import Derived.Below
import Derived.Deep.DeepHandedRow
import Derived.Lib.LaidTab
import Derived.Test.YtkcophgkkeakjaaDoorSymt
namespace Go.Proofs.YtkcophgkkeakjaaDoor.fnExactSymText
open Go.ChangeShapes Go.WideShapes Go.ChangeAt Go.RowKit
open Go.ChangeMaps (open_string shut_string)
set_option linter.unusedVariables false

theorem own : ownKnob Tryd.prog.godebug = none := by kernel_rfl
theorem laidOut : laidOutB Tryd.prog = true := by kernel_rfl
theorem gTab : Tryd.prog.globalNamed "loop.example/g00460/impl.hexDigits" = some 0 := by kernel_rfl
theorem gTabType : (Tryd.prog.globals[0]?).map (·.type) = some 68 := by kernel_rfl
theorem cellsTab : Tryd.prog.cellsOf 68 = 16 := by kernel_rfl
theorem cells5 : Tryd.prog.cellsOf 5 = 1 := by kernel_rfl
theorem rowed : varsRowed Tryd.prog Rows.fnExactSymTextSpec.vars = true := by kernel_rfl

/-- What the row's list gives: the table's cells hold the sixteen digits. -/
theorem table {W : World} (h : laidMetH Tryd.prog Rows.fnExactSymTextRow.laid W) : Nums.Tab W := fun i hi =>
  (Lib.tabIs_of_head (k := .u8) (zs := Nums.tab) (rest := []) gTab gTabType Tryd.underlying68 Tryd.underlying5 cells5 cellsTab h).cell gTab i hi

set_option maxHeartbeats 2000000 in
theorem walk (w : World) (a0 : Option Addr) (cap0 : Nat) (L0 : List Symr.Sym) (w0 : Symr.Syms w a0 L0) (l0 : L0.length ≤ maxLen) (hT : Nums.Tab w) :
    Calls Tryd.prog 3 #[.slice a0 L0.length cap0] w fun e w' => e = .returned (.bool true) ∧ Below w.heap.size w w' := by
  have HT : Hid (Nums.Tab w) := hT
  clear hT
  have H : Hid (Symr.Syms w a0 L0) := w0
  clear w0
  go_enter Tryd.func3, Tryd.ntmps3
  go_wp2_with fail
  refine (Symr.szSymS_any _ _ _ _ H.out l0).mono ?_
  rintro e w1 ⟨⟨x, rfl, hx⟩, hb1⟩
  rcases hx with hx | ⟨hx, hlen⟩
  · go_wp2
    go_ret
    exact ⟨rfl, hb1⟩
  have H1 : Hid (Symr.Syms w1 a0 L0) := Symr.Syms.below H.out hb1
  have B1 : Hid (Below w.heap.size w w1) := hb1
  clear hb1 H l0
  have cs := fun a cap w hN => Symt.specText_any a cap L0 w hN hlen
  have ci := fun a cap w hN hT => Symt.implText_any a cap L0 w hN hlen hT
  generalize Symt.symT L0 = R at cs ci
  go_wp2_with fail
  refine (Symr.toSymS_any _ _ _ _ H1.out hlen).mono ?_
  rintro e w2 ⟨⟨c2, rfl, hN2⟩, hb2⟩
  have H2 : Hid (Symr.Syms w2 a0 L0) := Symr.Syms.below H1.out hb2
  have N2 : Hid (Symr.Syms w2 (some ⟨w1.heap.size, 0, none⟩) L0) := hN2
  have B2 : Hid (Below w.heap.size w w2) := B1.out.trans (hb2.mono B1.out.size)
  clear hb2 hN2 H1 B1
  go_wp2_with fail
  refine (cs _ _ _ N2.out).mono ?_
  rintro e w3 ⟨rfl, hb3⟩
  have H3 : Hid (Symr.Syms w3 a0 L0) := Symr.Syms.below H2.out hb3
  have B3 : Hid (Below w.heap.size w w3) := B2.out.trans (hb3.mono B2.out.size)
  clear hb3 H2 B2 N2
  go_wp2_with fail
  refine (Symr.toSymS_any _ _ _ _ H3.out hlen).mono ?_
  rintro e w4 ⟨⟨c4, rfl, hN4⟩, hb4⟩
  have H4 : Hid (Symr.Syms w4 a0 L0) := Symr.Syms.below H3.out hb4
  have N4 : Hid (Symr.Syms w4 (some ⟨w3.heap.size, 0, none⟩) L0) := hN4
  have B4 : Hid (Below w.heap.size w w4) := B3.out.trans (hb4.mono B3.out.size)
  clear hb4 hN4 H3 B3
  go_wp2_with fail
  refine (ci _ _ _ N4.out (Symt.tab_below HT.out B4.out)).mono ?_
  rintro e w5 ⟨rfl, hb5⟩
  have H5 : Hid (Symr.Syms w5 a0 L0) := Symr.Syms.below H4.out hb5
  have N5 : Hid (Symr.Syms w5 (some ⟨w3.heap.size, 0, none⟩) L0) := Symr.Syms.below N4.out hb5
  have B5 : Hid (Below w.heap.size w w5) := B4.out.trans (hb5.mono B4.out.size)
  clear hb5 H4 N4 B4
  go_wp2_with fail
  refine (Symr.toSymS_any _ _ _ _ H5.out hlen).mono ?_
  rintro e w6 ⟨⟨c6, rfl, hN6⟩, hb6⟩
  have N6 : Hid (Symr.Syms w6 (some ⟨w3.heap.size, 0, none⟩) L0) := Symr.Syms.below N5.out hb6
  have B6 : Hid (Below w.heap.size w w6) := B5.out.trans (hb6.mono B5.out.size)
  clear hb6 H5 N5 B5
  go_wp2_with fail
  refine (Symr.eqSymS_any _ _ _ _ _ _ N6.out hN6 hlen).mono ?_
  rintro e w7 ⟨rfl, hb7⟩
  go_wp2
  go_ret
  exact ⟨rfl, B6.out.trans (hb7.mono B6.out.size)⟩

set_option maxRecDepth 100000 in
theorem contract (H : Type) (enc : TypeId × Value → H) (W : World) (base : Nat) (args : Array Value) (ds gs : List (DataW H)) (before : List MemPlace)
    (hval : ∀ (j : Nat) t v, Tryd.f3.params[j]? = some t → args[j]? = some v → Value.okWide Tryd.prog W .any base t v)
    (hW : DataW.Whole enc Tryd.prog Tryd.f3.params.toList Rows.fnExactSymTextSpec.vars false W args.toList ds gs before) (hL : laidMetH Tryd.prog Rows.fnExactSymTextRow.laid W) :
    Calls Tryd.prog 3 args W fun e W' => ∃ v, e = .returned v ∧ Rows.fnExactSymTextSpec.post enc Tryd.prog Tryd.f3 false true false false W args v W' := by
  have hW' := hW
  obtain ⟨p, q, hA0, hV, hbef, hfz, hnd⟩ := hW
  have hA : DataW.TrodAll enc Tryd.prog W 0 (fun _ => true) true Tryd.f3.params.toList args.toList ds p := hA0
  have hVk : DataW.TrodVars enc Tryd.prog W (fun _ => true) Rows.fnExactSymTextSpec.vars gs q := hV
  rw [Tryd.params3] at hA hval
  obtain ⟨v0, vs0, d0, ds0, p0, q0, hargs, rfl, rfl, h0, r0⟩ := trodAll_cons hA
  obtain ⟨rfl, rfl, rfl⟩ := trodAll_nil r0
  obtain rfl : args = #[v0] := by cases args; simp_all
  obtain ⟨g, t, cs, fuel, d, p', rfl, hg, ht, hvar, hd, hq⟩ := trodVars_one hV
  obtain ⟨a0, len0, cap0, rfl⟩ := okWide_slice Tryd.underlying22 (hval 0 22 v0 rfl rfl)
  have k0 := h0
  have lt0 : ∀ x ∈ p0, x.block < W.heap.size := by obtain ⟨m, hm⟩ := k0; exact DataW.trod_lt m _ _ _ hm
  obtain ⟨L0, e0, l0, w0⟩ : ∃ L : List Symr.Sym, L.length = len0 ∧ L.length ≤ maxLen ∧ Symr.Syms W a0 L := by
    obtain ⟨fuel, hf⟩ := h0
    obtain ⟨a, len, cap, L, hcs, h1, h2, h3⟩ := Symr.syms_of hf
    simp [Value.cells] at hcs
    obtain ⟨rfl, rfl, rfl⟩ := hcs
    exact ⟨L, h1, by rw [h1]; exact h2, h3⟩
  subst e0
  clear hA0
  refine (walk W a0 cap0 L0 w0 l0 (table hL)).mono fun e W' ⟨he, bel⟩ => ?_
  subst he
  exact ⟨_, rfl, _, _, _, [], _, q, hW', trodAll_mk1 (shut_bool Tryd.underlying4 _), (trodAll_cons_mk (Below.trod laidOut (by kernel_rfl) (of_decide_eq_true (by kernel_rfl)) k0 bel lt0) trodAll_mk0), Below.trodVars laidOut bel rowed hVk, bel.frame _, fun h => by cases h⟩

/-- A world for the witness: the settled one, the table holding what its initialiser lays. -/
noncomputable def laidWorld (os : Os) : World :=
  { World.holding Tryd.prog os ⟨#[], #[], []⟩ with heap := (World.holding Tryd.prog os ⟨#[], #[], []⟩).heap.modify 0 fun
      | .cells _ t frozen => .cells #[.int .u8 48, .int .u8 49, .int .u8 50, .int .u8 51, .int .u8 52, .int .u8 53, .int .u8 54, .int .u8 55, .int .u8 56, .int .u8 57, .int .u8 65, .int .u8 66, .int .u8 67, .int .u8 68, .int .u8 69, .int .u8 70] t frozen
      | o => o }
theorem laid_met (os : Os) : laidMet Tryd.prog Rows.fnExactSymTextRow.laid ((laidWorld os).forCall (fun _ _ => 0) ⟨#[], #[.slice none 0 0], []⟩).memory :=
  laidMet_of_run' 8 (by kernel_rfl) (by kernel_rfl)
theorem reads (os : Os) {H : Type} (enc : TypeId × Value → H) : ∃ places, DataW.whole enc Tryd.prog ((laidWorld os).forCall (fun _ _ => 0) ⟨#[], #[.slice none 0 0], []⟩).memory Tryd.f3.params.toList Rows.fnExactSymTextSpec.vars false [.slice none 0 0] 8 = some ([.nil], [.agg [.lit (.int .u8 48), .lit (.int .u8 49), .lit (.int .u8 50), .lit (.int .u8 51), .lit (.int .u8 52), .lit (.int .u8 53), .lit (.int .u8 54), .lit (.int .u8 55), .lit (.int .u8 56), .lit (.int .u8 57), .lit (.int .u8 65), .lit (.int .u8 66), .lit (.int .u8 67), .lit (.int .u8 68), .lit (.int .u8 69), .lit (.int .u8 70)]], places) :=
  ⟨MemPlace.row ⟨0, 0, none⟩ 16, by kernel_rfl⟩

set_option maxRecDepth 100000 in
theorem lifted (os : Os) (started : os.Started) (H : Type) (enc : TypeId × Value → H) (F : Stop.Interp) :
    ReturnsInHanded {} Tryd.checked os 3 .any ((OpenSpec.ofChange Rows.fnExactSymTextSpec).preRow enc Tryd.prog Tryd.f3 Rows.fnExactSymTextRow.domain false Rows.fnExactSymTextRow.laid) (((OpenSpec.ofChange Rows.fnExactSymTextSpec).at F).post enc Tryd.prog Tryd.f3 false true false false) := by
  obtain ⟨places, hx⟩ := reads os enc
  refine returnsInHanded_of_row (C := Tryd.checked) (s := OpenSpec.ofChange Rows.fnExactSymTextSpec) own started (by kernel_rfl) Tryd.func3
    (witness_row_at (enc := enc) (C := Tryd.checked) false (laidWorld os) #[.slice none 0 0] rfl (by kernel_rfl) (by kernel_rfl) (by kernel_rfl)
      (OpenSpec.preRow_of_cond 8 hx (by kernel_rfl) (fun k hk => by cases hk) (by kernel_rfl) (laid_met os))) ?_
  intro W base args ds gs before hval hW _ _ _ hL _ _
  exact contract H enc W base args ds gs before hval hW hL

theorem said : Rows.FnExactSymTextSaid :=
  OpenClaim.holds_of_cond 3 Tryd.f3 rfl rfl rfl rfl rfl rfl rfl ⟨rfl, rfl, rfl, rfl, rfl⟩ rfl rfl rfl rfl rfl (by kernel_rfl) Tryd.func3 (by kernel_rfl)
    (of_decide_eq_true (by kernel_rfl)) (by unfold Func.isWrapper; first | (rw [if_pos (by decide +kernel)]; kernel_rfl) | (rw [if_neg (by decide +kernel)]; exact ⟨rfl, rfl⟩))
    (fun os started H enc _ F => by rw [OpenClaim.pre_eq_preRow]; exact lifted os started H enc F)

theorem plain (f : FuncId) (fn : Func) (hf : Tryd.pinned.checked.prog.funcNamed "loop.example/g00460/laws.FnExactSymText" = some f) (hfn : Tryd.pinned.checked.prog.funcs[f]? = some fn) :
    false = Tryd.pinned.checked.prog.looks [] ∧ ∀ (j : Nat) t, fn.params[j]? = some t → Tryd.pinned.checked.prog.wantsStandIn t = false := by
  obtain rfl : f = 3 := Option.some.inj ((show Tryd.prog.funcNamed "loop.example/g00460/laws.FnExactSymText" = some 3 by kernel_rfl).symm.trans hf) |>.symm
  obtain rfl : fn = Tryd.f3 := (Option.some.inj (Tryd.func3.symm.trans hfn)).symm
  refine ⟨by kernel_rfl, fun j t ht => ?_⟩
  rw [Tryd.params3] at ht
  have h : t = 22 := by simpa using Array.mem_of_getElem? ht
  subst h
  exact (show Tryd.prog.wantsStandIn 22 = false by kernel_rfl)

theorem card : Rows.FnExactSymTextCardSaid :=
  Claim7.holds_tied_plain_at .later [] _ _ _ _ said (fun _ h => by cases h) (by kernel_rfl) (fun _ h => by cases h) fnExactSymText_row_tie rfl ⟨rfl, rfl⟩ (by kernel_rfl) rfl plain (by kernel_rfl)
end Go.Proofs.YtkcophgkkeakjaaDoor.fnExactSymText
namespace Go.Proofs.YtkcophgkkeakjaaDoor
theorem fnExactSymText_holds : Rows.FnExactSymTextCardSaid := fnExactSymText.card
end Go.Proofs.YtkcophgkkeakjaaDoor
