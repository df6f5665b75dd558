/- For every list of nodes the law FnExactExprText answers true, that is, impl.ExprText answers as spec.ExprText does and writes into no node; the nodes read afterwards as they read before; the table of the ops' words and the library's table of powers of ten hold what their initialisers lay when the call begins (tied to the program's text by the card). -/
import Derived.Test.YtlbcilbfalkobaaDoorCards
import Derived.Test.YtlbcilbfalkobaaDoorTie
import Derived.WalkKit
import Derived.ProofKit
import Derived.OpenShut
import Derived.ShutString
import Derived.ChangeOld
import Derived.ChangeVars
import Derived.OpenVars
import Derived.Below
import Derived.Deep.DeepHandedRow
import Derived.Lib.LaidTab
import Derived.Test.YtlbcilbfalkobaaDoorExts
import Derived.Test.YtlbcilbfalkobaaDoorMirror
import Derived.Test.YtlbcilbfalkobaaDoorLaid
namespace Go.Proofs.YtlbcilbfalkobaaDoor.fnExactExprText
open Go.ChangeShapes Go.WideShapes Go.ChangeAt Go.RowKit
open Go.ChangeMaps (open_string shut_string)
set_option linter.unusedVariables false

theorem own : ownKnob Tryd.prog.godebug = none := by kernel_rfl
theorem laidOut : laidOutB Tryd.prog = true := by kernel_rfl
theorem rowed : varsRowed Tryd.prog Rows.fnExactExprTextSpec.vars = true := by kernel_rfl

theorem tables {W : World} (h : laidMetH Tryd.prog Rows.fnExactExprTextRow.laid W) : Optx.OpTab W ∧ Optx.Pow W := by
  obtain ⟨q0, L0, _⟩ : laidMet Tryd.prog Rows.fnExactExprTextRow.laid W := h
  obtain ⟨q1, L1⟩ := Laid.skip L0
  obtain ⟨q2, L2⟩ := Laid.skip L1
  have tp := Laid.tab (P := Tryd.prog) (k := .u64) (zs := Lib.pow10Tab) (show Tryd.prog.globalNamed "internal/strconv.uint64pow10" = some 1 by kernel_rfl) (show (Tryd.prog.globals[1]?).map (·.type) = some 107 by kernel_rfl) Tryd.underlying107 Tryd.underlying92 (by kernel_rfl) (by kernel_rfl) L2
  obtain ⟨q3, L3⟩ := Laid.skip L2
  have t3 := Laid.txts (P := Tryd.prog) (l := [[110, 101, 103], [110, 111, 116], [104, 105, 103, 104], [108, 111, 119], [43], [45], [42], [47], [37], [38], [94], [124], [60, 60], [62, 62]]) (show Tryd.prog.globalNamed "loop.example/g00460/impl.opTexts" = some 0 by kernel_rfl) (show (Tryd.prog.globals[0]?).map (·.type) = some 69 by kernel_rfl) Tryd.underlying69 Tryd.underlying9 (by kernel_rfl) (by kernel_rfl) L3
  obtain ⟨q4, L4⟩ := Laid.skip L3
  exact ⟨fun i hi => (t3 i hi).trans (by match i, hi with | 0, _ => rfl | 1, _ => rfl | 2, _ => rfl | 3, _ => rfl | 4, _ => rfl | 5, _ => rfl | 6, _ => rfl | 7, _ => rfl | 8, _ => rfl | 9, _ => rfl | 10, _ => rfl | 11, _ => rfl | 12, _ => rfl | 13, _ => rfl), tp⟩
open Go.Proofs.YtlbcilbfalkobaaDoor.Stepx (Nodes)

set_option maxHeartbeats 2000000 in
theorem walk (w : World) (a0 : Option Addr) (cap0 : Nat) (L0 : List Stepx.Node) (w0 : Stepx.Nodes w a0 L0) (l0 : L0.length ≤ maxLen) (hT : Optx.OpTab w ∧ Optx.Pow w) :
    Calls Tryd.prog 3 #[.slice a0 L0.length cap0] w fun e w' => e = .returned (.bool true) ∧ Below w.heap.size w w' := by
  have HT : Hid (Optx.OpTab w ∧ Optx.Pow w) := hT
  clear hT
  have H : Hid (Nodes w a0 L0) := w0
  clear w0
  go_enter Tryd.func3, Tryd.ntmps3
  go_wp2_with fail
  refine (Mirror.szENodeS_any _ _ _ _ H.out l0).mono ?_
  rintro e w1 ⟨⟨x, rfl, hx⟩, hb1⟩
  rcases hx with hx | ⟨hx, hlen⟩
  · go_wp2
    go_ret
    exact ⟨rfl, hb1⟩
  have H1 : Hid (Nodes w1 a0 L0) := Mirror.Nodes.below H.out hb1
  have B1 : Hid (Below w.heap.size w w1) := hb1
  clear hb1 H l0
  have cs := fun a cap w hN => Exts.specText_any a cap L0 w hN hlen
  have ci := fun a cap w hN hT hP => Extx.implText_any a cap L0 w hN hlen hT hP
  generalize Extx.exprT L0 = R at cs ci
  go_wp2_with fail
  refine (Mirror.toENodeS_any _ _ _ _ H1.out hlen).mono ?_
  rintro e w2 ⟨⟨c2, rfl, hN2⟩, hb2⟩
  have H2 : Hid (Nodes w2 a0 L0) := Mirror.Nodes.below H1.out hb2
  have N2 : Hid (Nodes w2 (some ⟨w1.heap.size, 0, none⟩) L0) := hN2
  have B2 : Hid (Below w.heap.size w w2) := B1.out.trans (hb2.mono B1.out.size)
  clear hb2 hN2 H1 B1
  go_wp2_with fail
  refine (cs _ _ _ N2.out).mono ?_
  rintro e w3 ⟨rfl, hb3⟩
  have H3 : Hid (Nodes w3 a0 L0) := Mirror.Nodes.below H2.out hb3
  have B3 : Hid (Below w.heap.size w w3) := B2.out.trans (hb3.mono B2.out.size)
  clear hb3 H2 B2 N2
  go_wp2_with fail
  refine (Mirror.toENodeS_any _ _ _ _ H3.out hlen).mono ?_
  rintro e w4 ⟨⟨c4, rfl, hN4⟩, hb4⟩
  have H4 : Hid (Nodes w4 a0 L0) := Mirror.Nodes.below H3.out hb4
  have N4 : Hid (Nodes w4 (some ⟨w3.heap.size, 0, none⟩) L0) := hN4
  have B4 : Hid (Below w.heap.size w w4) := B3.out.trans (hb4.mono B3.out.size)
  clear hb4 hN4 H3 B3
  go_wp2_with fail
  refine (ci _ _ _ N4.out (HT.out.1.below B4.out) (HT.out.2.below B4.out)).mono ?_
  rintro e w5 ⟨rfl, hb5⟩
  have H5 : Hid (Nodes w5 a0 L0) := Mirror.Nodes.below H4.out hb5
  have N5 : Hid (Nodes w5 (some ⟨w3.heap.size, 0, none⟩) L0) := Mirror.Nodes.below N4.out hb5
  have B5 : Hid (Below w.heap.size w w5) := B4.out.trans (hb5.mono B4.out.size)
  clear hb5 H4 N4 B4
  go_wp2_with fail
  refine (Mirror.toENodeS_any _ _ _ _ H5.out hlen).mono ?_
  rintro e w6 ⟨⟨c6, rfl, hN6⟩, hb6⟩
  have N6 : Hid (Nodes w6 (some ⟨w3.heap.size, 0, none⟩) L0) := Mirror.Nodes.below N5.out hb6
  have B6 : Hid (Below w.heap.size w w6) := B5.out.trans (hb6.mono B5.out.size)
  clear hb6 H5 N5 B5
  go_wp2_with fail
  refine (Mirror.eqENodeS_any _ _ _ _ _ _ N6.out hN6 hlen).mono ?_
  rintro e w7 ⟨rfl, hb7⟩
  go_wp2
  go_ret
  exact ⟨rfl, B6.out.trans (hb7.mono B6.out.size)⟩

set_option maxRecDepth 100000 in
theorem contract (H : Type) (enc : TypeId × Value → H) (W : World) (base : Nat) (args : Array Value) (ds gs : List (DataW H)) (before : List MemPlace)
    (hval : ∀ (j : Nat) t v, Tryd.f3.params[j]? = some t → args[j]? = some v → Value.okWide Tryd.prog W .any base t v)
    (hW : DataW.Whole enc Tryd.prog Tryd.f3.params.toList Rows.fnExactExprTextSpec.vars false W args.toList ds gs before) (hL : laidMetH Tryd.prog Rows.fnExactExprTextRow.laid W) :
    Calls Tryd.prog 3 args W fun e W' => ∃ v, e = .returned v ∧ Rows.fnExactExprTextSpec.post enc Tryd.prog Tryd.f3 false true false false W args v W' := by
  have hW' := hW
  obtain ⟨p, q, hA0, hV, hbef, hfz, hnd⟩ := hW
  have hA : DataW.TrodAll enc Tryd.prog W 0 (fun _ => true) true Tryd.f3.params.toList args.toList ds p := hA0
  have hVk : DataW.TrodVars enc Tryd.prog W (fun _ => true) Rows.fnExactExprTextSpec.vars gs q := hV
  rw [Tryd.params3] at hA hval
  obtain ⟨v0, vs0, d0, ds0, p0, q0, hargs, rfl, rfl, h0, r0⟩ := trodAll_cons hA
  obtain ⟨rfl, rfl, rfl⟩ := trodAll_nil r0
  obtain rfl : args = #[v0] := by cases args; simp_all
  obtain ⟨g1, rfl⟩ : ∃ g1, gs = [g1] := by
    have hl := Laid.vars_len hVk
    match gs, hl with
    | [g1], _ => exact ⟨_, rfl⟩
  obtain ⟨a0, len0, cap0, rfl⟩ := okWide_slice Tryd.underlying22 (hval 0 22 v0 rfl rfl)
  have k0 := h0
  have lt0 : ∀ x ∈ p0, x.block < W.heap.size := by obtain ⟨m, hm⟩ := k0; exact DataW.trod_lt m _ _ _ hm
  obtain ⟨L0, e0, l0, w0⟩ : ∃ L : List Stepx.Node, L.length = len0 ∧ L.length ≤ maxLen ∧ Stepx.Nodes W a0 L := by
    obtain ⟨fuel, hf⟩ := h0
    obtain ⟨a, len, cap, L, hcs, h1, h2, h3⟩ := Mirror.nodes_of hf
    simp [Value.cells] at hcs
    obtain ⟨rfl, rfl, rfl⟩ := hcs
    exact ⟨L, h1, by rw [h1]; exact h2, h3⟩
  subst e0
  clear hA0
  refine (walk W a0 cap0 L0 w0 l0 (tables hL)).mono fun e W' ⟨he, bel⟩ => ?_
  subst he
  exact ⟨_, rfl, _, _, _, [], _, q, hW', trodAll_mk1 (shut_bool Tryd.underlying4 _), (trodAll_cons_mk (Below.trod laidOut (by kernel_rfl) (of_decide_eq_true (by kernel_rfl)) k0 bel lt0) trodAll_mk0), Below.trodVars laidOut bel rowed hVk, bel.frame _, fun h => by cases h⟩

/-- A world for the witness: the settled one, the table holding what its initialiser lays. -/
noncomputable def laidWorld (os : Os) : World :=
  { World.holding Tryd.prog os ⟨#[], #[], []⟩ with heap := (fun h => h.modify 6 fun | .cells _ t frozen => .cells #[.int .u8 0, .int .u8 1, .int .u8 28, .int .u8 2, .int .u8 29, .int .u8 14, .int .u8 24, .int .u8 3, .int .u8 30, .int .u8 22, .int .u8 20, .int .u8 15, .int .u8 25, .int .u8 17, .int .u8 4, .int .u8 8, .int .u8 31, .int .u8 27, .int .u8 13, .int .u8 23, .int .u8 21, .int .u8 19, .int .u8 16, .int .u8 7, .int .u8 26, .int .u8 12, .int .u8 18, .int .u8 6, .int .u8 11, .int .u8 5, .int .u8 10, .int .u8 9] t frozen | o => o) <| (fun h => h.modify 7 fun | .cells _ t frozen => .cells #[.int .u8 0, .int .u8 1, .int .u8 56, .int .u8 2, .int .u8 57, .int .u8 49, .int .u8 28, .int .u8 3, .int .u8 61, .int .u8 58, .int .u8 42, .int .u8 50, .int .u8 38, .int .u8 29, .int .u8 17, .int .u8 4, .int .u8 62, .int .u8 47, .int .u8 59, .int .u8 36, .int .u8 45, .int .u8 43, .int .u8 51, .int .u8 22, .int .u8 53, .int .u8 39, .int .u8 33, .int .u8 30, .int .u8 24, .int .u8 18, .int .u8 12, .int .u8 5, .int .u8 63, .int .u8 55, .int .u8 48, .int .u8 27, .int .u8 60, .int .u8 41, .int .u8 37, .int .u8 16, .int .u8 46, .int .u8 35, .int .u8 44, .int .u8 21, .int .u8 52, .int .u8 32, .int .u8 23, .int .u8 11, .int .u8 54, .int .u8 26, .int .u8 40, .int .u8 15, .int .u8 34, .int .u8 20, .int .u8 31, .int .u8 10, .int .u8 25, .int .u8 14, .int .u8 19, .int .u8 9, .int .u8 13, .int .u8 8, .int .u8 7, .int .u8 6] t frozen | o => o) <| (fun h => h.modify 1 fun | .cells _ t frozen => .cells #[.int .u64 1, .int .u64 10, .int .u64 100, .int .u64 1000, .int .u64 10000, .int .u64 100000, .int .u64 1000000, .int .u64 10000000, .int .u64 100000000, .int .u64 1000000000, .int .u64 10000000000, .int .u64 100000000000, .int .u64 1000000000000, .int .u64 10000000000000, .int .u64 100000000000000, .int .u64 1000000000000000, .int .u64 10000000000000000, .int .u64 100000000000000000, .int .u64 1000000000000000000, .int .u64 10000000000000000000] t frozen | o => o) <| (fun h => h.modify 0 fun | .cells _ t frozen => .cells #[.string ⟨#[110, 101, 103]⟩, .string ⟨#[110, 111, 116]⟩, .string ⟨#[104, 105, 103, 104]⟩, .string ⟨#[108, 111, 119]⟩, .string ⟨#[43]⟩, .string ⟨#[45]⟩, .string ⟨#[42]⟩, .string ⟨#[47]⟩, .string ⟨#[37]⟩, .string ⟨#[38]⟩, .string ⟨#[94]⟩, .string ⟨#[124]⟩, .string ⟨#[60, 60]⟩, .string ⟨#[62, 62]⟩] t frozen | o => o) <| (World.holding Tryd.prog os ⟨#[], #[], []⟩).heap }
theorem laid_met (os : Os) : laidMet Tryd.prog Rows.fnExactExprTextRow.laid ((laidWorld os).forCall (fun _ _ => 0) ⟨#[], #[.slice none 0 0], []⟩).memory :=
  laidMet_of_run' 8 (by kernel_rfl) (by kernel_rfl)
theorem reads (os : Os) {H : Type} (enc : TypeId × Value → H) : ∃ places, DataW.whole enc Tryd.prog ((laidWorld os).forCall (fun _ _ => 0) ⟨#[], #[.slice none 0 0], []⟩).memory Tryd.f3.params.toList Rows.fnExactExprTextSpec.vars false [.slice none 0 0] 8 = some ([.nil], [.agg [.lit (.string [110, 101, 103]), .lit (.string [110, 111, 116]), .lit (.string [104, 105, 103, 104]), .lit (.string [108, 111, 119]), .lit (.string [43]), .lit (.string [45]), .lit (.string [42]), .lit (.string [47]), .lit (.string [37]), .lit (.string [38]), .lit (.string [94]), .lit (.string [124]), .lit (.string [60, 60]), .lit (.string [62, 62])]], places) :=
  ⟨MemPlace.row ⟨0, 0, none⟩ 14, by kernel_rfl⟩

set_option maxRecDepth 100000 in
theorem lifted (os : Os) (started : os.Started) (H : Type) (enc : TypeId × Value → H) (F : Stop.Interp) :
    ReturnsInHanded {} Tryd.checked os 3 .any ((OpenSpec.ofChange Rows.fnExactExprTextSpec).preRow enc Tryd.prog Tryd.f3 Rows.fnExactExprTextRow.domain false Rows.fnExactExprTextRow.laid) (((OpenSpec.ofChange Rows.fnExactExprTextSpec).at F).post enc Tryd.prog Tryd.f3 false true false false) := by
  obtain ⟨places, hx⟩ := reads os enc
  refine returnsInHanded_of_row (C := Tryd.checked) (s := OpenSpec.ofChange Rows.fnExactExprTextSpec) own started (by kernel_rfl) Tryd.func3
    (witness_row_at (enc := enc) (C := Tryd.checked) false (laidWorld os) #[.slice none 0 0] rfl (by kernel_rfl) (by kernel_rfl) (by kernel_rfl)
      (OpenSpec.preRow_of_cond 8 hx (by kernel_rfl) (fun k hk => by cases hk) (by kernel_rfl) (laid_met os))) ?_
  intro W base args ds gs before hval hW _ _ _ hL _ _
  exact contract H enc W base args ds gs before hval hW hL

theorem said : Rows.FnExactExprTextSaid :=
  OpenClaim.holds_of_cond 3 Tryd.f3 rfl rfl rfl rfl rfl rfl rfl ⟨rfl, rfl, rfl, rfl, rfl⟩ rfl rfl rfl rfl rfl (by kernel_rfl) Tryd.func3 (by kernel_rfl)
    (of_decide_eq_true (by kernel_rfl)) (by unfold Func.isWrapper; first | (rw [if_pos (by decide +kernel)]; kernel_rfl) | (rw [if_neg (by decide +kernel)]; exact ⟨rfl, rfl⟩))
    (fun os started H enc _ F => by rw [OpenClaim.pre_eq_preRow]; exact lifted os started H enc F)

theorem plain (f : FuncId) (fn : Func) (hf : Tryd.pinned.checked.prog.funcNamed "loop.example/g00460/laws.FnExactExprText" = some f) (hfn : Tryd.pinned.checked.prog.funcs[f]? = some fn) :
    true = Tryd.pinned.checked.prog.looks [] ∧ ∀ (j : Nat) t, fn.params[j]? = some t → Tryd.pinned.checked.prog.wantsStandIn t = false := by
  obtain rfl : f = 3 := Option.some.inj ((show Tryd.prog.funcNamed "loop.example/g00460/laws.FnExactExprText" = some 3 by kernel_rfl).symm.trans hf) |>.symm
  obtain rfl : fn = Tryd.f3 := (Option.some.inj (Tryd.func3.symm.trans hfn)).symm
  refine ⟨by kernel_rfl, fun j t ht => ?_⟩
  rw [Tryd.params3] at ht
  have h : t = 22 := by simpa using Array.mem_of_getElem? ht
  subst h
  exact (show Tryd.prog.wantsStandIn 22 = false by kernel_rfl)

theorem card : Rows.FnExactExprTextCardSaid :=
  Claim7.holds_tied_plain_at .later [] _ _ _ _ said (fun _ h => by cases h) (by kernel_rfl) (fun _ h => by cases h) fnExactExprText_row_tie rfl ⟨rfl, rfl⟩ (by kernel_rfl) rfl plain (by kernel_rfl)
end Go.Proofs.YtlbcilbfalkobaaDoor.fnExactExprText
namespace Go.Proofs.YtlbcilbfalkobaaDoor
theorem fnExactExprText_holds : Rows.FnExactExprTextCardSaid := fnExactExprText.card
end Go.Proofs.YtlbcilbfalkobaaDoor
