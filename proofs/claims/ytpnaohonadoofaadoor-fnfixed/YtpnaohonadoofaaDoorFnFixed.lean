/- For every code the law FnFixed answers true: of the drawn text, title and kind impl.Fixed answers as spec.Fixed does; what is fixed is as long as its size says, has a right header with its title and kind, is else as it was, and fixed again nothing changes; the code reads afterwards as it read before (strings.TrimRight is asked for one byte alone and comes to no table). -/
import Derived.Test.YtpnaohonadoofaaDoorCards
import Derived.Test.YtpnaohonadoofaaDoorTie
import Derived.WalkKit
import Derived.ProofKit
import Derived.OpenShut
import Derived.ShutString
import Derived.ChangeOld
import Derived.ChangeVars
import Derived.OpenVars
import Derived.Below
import Derived.Deep.DeepHandedRow
import Derived.Lib.LaidTab
import Derived.Test.YtpnaohonadoofaaDoorFixp
import Derived.Test.YtpnaohonadoofaaDoorFixs
import Derived.Test.YtpnaohonadoofaaDoorHedc
import Derived.Test.YtpnaohonadoofaaDoorDrawQ
import Derived.Deep.Cut
import Derived.BigQuiet
namespace Go.Proofs.YtpnaohonadoofaaDoor.fnFixed
open Go.ChangeShapes Go.WideShapes Go.ChangeAt Go.RowKit
open Go.ChangeMaps (open_string shut_string)
set_option linter.unusedVariables false

theorem own : ownKnob Tryd.prog.godebug = none := by kernel_rfl
theorem laidOut : laidOutB Tryd.prog = true := by kernel_rfl

/-- What the walk is told of a slice of bytes that came in: it is nil; or it leads to a row of cells, the numbers zs, each fitting its kind. -/
def IsRow (k : IntKind) (w : World) (a : Option Addr) (len cap : Nat) (zs : List Int) : Prop :=
  (a = none ∧ len = 0 ∧ cap = 0 ∧ zs = []) ∨
  ∃ x, a = some x ∧ len ≤ cap ∧ cap ≤ maxLen ∧ zs.length = cap ∧ (∀ i, i < zs.length → w.cell? (x.add i) = some (.int k (zs.getD i 0))) ∧ ∀ n ∈ zs, (Lit.int k n).wf = true

set_option maxRecDepth 20000
open Heda DrawQ
theorem toRow {k : IntKind} {w : World} {a : Option Addr} {len cap : Nat} {zs : List Int} (h : IsRow k w a len cap zs) : Rdr.IsRow k w a len cap zs := h
theorem after {a w w' : World} (h : Below a.heap.size a w) (k : Below w.heap.size w w') : Below a.heap.size a w' := h.trans (k.mono h.size)
theorem all_facts (s t : ByteArray) (k : Int) (h : Fixi.fixB s t k = true) : ∃ (F : ByteArray) (n sm wh : Int), Fixi.fixedV s t k = F ∧ s.size ≤ F.size ∧ F.size ≤ 4096 ∧ n * 256 = (F.size : Int) ∧ outH F = .returned (.tuple #[.agg #[.string t, .int .i64 k, .int .i64 n, .int .i64 sm, .int .i64 wh], .bool true]) ∧ Fixi.outV F t k = .tuple #[.string F, .bool true] ∧ ∀ i, i < s.size → i < 52 ∨ 80 ≤ i → Sums.byteAt F i = Sums.byteAt s i := by
  obtain ⟨h1, h2, h3, h4, h5, h6⟩ := Fixp.fixed_head s t k h
  obtain ⟨a1, a2⟩ := Fixp.fixed_again s t k h
  refine ⟨Fixi.fixedV s t k, Sums.banks (Fixi.fixedV s t k).size, Sums.byteAt (Fixi.fixedV s t k) 77, Sums.byteAt (Fixi.fixedV s t k) 78 * 256 + Sums.byteAt (Fixi.fixedV s t k) 79, rfl, h5, h6, h4, ?_, ?_, fun i hi ho => Fixp.fixed_else s t k h i hi ho⟩
  · unfold outH hdrV
    rw [h1, if_pos rfl, h2, h3]
  · unfold Fixi.outV
    rw [a1, if_pos rfl, a2]
theorem box5 {w w' : World} {vs : Array Value} {T : TypeId} (h : Below (w.alloc (.cells vs T)).heap.size (w.alloc (.cells vs T)) w') (i : Nat) (v : Value) (hv : vs[i]? = some v) : w'.cell? ⟨w.heap.size, i, none⟩ = some v := by
  rw [h.cell (p := ⟨w.heap.size, i, none⟩) (by simp), World.cell?_alloc_new]
  exact hv

set_option maxHeartbeats 2000000 in
theorem walk (w : World) (a0 : Option Addr) (len0 cap0 : Nat) (z0 : List Int) (w0 : IsRow .u8 w a0 len0 cap0 z0) :
    Calls Tryd.prog 3 #[.slice a0 len0 cap0] w fun e w' => e = .returned (.bool true) ∧ Below w.heap.size w w' := by
  have H : Hid (Rdr.IsRow .u8 w a0 len0 cap0 z0) := toRow w0
  clear w0
  have cb := Rdr.big_any a0 len0 cap0 w H.out.len
  by_cases hbig : Rdr.bigB len0 = true
  · rw [hbig] at cb
    go_enter Tryd.func3, Tryd.ntmps3
    go_wp2_with (go_at_call 5; refine cb.mono ?_; rintro e w' ⟨rfl, rfl⟩)
    go_ret
    exact ⟨rfl, Below.refl _ _⟩
  have hbig : Rdr.bigB len0 = false := by simpa using hbig
  rw [hbig] at cb
  go_enter Tryd.func3, Tryd.ntmps3
  go_wp2_with fail
  refine cb.mono ?_
  rintro e wa ⟨rfl, rfl⟩
  go_wp2_with fail
  refine (drawFixed_any _ _ _ _ _ H.out).mono ?_
  rintro e w1 ⟨⟨s, t, k, hs, ht, rfl⟩, b1⟩
  have B1 : Hid (Below wa.heap.size wa w1) := b1
  clear b1 H cb
  have ci := fun w => Fixi.implFixed_any s t k w (by unfold maxLen; omega) (by unfold maxLen; omega)
  have cs := fun w => Fixs.specFixed_any s t k w (by unfold maxLen; omega) (by unfold maxLen; omega)
  cases hfb : Fixi.fixB s t k with
  | false =>
    have e : Fixi.outV s t k = .tuple #[.string ⟨#[]⟩, .bool false] := by unfold Fixi.outV; rw [hfb]; rfl
    rw [e] at ci cs
    clear e hfb
    go_wp2_with fail
    refine (ci _).mono ?_
    rintro e w2 ⟨rfl, b2⟩
    have BW : Hid (Below wa.heap.size wa w2) := after B1.out b2
    clear b2 B1
    go_wp2_with fail
    refine (cs _).mono ?_
    rintro e w3 ⟨rfl, b3⟩
    have BW : Hid (Below wa.heap.size wa w3) := after BW.out b3
    clear b3
    go_wp2
    go_ret
    exact ⟨rfl, BW.out⟩
  | true =>
    obtain ⟨F, n, sm, wh, hF, f1, f2, f3, f4, f5, f6⟩ := all_facts s t k hfb
    have e : Fixi.outV s t k = .tuple #[.string F, .bool true] := by unfold Fixi.outV; rw [hfb, if_pos rfl, hF]
    rw [e] at ci cs
    have ch := fun w => Hedc.implHdr_any F w (by unfold maxLen; omega)
    rw [f4] at ch
    have ca := fun w => Fixi.implFixed_any F t k w (by unfold maxLen; omega) (by unfold maxLen; omega)
    rw [f5] at ca
    have HE : Hid (∀ i, i < s.size → i < 52 ∨ 80 ≤ i → Sums.byteAt F i = Sums.byteAt s i) := f6
    clear e hfb hF f4 f5 f6
    go_wp2_with fail
    refine (ci _).mono ?_
    rintro e w2 ⟨rfl, b2⟩
    have BW : Hid (Below wa.heap.size wa w2) := after B1.out b2
    clear b2 B1 ci
    go_wp2_with fail
    refine (cs _).mono ?_
    rintro e w3 ⟨rfl, b3⟩
    have BW : Hid (Below wa.heap.size wa w3) := after BW.out b3
    clear b3 cs
    go_wp2_with fail
    refine (ch _).mono ?_
    rintro e w4 ⟨rfl, b4⟩
    have BW : Hid (Below wa.heap.size wa w4) := after BW.out b4
    clear b4 ch
    go_wp2_with fail
    refine (ca _).mono ?_
    rintro e w5 ⟨rfl, b5⟩
    have BW : Hid (Below wa.heap.size wa w5) := after (BW.out.alloc BW.out.size _) b5
    have k0 := box5 b5 0 _ rfl
    have k1 := box5 b5 1 _ rfl
    have k2 := box5 b5 2 _ rfl
    clear b5 ca
    generalize w4.heap.size = HB at k0 k1 k2 ⊢
    go_wp2_with fail
    go_loopw [14] (fun i wr => ∃ j : Nat, j ≤ s.size ∧ i = .int .i64 j ∧ ∃ m : Nat, wr = w5.drewN m) (fun i _ => s.size - (intOf i).toNat)
    case atStart => exact ⟨0, Nat.zero_le _, rfl, 0, rfl⟩
    case round =>
    obtain ⟨j, hj, rfl, m, rfl⟩ := hrel
    by_cases hlt : j < s.size
    · have hlt' : (j : Int) < (s.size : Int) := by omega
      by_cases h1 : j < 52
      · have e1 := HE.out j hlt (.inl h1)
        have x1 := index_at F j (by omega)
        have x2 := index_at s j hlt
        rw [e1] at x1
        generalize Sums.byteAt s j = bj at x1 x2
        have h1' : (j : Int) < 52 := by omega
        have h1d : decide ((j : Int) < 52) = true := decide_eq_true h1'
        go_wp2_with fail
        go_quiet (fail)
        go_wp2
        go_roundw
        case rel => exact ⟨j + 1, by omega, by go_num, _, rfl⟩
        case measure => simp [intOf]; omega
      by_cases h2 : 80 ≤ j
      · have e1 := HE.out j hlt (.inr h2)
        have x1 := index_at F j (by omega)
        have x2 := index_at s j hlt
        rw [e1] at x1
        generalize Sums.byteAt s j = bj at x1 x2
        have h1' : ¬ (j : Int) < 52 := by omega
        have h1d : decide ((j : Int) < 52) = false := decide_eq_false h1'
        have h2' : (80 : Int) ≤ (j : Int) := by omega
        have h2d : decide ((80 : Int) ≤ (j : Int)) = true := decide_eq_true h2'
        go_wp2_with fail
        go_quiet (fail)
        go_wp2
        go_roundw
        case rel => exact ⟨j + 1, by omega, by go_num, _, rfl⟩
        case measure => simp [intOf]; omega
      · have h1' : ¬ (j : Int) < 52 := by omega
        have h1d : decide ((j : Int) < 52) = false := decide_eq_false h1'
        have h2' : ¬ (80 : Int) ≤ (j : Int) := by omega
        have h2d : decide ((80 : Int) ≤ (j : Int)) = false := decide_eq_false h2'
        go_wp2_with fail
        go_quiet (fail)
        go_wp2
        go_roundw
        case rel => exact ⟨j + 1, by omega, by go_num, _, rfl⟩
        case measure => simp [intOf]; omega
    have hlt' : ¬ (j : Int) < (s.size : Int) := by omega
    have f1' : (s.size : Int) ≤ (F.size : Int) := by omega
    have hn256 : IntKind.i64.wrap (n * 256) = n * 256 := by rw [IntKind.wrap_i64]; omega
    have hne : (n * 256 == (F.size : Int)) = true := by simpa using f3
    have hge : decide ((s.size : Int) ≤ (F.size : Int)) = true := decide_eq_true f1'
    go_wp2
    go_ret
    exact ⟨by first | rfl | simp, drewN_below BW.out _⟩

set_option maxRecDepth 100000 in
theorem contract (H : Type) (enc : TypeId × Value → H) (W : World) (base : Nat) (args : Array Value) (ds gs : List (DataW H)) (before : List MemPlace)
    (hval : ∀ (j : Nat) t v, Tryd.f3.params[j]? = some t → args[j]? = some v → Value.okWide Tryd.prog W .any base t v)
    (hW : DataW.Whole enc Tryd.prog Tryd.f3.params.toList Rows.fnFixedSpec.vars false W args.toList ds gs before) (hL : laidMetH Tryd.prog Rows.fnFixedRow.laid W) :
    Calls Tryd.prog 3 args W fun e W' => ∃ v, e = .returned v ∧ Rows.fnFixedSpec.post enc Tryd.prog Tryd.f3 false true false false W args v W' := by
  have hW' := hW
  obtain ⟨p, q, hA0, hV, hbef, hfz, hnd⟩ := hW
  have hA : DataW.TrodAll enc Tryd.prog W 0 (fun _ => true) true Tryd.f3.params.toList args.toList ds p := hA0
  rw [Tryd.params3] at hA hval
  obtain ⟨v0, vs0, d0, ds0, p0, q0, hargs, rfl, rfl, h0, r0⟩ := trodAll_cons hA
  obtain ⟨rfl, rfl, rfl⟩ := trodAll_nil r0
  obtain rfl : args = #[v0] := by cases args; simp_all
  obtain ⟨rfl, rfl⟩ := trodVars_none hV
  obtain ⟨a0, len0, cap0, rfl⟩ := okWide_slice Tryd.underlying22 (hval 0 22 v0 rfl rfl)
  have k0 := h0
  have lt0 : ∀ x ∈ p0, x.block < W.heap.size := by obtain ⟨m, hm⟩ := k0; exact DataW.trod_lt m _ _ _ hm
  obtain ⟨z0, w0⟩ : ∃ zs, IsRow .u8 W a0 len0 cap0 zs := by
    obtain ⟨fuel, hf⟩ := h0
    rcases open_ints Tryd.underlying22 Tryd.underlying5 (by kernel_rfl) hf with ⟨hcs, _⟩ | ⟨x, l, c, zs, hcs, _, hl, hm, hz, _, hcell, hwz⟩
    · simp [Value.cells] at hcs
      obtain ⟨rfl, rfl, rfl⟩ := hcs
      exact ⟨[], .inl ⟨rfl, rfl, rfl, rfl⟩⟩
    · simp [Value.cells] at hcs
      obtain ⟨rfl, rfl, rfl⟩ := hcs
      exact ⟨zs, .inr ⟨_, rfl, hl, hm, by simpa using hz, hcell, hwz⟩⟩
  clear hA0
  refine (walk W a0 len0 cap0 z0 w0).mono fun e W' ⟨he, bel⟩ => ?_
  subst he
  exact ⟨_, rfl, _, _, _, [], _, [], hW', trodAll_mk1 (shut_bool Tryd.underlying4 _), (trodAll_cons_mk (Below.trod laidOut (by kernel_rfl) (of_decide_eq_true (by kernel_rfl)) k0 bel lt0) trodAll_mk0), rfl, bel.frame _, fun h => by cases h⟩

/-- A world for the witness: the settled one, the table holding what its initialiser lays. -/
noncomputable def laidWorld (os : Os) : World :=
  { World.holding Tryd.prog os ⟨#[], #[], []⟩ with heap := (fun h => h.modify 1 fun | .cells _ t frozen => .cells #[.int .u8 128, .int .u8 191, .int .u8 160, .int .u8 191, .int .u8 128, .int .u8 159, .int .u8 144, .int .u8 191, .int .u8 128, .int .u8 143, .int .u8 0, .int .u8 0, .int .u8 0, .int .u8 0, .int .u8 0, .int .u8 0, .int .u8 0, .int .u8 0, .int .u8 0, .int .u8 0, .int .u8 0, .int .u8 0, .int .u8 0, .int .u8 0, .int .u8 0, .int .u8 0, .int .u8 0, .int .u8 0, .int .u8 0, .int .u8 0, .int .u8 0, .int .u8 0] t frozen | o => o) <| (fun h => h.modify 0 fun | .cells _ t frozen => .cells ((Go.Pinned.utf8FirstZ).map fun n => Value.int .u8 (n : Nat)).toArray t frozen | o => o) <| (World.holding Tryd.prog os ⟨#[], #[], []⟩).heap }
theorem laid_met (os : Os) : laidMet Tryd.prog Rows.fnFixedRow.laid ((laidWorld os).forCall (fun _ _ => 0) ⟨#[], #[.slice none 0 0], []⟩).memory :=
  laidMet_of_run' 8 (by kernel_rfl) (by kernel_rfl)
theorem reads (os : Os) {H : Type} (enc : TypeId × Value → H) : ∃ places, DataW.whole enc Tryd.prog ((laidWorld os).forCall (fun _ _ => 0) ⟨#[], #[.slice none 0 0], []⟩).memory Tryd.f3.params.toList Rows.fnFixedSpec.vars false [.slice none 0 0] 8 = some ([.nil], [], places) :=
  ⟨[], by kernel_rfl⟩

set_option maxRecDepth 100000 in
theorem lifted (os : Os) (started : os.Started) (H : Type) (enc : TypeId × Value → H) (F : Stop.Interp) :
    ReturnsInHanded {} Tryd.checked os 3 .any ((OpenSpec.ofChange Rows.fnFixedSpec).preRow enc Tryd.prog Tryd.f3 Rows.fnFixedRow.domain false Rows.fnFixedRow.laid) (((OpenSpec.ofChange Rows.fnFixedSpec).at F).post enc Tryd.prog Tryd.f3 false true false false) := by
  obtain ⟨places, hx⟩ := reads os enc
  refine returnsInHanded_of_row (C := Tryd.checked) (s := OpenSpec.ofChange Rows.fnFixedSpec) own started (by kernel_rfl) Tryd.func3
    (witness_row_at (enc := enc) (C := Tryd.checked) false (laidWorld os) #[.slice none 0 0] rfl (by kernel_rfl) (by kernel_rfl) (by kernel_rfl)
      (OpenSpec.preRow_of_cond 8 hx (by kernel_rfl) (fun k hk => by cases hk) (by kernel_rfl) (laid_met os))) ?_
  intro W base args ds gs before hval hW _ _ _ hL _ _
  exact contract H enc W base args ds gs before hval hW hL

theorem said : Rows.FnFixedSaid :=
  OpenClaim.holds_of_cond 3 Tryd.f3 rfl rfl rfl rfl rfl rfl rfl ⟨rfl, rfl, rfl, rfl, rfl⟩ rfl rfl rfl rfl rfl (by kernel_rfl) Tryd.func3 (by kernel_rfl)
    (of_decide_eq_true (by kernel_rfl)) (by unfold Func.isWrapper; first | (rw [if_pos (by decide +kernel)]; kernel_rfl) | (rw [if_neg (by decide +kernel)]; exact ⟨rfl, rfl⟩))
    (fun os started H enc _ F => by rw [OpenClaim.pre_eq_preRow]; exact lifted os started H enc F)

theorem plain (f : FuncId) (fn : Func) (hf : Tryd.pinned.checked.prog.funcNamed "loop.example/g00460/laws.FnFixed" = some f) (hfn : Tryd.pinned.checked.prog.funcs[f]? = some fn) :
    false = Tryd.pinned.checked.prog.looks [] ∧ ∀ (j : Nat) t, fn.params[j]? = some t → Tryd.pinned.checked.prog.wantsStandIn t = false := by
  obtain rfl : f = 3 := Option.some.inj ((show Tryd.prog.funcNamed "loop.example/g00460/laws.FnFixed" = some 3 by kernel_rfl).symm.trans hf) |>.symm
  obtain rfl : fn = Tryd.f3 := (Option.some.inj (Tryd.func3.symm.trans hfn)).symm
  refine ⟨by kernel_rfl, fun j t ht => ?_⟩
  rw [Tryd.params3] at ht
  have h : t = 22 := by simpa using Array.mem_of_getElem? ht
  subst h
  exact (show Tryd.prog.wantsStandIn 22 = false by kernel_rfl)

theorem card : Rows.FnFixedCardSaid :=
  Claim7.holds_tied_plain_at .later [] _ _ _ _ said (fun _ h => by cases h) (by kernel_rfl) (fun _ h => by cases h) fnFixed_row_tie rfl ⟨rfl, rfl⟩ (by kernel_rfl) rfl plain (by kernel_rfl)
end Go.Proofs.YtpnaohonadoofaaDoor.fnFixed
namespace Go.Proofs.YtpnaohonadoofaaDoor
theorem fnFixed_holds : Rows.FnFixedCardSaid := fnFixed.card
end Go.Proofs.YtpnaohonadoofaaDoor
