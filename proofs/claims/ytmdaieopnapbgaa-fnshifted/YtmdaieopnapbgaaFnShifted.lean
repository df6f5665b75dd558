/- For every code the law FnShifted answers true: of the drawn byte and flags a shift to the left by impl.Turned doubles, one to the right halves, with the sign or without, and the halves swapped twice are what they were; the code reads afterwards as it read before; no condition. -/
import Derived.Test.YtmdaieopnapbgaaRows
import Derived.WalkKit
import Derived.ProofKit
import Derived.OpenShut
import Derived.ShutString
import Derived.ChangeOld
import Derived.Below
import Derived.Test.YtmdaieopnapbgaaAlus
import Derived.Test.YtmdaieopnapbgaaTurnI
namespace Go.Proofs.Ytmdaieopnapbgaa.fnShifted
open Go.ChangeShapes Go.WideShapes Go.ChangeAt Go.RowKit
open Go.ChangeMaps (open_string shut_string)
set_option linter.unusedVariables false

theorem own : ownKnob Try.prog.godebug = none := by kernel_rfl
theorem laidOut : laidOutB Try.prog = true := by kernel_rfl

/-- WHAT THE WALK IS TOLD OF A SLICE OF INTEGERS THAT CAME IN: it is nil; or it leads to a row of 'cap' cells, the numbers 'zs' (the first 'len' are its elements, the rest its spare room), each fitting its kind. -/
def IsRow (k : IntKind) (w : World) (a : Option Addr) (len cap : Nat) (zs : List Int) : Prop :=
  (a = none ∧ len = 0 ∧ cap = 0 ∧ zs = []) ∨
  ∃ x, a = some x ∧ len ≤ cap ∧ cap ≤ maxLen ∧ zs.length = cap ∧ (∀ i, i < zs.length → w.cell? (x.add i) = some (.int k (zs.getD i 0))) ∧ ∀ n ∈ zs, (Lit.int k n).wf = true

open Reck ReckS ReckM TurnS Alus
theorem trn_in {op v f : Int} (o0 : 0 ≤ op) (o1 : op ≤ 7) (v0 : 0 ≤ v) (v1 : v ≤ 255) (f0 : 0 ≤ f) (f1 : f ≤ 255) : trn op v f = trnR op v f := by
  unfold trn
  rw [show Signed.inB op 0 7 = true from decide_eq_true ⟨o0, o1⟩, show Signed.inB v 0 255 = true from decide_eq_true ⟨v0, v1⟩, show Signed.inB f 0 255 = true from decide_eq_true ⟨f0, f1⟩]; rfl
theorem trn_facts {op v f : Int} (o0 : 0 ≤ op) (o1 : op ≤ 7) (v0 : 0 ≤ v) (v1 : v ≤ 255) (f0 : 0 ≤ f) (f1 : f ≤ 255) :
    (trn op v f).1 = (trnP op v (cy f)).1 ∧ 0 ≤ (trn op v f).2 ∧ (trn op v f).2 ≤ 255 ∧ (trn op v f).2 / 16 % 2 = one (decide ((trnP op v (cy f)).2 = 1)) ∧ (trn op v f).2 / 16 * 16 = (trn op v f).2 := by
  rw [trn_in o0 o1 v0 v1 f0 f1]
  obtain ⟨p0, p1, p2, p3, p4, p5, p6, p7⟩ := fl_facts (decide ((trnP op v (cy f)).1 = 0)) false false (decide ((trnP op v (cy f)).2 = 1))
  exact ⟨rfl, p0, p1, p2, p7⟩
theorem shift_facts {v f : Int} (v0 : 0 ≤ v) (v1 : v ≤ 255) (f0 : 0 ≤ f) (f1 : f ≤ 255) :
    (trn 4 v f).1 = v * 2 % 256 ∧ (trn 4 v f).2 / 16 % 2 = v / 128 ∧ (trn 5 v f).1 = v / 2 + 128 * (v / 128) ∧ (trn 7 v f).1 = v / 2 ∧ (trn 7 v f).2 / 16 % 2 = v % 2 ∧ (trn 6 v f).1 = v % 16 * 16 + v / 16 := by
  obtain ⟨a1, -, -, a2, -⟩ := trn_facts (op := 4) (by decide) (by decide) v0 v1 f0 f1
  obtain ⟨b1, -⟩ := trn_facts (op := 5) (by decide) (by decide) v0 v1 f0 f1
  obtain ⟨c1, -, -, c2, -⟩ := trn_facts (op := 7) (by decide) (by decide) v0 v1 f0 f1
  obtain ⟨d1, -⟩ := trn_facts (op := 6) (by decide) (by decide) v0 v1 f0 f1
  refine ⟨a1, ?_, b1, c1, ?_, d1⟩
  · rw [a2]; show one (decide (v / 128 = 1)) = _; have := one_dec (v / 128 = 1); omega
  · rw [c2]; show one (decide (v % 2 = 1)) = _; have := one_dec (v % 2 = 1); omega
theorem toRow {k : IntKind} {w : World} {a : Option Addr} {len cap : Nat} {zs : List Int} (h : IsRow k w a len cap zs) : Rdr.IsRow k w a len cap zs := h
/-! ### STEP 1: THE WALK: the Go text returns true, AND WRITES NOTHING THAT WAS THERE: 'Below w.heap.size w w'' (Derived/Below.lean: '.refl', '.alloc', '.drew', '.setCell' at a new block, '.trans'). Open each 'IsRow' by 'rcases' AHEAD of 'go_enter'; part every test ahead of the walk. -/
theorem walk (a0 : Option Addr) (len0 cap0 : Nat) (z0 : List Int) (w : World) (w0 : IsRow .u8 w a0 len0 cap0 z0) :
    Calls Try.prog 8 #[.slice a0 len0 cap0] w fun e w' => e = .returned (.bool true) ∧ Below w.heap.size w w' := by
  have H : Hid (Rdr.IsRow .u8 w a0 len0 cap0 z0) := toRow w0
  clear w0
  have cb := Rdr.big_any a0 len0 cap0 w H.out.len
  by_cases hbig : Rdr.bigB len0 = true
  · rw [hbig] at cb
    go_enter Try.func8, Try.ntmps8
    go_wp2_with (go_at_call 11; refine cb.mono ?_; rintro e w' ⟨rfl, rfl⟩)
    go_ret
    exact ⟨rfl, Below.refl _ _⟩
  have hbig : Rdr.bigB len0 = false := by simpa using hbig
  rw [hbig] at cb
  go_enter Try.func8, Try.ntmps8
  go_wp2_with fail
  refine cb.mono ?_
  rintro e wa ⟨rfl, rfl⟩
  go_wp2_with fail
  refine (DrawR.drawTurned_any _ _ _ _ _ H.out).mono ?_
  rintro e w1 ⟨⟨op, v, f, ho, hv, hf, rfl⟩, hB1⟩
  clear ho hv hf
  by_cases t0 : v < 0
  · go_wp2
    go_ret
    exact ⟨rfl, hB1⟩
  have d0 : decide (v < 0) = false := decide_eq_false t0
  by_cases t1 : 255 < v
  · go_wp2
    go_ret
    exact ⟨rfl, hB1⟩
  have d1 : decide (255 < v) = false := decide_eq_false t1
  by_cases t2 : f < 0
  · go_wp2
    go_ret
    exact ⟨rfl, hB1⟩
  have d2 : decide (f < 0) = false := decide_eq_false t2
  by_cases t3 : 255 < f
  · go_wp2
    go_ret
    exact ⟨rfl, hB1⟩
  have d3 : decide (255 < f) = false := decide_eq_false t3
  have v0 : 0 ≤ v := by omega
  have v1 : v ≤ 255 := by omega
  have f0 : 0 ≤ f := by omega
  have f1 : f ≤ 255 := by omega
  obtain ⟨s1, s2, s3, s4, s5, s6⟩ := shift_facts v0 v1 f0 f1
  obtain ⟨-, p0, p1, -⟩ := trn_facts (op := 4) (by decide) (by decide) v0 v1 f0 f1
  obtain ⟨-, q0, q1, -, q2⟩ := trn_facts (op := 5) (by decide) (by decide) v0 v1 f0 f1
  obtain ⟨-, r0, r1, -⟩ := trn_facts (op := 7) (by decide) (by decide) v0 v1 f0 f1
  obtain ⟨-, t0, t1, -⟩ := trn_facts (op := 6) (by decide) (by decide) v0 v1 f0 f1
  have e0 : (trn 6 (v % 16 * 16 + v / 16) (trn 6 v f).2).1 = v := by
    rw [(shift_facts (by omega) (by omega) t0 t1).2.2.2.2.2]; omega
  go_wp2_with fail
  refine (TurnI.implTurned_any _ _ _ _).mono ?_
  rintro e w2 ⟨rfl, hB2⟩
  go_wp2_with fail
  refine (TurnI.implTurned_any _ _ _ _).mono ?_
  rintro e w3 ⟨rfl, hB3⟩
  go_wp2_with fail
  refine (TurnI.implTurned_any _ _ _ _).mono ?_
  rintro e w4 ⟨rfl, hB4⟩
  go_wp2_with fail
  refine (TurnI.implTurned_any _ _ _ _).mono ?_
  rintro e w5 ⟨rfl, hB5⟩
  go_wp2_with fail
  refine (TurnI.implTurned_any _ _ _ _).mono ?_
  rintro e w6 ⟨rfl, hB6⟩
  go_wp2_with fail
  refine (specTurned_any _ _ _ _).mono ?_
  rintro e w6 ⟨rfl, rfl⟩
  have HB : Hid (Below wa.heap.size wa w6) := hB1.trans ((hB2.trans ((hB3.trans ((hB4.trans ((hB5.trans (hB6.mono hB5.size)).mono hB4.size)).mono hB3.size)).mono hB2.size)).mono hB1.size)
  clear hB1 hB2 hB3 hB4 hB5 hB6
  have k1 : v * 2 % 256 + 256 * ((trn 4 v f).2 / 16 % 2) = 2 * v := by omega
  have k2 : v / 2 * 2 + (trn 7 v f).2 / 16 % 2 = v := by omega
  have k3 : (v / 2 + 128 * (v / 128)) % 128 = v / 2 := by omega
  have k4 : (v / 2 + 128 * (v / 128)) / 128 = v / 128 := by omega
  go_wp2
  go_ret
  exact ⟨rfl, HB.out⟩

/-! ### THE ROW's STEP: WRITTEN OUT: LEAVE IT -/
set_option maxRecDepth 100000 in
theorem lifted (os : Os) (started : os.Started) (H : Type) (enc : TypeId × Value → H) :
    ReturnsInHanded {} Try.checked os 8 .any (Rows.fnShiftedSpec.pre6 enc Try.prog Try.f8 Rows.fnShiftedRow.domain false) (Rows.fnShiftedSpec.post enc Try.prog Try.f8 false true false false) := by
  refine returnsInHanded_of_change (C := Try.checked) own started (by kernel_rfl) Try.func8
    (ChangeSpec.witness6 (enc := enc) (C := Try.checked) false ⟨#[], #[.slice none 0 0], []⟩ 8 (by kernel_rfl) (by kernel_rfl) (by kernel_rfl) (by kernel_rfl)) ?_
  intro W base args ds gs before hval0 hW hcnd _
  have hval : ∀ (j : Nat) t v, Try.f8.params[j]? = some t → args[j]? = some v → Value.okWide Try.prog W .any base t v := hval0
  have hW' := hW
  obtain ⟨p, q, hA0, hV, rfl, hfz, hnd⟩ := hW
  have hA : DataW.TrodAll enc Try.prog W 0 (fun _ => true) true Try.f8.params.toList args.toList ds p := hA0
  rw [Try.params8] at hA hval
  obtain ⟨v0, vs0, d0, ds0, p0, q0, hargs, rfl, rfl, h0, r0⟩ := trodAll_cons hA
  obtain ⟨rfl, rfl, rfl⟩ := trodAll_nil r0
  obtain rfl : args = #[v0] := by cases args; simp_all
  obtain ⟨rfl, rfl⟩ := trodVars_none hV
  obtain ⟨a0, len0, cap0, rfl⟩ := okWide_slice Try.underlying22 (hval 0 22 v0 rfl rfl)
  have k0 := h0
  have lt0 : ∀ x ∈ p0, x.block < W.heap.size := by obtain ⟨m, hm⟩ := k0; exact DataW.trod_lt m _ _ _ hm
  obtain ⟨z0, w0⟩ : ∃ zs, IsRow .u8 W a0 len0 cap0 zs := by
    obtain ⟨fuel, hf⟩ := h0
    rcases open_ints Try.underlying22 Try.underlying5 (by kernel_rfl) hf with ⟨hcs, _⟩ | ⟨x, l, c, zs, hcs, _, hl, hm, hz, _, hcell, hwz⟩
    · simp [Value.cells] at hcs
      obtain ⟨rfl, rfl, rfl⟩ := hcs
      exact ⟨[], .inl ⟨rfl, rfl, rfl, rfl⟩⟩
    · simp [Value.cells] at hcs
      obtain ⟨rfl, rfl, rfl⟩ := hcs
      exact ⟨zs, .inr ⟨_, rfl, hl, hm, by simpa using hz, hcell, hwz⟩⟩
  clear hA0 hval0
  refine (walk a0 len0 cap0 z0 W w0).mono fun e W' ⟨he, bel⟩ => ?_
  subst he
  exact ⟨_, rfl, _, _, _, [], _, [], hW', trodAll_mk1 (shut_bool Try.underlying4 _), (trodAll_cons_mk (Below.trod laidOut (by kernel_rfl) (of_decide_eq_true (by kernel_rfl)) k0 bel lt0) trodAll_mk0), rfl, bel.frame _, fun h => by cases h⟩

theorem over : Rows.fnShiftedRow.holds Try.pinned (OpenSpec.ofChange Rows.fnShiftedSpec) :=
  OpenClaim.holds_of_wide 8 Try.f8 rfl rfl rfl rfl rfl rfl rfl ⟨rfl, rfl, rfl, rfl, rfl⟩ rfl rfl rfl rfl rfl (by kernel_rfl) Try.func8 (by kernel_rfl)
    (of_decide_eq_true (by kernel_rfl)) (by unfold Func.isWrapper; first | (rw [if_pos (by decide +kernel)]; kernel_rfl) | (rw [if_neg (by decide +kernel)]; exact ⟨rfl, rfl⟩))
    (fun os started H enc _ => lifted os started H enc)

/-- ████ THE STATEMENT ████ -/
theorem proved : Rows.FnShiftedSaid := over
end Go.Proofs.Ytmdaieopnapbgaa.fnShifted
namespace Go.Proofs.Ytmdaieopnapbgaa
theorem fnShifted_holds : Rows.FnShiftedSaid := fnShifted.proved
end Go.Proofs.Ytmdaieopnapbgaa
