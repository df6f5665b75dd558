/- For every code the law FnStepped answers true: of the drawn byte, flags and direction impl.Stepped8 answers as spec.Stepped8 does, a step and one back is what it was, the carry stays, and FlZ is there just where the byte is 0; the code reads afterwards as it read before; no condition. -/
import Derived.Test.YtmdaieopnapbgaaRows
import Derived.WalkKit
import Derived.ProofKit
import Derived.OpenShut
import Derived.ShutString
import Derived.ChangeOld
import Derived.Below
import Derived.Test.YtmdaieopnapbgaaAlus
import Derived.Test.YtmdaieopnapbgaaReckM
namespace Go.Proofs.Ytmdaieopnapbgaa.fnStepped
open Go.ChangeShapes Go.WideShapes Go.ChangeAt Go.RowKit
open Go.ChangeMaps (open_string shut_string)
set_option linter.unusedVariables false

theorem own : ownKnob Try.prog.godebug = none := by kernel_rfl
theorem laidOut : laidOutB Try.prog = true := by kernel_rfl

/-- WHAT THE WALK IS TOLD OF A SLICE OF INTEGERS THAT CAME IN: it is nil; or it leads to a row of 'cap' cells, the numbers 'zs' (the first 'len' are its elements, the rest its spare room), each fitting its kind. -/
def IsRow (k : IntKind) (w : World) (a : Option Addr) (len cap : Nat) (zs : List Int) : Prop :=
  (a = none ∧ len = 0 ∧ cap = 0 ∧ zs = []) ∨
  ∃ x, a = some x ∧ len ≤ cap ∧ cap ≤ maxLen ∧ zs.length = cap ∧ (∀ i, i < zs.length → w.cell? (x.add i) = some (.int k (zs.getD i 0))) ∧ ∀ n ∈ zs, (Lit.int k n).wf = true

open Reck ReckS ReckM Alus
theorem st8_facts {v f : Int} {d : Bool} (v0 : 0 ≤ v) (v1 : v ≤ 255) (f0 : 0 ≤ f) (f1 : f ≤ 255) :
    0 ≤ (st8 v f d).1 ∧ (st8 v f d).1 ≤ 255 ∧ 0 ≤ (st8 v f d).2 ∧ (st8 v f d).2 ≤ 255 ∧ (st8 v f d).2 / 16 % 2 = f / 16 % 2 ∧ decide (128 ≤ (st8 v f d).2) = ((st8 v f d).1 == 0) ∧ ((st8 v f d).1 = if d = true then (v + 255) % 256 else (v + 1) % 256) := by
  have e : st8 v f d = st8R v f d := by
    unfold st8
    rw [show Signed.inB v 0 255 = true from decide_eq_true ⟨v0, v1⟩, show Signed.inB f 0 255 = true from decide_eq_true ⟨f0, f1⟩]; rfl
  have c : one (cB f) = f / 16 % 2 := by
    have h := cy_bd f
    unfold cB
    rcases one_dec (cy f = 1) with ⟨h1, h2⟩ | ⟨h1, h2⟩ <;> rw [h2] <;> unfold cy at * <;> omega
  rw [e]
  cases d
  · obtain ⟨p0, p1, p2, p3, p4, p5, -⟩ := fl_facts (decide ((v + 1) % 256 = 0)) false (decide (v % 16 = 15)) (cB f)
    exact ⟨by show 0 ≤ (v + 1) % 256; omega, by show (v + 1) % 256 ≤ 255; omega, p0, p1, p2.trans c, p5.trans (beq_dec _).symm, rfl⟩
  · obtain ⟨p0, p1, p2, p3, p4, p5, -⟩ := fl_facts (decide ((v + 255) % 256 = 0)) true (decide (v % 16 = 0)) (cB f)
    exact ⟨by show 0 ≤ (v + 255) % 256; omega, by show (v + 255) % 256 ≤ 255; omega, p0, p1, p2.trans c, p5.trans (beq_dec _).symm, rfl⟩
theorem toRow {k : IntKind} {w : World} {a : Option Addr} {len cap : Nat} {zs : List Int} (h : IsRow k w a len cap zs) : Rdr.IsRow k w a len cap zs := h
/-! ### STEP 1: THE WALK: the Go text returns true, AND WRITES NOTHING THAT WAS THERE: 'Below w.heap.size w w'' (Derived/Below.lean: '.refl', '.alloc', '.drew', '.setCell' at a new block, '.trans'). Open each 'IsRow' by 'rcases' AHEAD of 'go_enter'; part every test ahead of the walk. -/
theorem walk (a0 : Option Addr) (len0 cap0 : Nat) (z0 : List Int) (w : World) (w0 : IsRow .u8 w a0 len0 cap0 z0) :
    Calls Try.prog 6 #[.slice a0 len0 cap0] w fun e w' => e = .returned (.bool true) ∧ Below w.heap.size w w' := by
  have H : Hid (Rdr.IsRow .u8 w a0 len0 cap0 z0) := toRow w0
  clear w0
  have cb := Rdr.big_any a0 len0 cap0 w H.out.len
  by_cases hbig : Rdr.bigB len0 = true
  · rw [hbig] at cb
    go_enter Try.func6, Try.ntmps6
    go_wp2_with (go_at_call 11; refine cb.mono ?_; rintro e w' ⟨rfl, rfl⟩)
    go_ret
    exact ⟨rfl, Below.refl _ _⟩
  have hbig : Rdr.bigB len0 = false := by simpa using hbig
  rw [hbig] at cb
  go_enter Try.func6, Try.ntmps6
  go_wp2_with fail
  refine cb.mono ?_
  rintro e wa ⟨rfl, rfl⟩
  go_wp2_with fail
  refine (DrawR.drawStepped8_any _ _ _ _ _ H.out).mono ?_
  rintro e w1 ⟨⟨v, f, d, hv, hf, rfl⟩, hB1⟩
  clear hv hf
  go_wp2_with fail
  refine (implStepped8_any _ _ _ _).mono ?_
  rintro e w1 ⟨rfl, rfl⟩
  go_wp2_with fail
  refine (specStepped8_any _ _ _ _).mono ?_
  rintro e w1 ⟨rfl, rfl⟩
  have HF : Hid (∀ v0 : 0 ≤ v, ∀ v1 : v ≤ 255, ∀ f0 : 0 ≤ f, ∀ f1 : f ≤ 255, _) := fun v0 v1 f0 f1 => st8_facts (v := v) (f := f) (d := d) v0 v1 f0 f1
  generalize (st8 v f d).1 = n at HF
  generalize (st8 v f d).2 = g at HF
  by_cases t0 : v < 0
  · go_wp2
    go_ret
    exact ⟨rfl, hB1⟩
  have d0 : decide (v < 0) = false := decide_eq_false t0
  by_cases t1 : 255 < v
  · go_wp2
    go_ret
    exact ⟨rfl, hB1⟩
  have d1 : decide (255 < v) = false := decide_eq_false t1
  by_cases t2 : f < 0
  · go_wp2
    go_ret
    exact ⟨rfl, hB1⟩
  have d2 : decide (f < 0) = false := decide_eq_false t2
  by_cases t3 : 255 < f
  · go_wp2
    go_ret
    exact ⟨rfl, hB1⟩
  have d3 : decide (255 < f) = false := decide_eq_false t3
  have v0 : 0 ≤ v := by omega
  have v1 : v ≤ 255 := by omega
  have f0 : 0 ≤ f := by omega
  have f1 : f ≤ 255 := by omega
  obtain ⟨n0, n1, g0, g1, s1, s2, s3⟩ := HF.out v0 v1 f0 f1
  obtain ⟨m0, m1, h0, h1, s4, s5, s6⟩ := st8_facts (v := n) (f := g) (d := !d) n0 n1 g0 g1
  have s7 : (st8 n g (!d)).1 = v := by
    rw [s6, s3]
    cases d
    · simp; omega
    · simp; omega
  clear s3 s5 s6
  go_wp2_with fail
  refine (implStepped8_any _ _ _ _).mono ?_
  rintro e w1 ⟨rfl, rfl⟩
  generalize (st8 n g (!d)).1 = m at *
  generalize (st8 n g (!d)).2 = h at *
  subst s7
  have s8 : h / 16 % 2 = f / 16 % 2 := s4.trans s1
  go_wp2
  go_ret
  exact ⟨rfl, hB1⟩

/-! ### THE ROW's STEP: WRITTEN OUT: LEAVE IT -/
set_option maxRecDepth 100000 in
theorem lifted (os : Os) (started : os.Started) (H : Type) (enc : TypeId × Value → H) :
    ReturnsInHanded {} Try.checked os 6 .any (Rows.fnSteppedSpec.pre6 enc Try.prog Try.f6 Rows.fnSteppedRow.domain false) (Rows.fnSteppedSpec.post enc Try.prog Try.f6 false true false false) := by
  refine returnsInHanded_of_change (C := Try.checked) own started (by kernel_rfl) Try.func6
    (ChangeSpec.witness6 (enc := enc) (C := Try.checked) false ⟨#[], #[.slice none 0 0], []⟩ 8 (by kernel_rfl) (by kernel_rfl) (by kernel_rfl) (by kernel_rfl)) ?_
  intro W base args ds gs before hval0 hW hcnd _
  have hval : ∀ (j : Nat) t v, Try.f6.params[j]? = some t → args[j]? = some v → Value.okWide Try.prog W .any base t v := hval0
  have hW' := hW
  obtain ⟨p, q, hA0, hV, rfl, hfz, hnd⟩ := hW
  have hA : DataW.TrodAll enc Try.prog W 0 (fun _ => true) true Try.f6.params.toList args.toList ds p := hA0
  rw [Try.params6] at hA hval
  obtain ⟨v0, vs0, d0, ds0, p0, q0, hargs, rfl, rfl, h0, r0⟩ := trodAll_cons hA
  obtain ⟨rfl, rfl, rfl⟩ := trodAll_nil r0
  obtain rfl : args = #[v0] := by cases args; simp_all
  obtain ⟨rfl, rfl⟩ := trodVars_none hV
  obtain ⟨a0, len0, cap0, rfl⟩ := okWide_slice Try.underlying22 (hval 0 22 v0 rfl rfl)
  have k0 := h0
  have lt0 : ∀ x ∈ p0, x.block < W.heap.size := by obtain ⟨m, hm⟩ := k0; exact DataW.trod_lt m _ _ _ hm
  obtain ⟨z0, w0⟩ : ∃ zs, IsRow .u8 W a0 len0 cap0 zs := by
    obtain ⟨fuel, hf⟩ := h0
    rcases open_ints Try.underlying22 Try.underlying5 (by kernel_rfl) hf with ⟨hcs, _⟩ | ⟨x, l, c, zs, hcs, _, hl, hm, hz, _, hcell, hwz⟩
    · simp [Value.cells] at hcs
      obtain ⟨rfl, rfl, rfl⟩ := hcs
      exact ⟨[], .inl ⟨rfl, rfl, rfl, rfl⟩⟩
    · simp [Value.cells] at hcs
      obtain ⟨rfl, rfl, rfl⟩ := hcs
      exact ⟨zs, .inr ⟨_, rfl, hl, hm, by simpa using hz, hcell, hwz⟩⟩
  clear hA0 hval0
  refine (walk a0 len0 cap0 z0 W w0).mono fun e W' ⟨he, bel⟩ => ?_
  subst he
  exact ⟨_, rfl, _, _, _, [], _, [], hW', trodAll_mk1 (shut_bool Try.underlying4 _), (trodAll_cons_mk (Below.trod laidOut (by kernel_rfl) (of_decide_eq_true (by kernel_rfl)) k0 bel lt0) trodAll_mk0), rfl, bel.frame _, fun h => by cases h⟩

theorem over : Rows.fnSteppedRow.holds Try.pinned (OpenSpec.ofChange Rows.fnSteppedSpec) :=
  OpenClaim.holds_of_wide 6 Try.f6 rfl rfl rfl rfl rfl rfl rfl ⟨rfl, rfl, rfl, rfl, rfl⟩ rfl rfl rfl rfl rfl (by kernel_rfl) Try.func6 (by kernel_rfl)
    (of_decide_eq_true (by kernel_rfl)) (by unfold Func.isWrapper; first | (rw [if_pos (by decide +kernel)]; kernel_rfl) | (rw [if_neg (by decide +kernel)]; exact ⟨rfl, rfl⟩))
    (fun os started H enc _ => lifted os started H enc)

/-- ████ THE STATEMENT ████ -/
theorem proved : Rows.FnSteppedSaid := over
end Go.Proofs.Ytmdaieopnapbgaa.fnStepped
namespace Go.Proofs.Ytmdaieopnapbgaa
theorem fnStepped_holds : Rows.FnSteppedSaid := fnStepped.proved
end Go.Proofs.Ytmdaieopnapbgaa
