/- For every code the law FnAdds answers true: of the drawn op, bytes and flags impl.Alu answers as spec.Alu does, and where it adds the sum and its carry are both bytes and the carry together, and nothing added changes nothing; the code reads afterwards as it read before; no condition. -/
import Derived.Test.YtmdaieopnapbgaaRows
import Derived.WalkKit
import Derived.ProofKit
import Derived.OpenShut
import Derived.ShutString
import Derived.ChangeOld
import Derived.Below
import Derived.Test.YtmdaieopnapbgaaAlus
namespace Go.Proofs.Ytmdaieopnapbgaa.fnAdds
open Go.ChangeShapes Go.WideShapes Go.ChangeAt Go.RowKit
open Go.ChangeMaps (open_string shut_string)
set_option linter.unusedVariables false

theorem own : ownKnob Try.prog.godebug = none := by kernel_rfl
theorem laidOut : laidOutB Try.prog = true := by kernel_rfl

/-- WHAT THE WALK IS TOLD OF A SLICE OF INTEGERS THAT CAME IN: it is nil; or it leads to a row of 'cap' cells, the numbers 'zs' (the first 'len' are its elements, the rest its spare room), each fitting its kind. -/
def IsRow (k : IntKind) (w : World) (a : Option Addr) (len cap : Nat) (zs : List Int) : Prop :=
  (a = none ∧ len = 0 ∧ cap = 0 ∧ zs = []) ∨
  ∃ x, a = some x ∧ len ≤ cap ∧ cap ≤ maxLen ∧ zs.length = cap ∧ (∀ i, i < zs.length → w.cell? (x.add i) = some (.int k (zs.getD i 0))) ∧ ∀ n ∈ zs, (Lit.int k n).wf = true

open Reck ReckS Alus
theorem toRow {k : IntKind} {w : World} {a : Option Addr} {len cap : Nat} {zs : List Int} (h : IsRow k w a len cap zs) : Rdr.IsRow k w a len cap zs := h
/-! ### STEP 1: THE WALK: the Go text returns true, AND WRITES NOTHING THAT WAS THERE: 'Below w.heap.size w w'' (Derived/Below.lean: '.refl', '.alloc', '.drew', '.setCell' at a new block, '.trans'). Open each 'IsRow' by 'rcases' AHEAD of 'go_enter'; part every test ahead of the walk. -/
theorem walk (a0 : Option Addr) (len0 cap0 : Nat) (z0 : List Int) (w : World) (w0 : IsRow .u8 w a0 len0 cap0 z0) :
    Calls Try.prog 3 #[.slice a0 len0 cap0] w fun e w' => e = .returned (.bool true) ∧ Below w.heap.size w w' := by
  have H : Hid (Rdr.IsRow .u8 w a0 len0 cap0 z0) := toRow w0
  clear w0
  have cb := Rdr.big_any a0 len0 cap0 w H.out.len
  by_cases hbig : Rdr.bigB len0 = true
  · rw [hbig] at cb
    go_enter Try.func3, Try.ntmps3
    go_wp2_with (go_at_call 11; refine cb.mono ?_; rintro e w' ⟨rfl, rfl⟩)
    go_ret
    exact ⟨rfl, Below.refl _ _⟩
  have hbig : Rdr.bigB len0 = false := by simpa using hbig
  rw [hbig] at cb
  go_enter Try.func3, Try.ntmps3
  go_wp2_with fail
  refine cb.mono ?_
  rintro e wa ⟨rfl, rfl⟩
  go_wp2_with fail
  refine (DrawR.drawAlu_any _ _ _ _ _ H.out).mono ?_
  rintro e w1 ⟨⟨op, a, b, f, ho, ha, hb, hf, rfl⟩, hB1⟩
  go_wp2_with fail
  refine (AluI.implAlu_any _ _ _ _ _).mono ?_
  rintro e w2 ⟨rfl, hB2⟩
  have HB : Hid (Below wa.heap.size wa w2) := hB1.trans (hB2.mono hB1.size)
  clear hB1 hB2 ho ha hb hf
  go_wp2_with fail
  refine (specAlu_any _ _ _ _ _).mono ?_
  rintro e w2 ⟨rfl, rfl⟩
  have HF : Hid (∀ ho : op = 0 ∨ op = 1, ∀ a0 : 0 ≤ a, ∀ a1 : a ≤ 255, ∀ b0 : 0 ≤ b, ∀ b1 : b ≤ 255, ∀ f0 : 0 ≤ f, ∀ f1 : f ≤ 255, _) := fun ho a0 a1 b0 b1 f0 f1 => add_facts (op := op) (a := a) (b := b) (f := f) ho a0 a1 b0 b1 f0 f1
  generalize (alu op a b f).1 = v at HF
  generalize (alu op a b f).2 = g at HF
  by_cases t0 : 1 < op
  · go_wp2
    go_ret
    exact ⟨rfl, HB.out⟩
  have d0 : decide (1 < op) = false := decide_eq_false t0
  by_cases t1 : op < 0
  · go_wp2
    go_ret
    exact ⟨rfl, HB.out⟩
  have d1 : decide (op < 0) = false := decide_eq_false t1
  by_cases t2 : a < 0
  · go_wp2
    go_ret
    exact ⟨rfl, HB.out⟩
  have d2 : decide (a < 0) = false := decide_eq_false t2
  by_cases t3 : 255 < a
  · go_wp2
    go_ret
    exact ⟨rfl, HB.out⟩
  have d3 : decide (255 < a) = false := decide_eq_false t3
  by_cases t4 : b < 0
  · go_wp2
    go_ret
    exact ⟨rfl, HB.out⟩
  have d4 : decide (b < 0) = false := decide_eq_false t4
  by_cases t5 : 255 < b
  · go_wp2
    go_ret
    exact ⟨rfl, HB.out⟩
  have d5 : decide (255 < b) = false := decide_eq_false t5
  by_cases t6 : f < 0
  · go_wp2
    go_ret
    exact ⟨rfl, HB.out⟩
  have d6 : decide (f < 0) = false := decide_eq_false t6
  by_cases t7 : 255 < f
  · go_wp2
    go_ret
    exact ⟨rfl, HB.out⟩
  have d7 : decide (255 < f) = false := decide_eq_false t7
  obtain ⟨v0, v1, g0, g1, hs, hz, hn⟩ := HF.out (by omega) (by omega) (by omega) (by omega) (by omega) (by omega) (by omega)
  have a0 : 0 ≤ a := by omega
  have a1 : a ≤ 255 := by omega
  have b0 : 0 ≤ b := by omega
  have b1 : b ≤ 255 := by omega
  have f0 : 0 ≤ f := by omega
  have f1 : f ≤ 255 := by omega
  have z0 : (alu 0 a 0 f).1 = a := by rw [alu_in (by decide) (by decide) a0 a1 (by decide) (by decide) f0 f1, aluR_0]; simp only []; omega
  by_cases o : op = 1
  · subst o
    rw [if_pos rfl] at hs
    unfold cy at hs
    go_wp2_with fail
    refine (AluI.implAlu_any _ _ _ _ _).mono ?_
    rintro e w3 ⟨rfl, hB3⟩
    rw [z0]
    have HC : Hid (Below wa.heap.size wa w3) := HB.out.trans (hB3.mono HB.out.size)
    clear hB3
    go_wp2
    go_ret
    exact ⟨rfl, HC.out⟩
  · obtain rfl : op = 0 := by omega
    rw [if_neg (by decide)] at hs
    go_wp2_with fail
    refine (AluI.implAlu_any _ _ _ _ _).mono ?_
    rintro e w3 ⟨rfl, hB3⟩
    rw [z0]
    have HC : Hid (Below wa.heap.size wa w3) := HB.out.trans (hB3.mono HB.out.size)
    clear hB3
    go_wp2
    go_ret
    exact ⟨rfl, HC.out⟩

/-! ### THE ROW's STEP: WRITTEN OUT: LEAVE IT -/
set_option maxRecDepth 100000 in
theorem lifted (os : Os) (started : os.Started) (H : Type) (enc : TypeId × Value → H) :
    ReturnsInHanded {} Try.checked os 3 .any (Rows.fnAddsSpec.pre6 enc Try.prog Try.f3 Rows.fnAddsRow.domain false) (Rows.fnAddsSpec.post enc Try.prog Try.f3 false true false false) := by
  refine returnsInHanded_of_change (C := Try.checked) own started (by kernel_rfl) Try.func3
    (ChangeSpec.witness6 (enc := enc) (C := Try.checked) false ⟨#[], #[.slice none 0 0], []⟩ 8 (by kernel_rfl) (by kernel_rfl) (by kernel_rfl) (by kernel_rfl)) ?_
  intro W base args ds gs before hval0 hW hcnd _
  have hval : ∀ (j : Nat) t v, Try.f3.params[j]? = some t → args[j]? = some v → Value.okWide Try.prog W .any base t v := hval0
  have hW' := hW
  obtain ⟨p, q, hA0, hV, rfl, hfz, hnd⟩ := hW
  have hA : DataW.TrodAll enc Try.prog W 0 (fun _ => true) true Try.f3.params.toList args.toList ds p := hA0
  rw [Try.params3] at hA hval
  obtain ⟨v0, vs0, d0, ds0, p0, q0, hargs, rfl, rfl, h0, r0⟩ := trodAll_cons hA
  obtain ⟨rfl, rfl, rfl⟩ := trodAll_nil r0
  obtain rfl : args = #[v0] := by cases args; simp_all
  obtain ⟨rfl, rfl⟩ := trodVars_none hV
  obtain ⟨a0, len0, cap0, rfl⟩ := okWide_slice Try.underlying22 (hval 0 22 v0 rfl rfl)
  have k0 := h0
  have lt0 : ∀ x ∈ p0, x.block < W.heap.size := by obtain ⟨m, hm⟩ := k0; exact DataW.trod_lt m _ _ _ hm
  obtain ⟨z0, w0⟩ : ∃ zs, IsRow .u8 W a0 len0 cap0 zs := by
    obtain ⟨fuel, hf⟩ := h0
    rcases open_ints Try.underlying22 Try.underlying5 (by kernel_rfl) hf with ⟨hcs, _⟩ | ⟨x, l, c, zs, hcs, _, hl, hm, hz, _, hcell, hwz⟩
    · simp [Value.cells] at hcs
      obtain ⟨rfl, rfl, rfl⟩ := hcs
      exact ⟨[], .inl ⟨rfl, rfl, rfl, rfl⟩⟩
    · simp [Value.cells] at hcs
      obtain ⟨rfl, rfl, rfl⟩ := hcs
      exact ⟨zs, .inr ⟨_, rfl, hl, hm, by simpa using hz, hcell, hwz⟩⟩
  clear hA0 hval0
  refine (walk a0 len0 cap0 z0 W w0).mono fun e W' ⟨he, bel⟩ => ?_
  subst he
  exact ⟨_, rfl, _, _, _, [], _, [], hW', trodAll_mk1 (shut_bool Try.underlying4 _), (trodAll_cons_mk (Below.trod laidOut (by kernel_rfl) (of_decide_eq_true (by kernel_rfl)) k0 bel lt0) trodAll_mk0), rfl, bel.frame _, fun h => by cases h⟩

theorem over : Rows.fnAddsRow.holds Try.pinned (OpenSpec.ofChange Rows.fnAddsSpec) :=
  OpenClaim.holds_of_wide 3 Try.f3 rfl rfl rfl rfl rfl rfl rfl ⟨rfl, rfl, rfl, rfl, rfl⟩ rfl rfl rfl rfl rfl (by kernel_rfl) Try.func3 (by kernel_rfl)
    (of_decide_eq_true (by kernel_rfl)) (by unfold Func.isWrapper; first | (rw [if_pos (by decide +kernel)]; kernel_rfl) | (rw [if_neg (by decide +kernel)]; exact ⟨rfl, rfl⟩))
    (fun os started H enc _ => lifted os started H enc)

/-- ████ THE STATEMENT ████ -/
theorem proved : Rows.FnAddsSaid := over
end Go.Proofs.Ytmdaieopnapbgaa.fnAdds
namespace Go.Proofs.Ytmdaieopnapbgaa
theorem fnAdds_holds : Rows.FnAddsSaid := fnAdds.proved
end Go.Proofs.Ytmdaieopnapbgaa
