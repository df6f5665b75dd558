/- For every code the law FnDaa answers true: of the drawn byte and flags impl.Daa answers as spec.Daa does, and two drawn numbers of two decimal digits, added as bytes and put right, are their sum in decimal digits, one taken from the other likewise; the code reads afterwards as it read before; no condition. -/
import Derived.Test.YtmdaieopnapbgaaRows
import Derived.WalkKit
import Derived.ProofKit
import Derived.OpenShut
import Derived.ShutString
import Derived.ChangeOld
import Derived.Below
import Derived.Test.YtmdaieopnapbgaaDecs
namespace Go.Proofs.Ytmdaieopnapbgaa.fnDaa
open Go.ChangeShapes Go.WideShapes Go.ChangeAt Go.RowKit
open Go.ChangeMaps (open_string shut_string)
set_option linter.unusedVariables false

theorem own : ownKnob Try.prog.godebug = none := by kernel_rfl
theorem laidOut : laidOutB Try.prog = true := by kernel_rfl

/-- WHAT THE WALK IS TOLD OF A SLICE OF INTEGERS THAT CAME IN: it is nil; or it leads to a row of 'cap' cells, the numbers 'zs' (the first 'len' are its elements, the rest its spare room), each fitting its kind. -/
def IsRow (k : IntKind) (w : World) (a : Option Addr) (len cap : Nat) (zs : List Int) : Prop :=
  (a = none ∧ len = 0 ∧ cap = 0 ∧ zs = []) ∨
  ∃ x, a = some x ∧ len ≤ cap ∧ cap ≤ maxLen ∧ zs.length = cap ∧ (∀ i, i < zs.length → w.cell? (x.add i) = some (.int k (zs.getD i 0))) ∧ ∀ n ∈ zs, (Lit.int k n).wf = true

open Reck ReckS ReckM ReckD Alus Bits Decs
set_option maxRecDepth 20000
set_option maxHeartbeats 1000000
theorem toRow {k : IntKind} {w : World} {a : Option Addr} {len cap : Nat} {zs : List Int} (h : IsRow k w a len cap zs) : Rdr.IsRow k w a len cap zs := h
/-! ### STEP 1: THE WALK: the Go text returns true, AND WRITES NOTHING THAT WAS THERE: 'Below w.heap.size w w'' (Derived/Below.lean: '.refl', '.alloc', '.drew', '.setCell' at a new block, '.trans'). Open each 'IsRow' by 'rcases' AHEAD of 'go_enter'; part every test ahead of the walk. -/
theorem walk (a0 : Option Addr) (len0 cap0 : Nat) (z0 : List Int) (w : World) (w0 : IsRow .u8 w a0 len0 cap0 z0) :
    Calls Try.prog 9 #[.slice a0 len0 cap0] w fun e w' => e = .returned (.bool true) ∧ Below w.heap.size w w' := by
  have H : Hid (Rdr.IsRow .u8 w a0 len0 cap0 z0) := toRow w0
  clear w0
  have cb := Rdr.big_any a0 len0 cap0 w H.out.len
  by_cases hbig : Rdr.bigB len0 = true
  · rw [hbig] at cb
    go_enter Try.func9, Try.ntmps9
    go_wp2_with (go_at_call 11; refine cb.mono ?_; rintro e w' ⟨rfl, rfl⟩)
    go_ret
    exact ⟨rfl, Below.refl _ _⟩
  have hbig : Rdr.bigB len0 = false := by simpa using hbig
  rw [hbig] at cb
  go_enter Try.func9, Try.ntmps9
  go_wp2_with fail
  refine cb.mono ?_
  rintro e wa ⟨rfl, rfl⟩
  go_wp2_with fail
  refine (DrawR.drawAlu_any _ _ _ _ _ H.out).mono ?_
  rintro e w1 ⟨⟨op, x, y, q, ho, hx, hy, hq, rfl⟩, hB1⟩
  clear ho hx hy hq
  go_wp2_with fail
  refine (DrawR.drawDaa_any _ _ _ _ _ (H.out.below hB1)).mono ?_
  rintro e w2 ⟨⟨r, f, hr, hf, rfl⟩, hB2⟩
  clear hr hf
  have HB : Hid (Below wa.heap.size wa w2) := hB1.trans (hB2.mono hB1.size)
  clear hB1 hB2
  go_wp2_with fail
  refine (implDaa_any _ _ _).mono ?_
  rintro e w2 ⟨rfl, rfl⟩
  go_wp2_with fail
  refine (specDaa_any _ _ _).mono ?_
  rintro e w2 ⟨rfl, rfl⟩
  by_cases t0 : x < 0
  · go_wp2
    go_ret
    exact ⟨rfl, HB.out⟩
  have d0 : decide (x < 0) = false := decide_eq_false t0
  by_cases t1 : 255 < x
  · go_wp2
    go_ret
    exact ⟨rfl, HB.out⟩
  have d1 : decide (255 < x) = false := decide_eq_false t1
  by_cases t2 : y < 0
  · go_wp2
    go_ret
    exact ⟨rfl, HB.out⟩
  have d2 : decide (y < 0) = false := decide_eq_false t2
  by_cases t3 : 255 < y
  · go_wp2
    go_ret
    exact ⟨rfl, HB.out⟩
  have d3 : decide (255 < y) = false := decide_eq_false t3
  have x0 : 0 ≤ x := by omega
  have x1 : x ≤ 255 := by omega
  have y0 : 0 ≤ y := by omega
  have y1 : y ≤ 255 := by omega
  obtain ⟨S, D, HS, HD, HK⟩ := dec_hid x y
  have hP := bcd_of x
  have hQ := bcd_of y
  clear t0 t1 t2 t3 d0 d1 d2 d3
  go_wp2_with fail
  try rw [hP, hQ]
  refine (AluI.implAlu_any _ _ _ _ _).mono ?_
  rw [← HS.out]
  rintro e w3 ⟨rfl, hB3⟩
  have HB3 : Hid (Below wa.heap.size wa w3) := HB.out.trans (hB3.mono HB.out.size)
  clear hB3
  go_wp2_with fail
  refine (implDaa_any _ _ _).mono ?_
  rintro e w3 ⟨rfl, rfl⟩
  go_wp2_with fail
  try rw [hP, hQ]
  refine (AluI.implAlu_any _ _ _ _ _).mono ?_
  rw [← HD.out]
  rintro e w4 ⟨rfl, hB4⟩
  have HB4 : Hid (Below wa.heap.size wa w4) := HB3.out.trans (hB4.mono HB3.out.size)
  clear hB4
  go_wp2_with fail
  refine (implDaa_any _ _ _).mono ?_
  rintro e w4 ⟨rfl, rfl⟩
  obtain ⟨T, K, U, k0, k1, eT, eK, eU, hT⟩ := HK.out
  obtain ⟨h1, h2, h3⟩ := hT
  have fU : (U == (x - y) % 100 / 10 * 16 + (x - y) % 10) = true := by rw [h3, u_eq]; exact beq_self_eq_true _
  have fT : (T == (x + y) % 100 / 10 * 16 + (x % 100 + y % 100) % 10) = true := by rw [h1, t_eq]; exact beq_self_eq_true _
  rw [eU]
  clear eU h1 h3
  by_cases h99 : 99 < x % 100 + y % 100
  · have dd : decide (99 < x % 100 + y % 100) = true := decide_eq_true h99
    rw [dd] at h2
    have kk : K / 16 % 2 = 1 := by simpa using h2
    clear h2
    go_wp2
    go_ret
    exact ⟨rfl, HB4.out⟩
  · have dd : decide (99 < x % 100 + y % 100) = false := decide_eq_false h99
    rw [dd] at h2
    have k2 : ¬ K / 16 % 2 = 1 := by simpa using h2
    have kk : K / 16 % 2 = 0 := by omega
    clear h2 k2
    go_wp2
    go_ret
    exact ⟨rfl, HB4.out⟩

/-! ### THE ROW's STEP: WRITTEN OUT: LEAVE IT -/
set_option maxRecDepth 100000 in
theorem lifted (os : Os) (started : os.Started) (H : Type) (enc : TypeId × Value → H) :
    ReturnsInHanded {} Try.checked os 9 .any (Rows.fnDaaSpec.pre6 enc Try.prog Try.f9 Rows.fnDaaRow.domain false) (Rows.fnDaaSpec.post enc Try.prog Try.f9 false true false false) := by
  refine returnsInHanded_of_change (C := Try.checked) own started (by kernel_rfl) Try.func9
    (ChangeSpec.witness6 (enc := enc) (C := Try.checked) false ⟨#[], #[.slice none 0 0], []⟩ 8 (by kernel_rfl) (by kernel_rfl) (by kernel_rfl) (by kernel_rfl)) ?_
  intro W base args ds gs before hval0 hW hcnd _
  have hval : ∀ (j : Nat) t v, Try.f9.params[j]? = some t → args[j]? = some v → Value.okWide Try.prog W .any base t v := hval0
  have hW' := hW
  obtain ⟨p, q, hA0, hV, rfl, hfz, hnd⟩ := hW
  have hA : DataW.TrodAll enc Try.prog W 0 (fun _ => true) true Try.f9.params.toList args.toList ds p := hA0
  rw [Try.params9] at hA hval
  obtain ⟨v0, vs0, d0, ds0, p0, q0, hargs, rfl, rfl, h0, r0⟩ := trodAll_cons hA
  obtain ⟨rfl, rfl, rfl⟩ := trodAll_nil r0
  obtain rfl : args = #[v0] := by cases args; simp_all
  obtain ⟨rfl, rfl⟩ := trodVars_none hV
  obtain ⟨a0, len0, cap0, rfl⟩ := okWide_slice Try.underlying22 (hval 0 22 v0 rfl rfl)
  have k0 := h0
  have lt0 : ∀ x ∈ p0, x.block < W.heap.size := by obtain ⟨m, hm⟩ := k0; exact DataW.trod_lt m _ _ _ hm
  obtain ⟨z0, w0⟩ : ∃ zs, IsRow .u8 W a0 len0 cap0 zs := by
    obtain ⟨fuel, hf⟩ := h0
    rcases open_ints Try.underlying22 Try.underlying5 (by kernel_rfl) hf with ⟨hcs, _⟩ | ⟨x, l, c, zs, hcs, _, hl, hm, hz, _, hcell, hwz⟩
    · simp [Value.cells] at hcs
      obtain ⟨rfl, rfl, rfl⟩ := hcs
      exact ⟨[], .inl ⟨rfl, rfl, rfl, rfl⟩⟩
    · simp [Value.cells] at hcs
      obtain ⟨rfl, rfl, rfl⟩ := hcs
      exact ⟨zs, .inr ⟨_, rfl, hl, hm, by simpa using hz, hcell, hwz⟩⟩
  clear hA0 hval0
  refine (walk a0 len0 cap0 z0 W w0).mono fun e W' ⟨he, bel⟩ => ?_
  subst he
  exact ⟨_, rfl, _, _, _, [], _, [], hW', trodAll_mk1 (shut_bool Try.underlying4 _), (trodAll_cons_mk (Below.trod laidOut (by kernel_rfl) (of_decide_eq_true (by kernel_rfl)) k0 bel lt0) trodAll_mk0), rfl, bel.frame _, fun h => by cases h⟩

theorem over : Rows.fnDaaRow.holds Try.pinned (OpenSpec.ofChange Rows.fnDaaSpec) :=
  OpenClaim.holds_of_wide 9 Try.f9 rfl rfl rfl rfl rfl rfl rfl ⟨rfl, rfl, rfl, rfl, rfl⟩ rfl rfl rfl rfl rfl (by kernel_rfl) Try.func9 (by kernel_rfl)
    (of_decide_eq_true (by kernel_rfl)) (by unfold Func.isWrapper; first | (rw [if_pos (by decide +kernel)]; kernel_rfl) | (rw [if_neg (by decide +kernel)]; exact ⟨rfl, rfl⟩))
    (fun os started H enc _ => lifted os started H enc)

/-- ████ THE STATEMENT ████ -/
theorem proved : Rows.FnDaaSaid := over
end Go.Proofs.Ytmdaieopnapbgaa.fnDaa
namespace Go.Proofs.Ytmdaieopnapbgaa
theorem fnDaa_holds : Rows.FnDaaSaid := fnDaa.proved
end Go.Proofs.Ytmdaieopnapbgaa
