/- For every code the law FnWords answers true: of the drawn words, flags and byte impl.AddWords and impl.AddSigned answer as the specification does, the sum and its carry are both words together, FlZ stays, and with a byte that has a sign the flags are those of the bytes; the code reads afterwards as it read before; no condition. -/
import Derived.Test.YtmdaieopnapbgaaRows
import Derived.WalkKit
import Derived.ProofKit
import Derived.OpenShut
import Derived.ShutString
import Derived.ChangeOld
import Derived.Below
import Derived.Test.YtmdaieopnapbgaaWords
namespace Go.Proofs.Ytmdaieopnapbgaa.fnWords
open Go.ChangeShapes Go.WideShapes Go.ChangeAt Go.RowKit
open Go.ChangeMaps (open_string shut_string)
set_option linter.unusedVariables false

theorem own : ownKnob Try.prog.godebug = none := by kernel_rfl
theorem laidOut : laidOutB Try.prog = true := by kernel_rfl

/-- WHAT THE WALK IS TOLD OF A SLICE OF INTEGERS THAT CAME IN: it is nil; or it leads to a row of 'cap' cells, the numbers 'zs' (the first 'len' are its elements, the rest its spare room), each fitting its kind. -/
def IsRow (k : IntKind) (w : World) (a : Option Addr) (len cap : Nat) (zs : List Int) : Prop :=
  (a = none ∧ len = 0 ∧ cap = 0 ∧ zs = []) ∨
  ∃ x, a = some x ∧ len ≤ cap ∧ cap ≤ maxLen ∧ zs.length = cap ∧ (∀ i, i < zs.length → w.cell? (x.add i) = some (.int k (zs.getD i 0))) ∧ ∀ n ∈ zs, (Lit.int k n).wf = true

open Reck ReckS ReckM Alus Words
set_option maxRecDepth 20000
set_option maxHeartbeats 4000000
theorem toRow {k : IntKind} {w : World} {a : Option Addr} {len cap : Nat} {zs : List Int} (h : IsRow k w a len cap zs) : Rdr.IsRow k w a len cap zs := h
/-! ### STEP 1: THE WALK: the Go text returns true, AND WRITES NOTHING THAT WAS THERE: 'Below w.heap.size w w'' (Derived/Below.lean: '.refl', '.alloc', '.drew', '.setCell' at a new block, '.trans'). Open each 'IsRow' by 'rcases' AHEAD of 'go_enter'; part every test ahead of the walk. -/
theorem walk (a0 : Option Addr) (len0 cap0 : Nat) (z0 : List Int) (w : World) (w0 : IsRow .u8 w a0 len0 cap0 z0) :
    Calls Try.prog 10 #[.slice a0 len0 cap0] w fun e w' => e = .returned (.bool true) ∧ Below w.heap.size w w' := by
  have H : Hid (Rdr.IsRow .u8 w a0 len0 cap0 z0) := toRow w0
  clear w0
  have cb := Rdr.big_any a0 len0 cap0 w H.out.len
  by_cases hbig : Rdr.bigB len0 = true
  · rw [hbig] at cb
    go_enter Try.func10, Try.ntmps10
    go_wp2_with (go_at_call 11; refine cb.mono ?_; rintro e w' ⟨rfl, rfl⟩)
    go_ret
    exact ⟨rfl, Below.refl _ _⟩
  have hbig : Rdr.bigB len0 = false := by simpa using hbig
  rw [hbig] at cb
  go_enter Try.func10, Try.ntmps10
  go_wp2_with fail
  refine cb.mono ?_
  rintro e wa ⟨rfl, rfl⟩
  go_wp2_with fail
  refine (DrawR.drawAddWords_any _ _ _ _ _ H.out).mono ?_
  rintro e w1 ⟨⟨a, b, f, ha, hb, hf, rfl⟩, hB1⟩
  clear ha hb hf
  go_wp2_with fail
  refine (implAddWords_any _ _ _ _).mono ?_
  rintro e w1 ⟨rfl, rfl⟩
  go_wp2_with fail
  refine (specAddWords_any _ _ _ _).mono ?_
  rintro e w1 ⟨rfl, rfl⟩
  go_wp2_with fail
  refine (DrawR.drawAddSigned_any _ _ _ _ _ (H.out.below hB1)).mono ?_
  rintro e w2 ⟨⟨sp, n, hsp, hn, rfl⟩, hB2⟩
  clear hsp hn
  have HB : Hid (Below wa.heap.size wa w2) := hB1.trans (hB2.mono hB1.size)
  clear hB1 hB2
  go_wp2_with fail
  refine (implAddSigned_any _ _ _).mono ?_
  rintro e w2 ⟨rfl, rfl⟩
  go_wp2_with fail
  refine (specAddSigned_any _ _ _).mono ?_
  rintro e w2 ⟨rfl, rfl⟩
  have hS : Hid (∀ a0 : 0 ≤ sp, ∀ a1 : sp ≤ 65535, ∀ b0 : 0 ≤ n, ∀ b1 : n ≤ 255, _) := fun a0 a1 b0 b1 => asg_facts (sp := sp) (n := n) a0 a1 b0 b1
  have hW : Hid (∀ a0 : 0 ≤ a, ∀ a1 : a ≤ 65535, ∀ b0 : 0 ≤ b, ∀ b1 : b ≤ 65535, ∀ f0 : 0 ≤ f, ∀ f1 : f ≤ 255, _) := fun a0 a1 b0 b1 f0 f1 => aw_facts (a := a) (b := b) (f := f) a0 a1 b0 b1 f0 f1
  generalize (aw a b f).1 = v at *
  generalize (aw a b f).2 = g at *
  generalize (asg sp n).1 = x at *
  generalize (asg sp n).2 = h at *
  by_cases t0 : 0 ≤ a
  case neg =>
    have d0 : decide (0 ≤ a) = false := decide_eq_false t0
    clear hW
    by_cases s0 : sp < 0
    · go_wp2
      go_ret
      exact ⟨rfl, HB.out⟩
    have e0 : decide (sp < 0) = false := decide_eq_false s0
    by_cases s1 : 65535 < sp
    · go_wp2
      go_ret
      exact ⟨rfl, HB.out⟩
    have e1 : decide (65535 < sp) = false := decide_eq_false s1
    by_cases s2 : n < 0
    · go_wp2
      go_ret
      exact ⟨rfl, HB.out⟩
    have e2 : decide (n < 0) = false := decide_eq_false s2
    by_cases s3 : 255 < n
    · go_wp2
      go_ret
      exact ⟨rfl, HB.out⟩
    have e3 : decide (255 < n) = false := decide_eq_false s3
    obtain ⟨x1, x2, x3, x4, x5, x6⟩ := hS.out (by omega) (by omega) (by omega) (by omega)
    clear hS
    have z0 : 0 ≤ sp := by omega
    have z1 : sp ≤ 65535 := by omega
    have n0 : 0 ≤ n := by omega
    have n1 : n ≤ 255 := by omega
    go_wp2_with fail
    refine (AluI.implAlu_any _ _ _ _ _).mono ?_
    rintro e w6 ⟨rfl, hB6⟩
    have HC : Hid (Below wa.heap.size wa w6) := HB.out.trans (hB6.mono HB.out.size)
    clear hB6
    generalize (alu 0 (sp % 256) n 0).2 = low at *
    go_wp2_with (go_at_call 30; refine (Signed.implSigned_any _ _).mono ?_; rintro e w7 ⟨rfl, rfl⟩)
    go_ret
    exact ⟨rfl, HC.out⟩
  have d0 : decide (0 ≤ a) = true := decide_eq_true t0
  by_cases t1 : a ≤ 65535
  case neg =>
    have d1 : decide (a ≤ 65535) = false := decide_eq_false t1
    clear hW
    by_cases s0 : sp < 0
    · go_wp2
      go_ret
      exact ⟨rfl, HB.out⟩
    have e0 : decide (sp < 0) = false := decide_eq_false s0
    by_cases s1 : 65535 < sp
    · go_wp2
      go_ret
      exact ⟨rfl, HB.out⟩
    have e1 : decide (65535 < sp) = false := decide_eq_false s1
    by_cases s2 : n < 0
    · go_wp2
      go_ret
      exact ⟨rfl, HB.out⟩
    have e2 : decide (n < 0) = false := decide_eq_false s2
    by_cases s3 : 255 < n
    · go_wp2
      go_ret
      exact ⟨rfl, HB.out⟩
    have e3 : decide (255 < n) = false := decide_eq_false s3
    obtain ⟨x1, x2, x3, x4, x5, x6⟩ := hS.out (by omega) (by omega) (by omega) (by omega)
    clear hS
    have z0 : 0 ≤ sp := by omega
    have z1 : sp ≤ 65535 := by omega
    have n0 : 0 ≤ n := by omega
    have n1 : n ≤ 255 := by omega
    go_wp2_with fail
    refine (AluI.implAlu_any _ _ _ _ _).mono ?_
    rintro e w6 ⟨rfl, hB6⟩
    have HC : Hid (Below wa.heap.size wa w6) := HB.out.trans (hB6.mono HB.out.size)
    clear hB6
    generalize (alu 0 (sp % 256) n 0).2 = low at *
    go_wp2_with (go_at_call 30; refine (Signed.implSigned_any _ _).mono ?_; rintro e w7 ⟨rfl, rfl⟩)
    go_ret
    exact ⟨rfl, HC.out⟩
  have d1 : decide (a ≤ 65535) = true := decide_eq_true t1
  by_cases t2 : 0 ≤ b
  case neg =>
    have d2 : decide (0 ≤ b) = false := decide_eq_false t2
    clear hW
    by_cases s0 : sp < 0
    · go_wp2
      go_ret
      exact ⟨rfl, HB.out⟩
    have e0 : decide (sp < 0) = false := decide_eq_false s0
    by_cases s1 : 65535 < sp
    · go_wp2
      go_ret
      exact ⟨rfl, HB.out⟩
    have e1 : decide (65535 < sp) = false := decide_eq_false s1
    by_cases s2 : n < 0
    · go_wp2
      go_ret
      exact ⟨rfl, HB.out⟩
    have e2 : decide (n < 0) = false := decide_eq_false s2
    by_cases s3 : 255 < n
    · go_wp2
      go_ret
      exact ⟨rfl, HB.out⟩
    have e3 : decide (255 < n) = false := decide_eq_false s3
    obtain ⟨x1, x2, x3, x4, x5, x6⟩ := hS.out (by omega) (by omega) (by omega) (by omega)
    clear hS
    have z0 : 0 ≤ sp := by omega
    have z1 : sp ≤ 65535 := by omega
    have n0 : 0 ≤ n := by omega
    have n1 : n ≤ 255 := by omega
    go_wp2_with fail
    refine (AluI.implAlu_any _ _ _ _ _).mono ?_
    rintro e w6 ⟨rfl, hB6⟩
    have HC : Hid (Below wa.heap.size wa w6) := HB.out.trans (hB6.mono HB.out.size)
    clear hB6
    generalize (alu 0 (sp % 256) n 0).2 = low at *
    go_wp2_with (go_at_call 30; refine (Signed.implSigned_any _ _).mono ?_; rintro e w7 ⟨rfl, rfl⟩)
    go_ret
    exact ⟨rfl, HC.out⟩
  have d2 : decide (0 ≤ b) = true := decide_eq_true t2
  by_cases t3 : b ≤ 65535
  case neg =>
    have d3 : decide (b ≤ 65535) = false := decide_eq_false t3
    clear hW
    by_cases s0 : sp < 0
    · go_wp2
      go_ret
      exact ⟨rfl, HB.out⟩
    have e0 : decide (sp < 0) = false := decide_eq_false s0
    by_cases s1 : 65535 < sp
    · go_wp2
      go_ret
      exact ⟨rfl, HB.out⟩
    have e1 : decide (65535 < sp) = false := decide_eq_false s1
    by_cases s2 : n < 0
    · go_wp2
      go_ret
      exact ⟨rfl, HB.out⟩
    have e2 : decide (n < 0) = false := decide_eq_false s2
    by_cases s3 : 255 < n
    · go_wp2
      go_ret
      exact ⟨rfl, HB.out⟩
    have e3 : decide (255 < n) = false := decide_eq_false s3
    obtain ⟨x1, x2, x3, x4, x5, x6⟩ := hS.out (by omega) (by omega) (by omega) (by omega)
    clear hS
    have z0 : 0 ≤ sp := by omega
    have z1 : sp ≤ 65535 := by omega
    have n0 : 0 ≤ n := by omega
    have n1 : n ≤ 255 := by omega
    go_wp2_with fail
    refine (AluI.implAlu_any _ _ _ _ _).mono ?_
    rintro e w6 ⟨rfl, hB6⟩
    have HC : Hid (Below wa.heap.size wa w6) := HB.out.trans (hB6.mono HB.out.size)
    clear hB6
    generalize (alu 0 (sp % 256) n 0).2 = low at *
    go_wp2_with (go_at_call 30; refine (Signed.implSigned_any _ _).mono ?_; rintro e w7 ⟨rfl, rfl⟩)
    go_ret
    exact ⟨rfl, HC.out⟩
  have d3 : decide (b ≤ 65535) = true := decide_eq_true t3
  by_cases t4 : 0 ≤ f
  case neg =>
    have d4 : decide (0 ≤ f) = false := decide_eq_false t4
    clear hW
    by_cases s0 : sp < 0
    · go_wp2
      go_ret
      exact ⟨rfl, HB.out⟩
    have e0 : decide (sp < 0) = false := decide_eq_false s0
    by_cases s1 : 65535 < sp
    · go_wp2
      go_ret
      exact ⟨rfl, HB.out⟩
    have e1 : decide (65535 < sp) = false := decide_eq_false s1
    by_cases s2 : n < 0
    · go_wp2
      go_ret
      exact ⟨rfl, HB.out⟩
    have e2 : decide (n < 0) = false := decide_eq_false s2
    by_cases s3 : 255 < n
    · go_wp2
      go_ret
      exact ⟨rfl, HB.out⟩
    have e3 : decide (255 < n) = false := decide_eq_false s3
    obtain ⟨x1, x2, x3, x4, x5, x6⟩ := hS.out (by omega) (by omega) (by omega) (by omega)
    clear hS
    have z0 : 0 ≤ sp := by omega
    have z1 : sp ≤ 65535 := by omega
    have n0 : 0 ≤ n := by omega
    have n1 : n ≤ 255 := by omega
    go_wp2_with fail
    refine (AluI.implAlu_any _ _ _ _ _).mono ?_
    rintro e w6 ⟨rfl, hB6⟩
    have HC : Hid (Below wa.heap.size wa w6) := HB.out.trans (hB6.mono HB.out.size)
    clear hB6
    generalize (alu 0 (sp % 256) n 0).2 = low at *
    go_wp2_with (go_at_call 30; refine (Signed.implSigned_any _ _).mono ?_; rintro e w7 ⟨rfl, rfl⟩)
    go_ret
    exact ⟨rfl, HC.out⟩
  have d4 : decide (0 ≤ f) = true := decide_eq_true t4
  by_cases t5 : f ≤ 255
  case neg =>
    have d5 : decide (f ≤ 255) = false := decide_eq_false t5
    clear hW
    by_cases s0 : sp < 0
    · go_wp2
      go_ret
      exact ⟨rfl, HB.out⟩
    have e0 : decide (sp < 0) = false := decide_eq_false s0
    by_cases s1 : 65535 < sp
    · go_wp2
      go_ret
      exact ⟨rfl, HB.out⟩
    have e1 : decide (65535 < sp) = false := decide_eq_false s1
    by_cases s2 : n < 0
    · go_wp2
      go_ret
      exact ⟨rfl, HB.out⟩
    have e2 : decide (n < 0) = false := decide_eq_false s2
    by_cases s3 : 255 < n
    · go_wp2
      go_ret
      exact ⟨rfl, HB.out⟩
    have e3 : decide (255 < n) = false := decide_eq_false s3
    obtain ⟨x1, x2, x3, x4, x5, x6⟩ := hS.out (by omega) (by omega) (by omega) (by omega)
    clear hS
    have z0 : 0 ≤ sp := by omega
    have z1 : sp ≤ 65535 := by omega
    have n0 : 0 ≤ n := by omega
    have n1 : n ≤ 255 := by omega
    go_wp2_with fail
    refine (AluI.implAlu_any _ _ _ _ _).mono ?_
    rintro e w6 ⟨rfl, hB6⟩
    have HC : Hid (Below wa.heap.size wa w6) := HB.out.trans (hB6.mono HB.out.size)
    clear hB6
    generalize (alu 0 (sp % 256) n 0).2 = low at *
    go_wp2_with (go_at_call 30; refine (Signed.implSigned_any _ _).mono ?_; rintro e w7 ⟨rfl, rfl⟩)
    go_ret
    exact ⟨rfl, HC.out⟩
  have d5 : decide (f ≤ 255) = true := decide_eq_true t5
  obtain ⟨v0, v1, g0, g1, hs, hz⟩ := hW.out t0 t1 t2 t3 t4 t5
  clear hW
  by_cases s0 : sp < 0
  · go_wp2
    go_ret
    exact ⟨rfl, HB.out⟩
  have e0 : decide (sp < 0) = false := decide_eq_false s0
  by_cases s1 : 65535 < sp
  · go_wp2
    go_ret
    exact ⟨rfl, HB.out⟩
  have e1 : decide (65535 < sp) = false := decide_eq_false s1
  by_cases s2 : n < 0
  · go_wp2
    go_ret
    exact ⟨rfl, HB.out⟩
  have e2 : decide (n < 0) = false := decide_eq_false s2
  by_cases s3 : 255 < n
  · go_wp2
    go_ret
    exact ⟨rfl, HB.out⟩
  have e3 : decide (255 < n) = false := decide_eq_false s3
  obtain ⟨x1, x2, x3, x4, x5, x6⟩ := hS.out (by omega) (by omega) (by omega) (by omega)
  clear hS
  have z0 : 0 ≤ sp := by omega
  have z1 : sp ≤ 65535 := by omega
  have n0 : 0 ≤ n := by omega
  have n1 : n ≤ 255 := by omega
  go_wp2_with fail
  refine (AluI.implAlu_any _ _ _ _ _).mono ?_
  rintro e w6 ⟨rfl, hB6⟩
  have HC : Hid (Below wa.heap.size wa w6) := HB.out.trans (hB6.mono HB.out.size)
  clear hB6
  generalize (alu 0 (sp % 256) n 0).2 = low at *
  go_wp2_with (go_at_call 30; refine (Signed.implSigned_any _ _).mono ?_; rintro e w7 ⟨rfl, rfl⟩)
  go_ret
  exact ⟨rfl, HC.out⟩

/-! ### THE ROW's STEP: WRITTEN OUT: LEAVE IT -/
set_option maxRecDepth 100000 in
theorem lifted (os : Os) (started : os.Started) (H : Type) (enc : TypeId × Value → H) :
    ReturnsInHanded {} Try.checked os 10 .any (Rows.fnWordsSpec.pre6 enc Try.prog Try.f10 Rows.fnWordsRow.domain false) (Rows.fnWordsSpec.post enc Try.prog Try.f10 false true false false) := by
  refine returnsInHanded_of_change (C := Try.checked) own started (by kernel_rfl) Try.func10
    (ChangeSpec.witness6 (enc := enc) (C := Try.checked) false ⟨#[], #[.slice none 0 0], []⟩ 8 (by kernel_rfl) (by kernel_rfl) (by kernel_rfl) (by kernel_rfl)) ?_
  intro W base args ds gs before hval0 hW hcnd _
  have hval : ∀ (j : Nat) t v, Try.f10.params[j]? = some t → args[j]? = some v → Value.okWide Try.prog W .any base t v := hval0
  have hW' := hW
  obtain ⟨p, q, hA0, hV, rfl, hfz, hnd⟩ := hW
  have hA : DataW.TrodAll enc Try.prog W 0 (fun _ => true) true Try.f10.params.toList args.toList ds p := hA0
  rw [Try.params10] at hA hval
  obtain ⟨v0, vs0, d0, ds0, p0, q0, hargs, rfl, rfl, h0, r0⟩ := trodAll_cons hA
  obtain ⟨rfl, rfl, rfl⟩ := trodAll_nil r0
  obtain rfl : args = #[v0] := by cases args; simp_all
  obtain ⟨rfl, rfl⟩ := trodVars_none hV
  obtain ⟨a0, len0, cap0, rfl⟩ := okWide_slice Try.underlying22 (hval 0 22 v0 rfl rfl)
  have k0 := h0
  have lt0 : ∀ x ∈ p0, x.block < W.heap.size := by obtain ⟨m, hm⟩ := k0; exact DataW.trod_lt m _ _ _ hm
  obtain ⟨z0, w0⟩ : ∃ zs, IsRow .u8 W a0 len0 cap0 zs := by
    obtain ⟨fuel, hf⟩ := h0
    rcases open_ints Try.underlying22 Try.underlying5 (by kernel_rfl) hf with ⟨hcs, _⟩ | ⟨x, l, c, zs, hcs, _, hl, hm, hz, _, hcell, hwz⟩
    · simp [Value.cells] at hcs
      obtain ⟨rfl, rfl, rfl⟩ := hcs
      exact ⟨[], .inl ⟨rfl, rfl, rfl, rfl⟩⟩
    · simp [Value.cells] at hcs
      obtain ⟨rfl, rfl, rfl⟩ := hcs
      exact ⟨zs, .inr ⟨_, rfl, hl, hm, by simpa using hz, hcell, hwz⟩⟩
  clear hA0 hval0
  refine (walk a0 len0 cap0 z0 W w0).mono fun e W' ⟨he, bel⟩ => ?_
  subst he
  exact ⟨_, rfl, _, _, _, [], _, [], hW', trodAll_mk1 (shut_bool Try.underlying4 _), (trodAll_cons_mk (Below.trod laidOut (by kernel_rfl) (of_decide_eq_true (by kernel_rfl)) k0 bel lt0) trodAll_mk0), rfl, bel.frame _, fun h => by cases h⟩

theorem over : Rows.fnWordsRow.holds Try.pinned (OpenSpec.ofChange Rows.fnWordsSpec) :=
  OpenClaim.holds_of_wide 10 Try.f10 rfl rfl rfl rfl rfl rfl rfl ⟨rfl, rfl, rfl, rfl, rfl⟩ rfl rfl rfl rfl rfl (by kernel_rfl) Try.func10 (by kernel_rfl)
    (of_decide_eq_true (by kernel_rfl)) (by unfold Func.isWrapper; first | (rw [if_pos (by decide +kernel)]; kernel_rfl) | (rw [if_neg (by decide +kernel)]; exact ⟨rfl, rfl⟩))
    (fun os started H enc _ => lifted os started H enc)

/-- ████ THE STATEMENT ████ -/
theorem proved : Rows.FnWordsSaid := over
end Go.Proofs.Ytmdaieopnapbgaa.fnWords
namespace Go.Proofs.Ytmdaieopnapbgaa
theorem fnWords_holds : Rows.FnWordsSaid := fnWords.proved
end Go.Proofs.Ytmdaieopnapbgaa
