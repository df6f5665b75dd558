/- For every code the law FnSigned answers true: of the drawn byte impl.SignedOf answers as spec.SignedOf does, within -128 .. 127 and one with it modulo 256, and of the drawn name impl.NameOk answers as spec.NameOk does; the code reads afterwards as it read before; no condition. -/
import Derived.Test.YtdkjiopgegjhgaaRows
import Derived.WalkKit
import Derived.ProofKit
import Derived.OpenShut
import Derived.ShutString
import Derived.ChangeOld
import Derived.Below
import Derived.Test.YtdkjiopgegjhgaaNames
import Derived.Test.YtdkjiopgegjhgaaSigned
import Derived.Test.YtdkjiopgegjhgaaRd
namespace Go.Proofs.Ytdkjiopgegjhgaa.fnSigned
open Go.ChangeShapes Go.WideShapes Go.ChangeAt Go.RowKit
open Go.ChangeMaps (open_string shut_string)
set_option linter.unusedVariables false

theorem own : ownKnob Try.prog.godebug = none := by kernel_rfl
theorem laidOut : laidOutB Try.prog = true := by kernel_rfl

/-- WHAT THE WALK IS TOLD OF A SLICE OF INTEGERS THAT CAME IN: it is nil; or it leads to a row of 'cap' cells, the numbers 'zs' (the first 'len' are its elements, the rest its spare room), each fitting its kind. -/
def IsRow (k : IntKind) (w : World) (a : Option Addr) (len cap : Nat) (zs : List Int) : Prop :=
  (a = none ∧ len = 0 ∧ cap = 0 ∧ zs = []) ∨
  ∃ x, a = some x ∧ len ≤ cap ∧ cap ≤ maxLen ∧ zs.length = cap ∧ (∀ i, i < zs.length → w.cell? (x.add i) = some (.int k (zs.getD i 0))) ∧ ∀ n ∈ zs, (Lit.int k n).wf = true

open Rdr (Rd Post)
theorem toRow {k : IntKind} {w : World} {a : Option Addr} {len cap : Nat} {zs : List Int} (h : IsRow k w a len cap zs) : Rdr.IsRow k w a len cap zs := h

theorem drawSigned_any (a : Option Addr) (len cap : Nat) (zs : List Int) (w : World) (h : Rdr.IsRow .u8 w a len cap zs) :
    Calls Try.prog 5 #[.slice a len cap] w fun e w' => (∃ x : Int, (Lit.int .i64 x).wf = true ∧ e = .returned (.int .i64 x)) ∧ Below w.heap.size w w' := by
  have H : Hid (Rdr.IsRow .u8 w a len cap zs) := h
  clear h
  go_enter Try.func5, Try.ntmps5
  go_wp2_with fail
  refine (Rdr.open_any _ _ _ _ _ H.out).mono ?_
  rintro e w1 ⟨rfl, hr, hb⟩
  go_wp2_with fail
  refine (Rdr.once_any _ _ _ hr (by decide) (by decide)).mono ?_
  rintro e w2 ⟨⟨x, rfl⟩, hp⟩
  have hz := hb.size
  cases x with
  | true =>
    go_wp2_with fail
    refine (Rdr.off_any _ _ _ _ hp.1 (by decide) (by decide) (by decide)).mono ?_
    rintro e w3 ⟨⟨x, hx, rfl⟩, hp'⟩
    go_wp2
    go_ret
    exact ⟨⟨x, hx, rfl⟩, hb.trans ((hp.trans hp').below (Nat.le_refl _) hz)⟩
  | false =>
    go_wp2_with fail
    refine (Rdr.byte_any _ _ hp.1).mono ?_
    rintro e w3 ⟨⟨x, x0, x1, rfl⟩, hp'⟩
    go_wp2
    go_ret
    exact ⟨⟨x, Rdr.wf_small (by omega) (by omega), rfl⟩, hb.trans ((hp.trans hp').below (Nat.le_refl _) hz)⟩

theorem drawName_any (a : Option Addr) (len cap : Nat) (zs : List Int) (w : World) (h : Rdr.IsRow .u8 w a len cap zs) :
    Calls Try.prog 7 #[.slice a len cap] w fun e w' => (∃ s : ByteArray, s.size ≤ maxLen ∧ e = .returned (.string s)) ∧ Below w.heap.size w w' := by
  have H : Hid (Rdr.IsRow .u8 w a len cap zs) := h
  clear h
  go_enter Try.func7, Try.ntmps7
  go_wp2_with fail
  refine (Rdr.open_any _ _ _ _ _ H.out).mono ?_
  rintro e w1 ⟨rfl, hr, hb⟩
  go_wp2_with fail
  refine (Rdr.below_any _ _ _ ((Post.refl hr).alloc _).1 (by decide) (by decide)).mono ?_
  rintro e w2 ⟨⟨y, y0, y1, rfl⟩, hp'⟩
  have hz := hb.size
  have hl := hr.lt
  have hc : ∃ s : ByteArray, s.size ≤ maxLen ∧ w2.cell? ⟨w1.heap.size, y.toNat, none⟩ = some (.string s) := by
    have e := fun i : Nat => (World.cell?_of_block (a := ⟨w1.heap.size, i, none⟩) (hp'.2.block _ (by simp) (fun e => by have : w1.heap.size = w.heap.size := Option.some.inj e; omega))).trans (World.cell?_alloc_new _ _ _ _)
    have hy : y = 0 ∨ y = 1 ∨ y = 2 ∨ y = 3 ∨ y = 4 ∨ y = 5 ∨ y = 6 ∨ y = 7 ∨ y = 8 := by omega
    rcases hy with rfl | rfl | rfl | rfl | rfl | rfl | rfl | rfl | rfl
    · exact ⟨_, by decide, e 0⟩
    · exact ⟨_, by decide, e 1⟩
    · exact ⟨_, by decide, e 2⟩
    · exact ⟨_, by decide, e 3⟩
    · exact ⟨_, by decide, e 4⟩
    · exact ⟨_, by decide, e 5⟩
    · exact ⟨_, by decide, e 6⟩
    · exact ⟨_, by decide, e 7⟩
    · exact ⟨_, by decide, e 8⟩
  obtain ⟨s, hs, hc⟩ := hc
  go_wp2
  go_ret
  exact ⟨⟨s, hs, rfl⟩, hb.trans ((((Post.refl hr).alloc _).trans hp').below (Nat.le_refl _) hz)⟩
/-! ### STEP 1: THE WALK: the Go text returns true, AND WRITES NOTHING THAT WAS THERE: 'Below w.heap.size w w'' (Derived/Below.lean: '.refl', '.alloc', '.drew', '.setCell' at a new block, '.trans'). Open each 'IsRow' by 'rcases' AHEAD of 'go_enter'; part every test ahead of the walk. -/
theorem walk (a0 : Option Addr) (len0 cap0 : Nat) (z0 : List Int) (w : World) (w0 : IsRow .u8 w a0 len0 cap0 z0) :
    Calls Try.prog 3 #[.slice a0 len0 cap0] w fun e w' => e = .returned (.bool true) ∧ Below w.heap.size w w' := by
  have H : Hid (Rdr.IsRow .u8 w a0 len0 cap0 z0) := toRow w0
  clear w0
  have cb := Rdr.big_any a0 len0 cap0 w H.out.len
  by_cases hbig : Rdr.bigB len0 = true
  · rw [hbig] at cb
    go_enter Try.func3, Try.ntmps3
    go_wp2_with (go_at_call 4; refine cb.mono ?_; rintro e w' ⟨rfl, rfl⟩)
    go_ret
    exact ⟨rfl, Below.refl _ _⟩
  · have hbig : Rdr.bigB len0 = false := by simpa using hbig
    rw [hbig] at cb
    go_enter Try.func3, Try.ntmps3
    go_wp2_with fail
    refine cb.mono ?_
    rintro e w' ⟨rfl, rfl⟩
    go_wp2_with fail
    refine (drawSigned_any _ _ _ _ _ H.out).mono ?_
    rintro e w1 ⟨⟨b, hb, rfl⟩, hB1⟩
    go_wp2_with fail
    refine (Signed.implSigned_any _ _).mono ?_
    rintro e w1' ⟨rfl, rfl⟩
    go_wp2_with fail
    refine (drawName_any _ _ _ _ _ (H.out.below hB1)).mono ?_
    rintro e w2 ⟨⟨s, hs, rfl⟩, hB2⟩
    have HB : Hid (Below w'.heap.size w' w2) := hB1.trans (hB2.mono hB1.size)
    have HW : Hid ((Lit.int .i64 b).wf = true) := hb
    clear hB1 hB2 hb
    by_cases hin : b < 0 ∨ 255 < b
    · rcases hin with hlo | hhi
      all_goals
        go_wp2_with (first | (go_at_call 8; refine (Signed.specSigned_any _ _).mono ?_; rintro e w' ⟨rfl, rfl⟩) | (go_at_call 9; refine (Names.implName_any _ _ hs).mono ?_; rintro e w' ⟨rfl, rfl⟩) | (go_at_call 10; refine (Names.specName_any _ _ hs).mono ?_; rintro e w' ⟨rfl, rfl⟩))
        go_ret
        exact ⟨rfl, HB.out⟩
    · have hlo : 0 ≤ b := by omega
      have hhi : b ≤ 255 := by omega
      have d1 : decide (255 < b) = false := decide_eq_false (by omega)
      obtain ⟨s0, s1, st⟩ : -128 ≤ Signed.sgn b ∧ Signed.sgn b ≤ 127 ∧ ((Signed.sgn b - b).tmod 256 == 0) = true := by
        have e : Signed.sgn b = b ∧ b ≤ 127 ∨ Signed.sgn b = b - 256 ∧ 127 < b := by
          unfold Signed.sgn
          rw [if_neg hin]
          by_cases h : 127 < b
          · exact .inr ⟨if_pos h, h⟩
          · exact .inl ⟨if_neg h, by omega⟩
        rcases e with ⟨e, h⟩ | ⟨e, h⟩
        · rw [e, Int.sub_self]; exact ⟨by omega, h, rfl⟩
        · rw [e, show b - 256 - b = -256 by omega]; exact ⟨by omega, by omega, rfl⟩
      clear hin
      go_wp2_with (first | (go_at_call 8; refine (Signed.specSigned_any _ _).mono ?_; rintro e w' ⟨rfl, rfl⟩) | (go_at_call 9; refine (Names.implName_any _ _ hs).mono ?_; rintro e w' ⟨rfl, rfl⟩) | (go_at_call 10; refine (Names.specName_any _ _ hs).mono ?_; rintro e w' ⟨rfl, rfl⟩))
      go_ret
      exact ⟨rfl, HB.out⟩

/-! ### THE ROW's STEP: WRITTEN OUT: LEAVE IT -/
set_option maxRecDepth 100000 in
theorem lifted (os : Os) (started : os.Started) (H : Type) (enc : TypeId × Value → H) :
    ReturnsInHanded {} Try.checked os 3 .any (Rows.fnSignedSpec.pre6 enc Try.prog Try.f3 Rows.fnSignedRow.domain false) (Rows.fnSignedSpec.post enc Try.prog Try.f3 false true false false) := by
  refine returnsInHanded_of_change (C := Try.checked) own started (by kernel_rfl) Try.func3
    (ChangeSpec.witness6 (enc := enc) (C := Try.checked) false ⟨#[], #[.slice none 0 0], []⟩ 8 (by kernel_rfl) (by kernel_rfl) (by kernel_rfl) (by kernel_rfl)) ?_
  intro W base args ds gs before hval0 hW hcnd _
  have hval : ∀ (j : Nat) t v, Try.f3.params[j]? = some t → args[j]? = some v → Value.okWide Try.prog W .any base t v := hval0
  have hW' := hW
  obtain ⟨p, q, hA0, hV, rfl, hfz, hnd⟩ := hW
  have hA : DataW.TrodAll enc Try.prog W 0 (fun _ => true) true Try.f3.params.toList args.toList ds p := hA0
  rw [Try.params3] at hA hval
  obtain ⟨v0, vs0, d0, ds0, p0, q0, hargs, rfl, rfl, h0, r0⟩ := trodAll_cons hA
  obtain ⟨rfl, rfl, rfl⟩ := trodAll_nil r0
  obtain rfl : args = #[v0] := by cases args; simp_all
  obtain ⟨rfl, rfl⟩ := trodVars_none hV
  obtain ⟨a0, len0, cap0, rfl⟩ := okWide_slice Try.underlying22 (hval 0 22 v0 rfl rfl)
  have k0 := h0
  have lt0 : ∀ x ∈ p0, x.block < W.heap.size := by obtain ⟨m, hm⟩ := k0; exact DataW.trod_lt m _ _ _ hm
  obtain ⟨z0, w0⟩ : ∃ zs, IsRow .u8 W a0 len0 cap0 zs := by
    obtain ⟨fuel, hf⟩ := h0
    rcases open_ints Try.underlying22 Try.underlying5 (by kernel_rfl) hf with ⟨hcs, _⟩ | ⟨x, l, c, zs, hcs, _, hl, hm, hz, _, hcell, hwz⟩
    · simp [Value.cells] at hcs
      obtain ⟨rfl, rfl, rfl⟩ := hcs
      exact ⟨[], .inl ⟨rfl, rfl, rfl, rfl⟩⟩
    · simp [Value.cells] at hcs
      obtain ⟨rfl, rfl, rfl⟩ := hcs
      exact ⟨zs, .inr ⟨_, rfl, hl, hm, by simpa using hz, hcell, hwz⟩⟩
  clear hA0 hval0
  refine (walk a0 len0 cap0 z0 W w0).mono fun e W' ⟨he, bel⟩ => ?_
  subst he
  exact ⟨_, rfl, _, _, _, [], _, [], hW', trodAll_mk1 (shut_bool Try.underlying4 _), (trodAll_cons_mk (Below.trod laidOut (by kernel_rfl) (of_decide_eq_true (by kernel_rfl)) k0 bel lt0) trodAll_mk0), rfl, bel.frame _, fun h => by cases h⟩

theorem over : Rows.fnSignedRow.holds Try.pinned (OpenSpec.ofChange Rows.fnSignedSpec) :=
  OpenClaim.holds_of_wide 3 Try.f3 rfl rfl rfl rfl rfl rfl rfl ⟨rfl, rfl, rfl, rfl, rfl⟩ rfl rfl rfl rfl rfl (by kernel_rfl) Try.func3 (by kernel_rfl)
    (of_decide_eq_true (by kernel_rfl)) (by unfold Func.isWrapper; first | (rw [if_pos (by decide +kernel)]; kernel_rfl) | (rw [if_neg (by decide +kernel)]; exact ⟨rfl, rfl⟩))
    (fun os started H enc _ => lifted os started H enc)

/-- ████ THE STATEMENT ████ -/
theorem proved : Rows.FnSignedSaid := over
end Go.Proofs.Ytdkjiopgegjhgaa.fnSigned
namespace Go.Proofs.Ytdkjiopgegjhgaa
theorem fnSigned_holds : Rows.FnSignedSaid := fnSigned.proved
end Go.Proofs.Ytdkjiopgegjhgaa
