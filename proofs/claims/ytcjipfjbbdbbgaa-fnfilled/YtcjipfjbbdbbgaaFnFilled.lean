/- For every row of bytes the law FnFilled answers true: of the line and the args that are drawn of it impl.Filled tells what spec.Filled tells, the line as it was where it has no mark, and the first of args for the first mark alone; the bytes read afterwards as they read before; no condition. -/
import Derived.Test.YtcjipfjbbdbbgaaRows
import Derived.WalkKit
import Derived.ProofKit
import Derived.OpenShut
import Derived.ShutString
import Derived.ChangeOld
import Derived.Below
import Derived.Test.YtcjipfjbbdbbgaaDrawF
namespace Go.Proofs.Ytcjipfjbbdbbgaa.fnFilled
open Go.ChangeShapes Go.WideShapes Go.ChangeAt Go.RowKit
open Go.ChangeMaps (open_string shut_string)
set_option linter.unusedVariables false

theorem own : ownKnob Try.prog.godebug = none := by kernel_rfl
theorem laidOut : laidOutB Try.prog = true := by kernel_rfl

/-- WHAT THE WALK IS TOLD OF A SLICE OF INTEGERS THAT CAME IN: it is nil; or it leads to a row of 'cap' cells, the numbers 'zs' (the first 'len' are its elements, the rest its spare room), each fitting its kind. -/
def IsRow (k : IntKind) (w : World) (a : Option Addr) (len cap : Nat) (zs : List Int) : Prop :=
  (a = none ∧ len = 0 ∧ cap = 0 ∧ zs = []) ∨
  ∃ x, a = some x ∧ len ≤ cap ∧ cap ≤ maxLen ∧ zs.length = cap ∧ (∀ i, i < zs.length → w.cell? (x.add i) = some (.int k (zs.getD i 0))) ∧ ∀ n ∈ zs, (Lit.int k n).wf = true

theorem toRow {k : IntKind} {w : World} {a : Option Addr} {len cap : Nat} {zs : List Int} (h : IsRow k w a len cap zs) : Rdr.IsRow k w a len cap zs := h
theorem no_mark {s : ByteArray} (A : List ByteArray) (h : ∀ j, j < s.size → Fill.numAt s j ≠ 92) : ∀ k, k ≤ s.size → Fill.fill s A k = s.extract k s.size := by
  intro k
  induction hn : s.size - k using Nat.strongRecOn generalizing k with
  | _ n ih =>
    intro hk
    by_cases hlt : k < s.size
    · have hm : Fill.markB s k = false := by unfold Fill.markB; exact decide_eq_false (fun hh => h k hlt hh.1)
      rw [Fill.fill_one hlt hm, ih _ (by omega) (k + 1) rfl hlt, ByteArray.extract_append_extract, show min k (k + 1) = k by omega, show max (k + 1) s.size = s.size by omega]
    · have e : k = s.size := by omega
      rw [Fill.fill_end hlt, e]
      apply ByteArray.ext
      rw [ByteArray.data_extract]
      simp
theorem filled_same {s : ByteArray} {A : List ByteArray} (hs : s.size ≤ 80) (hA : A.length ≤ 3) (hz : ∀ i (h : i < A.length), A[i].size ≤ 80) (h : ∀ j, j < s.size → Fill.numAt s j ≠ 92) : Fill.filled s A = s := by
  have e : Fill.fill s A 0 = s := (no_mark A h 0 (Nat.zero_le _)).trans ByteArray.extract_zero_size
  rw [Fill.filled_yes ⟨hs, by omega, hz, by rw [e]; exact decide_eq_true (by omega)⟩, e]
theorem filled_first {A : List ByteArray} (hA : A.length ≤ 3) (hz : ∀ i (h : i < A.length), A[i].size ≤ 80) : Fill.filled ⟨#[92, 49]⟩ A = Fill.argAt A 0 := by
  have e : Fill.fill ⟨#[92, 49]⟩ A 0 = Fill.argAt A 0 := by
    rw [Fill.fill_mark (by decide) (by decide), Fill.fill_end (by decide), Fill.cat_nil]
    congr 1
  rw [Fill.filled_yes ⟨by decide, by omega, hz, by rw [e]; exact decide_eq_true (by have := Fill.arg_le hz 0; omega)⟩, e]
/-! ### STEP 1: THE WALK: the Go text returns true, AND WRITES NOTHING THAT WAS THERE: 'Below w.heap.size w w'' (Derived/Below.lean: '.refl', '.alloc', '.drew', '.setCell' at a new block, '.trans'). Open each 'IsRow' by 'rcases' AHEAD of 'go_enter'; part every test ahead of the walk. -/
theorem walk (a0 : Option Addr) (len0 cap0 : Nat) (z0 : List Int) (w : World) (w0 : IsRow .u8 w a0 len0 cap0 z0) :
    Calls Try.prog 4 #[.slice a0 len0 cap0] w fun e w' => e = .returned (.bool true) ∧ Below w.heap.size w w' := by
  have H : Hid (Rdr.IsRow .u8 w a0 len0 cap0 z0) := toRow w0
  clear w0
  have cb := Rdr.big_any a0 len0 cap0 w H.out.len
  by_cases hbig : Rdr.bigB len0 = true
  · rw [hbig] at cb
    go_enter Try.func4, Try.ntmps4
    go_wp2_with (go_at_call 5; refine cb.mono ?_; rintro e w' ⟨rfl, rfl⟩)
    go_ret
    exact ⟨rfl, Below.refl _ _⟩
  have hbig : Rdr.bigB len0 = false := by simpa using hbig
  rw [hbig] at cb
  go_enter Try.func4, Try.ntmps4
  go_wp2_with fail
  refine cb.mono ?_
  rintro e w' ⟨rfl, hw'⟩
  have hw' := hw'.symm
  subst hw'
  clear cb
  go_wp2_with fail
  refine (DrawF.drawFilled_any _ _ _ _ _ H.out).mono ?_
  rintro e w1 ⟨⟨s, A, v, B, hs, hA, hz40, own, rfl⟩, hB1⟩
  obtain ⟨x1, cap1, rfl, T1, _⟩ := Txts.owned_texts own
  have B1 : Hid (Below w.heap.size w w1) := hB1
  have T1' : Hid (Txts.Texts w1 x1 A) := T1
  have HZ : Hid (∀ i (h : i < A.length), A[i].size ≤ 80) := fun i h => Nat.le_trans (hz40 i h) (by decide)
  have HZ2 : Hid (∀ i (h : i < A.length), A[i].size ≤ 1048576) := fun i h => Nat.le_trans (hz40 i h) (by decide)
  have HF := (show Hid (Fill.filled ⟨#[92, 49]⟩ A = Fill.argAt A 0) from filled_first hA HZ.out)
  have HS : Hid ((∀ j, j < s.size → Fill.numAt s j ≠ 92) → Fill.filled s A = s) := fun h => filled_same hs hA HZ.out h
  clear hB1 own T1 hz40 H
  go_wp2_with fail
  refine (Fild.impl_any s _ _ A _ T1'.out (by omega) HZ2.out (by omega)).mono ?_
  rintro e w2 ⟨rfl, b2⟩
  have T2 : Hid (Txts.Texts w2 x1 A) := T1'.out.below b2
  have B2 : Hid (Below w.heap.size w w2) := B1.out.trans (b2.mono B1.out.size)
  clear b2 B1 T1'
  generalize hfl : Fill.filled s A = F at HS ⊢
  go_wp2_with fail
  refine (Fild.spec_any s _ _ A _ T2.out (by omega) HZ2.out (by omega)).mono ?_
  rintro e w3 ⟨rfl, hw3⟩
  have hw3 := hw3.symm
  subst hw3
  rw [hfl]
  clear hfl
  go_wp2
  go_loop [6, 7] (fun m i => ∃ (k : Nat) (f : Bool), k ≤ s.size ∧ i = .int .i64 k ∧ m = .bool f ∧ Hid (f = false → ∀ j, j < k → Fill.numAt s j ≠ 92)) (fun _ i => s.size - (intOf i).toNat)
  case atStart => exact ⟨0, false, Nat.zero_le _, rfl, rfl, fun _ j h => absurd h (Nat.not_lt_zero _)⟩
  case round =>
    obtain ⟨k, f, hk, rfl, rfl, hf⟩ := hrel
    by_cases hlt : k < s.size
    · cases f with
      | true =>
        clear hf
        go_wp2
        go_round
        case rel => exact ⟨k + 1, true, by omega, by go_num, rfl, fun h => by cases h⟩
        case measure => simp [intOf]; omega
      | false =>
        have nk := Fill.numAt_of hlt
        by_cases hc : (s[k].toNat : Int) = 92
        · clear hf nk
          go_wp2
          go_round
          case rel => exact ⟨k + 1, true, by omega, by go_num, rfl, fun h => by cases h⟩
          case measure => simp [intOf]; omega
        · have HK : Hid (∀ j, j < k + 1 → Fill.numAt s j ≠ 92) := fun j hj => by
            by_cases e : j = k
            · subst e; rw [nk]; omega
            · exact hf.out rfl j (by omega)
          have hb : ((s[k].toNat : Int) == 92) = false := by simpa using hc
          clear hf nk
          go_wp2
          go_round
          case rel => exact ⟨k + 1, false, by omega, by go_num, rfl, fun _ => HK.out⟩
          case measure => simp [intOf]; omega
    · have HG : Hid (f = false → F = s) := fun h => HS.out (fun j hj => hf.out h j (by omega))
      clear hf HS
      have c1 := Fild.impl_any ⟨#[92, 49]⟩ x1 cap1 A w2 T2.out (by decide) HZ2.out (by omega)
      rw [HF.out] at c1
      have HF' := HF
      clear HF
      go_wp2_with fail
      refine c1.mono ?_
      rintro e w4 ⟨rfl, b4⟩
      have B4 : Hid (Below w.heap.size w w4) := B2.out.trans (b4.mono B2.out.size)
      have T4 : Hid (Txts.Texts w4 x1 A) := T2.out.below b4
      clear b4 B2 T2 c1
      by_cases h0 : 0 < A.length
      · rw [Fill.argAt_of h0]
        rcases T4.out with hnil | ⟨b, off, rfl, hb, hcc⟩
        · rw [hnil] at h0; exact absurd h0 (by simp)
        have c0 : w4.cell? ⟨b, off, none⟩ = some (.string A[0]) := by have := hcc 0 h0; rw [Nat.add_zero] at this; exact this
        have hA' : A.length ≤ 3 := hA
        clear hcc T4 HF' HZ HZ2
        generalize A[0] = y at c0 ⊢
        generalize A.length = n at h0 hA' hA ⊢
        cases f with
        | true =>
          go_wp2
          all_goals go_ret
          all_goals exact ⟨rfl, B4.out⟩
        | false =>
          have e := HG.out rfl
          subst e
          go_wp2
          all_goals go_ret
          all_goals exact ⟨rfl, B4.out⟩
      · rw [Fill.argAt_no h0]
        have e0 : A.length = 0 := by omega
        rw [e0]
        clear T4 HF' HZ HZ2 e0 h0 hA
        cases f with
        | true =>
          go_wp2
          all_goals go_ret
          all_goals exact ⟨rfl, B4.out⟩
        | false =>
          have e := HG.out rfl
          subst e
          go_wp2
          all_goals go_ret
          all_goals exact ⟨rfl, B4.out⟩

/-! ### THE ROW's STEP: WRITTEN OUT: LEAVE IT -/
set_option maxRecDepth 100000 in
theorem lifted (os : Os) (started : os.Started) (H : Type) (enc : TypeId × Value → H) :
    ReturnsInHanded {} Try.checked os 4 .any (Rows.fnFilledSpec.pre6 enc Try.prog Try.f4 Rows.fnFilledRow.domain false) (Rows.fnFilledSpec.post enc Try.prog Try.f4 false true false false) := by
  refine returnsInHanded_of_change (C := Try.checked) own started (by kernel_rfl) Try.func4
    (ChangeSpec.witness6 (enc := enc) (C := Try.checked) false ⟨#[], #[.slice none 0 0], []⟩ 8 (by kernel_rfl) (by kernel_rfl) (by kernel_rfl) (by kernel_rfl)) ?_
  intro W base args ds gs before hval0 hW hcnd _
  have hval : ∀ (j : Nat) t v, Try.f4.params[j]? = some t → args[j]? = some v → Value.okWide Try.prog W .any base t v := hval0
  have hW' := hW
  obtain ⟨p, q, hA0, hV, rfl, hfz, hnd⟩ := hW
  have hA : DataW.TrodAll enc Try.prog W 0 (fun _ => true) true Try.f4.params.toList args.toList ds p := hA0
  rw [Try.params4] at hA hval
  obtain ⟨v0, vs0, d0, ds0, p0, q0, hargs, rfl, rfl, h0, r0⟩ := trodAll_cons hA
  obtain ⟨rfl, rfl, rfl⟩ := trodAll_nil r0
  obtain rfl : args = #[v0] := by cases args; simp_all
  obtain ⟨rfl, rfl⟩ := trodVars_none hV
  obtain ⟨a0, len0, cap0, rfl⟩ := okWide_slice Try.underlying22 (hval 0 22 v0 rfl rfl)
  have k0 := h0
  have lt0 : ∀ x ∈ p0, x.block < W.heap.size := by obtain ⟨m, hm⟩ := k0; exact DataW.trod_lt m _ _ _ hm
  obtain ⟨z0, w0⟩ : ∃ zs, IsRow .u8 W a0 len0 cap0 zs := by
    obtain ⟨fuel, hf⟩ := h0
    rcases open_ints Try.underlying22 Try.underlying5 (by kernel_rfl) hf with ⟨hcs, _⟩ | ⟨x, l, c, zs, hcs, _, hl, hm, hz, _, hcell, hwz⟩
    · simp [Value.cells] at hcs
      obtain ⟨rfl, rfl, rfl⟩ := hcs
      exact ⟨[], .inl ⟨rfl, rfl, rfl, rfl⟩⟩
    · simp [Value.cells] at hcs
      obtain ⟨rfl, rfl, rfl⟩ := hcs
      exact ⟨zs, .inr ⟨_, rfl, hl, hm, by simpa using hz, hcell, hwz⟩⟩
  clear hA0 hval0
  refine (walk a0 len0 cap0 z0 W w0).mono fun e W' ⟨he, bel⟩ => ?_
  subst he
  exact ⟨_, rfl, _, _, _, [], _, [], hW', trodAll_mk1 (shut_bool Try.underlying4 _), (trodAll_cons_mk (Below.trod laidOut (by kernel_rfl) (of_decide_eq_true (by kernel_rfl)) k0 bel lt0) trodAll_mk0), rfl, bel.frame _, fun h => by cases h⟩

theorem over : Rows.fnFilledRow.holds Try.pinned (OpenSpec.ofChange Rows.fnFilledSpec) :=
  OpenClaim.holds_of_wide 4 Try.f4 rfl rfl rfl rfl rfl rfl rfl ⟨rfl, rfl, rfl, rfl, rfl⟩ rfl rfl rfl rfl rfl (by kernel_rfl) Try.func4 (by kernel_rfl)
    (of_decide_eq_true (by kernel_rfl)) (by unfold Func.isWrapper; first | (rw [if_pos (by decide +kernel)]; kernel_rfl) | (rw [if_neg (by decide +kernel)]; exact ⟨rfl, rfl⟩))
    (fun os started H enc _ => lifted os started H enc)

/-- ████ THE STATEMENT ████ -/
theorem proved : Rows.FnFilledSaid := over
end Go.Proofs.Ytcjipfjbbdbbgaa.fnFilled
namespace Go.Proofs.Ytcjipfjbbdbbgaa
theorem fnFilled_holds : Rows.FnFilledSaid := fnFilled.proved
end Go.Proofs.Ytcjipfjbbdbbgaa
