/- For every code the law FnTurned answers true: of the drawn op, byte and flags impl.Turned answers as spec.Turned does, turned there and back a byte is what it was, and turned eight times one way, through the carry nine times; the code reads afterwards as it read before; no condition. -/
import Derived.Test.YtmdaieopnapbgaaRows
import Derived.WalkKit
import Derived.ProofKit
import Derived.OpenShut
import Derived.ShutString
import Derived.ChangeOld
import Derived.Below
import Derived.Test.YtmdaieopnapbgaaTurns
namespace Go.Proofs.Ytmdaieopnapbgaa.fnTurned
open Go.ChangeShapes Go.WideShapes Go.ChangeAt Go.RowKit
open Go.ChangeMaps (open_string shut_string)
set_option linter.unusedVariables false

theorem own : ownKnob Try.prog.godebug = none := by kernel_rfl
theorem laidOut : laidOutB Try.prog = true := by kernel_rfl

/-- WHAT THE WALK IS TOLD OF A SLICE OF INTEGERS THAT CAME IN: it is nil; or it leads to a row of 'cap' cells, the numbers 'zs' (the first 'len' are its elements, the rest its spare room), each fitting its kind. -/
def IsRow (k : IntKind) (w : World) (a : Option Addr) (len cap : Nat) (zs : List Int) : Prop :=
  (a = none ∧ len = 0 ∧ cap = 0 ∧ zs = []) ∨
  ∃ x, a = some x ∧ len ≤ cap ∧ cap ≤ maxLen ∧ zs.length = cap ∧ (∀ i, i < zs.length → w.cell? (x.add i) = some (.int k (zs.getD i 0))) ∧ ∀ n ∈ zs, (Lit.int k n).wf = true

open Reck ReckS ReckM TurnS Alus Bits Turns
set_option maxHeartbeats 1000000
theorem toRow {k : IntKind} {w : World} {a : Option Addr} {len cap : Nat} {zs : List Int} (h : IsRow k w a len cap zs) : Rdr.IsRow k w a len cap zs := h
/-! ### STEP 1: THE WALK: the Go text returns true, AND WRITES NOTHING THAT WAS THERE: 'Below w.heap.size w w'' (Derived/Below.lean: '.refl', '.alloc', '.drew', '.setCell' at a new block, '.trans'). Open each 'IsRow' by 'rcases' AHEAD of 'go_enter'; part every test ahead of the walk. -/
theorem walk (a0 : Option Addr) (len0 cap0 : Nat) (z0 : List Int) (w : World) (w0 : IsRow .u8 w a0 len0 cap0 z0) :
    Calls Try.prog 7 #[.slice a0 len0 cap0] w fun e w' => e = .returned (.bool true) ∧ Below w.heap.size w w' := by
  have H : Hid (Rdr.IsRow .u8 w a0 len0 cap0 z0) := toRow w0
  clear w0
  have cb := Rdr.big_any a0 len0 cap0 w H.out.len
  by_cases hbig : Rdr.bigB len0 = true
  · rw [hbig] at cb
    go_enter Try.func7, Try.ntmps7
    go_wp2_with (go_at_call 11; refine cb.mono ?_; rintro e w' ⟨rfl, rfl⟩)
    go_ret
    exact ⟨rfl, Below.refl _ _⟩
  have hbig : Rdr.bigB len0 = false := by simpa using hbig
  rw [hbig] at cb
  go_enter Try.func7, Try.ntmps7
  go_wp2_with fail
  refine cb.mono ?_
  rintro e wa ⟨rfl, rfl⟩
  go_wp2_with fail
  refine (DrawR.drawTurned_any _ _ _ _ _ H.out).mono ?_
  rintro e w1 ⟨⟨op, v, f, ho, hv, hf, rfl⟩, hB1⟩
  clear ho hv hf
  go_wp2_with fail
  refine (TurnI.implTurned_any _ _ _ _).mono ?_
  rintro e w2 ⟨rfl, hB2⟩
  have HB : Hid (Below wa.heap.size wa w2) := hB1.trans (hB2.mono hB1.size)
  clear hB1 hB2
  go_wp2_with fail
  refine (specTurned_any _ _ _ _).mono ?_
  rintro e w2 ⟨rfl, rfl⟩
  by_cases t0 : op < 0
  · go_wp2
    go_ret
    exact ⟨rfl, HB.out⟩
  have d0 : decide (op < 0) = false := decide_eq_false t0
  by_cases t1 : 3 < op
  · go_wp2
    go_ret
    exact ⟨rfl, HB.out⟩
  have d1 : decide (3 < op) = false := decide_eq_false t1
  by_cases t2 : v < 0
  · go_wp2
    go_ret
    exact ⟨rfl, HB.out⟩
  have d2 : decide (v < 0) = false := decide_eq_false t2
  by_cases t3 : 255 < v
  · go_wp2
    go_ret
    exact ⟨rfl, HB.out⟩
  have d3 : decide (255 < v) = false := decide_eq_false t3
  by_cases t4 : f < 0
  · go_wp2
    go_ret
    exact ⟨rfl, HB.out⟩
  have d4 : decide (f < 0) = false := decide_eq_false t4
  by_cases t5 : 255 < f
  · go_wp2
    go_ret
    exact ⟨rfl, HB.out⟩
  have d5 : decide (255 < f) = false := decide_eq_false t5
  have v0 : 0 ≤ v := by omega
  have v1 : v ≤ 255 := by omega
  have f0 : 0 ≤ f := by omega
  have f1 : f ≤ 255 := by omega
  obtain ⟨r1, r2, r3, r4, r5, r6, r7, r8⟩ := round_facts (f := f) v0 v1
  have ho : op = 0 ∨ op = 1 ∨ op = 2 ∨ op = 3 := by omega
  rcases ho with rfl | rfl | rfl | rfl
  · obtain ⟨n1, n2, n3, n4, g3, g4⟩ := turn_one (op := 0) (by decide) (by decide) v0 v1 f0 f1
    have xo : bits .xor .i64 0 1 = 1 := by decide
    have bk : (trn 1 (trn 0 v f).1 (trn 0 v f).2).1 = v := by
      rw [(turn_one (op := 1) (by decide) (by decide) n3 n4 g3 g4).1, n2, n1]; exact r5
    have HR : Hid ((spin 0 8 (v, cy f)).1 = v) := r1
    clear r1 r2 r3 r4 r5 r6 r7 r8 n1 n2
    go_wp2_with fail
    refine (TurnI.implTurned_any _ _ _ _).mono ?_
    rintro e w3 ⟨rfl, hB3⟩
    have HC : Hid (Below wa.heap.size wa w3) := HB.out.trans (hB3.mono HB.out.size)
    clear hB3
    rw [bk]
    go_wp2_with fail
    go_loopw [12, 13, 15] (fun x h i wr => ∃ (k : Nat) (hh : Int), k ≤ 8 ∧ i = .int .i64 k ∧ x = .int .i64 (spin 0 k (v, cy f)).1 ∧ h = .int .i64 hh ∧ 0 ≤ hh ∧ hh ≤ 255 ∧ 0 ≤ (spin 0 k (v, cy f)).1 ∧ (spin 0 k (v, cy f)).1 ≤ 255 ∧ Hid (cy hh = (spin 0 k (v, cy f)).2) ∧ Hid (Below wa.heap.size wa wr)) (fun _ _ i _ => 8 - (intOf i).toNat)
    case atStart => exact ⟨0, f, by decide, rfl, rfl, rfl, f0, f1, v0, v1, rfl, HC⟩
    case round =>
      obtain ⟨k, hh, hk, rfl, rfl, rfl, h0, h1, x0, x1, hc, hbel⟩ := hrel
      by_cases hlt : k < 8
      · obtain ⟨m1, m2, m3, m4, m5, m6⟩ := turn_one (op := 0) (by decide) (by decide) x0 x1 h0 h1
        rw [hc.out] at m1 m2
        have e1 : spin 0 (k + 1) (v, cy f) = trnP 0 (spin 0 k (v, cy f)).1 (spin 0 k (v, cy f)).2 := spin_succ _ _ _
        go_wp2_with fail
        refine (TurnI.implTurned_any _ _ _ _).mono ?_
        rintro e w4 ⟨rfl, hB4⟩
        go_wp2
        go_roundw
        case rel => exact ⟨k + 1, _, by omega, by go_num, by rw [e1, ← m1], rfl, m5, m6, by rw [e1, ← m1]; exact m3, by rw [e1, ← m1]; exact m4, by rw [e1]; exact m2, hbel.out.trans (hB4.mono hbel.out.size)⟩
        case measure => simp [intOf]; omega
      · obtain rfl : k = 8 := by omega
        have sx : (spin 0 8 (v, cy f)).1 = v := HR.out
        go_wp2
        go_ret
        exact ⟨rfl, hbel.out⟩
  · obtain ⟨n1, n2, n3, n4, g3, g4⟩ := turn_one (op := 1) (by decide) (by decide) v0 v1 f0 f1
    have xo : bits .xor .i64 1 1 = 0 := by decide
    have bk : (trn 0 (trn 1 v f).1 (trn 1 v f).2).1 = v := by
      rw [(turn_one (op := 0) (by decide) (by decide) n3 n4 g3 g4).1, n2, n1]; exact r6
    have HR : Hid ((spin 1 8 (v, cy f)).1 = v) := r2
    clear r1 r2 r3 r4 r5 r6 r7 r8 n1 n2
    go_wp2_with fail
    refine (TurnI.implTurned_any _ _ _ _).mono ?_
    rintro e w3 ⟨rfl, hB3⟩
    have HC : Hid (Below wa.heap.size wa w3) := HB.out.trans (hB3.mono HB.out.size)
    clear hB3
    rw [bk]
    go_wp2_with fail
    go_loopw [12, 13, 15] (fun x h i wr => ∃ (k : Nat) (hh : Int), k ≤ 8 ∧ i = .int .i64 k ∧ x = .int .i64 (spin 1 k (v, cy f)).1 ∧ h = .int .i64 hh ∧ 0 ≤ hh ∧ hh ≤ 255 ∧ 0 ≤ (spin 1 k (v, cy f)).1 ∧ (spin 1 k (v, cy f)).1 ≤ 255 ∧ Hid (cy hh = (spin 1 k (v, cy f)).2) ∧ Hid (Below wa.heap.size wa wr)) (fun _ _ i _ => 8 - (intOf i).toNat)
    case atStart => exact ⟨0, f, by decide, rfl, rfl, rfl, f0, f1, v0, v1, rfl, HC⟩
    case round =>
      obtain ⟨k, hh, hk, rfl, rfl, rfl, h0, h1, x0, x1, hc, hbel⟩ := hrel
      by_cases hlt : k < 8
      · obtain ⟨m1, m2, m3, m4, m5, m6⟩ := turn_one (op := 1) (by decide) (by decide) x0 x1 h0 h1
        rw [hc.out] at m1 m2
        have e1 : spin 1 (k + 1) (v, cy f) = trnP 1 (spin 1 k (v, cy f)).1 (spin 1 k (v, cy f)).2 := spin_succ _ _ _
        go_wp2_with fail
        refine (TurnI.implTurned_any _ _ _ _).mono ?_
        rintro e w4 ⟨rfl, hB4⟩
        go_wp2
        go_roundw
        case rel => exact ⟨k + 1, _, by omega, by go_num, by rw [e1, ← m1], rfl, m5, m6, by rw [e1, ← m1]; exact m3, by rw [e1, ← m1]; exact m4, by rw [e1]; exact m2, hbel.out.trans (hB4.mono hbel.out.size)⟩
        case measure => simp [intOf]; omega
      · obtain rfl : k = 8 := by omega
        have sx : (spin 1 8 (v, cy f)).1 = v := HR.out
        go_wp2
        go_ret
        exact ⟨rfl, hbel.out⟩
  · obtain ⟨n1, n2, n3, n4, g3, g4⟩ := turn_one (op := 2) (by decide) (by decide) v0 v1 f0 f1
    have xo : bits .xor .i64 2 1 = 3 := by decide
    have bk : (trn 3 (trn 2 v f).1 (trn 2 v f).2).1 = v := by
      rw [(turn_one (op := 3) (by decide) (by decide) n3 n4 g3 g4).1, n2, n1]; exact r7
    have HR : Hid (spin 2 9 (v, cy f) = (v, cy f)) := r3
    clear r1 r2 r3 r4 r5 r6 r7 r8 n1 n2
    go_wp2_with fail
    refine (TurnI.implTurned_any _ _ _ _).mono ?_
    rintro e w3 ⟨rfl, hB3⟩
    have HC : Hid (Below wa.heap.size wa w3) := HB.out.trans (hB3.mono HB.out.size)
    clear hB3
    rw [bk]
    go_wp2_with fail
    go_loopw [12, 13, 15] (fun x h i wr => ∃ (k : Nat) (hh : Int), k ≤ 9 ∧ i = .int .i64 k ∧ x = .int .i64 (spin 2 k (v, cy f)).1 ∧ h = .int .i64 hh ∧ 0 ≤ hh ∧ hh ≤ 255 ∧ 0 ≤ (spin 2 k (v, cy f)).1 ∧ (spin 2 k (v, cy f)).1 ≤ 255 ∧ Hid (cy hh = (spin 2 k (v, cy f)).2) ∧ Hid (Below wa.heap.size wa wr)) (fun _ _ i _ => 9 - (intOf i).toNat)
    case atStart => exact ⟨0, f, by decide, rfl, rfl, rfl, f0, f1, v0, v1, rfl, HC⟩
    case round =>
      obtain ⟨k, hh, hk, rfl, rfl, rfl, h0, h1, x0, x1, hc, hbel⟩ := hrel
      by_cases hlt : k < 9
      · obtain ⟨m1, m2, m3, m4, m5, m6⟩ := turn_one (op := 2) (by decide) (by decide) x0 x1 h0 h1
        rw [hc.out] at m1 m2
        have e1 : spin 2 (k + 1) (v, cy f) = trnP 2 (spin 2 k (v, cy f)).1 (spin 2 k (v, cy f)).2 := spin_succ _ _ _
        go_wp2_with fail
        refine (TurnI.implTurned_any _ _ _ _).mono ?_
        rintro e w4 ⟨rfl, hB4⟩
        go_wp2
        go_roundw
        case rel => exact ⟨k + 1, _, by omega, by go_num, by rw [e1, ← m1], rfl, m5, m6, by rw [e1, ← m1]; exact m3, by rw [e1, ← m1]; exact m4, by rw [e1]; exact m2, hbel.out.trans (hB4.mono hbel.out.size)⟩
        case measure => simp [intOf]; omega
      · obtain rfl : k = 9 := by omega
        have sx : (spin 2 9 (v, cy f)).1 = v := by rw [HR.out]
        have sh : hh / 16 % 2 = f / 16 % 2 := by have q := hc.out; rw [HR.out] at q; exact q
        go_wp2
        go_ret
        exact ⟨rfl, hbel.out⟩
  · obtain ⟨n1, n2, n3, n4, g3, g4⟩ := turn_one (op := 3) (by decide) (by decide) v0 v1 f0 f1
    have xo : bits .xor .i64 3 1 = 2 := by decide
    have bk : (trn 2 (trn 3 v f).1 (trn 3 v f).2).1 = v := by
      rw [(turn_one (op := 2) (by decide) (by decide) n3 n4 g3 g4).1, n2, n1]; exact r8
    have HR : Hid (spin 3 9 (v, cy f) = (v, cy f)) := r4
    clear r1 r2 r3 r4 r5 r6 r7 r8 n1 n2
    go_wp2_with fail
    refine (TurnI.implTurned_any _ _ _ _).mono ?_
    rintro e w3 ⟨rfl, hB3⟩
    have HC : Hid (Below wa.heap.size wa w3) := HB.out.trans (hB3.mono HB.out.size)
    clear hB3
    rw [bk]
    go_wp2_with fail
    go_loopw [12, 13, 15] (fun x h i wr => ∃ (k : Nat) (hh : Int), k ≤ 9 ∧ i = .int .i64 k ∧ x = .int .i64 (spin 3 k (v, cy f)).1 ∧ h = .int .i64 hh ∧ 0 ≤ hh ∧ hh ≤ 255 ∧ 0 ≤ (spin 3 k (v, cy f)).1 ∧ (spin 3 k (v, cy f)).1 ≤ 255 ∧ Hid (cy hh = (spin 3 k (v, cy f)).2) ∧ Hid (Below wa.heap.size wa wr)) (fun _ _ i _ => 9 - (intOf i).toNat)
    case atStart => exact ⟨0, f, by decide, rfl, rfl, rfl, f0, f1, v0, v1, rfl, HC⟩
    case round =>
      obtain ⟨k, hh, hk, rfl, rfl, rfl, h0, h1, x0, x1, hc, hbel⟩ := hrel
      by_cases hlt : k < 9
      · obtain ⟨m1, m2, m3, m4, m5, m6⟩ := turn_one (op := 3) (by decide) (by decide) x0 x1 h0 h1
        rw [hc.out] at m1 m2
        have e1 : spin 3 (k + 1) (v, cy f) = trnP 3 (spin 3 k (v, cy f)).1 (spin 3 k (v, cy f)).2 := spin_succ _ _ _
        go_wp2_with fail
        refine (TurnI.implTurned_any _ _ _ _).mono ?_
        rintro e w4 ⟨rfl, hB4⟩
        go_wp2
        go_roundw
        case rel => exact ⟨k + 1, _, by omega, by go_num, by rw [e1, ← m1], rfl, m5, m6, by rw [e1, ← m1]; exact m3, by rw [e1, ← m1]; exact m4, by rw [e1]; exact m2, hbel.out.trans (hB4.mono hbel.out.size)⟩
        case measure => simp [intOf]; omega
      · obtain rfl : k = 9 := by omega
        have sx : (spin 3 9 (v, cy f)).1 = v := by rw [HR.out]
        have sh : hh / 16 % 2 = f / 16 % 2 := by have q := hc.out; rw [HR.out] at q; exact q
        go_wp2
        go_ret
        exact ⟨rfl, hbel.out⟩

/-! ### THE ROW's STEP: WRITTEN OUT: LEAVE IT -/
set_option maxRecDepth 100000 in
theorem lifted (os : Os) (started : os.Started) (H : Type) (enc : TypeId × Value → H) :
    ReturnsInHanded {} Try.checked os 7 .any (Rows.fnTurnedSpec.pre6 enc Try.prog Try.f7 Rows.fnTurnedRow.domain false) (Rows.fnTurnedSpec.post enc Try.prog Try.f7 false true false false) := by
  refine returnsInHanded_of_change (C := Try.checked) own started (by kernel_rfl) Try.func7
    (ChangeSpec.witness6 (enc := enc) (C := Try.checked) false ⟨#[], #[.slice none 0 0], []⟩ 8 (by kernel_rfl) (by kernel_rfl) (by kernel_rfl) (by kernel_rfl)) ?_
  intro W base args ds gs before hval0 hW hcnd _
  have hval : ∀ (j : Nat) t v, Try.f7.params[j]? = some t → args[j]? = some v → Value.okWide Try.prog W .any base t v := hval0
  have hW' := hW
  obtain ⟨p, q, hA0, hV, rfl, hfz, hnd⟩ := hW
  have hA : DataW.TrodAll enc Try.prog W 0 (fun _ => true) true Try.f7.params.toList args.toList ds p := hA0
  rw [Try.params7] at hA hval
  obtain ⟨v0, vs0, d0, ds0, p0, q0, hargs, rfl, rfl, h0, r0⟩ := trodAll_cons hA
  obtain ⟨rfl, rfl, rfl⟩ := trodAll_nil r0
  obtain rfl : args = #[v0] := by cases args; simp_all
  obtain ⟨rfl, rfl⟩ := trodVars_none hV
  obtain ⟨a0, len0, cap0, rfl⟩ := okWide_slice Try.underlying22 (hval 0 22 v0 rfl rfl)
  have k0 := h0
  have lt0 : ∀ x ∈ p0, x.block < W.heap.size := by obtain ⟨m, hm⟩ := k0; exact DataW.trod_lt m _ _ _ hm
  obtain ⟨z0, w0⟩ : ∃ zs, IsRow .u8 W a0 len0 cap0 zs := by
    obtain ⟨fuel, hf⟩ := h0
    rcases open_ints Try.underlying22 Try.underlying5 (by kernel_rfl) hf with ⟨hcs, _⟩ | ⟨x, l, c, zs, hcs, _, hl, hm, hz, _, hcell, hwz⟩
    · simp [Value.cells] at hcs
      obtain ⟨rfl, rfl, rfl⟩ := hcs
      exact ⟨[], .inl ⟨rfl, rfl, rfl, rfl⟩⟩
    · simp [Value.cells] at hcs
      obtain ⟨rfl, rfl, rfl⟩ := hcs
      exact ⟨zs, .inr ⟨_, rfl, hl, hm, by simpa using hz, hcell, hwz⟩⟩
  clear hA0 hval0
  refine (walk a0 len0 cap0 z0 W w0).mono fun e W' ⟨he, bel⟩ => ?_
  subst he
  exact ⟨_, rfl, _, _, _, [], _, [], hW', trodAll_mk1 (shut_bool Try.underlying4 _), (trodAll_cons_mk (Below.trod laidOut (by kernel_rfl) (of_decide_eq_true (by kernel_rfl)) k0 bel lt0) trodAll_mk0), rfl, bel.frame _, fun h => by cases h⟩

theorem over : Rows.fnTurnedRow.holds Try.pinned (OpenSpec.ofChange Rows.fnTurnedSpec) :=
  OpenClaim.holds_of_wide 7 Try.f7 rfl rfl rfl rfl rfl rfl rfl ⟨rfl, rfl, rfl, rfl, rfl⟩ rfl rfl rfl rfl rfl (by kernel_rfl) Try.func7 (by kernel_rfl)
    (of_decide_eq_true (by kernel_rfl)) (by unfold Func.isWrapper; first | (rw [if_pos (by decide +kernel)]; kernel_rfl) | (rw [if_neg (by decide +kernel)]; exact ⟨rfl, rfl⟩))
    (fun os started H enc _ => lifted os started H enc)

/-- ████ THE STATEMENT ████ -/
theorem proved : Rows.FnTurnedSaid := over
end Go.Proofs.Ytmdaieopnapbgaa.fnTurned
namespace Go.Proofs.Ytmdaieopnapbgaa
theorem fnTurned_holds : Rows.FnTurnedSaid := fnTurned.proved
end Go.Proofs.Ytmdaieopnapbgaa
