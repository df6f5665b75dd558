/- For every slice of bytes the law FnDiffs answers true, that is, what impl.DiffOf tells of two texts drawn from them is what spec.DiffOf tells, impl.Applied makes the second of the first with it, and of a text and itself ten bytes are told, which make that text of it; the bytes read afterwards as they read before; no condition. -/
import Derived.Test.YtbfjalpkdgepnaaRows
import Derived.WalkKit
import Derived.ProofKit
import Derived.OpenShut
import Derived.ShutString
import Derived.ChangeOld
import Derived.Below
import Derived.Test.YtbfjalpkdgepnaaDrawD
import Derived.Test.YtbfjalpkdgepnaaDifj
import Derived.Test.YtbfjalpkdgepnaaAppk
import Derived.Test.YtbfjalpkdgepnaaDifq
namespace Go.Proofs.Ytbfjalpkdgepnaa.fnDiffs
open Go.ChangeShapes Go.WideShapes Go.ChangeAt Go.RowKit
open Go.ChangeMaps (open_string shut_string)
set_option linter.unusedVariables false

theorem own : ownKnob Try.prog.godebug = none := by kernel_rfl
theorem laidOut : laidOutB Try.prog = true := by kernel_rfl
/-- What the walk is told of a slice of bytes that came in: it is nil; or it leads to a row of cells, the numbers zs, each fitting its kind. -/
def IsRow (k : IntKind) (w : World) (a : Option Addr) (len cap : Nat) (zs : List Int) : Prop :=
  (a = none ∧ len = 0 ∧ cap = 0 ∧ zs = []) ∨
  ∃ x, a = some x ∧ len ≤ cap ∧ cap ≤ maxLen ∧ zs.length = cap ∧ (∀ i, i < zs.length → w.cell? (x.add i) = some (.int k (zs.getD i 0))) ∧ ∀ n ∈ zs, (Lit.int k n).wf = true
theorem toRow {k : IntKind} {w : World} {a : Option Addr} {len cap : Nat} {zs : List Int} (h : IsRow k w a len cap zs) : Rdr.IsRow k w a len cap zs := h

set_option maxHeartbeats 2000000 in
theorem walk (w : World) (a0 : Option Addr) (len0 cap0 : Nat) (z0 : List Int) (w0 : IsRow .u8 w a0 len0 cap0 z0) :
    Calls Try.prog 5 #[.slice a0 len0 cap0] w fun e w' => e = .returned (.bool true) ∧ Below w.heap.size w w' := by
  have H : Hid (Rdr.IsRow .u8 w a0 len0 cap0 z0) := toRow w0
  clear w0
  have cb := Rdr.big_any a0 len0 cap0 w H.out.len
  by_cases hbig : Rdr.bigB len0 = true
  · rw [hbig] at cb
    go_enter Try.func5, Try.ntmps5
    go_wp2_with (go_at_call 11; refine cb.mono ?_; rintro e w' ⟨rfl, rfl⟩)
    go_ret
    exact ⟨rfl, Below.refl _ _⟩
  have hbig : Rdr.bigB len0 = false := by simpa using hbig
  rw [hbig] at cb
  go_enter Try.func5, Try.ntmps5
  go_wp2_with fail
  refine cb.mono ?_
  rintro e w' ⟨rfl, rfl⟩
  go_wp2_with fail
  refine (DrawD.drawDiff_any _ _ _ _ _ H.out).mono ?_
  rintro e v1 ⟨⟨a, b, rfl, hs, ht⟩, hb1⟩
  have B1 : Hid (Below w'.heap.size w' v1) := hb1
  clear hb1
  have ci := fun w => callsIn_wide.1 (Difj.diff_in a b w (by omega) (by omega))
  have cs := fun w => Difs.specDiff_any a b w (by omega) (by omega)
  have hz := DrawD.out_le a b
  obtain ⟨p1, p2, p3⟩ := Difq.back (a := a) (b := b) (by omega) (by omega) (by omega)
  have ca := fun w => callsIn_wide.1 (Appk.applied_in a (Difp.outV a b) w (by omega) (by omega))
  rw [p2, p3] at ca
  rw [p1] at ci cs
  generalize Difp.outV a b = d at *
  have hz2 := Difq.same_size (a := a) (by omega)
  obtain ⟨s1, s2, s3⟩ := Difq.back (a := a) (b := a) (by omega) (by omega) (by omega)
  have cd := fun w => callsIn_wide.1 (Difj.diff_in a a w (by omega) (by omega))
  have cx := fun w => callsIn_wide.1 (Appk.applied_in a (Difp.outV a a) w (by omega) (by omega))
  rw [s2, s3] at cx
  rw [s1] at cd
  generalize Difp.outV a a = x at *
  have z1 : ((x.size : Int) == 10) = true := by rw [hz2]; rfl
  have z2 : (x.size : Int) = 10 := by rw [hz2]; rfl
  clear p1 p2 p3 s1 s2 s3 hz2
  go_wp2_with fail
  refine (ci _).mono ?_
  rintro e v2 ⟨rfl, hb2⟩
  have B2 : Hid (Below w'.heap.size w' v2) := B1.out.trans (hb2.mono B1.out.size)
  clear hb2 ci B1
  go_wp2_with fail
  refine (cs _).mono ?_
  rintro e v3 ⟨rfl, hb3⟩
  have B3 : Hid (Below w'.heap.size w' v3) := B2.out.trans (hb3.mono B2.out.size)
  clear hb3 cs B2
  go_wp2_with fail
  refine (ca _).mono ?_
  rintro e v4 ⟨rfl, hb4⟩
  have B4 : Hid (Below w'.heap.size w' v4) := B3.out.trans (hb4.mono B3.out.size)
  clear hb4 ca B3
  go_wp2_with fail
  refine (cd _).mono ?_
  rintro e v5 ⟨rfl, hb5⟩
  have B5 : Hid (Below w'.heap.size w' v5) := B4.out.trans (hb5.mono B4.out.size)
  clear hb5 cd B4
  go_wp2_with fail
  refine (cx _).mono ?_
  rintro e v6 ⟨rfl, hb6⟩
  have B6 : Hid (Below w'.heap.size w' v6) := B5.out.trans (hb6.mono B5.out.size)
  clear hb6 cx B5
  go_wp2
  go_ret
  exact ⟨rfl, B6.out⟩

set_option maxRecDepth 100000 in
theorem lifted (os : Os) (started : os.Started) (H : Type) (enc : TypeId × Value → H) :
    ReturnsInHanded {} Try.checked os 5 .any (Rows.fnDiffsSpec.pre6 enc Try.prog Try.f5 Rows.fnDiffsRow.domain false) (Rows.fnDiffsSpec.post enc Try.prog Try.f5 false true false false) := by
  refine returnsInHanded_of_change (C := Try.checked) own started (by kernel_rfl) Try.func5
    (ChangeSpec.witness6 (enc := enc) (C := Try.checked) false ⟨#[], #[.slice none 0 0], []⟩ 8 (by kernel_rfl) (by kernel_rfl) (by kernel_rfl) (by kernel_rfl)) ?_
  intro W base args ds gs before hval0 hW hcnd _
  have hval : ∀ (j : Nat) t v, Try.f5.params[j]? = some t → args[j]? = some v → Value.okWide Try.prog W .any base t v := hval0
  have hW' := hW
  obtain ⟨p, q, hA0, hV, rfl, hfz, hnd⟩ := hW
  have hA : DataW.TrodAll enc Try.prog W 0 (fun _ => true) true Try.f5.params.toList args.toList ds p := hA0
  rw [Try.params5] at hA hval
  obtain ⟨v0, vs0, d0, ds0, p0, q0, hargs, rfl, rfl, h0, r0⟩ := trodAll_cons hA
  obtain ⟨rfl, rfl, rfl⟩ := trodAll_nil r0
  obtain rfl : args = #[v0] := by cases args; simp_all
  obtain ⟨rfl, rfl⟩ := trodVars_none hV
  obtain ⟨a0, len0, cap0, rfl⟩ := okWide_slice Try.underlying25 (hval 0 25 v0 rfl rfl)
  have k0 := h0
  have lt0 : ∀ x ∈ p0, x.block < W.heap.size := by obtain ⟨m, hm⟩ := k0; exact DataW.trod_lt m _ _ _ hm
  obtain ⟨z0, w0⟩ : ∃ zs, IsRow .u8 W a0 len0 cap0 zs := by
    obtain ⟨fuel, hf⟩ := h0
    rcases open_ints Try.underlying25 Try.underlying5 (by kernel_rfl) hf with ⟨hcs, _⟩ | ⟨x, l, c, zs, hcs, _, hl, hm, hz, _, hcell, hwz⟩
    · simp [Value.cells] at hcs
      obtain ⟨rfl, rfl, rfl⟩ := hcs
      exact ⟨[], .inl ⟨rfl, rfl, rfl, rfl⟩⟩
    · simp [Value.cells] at hcs
      obtain ⟨rfl, rfl, rfl⟩ := hcs
      exact ⟨zs, .inr ⟨_, rfl, hl, hm, by simpa using hz, hcell, hwz⟩⟩
  clear hA0 hval0
  refine (walk W a0 len0 cap0 z0 w0).mono fun e W' ⟨he, bel⟩ => ?_
  subst he
  exact ⟨_, rfl, _, _, _, [], _, [], hW', trodAll_mk1 (shut_bool Try.underlying4 _), (trodAll_cons_mk (Below.trod laidOut (by kernel_rfl) (of_decide_eq_true (by kernel_rfl)) k0 bel lt0) trodAll_mk0), rfl, bel.frame _, fun h => by cases h⟩

theorem over : Rows.fnDiffsRow.holds Try.pinned (OpenSpec.ofChange Rows.fnDiffsSpec) :=
  OpenClaim.holds_of_wide 5 Try.f5 rfl rfl rfl rfl rfl rfl rfl ⟨rfl, rfl, rfl, rfl, rfl⟩ rfl rfl rfl rfl rfl (by kernel_rfl) Try.func5 (by kernel_rfl)
    (of_decide_eq_true (by kernel_rfl)) (by unfold Func.isWrapper; first | (rw [if_pos (by decide +kernel)]; kernel_rfl) | (rw [if_neg (by decide +kernel)]; exact ⟨rfl, rfl⟩))
    (fun os started H enc _ => lifted os started H enc)
end Go.Proofs.Ytbfjalpkdgepnaa.fnDiffs
namespace Go.Proofs.Ytbfjalpkdgepnaa
theorem fnDiffs_holds : Rows.FnDiffsSaid := fnDiffs.over
end Go.Proofs.Ytbfjalpkdgepnaa
