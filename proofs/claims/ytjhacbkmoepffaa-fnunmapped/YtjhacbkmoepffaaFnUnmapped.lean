/- For every slice of bytes the law FnUnmapped answers true, that is, what impl.Unmapped tells of a list and bytes drawn from them is what spec.Unmapped tells, and where something is told, it is no shorter than the bytes, and what is told of the bytes in two pieces, one behind the other, is the same; the bytes read afterwards as they read before; no condition. -/
import Derived.Test.YtjhacbkmoepffaaRows
import Derived.WalkKit
import Derived.ProofKit
import Derived.OpenShut
import Derived.ShutString
import Derived.ChangeOld
import Derived.Below
import Derived.Test.YtjhacbkmoepffaaDrawU
import Derived.Test.YtjhacbkmoepffaaUnms
import Derived.Test.YtjhacbkmoepffaaUnmk
import Derived.Test.YtjhacbkmoepffaaUnmq
namespace Go.Proofs.Ytjhacbkmoepffaa.fnUnmapped
open Go.ChangeShapes Go.WideShapes Go.ChangeAt Go.RowKit
open Go.ChangeMaps (open_string shut_string)
set_option linter.unusedVariables false

theorem own : ownKnob Try.prog.godebug = none := by kernel_rfl
theorem laidOut : laidOutB Try.prog = true := by kernel_rfl
/-- What the walk is told of a slice of bytes that came in: it is nil; or it leads to a row of cells, the numbers zs, each fitting its kind. -/
def IsRow (k : IntKind) (w : World) (a : Option Addr) (len cap : Nat) (zs : List Int) : Prop :=
  (a = none ∧ len = 0 ∧ cap = 0 ∧ zs = []) ∨
  ∃ x, a = some x ∧ len ≤ cap ∧ cap ≤ maxLen ∧ zs.length = cap ∧ (∀ i, i < zs.length → w.cell? (x.add i) = some (.int k (zs.getD i 0))) ∧ ∀ n ∈ zs, (Lit.int k n).wf = true
open Pairr (Pairs)
theorem toRow {k : IntKind} {w : World} {a : Option Addr} {len cap : Nat} {zs : List Int} (h : IsRow k w a len cap zs) : Rdr.IsRow k w a len cap zs := h
theorem list_eq {s t : ByteArray} (h : s = t) : (s.toList == t.toList) = true := by rw [h]; simp

set_option maxHeartbeats 2000000 in
theorem walk (w : World) (a0 : Option Addr) (len0 cap0 : Nat) (z0 : List Int) (w0 : IsRow .u8 w a0 len0 cap0 z0) :
    Calls Try.prog 4 #[.slice a0 len0 cap0] w fun e w' => e = .returned (.bool true) ∧ Below w.heap.size w w' := by
  have H : Hid (Rdr.IsRow .u8 w a0 len0 cap0 z0) := toRow w0
  clear w0
  have cb := Rdr.big_any a0 len0 cap0 w H.out.len
  by_cases hbig : Rdr.bigB len0 = true
  · rw [hbig] at cb
    go_enter Try.func4, Try.ntmps4
    go_wp2_with (go_at_call 10; refine cb.mono ?_; rintro e w' ⟨rfl, rfl⟩)
    go_ret
    exact ⟨rfl, Below.refl _ _⟩
  have hbig : Rdr.bigB len0 = false := by simpa using hbig
  rw [hbig] at cb
  go_enter Try.func4, Try.ntmps4
  go_wp2_with fail
  refine cb.mono ?_
  rintro e w' ⟨rfl, rfl⟩
  go_wp2_with fail
  refine (DrawU.drawUnmapped_any _ _ _ _ _ H.out).mono ?_
  rintro e v1 ⟨⟨L, ao, c, s, rfl, hL, hs, hP⟩, hb1⟩
  have B1 : Hid (Below w'.heap.size w' v1) := hb1
  have P1 : Hid (Pairs v1 ao L) := hP
  clear hb1 hP
  have ci := fun w h => Unmk.unmapped_any ao c L s w h (by omega) (by omega)
  have cs := fun w h => Unms.unmapped_any ao c L s w h (by omega) (by omega)
  have hlen0 := H.out.len
  unfold maxLen at hlen0
  rcases Unmq.facts L s with ⟨o1, o2⟩ | ⟨o1, o3, o4⟩
  · rw [o1, o2] at ci cs
    generalize L.length = n at *
    go_wp2_with fail
    refine (ci _ P1.out).mono ?_
    rintro e v2 ⟨rfl, hb2⟩
    have B2 : Hid (Below v1.heap.size v1 v2) := hb2
    clear hb2 ci
    go_wp2_with fail
    refine (cs _ (P1.out.below B2.out)).mono ?_
    rintro e v3 ⟨rfl, hb3⟩
    have B3 : Hid (Below v1.heap.size v1 v3) := B2.out.trans (hb3.mono B2.out.size)
    clear hb3 cs B2
    go_wp2
    go_ret
    exact ⟨rfl, B1.out.trans (B3.out.mono B1.out.size)⟩
  obtain ⟨k, hk⟩ : ∃ k, k = len0 % (s.size + 1) := ⟨_, rfl⟩
  have hks : k ≤ s.size := by have h := Nat.mod_lt len0 (Nat.succ_pos s.size); rw [Nat.succ_eq_add_one, ← hk] at h; exact Nat.le_of_lt_succ h
  have ek : (len0 : Int).tmod ((s.size : Int) + 1) = (k : Int) := by
    rw [hk, Int.tmod_eq_emod_of_nonneg (by omega)]; exact (Int.natCast_emod _ _).symm
  have ez : ¬ (s.size : Int) + 1 = 0 := by omega
  obtain ⟨p1, p2, p3⟩ := o4 k hks
  have ca := fun w h => Unmk.unmapped_any ao c L (s.extract 0 k) w h (by omega) (by rw [ByteArray.size_extract]; omega)
  have cd := fun w h => Unmk.unmapped_any ao c L (s.extract k s.size) w h (by omega) (by rw [ByteArray.size_extract]; omega)
  rw [o1] at ci cs
  rw [p1] at ca
  rw [p2] at cd
  have q1 := list_eq p3
  have zz : (Unmp.outV L (s.extract 0 k)).size + (Unmp.outV L (s.extract k s.size)).size = (Unmp.outV L s).size := by rw [← p3, ByteArray.size_append]
  have o5 : (Unmp.outV L s).size ≤ 1000000 := by
    have := Unmq.out_small L s hs
    exact this
  clear o4 p1 p2 p3 hk o1
  generalize Unmp.outV L (s.extract 0 k) = ta at *
  generalize Unmp.outV L (s.extract k s.size) = tb at *
  generalize Unmp.outV L s = m at *
  have m3 : (s.size : Int) ≤ (m.size : Int) := by omega
  have m3' : decide ((s.size : Int) ≤ (m.size : Int)) = true := decide_eq_true m3
  have k0 : (0 : Int) ≤ (k : Int) := by omega
  have k1 : (k : Int) ≤ (s.size : Int) := by omega
  generalize L.length = n at *
  go_wp2_with fail
  refine (ci _ P1.out).mono ?_
  rintro e v2 ⟨rfl, hb2⟩
  have B2 : Hid (Below v1.heap.size v1 v2) := hb2
  clear hb2 ci
  go_wp2_with fail
  refine (cs _ (P1.out.below B2.out)).mono ?_
  rintro e v3 ⟨rfl, hb3⟩
  have B3 : Hid (Below v1.heap.size v1 v3) := B2.out.trans (hb3.mono B2.out.size)
  clear hb3 cs B2
  go_wp2_with fail
  refine (ca _ (P1.out.below B3.out)).mono ?_
  rintro e v4 ⟨rfl, hb4⟩
  have B4 : Hid (Below v1.heap.size v1 v4) := B3.out.trans (hb4.mono B3.out.size)
  clear hb4 B3 ca
  go_wp2_with fail
  refine (cd _ (P1.out.below B4.out)).mono ?_
  rintro e v5 ⟨rfl, hb5⟩
  have B5 : Hid (Below v1.heap.size v1 v5) := B4.out.trans (hb5.mono B4.out.size)
  clear hb5 B4 cd
  go_wp2
  go_ret
  exact ⟨rfl, B1.out.trans (B5.out.mono B1.out.size)⟩

set_option maxRecDepth 100000 in
theorem lifted (os : Os) (started : os.Started) (H : Type) (enc : TypeId × Value → H) :
    ReturnsInHanded {} Try.checked os 4 .any (Rows.fnUnmappedSpec.pre6 enc Try.prog Try.f4 Rows.fnUnmappedRow.domain false) (Rows.fnUnmappedSpec.post enc Try.prog Try.f4 false true false false) := by
  refine returnsInHanded_of_change (C := Try.checked) own started (by kernel_rfl) Try.func4
    (ChangeSpec.witness6 (enc := enc) (C := Try.checked) false ⟨#[], #[.slice none 0 0], []⟩ 8 (by kernel_rfl) (by kernel_rfl) (by kernel_rfl) (by kernel_rfl)) ?_
  intro W base args ds gs before hval0 hW hcnd _
  have hval : ∀ (j : Nat) t v, Try.f4.params[j]? = some t → args[j]? = some v → Value.okWide Try.prog W .any base t v := hval0
  have hW' := hW
  obtain ⟨p, q, hA0, hV, rfl, hfz, hnd⟩ := hW
  have hA : DataW.TrodAll enc Try.prog W 0 (fun _ => true) true Try.f4.params.toList args.toList ds p := hA0
  rw [Try.params4] at hA hval
  obtain ⟨v0, vs0, d0, ds0, p0, q0, hargs, rfl, rfl, h0, r0⟩ := trodAll_cons hA
  obtain ⟨rfl, rfl, rfl⟩ := trodAll_nil r0
  obtain rfl : args = #[v0] := by cases args; simp_all
  obtain ⟨rfl, rfl⟩ := trodVars_none hV
  obtain ⟨a0, len0, cap0, rfl⟩ := okWide_slice Try.underlying30 (hval 0 30 v0 rfl rfl)
  have k0 := h0
  have lt0 : ∀ x ∈ p0, x.block < W.heap.size := by obtain ⟨m, hm⟩ := k0; exact DataW.trod_lt m _ _ _ hm
  obtain ⟨z0, w0⟩ : ∃ zs, IsRow .u8 W a0 len0 cap0 zs := by
    obtain ⟨fuel, hf⟩ := h0
    rcases open_ints Try.underlying30 Try.underlying5 (by kernel_rfl) hf with ⟨hcs, _⟩ | ⟨x, l, c, zs, hcs, _, hl, hm, hz, _, hcell, hwz⟩
    · simp [Value.cells] at hcs
      obtain ⟨rfl, rfl, rfl⟩ := hcs
      exact ⟨[], .inl ⟨rfl, rfl, rfl, rfl⟩⟩
    · simp [Value.cells] at hcs
      obtain ⟨rfl, rfl, rfl⟩ := hcs
      exact ⟨zs, .inr ⟨_, rfl, hl, hm, by simpa using hz, hcell, hwz⟩⟩
  clear hA0 hval0
  refine (walk W a0 len0 cap0 z0 w0).mono fun e W' ⟨he, bel⟩ => ?_
  subst he
  exact ⟨_, rfl, _, _, _, [], _, [], hW', trodAll_mk1 (shut_bool Try.underlying4 _), (trodAll_cons_mk (Below.trod laidOut (by kernel_rfl) (of_decide_eq_true (by kernel_rfl)) k0 bel lt0) trodAll_mk0), rfl, bel.frame _, fun h => by cases h⟩

theorem over : Rows.fnUnmappedRow.holds Try.pinned (OpenSpec.ofChange Rows.fnUnmappedSpec) :=
  OpenClaim.holds_of_wide 4 Try.f4 rfl rfl rfl rfl rfl rfl rfl ⟨rfl, rfl, rfl, rfl, rfl⟩ rfl rfl rfl rfl rfl (by kernel_rfl) Try.func4 (by kernel_rfl)
    (of_decide_eq_true (by kernel_rfl)) (by unfold Func.isWrapper; first | (rw [if_pos (by decide +kernel)]; kernel_rfl) | (rw [if_neg (by decide +kernel)]; exact ⟨rfl, rfl⟩))
    (fun os started H enc _ => lifted os started H enc)
end Go.Proofs.Ytjhacbkmoepffaa.fnUnmapped
namespace Go.Proofs.Ytjhacbkmoepffaa
theorem fnUnmapped_holds : Rows.FnUnmappedSaid := fnUnmapped.over
end Go.Proofs.Ytjhacbkmoepffaa
