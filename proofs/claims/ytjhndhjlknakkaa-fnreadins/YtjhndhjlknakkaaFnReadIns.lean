/- For every code the law FnReadIns answers true: of the drawn text and place impl.ReadIns answers as spec.ReadIns does, and what is read is a right instruction that has just its bytes; the code reads afterwards as it read before; no condition. -/
import Derived.Test.YtjhndhjlknakkaaRows
import Derived.WalkKit
import Derived.ProofKit
import Derived.OpenShut
import Derived.ShutString
import Derived.ChangeOld
import Derived.Below
import Derived.Test.YtjhndhjlknakkaaInsP
import Derived.Test.YtjhndhjlknakkaaDrawI
import Derived.HandedShaped
namespace Go.Proofs.Ytjhndhjlknakkaa.fnReadIns
open Go.ChangeShapes Go.WideShapes Go.ChangeAt Go.RowKit
open Go.ChangeMaps (open_string shut_string)
set_option linter.unusedVariables false

theorem own : ownKnob Try.prog.godebug = none := by kernel_rfl
theorem laidOut : laidOutB Try.prog = true := by kernel_rfl
/-- What the walk is told of a slice of bytes that came in: it is nil; or it leads to a row of cells, the numbers zs, each fitting its kind. -/
def IsRow (k : IntKind) (w : World) (a : Option Addr) (len cap : Nat) (zs : List Int) : Prop :=
  (a = none ∧ len = 0 ∧ cap = 0 ∧ zs = []) ∨
  ∃ x, a = some x ∧ len ≤ cap ∧ cap ≤ maxLen ∧ zs.length = cap ∧ (∀ i, i < zs.length → w.cell? (x.add i) = some (.int k (zs.getD i 0))) ∧ ∀ n ∈ zs, (Lit.int k n).wf = true
set_option maxRecDepth 20000
open HolI LenX InsX InsB ReadI ReadJ InsP DrawI
theorem toRow {k : IntKind} {w : World} {a : Option Addr} {len cap : Nat} {zs : List Int} (h : IsRow k w a len cap zs) : Rdr.IsRow k w a len cap zs := h

set_option maxHeartbeats 2000000 in
theorem walk (w : World) (a0 : Option Addr) (len0 cap0 : Nat) (z0 : List Int) (w0 : IsRow .u8 w a0 len0 cap0 z0) (hm : HolI.MaxL w) :
    Calls Try.prog 5 #[.slice a0 len0 cap0] w fun e w' => e = .returned (.bool true) ∧ Below w.heap.size w w' := by
  have H : Hid (Rdr.IsRow .u8 w a0 len0 cap0 z0) := toRow w0
  have HM : Hid (HolI.MaxL w) := hm
  clear w0 hm
  have cb := Rdr.big_any a0 len0 cap0 w H.out.len
  by_cases hbig : Rdr.bigB len0 = true
  · rw [hbig] at cb
    go_enter Try.func5, Try.ntmps5
    go_wp2_with (go_at_call 6; refine cb.mono ?_; rintro e w' ⟨rfl, rfl⟩)
    go_ret
    exact ⟨rfl, Below.refl _ _⟩
  have hbig : Rdr.bigB len0 = false := by simpa using hbig
  rw [hbig] at cb
  go_enter Try.func5, Try.ntmps5
  go_wp2_with fail
  refine cb.mono ?_
  rintro e wa ⟨rfl, rfl⟩
  go_wp2_with fail
  refine (drawReadIns_any _ _ _ _ _ H.out).mono ?_
  rintro e w1 ⟨⟨s, a, hs, ha, rfl⟩, b1⟩
  have hr : a ≤ 9223372036854775807 := by unfold I64 at ha; simp [Lit.wf] at ha; omega
  have B1 : Hid (Below wa.heap.size wa w1) := b1
  have ci := fun w hm => implRead_any s a w hm (by omega)
  have cs := fun w => specRead_any s a w (by omega) hr
  clear b1 ha
  unfold Tup at ci cs
  have hback := read_back s a
  obtain ⟨c, b, m, he⟩ := readI_agg s a
  rw [he] at ci cs hback
  go_wp2_with fail
  refine (ci _ (HM.out.below B1.out)).mono ?_
  rintro e w2 ⟨rfl, b2⟩
  have B2 : Hid (Below wa.heap.size wa w2) := after B1.out b2
  clear b2 B1
  go_wp2_with fail
  refine (cs _).mono ?_
  rintro e w3 ⟨rfl, b3⟩
  have k0 : ∀ o, (w3.alloc o).cell? ⟨w2.heap.size, 0, none⟩ = some (.int .i64 c) := fun o => box (b3.alloc b3.size o) 0 _ rfl
  have k1 : ∀ o, (w3.alloc o).cell? ⟨w2.heap.size, 1, none⟩ = some (.bool b) := fun o => box (b3.alloc b3.size o) 1 _ rfl
  have k2 : ∀ o, (w3.alloc o).cell? ⟨w2.heap.size, 2, none⟩ = some (.int .i64 m) := fun o => box (b3.alloc b3.size o) 2 _ rfl
  have BX : Hid (Below (w2.alloc (.cells #[.int .i64 c, .bool b, .int .i64 m] 30)).heap.size (w2.alloc (.cells #[.int .i64 c, .bool b, .int .i64 m] 30)) w3) := b3
  have B3 : Hid (Below wa.heap.size wa w3) := after B2.out (unbox b3)
  clear b3 B2 ci cs
  by_cases hn : readN s a = 0
  · rw [hn]
    clear hback
    go_wp2
    go_ret
    exact ⟨rfl, B3.out.alloc B3.out.size _⟩
  · obtain ⟨h0, h1, h2, c', b', m', e1, ok, e2⟩ := hback hn
    injection e1 with e1
    simp at e1
    obtain ⟨rfl, rfl, rfl⟩ := e1
    clear hback
    have hn' : (readN s a == 0) = false := by simpa using hn
    generalize readN s a = n at h1 h2 e2 hn hn'
    have sl : ∀ w, (Instr.slice 9 (.string s) (some (.int .i64 a)) (some (.int .i64 (a + n))) none).run Try.prog w = .ok (.string (bytesV c b m)) w := fun w => by
      have := run_slice_string (P := Try.prog) w 9 s .i64 .i64 a (a + n) Try.underlying9 h0 (by omega) h1
      rwa [e2] at this
    have hk : wrap64 (a + n) = a + n := by unfold wrap64; omega
    have hk' : IntKind.i64.wrap (a + n) = a + n := by rw [IntKind.wrap_i64]; omega
    have co := fun w hm => implOk_any c b m w hm
    have cy := fun w hm => implBytes_any c b m w hm
    rw [ok] at co
    generalize bytesV c b m = Y at sl cy
    clear e2 ok
    go_wp2_with fail
    go_region_with (first
      | (go_at_call 15; refine (co _ (HM.out.below (B3.out.alloc B3.out.size _).drew)).mono ?_; rintro e w4 ⟨rfl, b4⟩; have BY : Hid (Below _ _ w4) := after (BX.out.alloc BX.out.size _).drew b4; have j0 := box BY.out 0 _ rfl; have j1 := box BY.out 1 _ rfl; have j2 := box BY.out 2 _ rfl; have B4 : Hid (Below wa.heap.size wa w4) := after (B3.out.alloc B3.out.size _).drew b4; clear b4 BY)
      | (go_at_call 12; refine (cy _ (HM.out.below B4.out)).mono ?_; rintro e w5 ⟨rfl, b5⟩; have B5 : Hid (Below wa.heap.size wa w5) := after B4.out b5; clear b5))
    all_goals go_wp2
    all_goals go_ret
    all_goals exact ⟨rfl, B5.out⟩

set_option maxRecDepth 100000 in
theorem lifted (os : Os) (started : os.Started) (H : Type) (enc : TypeId × Value → H) :
    ReturnsInHanded {} Try.checked os 5 .any (Rows.fnReadInsSpec.pre6 enc Try.prog Try.f5 Rows.fnReadInsRow.domain false) (Rows.fnReadInsSpec.post enc Try.prog Try.f5 false true false false) := by
  refine returnsInHanded_of_change_shaped (C := Try.checked) own started (by kernel_rfl) Try.func5
    (ChangeSpec.witness6 (enc := enc) (C := Try.checked) false ⟨#[], #[.slice none 0 0], []⟩ 8 (by kernel_rfl) (by kernel_rfl) (by kernel_rfl) (by kernel_rfl)) ?_
  intro W base args ds gs before hval0 hW hcnd _ hsh _
  have hval : ∀ (j : Nat) t v, Try.f5.params[j]? = some t → args[j]? = some v → Value.okWide Try.prog W .any base t v := hval0
  have hW' := hW
  obtain ⟨p, q, hA0, hV, rfl, hfz, hnd⟩ := hW
  have hA : DataW.TrodAll enc Try.prog W 0 (fun _ => true) true Try.f5.params.toList args.toList ds p := hA0
  rw [Try.params5] at hA hval
  obtain ⟨v0, vs0, d0, ds0, p0, q0, hargs, rfl, rfl, h0, r0⟩ := trodAll_cons hA
  obtain ⟨rfl, rfl, rfl⟩ := trodAll_nil r0
  obtain rfl : args = #[v0] := by cases args; simp_all
  obtain ⟨rfl, rfl⟩ := trodVars_none hV
  obtain ⟨a0, len0, cap0, rfl⟩ := okWide_slice Try.underlying22 (hval 0 22 v0 rfl rfl)
  have k0 := h0
  have lt0 : ∀ x ∈ p0, x.block < W.heap.size := by obtain ⟨m, hm⟩ := k0; exact DataW.trod_lt m _ _ _ hm
  obtain ⟨z0, w0⟩ : ∃ zs, IsRow .u8 W a0 len0 cap0 zs := by
    obtain ⟨fuel, hf⟩ := h0
    rcases open_ints Try.underlying22 Try.underlying5 (by kernel_rfl) hf with ⟨hcs, _⟩ | ⟨x, l, c, zs, hcs, _, hl, hm, hz, _, hcell, hwz⟩
    · simp [Value.cells] at hcs
      obtain ⟨rfl, rfl, rfl⟩ := hcs
      exact ⟨[], .inl ⟨rfl, rfl, rfl, rfl⟩⟩
    · simp [Value.cells] at hcs
      obtain ⟨rfl, rfl, rfl⟩ := hcs
      exact ⟨zs, .inr ⟨_, rfl, hl, hm, by simpa using hz, hcell, hwz⟩⟩
  clear hA0 hval0
  refine (walk W a0 len0 cap0 z0 w0 (Try.laysM144.s1_3 W hsh)).mono fun e W' ⟨he, bel⟩ => ?_
  subst he
  exact ⟨_, rfl, _, _, _, [], _, [], hW', trodAll_mk1 (shut_bool Try.underlying4 _), (trodAll_cons_mk (Below.trod laidOut (by kernel_rfl) (of_decide_eq_true (by kernel_rfl)) k0 bel lt0) trodAll_mk0), rfl, bel.frame _, fun h => by cases h⟩

theorem over : Rows.fnReadInsRow.holds Try.pinned (OpenSpec.ofChange Rows.fnReadInsSpec) :=
  OpenClaim.holds_of_wide 5 Try.f5 rfl rfl rfl rfl rfl rfl rfl ⟨rfl, rfl, rfl, rfl, rfl⟩ rfl rfl rfl rfl rfl (by kernel_rfl) Try.func5 (by kernel_rfl)
    (of_decide_eq_true (by kernel_rfl)) (by unfold Func.isWrapper; first | (rw [if_pos (by decide +kernel)]; kernel_rfl) | (rw [if_neg (by decide +kernel)]; exact ⟨rfl, rfl⟩))
    (fun os started H enc _ => lifted os started H enc)
end Go.Proofs.Ytjhndhjlknakkaa.fnReadIns
namespace Go.Proofs.Ytjhndhjlknakkaa
theorem fnReadIns_holds : Rows.FnReadInsSaid := fnReadIns.over
end Go.Proofs.Ytjhndhjlknakkaa
