/- For every text of at most 1048576 bytes and every place, the law FnExactReadIns answers true (longer texts it passes by), that is, impl.ReadIns answers as spec.ReadIns does. -/
import Derived.Test.YthagdgdnjjdbfaaRows
import Derived.WalkKit
import Derived.ProofKit
import Derived.OpenShut
import Derived.ShutString
import Derived.ChangeOld
import Derived.Below
import Derived.Test.YthagdgdnjjdbfaaReadJ
import Derived.Test.YthagdgdnjjdbfaaInsp
import Derived.HandedShaped
namespace Go.Proofs.Ythagdgdnjjdbfaa.fnExactReadIns
open Go.ChangeShapes Go.WideShapes Go.ChangeAt Go.RowKit
open Go.ChangeMaps (open_string shut_string)
set_option linter.unusedVariables false

theorem own : ownKnob Try.prog.godebug = none := by kernel_rfl
theorem laidOut : laidOutB Try.prog = true := by kernel_rfl

set_option maxHeartbeats 2000000 in
theorem walk (w : World) (a0 : ByteArray) (w0 : a0.size ≤ maxLen) (a1 : Int) (w1 : (Lit.int .i64 a1).wf = true) (hm : HolI.MaxL w) :
    Calls Try.prog 7 #[.string a0, .int .i64 a1] w fun e w' => e = .returned (.bool true) ∧ Below w.heap.size w w' := by
  have HM : Hid (HolI.MaxL w) := hm
  clear hm
  have hr : a1 ≤ 9223372036854775807 := by
    simp [Lit.wf] at w1
    omega
  by_cases hs : (1048576 : Int) < (a0.size : Int)
  · go_enter Try.func7, Try.ntmps7
    go_wp2
    go_ret
    exact ⟨rfl, Below.refl _ _⟩
  have cs := fun w => ReadI.specRead_any a0 a1 w (by omega) hr
  have ci := fun w hm => ReadJ.implRead_any a0 a1 w hm (by omega)
  obtain ⟨c, b, m, he⟩ := ReadJ.readI_agg a0 a1
  unfold ReadI.Tup at cs ci
  rw [he] at cs ci
  generalize ReadI.readN a0 a1 = v at cs ci
  have ce := fun w => Insp.eqIns_same c b m w
  clear w0 w1 hr he
  go_enter Try.func7, Try.ntmps7
  go_wp2_with fail
  refine (cs _).mono ?_
  rintro e w1 ⟨rfl, b1⟩
  have B1 : Hid (Below w.heap.size w w1) := b1
  clear b1 cs
  go_wp2_with fail
  refine (ci _ (HM.out.below (B1.out.alloc B1.out.size _))).mono ?_
  rintro e w2 ⟨rfl, b2⟩
  have k0 : ∀ o, (w2.alloc o).cell? ⟨w1.heap.size, 0, none⟩ = some (.int .i64 c) := fun o => HolI.box (b2.alloc b2.size o) 0 _ rfl
  have k1 : ∀ o, (w2.alloc o).cell? ⟨w1.heap.size, 1, none⟩ = some (.bool b) := fun o => HolI.box (b2.alloc b2.size o) 1 _ rfl
  have k2 : ∀ o, (w2.alloc o).cell? ⟨w1.heap.size, 2, none⟩ = some (.int .i64 m) := fun o => HolI.box (b2.alloc b2.size o) 2 _ rfl
  have B2 : Hid (Below w.heap.size w w2) := HolI.after B1.out (HolI.unbox b2)
  clear b2 ci B1
  go_wp2_with fail
  refine (ce _).mono ?_
  rintro e w3 ⟨rfl, b3⟩
  have B3 : Hid (Below w.heap.size w w3) := HolI.after (B2.out.alloc B2.out.size _) b3
  clear b3 B2 k0 k1 k2
  go_wp2
  go_ret
  exact ⟨rfl, B3.out⟩

set_option maxRecDepth 100000 in
theorem lifted (os : Os) (started : os.Started) (H : Type) (enc : TypeId × Value → H) :
    ReturnsInHanded {} Try.checked os 7 .any (Rows.fnExactReadInsSpec.pre6 enc Try.prog Try.f7 Rows.fnExactReadInsRow.domain false) (Rows.fnExactReadInsSpec.post enc Try.prog Try.f7 false true false false) := by
  refine returnsInHanded_of_change_shaped (C := Try.checked) own started (by kernel_rfl) Try.func7
    (ChangeSpec.witness6 (enc := enc) (C := Try.checked) false ⟨#[], #[.string ByteArray.empty, .int .i64 0], []⟩ 8 (by kernel_rfl) (by kernel_rfl) (by kernel_rfl) (by kernel_rfl)) ?_
  intro W base args ds gs before hval0 hW hcnd _ hsh _
  have hval : ∀ (j : Nat) t v, Try.f7.params[j]? = some t → args[j]? = some v → Value.okWide Try.prog W .any base t v := hval0
  have hW' := hW
  obtain ⟨p, q, hA0, hV, rfl, hfz, hnd⟩ := hW
  have hA : DataW.TrodAll enc Try.prog W 0 (fun _ => true) true Try.f7.params.toList args.toList ds p := hA0
  rw [Try.params7] at hA hval
  obtain ⟨v0, vs0, d0, ds0, p0, q0, hargs, rfl, rfl, h0, r0⟩ := trodAll_cons hA
  obtain ⟨v1, vs1, d1, ds1, p1, q1, rfl, rfl, rfl, h1, r1⟩ := trodAll_cons r0
  obtain ⟨rfl, rfl, rfl⟩ := trodAll_nil r1
  obtain rfl : args = #[v0, v1] := by cases args; simp_all
  obtain ⟨rfl, rfl⟩ := trodVars_none hV
  obtain ⟨a0, rfl, rfl, rfl, w0⟩ := open_string Try.underlying9 (hval 0 9 v0 rfl rfl) h0
  obtain ⟨a1, rfl, rfl, rfl, w1⟩ := open_int Try.underlying2 (hval 1 2 v1 rfl rfl) h1
  clear hA0 hval0
  refine (walk W a0 w0 a1 w1 (Try.laysM144.s1_3 W hsh)).mono fun e W' ⟨he, bel⟩ => ?_
  subst he
  exact ⟨_, rfl, _, _, _, [], _, [], hW', trodAll_mk1 (shut_bool Try.underlying4 _), (trodAll_cons_mk (shut_string Try.underlying9 w0) (trodAll_cons_mk (shut_int Try.underlying2 w1) trodAll_mk0)), rfl, bel.frame _, fun h => by cases h⟩

theorem over : Rows.fnExactReadInsRow.holds Try.pinned (OpenSpec.ofChange Rows.fnExactReadInsSpec) :=
  OpenClaim.holds_of_wide 7 Try.f7 rfl rfl rfl rfl rfl rfl rfl ⟨rfl, rfl, rfl, rfl, rfl⟩ rfl rfl rfl rfl rfl (by kernel_rfl) Try.func7 (by kernel_rfl)
    (of_decide_eq_true (by kernel_rfl)) (by unfold Func.isWrapper; first | (rw [if_pos (by decide +kernel)]; kernel_rfl) | (rw [if_neg (by decide +kernel)]; exact ⟨rfl, rfl⟩))
    (fun os started H enc _ => lifted os started H enc)
end Go.Proofs.Ythagdgdnjjdbfaa.fnExactReadIns
namespace Go.Proofs.Ythagdgdnjjdbfaa
theorem fnExactReadIns_holds : Rows.FnExactReadInsSaid := fnExactReadIns.over
end Go.Proofs.Ythagdgdnjjdbfaa
