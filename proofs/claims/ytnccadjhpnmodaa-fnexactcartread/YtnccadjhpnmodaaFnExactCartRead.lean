/- For every cart and number the law FnExactCartRead answers true, that is, impl.CartRead answers as spec.CartRead does; the arguments read afterwards as they read before; no condition. -/
import Derived.Test.YtnccadjhpnmodaaRows
import Derived.WalkKit
import Derived.ProofKit
import Derived.OpenShut
import Derived.ShutString
import Derived.ChangeOld
import Derived.Below
import Derived.Test.YtnccadjhpnmodaaCartS
namespace Go.Proofs.Ytnccadjhpnmodaa.fnExactCartRead
open Go.ChangeShapes Go.WideShapes Go.ChangeAt Go.RowKit
open Go.ChangeMaps (open_string shut_string)
set_option linter.unusedVariables false

theorem own : ownKnob Try.prog.godebug = none := by kernel_rfl
theorem laidOut : laidOutB Try.prog = true := by kernel_rfl

set_option maxHeartbeats 2000000 in
theorem walk (w : World) (rom0 : ByteArray) (kind0 bank0 : Int) (ram0 : ByteArray) (rb0 : Int) (on0 : Bool) (mode0 : Int) (zr0 : rom0.size ≤ maxLen) (zm0 : ram0.size ≤ maxLen) (a1 : Int) (w1 : (Lit.int .i64 a1).wf = true) :
    Calls Try.prog 6 #[.agg #[.string rom0, .int .i64 kind0, .int .i64 bank0, .string ram0, .int .i64 rb0, .bool on0, .int .i64 mode0], .int .i64 a1] w fun e w' => e = .returned (.bool true) ∧ Below w.heap.size w w' := by
  have cz := fun w => CartL.szCart_any rom0 kind0 bank0 ram0 rb0 on0 mode0 1048576 w zr0 zm0 (by decide) (by decide)
  have cs := fun w => CartS.specRead_any rom0 kind0 bank0 ram0 rb0 on0 mode0 a1 w zr0 zm0
  have ci := fun w => CartS.implRead_any rom0 kind0 bank0 ram0 rb0 on0 mode0 a1 w zr0 zm0
  obtain ⟨q, hq⟩ : ∃ q, q = CartL.left2 1048576 rom0.size ram0.size := ⟨_, rfl⟩
  have bq : -1 ≤ q ∧ q ≤ 1048576 := by rw [hq]; unfold CartL.left2; split; omega; split <;> omega
  obtain ⟨b0, b1⟩ := bq
  rw [← hq] at cz
  obtain ⟨b, hb⟩ : ∃ b, b = CartS.readV rom0 kind0 bank0 ram0 rb0 on0 mode0 a1 := ⟨_, rfl⟩
  rw [← hb] at cs ci
  clear hq hb zr0 zm0 w1
  go_enter Try.func6, Try.ntmps6
  by_cases hneg : q < 0
  · go_wp2_with (go_at_call 12; refine (cz _).mono ?_; rintro e w' ⟨rfl, rfl⟩)
    go_ret
    exact ⟨rfl, by repeat (first | exact Below.refl _ _ | refine CartL.grow ?_ _ | refine below_drewN ?_ _ | refine Below.drew ?_)⟩
  go_wp2_with first | (go_at_call 12; refine (cz _).mono ?_; rintro e w' ⟨rfl, rfl⟩) | (go_at_call 14; refine (CartL.toCart_any _ _ _ _ _ _ _ _).mono ?_; rintro e w' ⟨rfl, rfl⟩)
  refine (cs _).mono ?_
  rintro e w1 ⟨rfl, hb⟩
  have h1 := CartL.after (a := w.alloc (.cells #[.string rom0, .int .i64 kind0, .int .i64 bank0, .string ram0, .int .i64 rb0, .bool on0, .int .i64 mode0] 23)) (by repeat (first | exact Below.refl _ _ | refine CartL.grow ?_ _ | refine below_drewN ?_ _ | refine Below.drew ?_)) hb
  have f0 := CartL.box h1 0 _ rfl
  have f1 := CartL.box h1 1 _ rfl
  have f2 := CartL.box h1 2 _ rfl
  have f3 := CartL.box h1 3 _ rfl
  have f4 := CartL.box h1 4 _ rfl
  have f5 := CartL.box h1 5 _ rfl
  have f6 := CartL.box h1 6 _ rfl
  have H : Hid (Below w.heap.size w w1) := CartL.after ((Below.refl _ _).alloc (Nat.le_refl _) _) h1
  clear h1 hb
  go_wp2_with (go_at_call 14; refine (CartL.toCart_any _ _ _ _ _ _ _ _).mono ?_; rintro e w' ⟨rfl, rfl⟩)
  refine (ci _).mono ?_
  rintro e w2 ⟨rfl, hb2⟩
  have H2 : Hid (Below w.heap.size w w2) := CartL.after H.out (CartL.after (by repeat (first | exact Below.refl _ _ | refine CartL.grow ?_ _)) hb2)
  clear hb2
  go_wp2
  go_ret
  exact ⟨rfl, H2.out⟩

set_option maxRecDepth 100000 in
theorem lifted (os : Os) (started : os.Started) (H : Type) (enc : TypeId × Value → H) :
    ReturnsInHanded {} Try.checked os 6 .any (Rows.fnExactCartReadSpec.pre6 enc Try.prog Try.f6 Rows.fnExactCartReadRow.domain false) (Rows.fnExactCartReadSpec.post enc Try.prog Try.f6 false true false false) := by
  refine returnsInHanded_of_change (C := Try.checked) own started (by kernel_rfl) Try.func6
    (ChangeSpec.witness6 (enc := enc) (C := Try.checked) false ⟨#[], #[.agg #[.string ByteArray.empty, .int .i64 0, .int .i64 0, .string ByteArray.empty, .int .i64 0, .bool false, .int .i64 0], .int .i64 0], []⟩ 8 (by kernel_rfl) (by kernel_rfl) (by kernel_rfl) (by kernel_rfl)) ?_
  intro W base args ds gs before hval0 hW hcnd _
  have hval : ∀ (j : Nat) t v, Try.f6.params[j]? = some t → args[j]? = some v → Value.okWide Try.prog W .any base t v := hval0
  have hW' := hW
  obtain ⟨p, q, hA0, hV, rfl, hfz, hnd⟩ := hW
  have hA : DataW.TrodAll enc Try.prog W 0 (fun _ => true) true Try.f6.params.toList args.toList ds p := hA0
  rw [Try.params6] at hA hval
  obtain ⟨v0, vs0, d0, ds0, p0, q0, hargs, rfl, rfl, h0, r0⟩ := trodAll_cons hA
  obtain ⟨v1, vs1, d1, ds1, p1, q1, rfl, rfl, rfl, h1, r1⟩ := trodAll_cons r0
  obtain ⟨rfl, rfl, rfl⟩ := trodAll_nil r1
  obtain rfl : args = #[v0, v1] := by cases args; simp_all
  obtain ⟨rfl, rfl⟩ := trodVars_none hV
  obtain ⟨cs0, rfl, _⟩ := okWide_struct Try.underlying23 (hval 0 23 v0 rfl rfl)
  have kk0 := h0
  have lt0 : ∀ x ∈ p0, x.block < W.heap.size := by obtain ⟨m, hm⟩ := kk0; exact DataW.trod_lt m _ _ _ hm
  obtain ⟨rom0, kind0, bank0, ram0, rb0, on0, mode0, e0, zr0, zm0⟩ : ∃ (rom : ByteArray) (kind bank : Int) (ram : ByteArray) (rb : Int) (on : Bool) (mode : Int), cs0 = #[.string rom, .int .i64 kind, .int .i64 bank, .string ram, .int .i64 rb, .bool on, .int .i64 mode] ∧ rom.size ≤ maxLen ∧ ram.size ≤ maxLen := by
    obtain ⟨fuel, hf⟩ := h0
    obtain ⟨rom, kind, bank, ram, rb, on, mode, hcs, h1, h2⟩ := CartL.cart_of hf
    simp [Value.cells] at hcs
    exact ⟨rom, kind, bank, ram, rb, on, mode, by cases cs0; simp_all, h1, h2⟩
  subst e0
  obtain ⟨a1, rfl, rfl, rfl, w1⟩ := open_int Try.underlying2 (hval 1 2 v1 rfl rfl) h1
  clear hA0 hval0
  refine (walk W rom0 kind0 bank0 ram0 rb0 on0 mode0 zr0 zm0 a1 w1).mono fun e W' ⟨he, bel⟩ => ?_
  subst he
  exact ⟨_, rfl, _, _, _, [], _, [], hW', trodAll_mk1 (shut_bool Try.underlying4 _), (trodAll_cons_mk (Below.trod laidOut (by kernel_rfl) (of_decide_eq_true (by kernel_rfl)) kk0 bel lt0) (trodAll_cons_mk (shut_int Try.underlying2 w1) trodAll_mk0)), rfl, bel.frame _, fun h => by cases h⟩

theorem over : Rows.fnExactCartReadRow.holds Try.pinned (OpenSpec.ofChange Rows.fnExactCartReadSpec) :=
  OpenClaim.holds_of_wide 6 Try.f6 rfl rfl rfl rfl rfl rfl rfl ⟨rfl, rfl, rfl, rfl, rfl⟩ rfl rfl rfl rfl rfl (by kernel_rfl) Try.func6 (by kernel_rfl)
    (of_decide_eq_true (by kernel_rfl)) (by unfold Func.isWrapper; first | (rw [if_pos (by decide +kernel)]; kernel_rfl) | (rw [if_neg (by decide +kernel)]; exact ⟨rfl, rfl⟩))
    (fun os started H enc _ => lifted os started H enc)
end Go.Proofs.Ytnccadjhpnmodaa.fnExactCartRead
namespace Go.Proofs.Ytnccadjhpnmodaa
theorem fnExactCartRead_holds : Rows.FnExactCartReadSaid := fnExactCartRead.over
end Go.Proofs.Ytnccadjhpnmodaa
