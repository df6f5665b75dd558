/- For every cart and two numbers the law FnExactCartWrite answers true, that is, impl.CartWrite answers as spec.CartWrite does, field by field; the arguments read afterwards as they read before; no condition. -/
import Derived.Test.YtnccadjhpnmodaaRows
import Derived.WalkKit
import Derived.ProofKit
import Derived.OpenShut
import Derived.ShutString
import Derived.ChangeOld
import Derived.Below
import Derived.Test.YtnccadjhpnmodaaCartY
namespace Go.Proofs.Ytnccadjhpnmodaa.fnExactCartWrite
open Go.ChangeShapes Go.WideShapes Go.ChangeAt Go.RowKit
open Go.ChangeMaps (open_string shut_string)
set_option linter.unusedVariables false

theorem own : ownKnob Try.prog.godebug = none := by kernel_rfl
theorem laidOut : laidOutB Try.prog = true := by kernel_rfl

set_option maxHeartbeats 2000000 in
theorem walk (w : World) (rom0 : ByteArray) (kind0 bank0 : Int) (ram0 : ByteArray) (rb0 : Int) (on0 : Bool) (mode0 : Int) (zr0 : rom0.size ≤ maxLen) (zm0 : ram0.size ≤ maxLen) (a1 : Int) (w1 : (Lit.int .i64 a1).wf = true) (a2 : Int) (w2 : (Lit.int .i64 a2).wf = true) :
    Calls Try.prog 7 #[.agg #[.string rom0, .int .i64 kind0, .int .i64 bank0, .string ram0, .int .i64 rb0, .bool on0, .int .i64 mode0], .int .i64 a1, .int .i64 a2] w fun e w' => e = .returned (.bool true) ∧ Below w.heap.size w w' := by
  have cz := fun w => CartL.szCart_any rom0 kind0 bank0 ram0 rb0 on0 mode0 1048576 w zr0 zm0 (by decide) (by decide)
  have cs := fun w => CartY.specWrite_any rom0 kind0 bank0 ram0 rb0 on0 mode0 a1 a2 w zr0 zm0
  have ci := fun w => CartY.implWrite_any rom0 kind0 bank0 ram0 rb0 on0 mode0 a1 a2 w zr0 zm0
  obtain ⟨q, hq⟩ : ∃ q, q = CartL.left2 1048576 rom0.size ram0.size := ⟨_, rfl⟩
  have bq : -1 ≤ q ∧ q ≤ 1048576 := by rw [hq]; unfold CartL.left2; split; omega; split <;> omega
  obtain ⟨b0, b1⟩ := bq
  rw [← hq] at cz
  have hb : ∃ (rom' : ByteArray) (kind' bank' : Int) (ram' : ByteArray) (rb' : Int) (on' : Bool) (mode' : Int) (f : Bool), CartY.back rom0 kind0 bank0 ram0 rb0 on0 mode0 a1 a2 = .tuple #[.agg #[.string rom', .int .i64 kind', .int .i64 bank', .string ram', .int .i64 rb', .bool on', .int .i64 mode'], .bool f] := by
    unfold CartY.back
    split
    · exact ⟨_, _, _, _, _, _, _, _, rfl⟩
    · exact ⟨_, _, _, _, _, _, _, _, rfl⟩
  obtain ⟨rom', kind', bank', ram', rb', on', mode', f, hb⟩ := hb
  rw [hb] at cs ci
  clear hq hb zr0 zm0 w1 w2
  go_enter Try.func7, Try.ntmps7
  by_cases hneg : q < 0
  · go_wp2_with (go_at_call 12; refine (cz _).mono ?_; rintro e w' ⟨rfl, rfl⟩)
    go_ret
    exact ⟨rfl, by repeat (first | exact Below.refl _ _ | refine CartL.grow ?_ _ | refine below_drewN ?_ _ | refine Below.drew ?_)⟩
  go_wp2_with first | (go_at_call 12; refine (cz _).mono ?_; rintro e w' ⟨rfl, rfl⟩) | (go_at_call 14; refine (CartL.toCart_any _ _ _ _ _ _ _ _).mono ?_; rintro e w' ⟨rfl, rfl⟩)
  refine (cs _).mono ?_
  rintro e w1 ⟨rfl, hb⟩
  have h1 := CartL.after (a := w.alloc (.cells #[.string rom0, .int .i64 kind0, .int .i64 bank0, .string ram0, .int .i64 rb0, .bool on0, .int .i64 mode0] 23)) (by repeat (first | exact Below.refl _ _ | refine CartL.grow ?_ _ | refine below_drewN ?_ _ | refine Below.drew ?_)) hb
  have f0 := CartL.box h1 0 _ rfl
  have f1 := CartL.box h1 1 _ rfl
  have f2 := CartL.box h1 2 _ rfl
  have f3 := CartL.box h1 3 _ rfl
  have f4 := CartL.box h1 4 _ rfl
  have f5 := CartL.box h1 5 _ rfl
  have f6 := CartL.box h1 6 _ rfl
  have hlt : w.heap.size < w1.heap.size := Nat.lt_of_lt_of_le (by simp) h1.size
  have H : Hid (Below w.heap.size w w1) := CartL.after ((Below.refl _ _).alloc (Nat.le_refl _) _) h1
  clear h1 hb
  go_wp2_with (go_at_call 14; refine (CartL.toCart_any _ _ _ _ _ _ _ _).mono ?_; rintro e w' ⟨rfl, rfl⟩)
  refine (ci _).mono ?_
  rintro e w2 ⟨rfl, hb2⟩
  have h2 := CartL.after (a := w1.alloc (.cells #[.string rom', .int .i64 kind', .int .i64 bank', .string ram', .int .i64 rb', .bool on', .int .i64 mode'] 26)) (by repeat (first | exact Below.refl _ _ | refine CartL.grow ?_ _ | refine below_drewN ?_ _ | refine Below.drew ?_)) hb2
  have g0 := CartL.box h2 0 _ rfl
  have g1 := CartL.box h2 1 _ rfl
  have g2 := CartL.box h2 2 _ rfl
  have g3 := CartL.box h2 3 _ rfl
  have g4 := CartL.box h2 4 _ rfl
  have g5 := CartL.box h2 5 _ rfl
  have g6 := CartL.box h2 6 _ rfl
  have hlt2 : w1.heap.size < w2.heap.size := Nat.lt_of_lt_of_le (by simp) h2.size
  have H2 : Hid (Below w.heap.size w w2) := CartL.after H.out (CartL.after ((Below.refl _ _).alloc (Nat.le_refl _) _) h2)
  clear h2 hb2 f0 f1 f2 f3 f4 f5 f6
  cases f
  all_goals
    go_wp2_with (go_at_call 18; refine (CartL.eqCart_any _ _ _ _ _ _ _ _).mono ?_; rintro e w' ⟨rfl, rfl⟩)
    go_ret
    exact ⟨rfl, CartL.after H2.out (by repeat (first | exact Below.refl _ _ | refine CartL.grow ?_ _))⟩

set_option maxRecDepth 100000 in
theorem lifted (os : Os) (started : os.Started) (H : Type) (enc : TypeId × Value → H) :
    ReturnsInHanded {} Try.checked os 7 .any (Rows.fnExactCartWriteSpec.pre6 enc Try.prog Try.f7 Rows.fnExactCartWriteRow.domain false) (Rows.fnExactCartWriteSpec.post enc Try.prog Try.f7 false true false false) := by
  refine returnsInHanded_of_change (C := Try.checked) own started (by kernel_rfl) Try.func7
    (ChangeSpec.witness6 (enc := enc) (C := Try.checked) false ⟨#[], #[.agg #[.string ByteArray.empty, .int .i64 0, .int .i64 0, .string ByteArray.empty, .int .i64 0, .bool false, .int .i64 0], .int .i64 0, .int .i64 0], []⟩ 8 (by kernel_rfl) (by kernel_rfl) (by kernel_rfl) (by kernel_rfl)) ?_
  intro W base args ds gs before hval0 hW hcnd _
  have hval : ∀ (j : Nat) t v, Try.f7.params[j]? = some t → args[j]? = some v → Value.okWide Try.prog W .any base t v := hval0
  have hW' := hW
  obtain ⟨p, q, hA0, hV, rfl, hfz, hnd⟩ := hW
  have hA : DataW.TrodAll enc Try.prog W 0 (fun _ => true) true Try.f7.params.toList args.toList ds p := hA0
  rw [Try.params7] at hA hval
  obtain ⟨v0, vs0, d0, ds0, p0, q0, hargs, rfl, rfl, h0, r0⟩ := trodAll_cons hA
  obtain ⟨v1, vs1, d1, ds1, p1, q1, rfl, rfl, rfl, h1, r1⟩ := trodAll_cons r0
  obtain ⟨v2, vs2, d2, ds2, p2, q2, rfl, rfl, rfl, h2, r2⟩ := trodAll_cons r1
  obtain ⟨rfl, rfl, rfl⟩ := trodAll_nil r2
  obtain rfl : args = #[v0, v1, v2] := by cases args; simp_all
  obtain ⟨rfl, rfl⟩ := trodVars_none hV
  obtain ⟨cs0, rfl, _⟩ := okWide_struct Try.underlying23 (hval 0 23 v0 rfl rfl)
  have kk0 := h0
  have lt0 : ∀ x ∈ p0, x.block < W.heap.size := by obtain ⟨m, hm⟩ := kk0; exact DataW.trod_lt m _ _ _ hm
  obtain ⟨rom0, kind0, bank0, ram0, rb0, on0, mode0, e0, zr0, zm0⟩ : ∃ (rom : ByteArray) (kind bank : Int) (ram : ByteArray) (rb : Int) (on : Bool) (mode : Int), cs0 = #[.string rom, .int .i64 kind, .int .i64 bank, .string ram, .int .i64 rb, .bool on, .int .i64 mode] ∧ rom.size ≤ maxLen ∧ ram.size ≤ maxLen := by
    obtain ⟨fuel, hf⟩ := h0
    obtain ⟨rom, kind, bank, ram, rb, on, mode, hcs, h1, h2⟩ := CartL.cart_of hf
    simp [Value.cells] at hcs
    exact ⟨rom, kind, bank, ram, rb, on, mode, by cases cs0; simp_all, h1, h2⟩
  subst e0
  obtain ⟨a1, rfl, rfl, rfl, w1⟩ := open_int Try.underlying2 (hval 1 2 v1 rfl rfl) h1
  obtain ⟨a2, rfl, rfl, rfl, w2⟩ := open_int Try.underlying2 (hval 2 2 v2 rfl rfl) h2
  clear hA0 hval0
  refine (walk W rom0 kind0 bank0 ram0 rb0 on0 mode0 zr0 zm0 a1 w1 a2 w2).mono fun e W' ⟨he, bel⟩ => ?_
  subst he
  exact ⟨_, rfl, _, _, _, [], _, [], hW', trodAll_mk1 (shut_bool Try.underlying4 _), (trodAll_cons_mk (Below.trod laidOut (by kernel_rfl) (of_decide_eq_true (by kernel_rfl)) kk0 bel lt0) (trodAll_cons_mk (shut_int Try.underlying2 w1) (trodAll_cons_mk (shut_int Try.underlying2 w2) trodAll_mk0))), rfl, bel.frame _, fun h => by cases h⟩

theorem over : Rows.fnExactCartWriteRow.holds Try.pinned (OpenSpec.ofChange Rows.fnExactCartWriteSpec) :=
  OpenClaim.holds_of_wide 7 Try.f7 rfl rfl rfl rfl rfl rfl rfl ⟨rfl, rfl, rfl, rfl, rfl⟩ rfl rfl rfl rfl rfl (by kernel_rfl) Try.func7 (by kernel_rfl)
    (of_decide_eq_true (by kernel_rfl)) (by unfold Func.isWrapper; first | (rw [if_pos (by decide +kernel)]; kernel_rfl) | (rw [if_neg (by decide +kernel)]; exact ⟨rfl, rfl⟩))
    (fun os started H enc _ => lifted os started H enc)
end Go.Proofs.Ytnccadjhpnmodaa.fnExactCartWrite
namespace Go.Proofs.Ytnccadjhpnmodaa
theorem fnExactCartWrite_holds : Rows.FnExactCartWriteSaid := fnExactCartWrite.over
end Go.Proofs.Ytnccadjhpnmodaa
