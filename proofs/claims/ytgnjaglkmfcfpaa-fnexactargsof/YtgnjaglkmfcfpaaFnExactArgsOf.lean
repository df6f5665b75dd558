/- For every text the law FnExactArgsOf answers true, that is, impl.ArgsOf answers as spec.ArgsOf does, its answer owns its memory, behind another call too, and the text reads afterwards as it read before; no condition. -/
import Derived.Test.YtgnjaglkmfcfpaaRows
import Derived.WalkKit
import Derived.ProofKit
import Derived.OpenShut
import Derived.ShutString
import Derived.ChangeOld
import Derived.Below
import Derived.Test.YtgnjaglkmfcfpaaArgl
import Derived.Test.YtgnjaglkmfcfpaaMarks
namespace Go.Proofs.Ytgnjaglkmfcfpaa.fnExactArgsOf
open Go.ChangeShapes Go.WideShapes Go.ChangeAt Go.RowKit
open Go.ChangeMaps (open_string shut_string)
set_option linter.unusedVariables false

theorem own : ownKnob Try.prog.godebug = none := by kernel_rfl
theorem laidOut : laidOutB Try.prog = true := by kernel_rfl
theorem texts_own {w : World} {base cap : Nat} {a : Option Addr} {L : List ByteArray} (h : w.ownsRow base 9 1 (.slice a L.length cap) L.length (L.map Value.string)) : Txts.Texts w a L := by
  obtain ⟨a', cap', hv, T, _⟩ := Txts.owned_texts h
  have e : a = a' := by injection hv
  rw [e]; exact T
theorem other_block {w1 w2 : World} {b1 b2 : Nat} {v1 v2 : Value} {n1 n2 : Nat} {x1 x2 : List Value} (h1 : w1.ownsRow b1 9 1 v1 n1 x1) (h2 : w2.ownsRow b2 9 1 v2 n2 x2) (hb : w1.heap.size ≤ b2) : v1.ownBlock = none ∨ v1.ownBlock ≠ v2.ownBlock := by
  cases e : v1.ownBlock with
  | none => exact .inl rfl
  | some k =>
    refine .inr (fun h => ?_)
    have a := (h1.lt k e).2
    have b := (h2.lt k h.symm).1
    omega

set_option maxHeartbeats 2000000 in
theorem walk (w : World) (a0 : ByteArray) (w0 : a0.size ≤ maxLen) :
    Calls Try.prog 5 #[.string a0] w fun e w' => e = .returned (.bool true) ∧ Below w.heap.size w w' := by
  by_cases hbig : 1048576 < a0.size
  · unfold maxLen at w0
    go_enter Try.func5, Try.ntmps5
    go_wp2
    go_ret
    exact ⟨rfl, Below.refl _ _⟩
  have cs := fun w => Argl.specArgs_any a0 w (by omega)
  have ci := fun w => Argl.implArgs_any a0 w (by omega)
  have hlen := Argl.args_len a0
  generalize Argl.argsL a0 = L at cs ci hlen
  have hl : L.length ≤ 1048577 := by omega
  clear w0 hlen
  go_enter Try.func5, Try.ntmps5
  go_wp2_with fail
  refine (cs _).mono ?_
  rintro e w1 ⟨v1, rfl, own1, b1⟩
  obtain ⟨x1, cap1, rfl, _, _⟩ := Txts.owned_texts own1
  have O1 := (show Hid _ from own1)
  have B1 := (show Hid _ from b1)
  clear own1 b1
  go_wp2_with fail
  refine (ci _).mono ?_
  rintro e w2 ⟨v2, rfl, own2, b2⟩
  obtain ⟨x2, cap2, rfl, T2, _⟩ := Txts.owned_texts own2
  have own1 := Argl.own_below O1.out b2
  have O1' := (show Hid _ from own1)
  have O2 := (show Hid _ from own2)
  have T1 := (show Hid _ from texts_own own1)
  have T2' := (show Hid _ from T2)
  have NE := (show Hid _ from other_block O1.out own2 (Nat.le_refl _))
  have B2 := (show Hid _ from B1.out.trans (b2.mono B1.out.size))
  have S12 := (show Hid _ from Nat.le_trans B1.out.size (Nat.le_refl w1.heap.size))
  clear own1 own2 T2 b2 O1 B1
  go_wp2_with fail
  refine (Txts.eqStringS_any _ _ _ _ L _ T2'.out T1.out (by omega)).mono ?_
  rintro e w3 ⟨rfl, n3, hw3⟩
  have b3 : Hid (Below w2.heap.size w2 w3) := by rw [hw3]; exact below_drewN (Below.refl _ _) _
  have O13 := (show Hid _ from Argl.own_below O1'.out b3.out)
  have O23 := (show Hid _ from Argl.own_below O2.out b3.out)
  have B3 := (show Hid _ from B2.out.trans (b3.out.mono B2.out.size))
  clear hw3 T1 T2' O1' O2 B2 b3
  go_wp2_with fail
  refine (Marks.markStringS_any _ _ _ _ _ O23.out (by omega)).mono ?_
  rintro e w4 ⟨rfl, own4, gr4⟩
  have O14 := (show Hid _ from World.ownsRow.kept O13.out gr4 NE.out)
  have O24 := (show Hid _ from own4)
  have hlt4 := World.ownsRow.lt O23.out
  have B4 := (show Hid _ from B3.out.grown gr4 B3.out.size (fun j hj => Nat.le_trans S12.out (hlt4 j hj).1))
  clear own4 gr4 hlt4 O13 O23 B3 NE S12
  go_wp2_with fail
  refine (Marks.heldStringS_any _ _ _ _ O24.out (by omega)).mono ?_
  rintro e w5 ⟨rfl, b5⟩
  have O15 := (show Hid _ from Argl.own_below O14.out b5)
  have O25 := (show Hid _ from Argl.own_below O24.out b5)
  have B5 := (show Hid _ from B4.out.trans (b5.mono B4.out.size))
  clear b5 O14 O24 B4
  go_wp2_with fail
  refine (ci _).mono ?_
  rintro e w6 ⟨v6, rfl, own6, b6⟩
  obtain ⟨x6, cap6, rfl, T6, _⟩ := Txts.owned_texts own6
  have T6' := (show Hid _ from T6)
  have T16 := (show Hid _ from texts_own (Argl.own_below O15.out b6))
  have O26 := (show Hid _ from Argl.own_below O25.out b6)
  have B6 := (show Hid _ from B5.out.trans (b6.mono B5.out.size))
  clear own6 b6 T6 O15 O25 B5
  go_wp2_with fail
  refine (Txts.eqStringS_any _ _ _ _ L _ T6'.out T16.out (by omega)).mono ?_
  rintro e w7 ⟨rfl, n7, hw7⟩
  have b7 : Hid (Below w6.heap.size w6 w7) := by rw [hw7]; exact below_drewN (Below.refl _ _) _
  have O27 := (show Hid _ from Argl.own_below O26.out b7.out)
  have B7 := (show Hid _ from B6.out.trans (b7.out.mono B6.out.size))
  clear hw7 b7 O26 B6 T6' T16
  go_wp2_with fail
  refine (Marks.heldStringS_any _ _ _ _ O27.out (by omega)).mono ?_
  rintro e w8 ⟨rfl, b8⟩
  have B8 := (show Hid _ from B7.out.trans (b8.mono B7.out.size))
  clear b8 O27 B7
  go_wp2
  go_ret
  exact ⟨rfl, B8.out⟩

set_option maxRecDepth 100000 in
theorem lifted (os : Os) (started : os.Started) (H : Type) (enc : TypeId × Value → H) :
    ReturnsInHanded {} Try.checked os 5 .any (Rows.fnExactArgsOfSpec.pre6 enc Try.prog Try.f5 Rows.fnExactArgsOfRow.domain false) (Rows.fnExactArgsOfSpec.post enc Try.prog Try.f5 false true false false) := by
  refine returnsInHanded_of_change (C := Try.checked) own started (by kernel_rfl) Try.func5
    (ChangeSpec.witness6 (enc := enc) (C := Try.checked) false ⟨#[], #[.string ByteArray.empty], []⟩ 8 (by kernel_rfl) (by kernel_rfl) (by kernel_rfl) (by kernel_rfl)) ?_
  intro W base args ds gs before hval0 hW hcnd _
  have hval : ∀ (j : Nat) t v, Try.f5.params[j]? = some t → args[j]? = some v → Value.okWide Try.prog W .any base t v := hval0
  have hW' := hW
  obtain ⟨p, q, hA0, hV, rfl, hfz, hnd⟩ := hW
  have hA : DataW.TrodAll enc Try.prog W 0 (fun _ => true) true Try.f5.params.toList args.toList ds p := hA0
  rw [Try.params5] at hA hval
  obtain ⟨v0, vs0, d0, ds0, p0, q0, hargs, rfl, rfl, h0, r0⟩ := trodAll_cons hA
  obtain ⟨rfl, rfl, rfl⟩ := trodAll_nil r0
  obtain rfl : args = #[v0] := by cases args; simp_all
  obtain ⟨rfl, rfl⟩ := trodVars_none hV
  obtain ⟨a0, rfl, rfl, rfl, w0⟩ := open_string Try.underlying9 (hval 0 9 v0 rfl rfl) h0
  clear hA0 hval0
  refine (walk W a0 w0).mono fun e W' ⟨he, bel⟩ => ?_
  subst he
  exact ⟨_, rfl, _, _, _, [], _, [], hW', trodAll_mk1 (shut_bool Try.underlying4 _), (trodAll_cons_mk (shut_string Try.underlying9 w0) trodAll_mk0), rfl, bel.frame _, fun h => by cases h⟩

theorem over : Rows.fnExactArgsOfRow.holds Try.pinned (OpenSpec.ofChange Rows.fnExactArgsOfSpec) :=
  OpenClaim.holds_of_wide 5 Try.f5 rfl rfl rfl rfl rfl rfl rfl ⟨rfl, rfl, rfl, rfl, rfl⟩ rfl rfl rfl rfl rfl (by kernel_rfl) Try.func5 (by kernel_rfl)
    (of_decide_eq_true (by kernel_rfl)) (by unfold Func.isWrapper; first | (rw [if_pos (by decide +kernel)]; kernel_rfl) | (rw [if_neg (by decide +kernel)]; exact ⟨rfl, rfl⟩))
    (fun os started H enc _ => lifted os started H enc)
end Go.Proofs.Ytgnjaglkmfcfpaa.fnExactArgsOf
namespace Go.Proofs.Ytgnjaglkmfcfpaa
theorem fnExactArgsOf_holds : Rows.FnExactArgsOfSaid := fnExactArgsOf.over
end Go.Proofs.Ytgnjaglkmfcfpaa
