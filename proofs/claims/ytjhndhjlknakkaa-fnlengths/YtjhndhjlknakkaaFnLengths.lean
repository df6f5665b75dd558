/- For every code the law FnLengths answers true: of the drawn code impl.LengthOf and impl.CyclesOf answer as spec does; where there is an instruction it has as many bytes as its length says and takes 1 to 6 cycles, no fewer when it goes elsewhere, and where there is none no cycles; the code reads afterwards as it read before; no condition. -/
import Derived.Test.YtjhndhjlknakkaaRows
import Derived.WalkKit
import Derived.ProofKit
import Derived.OpenShut
import Derived.ShutString
import Derived.ChangeOld
import Derived.Below
import Derived.Test.YtjhndhjlknakkaaInsP
import Derived.Test.YtjhndhjlknakkaaDrawI
import Derived.Test.YtjhndhjlknakkaaCycX
import Derived.Deep.DeepFit
import Derived.HandedShaped
namespace Go.Proofs.Ytjhndhjlknakkaa.fnLengths
open Go.ChangeShapes Go.WideShapes Go.ChangeAt Go.RowKit
open Go.ChangeMaps (open_string shut_string)
set_option linter.unusedVariables false

theorem own : ownKnob Try.prog.godebug = none := by kernel_rfl
theorem laidOut : laidOutB Try.prog = true := by kernel_rfl
/-- What the walk is told of a slice of bytes that came in: it is nil; or it leads to a row of cells, the numbers zs, each fitting its kind. -/
def IsRow (k : IntKind) (w : World) (a : Option Addr) (len cap : Nat) (zs : List Int) : Prop :=
  (a = none ∧ len = 0 ∧ cap = 0 ∧ zs = []) ∨
  ∃ x, a = some x ∧ len ≤ cap ∧ cap ≤ maxLen ∧ zs.length = cap ∧ (∀ i, i < zs.length → w.cell? (x.add i) = some (.int k (zs.getD i 0))) ∧ ∀ n ∈ zs, (Lit.int k n).wf = true
set_option maxRecDepth 20000
open HolI LenX InsX InsB ReadI ReadJ InsP DrawI
theorem toRow {k : IntKind} {w : World} {a : Option Addr} {len cap : Nat} {zs : List Int} (h : IsRow k w a len cap zs) : Rdr.IsRow k w a len cap zs := h
theorem facts (n : Int) (b t : Bool) (n0 : 0 ≤ n) (n1 : n ≤ 255) (h : none? n b = false) : ((bytesV n b 0).size : Int) = lenV (none? n b) b (hole n b) ∧ ¬ lenV (none? n b) b (hole n b) = 0 ∧ 0 < CycX.cyc n b t ∧ CycX.cyc n b t < 7 ∧ CycX.cyc n b false ≤ CycX.cyc n b true := by
  have ok : okV n b 0 = true := by
    rcases hole_cases n b with hx | hx | hx | hx
    · rw [ok_n8 h hx]; rfl
    · rw [ok_n16 h hx]; rfl
    · rw [ok_e8 h hx]; rfl
    · rw [ok_no h hx]; rfl
  obtain ⟨p1, p2, p3⟩ := size_pos ok
  exact ⟨p3, by rw [h]; exact lenV_ne b (hole n b), CycX.range n b t n0 n1 h⟩

set_option maxHeartbeats 2000000 in
theorem walk (w : World) (a0 : Option Addr) (len0 cap0 : Nat) (z0 : List Int) (w0 : IsRow .u8 w a0 len0 cap0 z0) (hm : HolI.MaxL w) :
    Calls Try.prog 3 #[.slice a0 len0 cap0] w fun e w' => e = .returned (.bool true) ∧ Below w.heap.size w w' := by
  have H : Hid (Rdr.IsRow .u8 w a0 len0 cap0 z0) := toRow w0
  have HM : Hid (HolI.MaxL w) := hm
  clear w0 hm
  have cb := Rdr.big_any a0 len0 cap0 w H.out.len
  by_cases hbig : Rdr.bigB len0 = true
  · rw [hbig] at cb
    go_enter Try.func3, Try.ntmps3
    go_wp2_with (go_at_call 6; refine cb.mono ?_; rintro e w' ⟨rfl, rfl⟩)
    go_ret
    exact ⟨rfl, Below.refl _ _⟩
  have hbig : Rdr.bigB len0 = false := by simpa using hbig
  rw [hbig] at cb
  go_enter Try.func3, Try.ntmps3
  go_wp2_with fail
  refine cb.mono ?_
  rintro e wa ⟨rfl, rfl⟩
  go_wp2_with fail
  refine (drawCyclesOf_any _ _ _ _ _ H.out).mono ?_
  rintro e w1 ⟨⟨n, b, t, n0, n1, rfl⟩, b1⟩
  have B1 : Hid (Below wa.heap.size wa w1) := b1
  clear b1
  have li := fun w hm => implLength_any n b w hm
  have ls := fun w => specLength_any n b w
  obtain ⟨cs, ci⟩ := CycX.same n b t
  obtain ⟨_, cT⟩ := CycX.same n b true
  obtain ⟨_, cF⟩ := CycX.same n b false
  unfold CycX.Sp at cs
  unfold CycX.Im at ci cT cF
  have cB := fun w hm => implBytes_any n b 0 w hm
  have HF : Hid (none? n b = false → _) := fun h => facts n b t n0 n1 h
  have H0 : Hid (none? n b = true → CycX.cyc n b t = 0 ∧ lenV (none? n b) b (hole n b) = 0) := fun h => ⟨CycX.none_at n b t h, by rw [h]; rfl⟩
  generalize CycX.cyc n b t = C at cs ci HF H0
  generalize CycX.cyc n b true = CT at cT HF
  generalize CycX.cyc n b false = CF at cF HF
  generalize lenV (none? n b) b (hole n b) = L at li ls HF H0
  generalize bytesV n b 0 = Y at cB HF
  generalize none? n b = z at HF H0
  clear n0 n1
  go_wp2_with fail
  refine (li _ (HM.out.below B1.out)).mono ?_
  rintro e w2 ⟨rfl, b2⟩
  have BW : Hid (Below wa.heap.size wa w2) := after B1.out b2
  clear b2 B1 li
  go_wp2_with fail
  refine (ci _).mono ?_
  rintro e w3 ⟨rfl, b3⟩
  have BW : Hid (Below wa.heap.size wa w3) := after BW.out b3
  clear b3 ci
  cases z with
  | true =>
    obtain ⟨rfl, rfl⟩ := H0.out rfl
    clear HF H0
    go_wp2_with first
      | (go_at_call 10; refine (ls _).mono ?_; rintro e wk ⟨rfl, bk⟩; have BW : Hid (Below wa.heap.size wa wk) := after BW.out bk; clear bk)
      | (go_at_call 11; refine (cs _).mono ?_; rintro e wk ⟨rfl, bk⟩; have BW : Hid (Below wa.heap.size wa wk) := after BW.out bk; clear bk)
      | (go_at_call 12; refine (cB _ (HM.out.below BW.out)).mono ?_; rintro e wk ⟨rfl, bk⟩; have BW : Hid (Below wa.heap.size wa wk) := after BW.out bk; clear bk)
      | (go_at_call 9; go_fit (cT _); rintro e wk ⟨rfl, bk⟩; have BW : Hid (Below wa.heap.size wa wk) := after BW.out bk; clear bk)
      | (go_at_call 9; go_fit (cF _); rintro e wk ⟨rfl, bk⟩; have BW : Hid (Below wa.heap.size wa wk) := after BW.out bk; clear bk)
    go_ret
    exact ⟨by first | rfl | simp, BW.out⟩
  | false =>
    obtain ⟨l1, l2, l3, l4, l5⟩ := HF.out rfl
    have l2' : (L == 0) = false := by simpa using l2
    clear HF H0
    go_wp2_with first
      | (go_at_call 10; refine (ls _).mono ?_; rintro e wk ⟨rfl, bk⟩; have BW : Hid (Below wa.heap.size wa wk) := after BW.out bk; clear bk)
      | (go_at_call 11; refine (cs _).mono ?_; rintro e wk ⟨rfl, bk⟩; have BW : Hid (Below wa.heap.size wa wk) := after BW.out bk; clear bk)
      | (go_at_call 12; refine (cB _ (HM.out.below BW.out)).mono ?_; rintro e wk ⟨rfl, bk⟩; have BW : Hid (Below wa.heap.size wa wk) := after BW.out bk; clear bk)
      | (go_at_call 9; go_fit (cT _); rintro e wk ⟨rfl, bk⟩; have BW : Hid (Below wa.heap.size wa wk) := after BW.out bk; clear bk)
      | (go_at_call 9; go_fit (cF _); rintro e wk ⟨rfl, bk⟩; have BW : Hid (Below wa.heap.size wa wk) := after BW.out bk; clear bk)
    go_ret
    exact ⟨by first | rfl | simp, BW.out⟩

set_option maxRecDepth 100000 in
theorem lifted (os : Os) (started : os.Started) (H : Type) (enc : TypeId × Value → H) :
    ReturnsInHanded {} Try.checked os 3 .any (Rows.fnLengthsSpec.pre6 enc Try.prog Try.f3 Rows.fnLengthsRow.domain false) (Rows.fnLengthsSpec.post enc Try.prog Try.f3 false true false false) := by
  refine returnsInHanded_of_change_shaped (C := Try.checked) own started (by kernel_rfl) Try.func3
    (ChangeSpec.witness6 (enc := enc) (C := Try.checked) false ⟨#[], #[.slice none 0 0], []⟩ 8 (by kernel_rfl) (by kernel_rfl) (by kernel_rfl) (by kernel_rfl)) ?_
  intro W base args ds gs before hval0 hW hcnd _ hsh _
  have hval : ∀ (j : Nat) t v, Try.f3.params[j]? = some t → args[j]? = some v → Value.okWide Try.prog W .any base t v := hval0
  have hW' := hW
  obtain ⟨p, q, hA0, hV, rfl, hfz, hnd⟩ := hW
  have hA : DataW.TrodAll enc Try.prog W 0 (fun _ => true) true Try.f3.params.toList args.toList ds p := hA0
  rw [Try.params3] at hA hval
  obtain ⟨v0, vs0, d0, ds0, p0, q0, hargs, rfl, rfl, h0, r0⟩ := trodAll_cons hA
  obtain ⟨rfl, rfl, rfl⟩ := trodAll_nil r0
  obtain rfl : args = #[v0] := by cases args; simp_all
  obtain ⟨rfl, rfl⟩ := trodVars_none hV
  obtain ⟨a0, len0, cap0, rfl⟩ := okWide_slice Try.underlying22 (hval 0 22 v0 rfl rfl)
  have k0 := h0
  have lt0 : ∀ x ∈ p0, x.block < W.heap.size := by obtain ⟨m, hm⟩ := k0; exact DataW.trod_lt m _ _ _ hm
  obtain ⟨z0, w0⟩ : ∃ zs, IsRow .u8 W a0 len0 cap0 zs := by
    obtain ⟨fuel, hf⟩ := h0
    rcases open_ints Try.underlying22 Try.underlying5 (by kernel_rfl) hf with ⟨hcs, _⟩ | ⟨x, l, c, zs, hcs, _, hl, hm, hz, _, hcell, hwz⟩
    · simp [Value.cells] at hcs
      obtain ⟨rfl, rfl, rfl⟩ := hcs
      exact ⟨[], .inl ⟨rfl, rfl, rfl, rfl⟩⟩
    · simp [Value.cells] at hcs
      obtain ⟨rfl, rfl, rfl⟩ := hcs
      exact ⟨zs, .inr ⟨_, rfl, hl, hm, by simpa using hz, hcell, hwz⟩⟩
  clear hA0 hval0
  refine (walk W a0 len0 cap0 z0 w0 (Try.laysM144.s1_3 W hsh)).mono fun e W' ⟨he, bel⟩ => ?_
  subst he
  exact ⟨_, rfl, _, _, _, [], _, [], hW', trodAll_mk1 (shut_bool Try.underlying4 _), (trodAll_cons_mk (Below.trod laidOut (by kernel_rfl) (of_decide_eq_true (by kernel_rfl)) k0 bel lt0) trodAll_mk0), rfl, bel.frame _, fun h => by cases h⟩

theorem over : Rows.fnLengthsRow.holds Try.pinned (OpenSpec.ofChange Rows.fnLengthsSpec) :=
  OpenClaim.holds_of_wide 3 Try.f3 rfl rfl rfl rfl rfl rfl rfl ⟨rfl, rfl, rfl, rfl, rfl⟩ rfl rfl rfl rfl rfl (by kernel_rfl) Try.func3 (by kernel_rfl)
    (of_decide_eq_true (by kernel_rfl)) (by unfold Func.isWrapper; first | (rw [if_pos (by decide +kernel)]; kernel_rfl) | (rw [if_neg (by decide +kernel)]; exact ⟨rfl, rfl⟩))
    (fun os started H enc _ => lifted os started H enc)
end Go.Proofs.Ytjhndhjlknakkaa.fnLengths
namespace Go.Proofs.Ytjhndhjlknakkaa
theorem fnLengths_holds : Rows.FnLengthsSaid := fnLengths.over
end Go.Proofs.Ytjhndhjlknakkaa
