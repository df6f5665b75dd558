/- For every code the law FnCartNew answers true: of the drawn text and kind impl.CartNew answers as spec.CartNew does, and a new cart is right, reads its rom, the second bank behind the first, and no ram; the code reads afterwards as it read before; no condition. -/
import Derived.Test.YtllpkidfldmbnaaRows
import Derived.WalkKit
import Derived.ProofKit
import Derived.OpenShut
import Derived.ShutString
import Derived.ChangeOld
import Derived.Below
import Derived.Test.YtllpkidfldmbnaaCartZ
import Derived.Deep.Cut
namespace Go.Proofs.Ytllpkidfldmbnaa.fnCartNew
open Go.ChangeShapes Go.WideShapes Go.ChangeAt Go.RowKit
open Go.ChangeMaps (open_string shut_string)
set_option linter.unusedVariables false

theorem own : ownKnob Try.prog.godebug = none := by kernel_rfl
theorem laidOut : laidOutB Try.prog = true := by kernel_rfl
/-- What the walk is told of a slice of bytes that came in: it is nil; or it leads to a row of cells, the numbers zs, each fitting its kind. -/
def IsRow (k : IntKind) (w : World) (a : Option Addr) (len cap : Nat) (zs : List Int) : Prop :=
  (a = none ∧ len = 0 ∧ cap = 0 ∧ zs = []) ∨
  ∃ x, a = some x ∧ len ≤ cap ∧ cap ≤ maxLen ∧ zs.length = cap ∧ (∀ i, i < zs.length → w.cell? (x.add i) = some (.int k (zs.getD i 0))) ∧ ∀ n ∈ zs, (Lit.int k n).wf = true
set_option maxRecDepth 20000
open CartZ
theorem toRow {k : IntKind} {w : World} {a : Option Addr} {len cap : Nat} {zs : List Int} (h : IsRow k w a len cap zs) : Rdr.IsRow k w a len cap zs := h
theorem any_cons {P : Program} {ops : Array Oper} {Q : Exit → Act → World → Prop} {md : Region.Mode} {fuel : Nat} {listed : Array Bool} {a : Act} {w : World} {i : Nat} {o : Oper} {rs : List Nat} (ho : ops[i]? = some o) (hg : Region.wanted o (yielded ops a.tmps) = true)
    (h : ∀ K' : Act → World → Prop, (∀ a w, wpAny P md ops Q fuel (listed.setIfInBounds i true) a w → K' a w) → Oper.wp P o a w K' Q) (hs : AllReady P md ops Q fuel listed a w rs) : AllReady P md ops Q fuel listed a w (i :: rs) :=
  AllReady.cons ho (fun K hK => by simp only [hg, if_true]; exact h K hK) hs
theorem dw {a b : World} (h : Below a.drew.heap.size a.drew b) : Below a.heap.size a b := ((Below.refl a.heap.size a).drew).trans h

set_option maxHeartbeats 2000000 in
theorem walk (w : World) (a0 : Option Addr) (len0 cap0 : Nat) (z0 : List Int) (w0 : IsRow .u8 w a0 len0 cap0 z0) :
    Calls Try.prog 3 #[.slice a0 len0 cap0] w fun e w' => e = .returned (.bool true) ∧ Below w.heap.size w w' := by
  have H : Hid (Rdr.IsRow .u8 w a0 len0 cap0 z0) := toRow w0
  clear w0
  have cb := Rdr.big_any a0 len0 cap0 w H.out.len
  by_cases hbig : Rdr.bigB len0 = true
  · rw [hbig] at cb
    go_enter Try.func3, Try.ntmps3
    go_wp2_with (go_at_call 7; refine cb.mono ?_; rintro e w' ⟨rfl, rfl⟩)
    go_ret
    exact ⟨rfl, Below.refl _ _⟩
  have hbig : Rdr.bigB len0 = false := by simpa using hbig
  rw [hbig] at cb
  go_enter Try.func3, Try.ntmps3
  go_wp2_with fail
  refine cb.mono ?_
  rintro e wa ⟨rfl, rfl⟩
  go_wp2_with fail
  refine (drawCartNew_any _ _ _ _ _ H.out).mono ?_
  rintro e w1 ⟨⟨s, k, hs, rfl⟩, b1⟩
  have B1 : Hid (Below wa.heap.size wa w1) := b1
  clear b1 H cb
  have hz : s.size ≤ maxLen := by unfold maxLen; omega
  have ci := fun w => implNew s k w hz
  have cs := fun w => specNew s k w hz
  have HF := new_reads s k
  have HF : Hid (CartN.newB s k = true → _) := HF
  cases hnb : CartN.newB s k with
  | false =>
    rw [hnb] at ci cs
    simp only [Bool.false_eq_true, if_false, CartN.noCart] at ci cs
    clear HF hnb
    have ce := fun w => sameCart_any ⟨#[]⟩ 0 0 ⟨#[]⟩ 0 false 0 w
    go_wp2_with fail
    refine (ci _).mono ?_
    rintro e w2 ⟨rfl, b2⟩
    have BW : Hid (Below wa.heap.size wa w2) := CartL.after B1.out b2
    clear b2 B1
    go_wp2_with fail
    have HC : Hid (Ct (w2.alloc (.cells #[.string ⟨#[]⟩, .int .i64 0, .int .i64 0, .string ⟨#[]⟩, .int .i64 0, .bool false, .int .i64 0] 27)) w2.heap.size ⟨#[]⟩ 0 0 ⟨#[]⟩ 0 false 0) := Ct.new _ _ _ _ _ _ _ _
    have BW : Hid (Below wa.heap.size wa (w2.alloc (.cells #[.string ⟨#[]⟩, .int .i64 0, .int .i64 0, .string ⟨#[]⟩, .int .i64 0, .bool false, .int .i64 0] 27))) := BW.out.alloc BW.out.size _
    refine (cs _).mono ?_
    rintro e w3 ⟨rfl, b3⟩
    have HC := HC.out.below b3
    have BW : Hid (Below wa.heap.size wa w3) := CartL.after BW.out b3
    have HC : Hid (Ct _ _ _ _ _ _ _ _ _) := HC
    clear b3
    generalize w2.heap.size = B at HC ⊢
    go_upto_region 6 with fail
    have HD : Hid (Ct (w3.alloc (.cells #[.string ⟨#[]⟩, .int .i64 0, .int .i64 0, .string ⟨#[]⟩, .int .i64 0, .bool false, .int .i64 0] 27)) w3.heap.size ⟨#[]⟩ 0 0 ⟨#[]⟩ 0 false 0) := Ct.new _ _ _ _ _ _ _ _
    have HC : Hid (Ct (w3.alloc (.cells #[.string ⟨#[]⟩, .int .i64 0, .int .i64 0, .string ⟨#[]⟩, .int .i64 0, .bool false, .int .i64 0] 27)) B ⟨#[]⟩ 0 0 ⟨#[]⟩ 0 false 0) := HC.out.alloc _
    have BW : Hid (Below wa.heap.size wa (w3.alloc (.cells #[.string ⟨#[]⟩, .int .i64 0, .int .i64 0, .string ⟨#[]⟩, .int .i64 0, .bool false, .int .i64 0] 27))) := BW.out.alloc BW.out.size _
    generalize w3.alloc (.cells #[.string ⟨#[]⟩, .int .i64 0, .int .i64 0, .string ⟨#[]⟩, .int .i64 0, .bool false, .int .i64 0] 27) = w4 at HC HD BW ⊢
    generalize w3.heap.size = D at HD ⊢
    obtain ⟨c0, c1, c2, c3, c4, c5, c6⟩ := HC.out.cells
    obtain ⟨d0, d1, d2, d3, d4, d5, d6⟩ := HD.out.cells
    go_wp2_with fail
    refine (ce _).mono ?_
    rintro e w5 ⟨rfl, b5⟩
    have BW : Hid (Below wa.heap.size wa w5) := CartL.after BW.out b5
    have HC := HC.out.below b5
    have HD := HD.out.below b5
    clear b5 c0 c1 c2 c3 c4 c5 c6 d0 d1 d2 d3 d4 d5 d6
    obtain ⟨c0, c1, c2, c3, c4, c5, c6⟩ := HC.cells
    obtain ⟨d0, d1, d2, d3, d4, d5, d6⟩ := HD.cells
    go_wp2_with fail
    refine (ce _).mono ?_
    rintro e w6 ⟨rfl, b6⟩
    have BW : Hid (Below wa.heap.size wa w6) := CartL.after BW.out b6
    clear b6 c0 c1 c2 c3 c4 c5 c6 d0 d1 d2 d3 d4 d5 d6
    go_wp2
    go_ret
    exact ⟨rfl, BW.out⟩
  | true =>
    obtain ⟨hrd, hr3, hmp, hok⟩ := HF.out hnb
    rw [hnb] at ci cs
    simp only [if_true, CartN.newCart] at ci cs
    clear HF hnb
    have ce := fun w => sameCart_any s k 1 (CartN.Z 256) 0 false 0 w
    have zz : (CartN.Z 256).size ≤ maxLen := CartN.zmax
    have crd := fun i w => CartS.implRead_any s k 1 (CartN.Z 256) 0 false 0 i w hz zz
    have cok := fun w => CartL.implOk_any s k 1 (CartN.Z 256) 0 false 0 w hz zz
    have cmp := fun w => CartM.implMapped_any s k 1 (CartN.Z 256) 0 false 0 w hz zz
    have cr3 := crd 40960
    rw [hr3] at cr3
    rw [hok] at cok
    rw [hmp] at cmp
    have HRD : Hid (∀ i : Nat, i < 512 → ∃ hi : i < s.size, CartS.readV s k 1 (CartN.Z 256) 0 false 0 i = (s[i].toNat : Int)) := hrd
    clear hrd hr3 hok hmp zz
    generalize CartN.Z 256 = ZZ at *
    go_wp2_with fail
    refine (ci _).mono ?_
    rintro e w2 ⟨rfl, b2⟩
    have BW : Hid (Below wa.heap.size wa w2) := CartL.after B1.out b2
    clear b2 B1
    go_wp2_with fail
    have HC : Hid (Ct (w2.alloc (.cells #[.string s, .int .i64 k, .int .i64 1, .string ZZ, .int .i64 0, .bool false, .int .i64 0] 27)) w2.heap.size s k 1 ZZ 0 false 0) := Ct.new _ _ _ _ _ _ _ _
    have BW : Hid (Below wa.heap.size wa (w2.alloc (.cells #[.string s, .int .i64 k, .int .i64 1, .string ZZ, .int .i64 0, .bool false, .int .i64 0] 27))) := BW.out.alloc BW.out.size _
    refine (cs _).mono ?_
    rintro e w3 ⟨rfl, b3⟩
    have HC := HC.out.below b3
    have BW : Hid (Below wa.heap.size wa w3) := CartL.after BW.out b3
    have HC : Hid (Ct _ _ _ _ _ _ _ _ _) := HC
    clear b3
    generalize w2.heap.size = B at HC ⊢
    go_upto_region 6 with fail
    have HD : Hid (Ct (w3.alloc (.cells #[.string s, .int .i64 k, .int .i64 1, .string ZZ, .int .i64 0, .bool false, .int .i64 0] 27)) w3.heap.size s k 1 ZZ 0 false 0) := Ct.new _ _ _ _ _ _ _ _
    have HC : Hid (Ct (w3.alloc (.cells #[.string s, .int .i64 k, .int .i64 1, .string ZZ, .int .i64 0, .bool false, .int .i64 0] 27)) B s k 1 ZZ 0 false 0) := HC.out.alloc _
    have BW : Hid (Below wa.heap.size wa (w3.alloc (.cells #[.string s, .int .i64 k, .int .i64 1, .string ZZ, .int .i64 0, .bool false, .int .i64 0] 27))) := BW.out.alloc BW.out.size _
    generalize w3.alloc (.cells #[.string s, .int .i64 k, .int .i64 1, .string ZZ, .int .i64 0, .bool false, .int .i64 0] 27) = w4 at HC HD BW ⊢
    generalize w3.heap.size = D at HD ⊢
    obtain ⟨c0, c1, c2, c3, c4, c5, c6⟩ := HC.out.cells
    obtain ⟨d0, d1, d2, d3, d4, d5, d6⟩ := HD.out.cells
    go_wp2_with fail
    refine (ce _).mono ?_
    rintro e w5 ⟨rfl, b5⟩
    have BW : Hid (Below wa.heap.size wa w5) := CartL.after BW.out b5
    have HC := HC.out.below b5
    have HC : Hid (Ct _ _ _ _ _ _ _ _ _) := HC
    clear b5 c0 c1 c2 c3 c4 c5 c6 d0 d1 d2 d3 d4 d5 d6 HD
    go_wp2_with fail
    go_loopw [9] (fun i wr => ∃ j : Nat, j ≤ 548 ∧ i = .int .i64 j ∧ Hid (Ct wr B s k 1 ZZ 0 false 0) ∧ Hid (Below wa.heap.size wa wr)) (fun i _ => 600 - (intOf i).toNat)
    case atStart => exact ⟨0, by omega, rfl, HC, BW⟩
    case round =>
    clear HC BW
    obtain ⟨j, hj, rfl, HC, BW⟩ := hrel
    by_cases hlt : j < 512
    · obtain ⟨hjs, hrd⟩ := HRD.out j hlt
      have cj := crd j
      rw [hrd] at cj
      have hlt' : (j : Int) < 512 := by omega
      obtain ⟨c0, c1, c2, c3, c4, c5, c6⟩ := HC.out.cells
      have xi : ∀ w, (Instr.index 9 (.string s) (.int .i64 (j : Int))).run Try.prog w = .ok (.int .u8 (s[j].toNat : Int)) w := fun w => by
        have := run_index_string (P := Try.prog) w 9 s .i64 (j : Int) Try.underlying9
        rw [dif_pos ⟨by omega, by omega⟩] at this
        simpa using this
      have hbb := (s[j]).toNat_lt
      have hw : IntKind.i64.wrap (s[j].toNat : Int) = (s[j].toNat : Int) := by rw [IntKind.wrap_i64]; omega
      generalize (s[j].toNat : Int) = bj at cj xi hbb hw
      clear hrd cr3 cok cmp
      go_upto_region 11 with fail
      refine wp_region_any (by kernel_rfl) ?_
      try (change wpAny _ _ _ _ _ _ _ (World.drew _))
      refine wpAny_take (i := 1) (v := ?v1) rfl (by kernel_rfl) (by kernel_rfl) (by kernel_rfl) (fun _ _ _ h => h) (Or.inl ⟨by rfl, ?hy1⟩) ?rest1
      case hy1 => (intro w; go_simp; try with_reducible rfl)
      refine wpAny_take (i := 3) (v := ?v3) rfl (by kernel_rfl) (by kernel_rfl) (by kernel_rfl) (fun _ _ _ h => h) (Or.inl ⟨by rfl, ?hy3⟩) ?rest3
      case hy3 => (intro w; go_simp; try with_reducible rfl)
      refine wpAny_take (i := 4) (v := ?v4) rfl (by kernel_rfl) (by kernel_rfl) (by kernel_rfl) (fun _ _ _ h => h) (Or.inl ⟨by rfl, ?hy4⟩) ?rest4
      case hy4 => (intro w; go_simp; try with_reducible rfl)
      refine wpAny_take (i := 5) (v := ?v5) rfl (by kernel_rfl) (by kernel_rfl) (by kernel_rfl) (fun _ _ _ h => h) (Or.inl ⟨by rfl, ?hy5⟩) ?rest5
      case hy5 => (intro w; go_simp; try with_reducible rfl)
      refine wpAny_take (i := 6) (v := ?v6) rfl (by kernel_rfl) (by kernel_rfl) (by kernel_rfl) (fun _ _ _ h => h) (Or.inl ⟨by rfl, ?hy6⟩) ?rest6
      case hy6 => (intro w; go_simp; try with_reducible rfl)
      refine wpAny_ready (rs := [0]) (by kernel_rfl) (by simp) ?_
      refine any_cons rfl (by rfl) (fun K hK => ?_) AllReady.nil
      go_simp
      refine hK _ _ ?_
      clear hK
      refine wpAny_ready (rs := [2]) (by kernel_rfl) (by simp) ?_
      refine any_cons rfl (by rfl) (fun K hK => ?_) AllReady.nil
      go_wp2_with fail
      refine (cj _).mono ?_
      rintro e wk ⟨rfl, bk⟩
      have bk := dw bk
      have HK : Hid (Ct wk B s k 1 ZZ 0 false 0) := HC.out.below bk
      have BK : Hid (Below wa.heap.size wa wk) := CartL.after BW.out bk
      clear bk
      refine hK _ _ ?_
      clear hK
      refine wpAny_take (i := 7) (v := ?v7) rfl (by kernel_rfl) (by kernel_rfl) (by kernel_rfl) (fun _ _ _ h => h) (Or.inl ⟨by rfl, ?hy7⟩) ?rest7
      case hy7 => (intro w; go_simp; try with_reducible rfl)
      refine wpAny_done (by kernel_rfl) ?_ _
      clear c0 c1 c2 c3 c4 c5 c6 xi cj HC BW
      go_wp2
      go_roundw
      case rel => exact ⟨j + 37, by omega, by go_num, HK, BK⟩
      case measure => simp [intOf]; omega
    have hlt' : ¬ (j : Int) < 512 := by omega
    obtain ⟨c0, c1, c2, c3, c4, c5, c6⟩ := HC.out.cells
    clear crd HRD
    go_wp2_with fail
    refine (cok _).mono ?_
    rintro e w6 ⟨rfl, b6⟩
    have BW : Hid (Below wa.heap.size wa w6) := CartL.after BW.out b6
    have HC := HC.out.below b6
    have HC : Hid (Ct _ _ _ _ _ _ _ _ _) := HC
    clear b6 c0 c1 c2 c3 c4 c5 c6
    obtain ⟨c0, c1, c2, c3, c4, c5, c6⟩ := HC.out.cells
    go_wp2_with fail
    refine (cmp _).mono ?_
    rintro e w7 ⟨rfl, b7⟩
    have BW : Hid (Below wa.heap.size wa w7) := CartL.after BW.out b7
    have HC := HC.out.below b7
    have HC : Hid (Ct _ _ _ _ _ _ _ _ _) := HC
    clear b7 c0 c1 c2 c3 c4 c5 c6
    obtain ⟨c0, c1, c2, c3, c4, c5, c6⟩ := HC.out.cells
    go_wp2_with fail
    refine (cr3 _).mono ?_
    rintro e w8 ⟨rfl, b8⟩
    have BW : Hid (Below wa.heap.size wa w8) := CartL.after BW.out b8
    clear b8 c0 c1 c2 c3 c4 c5 c6
    go_wp2
    go_ret
    exact ⟨rfl, BW.out⟩

set_option maxRecDepth 100000 in
theorem lifted (os : Os) (started : os.Started) (H : Type) (enc : TypeId × Value → H) :
    ReturnsInHanded {} Try.checked os 3 .any (Rows.fnCartNewSpec.pre6 enc Try.prog Try.f3 Rows.fnCartNewRow.domain false) (Rows.fnCartNewSpec.post enc Try.prog Try.f3 false true false false) := by
  refine returnsInHanded_of_change (C := Try.checked) own started (by kernel_rfl) Try.func3
    (ChangeSpec.witness6 (enc := enc) (C := Try.checked) false ⟨#[], #[.slice none 0 0], []⟩ 8 (by kernel_rfl) (by kernel_rfl) (by kernel_rfl) (by kernel_rfl)) ?_
  intro W base args ds gs before hval0 hW hcnd _
  have hval : ∀ (j : Nat) t v, Try.f3.params[j]? = some t → args[j]? = some v → Value.okWide Try.prog W .any base t v := hval0
  have hW' := hW
  obtain ⟨p, q, hA0, hV, rfl, hfz, hnd⟩ := hW
  have hA : DataW.TrodAll enc Try.prog W 0 (fun _ => true) true Try.f3.params.toList args.toList ds p := hA0
  rw [Try.params3] at hA hval
  obtain ⟨v0, vs0, d0, ds0, p0, q0, hargs, rfl, rfl, h0, r0⟩ := trodAll_cons hA
  obtain ⟨rfl, rfl, rfl⟩ := trodAll_nil r0
  obtain rfl : args = #[v0] := by cases args; simp_all
  obtain ⟨rfl, rfl⟩ := trodVars_none hV
  obtain ⟨a0, len0, cap0, rfl⟩ := okWide_slice Try.underlying22 (hval 0 22 v0 rfl rfl)
  have k0 := h0
  have lt0 : ∀ x ∈ p0, x.block < W.heap.size := by obtain ⟨m, hm⟩ := k0; exact DataW.trod_lt m _ _ _ hm
  obtain ⟨z0, w0⟩ : ∃ zs, IsRow .u8 W a0 len0 cap0 zs := by
    obtain ⟨fuel, hf⟩ := h0
    rcases open_ints Try.underlying22 Try.underlying5 (by kernel_rfl) hf with ⟨hcs, _⟩ | ⟨x, l, c, zs, hcs, _, hl, hm, hz, _, hcell, hwz⟩
    · simp [Value.cells] at hcs
      obtain ⟨rfl, rfl, rfl⟩ := hcs
      exact ⟨[], .inl ⟨rfl, rfl, rfl, rfl⟩⟩
    · simp [Value.cells] at hcs
      obtain ⟨rfl, rfl, rfl⟩ := hcs
      exact ⟨zs, .inr ⟨_, rfl, hl, hm, by simpa using hz, hcell, hwz⟩⟩
  clear hA0 hval0
  refine (walk W a0 len0 cap0 z0 w0).mono fun e W' ⟨he, bel⟩ => ?_
  subst he
  exact ⟨_, rfl, _, _, _, [], _, [], hW', trodAll_mk1 (shut_bool Try.underlying4 _), (trodAll_cons_mk (Below.trod laidOut (by kernel_rfl) (of_decide_eq_true (by kernel_rfl)) k0 bel lt0) trodAll_mk0), rfl, bel.frame _, fun h => by cases h⟩

theorem over : Rows.fnCartNewRow.holds Try.pinned (OpenSpec.ofChange Rows.fnCartNewSpec) :=
  OpenClaim.holds_of_wide 3 Try.f3 rfl rfl rfl rfl rfl rfl rfl ⟨rfl, rfl, rfl, rfl, rfl⟩ rfl rfl rfl rfl rfl (by kernel_rfl) Try.func3 (by kernel_rfl)
    (of_decide_eq_true (by kernel_rfl)) (by unfold Func.isWrapper; first | (rw [if_pos (by decide +kernel)]; kernel_rfl) | (rw [if_neg (by decide +kernel)]; exact ⟨rfl, rfl⟩))
    (fun os started H enc _ => lifted os started H enc)
end Go.Proofs.Ytllpkidfldmbnaa.fnCartNew
namespace Go.Proofs.Ytllpkidfldmbnaa
theorem fnCartNew_holds : Rows.FnCartNewSaid := fnCartNew.over
end Go.Proofs.Ytllpkidfldmbnaa
