/- For every code the law FnIns answers true: of the drawn instruction impl.InsBytes and impl.InsOk answer as spec does, and a right one comes back from its bytes, whatever stands ahead or behind, and not from fewer; the code reads afterwards as it read before; no condition. -/
import Derived.Test.YtjhndhjlknakkaaRows
import Derived.WalkKit
import Derived.ProofKit
import Derived.OpenShut
import Derived.ShutString
import Derived.ChangeOld
import Derived.Below
import Derived.Test.YtjhndhjlknakkaaInsP
import Derived.Test.YtjhndhjlknakkaaDrawI
import Derived.Deep.DeepCutAuto
import Derived.HandedShaped
namespace Go.Proofs.Ytjhndhjlknakkaa.fnIns
open Go.ChangeShapes Go.WideShapes Go.ChangeAt Go.RowKit
open Go.ChangeMaps (open_string shut_string)
set_option linter.unusedVariables false

theorem own : ownKnob Try.prog.godebug = none := by kernel_rfl
theorem laidOut : laidOutB Try.prog = true := by kernel_rfl
/-- What the walk is told of a slice of bytes that came in: it is nil; or it leads to a row of cells, the numbers zs, each fitting its kind. -/
def IsRow (k : IntKind) (w : World) (a : Option Addr) (len cap : Nat) (zs : List Int) : Prop :=
  (a = none ∧ len = 0 ∧ cap = 0 ∧ zs = []) ∨
  ∃ x, a = some x ∧ len ≤ cap ∧ cap ≤ maxLen ∧ zs.length = cap ∧ (∀ i, i < zs.length → w.cell? (x.add i) = some (.int k (zs.getD i 0))) ∧ ∀ n ∈ zs, (Lit.int k n).wf = true
set_option maxRecDepth 20000
open HolI LenX InsX InsB ReadI ReadJ InsP DrawI
theorem toRow {k : IntKind} {w : World} {a : Option Addr} {len cap : Nat} {zs : List Int} (h : IsRow k w a len cap zs) : Rdr.IsRow k w a len cap zs := h
theorem mid (a y z : ByteArray) (k : Nat) (hk : k < y.size) : (a ++ y ++ z)[a.size + k]'(by rw [ByteArray.size_append, ByteArray.size_append]; omega) = y[k] := by
  rw [ByteArray.getElem_append_left (by rw [ByteArray.size_append]; omega), ByteArray.getElem_append_right (by omega)]
  congr 1
  omega
theorem byteAt_mid (a y z : ByteArray) (k : Nat) (hk : k < y.size) : byteAt (a ++ y ++ z) ((a.size + k : Nat) : Int) = byteAt y (k : Int) := by
  rw [byteAt_in (by rw [ByteArray.size_append, ByteArray.size_append]; omega), byteAt_in (by omega)]
  simp only [Int.toNat_natCast]
  rw [mid a y z k hk]
theorem empty_iff (c : Int) (b : Bool) (m : Int) : (bytesV c b m).toList.isEmpty = !okV c b m := by
  cases h : okV c b m
  · have : bytesV c b m = ⟨#[]⟩ := by unfold bytesV; rw [h]; rfl
    rw [this]; exact Leng.empty_yes rfl
  · exact Leng.empty_no (by have := (size_pos h).1; omega)
theorem facts (c : Int) (b : Bool) (m : Int) (h : okV c b m = true) : 1 ≤ (bytesV c b m).size ∧ (bytesV c b m).size ≤ 3 ∧ lenV (none? c b) b (hole c b) = (bytesV c b m).size ∧
    (readI (bytesV c b m) 0 = .agg #[.int .i64 c, .bool b, .int .i64 m] ∧ readN (bytesV c b m) 0 = (bytesV c b m).size) ∧
    (readI (⟨#[120, 121]⟩ ++ bytesV c b m ++ ⟨#[122]⟩) 2 = .agg #[.int .i64 c, .bool b, .int .i64 m] ∧ readN (⟨#[120, 121]⟩ ++ bytesV c b m ++ ⟨#[122]⟩) 2 = (bytesV c b m).size) ∧
    readN ((bytesV c b m).extract 0 ((bytesV c b m).size - 1)) 0 = 0 := by
  obtain ⟨h1, h2, h3⟩ := size_pos h
  refine ⟨h1, h2, h3.symm, read_of h ⟨by omega, by omega, fun k hk => by congr 1; omega⟩, read_of h ⟨by omega, ?_, fun k hk => ?_⟩, read_short h ?_ fun k hk => ?_⟩
  · rw [ByteArray.size_append, ByteArray.size_append]
    show (2 : Int) + _ ≤ ((2 + _ + 1 : Nat) : Int)
    omega
  · rw [show (2 : Int) + (k : Int) = (((⟨#[120, 121]⟩ : ByteArray).size + k : Nat) : Int) by show (2 : Int) + _ = ((2 + k : Nat) : Int); omega]
    exact byteAt_mid ⟨#[120, 121]⟩ _ ⟨#[122]⟩ k hk
  · simp; omega
  · have hk' : k < (bytesV c b m).size - 1 := by simpa using hk
    rw [byteAt_extract _ _ _ k (by omega) (by omega)]
    congr 1
    omega

set_option maxHeartbeats 2000000 in
theorem walk (w : World) (a0 : Option Addr) (len0 cap0 : Nat) (z0 : List Int) (w0 : IsRow .u8 w a0 len0 cap0 z0) (hm : HolI.MaxL w) :
    Calls Try.prog 4 #[.slice a0 len0 cap0] w fun e w' => e = .returned (.bool true) ∧ Below w.heap.size w w' := by
  have H : Hid (Rdr.IsRow .u8 w a0 len0 cap0 z0) := toRow w0
  have HM : Hid (HolI.MaxL w) := hm
  clear w0 hm
  have cb := Rdr.big_any a0 len0 cap0 w H.out.len
  by_cases hbig : Rdr.bigB len0 = true
  · rw [hbig] at cb
    go_enter Try.func4, Try.ntmps4
    go_wp2_with (go_at_call 6; refine cb.mono ?_; rintro e w' ⟨rfl, rfl⟩)
    go_ret
    exact ⟨rfl, Below.refl _ _⟩
  have hbig : Rdr.bigB len0 = false := by simpa using hbig
  rw [hbig] at cb
  go_enter Try.func4, Try.ntmps4
  go_wp2_with fail
  refine cb.mono ?_
  rintro e wa ⟨rfl, rfl⟩
  go_wp2_with fail
  refine (drawInsBytes_any _ _ _ _ _ H.out).mono ?_
  rintro e w1 ⟨⟨c, b, m, c0, c1, hm, rfl⟩, b1⟩
  have B1 : Hid (Below wa.heap.size wa w1) := b1
  clear b1 hm
  have cbi := fun w hm => implBytes_any c b m w hm
  have cbs := fun w => specBytes_any c b m w
  have coi := fun w hm => implOk_any c b m w hm
  have cos := fun w => specOk_any c b m w
  have HK : Hid (okV c b m = true → _) := fun h => facts c b m h
  have hE : (bytesV c b m).toList.isEmpty = !okV c b m := empty_iff c b m
  generalize okV c b m = o at coi cos hE HK
  generalize bytesV c b m = Y at cbi cbs hE HK
  have hEo : Y.toList.isEmpty = !o := hE
  clear hE
  go_wp2_with fail
  refine (cbi _ (HM.out.below (B1.out.alloc B1.out.size _))).mono ?_
  rintro e w2 ⟨rfl, b2⟩
  have BX : Hid (Below (w1.alloc (.cells #[.int .i64 c, .bool b, .int .i64 m] 30)).heap.size (w1.alloc (.cells #[.int .i64 c, .bool b, .int .i64 m] 30)) w2) := b2
  have BW : Hid (Below wa.heap.size wa w2) := after (B1.out.alloc B1.out.size _) b2
  clear b2 B1 cbi
  go_upto_region 5 with fail
  go_cut [31] (fun v wx => v = .bool (!o) ∧ Hid (Below (w1.alloc (.cells #[.int .i64 c, .bool b, .int .i64 m] 30)).heap.size (w1.alloc (.cells #[.int .i64 c, .bool b, .int .i64 m] 30)) wx) ∧ Hid (Below wa.heap.size wa wx))
  case first =>
    have j0 := box BX.out 0 _ rfl
    have j1 := box BX.out 1 _ rfl
    have j2 := box BX.out 2 _ rfl
    clear HK
    go_region_with (first
      | (go_at_call 14; refine (cbs _).mono ?_; rintro e wk ⟨rfl, bk⟩; have BX : Hid (Below _ _ wk) := (by first | exact after BX.out bk | exact after BX.out.drew bk); have BW : Hid (Below wa.heap.size wa wk) := (by first | exact after BW.out bk | exact after BW.out.drew bk); clear bk; have j0 := box BX.out 0 _ rfl; have j1 := box BX.out 1 _ rfl; have j2 := box BX.out 2 _ rfl)
      | (go_at_call 15; refine (coi _ (by first | exact HM.out.below BW.out | exact HM.out.below BW.out.drew)).mono ?_; rintro e wk ⟨rfl, bk⟩; have BX : Hid (Below _ _ wk) := (by first | exact after BX.out bk | exact after BX.out.drew bk); have BW : Hid (Below wa.heap.size wa wk) := (by first | exact after BW.out bk | exact after BW.out.drew bk); clear bk; have j0 := box BX.out 0 _ rfl; have j1 := box BX.out 1 _ rfl; have j2 := box BX.out 2 _ rfl)
      | (go_at_call 16; refine (cos _).mono ?_; rintro e wk ⟨rfl, bk⟩; have BX : Hid (Below _ _ wk) := (by first | exact after BX.out bk | exact after BX.out.drew bk); have BW : Hid (Below wa.heap.size wa wk) := (by first | exact after BW.out bk | exact after BW.out.drew bk); clear bk; have j0 := box BX.out 0 _ rfl; have j1 := box BX.out 1 _ rfl; have j2 := box BX.out 2 _ rfl)
      | fail)
    all_goals
      go_wp2_with fail
      go_meet
      exact ⟨by first | rfl | simp | (cases o <;> rfl), BX.out, BW.out⟩
  case rest =>
  obtain ⟨rfl, BX, BW⟩ := hcut
  cases o with
  | false =>
    have j0 := box BX.out 0 _ rfl
    have j1 := box BX.out 1 _ rfl
    have j2 := box BX.out 2 _ rfl
    clear HK
    go_wp2_with fail
    go_region_with (first
      | (go_at_call 14; refine (cbs _).mono ?_; rintro e wk ⟨rfl, bk⟩; have BX : Hid (Below _ _ wk) := (by first | exact after BX.out bk | exact after BX.out.drew bk); have BW : Hid (Below wa.heap.size wa wk) := (by first | exact after BW.out bk | exact after BW.out.drew bk); clear bk; have j0 := box BX.out 0 _ rfl; have j1 := box BX.out 1 _ rfl; have j2 := box BX.out 2 _ rfl)
      | (go_at_call 15; refine (coi _ (by first | exact HM.out.below BW.out | exact HM.out.below BW.out.drew)).mono ?_; rintro e wk ⟨rfl, bk⟩; have BX : Hid (Below _ _ wk) := (by first | exact after BX.out bk | exact after BX.out.drew bk); have BW : Hid (Below wa.heap.size wa wk) := (by first | exact after BW.out bk | exact after BW.out.drew bk); clear bk; have j0 := box BX.out 0 _ rfl; have j1 := box BX.out 1 _ rfl; have j2 := box BX.out 2 _ rfl)
      | (go_at_call 16; refine (cos _).mono ?_; rintro e wk ⟨rfl, bk⟩; have BX : Hid (Below _ _ wk) := (by first | exact after BX.out bk | exact after BX.out.drew bk); have BW : Hid (Below wa.heap.size wa wk) := (by first | exact after BW.out bk | exact after BW.out.drew bk); clear bk; have j0 := box BX.out 0 _ rfl; have j1 := box BX.out 1 _ rfl; have j2 := box BX.out 2 _ rfl)
      | fail)
    all_goals
      go_wp2
      go_ret
      exact ⟨by first | rfl | simp, BW.out⟩
  | true =>
    have j0 := box BX.out 0 _ rfl
    have j1 := box BX.out 1 _ rfl
    have j2 := box BX.out 2 _ rfl
    obtain ⟨z1, z2, hl, ⟨e1, e2⟩, ⟨e3, e4⟩, e5⟩ := HK.out rfl
    have cr1 := fun w hm => implRead_any Y 0 w hm (by omega)
    have cr2 := fun w hm => implRead_any (⟨#[120, 121]⟩ ++ Y ++ ⟨#[122]⟩) 2 w hm (by rw [ByteArray.size_append, ByteArray.size_append]; show 2 + _ + 1 ≤ _; omega)
    have cr3 := fun w hm => implRead_any (Y.extract 0 (Y.size - 1)) 0 w hm (by simp; omega)
    have cl := fun w hm => implLength_any c b w hm
    unfold Tup at cr1 cr2 cr3
    rw [e1, e2] at cr1
    rw [e3, e4] at cr2
    rw [e5] at cr3
    rw [hl] at cl
    obtain ⟨c', b', m', e6⟩ := readI_agg (Y.extract 0 (Y.size - 1)) 0
    rw [e6] at cr3
    have sl : ∀ w, (Instr.slice 9 (.string Y) none (some (.int .i64 ((Y.size : Int) - 1))) none).run Try.prog w = .ok (.string (Y.extract 0 (Y.size - 1))) w := fun w => by
      have := run_slice_string_h w (t := 9) (s := Y) Try.underlying9 .i64 ((Y.size : Int) - 1) (by omega) (by omega)
      rwa [show ((Y.size : Int) - 1).toNat = Y.size - 1 by omega] at this
    have hk : wrap64 ((Y.size : Int) - 1) = (Y.size : Int) - 1 := by unfold wrap64; omega
    have hk' : IntKind.i64.wrap ((Y.size : Int) - 1) = (Y.size : Int) - 1 := by rw [IntKind.wrap_i64]; omega
    clear e1 e2 e3 e4 e5 e6 hl HK
    generalize Y.extract 0 (Y.size - 1) = E at sl cr3
    go_wp2_with fail
    refine (cr1 _ (HM.out.below BW.out)).mono ?_
    rintro e w4 ⟨rfl, bk⟩
    have BX : Hid (Below _ _ w4) := after BX.out bk
    have BW : Hid (Below wa.heap.size wa w4) := after BW.out bk
    clear bk j0 j1 j2 cr1
    go_wp2_with fail
    refine (cr2 _ (HM.out.below (BW.out.alloc BW.out.size _))).mono ?_
    rintro e w5 ⟨rfl, bk⟩
    have BX : Hid (Below _ _ w5) := after (BX.out.alloc BX.out.size _) bk
    have BJ : Hid (Below (w4.alloc (.cells #[.int .i64 c, .bool b, .int .i64 m] 30)).heap.size (w4.alloc (.cells #[.int .i64 c, .bool b, .int .i64 m] 30)) w5) := bk
    have BW : Hid (Below wa.heap.size wa w5) := after (BW.out.alloc BW.out.size _) bk
    clear bk cr2
    go_wp2_with fail
    refine (cr3 _ (HM.out.below (BW.out.alloc BW.out.size _))).mono ?_
    rintro e w6 ⟨rfl, bk⟩
    have BX : Hid (Below _ _ w6) := after (BX.out.alloc BX.out.size _) bk
    have BJ : Hid (Below (w4.alloc (.cells #[.int .i64 c, .bool b, .int .i64 m] 30)).heap.size (w4.alloc (.cells #[.int .i64 c, .bool b, .int .i64 m] 30)) w6) := after (BJ.out.alloc BJ.out.size _) bk
    have BW : Hid (Below wa.heap.size wa w6) := after (BW.out.alloc BW.out.size _) bk
    have g0 : ∀ o, (w6.alloc o).cell? ⟨w5.heap.size, 0, none⟩ = some (.int .i64 c) := fun o => box (bk.alloc bk.size o) 0 _ rfl
    have g1 : ∀ o, (w6.alloc o).cell? ⟨w5.heap.size, 1, none⟩ = some (.bool b) := fun o => box (bk.alloc bk.size o) 1 _ rfl
    have g2 : ∀ o, (w6.alloc o).cell? ⟨w5.heap.size, 2, none⟩ = some (.int .i64 m) := fun o => box (bk.alloc bk.size o) 2 _ rfl
    have i0 : ∀ o, (w6.alloc o).cell? ⟨w1.heap.size, 0, none⟩ = some (.int .i64 c) := fun o => box (BX.out.alloc BX.out.size o) 0 _ rfl
    have i1 : ∀ o, (w6.alloc o).cell? ⟨w1.heap.size, 1, none⟩ = some (.bool b) := fun o => box (BX.out.alloc BX.out.size o) 1 _ rfl
    have i2 : ∀ o, (w6.alloc o).cell? ⟨w1.heap.size, 2, none⟩ = some (.int .i64 m) := fun o => box (BX.out.alloc BX.out.size o) 2 _ rfl
    have j0 : ∀ o, (w6.alloc o).cell? ⟨w4.heap.size, 0, none⟩ = some (.int .i64 c) := fun o => box (BJ.out.alloc BJ.out.size o) 0 _ rfl
    have j1 : ∀ o, (w6.alloc o).cell? ⟨w4.heap.size, 1, none⟩ = some (.bool b) := fun o => box (BJ.out.alloc BJ.out.size o) 1 _ rfl
    have j2 : ∀ o, (w6.alloc o).cell? ⟨w4.heap.size, 2, none⟩ = some (.int .i64 m) := fun o => box (BJ.out.alloc BJ.out.size o) 2 _ rfl
    clear bk cr3 BX BJ
    go_wp2_with fail
    refine (cl _ (HM.out.below (BW.out.alloc BW.out.size _))).mono ?_
    rintro e w7 ⟨rfl, bk⟩
    have BW : Hid (Below wa.heap.size wa w7) := after (BW.out.alloc BW.out.size _) bk
    clear bk cl g0 g1 g2 i0 i1 i2 j0 j1 j2
    go_wp2
    go_ret
    exact ⟨by first | rfl | simp, BW.out⟩

set_option maxRecDepth 100000 in
theorem lifted (os : Os) (started : os.Started) (H : Type) (enc : TypeId × Value → H) :
    ReturnsInHanded {} Try.checked os 4 .any (Rows.fnInsSpec.pre6 enc Try.prog Try.f4 Rows.fnInsRow.domain false) (Rows.fnInsSpec.post enc Try.prog Try.f4 false true false false) := by
  refine returnsInHanded_of_change_shaped (C := Try.checked) own started (by kernel_rfl) Try.func4
    (ChangeSpec.witness6 (enc := enc) (C := Try.checked) false ⟨#[], #[.slice none 0 0], []⟩ 8 (by kernel_rfl) (by kernel_rfl) (by kernel_rfl) (by kernel_rfl)) ?_
  intro W base args ds gs before hval0 hW hcnd _ hsh _
  have hval : ∀ (j : Nat) t v, Try.f4.params[j]? = some t → args[j]? = some v → Value.okWide Try.prog W .any base t v := hval0
  have hW' := hW
  obtain ⟨p, q, hA0, hV, rfl, hfz, hnd⟩ := hW
  have hA : DataW.TrodAll enc Try.prog W 0 (fun _ => true) true Try.f4.params.toList args.toList ds p := hA0
  rw [Try.params4] at hA hval
  obtain ⟨v0, vs0, d0, ds0, p0, q0, hargs, rfl, rfl, h0, r0⟩ := trodAll_cons hA
  obtain ⟨rfl, rfl, rfl⟩ := trodAll_nil r0
  obtain rfl : args = #[v0] := by cases args; simp_all
  obtain ⟨rfl, rfl⟩ := trodVars_none hV
  obtain ⟨a0, len0, cap0, rfl⟩ := okWide_slice Try.underlying22 (hval 0 22 v0 rfl rfl)
  have k0 := h0
  have lt0 : ∀ x ∈ p0, x.block < W.heap.size := by obtain ⟨m, hm⟩ := k0; exact DataW.trod_lt m _ _ _ hm
  obtain ⟨z0, w0⟩ : ∃ zs, IsRow .u8 W a0 len0 cap0 zs := by
    obtain ⟨fuel, hf⟩ := h0
    rcases open_ints Try.underlying22 Try.underlying5 (by kernel_rfl) hf with ⟨hcs, _⟩ | ⟨x, l, c, zs, hcs, _, hl, hm, hz, _, hcell, hwz⟩
    · simp [Value.cells] at hcs
      obtain ⟨rfl, rfl, rfl⟩ := hcs
      exact ⟨[], .inl ⟨rfl, rfl, rfl, rfl⟩⟩
    · simp [Value.cells] at hcs
      obtain ⟨rfl, rfl, rfl⟩ := hcs
      exact ⟨zs, .inr ⟨_, rfl, hl, hm, by simpa using hz, hcell, hwz⟩⟩
  clear hA0 hval0
  refine (walk W a0 len0 cap0 z0 w0 (Try.laysM144.s1_3 W hsh)).mono fun e W' ⟨he, bel⟩ => ?_
  subst he
  exact ⟨_, rfl, _, _, _, [], _, [], hW', trodAll_mk1 (shut_bool Try.underlying4 _), (trodAll_cons_mk (Below.trod laidOut (by kernel_rfl) (of_decide_eq_true (by kernel_rfl)) k0 bel lt0) trodAll_mk0), rfl, bel.frame _, fun h => by cases h⟩

theorem over : Rows.fnInsRow.holds Try.pinned (OpenSpec.ofChange Rows.fnInsSpec) :=
  OpenClaim.holds_of_wide 4 Try.f4 rfl rfl rfl rfl rfl rfl rfl ⟨rfl, rfl, rfl, rfl, rfl⟩ rfl rfl rfl rfl rfl (by kernel_rfl) Try.func4 (by kernel_rfl)
    (of_decide_eq_true (by kernel_rfl)) (by unfold Func.isWrapper; first | (rw [if_pos (by decide +kernel)]; kernel_rfl) | (rw [if_neg (by decide +kernel)]; exact ⟨rfl, rfl⟩))
    (fun os started H enc _ => lifted os started H enc)
end Go.Proofs.Ytjhndhjlknakkaa.fnIns
namespace Go.Proofs.Ytjhndhjlknakkaa
theorem fnIns_holds : Rows.FnInsSaid := fnIns.over
end Go.Proofs.Ytjhndhjlknakkaa
