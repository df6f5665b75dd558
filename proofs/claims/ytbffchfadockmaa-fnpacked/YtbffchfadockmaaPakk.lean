/-
  A contract of ours for impl.PackedOf, at every text.
-/
import Derived.Test.YtbffchfadockmaaPakj
import Derived.Test.YtbffchfadockmaaObuf
import Derived.Test.YtbffchfadockmaaInr
namespace Go.Proofs.Ytbffchfadockmaa.Pakk
open Go.ChangeShapes Go.WideShapes Go.ChangeAt Go.RowKit Go.Deep Go.Shelf
open Pakp Paks Paki Pakj Obuf
set_option linter.unusedVariables false
set_option maxRecDepth 100000
attribute [local go_sem] Oper.semAt_some

/-- What was put out behind some runs. -/
def outL (pre : List Run) : List UInt8 := (pre.map told).flatMap enc
theorem outL_snoc (pre : List Run) (x : Run) : outL (pre ++ [x]) = outL pre ++ enc (told x) := by simp [outL]
theorem enc_len (x : Run) : (enc (told x)).length ≤ 129 := by
  have h := x.2
  have e : x.1.1.data.toList.length = x.1.1.size := Array.length_toList ..
  unfold enc told
  split
  · simp
  · simp only [List.length_cons, e]; omega
theorem outL_len : ∀ pre : List Run, (outL pre).length ≤ 129 * pre.length := by
  intro pre
  induction pre with
  | nil => simp [outL]
  | cons x xs ih =>
    have := enc_len x
    have e : outL (x :: xs) = enc (told x) ++ outL xs := by simp [outL]
    rw [e, List.length_append, List.length_cons]; omega
theorem enc_alike {x : Run} {d : ByteArray} (hx : x.1 = (d, true)) (h1 : 3 ≤ d.size) (h8 : d.size ≤ 128) : Lib.byteCells (enc (told x)) = [.int .u8 (257 - (d.size : Int)), .int .u8 (d[0]'(by omega)).toNat] := by
  unfold told enc
  rw [hx]
  simp only [if_true]
  have e : d.data.toList.length = d.size := Array.length_toList ..
  have hd : d.data.toList.headD 0 = d[0]'(by omega) := by
    have := at_list d 0 (by omega)
    rw [List.headD_eq_head?_getD, List.head?_eq_getElem?, this]; rfl
  rw [hd, e]
  unfold Lib.byteCells
  simp only [List.map_cons, List.map_nil]
  congr 2
  rw [UInt8.toNat_ofNat']
  omega
theorem enc_others {x : Run} {d : ByteArray} (hx : x.1 = (d, false)) (h1 : 1 ≤ d.size) (h8 : d.size ≤ 128) : Lib.byteCells (enc (told x)) = [.int .u8 ((d.size : Int) - 1)] ++ Lib.strCells d := by
  unfold told enc
  rw [hx]
  have e : d.data.toList.length = d.size := Array.length_toList ..
  unfold Lib.byteCells Lib.strCells
  simp only [Bool.false_eq_true, if_false, List.map_cons, e, List.cons_append, List.nil_append]
  congr 2
  rw [UInt8.toNat_ofNat']
  omega
theorem cells_snoc (pre : List Run) (x : Run) : Lib.byteCells (outL (pre ++ [x])) = Lib.byteCells (outL pre) ++ Lib.byteCells (enc (told x)) := by
  rw [outL_snoc]; simp [Lib.byteCells]
theorem next {W : World} {base k : Nat} {v : Value} {pre : List Run} {x : Run} {news : List Value} (hr : W.ownsRow base 5 1 v ((outL pre).length + k) (Lib.byteCells (outL pre) ++ news)) (hc : Lib.byteCells (outL (pre ++ [x])) = Lib.byteCells (outL pre) ++ news) (hk : news.length = k) :
    W.ownsRow base 5 1 v (outL (pre ++ [x])).length (Lib.byteCells (outL (pre ++ [x]))) := by
  have e : (outL (pre ++ [x])).length = (outL pre).length + k := by
    rw [← Lib.byteCells_length, hc, List.length_append, Lib.byteCells_length, hk]
  rw [e, hc]; exact hr
abbrev tO : TypeId := 25
def Inv (w : World) (pre : List Run) (W : World) : Prop :=
  (∃ v, Boxed W w.heap.size tO v ∧ W.ownsRow w.heap.size 5 1 v (outL pre).length (Lib.byteCells (outL pre)) ∧ True) ∧ Below w.heap.size w W

set_option maxHeartbeats 2000000 in
theorem packed_in (s : ByteArray) (w : World) (hs : s.size ≤ 1048576) :
    CallsIn Fence.wide 6 Try.prog 8 #[.string s] w fun e w' => e = .returned (.tuple #[.string (packV s), .bool (packB s)]) ∧ Below w.heap.size w w' := by
  by_cases hbig : 20000 < s.size
  · have e1 : Hid (packV s = ⟨#[]⟩) := if_neg (by omega)
    have e2 : Hid (packB s = false) := decide_eq_false (by omega)
    refine callsIn_wide.2 ?_
    go_enter Try.func8, Try.ntmps8
    go_wp2
    go_ret2
    exact ⟨ret_two e1.out.symm e2.out.symm, Below.refl _ _⟩
  have e2 : Hid (packB s = true) := decide_eq_true (by omega)
  have HS : Hid (s.size ≤ 20000) := by show _ ≤ _; omega
  obtain ⟨i0, hi, hz0, hz1, hz2⟩ := info_parts info5
  have bO := Boxed.new w tO (.slice none 0 0)
  have bS := Boxed.new (w.alloc (.cells #[.slice none 0 0] tO)) 9 (.string s)
  rw [World.size_alloc] at bS
  have hB0 : Below w.heap.size w ((w.alloc (.cells #[.slice none 0 0] tO)).alloc (.cells #[.string s] 9)) := ((Below.refl _ w).alloc (Nat.le_refl _) _).alloc (by simp) _
  refine callsIn_of_wp_marks Try.func8 rfl trivial ?_ rfl
  simp only [Try.ntmps8, List.size_toArray, List.length_cons, List.length_nil, Nat.reduceAdd, Nat.reduceSub, Array.replicate_succ, Array.replicate_zero, List.push_toArray, List.append_toArray, List.nil_append, List.cons_append]
  gi_wp2_with (refine ⟨trivial, ?_⟩; gi_at_call 15; refine (runsOf_in _ _).mono ?_; rintro e w' ⟨rfl, rfl⟩)
  refine wpIn_rangeFunc_ownG rfl (by omega) (gf := 22) (lb := #[.pointer (some ⟨w.heap.size + 1, 0, none⟩)]) rfl trivial (enters_of Try.func22 (by kernel_rfl) rfl)
    (runs_stops 5 (by omega) (w.heap.size + 1) s hs _ bS.cell bS.lt) (fun _ _ => trivial) (fun _ _ _ _ _ _ _ _ => trivial) (Below.refl _ _) (fun _ => rfl)
    (Inv w) (fun _ _ _ => False)
    (OwnFrom.and (Own.from (holdsRow_own w.heap.size w.heap.size tO 5 1 (fun pre => (outL pre).length) (fun pre => Lib.byteCells (outL pre)) (fun _ _ => True)) _) (ownFrom_below (Nat.le_refl _) (by simp; omega)))
    (fun _ _ _ _ _ hs _ _ => hs)
    ⟨⟨_, bO.alloc _, World.ownsRow_nil _ _ _ _, trivial⟩, hB0⟩
    (fun x => { tmps := #[.string s, undef, .string ⟨#[]⟩, .bool false, .pointer (some ⟨w.heap.size, 0, none⟩), .string x.1.1, .bool x.1.2, .string s, .int .i64 s.size, .bool (decide ((20000 : Int) < s.size)), .string s, .func (.func 22) #[] #[.pointer (some ⟨w.heap.size + 1, 0, none⟩)], .string x.1.1, .bool x.1.2, undef, undef, undef, undef, undef, undef, undef, undef, undef, undef, undef, undef, undef, undef, undef, undef, undef, undef, undef, undef, undef, undef], defers := [] }) ?assign ?body ?done ?stop
  case assign =>
    intro l x W K hK
    unfold encs
    gi_wp2
    exact hK
  case body =>
    rintro l pre x W ⟨⟨v, hv, hrow, _⟩, hB⟩ hlt
    obtain ⟨⟨d, al⟩, hx1, hx8, hx3⟩ := x
    dsimp only at hx1 hx8 hx3
    dsimp only
    have hc := hv.cell
    have hca : ∀ o, (W.alloc o).cell? ⟨w.heap.size, 0, none⟩ = some v := fun o => (hv.alloc o).cell
    have hpl := outL_len pre
    have hN := HS.out
    cases al with
    | true =>
      have hx3 := hx3 rfl
      have hd0 : 0 < d.size := by omega
      have eu : IntKind.u8.wrap (257 - (d.size : Int)) = 257 - (d.size : Int) := by rw [IntKind.wrap_u8]; omega
      have CS : Hid (Lib.byteCells (outL (pre ++ [⟨(d, true), ⟨hx1, hx8, fun _ => hx3⟩⟩])) = Lib.byteCells (outL pre) ++ [.int .u8 (257 - (d.size : Int)), .int .u8 (d[0]'(by omega)).toNat]) := by
        show _ = _
        rw [cells_snoc, enc_alike rfl hx3 hx8]
      gi_wp2_with fail
      refine Inr.region_in (by kernel_rfl) (by kernel_rfl) (by rintro ⟨_, _, h⟩; exact h) ?_
      refine wpAny_take (i := 1) (v := ?v1) rfl (by kernel_rfl) (by kernel_rfl) (by kernel_rfl) (fun _ _ _ h => h) (Or.inl ⟨by rfl, ?hy1⟩) ?rest1
      case hy1 => (intro w; go_simp; try with_reducible rfl)
      refine wpAny_take (i := 2) (v := ?v2) rfl (by kernel_rfl) (by kernel_rfl) (by kernel_rfl) (fun _ _ _ h => h) (Or.inl ⟨by rfl, ?hy2⟩) ?rest2
      case hy2 => (intro w; go_simp; try with_reducible rfl)
      go_simp
      refine wpAny_take (i := 3) (v := ?v3) rfl (by kernel_rfl) (by kernel_rfl) (by kernel_rfl) (fun _ _ _ h => h) (Or.inl ⟨by rfl, ?hy3⟩) ?rest3
      case hy3 => (intro w; go_simp; try with_reducible rfl)
      refine wpAny_take (i := 4) (v := ?v4) rfl (by kernel_rfl) (by kernel_rfl) (by kernel_rfl) (fun _ _ _ h => h) (Or.inl ⟨by rfl, ?hy4⟩) ?rest4
      case hy4 => (intro w; go_simp; try with_reducible rfl)
      go_simp
      refine wpAny_take (i := 5) (v := ?v5) rfl (by kernel_rfl) (by kernel_rfl) (by kernel_rfl) (fun _ _ _ h => h) (Or.inl ⟨by rfl, ?hy5⟩) ?rest5
      case hy5 => (intro w; go_simp; try with_reducible rfl)
      refine wpAny_take (i := 6) (v := ?v6) rfl (by kernel_rfl) (by kernel_rfl) (by kernel_rfl) (fun _ _ _ h => h) (Or.inl ⟨by rfl, ?hy6⟩) ?rest6
      case hy6 => (intro w; go_simp; try with_reducible rfl)
      go_simp
      refine wpAny_ready (rs := [0, 7]) (by kernel_rfl) (by simp) ?_
      refine Inr.any_cons rfl rfl (fun K hK => ?_) (Inr.any_cons rfl rfl (fun K hK => ?_) AllReady.nil)
      · go_wp2_with fail
        refine wpAny_ready (rs := [7]) (by kernel_rfl) (by simp) ?_
        refine Inr.any_cons rfl rfl (fun K hK => ?_) AllReady.nil
        go_wp2_with fail
        refine wpAny_ready (rs := [8]) (by kernel_rfl) (by simp) ?_
        refine Inr.any_cons rfl rfl (fun K hK => ?_) AllReady.nil
        refine wp_append_own _ (.tmp 15) (.tmp 22) tO rfl w.heap.size 5 i0 (.int .u8 0) 1 1 Try.underlying25 hi hz0 hz1 hz2 rfl (by decide) v (outL pre).length _ rfl (hrow.alloc _).drew ⟨W.heap.size, 0, none⟩ 2 2 [.int .u8 (257 - (d.size : Int)), .int .u8 d[0].toNat] rfl rfl ?c1 ?c2 ?c3 ?c4 ?c5 ?_
        case c1 =>
          intro j u hj
          match j, hj with
          | 0, hj => simp at hj; subst hj; simp [Addr.add]
          | 1, hj => simp at hj; subst hj; simp [Addr.add]
        case c2 => intro u hu; simp at hu; rcases hu with rfl | rfl <;> rfl
        case c3 => unfold maxLen; omega
        case c4 => omega
        case c5 => have := hB.size; simp; omega
        intro v' w1 hown' hgrow _
        obtain ⟨g', cap', rfl⟩ := ownsRow_succ hown'
        obtain ⟨hv1, hv2, hr2, hk2, hb2⟩ := hv.appended (tmp := .cells #[.int .u8 (257 - (d.size : Int)), .int .u8 d[0].toNat] 5) (by decide) hrow hB.size (Nat.le_refl _) hown' ⟨hgrow.os, hgrow.tape, hgrow.output, hgrow.size, hgrow.block⟩
        have hc1 := hv1.cell
        have hf1 := hv1.frozen
        refine hK _ _ ?_
        go_simp
        refine wpAny_ready (rs := [9]) (by kernel_rfl) (by simp) ?_
        refine Inr.any_cons rfl rfl (fun K hK => ?_) AllReady.nil
        go_wp2_with fail
        refine wpAny_done (by kernel_rfl) ?_ _
        gi_wp2
        exact ⟨hk2.from _, trivial, ⟨_, hv2, next hr2 CS.out rfl, trivial⟩, hB.trans hb2⟩
      · go_wp2_with fail
        refine wpAny_ready (rs := [0]) (by kernel_rfl) (by simp) ?_
        refine Inr.any_cons rfl rfl (fun K hK => ?_) AllReady.nil
        go_wp2_with fail
        refine wpAny_ready (rs := [8]) (by kernel_rfl) (by simp) ?_
        refine Inr.any_cons rfl rfl (fun K hK => ?_) AllReady.nil
        refine wp_append_own _ (.tmp 15) (.tmp 22) tO rfl w.heap.size 5 i0 (.int .u8 0) 1 1 Try.underlying25 hi hz0 hz1 hz2 rfl (by decide) v (outL pre).length _ rfl (hrow.alloc _).drew ⟨W.heap.size, 0, none⟩ 2 2 [.int .u8 (257 - (d.size : Int)), .int .u8 d[0].toNat] rfl rfl ?c1 ?c2 ?c3 ?c4 ?c5 ?_
        case c1 =>
          intro j u hj
          match j, hj with
          | 0, hj => simp at hj; subst hj; simp [Addr.add]
          | 1, hj => simp at hj; subst hj; simp [Addr.add]
        case c2 => intro u hu; simp at hu; rcases hu with rfl | rfl <;> rfl
        case c3 => unfold maxLen; omega
        case c4 => omega
        case c5 => have := hB.size; simp; omega
        intro v' w1 hown' hgrow _
        obtain ⟨g', cap', rfl⟩ := ownsRow_succ hown'
        obtain ⟨hv1, hv2, hr2, hk2, hb2⟩ := hv.appended (tmp := .cells #[.int .u8 (257 - (d.size : Int)), .int .u8 d[0].toNat] 5) (by decide) hrow hB.size (Nat.le_refl _) hown' ⟨hgrow.os, hgrow.tape, hgrow.output, hgrow.size, hgrow.block⟩
        have hc1 := hv1.cell
        have hf1 := hv1.frozen
        refine hK _ _ ?_
        go_simp
        refine wpAny_ready (rs := [9]) (by kernel_rfl) (by simp) ?_
        refine Inr.any_cons rfl rfl (fun K hK => ?_) AllReady.nil
        go_wp2_with fail
        refine wpAny_done (by kernel_rfl) ?_ _
        gi_wp2
        exact ⟨hk2.from _, trivial, ⟨_, hv2, next hr2 CS.out rfl, trivial⟩, hB.trans hb2⟩
    | false =>
      have eu : IntKind.u8.wrap ((d.size : Int) - 1) = (d.size : Int) - 1 := by rw [IntKind.wrap_u8]; omega
      have CS : Hid (Lib.byteCells (outL (pre ++ [⟨(d, false), ⟨hx1, hx8, hx3⟩⟩])) = Lib.byteCells (outL pre) ++ ([.int .u8 ((d.size : Int) - 1)] ++ Lib.strCells d)) := by
        show _ = _
        rw [cells_snoc, enc_others rfl hx1 hx8]
      have ew : IntKind.i64.wrap ((d.size : Int) - 1) = (d.size : Int) - 1 := by rw [IntKind.wrap_i64]; omega
      have hz9 : d.size ≤ 128 := hx8
      gi_wp2_with first
        | (gi_at_builtin; refine wpListIn_append_own _ rfl _ _ tO rfl w.heap.size 5 i0 (.int .u8 0) 1 1 Try.underlying25 hi hz0 hz1 hz2 rfl (by decide) _ _ _ rfl (hrow.alloc _) ⟨W.heap.size, 0, none⟩ 1 1 [.int .u8 ((d.size : Int) - 1)] rfl rfl (cell_one_new _ _ _) (by simp [Value.oneCell']) (by unfold maxLen; omega) (by omega) (by have := hB.size; simp; omega) ?_; intro v' w1 hown' hgrow _; obtain ⟨g', cap', rfl⟩ := ownsRow_succ hown'; obtain ⟨hv1, hv2, hr2, hk2, hb2⟩ := hv.appended (by decide) hrow hB.size (Nat.le_refl _) hown' hgrow; have hc1 := hv1.cell; have hf1 := hv1.frozen; have hc2 := hv2.cell)
        | (gi_at_builtin; refine append_str_in _ rfl _ _ tO 9 rfl w.heap.size 5 i0 Try.underlying25 Try.underlying9 hi hz0 hz1 hz2 _ _ _ rfl hr2 d rfl (by omega) (by have := (hB.trans hb2).size; omega) ?_; intro v2 w2 hown2 hgrow2 _; obtain ⟨ga, gn, gc, rfl⟩ := slice_form hown2; obtain ⟨hv3, hv4, hr4, hk4, hb4⟩ := appended hv2 (by decide) hr2 (hB.trans hb2).size (Nat.le_refl _) hown2 hgrow2; have hc3 := hv3.cell; have hf3 := hv3.frozen)
      exact ⟨(hk2.trans hk4).from _, trivial, ⟨_, hv4, next (k := 1 + d.size) (by rw [← Nat.add_assoc, ← List.append_assoc]; exact hr4) CS.out (by simp [Lib.strCells_length]; omega), trivial⟩, hB.trans (hb2.trans hb4)⟩
  case done =>
    rintro D' ys W hD hS ⟨⟨v, hv, hrow, _⟩, hB⟩ hK
    have hc := hv.cell
    have hcv := str_own hrow
    have HE : Hid ((⟨(outL ys).toArray⟩ : ByteArray) = packV s) := by
      show _ = _
      unfold packV outL
      rw [if_pos HS.out, hS]; rfl
    obtain ⟨va, vn, vc, rfl⟩ := slice_form hrow
    dsimp only
    gi_wp2
    refine ⟨by simp, .inl ⟨_, _, rfl, run_takeDeferred hK, ?_⟩⟩
    exact ⟨_, results_tmp2 rfl _ _ _, (by rw [← HE.out, e2.out]; rfl), hB.trans (belowK_b (w := w) (Nat.le_refl _) W D' _ _ (by simp at hD; omega) hK rfl rfl)⟩
  case stop =>
    rintro D c pre W _ _ h _
    exact h.elim
end Go.Proofs.Ytbffchfadockmaa.Pakk
