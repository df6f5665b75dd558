/-
  A contract of ours for impl.DiffOf, at every text.
-/
import Derived.Test.YtbfjalpkdgepnaaDifi
import Derived.Test.YtbfjalpkdgepnaaBldk
import Derived.Test.YtbfjalpkdgepnaaInr
namespace Go.Proofs.Ytbfjalpkdgepnaa.Difj
open Go.ChangeShapes Go.WideShapes Go.ChangeAt Go.RowKit Go.Deep Go.Shelf
open Difp Difs Difi
open Bld (Holds holds_new)
open Bldk (write_any string_any holds_own)
set_option linter.unusedVariables false
set_option linter.unusedSimpArgs false
set_option maxRecDepth 100000
attribute [local go_sem] Oper.semAt_some
def head : List UInt8 := [68, 73, 70, 70]
/-- What was put out behind some pieces. -/
def outL (pre : List Pce) : List UInt8 := head ++ body (pre.map (·.1))
theorem outL_len : ∀ pre : List Pce, (outL pre).length ≤ 4 + 20005 * pre.length := by
  intro pre
  have : (body (pre.map (·.1))).length ≤ 20005 * pre.length := by
    induction pre with
    | nil => simp [body]
    | cons x xs ih =>
      have e : body ((x :: xs).map (·.1)) = enc x.1 ++ body (xs.map (·.1)) := by simp [body]
      rw [e, List.length_append, enc_len, List.length_cons]
      have := x.2.2
      omega
  unfold outL head
  rw [List.length_append]
  simp only [List.length_cons, List.length_nil]
  omega
theorem cells_snoc (pre : List Pce) (x : Pce) : Lib.byteCells (outL (pre ++ [x])) = Lib.byteCells (outL pre) ++ Lib.strCells (S3 x.1.1) ++ Lib.strCells (S2 x.1.2.size) ++ Lib.strCells x.1.2 := by
  have e : outL (pre ++ [x]) = outL pre ++ enc x.1 := by unfold outL body; simp
  rw [e]
  unfold enc Lib.byteCells Lib.strCells S3 S2
  simp
def Inv (w : World) (Ba Bb : Nat) (a b : ByteArray) (pre : List Pce) (W : World) : Prop :=
  (Holds w.heap.size w.heap.size (Lib.byteCells (outL pre)) W ∧ Below w.heap.size w W) ∧ (Boxed W Ba 9 (.string a) ∧ Boxed W Bb 9 (.string b))
theorem inv_own (w : World) (Ba Bb : Nat) (a b : ByteArray) (B : Nat) (hB : w.heap.size ≤ B) : OwnFrom B (Inv w Ba Bb a b) :=
  OwnFrom.and (OwnFrom.and (Own.from (holds_own _ _ (fun pre => Lib.byteCells (outL pre))) _) (ownFrom_below (Nat.le_refl _) hB)) (OwnFrom.and (Own.from (boxed_own _ _ (fun _ => _)) _) (Own.from (boxed_own _ _ (fun _ => _)) _))
theorem kp_of {W W' : World} {Ba Bb : Nat} {a b : ByteArray} (h1 : Boxed W Ba 9 (.string a)) (h2 : Boxed W Bb 9 (.string b)) (k1 : Boxed W' Ba 9 (.string a)) (k2 : Boxed W' Bb 9 (.string b)) : Kp Ba Bb W W' :=
  ⟨(show W'.heap[Ba]? = _ from k1).trans (show W.heap[Ba]? = _ from h1).symm, (show W'.heap[Bb]? = _ from k2).trans (show W.heap[Bb]? = _ from h2).symm⟩
/-- On the way: the builder, what was there, both boxes, what is no cells. -/
def St (w W0 : World) (Ba Bb : Nat) (a b : ByteArray) (bs : List Value) (W : World) : Prop :=
  Holds w.heap.size w.heap.size bs W ∧ Below w.heap.size w W ∧ Boxed W Ba 9 (.string a) ∧ Boxed W Bb 9 (.string b) ∧ KeepsOthers W0 W
theorem St.start {w W : World} {Ba Bb : Nat} {a b : ByteArray} {pre : List Pce} (h : Inv w Ba Bb a b pre W) : St w W Ba Bb a b (Lib.byteCells (outL pre)) W := ⟨h.1.1, h.1.2, h.2.1, h.2.2, KeepsOthers.refl _⟩
theorem St.below {w W0 W W' : World} {Ba Bb : Nat} {a b : ByteArray} {bs : List Value} (h : St w W0 Ba Bb a b bs W) (hb : Below W.heap.size W W') : St w W0 Ba Bb a b bs W' := by
  have hg : W.grownBy W' none := ⟨hb.os, hb.tape, hb.output, hb.size, fun k hk _ => hb.block k hk⟩
  exact ⟨Bld.holds_below h.1 hb, h.2.1.trans (hb.mono h.2.1.size), h.2.2.1.kept hg (by simp), h.2.2.2.1.kept hg (by simp), h.2.2.2.2.trans (KeepsOthers.of_grownBy hg (fun j o ej _ => by cases ej))⟩
theorem St.wrote {w W0 W W' : World} {Ba Bb : Nat} {a b : ByteArray} {bs bs' : List Value} (h : St w W0 Ba Bb a b bs W) (h' : Holds w.heap.size w.heap.size bs' W' ∧ Below w.heap.size W W' ∧ KeepsOthers W W' ∧ ∀ k v, Boxed W k 9 v → Boxed W' k 9 v) : St w W0 Ba Bb a b bs' W' :=
  ⟨h'.1, h.2.1.trans h'.2.1, h'.2.2.2 _ _ h.2.2.1, h'.2.2.2 _ _ h.2.2.2.1, h.2.2.2.2.trans h'.2.2.1⟩
theorem str_size (s : ByteArray) : (Lib.strCells s).length = s.size := Lib.strCells_length s
theorem fin_text {a b : ByteArray} {ys : List Pce} (hab : okAB a b) (h : ys.map (·.1) = Pieces a b 0) : Lib.byteCells (outL ys) ++ Lib.strCells ⟨#[69, 78, 68]⟩ ++ Lib.strCells (S3 b.size) = Lib.byteCells (diffL a b) := by
  unfold outL diffL head Lib.byteCells Lib.strCells S3
  rw [h]
  simp
set_option maxHeartbeats 2000000 in
theorem diff_in (a b : ByteArray) (w : World) (ha : a.size ≤ 1048576) (hb : b.size ≤ 1048576) :
    CallsIn Fence.wide 6 Try.prog 8 #[.string a, .string b] w fun e w' => e = .returned (.tuple #[.string (outV a b), .bool (outB a b)]) ∧ Below w.heap.size w w' := by
  by_cases hab : okAB a b
  · have HAB : Hid (okAB a b) := hab
    have e2 : Hid (outB a b = true) := (out_yes hab).2
    have a2 : a.size ≤ 20000 := hab.1
    have b2 : b.size ≤ 20000 := hab.2
    clear hab
    have HH : Hid (Holds w.heap.size w.heap.size [] (w.alloc (.cells #[.pointer none, .slice none 0 0] 32))) := holds_new w
    have HB0 : Hid (Below w.heap.size w (w.alloc (.cells #[.pointer none, .slice none 0 0] 32))) := (Below.refl _ _).alloc (Nat.le_refl _) _
    refine callsIn_of_wp_marks Try.func8 rfl trivial ?_ rfl
    simp only [Try.ntmps8, List.size_toArray, List.length_cons, List.length_nil, Nat.reduceAdd, Nat.reduceSub, Array.replicate_succ, Array.replicate_zero, List.push_toArray, List.append_toArray, List.nil_append, List.cons_append]
    gi_wp2_with first
      | (refine ⟨trivial, ?_⟩; gi_at_call 15; refine (callsIn_wide.2 (write_any _ _ _ ⟨#[68, 73, 70, 70]⟩ _ HH.out (by decide) (by simp))).mono ?_; rintro e w1 ⟨rfl, h1, b1, _, _⟩; have H1 : Hid (Holds w.heap.size w.heap.size (Lib.byteCells head) w1) := h1; have B1 : Hid (Below w.heap.size w w1) := HB0.out.trans b1; clear h1 b1 HH HB0)
      | (refine ⟨trivial, ?_⟩; gi_at_call 16; refine (differing_in _ _ _).mono ?_; rintro e w' ⟨rfl, rfl⟩)
    have bA := (Boxed.new w1 9 (.string a)).alloc (.cells #[.string b] 9)
    have bB := Boxed.new (w1.alloc (.cells #[.string a] 9)) 9 (.string b)
    rw [World.size_alloc] at bB
    have hB2 : Below w.heap.size w ((w1.alloc (.cells #[.string a] 9)).alloc (.cells #[.string b] 9)) := (B1.out.alloc B1.out.size _).alloc (by have := B1.out.size; simp; omega) _
    have hH2 : Holds w.heap.size w.heap.size (Lib.byteCells (outL [])) ((w1.alloc (.cells #[.string a] 9)).alloc (.cells #[.string b] 9)) := by
      have hb : Below w1.heap.size w1 ((w1.alloc (.cells #[.string a] 9)).alloc (.cells #[.string b] 9)) := ((Below.refl _ w1).alloc (Nat.le_refl _) _).alloc (by simp) _
      exact Bld.holds_below H1.out hb
    have hz1 := B1.out.size
    refine wpIn_rangeFunc_ownG rfl (by omega) (gf := 27) (lb := #[.pointer (some ⟨w1.heap.size + 1, 0, none⟩), .pointer (some ⟨w1.heap.size, 0, none⟩)]) rfl trivial (enters_of Try.func27 (by kernel_rfl) rfl)
      (diff_stops 5 (by omega) w1.heap.size (w1.heap.size + 1) a b a2 b2 _ bA.cell bB.cell bA.lt bB.lt) (fun h h' => ⟨h'.1.trans h.1, h'.2.trans h.2⟩)
      (fun W l o o' hl _ _ _ => ⟨World.putObj_heap_other (fun e => by simp at hl; omega), World.putObj_heap_other (fun e => by simp at hl; omega)⟩) (Below.refl _ _) (fun _ => rfl)
      (Inv w w1.heap.size (w1.heap.size + 1) a b) (fun _ _ _ => False) (inv_own w _ _ a b _ (by simp; omega))
      (fun _ _ _ _ _ hs _ _ => hs)
      ⟨⟨hH2, hB2⟩, bA, bB⟩
      (fun x => { tmps := #[.string a, .string b, undef, undef, .string ⟨#[]⟩, .bool false, .pointer (some ⟨w.heap.size, 0, none⟩), .int .i64 x.1.1, .string x.1.2, .string a, .int .i64 a.size, .bool (decide ((20000 : Int) < a.size)), .bool (decide ((20000 : Int) < a.size)), .string b, .int .i64 b.size, .bool (decide ((20000 : Int) < b.size)), .bool (decide ((20000 : Int) < a.size) || decide ((20000 : Int) < b.size)), .tuple #[.int .i64 4, .nilIface], .string a, .string b, .func (.func 27) #[] #[.pointer (some ⟨w1.heap.size + 1, 0, none⟩), .pointer (some ⟨w1.heap.size, 0, none⟩)], .int .i64 x.1.1, .string x.1.2, undef, undef, undef, undef, undef, undef, undef, undef, undef, undef, undef, undef, undef, undef, undef], defers := [] }) ?assign ?body ?done ?stop
    case assign =>
      intro l x W K hK
      unfold encs
      gi_wp2
      exact hK
    case body =>
      rintro l pre x W hI hlt
      obtain ⟨⟨k, d⟩, hk, hd⟩ := x
      dsimp only at hk hd
      dsimp only
      have hol := outL_len pre
      have T0 : Hid (St w W w1.heap.size (w1.heap.size + 1) a b (Lib.byteCells (outL pre)) W) := St.start hI
      have HI : Hid (Inv w w1.heap.size (w1.heap.size + 1) a b pre W) := hI
      have c3 := fun w => h3_any k w (by omega)
      have c2 := fun w => h2_any d.size w (by omega)
      have CS : Hid (Lib.byteCells (outL (pre ++ [(⟨(k, d), hk, hd⟩ : Pce)])) = Lib.byteCells (outL pre) ++ Lib.strCells (S3 k) ++ Lib.strCells (S2 d.size) ++ Lib.strCells d) := cells_snoc pre ⟨(k, d), hk, hd⟩
      clear hI
      gi_wp2_with first
        | (refine ⟨trivial, ?_⟩; gi_at_call 17; refine (CallsIn.inRound l (callsIn_wide.2 (c3 _))).mono ?_; rintro e wA ⟨rfl, hbx⟩; have TA : Hid (St w W w1.heap.size (w1.heap.size + 1) a b (Lib.byteCells (outL pre)) wA) := T0.out.below hbx; clear hbx c3 T0)
        | (refine ⟨trivial, ?_⟩; gi_at_call 15; refine (CallsIn.inRound l (callsIn_wide.2 (write_any _ _ (Lib.byteCells (outL pre)) (S3 k) _ TA.out.1 (by simp only [List.length_append, Lib.byteCells_length, Lib.strCells_length, s3_size, s2_size]; omega) TA.out.2.1.size))).mono ?_; rintro e wB ⟨rfl, hwx⟩; have TB : Hid (St w W w1.heap.size (w1.heap.size + 1) a b (Lib.byteCells (outL pre) ++ Lib.strCells (S3 k)) wB) := TA.out.wrote hwx; clear hwx TA)
        | (refine ⟨trivial, ?_⟩; gi_at_call 17; refine (CallsIn.inRound l (callsIn_wide.2 (c2 _))).mono ?_; rintro e wC ⟨rfl, hbx⟩; have TC : Hid (St w W w1.heap.size (w1.heap.size + 1) a b (Lib.byteCells (outL pre) ++ Lib.strCells (S3 k)) wC) := TB.out.below hbx; clear hbx c2 TB)
        | (refine ⟨trivial, ?_⟩; gi_at_call 15; refine (CallsIn.inRound l (callsIn_wide.2 (write_any _ _ (Lib.byteCells (outL pre) ++ Lib.strCells (S3 k)) (S2 d.size) _ TC.out.1 (by simp only [List.length_append, Lib.byteCells_length, Lib.strCells_length, s3_size, s2_size]; omega) TC.out.2.1.size))).mono ?_; rintro e wD ⟨rfl, hwx⟩; have TD : Hid (St w W w1.heap.size (w1.heap.size + 1) a b (Lib.byteCells (outL pre) ++ Lib.strCells (S3 k) ++ Lib.strCells (S2 d.size)) wD) := TC.out.wrote hwx; clear hwx TC)
        | (refine ⟨trivial, ?_⟩; gi_at_call 15; refine (CallsIn.inRound l (callsIn_wide.2 (write_any _ _ (Lib.byteCells (outL pre) ++ Lib.strCells (S3 k) ++ Lib.strCells (S2 d.size)) d _ TD.out.1 (by simp only [List.length_append, Lib.byteCells_length, Lib.strCells_length, s3_size, s2_size]; omega) TD.out.2.1.size))).mono ?_; rintro e wE ⟨rfl, hwx⟩; have TE : Hid (St w W w1.heap.size (w1.heap.size + 1) a b (Lib.byteCells (outL pre) ++ Lib.strCells (S3 k) ++ Lib.strCells (S2 d.size) ++ Lib.strCells d) wE) := TD.out.wrote hwx; clear hwx TD)
      have T5 := TE.out
      refine ⟨T5.2.2.2.2.from _, kp_of HI.out.2.1 HI.out.2.2 T5.2.2.1 T5.2.2.2.1, ⟨⟨by rw [CS.out]; exact T5.1, T5.2.1⟩, T5.2.2.1, T5.2.2.2.1⟩⟩
    case done =>
      rintro D' ys W hD hS hI hK
      have T0 : Hid (St w W w1.heap.size (w1.heap.size + 1) a b (Lib.byteCells (outL ys)) W) := St.start hI
      have hol := outL_len ys
      have hyl : ys.length ≤ 20000 := by
        have := congrArg List.length hS
        rw [List.length_map] at this
        have h2 := pieces_len a b (b.size - 0) 0
        have e : (Pieces a b 0).length = (ps a b (b.size - 0) 0).length := rfl
        omega
      have c3 := fun w => h3_any b.size w (by omega)
      have FT : Hid (Lib.byteCells (outL ys) ++ Lib.strCells ⟨#[69, 78, 68]⟩ ++ Lib.strCells (S3 b.size) = Lib.byteCells (diffL a b)) := fin_text HAB.out hS
      have HE : Hid ((⟨(diffL a b).toArray⟩ : ByteArray) = outV a b) := (out_yes HAB.out).1.symm
      have hz3 : (⟨#[69, 78, 68]⟩ : ByteArray).size = 3 := rfl
      clear hI hS
      dsimp only
      gi_wp2_with first
        | (refine ⟨trivial, ?_⟩; gi_at_call 15; refine ((callsIn_wide.2 (write_any _ _ (Lib.byteCells (outL ys)) ⟨#[69, 78, 68]⟩ _ T0.out.1 (by simp only [List.length_append, Lib.byteCells_length, Lib.strCells_length, s3_size, s2_size]; omega) T0.out.2.1.size))).mono ?_; rintro e wA ⟨rfl, hwx⟩; have TA : Hid (St w W w1.heap.size (w1.heap.size + 1) a b (Lib.byteCells (outL ys) ++ Lib.strCells ⟨#[69, 78, 68]⟩) wA) := T0.out.wrote hwx; clear hwx T0)
        | (refine ⟨trivial, ?_⟩; gi_at_call 17; refine ((callsIn_wide.2 (c3 _))).mono ?_; rintro e wB ⟨rfl, hbx⟩; have TB : Hid (St w W w1.heap.size (w1.heap.size + 1) a b (Lib.byteCells (outL ys) ++ Lib.strCells ⟨#[69, 78, 68]⟩) wB) := TA.out.below hbx; clear hbx c3 TA)
        | (refine ⟨trivial, ?_⟩; gi_at_call 15; refine ((callsIn_wide.2 (write_any _ _ (Lib.byteCells (outL ys) ++ Lib.strCells ⟨#[69, 78, 68]⟩) (S3 b.size) _ TB.out.1 (by simp only [List.length_append, Lib.byteCells_length, Lib.strCells_length, s3_size, s2_size]; omega) TB.out.2.1.size))).mono ?_; rintro e wC ⟨rfl, hwx⟩; have TC : Hid (St w W w1.heap.size (w1.heap.size + 1) a b (Lib.byteCells (outL ys) ++ Lib.strCells ⟨#[69, 78, 68]⟩ ++ Lib.strCells (S3 b.size)) wC) := TB.out.wrote hwx; clear hwx TB)
        | (refine ⟨trivial, ?_⟩; gi_at_call 18; refine (callsIn_wide.2 (string_any _ _ (diffL a b) _ (by rw [← FT.out]; exact TC.out.1) (by unfold diffL; simp))).mono ?_; rintro e wD ⟨rfl, hbD, hkD⟩; have BD : Hid (Below w.heap.size w wD) := TC.out.2.1.trans hbD; have hK' : wD.heap[D']? = some (.deferred (some [])) := hkD.same _ _ (TC.out.2.2.2.2.same _ _ hK rfl) rfl; clear hbD hkD TC)
      refine ⟨by simp, .inl ⟨_, _, rfl, run_takeDeferred hK', ?_⟩⟩
      exact ⟨_, results_tmp2 rfl _ _ _, (by rw [← HE.out, e2.out]; rfl), BD.out.trans (belowK_b (w := w) (Nat.le_refl _) _ D' _ _ (by simp at hD; omega) hK' rfl rfl)⟩
    case stop =>
      rintro D c pre W _ _ h _
      exact h.elim
  · have e1 : Hid (outV a b = ⟨#[]⟩ ∧ outB a b = false) := out_no hab
    refine callsIn_wide.2 ?_
    by_cases hx : 20000 < a.size
    · have d1 : decide ((20000 : Int) < (a.size : Int)) = true := decide_eq_true (by omega)
      go_enter Try.func8, Try.ntmps8
      go_wp2
      go_ret2
      exact ⟨ret_two e1.out.1.symm e1.out.2.symm, Below.refl _ _⟩
    · have d0 : decide ((20000 : Int) < (a.size : Int)) = false := decide_eq_false (by omega)
      have d1 : decide ((20000 : Int) < (b.size : Int)) = true := decide_eq_true (by unfold okAB at hab; omega)
      go_enter Try.func8, Try.ntmps8
      go_wp2
      go_ret2
      exact ⟨ret_two e1.out.1.symm e1.out.2.symm, Below.refl _ _⟩
end Go.Proofs.Ytbfjalpkdgepnaa.Difj
