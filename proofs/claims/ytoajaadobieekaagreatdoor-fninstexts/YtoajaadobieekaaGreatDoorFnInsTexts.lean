/- For every code the law FnInsTexts answers true: of the drawn instruction impl.InsText answers as spec.InsText does, and a right one, and no other, comes back from its text; of the drawn text impl.ReadInsText answers as spec.ReadInsText does, and what is read has just that text; the code reads afterwards as it read before; where the program's tables and the library's table of powers of ten hold what their texts lay. -/
import Derived.Test.YtoajaadobieekaaGreatDoorCards
import Derived.Test.YtoajaadobieekaaGreatDoorTie
import Derived.WalkKit
import Derived.ProofKit
import Derived.OpenShut
import Derived.ShutString
import Derived.ChangeOld
import Derived.ChangeVars
import Derived.OpenVars
import Derived.Below
import Derived.Deep.DeepHandedRow
import Derived.Lib.LaidTab
import Derived.Test.YtoajaadobieekaaGreatDoorDrawZ
import Derived.Test.YtoajaadobieekaaGreatDoorRinsw
import Derived.Test.YtoajaadobieekaaGreatDoorLaid
namespace Go.Proofs.YtoajaadobieekaaGreatDoor.fnInsTexts
open Go.ChangeShapes Go.WideShapes Go.ChangeAt Go.RowKit
open Go.ChangeMaps (open_string shut_string)
set_option linter.unusedVariables false

theorem own : ownKnob Tryz.prog.godebug = none := by kernel_rfl
theorem laidOut : laidOutB Tryz.prog = true := by kernel_rfl
theorem rowed : varsRowed Tryz.prog Rows.fnInsTextsSpec.vars = true := by kernel_rfl

/-- What the walk is told of a slice of bytes that came in: it is nil; or it leads to a row of cells, the numbers zs, each fitting its kind. -/
def IsRow (k : IntKind) (w : World) (a : Option Addr) (len cap : Nat) (zs : List Int) : Prop :=
  (a = none ∧ len = 0 ∧ cap = 0 ∧ zs = []) ∨
  ∃ x, a = some x ∧ len ≤ cap ∧ cap ≤ maxLen ∧ zs.length = cap ∧ (∀ i, i < zs.length → w.cell? (x.add i) = some (.int k (zs.getD i 0))) ∧ ∀ n ∈ zs, (Lit.int k n).wf = true

theorem tables {W : World} (h : laidMetH Tryz.prog Rows.fnInsTextsRow.laid W) : PartN.Tables W := by
  obtain ⟨q0, L0, _⟩ : laidMet Tryz.prog Rows.fnInsTextsRow.laid W := h
  obtain ⟨q1, L1⟩ := Laid.skip L0
  obtain ⟨q2, L2⟩ := Laid.skip L1
  obtain ⟨q3, L3⟩ := Laid.skip L2
  obtain ⟨q4, L4⟩ := Laid.skip L3
  have t4 := Laid.nums (P := Tryz.prog) (k := .u8) (zs := [48, 49, 50, 51, 52, 53, 54, 55, 56, 57, 65, 66, 67, 68, 69, 70]) (show Tryz.prog.globalNamed "loop.example/g00460/impl.hexDigits" = some 8 by kernel_rfl) (show (Tryz.prog.globals[8]?).map (·.type) = some 90 by kernel_rfl) Tryz.underlying90 Tryz.underlying5 (by kernel_rfl) (by kernel_rfl) L4
  obtain ⟨q5, L5⟩ := Laid.skip L4
  have t5 := Laid.txts (P := Tryz.prog) (l := [[98], [99], [100], [101], [104], [108], [91, 104, 108, 93], [97]]) (show Tryz.prog.globalNamed "loop.example/g00460/impl.regNames" = some 6 by kernel_rfl) (show (Tryz.prog.globals[6]?).map (·.type) = some 85 by kernel_rfl) Tryz.underlying85 Tryz.underlying9 (by kernel_rfl) (by kernel_rfl) L5
  obtain ⟨q6, L6⟩ := Laid.skip L5
  have t6 := Laid.txts (P := Tryz.prog) (l := [[98, 99], [100, 101], [104, 108], [115, 112]]) (show Tryz.prog.globalNamed "loop.example/g00460/impl.pairNames" = some 4 by kernel_rfl) (show (Tryz.prog.globals[4]?).map (·.type) = some 86 by kernel_rfl) Tryz.underlying86 Tryz.underlying9 (by kernel_rfl) (by kernel_rfl) L6
  obtain ⟨q7, L7⟩ := Laid.skip L6
  have t7 := Laid.txts (P := Tryz.prog) (l := [[98, 99], [100, 101], [104, 108], [97, 102]]) (show Tryz.prog.globalNamed "loop.example/g00460/impl.stackNames" = some 5 by kernel_rfl) (show (Tryz.prog.globals[5]?).map (·.type) = some 86 by kernel_rfl) Tryz.underlying86 Tryz.underlying9 (by kernel_rfl) (by kernel_rfl) L7
  obtain ⟨q8, L8⟩ := Laid.skip L7
  have t8 := Laid.txts (P := Tryz.prog) (l := [[91, 98, 99, 93], [91, 100, 101, 93], [91, 104, 108, 43, 93], [91, 104, 108, 45, 93]]) (show Tryz.prog.globalNamed "loop.example/g00460/impl.placeNames" = some 3 by kernel_rfl) (show (Tryz.prog.globals[3]?).map (·.type) = some 86 by kernel_rfl) Tryz.underlying86 Tryz.underlying9 (by kernel_rfl) (by kernel_rfl) L8
  obtain ⟨q9, L9⟩ := Laid.skip L8
  have t9 := Laid.txts (P := Tryz.prog) (l := [[110, 122], [122], [110, 99], [99]]) (show Tryz.prog.globalNamed "loop.example/g00460/impl.condNames" = some 2 by kernel_rfl) (show (Tryz.prog.globals[2]?).map (·.type) = some 86 by kernel_rfl) Tryz.underlying86 Tryz.underlying9 (by kernel_rfl) (by kernel_rfl) L9
  obtain ⟨q10, L10⟩ := Laid.skip L9
  have t10 := Laid.txts (P := Tryz.prog) (l := [[97, 100, 100], [97, 100, 99], [115, 117, 98], [115, 98, 99], [97, 110, 100], [120, 111, 114], [111, 114], [99, 112]]) (show Tryz.prog.globalNamed "loop.example/g00460/impl.aluNames" = some 0 by kernel_rfl) (show (Tryz.prog.globals[0]?).map (·.type) = some 85 by kernel_rfl) Tryz.underlying85 Tryz.underlying9 (by kernel_rfl) (by kernel_rfl) L10
  obtain ⟨q11, L11⟩ := Laid.skip L10
  have t11 := Laid.txts (P := Tryz.prog) (l := [[114, 108, 99], [114, 114, 99], [114, 108], [114, 114], [115, 108, 97], [115, 114, 97], [115, 119, 97, 112], [115, 114, 108]]) (show Tryz.prog.globalNamed "loop.example/g00460/impl.turnNames" = some 7 by kernel_rfl) (show (Tryz.prog.globals[7]?).map (·.type) = some 85 by kernel_rfl) Tryz.underlying85 Tryz.underlying9 (by kernel_rfl) (by kernel_rfl) L11
  obtain ⟨q12, L12⟩ := Laid.skip L11
  have t12 := Laid.txts (P := Tryz.prog) (l := [[], [98, 105, 116], [114, 101, 115], [115, 101, 116]]) (show Tryz.prog.globalNamed "loop.example/g00460/impl.bitNames" = some 1 by kernel_rfl) (show (Tryz.prog.globals[1]?).map (·.type) = some 86 by kernel_rfl) Tryz.underlying86 Tryz.underlying9 (by kernel_rfl) (by kernel_rfl) L12
  obtain ⟨q13, L13⟩ := Laid.skip L12
  obtain ⟨q14, L14⟩ := Laid.skip L13
  exact ⟨fun i hi => (t10 i hi).trans (by match i, hi with | 0, _ => rfl | 1, _ => rfl | 2, _ => rfl | 3, _ => rfl | 4, _ => rfl | 5, _ => rfl | 6, _ => rfl | 7, _ => rfl), fun i hi => (t12 i hi).trans (by match i, hi with | 0, _ => rfl | 1, _ => rfl | 2, _ => rfl | 3, _ => rfl), fun i hi => (t9 i hi).trans (by match i, hi with | 0, _ => rfl | 1, _ => rfl | 2, _ => rfl | 3, _ => rfl), fun i hi => (t8 i hi).trans (by match i, hi with | 0, _ => rfl | 1, _ => rfl | 2, _ => rfl | 3, _ => rfl), fun i hi => (t6 i hi).trans (by match i, hi with | 0, _ => rfl | 1, _ => rfl | 2, _ => rfl | 3, _ => rfl), fun i hi => (t7 i hi).trans (by match i, hi with | 0, _ => rfl | 1, _ => rfl | 2, _ => rfl | 3, _ => rfl), fun i hi => (t5 i hi).trans (by match i, hi with | 0, _ => rfl | 1, _ => rfl | 2, _ => rfl | 3, _ => rfl | 4, _ => rfl | 5, _ => rfl | 6, _ => rfl | 7, _ => rfl), fun i hi => (t11 i hi).trans (by match i, hi with | 0, _ => rfl | 1, _ => rfl | 2, _ => rfl | 3, _ => rfl | 4, _ => rfl | 5, _ => rfl | 6, _ => rfl | 7, _ => rfl), fun i hi => t4 i hi⟩
theorem pow {W : World} (h : laidMetH Tryz.prog Rows.fnInsTextsRow.laid W) : Texi.Pow W := by
  obtain ⟨q0, L0, _⟩ : laidMet Tryz.prog Rows.fnInsTextsRow.laid W := h
  obtain ⟨q1, L1⟩ := Laid.skip L0
  obtain ⟨q2, L2⟩ := Laid.skip L1
  exact Laid.tab (P := Tryz.prog) (k := .u64) (zs := Lib.pow10Tab) (show Tryz.prog.globalNamed "internal/strconv.uint64pow10" = some 12 by kernel_rfl) (show (Tryz.prog.globals[12]?).map (·.type) = some 118 by kernel_rfl) Tryz.underlying118 Tryz.underlying107 (by kernel_rfl) (by kernel_rfl) L2
set_option maxRecDepth 20000
open HolI LenX InsX DrawI DrawZ
theorem toRow {k : IntKind} {w : World} {a : Option Addr} {len cap : Nat} {zs : List Int} (h : IsRow k w a len cap zs) : Rdr.IsRow k w a len cap zs := h
theorem back (c : Int) (b : Bool) (m : Int) (h0 : 0 ≤ c) (h1 : c ≤ 255) : Rinsu.outS (Texi.textV c b m) (Rinsw.res (Texi.textV c b m)) =
    .returned (.tuple #[if okV c b m = true then .agg #[.int .i64 c, .bool b, .int .i64 m] else .agg #[.int .i64 0, .bool false, .int .i64 0], .bool (okV c b m)]) := by
  cases ho : okV c b m with
  | false =>
    have e : Texi.textV c b m = ⟨#[]⟩ := by unfold Texi.textV; rw [if_pos ho]
    rw [e, Twin.res_empty rfl, if_neg (by decide)]
    rfl
  | true =>
    rw [if_pos rfl]
    obtain ⟨k, hk, rfl, rfl⟩ := Twin.at_num (c := c) b h0 h1
    obtain ⟨e1, e2⟩ := Twin.text_back hk ho
    rw [e1, Rinsu.outS_some, e2]
theorem again (t : ByteArray) : ∃ (c v : Int) (b f : Bool), Rinsu.outS t (Rinsw.res t) = .returned (.tuple #[.agg #[.int .i64 c, .bool b, .int .i64 v], .bool f]) ∧ (f = true → Texi.textV c b v = t) := by
  cases h : Rinsw.res t with
  | none => exact ⟨0, 0, false, false, rfl, fun e => by cases e⟩
  | some k => exact ⟨_, _, _, true, rfl, fun _ => (Twin.read_text h).2⟩

set_option maxHeartbeats 2000000 in
theorem walk (w : World) (a0 : Option Addr) (len0 cap0 : Nat) (z0 : List Int) (w0 : IsRow .u8 w a0 len0 cap0 z0) (hT : PartN.Tables w) (hP : Texi.Pow w) (hm : HolI.MaxL w) :
    Calls Tryz.prog 3 #[.slice a0 len0 cap0] w fun e w' => e = .returned (.bool true) ∧ Below w.heap.size w w' := by
  have H : Hid (Rdr.IsRow .u8 w a0 len0 cap0 z0) := toRow w0
  have HM : Hid (PartN.Tables w ∧ Texi.Pow w ∧ HolI.MaxL w) := ⟨hT, hP, hm⟩
  clear w0 hT hP hm
  have cb := Rdr.big_any a0 len0 cap0 w H.out.len
  by_cases hbig : Rdr.bigB len0 = true
  · rw [hbig] at cb
    go_enter Tryz.func3, Tryz.ntmps3
    go_wp2_with (go_at_call 4; refine cb.mono ?_; rintro e w' ⟨rfl, rfl⟩)
    go_ret
    exact ⟨rfl, Below.refl _ _⟩
  have hbig : Rdr.bigB len0 = false := by simpa using hbig
  rw [hbig] at cb
  go_enter Tryz.func3, Tryz.ntmps3
  go_wp2_with fail
  refine cb.mono ?_
  rintro e wa ⟨rfl, rfl⟩
  go_wp2_with fail
  refine (drawInsText_any _ _ _ _ _ H.out).mono ?_
  rintro e w1 ⟨⟨c, b, m, c0, c1, hm, rfl⟩, b1⟩
  have B1 : Hid (Below wa.heap.size wa w1) := b1
  have hbk := back c b m c0 c1
  have hz := text_small c b m c0 c1
  clear b1 hm
  have ci := fun w hT hP hm => Texj.implText_any c b m w hT hP hm
  have cs := fun w => Texj.specText_any c b m w
  have co := fun w hm => implOk_any c b m w hm
  have cr := fun w hT hP hm => Rinsw.implFull_any (Texi.textV c b m) w hT hP hm (by omega)
  rw [hbk] at cr
  clear hbk c0 c1 hz
  generalize okV c b m = o at co cr
  generalize Texi.textV c b m = T at ci cs cr
  go_wp2_with fail
  have BA := B1.out.alloc B1.out.size (.cells #[.int .i64 c, .bool b, .int .i64 m] 25)
  refine (ci _ (HM.out.1.below BA) (HM.out.2.1.below BA) (HM.out.2.2.below BA)).mono ?_
  rintro e w2 ⟨rfl, b2⟩
  have BX : Hid (Below (w1.alloc (.cells #[.int .i64 c, .bool b, .int .i64 m] 25)).heap.size (w1.alloc (.cells #[.int .i64 c, .bool b, .int .i64 m] 25)) w2) := b2
  have BW : Hid (Below wa.heap.size wa w2) := after BA b2
  clear b2 BA B1 ci
  go_wp2_with fail
  refine (cr _ (HM.out.1.below BW.out) (HM.out.2.1.below BW.out) (HM.out.2.2.below BW.out)).mono ?_
  rintro e w3 ⟨rfl, b3⟩
  have BX : Hid (Below _ _ w3) := after BX.out b3
  have BW : Hid (Below wa.heap.size wa w3) := after BW.out b3
  clear b3 cr
  cases o with
  | false =>
    simp only [Bool.false_eq_true, if_false]
    have i0 : ∀ p, (w3.alloc p).cell? ⟨w1.heap.size, 0, none⟩ = some (.int .i64 c) := fun p => box (BX.out.alloc BX.out.size p) 0 _ rfl
    have i1 : ∀ p, (w3.alloc p).cell? ⟨w1.heap.size, 1, none⟩ = some (.bool b) := fun p => box (BX.out.alloc BX.out.size p) 1 _ rfl
    have i2 : ∀ p, (w3.alloc p).cell? ⟨w1.heap.size, 2, none⟩ = some (.int .i64 m) := fun p => box (BX.out.alloc BX.out.size p) 2 _ rfl
    go_wp2_with fail
    refine (cs _).mono ?_
    rintro e w4 ⟨rfl, b4⟩
    have BX : Hid (Below _ _ w4) := after (BX.out.alloc BX.out.size _) b4
    have BW : Hid (Below wa.heap.size wa w4) := after (BW.out.alloc BW.out.size _) b4
    clear b4 cs i0 i1 i2
    have i0 := box BX.out 0 _ rfl
    have i1 := box BX.out 1 _ rfl
    have i2 := box BX.out 2 _ rfl
    go_wp2_with fail
    refine (co _ (HM.out.2.2.below BW.out)).mono ?_
    rintro e w5 ⟨rfl, b5⟩
    have BW : Hid (Below wa.heap.size wa w5) := after BW.out b5
    clear b5 co i0 i1 i2 BX
    go_wp2_with fail
    refine (drawReadInsText_any _ _ _ _ _ (H.out.below BW.out)).mono ?_
    rintro e w6 ⟨⟨u, hu, rfl⟩, b6⟩
    have BW : Hid (Below wa.heap.size wa w6) := after BW.out b6
    clear b6
    have cr := fun w hT hP hm => Rinsw.implFull_any u w hT hP hm (by omega)
    have cp := fun w => Rinsw.specFull_any u w (by omega)
    obtain ⟨xc, xv, xb, f, hx, hxt⟩ := again u
    rw [hx] at cr cp
    clear hx
    have ci := fun w hT hP hm => Texj.implText_any xc xb xv w hT hP hm
    go_wp2_with fail
    refine (cr _ (HM.out.1.below BW.out) (HM.out.2.1.below BW.out) (HM.out.2.2.below BW.out)).mono ?_
    rintro e w7 ⟨rfl, b7⟩
    have BW : Hid (Below wa.heap.size wa w7) := after BW.out b7
    clear b7 cr
    go_wp2_with fail
    refine (cp _).mono ?_
    rintro e w8 ⟨rfl, b8⟩
    have BX : Hid (Below (w7.alloc (.cells #[.int .i64 xc, .bool xb, .int .i64 xv] 25)).heap.size (w7.alloc (.cells #[.int .i64 xc, .bool xb, .int .i64 xv] 25)) w8) := b8
    have BW : Hid (Below wa.heap.size wa w8) := after (BW.out.alloc BW.out.size _) b8
    clear b8 cp
    cases f with
    | false =>
      clear hxt ci
      go_wp2
      go_ret
      exact ⟨rfl, BW.out.alloc BW.out.size _⟩
    | true =>
      rw [hxt rfl] at ci
      clear hxt
      have i0 : ∀ p, (w8.alloc p).cell? ⟨w7.heap.size, 0, none⟩ = some (.int .i64 xc) := fun p => box (BX.out.alloc BX.out.size p) 0 _ rfl
      have i1 : ∀ p, (w8.alloc p).cell? ⟨w7.heap.size, 1, none⟩ = some (.bool xb) := fun p => box (BX.out.alloc BX.out.size p) 1 _ rfl
      have i2 : ∀ p, (w8.alloc p).cell? ⟨w7.heap.size, 2, none⟩ = some (.int .i64 xv) := fun p => box (BX.out.alloc BX.out.size p) 2 _ rfl
      go_wp2_with fail
      have BA := BW.out.alloc BW.out.size (.cells #[.int .i64 xc, .bool xb, .int .i64 xv] 25)
      refine (ci _ (HM.out.1.below BA) (HM.out.2.1.below BA) (HM.out.2.2.below BA)).mono ?_
      rintro e w9 ⟨rfl, b9⟩
      have BW : Hid (Below wa.heap.size wa w9) := after BA b9
      clear b9 BA ci i0 i1 i2
      go_wp2
      go_ret
      exact ⟨rfl, BW.out⟩
  | true =>
    simp only [if_true]
    have i0 : ∀ p, (w3.alloc p).cell? ⟨w1.heap.size, 0, none⟩ = some (.int .i64 c) := fun p => box (BX.out.alloc BX.out.size p) 0 _ rfl
    have i1 : ∀ p, (w3.alloc p).cell? ⟨w1.heap.size, 1, none⟩ = some (.bool b) := fun p => box (BX.out.alloc BX.out.size p) 1 _ rfl
    have i2 : ∀ p, (w3.alloc p).cell? ⟨w1.heap.size, 2, none⟩ = some (.int .i64 m) := fun p => box (BX.out.alloc BX.out.size p) 2 _ rfl
    go_wp2_with fail
    refine (cs _).mono ?_
    rintro e w4 ⟨rfl, b4⟩
    have BX : Hid (Below _ _ w4) := after (BX.out.alloc BX.out.size _) b4
    have BJ : Hid (Below (w3.alloc (.cells #[.int .i64 c, .bool b, .int .i64 m] 25)).heap.size (w3.alloc (.cells #[.int .i64 c, .bool b, .int .i64 m] 25)) w4) := b4
    have BW : Hid (Below wa.heap.size wa w4) := after (BW.out.alloc BW.out.size _) b4
    clear b4 cs i0 i1 i2
    have i0 := box BX.out 0 _ rfl
    have i1 := box BX.out 1 _ rfl
    have i2 := box BX.out 2 _ rfl
    go_wp2_with fail
    refine (co _ (HM.out.2.2.below BW.out)).mono ?_
    rintro e w5 ⟨rfl, b5⟩
    have BX : Hid (Below _ _ w5) := after BX.out b5
    have BJ : Hid (Below _ _ w5) := after BJ.out b5
    have BW : Hid (Below wa.heap.size wa w5) := after BW.out b5
    clear b5 co i0 i1 i2
    have i0 := box BX.out 0 _ rfl
    have i1 := box BX.out 1 _ rfl
    have i2 := box BX.out 2 _ rfl
    have j0 := box BJ.out 0 _ rfl
    have j1 := box BJ.out 1 _ rfl
    have j2 := box BJ.out 2 _ rfl
    go_wp2_with fail
    refine (drawReadInsText_any _ _ _ _ _ (H.out.below BW.out)).mono ?_
    rintro e w6 ⟨⟨u, hu, rfl⟩, b6⟩
    have BW : Hid (Below wa.heap.size wa w6) := after BW.out b6
    clear b6
    have cr := fun w hT hP hm => Rinsw.implFull_any u w hT hP hm (by omega)
    have cp := fun w => Rinsw.specFull_any u w (by omega)
    obtain ⟨xc, xv, xb, f, hx, hxt⟩ := again u
    rw [hx] at cr cp
    clear hx
    have ci := fun w hT hP hm => Texj.implText_any xc xb xv w hT hP hm
    go_wp2_with fail
    refine (cr _ (HM.out.1.below BW.out) (HM.out.2.1.below BW.out) (HM.out.2.2.below BW.out)).mono ?_
    rintro e w7 ⟨rfl, b7⟩
    have BW : Hid (Below wa.heap.size wa w7) := after BW.out b7
    clear b7 cr
    go_wp2_with fail
    refine (cp _).mono ?_
    rintro e w8 ⟨rfl, b8⟩
    have BX : Hid (Below (w7.alloc (.cells #[.int .i64 xc, .bool xb, .int .i64 xv] 25)).heap.size (w7.alloc (.cells #[.int .i64 xc, .bool xb, .int .i64 xv] 25)) w8) := b8
    have BW : Hid (Below wa.heap.size wa w8) := after (BW.out.alloc BW.out.size _) b8
    clear b8 cp
    cases f with
    | false =>
      clear hxt ci
      go_wp2
      go_ret
      exact ⟨rfl, BW.out.alloc BW.out.size _⟩
    | true =>
      rw [hxt rfl] at ci
      clear hxt
      have i0 : ∀ p, (w8.alloc p).cell? ⟨w7.heap.size, 0, none⟩ = some (.int .i64 xc) := fun p => box (BX.out.alloc BX.out.size p) 0 _ rfl
      have i1 : ∀ p, (w8.alloc p).cell? ⟨w7.heap.size, 1, none⟩ = some (.bool xb) := fun p => box (BX.out.alloc BX.out.size p) 1 _ rfl
      have i2 : ∀ p, (w8.alloc p).cell? ⟨w7.heap.size, 2, none⟩ = some (.int .i64 xv) := fun p => box (BX.out.alloc BX.out.size p) 2 _ rfl
      go_wp2_with fail
      have BA := BW.out.alloc BW.out.size (.cells #[.int .i64 xc, .bool xb, .int .i64 xv] 25)
      refine (ci _ (HM.out.1.below BA) (HM.out.2.1.below BA) (HM.out.2.2.below BA)).mono ?_
      rintro e w9 ⟨rfl, b9⟩
      have BW : Hid (Below wa.heap.size wa w9) := after BA b9
      clear b9 BA ci i0 i1 i2
      go_wp2
      go_ret
      exact ⟨rfl, BW.out⟩

set_option maxRecDepth 100000 in
theorem contract (H : Type) (enc : TypeId × Value → H) (W : World) (base : Nat) (args : Array Value) (ds gs : List (DataW H)) (before : List MemPlace)
    (hval : ∀ (j : Nat) t v, Tryz.f3.params[j]? = some t → args[j]? = some v → Value.okWide Tryz.prog W .any base t v)
    (hW : DataW.Whole enc Tryz.prog Tryz.f3.params.toList Rows.fnInsTextsSpec.vars false W args.toList ds gs before) (hL : laidMetH Tryz.prog Rows.fnInsTextsRow.laid W) (hsh : W.ShapedOpen Tryz.prog) :
    Calls Tryz.prog 3 args W fun e W' => ∃ v, e = .returned v ∧ Rows.fnInsTextsSpec.post enc Tryz.prog Tryz.f3 false true false false W args v W' := by
  have hW' := hW
  obtain ⟨p, q, hA0, hV, hbef, hfz, hnd⟩ := hW
  have hA : DataW.TrodAll enc Tryz.prog W 0 (fun _ => true) true Tryz.f3.params.toList args.toList ds p := hA0
  have hVk : DataW.TrodVars enc Tryz.prog W (fun _ => true) Rows.fnInsTextsSpec.vars gs q := hV
  rw [Tryz.params3] at hA hval
  obtain ⟨v0, vs0, d0, ds0, p0, q0, hargs, rfl, rfl, h0, r0⟩ := trodAll_cons hA
  obtain ⟨rfl, rfl, rfl⟩ := trodAll_nil r0
  obtain rfl : args = #[v0] := by cases args; simp_all
  obtain ⟨g1, g2, g3, g4, g5, g6, g7, g8, g9, rfl⟩ : ∃ g1 g2 g3 g4 g5 g6 g7 g8 g9, gs = [g1, g2, g3, g4, g5, g6, g7, g8, g9] := by
    have hl := Laid.vars_len hVk
    match gs, hl with
    | [g1, g2, g3, g4, g5, g6, g7, g8, g9], _ => exact ⟨_, _, _, _, _, _, _, _, _, rfl⟩
  obtain ⟨a0, len0, cap0, rfl⟩ := okWide_slice Tryz.underlying22 (hval 0 22 v0 rfl rfl)
  have k0 := h0
  have lt0 : ∀ x ∈ p0, x.block < W.heap.size := by obtain ⟨m, hm⟩ := k0; exact DataW.trod_lt m _ _ _ hm
  obtain ⟨z0, w0⟩ : ∃ zs, IsRow .u8 W a0 len0 cap0 zs := by
    obtain ⟨fuel, hf⟩ := h0
    rcases open_ints Tryz.underlying22 Tryz.underlying5 (by kernel_rfl) hf with ⟨hcs, _⟩ | ⟨x, l, c, zs, hcs, _, hl, hm, hz, _, hcell, hwz⟩
    · simp [Value.cells] at hcs
      obtain ⟨rfl, rfl, rfl⟩ := hcs
      exact ⟨[], .inl ⟨rfl, rfl, rfl, rfl⟩⟩
    · simp [Value.cells] at hcs
      obtain ⟨rfl, rfl, rfl⟩ := hcs
      exact ⟨zs, .inr ⟨_, rfl, hl, hm, by simpa using hz, hcell, hwz⟩⟩
  clear hA0
  refine (walk W a0 len0 cap0 z0 w0 (tables hL) (pow hL) (Tryz.laysM144.s1_3 W hsh)).mono fun e W' ⟨he, bel⟩ => ?_
  subst he
  exact ⟨_, rfl, _, _, _, [], _, q, hW', trodAll_mk1 (shut_bool Tryz.underlying4 _), (trodAll_cons_mk (Below.trod laidOut (by kernel_rfl) (of_decide_eq_true (by kernel_rfl)) k0 bel lt0) trodAll_mk0), Below.trodVars laidOut bel rowed hVk, bel.frame _, fun h => by cases h⟩

/-- A world for the witness: the settled one, the table holding what its initialiser lays. -/
noncomputable def laidWorld (os : Os) : World :=
  { World.holding Tryz.prog os ⟨#[], #[], []⟩ with heap := (fun h => h.modify 13 fun | .cells _ t frozen => .cells #[.int .u8 0, .int .u8 1, .int .u8 28, .int .u8 2, .int .u8 29, .int .u8 14, .int .u8 24, .int .u8 3, .int .u8 30, .int .u8 22, .int .u8 20, .int .u8 15, .int .u8 25, .int .u8 17, .int .u8 4, .int .u8 8, .int .u8 31, .int .u8 27, .int .u8 13, .int .u8 23, .int .u8 21, .int .u8 19, .int .u8 16, .int .u8 7, .int .u8 26, .int .u8 12, .int .u8 18, .int .u8 6, .int .u8 11, .int .u8 5, .int .u8 10, .int .u8 9] t frozen | o => o) <| (fun h => h.modify 14 fun | .cells _ t frozen => .cells #[.int .u8 0, .int .u8 1, .int .u8 56, .int .u8 2, .int .u8 57, .int .u8 49, .int .u8 28, .int .u8 3, .int .u8 61, .int .u8 58, .int .u8 42, .int .u8 50, .int .u8 38, .int .u8 29, .int .u8 17, .int .u8 4, .int .u8 62, .int .u8 47, .int .u8 59, .int .u8 36, .int .u8 45, .int .u8 43, .int .u8 51, .int .u8 22, .int .u8 53, .int .u8 39, .int .u8 33, .int .u8 30, .int .u8 24, .int .u8 18, .int .u8 12, .int .u8 5, .int .u8 63, .int .u8 55, .int .u8 48, .int .u8 27, .int .u8 60, .int .u8 41, .int .u8 37, .int .u8 16, .int .u8 46, .int .u8 35, .int .u8 44, .int .u8 21, .int .u8 52, .int .u8 32, .int .u8 23, .int .u8 11, .int .u8 54, .int .u8 26, .int .u8 40, .int .u8 15, .int .u8 34, .int .u8 20, .int .u8 31, .int .u8 10, .int .u8 25, .int .u8 14, .int .u8 19, .int .u8 9, .int .u8 13, .int .u8 8, .int .u8 7, .int .u8 6] t frozen | o => o) <| (fun h => h.modify 12 fun | .cells _ t frozen => .cells #[.int .u64 1, .int .u64 10, .int .u64 100, .int .u64 1000, .int .u64 10000, .int .u64 100000, .int .u64 1000000, .int .u64 10000000, .int .u64 100000000, .int .u64 1000000000, .int .u64 10000000000, .int .u64 100000000000, .int .u64 1000000000000, .int .u64 10000000000000, .int .u64 100000000000000, .int .u64 1000000000000000, .int .u64 10000000000000000, .int .u64 100000000000000000, .int .u64 1000000000000000000, .int .u64 10000000000000000000] t frozen | o => o) <| (fun h => h.modify 11 fun | .cells _ t frozen => .cells #[.int .u8 128, .int .u8 191, .int .u8 160, .int .u8 191, .int .u8 128, .int .u8 159, .int .u8 144, .int .u8 191, .int .u8 128, .int .u8 143, .int .u8 0, .int .u8 0, .int .u8 0, .int .u8 0, .int .u8 0, .int .u8 0, .int .u8 0, .int .u8 0, .int .u8 0, .int .u8 0, .int .u8 0, .int .u8 0, .int .u8 0, .int .u8 0, .int .u8 0, .int .u8 0, .int .u8 0, .int .u8 0, .int .u8 0, .int .u8 0, .int .u8 0, .int .u8 0] t frozen | o => o) <| (fun h => h.modify 8 fun | .cells _ t frozen => .cells #[.int .u8 48, .int .u8 49, .int .u8 50, .int .u8 51, .int .u8 52, .int .u8 53, .int .u8 54, .int .u8 55, .int .u8 56, .int .u8 57, .int .u8 65, .int .u8 66, .int .u8 67, .int .u8 68, .int .u8 69, .int .u8 70] t frozen | o => o) <| (fun h => h.modify 6 fun | .cells _ t frozen => .cells #[.string ⟨#[98]⟩, .string ⟨#[99]⟩, .string ⟨#[100]⟩, .string ⟨#[101]⟩, .string ⟨#[104]⟩, .string ⟨#[108]⟩, .string ⟨#[91, 104, 108, 93]⟩, .string ⟨#[97]⟩] t frozen | o => o) <| (fun h => h.modify 4 fun | .cells _ t frozen => .cells #[.string ⟨#[98, 99]⟩, .string ⟨#[100, 101]⟩, .string ⟨#[104, 108]⟩, .string ⟨#[115, 112]⟩] t frozen | o => o) <| (fun h => h.modify 5 fun | .cells _ t frozen => .cells #[.string ⟨#[98, 99]⟩, .string ⟨#[100, 101]⟩, .string ⟨#[104, 108]⟩, .string ⟨#[97, 102]⟩] t frozen | o => o) <| (fun h => h.modify 3 fun | .cells _ t frozen => .cells #[.string ⟨#[91, 98, 99, 93]⟩, .string ⟨#[91, 100, 101, 93]⟩, .string ⟨#[91, 104, 108, 43, 93]⟩, .string ⟨#[91, 104, 108, 45, 93]⟩] t frozen | o => o) <| (fun h => h.modify 2 fun | .cells _ t frozen => .cells #[.string ⟨#[110, 122]⟩, .string ⟨#[122]⟩, .string ⟨#[110, 99]⟩, .string ⟨#[99]⟩] t frozen | o => o) <| (fun h => h.modify 0 fun | .cells _ t frozen => .cells #[.string ⟨#[97, 100, 100]⟩, .string ⟨#[97, 100, 99]⟩, .string ⟨#[115, 117, 98]⟩, .string ⟨#[115, 98, 99]⟩, .string ⟨#[97, 110, 100]⟩, .string ⟨#[120, 111, 114]⟩, .string ⟨#[111, 114]⟩, .string ⟨#[99, 112]⟩] t frozen | o => o) <| (fun h => h.modify 7 fun | .cells _ t frozen => .cells #[.string ⟨#[114, 108, 99]⟩, .string ⟨#[114, 114, 99]⟩, .string ⟨#[114, 108]⟩, .string ⟨#[114, 114]⟩, .string ⟨#[115, 108, 97]⟩, .string ⟨#[115, 114, 97]⟩, .string ⟨#[115, 119, 97, 112]⟩, .string ⟨#[115, 114, 108]⟩] t frozen | o => o) <| (fun h => h.modify 1 fun | .cells _ t frozen => .cells #[.string ⟨#[]⟩, .string ⟨#[98, 105, 116]⟩, .string ⟨#[114, 101, 115]⟩, .string ⟨#[115, 101, 116]⟩] t frozen | o => o) <| (fun h => h.modify 10 fun | .cells _ t frozen => .cells ((Go.Pinned.utf8FirstZ).map fun n => Value.int .u8 (n : Nat)).toArray t frozen | o => o) <| (World.holding Tryz.prog os ⟨#[], #[], []⟩).heap }
theorem laid_met (os : Os) : laidMet Tryz.prog Rows.fnInsTextsRow.laid ((laidWorld os).forCall (fun _ _ => 0) ⟨#[], #[.slice none 0 0], []⟩).memory :=
  laidMet_of_run' 8 (by kernel_rfl) (by kernel_rfl)
theorem reads (os : Os) {H : Type} (enc : TypeId × Value → H) : ∃ places, DataW.whole enc Tryz.prog ((laidWorld os).forCall (fun _ _ => 0) ⟨#[], #[.slice none 0 0], []⟩).memory Tryz.f3.params.toList Rows.fnInsTextsSpec.vars false [.slice none 0 0] 8 = some ([.nil], [.agg [.lit (.string [97, 100, 100]), .lit (.string [97, 100, 99]), .lit (.string [115, 117, 98]), .lit (.string [115, 98, 99]), .lit (.string [97, 110, 100]), .lit (.string [120, 111, 114]), .lit (.string [111, 114]), .lit (.string [99, 112])], .agg [.lit (.string []), .lit (.string [98, 105, 116]), .lit (.string [114, 101, 115]), .lit (.string [115, 101, 116])], .agg [.lit (.string [110, 122]), .lit (.string [122]), .lit (.string [110, 99]), .lit (.string [99])], .agg [.lit (.string [91, 98, 99, 93]), .lit (.string [91, 100, 101, 93]), .lit (.string [91, 104, 108, 43, 93]), .lit (.string [91, 104, 108, 45, 93])], .agg [.lit (.string [98, 99]), .lit (.string [100, 101]), .lit (.string [104, 108]), .lit (.string [115, 112])], .agg [.lit (.string [98, 99]), .lit (.string [100, 101]), .lit (.string [104, 108]), .lit (.string [97, 102])], .agg [.lit (.string [98]), .lit (.string [99]), .lit (.string [100]), .lit (.string [101]), .lit (.string [104]), .lit (.string [108]), .lit (.string [91, 104, 108, 93]), .lit (.string [97])], .agg [.lit (.string [114, 108, 99]), .lit (.string [114, 114, 99]), .lit (.string [114, 108]), .lit (.string [114, 114]), .lit (.string [115, 108, 97]), .lit (.string [115, 114, 97]), .lit (.string [115, 119, 97, 112]), .lit (.string [115, 114, 108])], .agg [.lit (.int .u8 48), .lit (.int .u8 49), .lit (.int .u8 50), .lit (.int .u8 51), .lit (.int .u8 52), .lit (.int .u8 53), .lit (.int .u8 54), .lit (.int .u8 55), .lit (.int .u8 56), .lit (.int .u8 57), .lit (.int .u8 65), .lit (.int .u8 66), .lit (.int .u8 67), .lit (.int .u8 68), .lit (.int .u8 69), .lit (.int .u8 70)]], places) :=
  ⟨MemPlace.row ⟨0, 0, none⟩ 8 ++ MemPlace.row ⟨1, 0, none⟩ 4 ++ MemPlace.row ⟨2, 0, none⟩ 4 ++ MemPlace.row ⟨3, 0, none⟩ 4 ++ MemPlace.row ⟨4, 0, none⟩ 4 ++ MemPlace.row ⟨5, 0, none⟩ 4 ++ MemPlace.row ⟨6, 0, none⟩ 8 ++ MemPlace.row ⟨7, 0, none⟩ 8 ++ MemPlace.row ⟨8, 0, none⟩ 16, by kernel_rfl⟩

set_option maxRecDepth 100000 in
theorem lifted (os : Os) (started : os.Started) (H : Type) (enc : TypeId × Value → H) (F : Stop.Interp) :
    ReturnsInHanded {} Tryz.checked os 3 .any ((OpenSpec.ofChange Rows.fnInsTextsSpec).preRow enc Tryz.prog Tryz.f3 Rows.fnInsTextsRow.domain false Rows.fnInsTextsRow.laid) (((OpenSpec.ofChange Rows.fnInsTextsSpec).at F).post enc Tryz.prog Tryz.f3 false true false false) := by
  obtain ⟨places, hx⟩ := reads os enc
  refine returnsInHanded_of_row (C := Tryz.checked) (s := OpenSpec.ofChange Rows.fnInsTextsSpec) own started (by kernel_rfl) Tryz.func3
    (witness_row_at (enc := enc) (C := Tryz.checked) false (laidWorld os) #[.slice none 0 0] rfl (by kernel_rfl) (by kernel_rfl) (by kernel_rfl)
      (OpenSpec.preRow_of_cond 8 hx (by kernel_rfl) (fun k hk => by cases hk) (by kernel_rfl) (laid_met os))) ?_
  intro W base args ds gs before hval hW _ _ _ hL hsh _
  exact contract H enc W base args ds gs before hval hW hL hsh

theorem said : Rows.FnInsTextsSaid :=
  OpenClaim.holds_of_cond 3 Tryz.f3 rfl rfl rfl rfl rfl rfl rfl ⟨rfl, rfl, rfl, rfl, rfl⟩ rfl rfl rfl rfl rfl (by kernel_rfl) Tryz.func3 (by kernel_rfl)
    (of_decide_eq_true (by kernel_rfl)) (by unfold Func.isWrapper; first | (rw [if_pos (by decide +kernel)]; kernel_rfl) | (rw [if_neg (by decide +kernel)]; exact ⟨rfl, rfl⟩))
    (fun os started H enc _ F => by rw [OpenClaim.pre_eq_preRow]; exact lifted os started H enc F)

theorem plain (f : FuncId) (fn : Func) (hf : Tryz.pinned.checked.prog.funcNamed "loop.example/g00460/laws.FnInsTexts" = some f) (hfn : Tryz.pinned.checked.prog.funcs[f]? = some fn) :
    false = Tryz.pinned.checked.prog.looks [] ∧ ∀ (j : Nat) t, fn.params[j]? = some t → Tryz.pinned.checked.prog.wantsStandIn t = false := by
  obtain rfl : f = 3 := Option.some.inj ((show Tryz.prog.funcNamed "loop.example/g00460/laws.FnInsTexts" = some 3 by kernel_rfl).symm.trans hf) |>.symm
  obtain rfl : fn = Tryz.f3 := (Option.some.inj (Tryz.func3.symm.trans hfn)).symm
  refine ⟨by kernel_rfl, fun j t ht => ?_⟩
  rw [Tryz.params3] at ht
  have h : t = 22 := by simpa using Array.mem_of_getElem? ht
  subst h
  exact (show Tryz.prog.wantsStandIn 22 = false by kernel_rfl)

theorem card : Rows.FnInsTextsCardSaid :=
  Claim7.holds_tied_plain_at .later [] _ _ _ _ said (fun _ h => by cases h) (by kernel_rfl) (fun _ h => by cases h) fnInsTexts_row_tie rfl ⟨rfl, rfl⟩ (by kernel_rfl) rfl plain (by kernel_rfl)
end Go.Proofs.YtoajaadobieekaaGreatDoor.fnInsTexts
namespace Go.Proofs.YtoajaadobieekaaGreatDoor
theorem fnInsTexts_holds : Rows.FnInsTextsCardSaid := fnInsTexts.card
end Go.Proofs.YtoajaadobieekaaGreatDoor
