/- For every code the law FnPrecedence answers true: sums, differences, quotients and bits of the code's first numbers, told as texts, tell what Go reckons; the code reads afterwards as it read before; the table of digits reads as the program's text lays it -/
import Derived.Test.YtlobkgohenebmaaDoorCards
import Derived.Test.YtlobkgohenebmaaDoorTie
import Derived.WalkKit
import Derived.ProofKit
import Derived.OpenShut
import Derived.ShutString
import Derived.ChangeOld
import Derived.ChangeVars
import Derived.OpenVars
import Derived.Below
import Derived.Deep.DeepHandedRow
import Derived.Lib.LaidTab
import Derived.Test.YtlobkgohenebmaaDoorTels
import Derived.Lib.IndexBytes
namespace Go.Proofs.YtlobkgohenebmaaDoor.fnPrecedence
open Go.ChangeShapes Go.WideShapes Go.ChangeAt Go.RowKit
open Go.ChangeMaps (open_string shut_string)
set_option linter.unusedVariables false

theorem own : ownKnob Tryd.prog.godebug = none := by kernel_rfl
theorem laidOut : laidOutB Tryd.prog = true := by kernel_rfl
theorem gTab : Tryd.prog.globalNamed "loop.example/g00460/impl.hexDigits" = some 0 := by kernel_rfl
theorem gTabType : (Tryd.prog.globals[0]?).map (·.type) = some 108 := by kernel_rfl
theorem cellsTab : Tryd.prog.cellsOf 108 = 16 := by kernel_rfl
theorem cells5 : Tryd.prog.cellsOf 5 = 1 := by kernel_rfl
theorem rowed : varsRowed Tryd.prog Rows.fnPrecedenceSpec.vars = true := by kernel_rfl

/-- What the walk is told of a slice of bytes that came in: it is nil; or it leads to a row of cells, the numbers zs, each fitting its kind. -/
def IsRow (k : IntKind) (w : World) (a : Option Addr) (len cap : Nat) (zs : List Int) : Prop :=
  (a = none ∧ len = 0 ∧ cap = 0 ∧ zs = []) ∨
  ∃ x, a = some x ∧ len ≤ cap ∧ cap ≤ maxLen ∧ zs.length = cap ∧ (∀ i, i < zs.length → w.cell? (x.add i) = some (.int k (zs.getD i 0))) ∧ ∀ n ∈ zs, (Lit.int k n).wf = true

/-- What the row's list gives: the table's cells hold the sixteen digits. -/
theorem table {W : World} (h : laidMetH Tryd.prog Rows.fnPrecedenceRow.laid W) : Nums.Tab W := fun i hi =>
  (Lib.tabIs_of_head (k := .u8) (zs := Nums.tab) (rest := []) gTab gTabType Tryd.underlying108 Tryd.underlying5 cells5 cellsTab h).cell gTab i hi
set_option maxRecDepth 20000
open Prec Prsp Prsl Tels
open Cmxd (outC compV)
open Evai (evV)
theorem toRow {k : IntKind} {w : World} {a : Option Addr} {len cap : Nat} {zs : List Int} (h : IsRow k w a len cap zs) : Rdr.IsRow k w a len cap zs := h
theorem tab_below {w w' : World} (h : Nums.Tab w) (hb : Below w.heap.size w w') : Nums.Tab w' := fun i hi =>
  (hb.cell (p := ⟨0, i, none⟩) (World.block_lt_of_cell? w ⟨0, 0, none⟩ (h 0 (by decide)))).trans (h i hi)
/-- The row's bytes, from an offset on. -/
structure Bytes (W : World) (b off len : Nat) (c : Nat → Int) : Prop where
  lt : b < W.heap.size
  cell : ∀ i, i < len → 0 ≤ c i ∧ c i ≤ 255 ∧ W.cell? ⟨b, off + i, none⟩ = some (.int .u8 (c i))
theorem bytes_of {w : World} {a : Option Addr} {len cap : Nat} {zs : List Int} (h : Rdr.IsRow .u8 w a len cap zs) (hl : 0 < len) : ∃ (b off : Nat) (c : Nat → Int), a = some ⟨b, off, none⟩ ∧ Bytes w b off len c := by
  rcases h with ⟨_, rfl, _⟩ | ⟨⟨b, off, spot⟩, rfl, h1, h2, h3, hc, hw⟩
  · exact absurd hl (Nat.lt_irrefl _)
  · have c0 := hc 0 (by omega)
    have hspot : spot = none := by simpa [Addr.add] using World.cell?_spot c0
    subst hspot
    have e : ∀ i, (⟨b, off, none⟩ : Addr).add i = ⟨b, off + i, none⟩ := fun i => by unfold Addr.add; split <;> simp_all
    have hb : b < w.heap.size := World.block_lt_of_cell? w ⟨b, off, none⟩ (by simpa [Addr.add] using c0)
    refine ⟨b, off, fun i => zs.getD i 0, rfl, hb, fun i hi => ?_⟩
    have hi' : i < zs.length := by omega
    have := bounds_u8 (hw (zs.getD i 0) (by rw [List.getD_eq_getElem?_getD, List.getElem?_eq_getElem hi']; exact List.getElem_mem hi'))
    refine ⟨this.1, this.2, ?_⟩
    rw [← e i]
    exact hc i hi'
set_option maxHeartbeats 1000000 in
/-- What a text that is right tells. -/
theorem told_any (s : ByteArray) (L : List Stepx.Node) (v : Int) (w : World) (hT : Nums.Tab w) (hs : s.size ≤ 200) (hc : comp 31 s.data.toList = some L) (hv : evV L [] = (v, 0)) :
    Calls Tryd.prog 6 #[.string s] w fun e w' => e = .returned (.tuple #[.int .i64 v, .bool true]) ∧ Below w.heap.size w w' := by
  have cc := Ximh.compiled_any s w hT (by omega)
  have e : compV 31 s = some L := by unfold compV; rw [if_neg (by omega)]; exact hc
  rw [e] at cc
  clear e hc hT
  go_enter Tryd.func6, Tryd.ntmps6
  go_wp2_with fail
  refine cc.mono ?_
  rintro e w1 ⟨⟨a, cap, rfl, ho, hl, hx, hz⟩, hb⟩
  have B1 : Hid (Below w.heap.size w w1) := hb
  have ce := Evai.implEval_any a cap L none 0 [] w1 (Nodm.nodes_own ho (fun x hx => Nat.le_trans (hz x hx) (by decide))) (by omega) (.inl rfl) (by decide)
  rw [hv] at ce
  clear ho hl hx hz hb hv cc
  generalize L.length = len at *
  go_wp2_with fail
  refine ce.mono ?_
  rintro e w2 ⟨rfl, b2⟩
  have B2 : Hid (Below w.heap.size w w2) := B1.out.trans (b2.mono B1.out.size)
  clear b2 ce
  go_wp2
  go_ret2
  exact ⟨rfl, B2.out⟩
theorem size_bs (l : List UInt8) : (bs l).size = l.length := rfl
abbrev DecC (A : Int) (t : ByteArray) : Prop := ∀ w : World, Calls Tryd.prog 7 #[.int .i64 A] w fun e w' => e = .returned (.string t) ∧ Below w.heap.size w w'
abbrev ToldC (t : ByteArray) (v : Int) : Prop := ∀ w : World, Nums.Tab w → Calls Tryd.prog 6 #[.string t] w fun e w' => e = .returned (.tuple #[.int .i64 v, .bool true]) ∧ Below w.heap.size w w'
theorem facts (A B C : Int) (a0 : 0 ≤ A) (a1 : A ≤ 255) (b0 : 0 ≤ B) (b1 : B ≤ 255) (c0 : 1 ≤ C) (c1 : C ≤ 256) : ∃ tA tB tC : ByteArray, DecC A tA ∧ DecC B tB ∧ DecC C tC ∧ tA.size ≤ 3 ∧ tB.size ≤ 3 ∧ tC.size ≤ 3 ∧
    ToldC (tA ++ ⟨#[43]⟩ ++ tB ++ ⟨#[42]⟩ ++ tC) (A + B * C) ∧ ToldC (tA ++ ⟨#[45]⟩ ++ tB ++ ⟨#[45]⟩ ++ tC) (A - B - C) ∧
    ToldC ((⟨#[40]⟩ : ByteArray) ++ tA ++ ⟨#[43]⟩ ++ tB ++ ⟨#[41, 47]⟩ ++ tC) ((A + B).tdiv C) ∧ ToldC (tA ++ ⟨#[124]⟩ ++ tB ++ ⟨#[38]⟩ ++ tC) (bits .or .i64 A (bits .and .i64 B C)) := by
  obtain ⟨a, rfl⟩ : ∃ a : Nat, A = (a : Int) := ⟨A.toNat, by omega⟩
  obtain ⟨b, rfl⟩ : ∃ a : Nat, B = (a : Int) := ⟨B.toNat, by omega⟩
  obtain ⟨c, rfl⟩ : ∃ a : Nat, C = (a : Int) := ⟨C.toNat, by omega⟩
  have ha : a ≤ 256 := by omega
  have hb : b ≤ 256 := by omega
  have hc : c ≤ 256 := by omega
  have la := (dig a ha).len
  have lb := (dig b hb).len
  have lc := (dig c hc).len
  refine ⟨bs (D a), bs (D b), bs (D c), decD_any a ha, decD_any b hb, decD_any c hc, la, lb, lc, fun w hT => told_any _ _ _ w hT ?_ ?_ (ev_one ha hb hc), fun w hT => told_any _ _ _ w hT ?_ ?_ (ev_two ha hb hc), fun w hT => told_any _ _ _ w hT ?_ ?_ (ev_three ha hb hc (by omega)), fun w hT => ?_⟩
  · simp only [ByteArray.size_append, size_bs]; show (D a).length + 1 + (D b).length + 1 + (D c).length ≤ 200; omega
  · rw [← Prec.one 28 a b c ha hb hc]; congr 1; simp [bs, ByteArray.data_append]
  · simp only [ByteArray.size_append, size_bs]; show (D a).length + 1 + (D b).length + 1 + (D c).length ≤ 200; omega
  · rw [← Prec.two 28 a b c ha hb hc]; congr 1; simp [bs, ByteArray.data_append]
  · simp only [ByteArray.size_append, size_bs]; show 1 + (D a).length + 1 + (D b).length + 2 + (D c).length ≤ 200; omega
  · rw [← Prec.three 27 a b c ha hb hc]; congr 1; simp [bs, ByteArray.data_append]
  · have := told_any (bs (D a) ++ ⟨#[124]⟩ ++ bs (D b) ++ ⟨#[38]⟩ ++ bs (D c)) _ _ w hT (by simp only [ByteArray.size_append, size_bs]; show (D a).length + 1 + (D b).length + 1 + (D c).length ≤ 200; omega) (by rw [← Prec.four 28 a b c ha hb hc]; congr 1; simp [bs, ByteArray.data_append]) (ev_four ha hb hc)
    rw [and_or (by omega) (by omega) (by omega)] at this
    exact this
theorem seven (w : World) : Calls Tryd.prog 8 #[.string ⟨#[49, 43, 50, 42, 51]⟩] w fun e w' => (∃ a cap, e = .returned (.tuple #[.slice a 5 cap, .bool true]) ∧ ∀ W : World, Below w'.heap.size w' W → Calls Tryd.prog 9 #[.slice a 5 cap, .slice none 0 0] W fun e w'' => (∃ z, e = .returned (.tuple #[.int .i64 7, .int .i64 z])) ∧ Below W.heap.size W w'') ∧ Below w.heap.size w w' := by
  have h := Cmxd.compiled_any ⟨#[49, 43, 50, 42, 51]⟩ w (by decide)
  have e : compV 30 ⟨#[49, 43, 50, 42, 51]⟩ = some [nm 1, nm 2, nm 3, op 10, op 8] := by
    unfold compV
    rw [if_neg (by decide)]
    exact Prec.one 27 1 2 3 (by decide) (by decide) (by decide)
  rw [e] at h
  refine h.mono ?_
  rintro e w' ⟨⟨a, cap, rfl, ho, hl, hx, hz⟩, hb⟩
  refine ⟨⟨a, cap, rfl, fun W hW => ?_⟩, hb⟩
  have hN := Nodm.nodes_own (Nodm.own_below ho hW) (fun x hx => Nat.le_trans (hz x hx) (by decide))
  refine (Evat.specEval_any a cap [nm 1, nm 2, nm 3, op 10, op 8] none 0 [] W hN (by decide) (.inl rfl) (by decide)).mono ?_
  rintro e w'' ⟨rfl, b2⟩
  rw [ev_one (a := 1) (b := 2) (c := 3) (by decide) (by decide) (by decide)]
  exact ⟨⟨_, rfl⟩, b2⟩

set_option maxHeartbeats 2000000 in
theorem walk (w : World) (a0 : Option Addr) (len0 cap0 : Nat) (z0 : List Int) (w0 : IsRow .u8 w a0 len0 cap0 z0) (hT : Nums.Tab w) :
    Calls Tryd.prog 3 #[.slice a0 len0 cap0] w fun e w' => e = .returned (.bool true) ∧ Below w.heap.size w w' := by
  have H : Hid (Rdr.IsRow .u8 w a0 len0 cap0 z0) := toRow w0
  have HM : Hid (Nums.Tab w) := hT
  clear w0 hT
  have cb := Rdr.big_any a0 len0 cap0 w H.out.len
  by_cases hbig : Rdr.bigB len0 = true
  · rw [hbig] at cb
    go_enter Tryd.func3, Tryd.ntmps3
    go_wp2_with (go_at_call 5; refine cb.mono ?_; rintro e wx ⟨rfl, hwx⟩; rw [hwx]; clear hwx wx)
    go_ret
    exact ⟨rfl, Below.refl _ _⟩
  have hbig : Rdr.bigB len0 = false := by simpa using hbig
  rw [hbig] at cb
  by_cases hl : len0 < 3
  · have dl : decide (len0 < 3) = true := decide_eq_true hl
    have dl2 : decide ((len0 : Int) < 3) = true := decide_eq_true (by omega)
    go_enter Tryd.func3, Tryd.ntmps3
    go_wp2_with (go_at_call 5; refine cb.mono ?_; rintro e wx ⟨rfl, hwx⟩; rw [hwx]; clear hwx wx)
    go_ret
    exact ⟨rfl, Below.refl _ _⟩
  have dl : decide (len0 < 3) = false := decide_eq_false hl
  have dl2 : decide ((len0 : Int) < 3) = false := decide_eq_false (by omega)
  obtain ⟨b, off, c, rfl, hby⟩ := bytes_of H.out (by omega)
  obtain ⟨x00, x01, xc0⟩ := hby.cell 0 (by omega)
  obtain ⟨x10, x11, xc1⟩ := hby.cell 1 (by omega)
  obtain ⟨x20, x21, xc2⟩ := hby.cell 2 (by omega)
  generalize c 0 = A at x00 x01 xc0
  generalize c 1 = B at x10 x11 xc1
  generalize c 2 = C' at x20 x21 xc2
  rw [Nat.add_zero] at xc0
  clear hby H
  have i0 : (0 : Int) < (len0 : Int) := by omega
  have i1 : (1 : Int) < (len0 : Int) := by omega
  have i2 : (2 : Int) < (len0 : Int) := by omega
  obtain ⟨C, hC⟩ : ∃ C, C = C' + 1 := ⟨_, rfl⟩
  have wC : IntKind.i64.wrap (C' + 1) = C := by rw [IntKind.wrap_i64]; omega
  have wC2 : wrap64 (C' + 1) = C := by unfold wrap64; omega
  obtain ⟨tA, tB, tC, dA, dB, dC, sA, sB, sC, t1, t2, t3, t4⟩ := facts A B C x00 x01 x10 x11 (by omega) (by omega)
  have hm : 0 ≤ B * C ∧ B * C ≤ 65536 := by
    have := Tels.mul_in (b := B.toNat) (c := C.toNat) (by omega) (by omega)
    rwa [show ((B.toNat : Nat) : Int) = B by omega, show ((C.toNat : Nat) : Int) = C by omega] at this
  have hd := Tels.div_in (x := A + B) (c := C) (by omega) (by omega) (by omega)
  have w1' : IntKind.i64.wrap (B * C) = B * C := by rw [IntKind.wrap_i64]; omega
  have w2' : IntKind.i64.wrap (A + B * C) = A + B * C := by rw [IntKind.wrap_i64]; omega
  have w3' : IntKind.i64.wrap (A - B) = A - B := by rw [IntKind.wrap_i64]; omega
  have w4' : IntKind.i64.wrap (A - B - C) = A - B - C := by rw [IntKind.wrap_i64]; omega
  have w5' : IntKind.i64.wrap (A + B) = A + B := by rw [IntKind.wrap_i64]; omega
  have w6' : IntKind.i64.wrap ((A + B).tdiv C) = (A + B).tdiv C := by rw [IntKind.wrap_i64]; omega
  have w7' : wrap64 (B * C) = B * C := by unfold wrap64; omega
  have w8' : wrap64 ((A + B).tdiv C) = (A + B).tdiv C := by unfold wrap64; omega
  have hc0 : ¬ C = 0 := by omega
  have hca : 1 ≤ C ∧ C ≤ 256 := by omega
  clear hC hd hm
  go_enter Tryd.func3, Tryd.ntmps3
  go_upto_region 6 with (go_at_call 5; refine cb.mono ?_; rintro e wx ⟨rfl, hwx⟩; rw [hwx]; clear hwx wx)
  clear cb hbig dl dl2 xc0 xc1 xc2 i0 i1 i2
  have V0 : Hid (Below w.heap.size w w) := Below.refl _ _
  go_wp2_with fail
  refine (dA _).mono ?_
  rintro e u1 ⟨rfl, b1⟩
  have V1 : Hid (Below w.heap.size w u1) := V0.out.trans (b1.mono V0.out.size)
  clear b1
  go_wp2_with fail
  refine (dB _).mono ?_
  rintro e u2 ⟨rfl, b2⟩
  have V2 : Hid (Below w.heap.size w u2) := V1.out.trans (b2.mono V1.out.size)
  clear b2
  go_wp2_with fail
  refine (dC _).mono ?_
  rintro e u3 ⟨rfl, b3⟩
  have V3 : Hid (Below w.heap.size w u3) := V2.out.trans (b3.mono V2.out.size)
  clear b3
  go_wp2_with fail
  refine (t1 _ (tab_below HM.out V3.out)).mono ?_
  rintro e u4 ⟨rfl, b4⟩
  have V4 : Hid (Below w.heap.size w u4) := V3.out.trans (b4.mono V3.out.size)
  clear b4
  go_wp2_with fail
  refine (dA _).mono ?_
  rintro e u5 ⟨rfl, b5⟩
  have V5 : Hid (Below w.heap.size w u5) := V4.out.trans (b5.mono V4.out.size)
  clear b5
  go_wp2_with fail
  refine (dB _).mono ?_
  rintro e u6 ⟨rfl, b6⟩
  have V6 : Hid (Below w.heap.size w u6) := V5.out.trans (b6.mono V5.out.size)
  clear b6
  go_wp2_with fail
  refine (dC _).mono ?_
  rintro e u7 ⟨rfl, b7⟩
  have V7 : Hid (Below w.heap.size w u7) := V6.out.trans (b7.mono V6.out.size)
  clear b7
  go_wp2_with fail
  refine (t2 _ (tab_below HM.out V7.out)).mono ?_
  rintro e u8 ⟨rfl, b8⟩
  have V8 : Hid (Below w.heap.size w u8) := V7.out.trans (b8.mono V7.out.size)
  clear b8
  go_wp2_with fail
  refine (dA _).mono ?_
  rintro e u9 ⟨rfl, b9⟩
  have V9 : Hid (Below w.heap.size w u9) := V8.out.trans (b9.mono V8.out.size)
  clear b9
  go_wp2_with fail
  refine (dB _).mono ?_
  rintro e u10 ⟨rfl, b10⟩
  have V10 : Hid (Below w.heap.size w u10) := V9.out.trans (b10.mono V9.out.size)
  clear b10
  go_wp2_with fail
  refine (dC _).mono ?_
  rintro e u11 ⟨rfl, b11⟩
  have V11 : Hid (Below w.heap.size w u11) := V10.out.trans (b11.mono V10.out.size)
  clear b11
  go_wp2_with fail
  refine (t3 _ (tab_below HM.out V11.out)).mono ?_
  rintro e u12 ⟨rfl, b12⟩
  have V12 : Hid (Below w.heap.size w u12) := V11.out.trans (b12.mono V11.out.size)
  clear b12
  go_wp2_with fail
  refine (dA _).mono ?_
  rintro e u13 ⟨rfl, b13⟩
  have V13 : Hid (Below w.heap.size w u13) := V12.out.trans (b13.mono V12.out.size)
  clear b13
  go_wp2_with fail
  refine (dB _).mono ?_
  rintro e u14 ⟨rfl, b14⟩
  have V14 : Hid (Below w.heap.size w u14) := V13.out.trans (b14.mono V13.out.size)
  clear b14
  go_wp2_with fail
  refine (dC _).mono ?_
  rintro e u15 ⟨rfl, b15⟩
  have V15 : Hid (Below w.heap.size w u15) := V14.out.trans (b15.mono V14.out.size)
  clear b15
  go_wp2_with fail
  refine (t4 _ (tab_below HM.out V15.out)).mono ?_
  rintro e u16 ⟨rfl, b16⟩
  have V16 : Hid (Below w.heap.size w u16) := V15.out.trans (b16.mono V15.out.size)
  clear b16
  clear dA dB dC t1 t2 t3 t4
  go_wp2_with fail
  refine (seven _).mono ?_
  rintro e v1 ⟨⟨a5, cap5, rfl, ce⟩, bb⟩
  have VV : Hid (Below w.heap.size w v1) := V16.out.trans (bb.mono V16.out.size)
  clear bb
  go_wp2_with fail
  refine (ce _ (Below.refl _ _)).mono ?_
  rintro e v2 ⟨⟨z5, rfl⟩, bb⟩
  have VW : Hid (Below w.heap.size w v2) := VV.out.trans (bb.mono VV.out.size)
  clear bb ce
  go_wp2
  go_ret
  exact ⟨rfl, VW.out⟩

set_option maxRecDepth 100000 in
theorem contract (H : Type) (enc : TypeId × Value → H) (W : World) (base : Nat) (args : Array Value) (ds gs : List (DataW H)) (before : List MemPlace)
    (hval : ∀ (j : Nat) t v, Tryd.f3.params[j]? = some t → args[j]? = some v → Value.okWide Tryd.prog W .any base t v)
    (hW : DataW.Whole enc Tryd.prog Tryd.f3.params.toList Rows.fnPrecedenceSpec.vars false W args.toList ds gs before) (hL : laidMetH Tryd.prog Rows.fnPrecedenceRow.laid W) :
    Calls Tryd.prog 3 args W fun e W' => ∃ v, e = .returned v ∧ Rows.fnPrecedenceSpec.post enc Tryd.prog Tryd.f3 false true false false W args v W' := by
  have hW' := hW
  obtain ⟨p, q, hA0, hV, hbef, hfz, hnd⟩ := hW
  have hA : DataW.TrodAll enc Tryd.prog W 0 (fun _ => true) true Tryd.f3.params.toList args.toList ds p := hA0
  have hVk : DataW.TrodVars enc Tryd.prog W (fun _ => true) Rows.fnPrecedenceSpec.vars gs q := hV
  rw [Tryd.params3] at hA hval
  obtain ⟨v0, vs0, d0, ds0, p0, q0, hargs, rfl, rfl, h0, r0⟩ := trodAll_cons hA
  obtain ⟨rfl, rfl, rfl⟩ := trodAll_nil r0
  obtain rfl : args = #[v0] := by cases args; simp_all
  obtain ⟨g, t, cs, fuel, d, p', rfl, hg, ht, hvar, hd, hq⟩ := trodVars_one hV
  obtain ⟨a0, len0, cap0, rfl⟩ := okWide_slice Tryd.underlying22 (hval 0 22 v0 rfl rfl)
  have k0 := h0
  have lt0 : ∀ x ∈ p0, x.block < W.heap.size := by obtain ⟨m, hm⟩ := k0; exact DataW.trod_lt m _ _ _ hm
  obtain ⟨z0, w0⟩ : ∃ zs, IsRow .u8 W a0 len0 cap0 zs := by
    obtain ⟨fuel, hf⟩ := h0
    rcases open_ints Tryd.underlying22 Tryd.underlying5 (by kernel_rfl) hf with ⟨hcs, _⟩ | ⟨x, l, c, zs, hcs, _, hl, hm, hz, _, hcell, hwz⟩
    · simp [Value.cells] at hcs
      obtain ⟨rfl, rfl, rfl⟩ := hcs
      exact ⟨[], .inl ⟨rfl, rfl, rfl, rfl⟩⟩
    · simp [Value.cells] at hcs
      obtain ⟨rfl, rfl, rfl⟩ := hcs
      exact ⟨zs, .inr ⟨_, rfl, hl, hm, by simpa using hz, hcell, hwz⟩⟩
  clear hA0
  refine (walk W a0 len0 cap0 z0 w0 (table hL)).mono fun e W' ⟨he, bel⟩ => ?_
  subst he
  exact ⟨_, rfl, _, _, _, [], _, q, hW', trodAll_mk1 (shut_bool Tryd.underlying4 _), (trodAll_cons_mk (Below.trod laidOut (by kernel_rfl) (of_decide_eq_true (by kernel_rfl)) k0 bel lt0) trodAll_mk0), Below.trodVars laidOut bel rowed hVk, bel.frame _, fun h => by cases h⟩

/-- A world for the witness: the settled one, the table holding what its initialiser lays. -/
noncomputable def laidWorld (os : Os) : World :=
  { World.holding Tryd.prog os ⟨#[], #[], []⟩ with heap := (World.holding Tryd.prog os ⟨#[], #[], []⟩).heap.modify 0 fun
      | .cells _ t frozen => .cells #[.int .u8 48, .int .u8 49, .int .u8 50, .int .u8 51, .int .u8 52, .int .u8 53, .int .u8 54, .int .u8 55, .int .u8 56, .int .u8 57, .int .u8 65, .int .u8 66, .int .u8 67, .int .u8 68, .int .u8 69, .int .u8 70] t frozen
      | o => o }
theorem laid_met (os : Os) : laidMet Tryd.prog Rows.fnPrecedenceRow.laid ((laidWorld os).forCall (fun _ _ => 0) ⟨#[], #[.slice none 0 0], []⟩).memory :=
  laidMet_of_run' 8 (by kernel_rfl) (by kernel_rfl)
theorem reads (os : Os) {H : Type} (enc : TypeId × Value → H) : ∃ places, DataW.whole enc Tryd.prog ((laidWorld os).forCall (fun _ _ => 0) ⟨#[], #[.slice none 0 0], []⟩).memory Tryd.f3.params.toList Rows.fnPrecedenceSpec.vars false [.slice none 0 0] 8 = some ([.nil], [.agg [.lit (.int .u8 48), .lit (.int .u8 49), .lit (.int .u8 50), .lit (.int .u8 51), .lit (.int .u8 52), .lit (.int .u8 53), .lit (.int .u8 54), .lit (.int .u8 55), .lit (.int .u8 56), .lit (.int .u8 57), .lit (.int .u8 65), .lit (.int .u8 66), .lit (.int .u8 67), .lit (.int .u8 68), .lit (.int .u8 69), .lit (.int .u8 70)]], places) :=
  ⟨MemPlace.row ⟨0, 0, none⟩ 16, by kernel_rfl⟩

set_option maxRecDepth 100000 in
theorem lifted (os : Os) (started : os.Started) (H : Type) (enc : TypeId × Value → H) (F : Stop.Interp) :
    ReturnsInHanded {} Tryd.checked os 3 .any ((OpenSpec.ofChange Rows.fnPrecedenceSpec).preRow enc Tryd.prog Tryd.f3 Rows.fnPrecedenceRow.domain false Rows.fnPrecedenceRow.laid) (((OpenSpec.ofChange Rows.fnPrecedenceSpec).at F).post enc Tryd.prog Tryd.f3 false true false false) := by
  obtain ⟨places, hx⟩ := reads os enc
  refine returnsInHanded_of_row (C := Tryd.checked) (s := OpenSpec.ofChange Rows.fnPrecedenceSpec) own started (by kernel_rfl) Tryd.func3
    (witness_row_at (enc := enc) (C := Tryd.checked) false (laidWorld os) #[.slice none 0 0] rfl (by kernel_rfl) (by kernel_rfl) (by kernel_rfl)
      (OpenSpec.preRow_of_cond 8 hx (by kernel_rfl) (fun k hk => by cases hk) (by kernel_rfl) (laid_met os))) ?_
  intro W base args ds gs before hval hW _ _ _ hL _ _
  exact contract H enc W base args ds gs before hval hW hL

theorem said : Rows.FnPrecedenceSaid :=
  OpenClaim.holds_of_cond 3 Tryd.f3 rfl rfl rfl rfl rfl rfl rfl ⟨rfl, rfl, rfl, rfl, rfl⟩ rfl rfl rfl rfl rfl (by kernel_rfl) Tryd.func3 (by kernel_rfl)
    (of_decide_eq_true (by kernel_rfl)) (by unfold Func.isWrapper; first | (rw [if_pos (by decide +kernel)]; kernel_rfl) | (rw [if_neg (by decide +kernel)]; exact ⟨rfl, rfl⟩))
    (fun os started H enc _ F => by rw [OpenClaim.pre_eq_preRow]; exact lifted os started H enc F)

theorem plain (f : FuncId) (fn : Func) (hf : Tryd.pinned.checked.prog.funcNamed "loop.example/g00460/laws.FnPrecedence" = some f) (hfn : Tryd.pinned.checked.prog.funcs[f]? = some fn) :
    true = Tryd.pinned.checked.prog.looks [] ∧ ∀ (j : Nat) t, fn.params[j]? = some t → Tryd.pinned.checked.prog.wantsStandIn t = false := by
  obtain rfl : f = 3 := Option.some.inj ((show Tryd.prog.funcNamed "loop.example/g00460/laws.FnPrecedence" = some 3 by kernel_rfl).symm.trans hf) |>.symm
  obtain rfl : fn = Tryd.f3 := (Option.some.inj (Tryd.func3.symm.trans hfn)).symm
  refine ⟨by kernel_rfl, fun j t ht => ?_⟩
  rw [Tryd.params3] at ht
  have h : t = 22 := by simpa using Array.mem_of_getElem? ht
  subst h
  exact (show Tryd.prog.wantsStandIn 22 = false by kernel_rfl)

theorem card : Rows.FnPrecedenceCardSaid :=
  Claim7.holds_tied_plain_at .later [] _ _ _ _ said (fun _ h => by cases h) (by kernel_rfl) (fun _ h => by cases h) fnPrecedence_row_tie rfl ⟨rfl, rfl⟩ (by kernel_rfl) rfl plain (by kernel_rfl)
end Go.Proofs.YtlobkgohenebmaaDoor.fnPrecedence
namespace Go.Proofs.YtlobkgohenebmaaDoor
theorem fnPrecedence_holds : Rows.FnPrecedenceCardSaid := fnPrecedence.card
end Go.Proofs.YtlobkgohenebmaaDoor
