/- For every slice of bytes the law FnCompiled answers true, that is, of a text drawn from them program and specification compile alike, what is compiled is a right expression, in brackets it is the same, and with a sign ahead of the brackets it is turned; the slice reads afterwards as it read before; the table of digits reads as the program's text lays it -/
import Derived.Test.YtlobkgohenebmaaDoorCards
import Derived.Test.YtlobkgohenebmaaDoorTie
import Derived.WalkKit
import Derived.ProofKit
import Derived.OpenShut
import Derived.ShutString
import Derived.ChangeOld
import Derived.ChangeVars
import Derived.OpenVars
import Derived.Below
import Derived.Deep.DeepHandedRow
import Derived.Lib.LaidTab
import Derived.Test.YtlobkgohenebmaaDoorXimh
import Derived.Test.YtlobkgohenebmaaDoorHurs
import Derived.Test.YtlobkgohenebmaaDoorSexp
namespace Go.Proofs.YtlobkgohenebmaaDoor.fnCompiled
open Go.ChangeShapes Go.WideShapes Go.ChangeAt Go.RowKit
open Go.ChangeMaps (open_string shut_string)
set_option linter.unusedVariables false

theorem own : ownKnob Tryd.prog.godebug = none := by kernel_rfl
theorem laidOut : laidOutB Tryd.prog = true := by kernel_rfl
theorem gTab : Tryd.prog.globalNamed "loop.example/g00460/impl.hexDigits" = some 0 := by kernel_rfl
theorem gTabType : (Tryd.prog.globals[0]?).map (·.type) = some 108 := by kernel_rfl
theorem cellsTab : Tryd.prog.cellsOf 108 = 16 := by kernel_rfl
theorem cells5 : Tryd.prog.cellsOf 5 = 1 := by kernel_rfl
theorem rowed : varsRowed Tryd.prog Rows.fnCompiledSpec.vars = true := by kernel_rfl

/-- What the walk is told of a slice of bytes that came in: it is nil; or it leads to a row of cells, the numbers zs, each fitting its kind. -/
def IsRow (k : IntKind) (w : World) (a : Option Addr) (len cap : Nat) (zs : List Int) : Prop :=
  (a = none ∧ len = 0 ∧ cap = 0 ∧ zs = []) ∨
  ∃ x, a = some x ∧ len ≤ cap ∧ cap ≤ maxLen ∧ zs.length = cap ∧ (∀ i, i < zs.length → w.cell? (x.add i) = some (.int k (zs.getD i 0))) ∧ ∀ n ∈ zs, (Lit.int k n).wf = true

/-- What the row's list gives: the table's cells hold the sixteen digits. -/
theorem table {W : World} (h : laidMetH Tryd.prog Rows.fnCompiledRow.laid W) : Nums.Tab W := fun i hi =>
  (Lib.tabIs_of_head (k := .u8) (zs := Nums.tab) (rest := []) gTab gTabType Tryd.underlying108 Tryd.underlying5 cells5 cellsTab h).cell gTab i hi
set_option maxRecDepth 20000
open Prsp Prsl Prsm
open Cmxd (outC compV)
open Nodm (cellsOf cells_snoc Own)
open Stepx (Nodes exprB)
theorem toRow {k : IntKind} {w : World} {a : Option Addr} {len cap : Nat} {zs : List Int} (h : IsRow k w a len cap zs) : Rdr.IsRow k w a len cap zs := h
theorem tab_below {w w' : World} (h : Nums.Tab w) (hb : Below w.heap.size w w') : Nums.Tab w' := fun i hi =>
  (hb.cell (p := ⟨0, i, none⟩) (World.block_lt_of_cell? w ⟨0, 0, none⟩ (h 0 (by decide)))).trans (h i hi)
theorem nodes_of {w w' : World} {b cap : Nat} {a : Option Addr} {L : List Stepx.Node} (h : Own w b (.slice a L.length cap) L) (hz : ∀ x ∈ L, x.2.2.size ≤ 16) (hb : Below w.heap.size w w') : Nodes w' a L :=
  Nodm.nodes_own (Nodm.own_below h hb) (fun x hx => Nat.le_trans (hz x hx) (by decide))
theorem comp_same {t : ByteArray} (h : Cmps.sz t < 30) : compV 31 t = compV 30 t := by
  unfold compV
  rw [comp_more (k := 30) (show sp t.data.toList < 30 from h)]
theorem br_any {t : ByteArray} {L : List Stepx.Node} (hs : t.size ≤ 100) (h : compV 31 t = some L) : compV 31 ((⟨#[40]⟩ : ByteArray) ++ t ++ ⟨#[41]⟩) = none ∨ compV 31 ((⟨#[40]⟩ : ByteArray) ++ t ++ ⟨#[41]⟩) = some L := by
  unfold compV at h
  rw [if_neg (by omega)] at h
  unfold compV
  rw [if_neg (by rw [ByteArray.size_append, ByteArray.size_append]; show ¬ 200 < 1 + t.size + 1; omega)]
  have e : ((⟨#[40]⟩ : ByteArray) ++ t ++ ⟨#[41]⟩).data.toList = 40 :: (t.data.toList ++ [41]) := by simp [ByteArray.data_append]
  rw [e]
  exact comp_br h
theorem neg_any {t : ByteArray} {L : List Stepx.Node} (hs : t.size ≤ 100) (h : compV 31 t = some L) : compV 31 ((⟨#[45, 40]⟩ : ByteArray) ++ t ++ ⟨#[41]⟩) = none ∨ compV 31 ((⟨#[45, 40]⟩ : ByteArray) ++ t ++ ⟨#[41]⟩) = some (L ++ [(4, 0, E0)]) := by
  unfold compV at h
  rw [if_neg (by omega)] at h
  unfold compV
  rw [if_neg (by rw [ByteArray.size_append, ByteArray.size_append]; show ¬ 200 < 2 + t.size + 1; omega)]
  have e : ((⟨#[45, 40]⟩ : ByteArray) ++ t ++ ⟨#[41]⟩).data.toList = 45 :: 40 :: (t.data.toList ++ [41]) := by simp [ByteArray.data_append]
  rw [e]
  exact comp_neg h

set_option maxHeartbeats 2000000 in
theorem walk (w : World) (a0 : Option Addr) (len0 cap0 : Nat) (z0 : List Int) (w0 : IsRow .u8 w a0 len0 cap0 z0) (hT : Nums.Tab w) :
    Calls Tryd.prog 4 #[.slice a0 len0 cap0] w fun e w' => e = .returned (.bool true) ∧ Below w.heap.size w w' := by
  have H : Hid (Rdr.IsRow .u8 w a0 len0 cap0 z0) := toRow w0
  have HM : Hid (Nums.Tab w) := hT
  clear w0 hT
  have cb := Rdr.big_any a0 len0 cap0 w H.out.len
  by_cases hbig : Rdr.bigB len0 = true
  · rw [hbig] at cb
    go_enter Tryd.func4, Tryd.ntmps4
    go_wp2_with (go_at_call 5; refine cb.mono ?_; rintro e wx ⟨rfl, hwx⟩; rw [hwx]; clear hwx wx)
    go_ret
    exact ⟨rfl, Below.refl _ _⟩
  have hbig : Rdr.bigB len0 = false := by simpa using hbig
  rw [hbig] at cb
  go_enter Tryd.func4, Tryd.ntmps4
  go_wp2_with fail
  refine cb.mono ?_
  rintro e wx ⟨rfl, hwx⟩
  rw [hwx]
  clear hwx wx cb hbig
  go_wp2_with fail
  refine (Hurs.drawCompiled_any _ _ _ _ _ H.out).mono ?_
  rintro e w1 ⟨⟨t, ⟨hts, htz⟩, rfl⟩, hb⟩
  have V1 : Hid (Below w.heap.size w w1) := hb
  clear hb H
  obtain ⟨X, hX⟩ : ∃ X, X = compV 31 t := ⟨_, rfl⟩
  have HX : Hid (X = compV 31 t) := hX
  have ci := fun W hT => Ximh.compiled_any t W hT (by omega)
  have cs := fun W => Cmxd.compiled_any t W (by omega)
  rw [← comp_same htz, ← hX] at cs
  rw [← hX] at ci
  have d190 : decide (190 < (t.size : Int)) = false := decide_eq_false (by omega)
  have d190n : decide (190 < t.size) = false := decide_eq_false (by omega)
  have c1 := fun W hT => Ximh.compiled_any ((⟨#[40]⟩ : ByteArray) ++ t ++ ⟨#[41]⟩) W hT (by rw [ByteArray.size_append, ByteArray.size_append]; show 1 + t.size + 1 ≤ _; omega)
  have c2 := fun W hT => Ximh.compiled_any ((⟨#[45, 40]⟩ : ByteArray) ++ t ++ ⟨#[41]⟩) W hT (by rw [ByteArray.size_append, ByteArray.size_append]; show 2 + t.size + 1 ≤ _; omega)
  clear hX htz
  go_wp2_with fail
  refine (ci _ (tab_below HM.out V1.out)).mono ?_
  intro e w2 h2
  cases X with
  | none =>
    obtain ⟨rfl, b2⟩ := h2
    have V2 : Hid (Below w.heap.size w w2) := V1.out.trans (b2.mono V1.out.size)
    clear b2 ci c1 c2
    go_wp2_with fail
    refine (cs _).mono ?_
    rintro e w3 ⟨rfl, b3⟩
    have V3 : Hid (Below w.heap.size w w3) := V2.out.trans (b3.mono V2.out.size)
    clear b3 cs
    have sm := fun W => Sexp.same_n (a := none) (a' := none) (cap := 0) (cap' := 0) (n := 0) (L := []) rfl W (.inl rfl) (.inl rfl) (by decide)
    go_wp2_with fail
    refine (sm _).mono ?_
    rintro e w4 ⟨rfl, b4⟩
    have V4 : Hid (Below w.heap.size w w4) := V3.out.trans (b4.mono V3.out.size)
    clear b4
    go_wp2_with fail
    refine (sm _).mono ?_
    rintro e w5 ⟨rfl, b5⟩
    have V5 : Hid (Below w.heap.size w w5) := V4.out.trans (b5.mono V4.out.size)
    clear b5 sm
    go_wp2
    go_ret
    exact ⟨rfl, V5.out⟩
  | some L =>
    obtain ⟨⟨a, cap, rfl, ho, hl, hx, hz⟩, b2⟩ := h2
    have V2 : Hid (Below w.heap.size w w2) := V1.out.trans (b2.mono V1.out.size)
    have O2 : Hid (Own w2 w1.heap.size (.slice a L.length cap) L) := ho
    have HZ : Hid (∀ x ∈ L, x.2.2.size ≤ 16) := hz
    have HE : Hid (exprB L = true) := hx
    have k1 := br_any (L := L) (by omega) HX.out.symm
    have k2 := neg_any (L := L) (by omega) HX.out.symm
    have hl63 : L.length ≤ 1048576 := by omega
    have hl0 : 0 < L.length := by
      cases L with
      | nil => exact absurd hx (by decide)
      | cons x r => exact Nat.succ_pos _
    obtain ⟨len, hlen⟩ : ∃ len, len = L.length := ⟨_, rfl⟩
    have HL : Hid (len = L.length) := hlen
    have cso := cs
    clear b2 ci ho hx hz HX cs
    rw [← hlen] at hl hl0 hl63 ⊢
    clear hlen
    generalize hY1 : compV 31 ((⟨#[40]⟩ : ByteArray) ++ t ++ ⟨#[41]⟩) = Y1 at k1 c1
    generalize hY2 : compV 31 ((⟨#[45, 40]⟩ : ByteArray) ++ t ++ ⟨#[41]⟩) = Y2 at k2 c2
    clear hY1 hY2
    go_wp2_with fail
    refine (cso _).mono ?_
    rintro e w3 ⟨⟨a', cap', rfl, ho', _, _, _⟩, b3⟩
    have V3 : Hid (Below w.heap.size w w3) := V2.out.trans (b3.mono V2.out.size)
    have B3 : Hid (Below w2.heap.size w2 w3) := b3
    have s1 := Sexp.same_n (a := a) (a' := a') (cap := cap) (cap' := cap') HL.out w3 (nodes_of O2.out HZ.out B3.out) (nodes_of ho' HZ.out (Below.refl _ _)) (by rw [← HL.out]; omega)
    clear b3 cso ho'
    rw [← HL.out]
    go_wp2_with fail
    refine s1.mono ?_
    rintro e w4 ⟨rfl, b4⟩
    have V4 : Hid (Below w.heap.size w w4) := V3.out.trans (b4.mono V3.out.size)
    have B4 : Hid (Below w2.heap.size w2 w4) := B3.out.trans (b4.mono B3.out.size)
    clear b4 s1 B3 V3
    go_wp2_with fail
    refine (c1 _ (tab_below HM.out V4.out)).mono ?_
    intro e w5 h5
    rcases k1 with hk | hk
    · subst hk
      obtain ⟨rfl, b5⟩ := h5
      have V5 : Hid (Below w.heap.size w w5) := V4.out.trans (b5.mono V4.out.size)
      have B5 : Hid (Below w2.heap.size w2 w5) := B4.out.trans (b5.mono B4.out.size)
      clear b5 c1 V4 B4
      go_wp2_with fail
      refine (c2 _ (tab_below HM.out V5.out)).mono ?_
      intro e w6 h6
      rcases k2 with hk | hk
      · subst hk
        obtain ⟨rfl, b6⟩ := h6
        have V6 : Hid (Below w.heap.size w w6) := V5.out.trans (b6.mono V5.out.size)
        have B6 : Hid (Below w2.heap.size w2 w6) := B5.out.trans (b6.mono B5.out.size)
        skip
        clear b6 c2 V5 B5
        by_cases h30 : len = 30
        · subst h30
          go_wp2
          go_ret
          exact ⟨rfl, V6.out⟩
        have d30 : ((len : Int) == 30) = false := by simp; omega
        have d30b : decide ((len : Int) = 30) = false := decide_eq_false (by omega)
        have io := Sexp.implOk_any (a := a) (cap := cap) HL.out w6 (nodes_of O2.out HZ.out B6.out) (by rw [← HL.out]; omega)
        rw [HE.out] at io
        go_wp2_with fail
        refine io.mono ?_
        rintro e w7 ⟨rfl, b7⟩
        have V7 : Hid (Below w.heap.size w w7) := V6.out.trans (b7.mono V6.out.size)
        have B7 : Hid (Below w2.heap.size w2 w7) := B6.out.trans (b7.mono B6.out.size)
        have G7 : Hid (Below w6.heap.size w6 w7) := b7
        clear b7 io h30
        go_wp2
        go_ret
        exact ⟨rfl, V7.out⟩
      · subst hk
        obtain ⟨⟨a6, cap6, rfl, ho6, _, _, hz6⟩, b6⟩ := h6
        have e6 : (L ++ [((4 : Int), (0 : Int), E0)]).length = len + 1 := by rw [List.length_append, ← HL.out]; rfl
        have O6 : Hid (Own w6 w5.heap.size (.slice a6 (L ++ [((4 : Int), (0 : Int), E0)]).length cap6) (L ++ [((4 : Int), (0 : Int), E0)])) := ho6
        have HZ6 : Hid (∀ x ∈ L ++ [((4 : Int), (0 : Int), E0)], x.2.2.size ≤ 16) := hz6
        rw [e6]
        clear ho6 hz6 e6
        have V6 : Hid (Below w.heap.size w w6) := V5.out.trans (b6.mono V5.out.size)
        have B6 : Hid (Below w2.heap.size w2 w6) := B5.out.trans (b6.mono B5.out.size)
        skip
        clear b6 c2 V5 B5
        by_cases h30 : len = 30
        · subst h30
          go_wp2
          go_ret
          exact ⟨rfl, V6.out⟩
        have d30 : ((len : Int) == 30) = false := by simp; omega
        have d30b : decide ((len : Int) = 30) = false := decide_eq_false (by omega)
        have io := Sexp.implOk_any (a := a) (cap := cap) HL.out w6 (nodes_of O2.out HZ.out B6.out) (by rw [← HL.out]; omega)
        rw [HE.out] at io
        go_wp2_with fail
        refine io.mono ?_
        rintro e w7 ⟨rfl, b7⟩
        have V7 : Hid (Below w.heap.size w w7) := V6.out.trans (b7.mono V6.out.size)
        have B7 : Hid (Below w2.heap.size w2 w7) := B6.out.trans (b7.mono B6.out.size)
        have G7 : Hid (Below w6.heap.size w6 w7) := b7
        clear b7 io h30
        obtain ⟨g, rfl⟩ := Sexp.own_addr O2.out HL.out hl0
        obtain ⟨i0, hi, hz0, hz1, hz2⟩ := Xima.info_parts Xima.infoN
        have OW0 : Hid ((w7.alloc (.cells #[] 36)).ownsRow w7.heap.size 36 3 (.slice (some ⟨w7.heap.size, 0, none⟩) 0 0) 0 []) := World.ownsRow_lit w7 #[] 0 (Nat.le_refl _) (by decide) rfl
        have OE : Hid ((w7.alloc (.cells #[] 36)).ownsRow w1.heap.size 36 3 (.slice (some ⟨g, 0, none⟩) L.length cap) L.length (cellsOf L)) := Nodm.own_below (Nodm.own_below O2.out B7.out) ((Below.refl _ _).alloc (Nat.le_refl _) _)
        go_wp2_with (first | (at_builtin; refine wpList_step fun K hK => ?_; rw [if_pos (by rfl)]; refine wp_append_own _ _ _ 27 rfl w7.heap.size 36 i0 (.agg #[.int .i64 0, .int .i64 0, .string ⟨#[]⟩]) 3 32 Tryd.underlying27 hi hz0 hz1 hz2 rfl (by decide) (.slice (some ⟨w7.heap.size, 0, none⟩) 0 0) 0 [] rfl OW0.out ⟨g, 0, none⟩ len cap (cellsOf L) rfl ?a1 ?a2 ?a3 ?a4 ?a5 ?a6 ?_) | fail)
        case a1 => rw [Sexp.cells_len, ← HL.out]
        case a2 => exact OE.out.cells (g := g) rfl
        case a3 => exact Sexp.cells_one L
        case a4 => unfold maxLen; omega
        case a5 => omega
        case a6 => simp
        intro v1 x1 own1 grow1 _
        refine hK _ _ ?_
        clear hK
        have C1 : Hid (Below w7.heap.size w7 x1) := ((Below.refl _ _).alloc (Nat.le_refl _) _).grown grow1 (by simp) (fun b hb => (OW0.out.lt b hb).1)
        have P1 : Hid (x1.ownsRow w7.heap.size 36 3 v1 len (cellsOf L)) := (show World.ownsRow _ _ _ _ _ _ _ from by have h := own1; simpa using h)
        have own2 : Hid (∀ o, (x1.alloc o).ownsRow w7.heap.size 36 3 v1 len (cellsOf L)) := fun o => P1.out.alloc o
        clear own1 grow1
        go_wp2_with (first | (at_builtin; refine wpList_step fun K hK => ?_; rw [if_pos (by rfl)]; refine wp_append_own _ _ _ 27 rfl w7.heap.size 36 i0 (.agg #[.int .i64 0, .int .i64 0, .string ⟨#[]⟩]) 3 32 Tryd.underlying27 hi hz0 hz1 hz2 rfl (by decide) v1 len (cellsOf L) rfl (own2.out _) ⟨x1.heap.size, 0, none⟩ 1 1 [.int .i64 4, .int .i64 0, .string E0] rfl ?n1 ?n2 ?n3 ?n4 ?n5 ?n6 ?_) | fail)
        case n1 => rfl
        case n2 =>
          intro j u hj
          match j, hj with
          | 0, hj => simp at hj; subst hj; show World.cell? _ ⟨x1.heap.size, 0, none⟩ = _; rw [World.cell?_alloc_new]; rfl
          | 1, hj => simp at hj; subst hj; show World.cell? _ ⟨x1.heap.size, 1, none⟩ = _; rw [World.cell?_alloc_new]; rfl
          | 2, hj => simp at hj; subst hj; show World.cell? _ ⟨x1.heap.size, 2, none⟩ = _; rw [World.cell?_alloc_new]; rfl
        case n3 => intro u hu; simp at hu; rcases hu with rfl | rfl | rfl <;> rfl
        case n4 => unfold maxLen; omega
        case n5 => omega
        case n6 => simp; have := C1.out.size; omega
        intro v2 x2 own3 grow3 _
        refine hK _ _ ?_
        clear hK
        have C2 : Hid (Below w7.heap.size w7 x2) := (C1.out.alloc C1.out.size _).grown grow3 (by have := C1.out.size; simp; omega) (fun b hb => (P1.out.lt b hb).1)
        have VX : Hid (Below w.heap.size w x2) := V7.out.trans (C2.out.mono V7.out.size)
        have GX : Hid (Below w6.heap.size w6 x2) := G7.out.trans (C2.out.mono G7.out.size)
        have e6 : (L ++ [((4 : Int), (0 : Int), E0)]).length = len + 1 := by rw [List.length_append, ← HL.out]; rfl
        have O9 : Hid (Own x2 w7.heap.size v2 (L ++ [((4 : Int), (0 : Int), E0)])) := (show World.ownsRow _ _ _ _ _ _ _ from by rw [e6, cells_snoc]; exact own3)
        obtain ⟨a9, cap9, rfl⟩ : ∃ a9 cap9, v2 = .slice a9 (len + 1) cap9 := by
          rcases own3.2 with ⟨rfl, h0⟩ | ⟨g, c, cur, rfl, _⟩
          · omega
          · exact ⟨_, _, rfl⟩
        have O9' : Hid (Own x2 w7.heap.size (.slice a9 (L ++ [((4 : Int), (0 : Int), E0)]).length cap9) (L ++ [((4 : Int), (0 : Int), E0)])) := (show Own _ _ _ _ from by rw [e6]; exact O9.out)
        have s3 := Sexp.same_n (a := a6) (a' := a9) (cap := cap6) (cap' := cap9) e6.symm x2 (nodes_of O6.out HZ6.out GX.out) (nodes_of O9'.out HZ6.out (Below.refl _ _)) (by rw [e6]; omega)
        clear own3 grow3 own2 O9 OE OW0 P1 C1 C2 e6
        go_wp2_with fail
        refine s3.mono ?_
        rintro e wz ⟨rfl, bz⟩
        have VZ : Hid (Below w.heap.size w wz) := VX.out.trans (bz.mono VX.out.size)
        clear bz s3
        go_wp2
        go_ret
        exact ⟨rfl, VZ.out⟩
    · subst hk
      obtain ⟨⟨a5, cap5, rfl, ho5, _, _, _⟩, b5⟩ := h5
      have O5 : Hid (Own w5 w4.heap.size (.slice a5 L.length cap5) L) := ho5
      have V5 : Hid (Below w.heap.size w w5) := V4.out.trans (b5.mono V4.out.size)
      have B5 : Hid (Below w2.heap.size w2 w5) := B4.out.trans (b5.mono B4.out.size)
      clear b5 c1 V4 B4 ho5
      rw [← HL.out]
      go_wp2_with fail
      refine (c2 _ (tab_below HM.out V5.out)).mono ?_
      intro e w6 h6
      rcases k2 with hk | hk
      · subst hk
        obtain ⟨rfl, b6⟩ := h6
        have V6 : Hid (Below w.heap.size w w6) := V5.out.trans (b6.mono V5.out.size)
        have B6 : Hid (Below w2.heap.size w2 w6) := B5.out.trans (b6.mono B5.out.size)
        have BF : Hid (Below w5.heap.size w5 w6) := b6
        clear b6 c2 V5 B5
        by_cases h30 : len = 30
        · subst h30
          go_wp2
          go_ret
          exact ⟨rfl, V6.out⟩
        have d30 : ((len : Int) == 30) = false := by simp; omega
        have d30b : decide ((len : Int) = 30) = false := decide_eq_false (by omega)
        have io := Sexp.implOk_any (a := a) (cap := cap) HL.out w6 (nodes_of O2.out HZ.out B6.out) (by rw [← HL.out]; omega)
        rw [HE.out] at io
        go_wp2_with fail
        refine io.mono ?_
        rintro e w7 ⟨rfl, b7⟩
        have V7 : Hid (Below w.heap.size w w7) := V6.out.trans (b7.mono V6.out.size)
        have B7 : Hid (Below w2.heap.size w2 w7) := B6.out.trans (b7.mono B6.out.size)
        have G7 : Hid (Below w6.heap.size w6 w7) := b7
        clear b7 io h30
        have s2 := Sexp.same_n (a := a5) (a' := a) (cap := cap5) (cap' := cap) HL.out w7 (nodes_of O5.out HZ.out (BF.out.trans (G7.out.mono BF.out.size))) (nodes_of O2.out HZ.out B7.out) (by rw [← HL.out]; omega)
        go_wp2_with fail
        refine s2.mono ?_
        rintro e w8 ⟨rfl, b8⟩
        have V8 : Hid (Below w.heap.size w w8) := V7.out.trans (b8.mono V7.out.size)
        have B8 : Hid (Below w2.heap.size w2 w8) := B7.out.trans (b8.mono B7.out.size)
        have G8 : Hid (Below w6.heap.size w6 w8) := G7.out.trans (b8.mono G7.out.size)
        clear b8 s2
        go_wp2
        go_ret
        exact ⟨rfl, V8.out⟩
      · subst hk
        obtain ⟨⟨a6, cap6, rfl, ho6, _, _, hz6⟩, b6⟩ := h6
        have e6 : (L ++ [((4 : Int), (0 : Int), E0)]).length = len + 1 := by rw [List.length_append, ← HL.out]; rfl
        have O6 : Hid (Own w6 w5.heap.size (.slice a6 (L ++ [((4 : Int), (0 : Int), E0)]).length cap6) (L ++ [((4 : Int), (0 : Int), E0)])) := ho6
        have HZ6 : Hid (∀ x ∈ L ++ [((4 : Int), (0 : Int), E0)], x.2.2.size ≤ 16) := hz6
        rw [e6]
        clear ho6 hz6 e6
        have V6 : Hid (Below w.heap.size w w6) := V5.out.trans (b6.mono V5.out.size)
        have B6 : Hid (Below w2.heap.size w2 w6) := B5.out.trans (b6.mono B5.out.size)
        have BF : Hid (Below w5.heap.size w5 w6) := b6
        clear b6 c2 V5 B5
        by_cases h30 : len = 30
        · subst h30
          go_wp2
          go_ret
          exact ⟨rfl, V6.out⟩
        have d30 : ((len : Int) == 30) = false := by simp; omega
        have d30b : decide ((len : Int) = 30) = false := decide_eq_false (by omega)
        have io := Sexp.implOk_any (a := a) (cap := cap) HL.out w6 (nodes_of O2.out HZ.out B6.out) (by rw [← HL.out]; omega)
        rw [HE.out] at io
        go_wp2_with fail
        refine io.mono ?_
        rintro e w7 ⟨rfl, b7⟩
        have V7 : Hid (Below w.heap.size w w7) := V6.out.trans (b7.mono V6.out.size)
        have B7 : Hid (Below w2.heap.size w2 w7) := B6.out.trans (b7.mono B6.out.size)
        have G7 : Hid (Below w6.heap.size w6 w7) := b7
        clear b7 io h30
        have s2 := Sexp.same_n (a := a5) (a' := a) (cap := cap5) (cap' := cap) HL.out w7 (nodes_of O5.out HZ.out (BF.out.trans (G7.out.mono BF.out.size))) (nodes_of O2.out HZ.out B7.out) (by rw [← HL.out]; omega)
        go_wp2_with fail
        refine s2.mono ?_
        rintro e w8 ⟨rfl, b8⟩
        have V8 : Hid (Below w.heap.size w w8) := V7.out.trans (b8.mono V7.out.size)
        have B8 : Hid (Below w2.heap.size w2 w8) := B7.out.trans (b8.mono B7.out.size)
        have G8 : Hid (Below w6.heap.size w6 w8) := G7.out.trans (b8.mono G7.out.size)
        clear b8 s2
        obtain ⟨g, rfl⟩ := Sexp.own_addr O2.out HL.out hl0
        obtain ⟨i0, hi, hz0, hz1, hz2⟩ := Xima.info_parts Xima.infoN
        have OW0 : Hid ((w8.alloc (.cells #[] 36)).ownsRow w8.heap.size 36 3 (.slice (some ⟨w8.heap.size, 0, none⟩) 0 0) 0 []) := World.ownsRow_lit w8 #[] 0 (Nat.le_refl _) (by decide) rfl
        have OE : Hid ((w8.alloc (.cells #[] 36)).ownsRow w1.heap.size 36 3 (.slice (some ⟨g, 0, none⟩) L.length cap) L.length (cellsOf L)) := Nodm.own_below (Nodm.own_below O2.out B8.out) ((Below.refl _ _).alloc (Nat.le_refl _) _)
        go_wp2_with (first | (at_builtin; refine wpList_step fun K hK => ?_; rw [if_pos (by rfl)]; refine wp_append_own _ _ _ 27 rfl w8.heap.size 36 i0 (.agg #[.int .i64 0, .int .i64 0, .string ⟨#[]⟩]) 3 32 Tryd.underlying27 hi hz0 hz1 hz2 rfl (by decide) (.slice (some ⟨w8.heap.size, 0, none⟩) 0 0) 0 [] rfl OW0.out ⟨g, 0, none⟩ len cap (cellsOf L) rfl ?a1 ?a2 ?a3 ?a4 ?a5 ?a6 ?_) | fail)
        case a1 => rw [Sexp.cells_len, ← HL.out]
        case a2 => exact OE.out.cells (g := g) rfl
        case a3 => exact Sexp.cells_one L
        case a4 => unfold maxLen; omega
        case a5 => omega
        case a6 => simp
        intro v1 x1 own1 grow1 _
        refine hK _ _ ?_
        clear hK
        have C1 : Hid (Below w8.heap.size w8 x1) := ((Below.refl _ _).alloc (Nat.le_refl _) _).grown grow1 (by simp) (fun b hb => (OW0.out.lt b hb).1)
        have P1 : Hid (x1.ownsRow w8.heap.size 36 3 v1 len (cellsOf L)) := (show World.ownsRow _ _ _ _ _ _ _ from by have h := own1; simpa using h)
        have own2 : Hid (∀ o, (x1.alloc o).ownsRow w8.heap.size 36 3 v1 len (cellsOf L)) := fun o => P1.out.alloc o
        clear own1 grow1
        go_wp2_with (first | (at_builtin; refine wpList_step fun K hK => ?_; rw [if_pos (by rfl)]; refine wp_append_own _ _ _ 27 rfl w8.heap.size 36 i0 (.agg #[.int .i64 0, .int .i64 0, .string ⟨#[]⟩]) 3 32 Tryd.underlying27 hi hz0 hz1 hz2 rfl (by decide) v1 len (cellsOf L) rfl (own2.out _) ⟨x1.heap.size, 0, none⟩ 1 1 [.int .i64 4, .int .i64 0, .string E0] rfl ?n1 ?n2 ?n3 ?n4 ?n5 ?n6 ?_) | fail)
        case n1 => rfl
        case n2 =>
          intro j u hj
          match j, hj with
          | 0, hj => simp at hj; subst hj; show World.cell? _ ⟨x1.heap.size, 0, none⟩ = _; rw [World.cell?_alloc_new]; rfl
          | 1, hj => simp at hj; subst hj; show World.cell? _ ⟨x1.heap.size, 1, none⟩ = _; rw [World.cell?_alloc_new]; rfl
          | 2, hj => simp at hj; subst hj; show World.cell? _ ⟨x1.heap.size, 2, none⟩ = _; rw [World.cell?_alloc_new]; rfl
        case n3 => intro u hu; simp at hu; rcases hu with rfl | rfl | rfl <;> rfl
        case n4 => unfold maxLen; omega
        case n5 => omega
        case n6 => simp; have := C1.out.size; omega
        intro v2 x2 own3 grow3 _
        refine hK _ _ ?_
        clear hK
        have C2 : Hid (Below w8.heap.size w8 x2) := (C1.out.alloc C1.out.size _).grown grow3 (by have := C1.out.size; simp; omega) (fun b hb => (P1.out.lt b hb).1)
        have VX : Hid (Below w.heap.size w x2) := V8.out.trans (C2.out.mono V8.out.size)
        have GX : Hid (Below w6.heap.size w6 x2) := G8.out.trans (C2.out.mono G8.out.size)
        have e6 : (L ++ [((4 : Int), (0 : Int), E0)]).length = len + 1 := by rw [List.length_append, ← HL.out]; rfl
        have O9 : Hid (Own x2 w8.heap.size v2 (L ++ [((4 : Int), (0 : Int), E0)])) := (show World.ownsRow _ _ _ _ _ _ _ from by rw [e6, cells_snoc]; exact own3)
        obtain ⟨a9, cap9, rfl⟩ : ∃ a9 cap9, v2 = .slice a9 (len + 1) cap9 := by
          rcases own3.2 with ⟨rfl, h0⟩ | ⟨g, c, cur, rfl, _⟩
          · omega
          · exact ⟨_, _, rfl⟩
        have O9' : Hid (Own x2 w8.heap.size (.slice a9 (L ++ [((4 : Int), (0 : Int), E0)]).length cap9) (L ++ [((4 : Int), (0 : Int), E0)])) := (show Own _ _ _ _ from by rw [e6]; exact O9.out)
        have s3 := Sexp.same_n (a := a6) (a' := a9) (cap := cap6) (cap' := cap9) e6.symm x2 (nodes_of O6.out HZ6.out GX.out) (nodes_of O9'.out HZ6.out (Below.refl _ _)) (by rw [e6]; omega)
        clear own3 grow3 own2 O9 OE OW0 P1 C1 C2 e6
        go_wp2_with fail
        refine s3.mono ?_
        rintro e wz ⟨rfl, bz⟩
        have VZ : Hid (Below w.heap.size w wz) := VX.out.trans (bz.mono VX.out.size)
        clear bz s3
        go_wp2
        go_ret
        exact ⟨rfl, VZ.out⟩

set_option maxRecDepth 100000 in
theorem contract (H : Type) (enc : TypeId × Value → H) (W : World) (base : Nat) (args : Array Value) (ds gs : List (DataW H)) (before : List MemPlace)
    (hval : ∀ (j : Nat) t v, Tryd.f4.params[j]? = some t → args[j]? = some v → Value.okWide Tryd.prog W .any base t v)
    (hW : DataW.Whole enc Tryd.prog Tryd.f4.params.toList Rows.fnCompiledSpec.vars false W args.toList ds gs before) (hL : laidMetH Tryd.prog Rows.fnCompiledRow.laid W) :
    Calls Tryd.prog 4 args W fun e W' => ∃ v, e = .returned v ∧ Rows.fnCompiledSpec.post enc Tryd.prog Tryd.f4 false true false false W args v W' := by
  have hW' := hW
  obtain ⟨p, q, hA0, hV, hbef, hfz, hnd⟩ := hW
  have hA : DataW.TrodAll enc Tryd.prog W 0 (fun _ => true) true Tryd.f4.params.toList args.toList ds p := hA0
  have hVk : DataW.TrodVars enc Tryd.prog W (fun _ => true) Rows.fnCompiledSpec.vars gs q := hV
  rw [Tryd.params4] at hA hval
  obtain ⟨v0, vs0, d0, ds0, p0, q0, hargs, rfl, rfl, h0, r0⟩ := trodAll_cons hA
  obtain ⟨rfl, rfl, rfl⟩ := trodAll_nil r0
  obtain rfl : args = #[v0] := by cases args; simp_all
  obtain ⟨g, t, cs, fuel, d, p', rfl, hg, ht, hvar, hd, hq⟩ := trodVars_one hV
  obtain ⟨a0, len0, cap0, rfl⟩ := okWide_slice Tryd.underlying22 (hval 0 22 v0 rfl rfl)
  have k0 := h0
  have lt0 : ∀ x ∈ p0, x.block < W.heap.size := by obtain ⟨m, hm⟩ := k0; exact DataW.trod_lt m _ _ _ hm
  obtain ⟨z0, w0⟩ : ∃ zs, IsRow .u8 W a0 len0 cap0 zs := by
    obtain ⟨fuel, hf⟩ := h0
    rcases open_ints Tryd.underlying22 Tryd.underlying5 (by kernel_rfl) hf with ⟨hcs, _⟩ | ⟨x, l, c, zs, hcs, _, hl, hm, hz, _, hcell, hwz⟩
    · simp [Value.cells] at hcs
      obtain ⟨rfl, rfl, rfl⟩ := hcs
      exact ⟨[], .inl ⟨rfl, rfl, rfl, rfl⟩⟩
    · simp [Value.cells] at hcs
      obtain ⟨rfl, rfl, rfl⟩ := hcs
      exact ⟨zs, .inr ⟨_, rfl, hl, hm, by simpa using hz, hcell, hwz⟩⟩
  clear hA0
  refine (walk W a0 len0 cap0 z0 w0 (table hL)).mono fun e W' ⟨he, bel⟩ => ?_
  subst he
  exact ⟨_, rfl, _, _, _, [], _, q, hW', trodAll_mk1 (shut_bool Tryd.underlying4 _), (trodAll_cons_mk (Below.trod laidOut (by kernel_rfl) (of_decide_eq_true (by kernel_rfl)) k0 bel lt0) trodAll_mk0), Below.trodVars laidOut bel rowed hVk, bel.frame _, fun h => by cases h⟩

/-- A world for the witness: the settled one, the table holding what its initialiser lays. -/
noncomputable def laidWorld (os : Os) : World :=
  { World.holding Tryd.prog os ⟨#[], #[], []⟩ with heap := (World.holding Tryd.prog os ⟨#[], #[], []⟩).heap.modify 0 fun
      | .cells _ t frozen => .cells #[.int .u8 48, .int .u8 49, .int .u8 50, .int .u8 51, .int .u8 52, .int .u8 53, .int .u8 54, .int .u8 55, .int .u8 56, .int .u8 57, .int .u8 65, .int .u8 66, .int .u8 67, .int .u8 68, .int .u8 69, .int .u8 70] t frozen
      | o => o }
theorem laid_met (os : Os) : laidMet Tryd.prog Rows.fnCompiledRow.laid ((laidWorld os).forCall (fun _ _ => 0) ⟨#[], #[.slice none 0 0], []⟩).memory :=
  laidMet_of_run' 8 (by kernel_rfl) (by kernel_rfl)
theorem reads (os : Os) {H : Type} (enc : TypeId × Value → H) : ∃ places, DataW.whole enc Tryd.prog ((laidWorld os).forCall (fun _ _ => 0) ⟨#[], #[.slice none 0 0], []⟩).memory Tryd.f4.params.toList Rows.fnCompiledSpec.vars false [.slice none 0 0] 8 = some ([.nil], [.agg [.lit (.int .u8 48), .lit (.int .u8 49), .lit (.int .u8 50), .lit (.int .u8 51), .lit (.int .u8 52), .lit (.int .u8 53), .lit (.int .u8 54), .lit (.int .u8 55), .lit (.int .u8 56), .lit (.int .u8 57), .lit (.int .u8 65), .lit (.int .u8 66), .lit (.int .u8 67), .lit (.int .u8 68), .lit (.int .u8 69), .lit (.int .u8 70)]], places) :=
  ⟨MemPlace.row ⟨0, 0, none⟩ 16, by kernel_rfl⟩

set_option maxRecDepth 100000 in
theorem lifted (os : Os) (started : os.Started) (H : Type) (enc : TypeId × Value → H) (F : Stop.Interp) :
    ReturnsInHanded {} Tryd.checked os 4 .any ((OpenSpec.ofChange Rows.fnCompiledSpec).preRow enc Tryd.prog Tryd.f4 Rows.fnCompiledRow.domain false Rows.fnCompiledRow.laid) (((OpenSpec.ofChange Rows.fnCompiledSpec).at F).post enc Tryd.prog Tryd.f4 false true false false) := by
  obtain ⟨places, hx⟩ := reads os enc
  refine returnsInHanded_of_row (C := Tryd.checked) (s := OpenSpec.ofChange Rows.fnCompiledSpec) own started (by kernel_rfl) Tryd.func4
    (witness_row_at (enc := enc) (C := Tryd.checked) false (laidWorld os) #[.slice none 0 0] rfl (by kernel_rfl) (by kernel_rfl) (by kernel_rfl)
      (OpenSpec.preRow_of_cond 8 hx (by kernel_rfl) (fun k hk => by cases hk) (by kernel_rfl) (laid_met os))) ?_
  intro W base args ds gs before hval hW _ _ _ hL _ _
  exact contract H enc W base args ds gs before hval hW hL

theorem said : Rows.FnCompiledSaid :=
  OpenClaim.holds_of_cond 4 Tryd.f4 rfl rfl rfl rfl rfl rfl rfl ⟨rfl, rfl, rfl, rfl, rfl⟩ rfl rfl rfl rfl rfl (by kernel_rfl) Tryd.func4 (by kernel_rfl)
    (of_decide_eq_true (by kernel_rfl)) (by unfold Func.isWrapper; first | (rw [if_pos (by decide +kernel)]; kernel_rfl) | (rw [if_neg (by decide +kernel)]; exact ⟨rfl, rfl⟩))
    (fun os started H enc _ F => by rw [OpenClaim.pre_eq_preRow]; exact lifted os started H enc F)

theorem plain (f : FuncId) (fn : Func) (hf : Tryd.pinned.checked.prog.funcNamed "loop.example/g00460/laws.FnCompiled" = some f) (hfn : Tryd.pinned.checked.prog.funcs[f]? = some fn) :
    true = Tryd.pinned.checked.prog.looks [] ∧ ∀ (j : Nat) t, fn.params[j]? = some t → Tryd.pinned.checked.prog.wantsStandIn t = false := by
  obtain rfl : f = 4 := Option.some.inj ((show Tryd.prog.funcNamed "loop.example/g00460/laws.FnCompiled" = some 4 by kernel_rfl).symm.trans hf) |>.symm
  obtain rfl : fn = Tryd.f4 := (Option.some.inj (Tryd.func4.symm.trans hfn)).symm
  refine ⟨by kernel_rfl, fun j t ht => ?_⟩
  rw [Tryd.params4] at ht
  have h : t = 22 := by simpa using Array.mem_of_getElem? ht
  subst h
  exact (show Tryd.prog.wantsStandIn 22 = false by kernel_rfl)

theorem card : Rows.FnCompiledCardSaid :=
  Claim7.holds_tied_plain_at .later [] _ _ _ _ said (fun _ h => by cases h) (by kernel_rfl) (fun _ h => by cases h) fnCompiled_row_tie rfl ⟨rfl, rfl⟩ (by kernel_rfl) rfl plain (by kernel_rfl)
end Go.Proofs.YtlobkgohenebmaaDoor.fnCompiled
namespace Go.Proofs.YtlobkgohenebmaaDoor
theorem fnCompiled_holds : Rows.FnCompiledCardSaid := fnCompiled.card
end Go.Proofs.YtlobkgohenebmaaDoor
