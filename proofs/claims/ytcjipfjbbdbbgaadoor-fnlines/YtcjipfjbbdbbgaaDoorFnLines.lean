/- For every row of bytes the law FnLines answers true: of the line that is drawn of it impl.LineText and impl.LineOk tell what the specification tells, a right line comes back from its text and with blanks ahead and a comment behind, and of the text that is drawn impl.ReadLine tells what the specification tells and what is read, written, is read as the same; the bytes read afterwards as they read before; the two tables of the library that the card lists hold what it says when the call begins (tied and pinned by the card; the walk reads none of them). -/
import Derived.Test.YtcjipfjbbdbbgaaDoorCards
import Derived.Test.YtcjipfjbbdbbgaaDoorTie
import Derived.WalkKit
import Derived.ProofKit
import Derived.OpenShut
import Derived.ShutString
import Derived.ChangeOld
import Derived.ChangeVars
import Derived.OpenVars
import Derived.Below
import Derived.Deep.DeepHandedRow
import Derived.Lib.LaidTab
import Derived.Test.YtcjipfjbbdbbgaaDoorDrawM
import Derived.Deep.DeepCutAuto
namespace Go.Proofs.YtcjipfjbbdbbgaaDoor.fnLines
open Go.ChangeShapes Go.WideShapes Go.ChangeAt Go.RowKit
open Go.ChangeMaps (open_string shut_string)
set_option linter.unusedVariables false

theorem own : ownKnob Tryd.prog.godebug = none := by kernel_rfl
theorem laidOut : laidOutB Tryd.prog = true := by kernel_rfl

/-- What the walk is told of a slice of bytes that came in: it is nil; or it leads to a row of cells, the numbers zs, each fitting its kind. -/
def IsRow (k : IntKind) (w : World) (a : Option Addr) (len cap : Nat) (zs : List Int) : Prop :=
  (a = none ∧ len = 0 ∧ cap = 0 ∧ zs = []) ∨
  ∃ x, a = some x ∧ len ≤ cap ∧ cap ≤ maxLen ∧ zs.length = cap ∧ (∀ i, i < zs.length → w.cell? (x.add i) = some (.int k (zs.getD i 0))) ∧ ∀ n ∈ zs, (Lit.int k n).wf = true

set_option maxRecDepth 20000
open Readl (Box)
theorem toRow {k : IntKind} {w : World} {a : Option Addr} {len cap : Nat} {zs : List Int} (h : IsRow k w a len cap zs) : Rdr.IsRow k w a len cap zs := h
theorem bcell {W w1 : World} (hb : Below W.heap.size W w1) : (∀ b o, b < W.heap.size → w1.cell? ⟨b, o, none⟩ = W.cell? ⟨b, o, none⟩) := fun b o h => hb.cell (p := ⟨b, o, none⟩) h
/-- A right line that is drawn comes back. -/
theorem comes_back {l o x : ByteArray} (h : Lino.lineB l o x = true) (hx : (58 : UInt8) ∉ x.data.toList) :
    Lino.textB l o x = Lines.lineT l o x ∧ (Lines.lineT l o x).size ≤ 80 ∧ Readl.readV (Lines.lineT l o x) = .tuple #[.agg #[.string l, .string o, .string x], .bool true] ∧ Readl.readV (⟨#[32, 32]⟩ ++ Lines.lineT l o x ++ ⟨#[32, 59, 32, 120, 58, 32, 121]⟩) = .tuple #[.agg #[.string l, .string o, .string x], .bool true] := by
  obtain ⟨hh, hz⟩ := Rounb.line_head h
  have hc : 0 < l.size ∨ Readl.labB (Lines.lineT l o x) = false := by
    by_cases hl : l.size = 0
    · exact .inr (Rounb.no_colon hh hl hx)
    · exact .inl (by omega)
  obtain ⟨he, h9⟩ := Rounb.text_ends hh
  refine ⟨by unfold Lino.textB; rw [if_pos h], hz, Rounb.read_of h hc (by omega) (Rounb.said_text hh), Rounb.read_of h hc ?_ (Rounb.said_comment he h9 ⟨_, rfl⟩)⟩
  rw [ByteArray.size_append, ByteArray.size_append]
  show 2 + _ + 7 ≤ 240
  omega
theorem read_cases (t : ByteArray) : (∃ l o x, Readl.readV t = .tuple #[.agg #[.string l, .string o, .string x], .bool true] ∧ Lino.lineB l o x = true ∧ Lino.textB l o x = Lines.lineT l o x ∧ (Lines.lineT l o x).size ≤ 80 ∧ Readl.readV (Lines.lineT l o x) = .tuple #[.agg #[.string l, .string o, .string x], .bool true] ∧ l.size ≤ 1048576 ∧ o.size ≤ 1048576 ∧ x.size ≤ 1048576) ∨ Readl.readV t = .tuple #[.agg #[.string ⟨#[]⟩, .string ⟨#[]⟩, .string ⟨#[]⟩], .bool false] := by
  by_cases h : t.size ≤ 240 ∧ Lino.lineB (Readl.lT t) (Readl.oT t) (Readl.aT t) = true
  · refine .inl ⟨_, _, _, Readl.read_yes h.1 h.2, h.2, by unfold Lino.textB; rw [if_pos h.2], (Rounb.line_head h.2).2, Rounb.read_again h.2, ?_, ?_, ?_⟩
    · have := Readl.label_le (Readl.saidT t); have := Readl.said_le t; unfold Readl.lT; omega
    · have := Cuts.cutA_le (Readl.restT (Readl.saidT t)) 32; have := Readl.rest_le (Readl.saidT t); have := Readl.said_le t; unfold Readl.oT; omega
    · have := Trims.slimS_le (Cuts.cutB (Readl.restT (Readl.saidT t)) 32); have := Readl.cutB_le (Readl.restT (Readl.saidT t)) 32; have := Readl.rest_le (Readl.saidT t); have := Readl.said_le t; unfold Readl.aT; omega
  · exact .inr (Readl.read_no h)

set_option maxHeartbeats 2000000 in
theorem walk (w : World) (a0 : Option Addr) (len0 cap0 : Nat) (z0 : List Int) (w0 : IsRow .u8 w a0 len0 cap0 z0) :
    Calls Tryd.prog 3 #[.slice a0 len0 cap0] w fun e w' => e = .returned (.bool true) ∧ Below w.heap.size w w' := by
  have H : Hid (Rdr.IsRow .u8 w a0 len0 cap0 z0) := toRow w0
  clear w0
  have cb := Rdr.big_any a0 len0 cap0 w H.out.len
  by_cases hbig : Rdr.bigB len0 = true
  · rw [hbig] at cb
    go_enter Tryd.func3, Tryd.ntmps3
    go_wp2_with (go_at_call 4; refine cb.mono ?_; rintro e w' ⟨rfl, rfl⟩)
    go_ret
    exact ⟨rfl, Below.refl _ _⟩
  have hbig : Rdr.bigB len0 = false := by simpa using hbig
  rw [hbig] at cb
  go_enter Tryd.func3, Tryd.ntmps3
  go_wp2_with fail
  refine cb.mono ?_
  rintro e w' ⟨rfl, hw'⟩
  have hw' := hw'.symm
  subst hw'
  clear cb
  go_wp2_with fail
  refine (DrawM.drawText_any _ _ _ _ _ H.out).mono ?_
  rintro e w1 ⟨⟨l, o, x, hl, ho, hx, rfl⟩, hB1⟩
  have B1 : Hid (Below w.heap.size w w1) := hB1
  have z1 := hl.1
  have z2 := ho.1
  have z3 := hx.1
  have HX : Hid ((58 : UInt8) ∉ x.data.toList) := hx.2
  clear hl ho hx hB1
  have ct := fun w => Lino.implText_any l o x w (by omega) (by omega) (by omega)
  have cu := fun w => Lino.specText_any l o x w (by omega) (by omega) (by omega)
  have ck := fun w => Lino.implOk_any l o x w (by omega) (by omega) (by omega)
  have cm := fun w => Lino.specOk_any l o x w (by omega) (by omega) (by omega)
  have CB : Hid (Lino.lineB l o x = true → Lino.textB l o x = Lines.lineT l o x ∧ (Lines.lineT l o x).size ≤ 80 ∧ Readl.readV (Lines.lineT l o x) = .tuple #[.agg #[.string l, .string o, .string x], .bool true] ∧ Readl.readV (⟨#[32, 32]⟩ ++ Lines.lineT l o x ++ ⟨#[32, 59, 32, 120, 58, 32, 121]⟩) = .tuple #[.agg #[.string l, .string o, .string x], .bool true]) := fun h => comes_back h HX.out
  generalize Lino.lineB l o x = f at ck cm CB
  obtain ⟨T, hT⟩ : ∃ T, T = Lino.textB l o x := ⟨_, rfl⟩
  rw [← hT] at ct cu CB
  have hTz : T.size ≤ 80 := by rw [hT]; exact DrawM.textB_le _ _ _
  clear hT
  go_wp2_with fail
  refine (ct _).mono ?_
  rintro e w2 ⟨rfl, b2⟩
  have X2 : Hid (Box w2 w1.heap.size l o x) := (Readl.Box.new w1 _ _ _ _).below b2
  have B2 : Hid (Below w.heap.size w w2) := (Lines.grow B1.out _).trans (b2.mono (Lines.grow B1.out _).size)
  clear b2 ct B1
  go_upto_region 5 with fail
  go_cut [32] (fun v wx => v = .bool false ∧ Hid (Box wx w1.heap.size l o x) ∧ Hid (Below w.heap.size w wx))
  case first =>
    obtain ⟨⟨ba, bd⟩, ⟨bb, be⟩, ⟨bc, bf⟩⟩ := X2.out
    have hlt2 := X2.out.lt
    clear CB HX
    go_region_with (first
      | (go_at_call 7; refine (cu _).mono ?_; rintro e w3 ⟨rfl, b3⟩; have k3 := bcell b3; (try simp at k3); have z4 := b3.size; (try simp at z4); have z4a : w1.heap.size < w3.heap.size := (by omega); have H3 : Hid (Below _ _ w3) := b3; clear b3)
      | (go_at_call 8; refine (ck _).mono ?_; rintro e w4 ⟨rfl, b4⟩; have k4 := bcell b4; (try simp at k4); have z5 := b4.size; (try simp at z5); have z5a : w1.heap.size < w4.heap.size := (by omega); have H4 : Hid (Below _ _ w4) := b4; clear b4)
      | (go_at_call 9; refine (cm _).mono ?_; rintro e w5 ⟨rfl, b5⟩; have H5 : Hid (Below _ _ w5) := b5; clear b5)
      | fail)
    all_goals
      have q3 : Hid (Below w2.heap.size w2 w3) := ⟨H3.out.os, H3.out.tape, H3.out.output, H3.out.size, H3.out.block⟩
      have q4 : Hid (Below w3.heap.size w3 w4) := ⟨H4.out.os, H4.out.tape, H4.out.output, H4.out.size, H4.out.block⟩
      have q5 : Hid (Below w4.heap.size w4 w5) := ⟨H5.out.os, H5.out.tape, H5.out.output, H5.out.size, H5.out.block⟩
      have X5 : Hid (Box w5 w1.heap.size l o x) := ((X2.out.below q3.out).below q4.out).below q5.out
      have B3 : Hid (Below w.heap.size w w3) := B2.out.trans (q3.out.mono B2.out.size)
      have B4 : Hid (Below w.heap.size w w4) := B3.out.trans (q4.out.mono B3.out.size)
      have B5 : Hid (Below w.heap.size w w5) := B4.out.trans (q5.out.mono B4.out.size)
      go_wp2_with fail
      go_meet
      exact ⟨by first | rfl | (cases f <;> rfl) | simp, X5.out, B5.out⟩
  case rest =>
  obtain ⟨rfl, X3, B3⟩ := hcut
  clear X2 B2 cu cm
  obtain ⟨⟨ba, bd⟩, ⟨bb, be⟩, ⟨bc, bf⟩⟩ := X3.out
  go_wp2_with fail
  refine (ck _).mono ?_
  rintro e w3 ⟨rfl, b3⟩
  have X4 : Hid (Box w3 w1.heap.size l o x) := X3.out.below b3
  have B4 : Hid (Below w.heap.size w w3) := B3.out.trans (b3.mono B3.out.size)
  clear b3 X3 B3 ck ba bb bc bd be bf
  go_upto_if 34 with fail
  go_cut [] (fun wx => Hid (Below w.heap.size w wx))
  case first =>
    cases f with
    | false =>
      go_wp2_with fail
      go_meet
      exact B4.out
    | true =>
      obtain ⟨hT, hz, hr1, hr2⟩ := CB.out rfl
      rw [← hT] at hz hr1 hr2
      have c1 := fun w => Readl.implRead_any T w (by omega)
      have c2 := fun w => Readl.implRead_any (⟨#[32, 32]⟩ ++ T ++ ⟨#[32, 59, 32, 120, 58, 32, 121]⟩) w (by rw [ByteArray.size_append, ByteArray.size_append]; show 2 + _ + 7 ≤ _; omega)
      rw [hr1] at c1
      rw [hr2] at c2
      clear hr1 hr2 hT CB HX
      go_wp2_with fail
      refine (c1 _).mono ?_
      rintro e w4 ⟨rfl, b4⟩
      have X5 : Hid (Box w4 w1.heap.size l o x) := X4.out.below b4
      have B5 : Hid (Below w.heap.size w w4) := B4.out.trans (b4.mono B4.out.size)
      clear b4 X4 B4 c1
      go_wp2_with fail
      refine (c2 _).mono ?_
      rintro e w5 ⟨rfl, b5⟩
      have M6 : Hid (Box w5 w4.heap.size l o x) := (Readl.Box.new w4 _ _ _ _).below b5
      have X6 : Hid (Box w5 w1.heap.size l o x) := (X5.out.below (Lines.grow (Below.refl _ _) _)).below b5
      have B6 : Hid (Below w.heap.size w w5) := (Lines.grow B5.out _).trans (b5.mono (Lines.grow B5.out _).size)
      clear b5 X5 B5 c2
      obtain ⟨⟨ba, bd⟩, ⟨bb, be⟩, ⟨bc, bf⟩⟩ := X6.out
      obtain ⟨⟨ra, rd⟩, ⟨rb, re⟩, ⟨rc, rf⟩⟩ := M6.out
      have hlx := X6.out.lt
      have hlm := M6.out.lt
      have B7 : Hid (∀ o, Below w.heap.size w (w5.alloc o)) := fun o => Lines.grow B6.out o
      clear X6 M6 B6
      go_wp2_with fail
      go_meet
      exact B7.out _
  case rest =>
  have B5 := hcut
  clear hcut X4 B4 CB HX
  go_wp2_with fail
  refine (DrawM.drawRead_any _ _ _ _ _ (H.out.below B5.out)).mono ?_
  rintro e w4 ⟨⟨t, ht, rfl⟩, b4⟩
  have B6 : Hid (Below w.heap.size w w4) := B5.out.trans (b4.mono B5.out.size)
  clear b4 B5
  have ci := fun w => Readl.implRead_any t w (by omega)
  have cs := fun w => Readl.specRead_any t w (by omega)
  rcases read_cases t with ⟨l2, o2, x2, hv, hk, hT2, hz2, hr2, s1, s2, s3⟩ | hv
  · have ct := fun w => Lino.implText_any l2 o2 x2 w s1 s2 s3
    have ck := fun w => Lino.implOk_any l2 o2 x2 w s1 s2 s3
    have cr := fun w => Readl.implRead_any (Lines.lineT l2 o2 x2) w (by omega)
    rw [hv] at ci cs
    rw [hT2] at ct
    rw [hk] at ck
    rw [hr2] at cr
    generalize Lines.lineT l2 o2 x2 = T2 at ct cr
    clear hv hk hT2 hz2 hr2
    go_wp2_with fail
    refine (ci _).mono ?_
    rintro e w5 ⟨rfl, b5⟩
    have B7 : Hid (Below w.heap.size w w5) := B6.out.trans (b5.mono B6.out.size)
    clear b5 B6 ci
    go_wp2_with fail
    refine (cs _).mono ?_
    rintro e w6 ⟨rfl, b6⟩
    have X8 : Hid (Box w6 w5.heap.size l2 o2 x2) := (Readl.Box.new w5 _ _ _ _).below b6
    have B8 : Hid (Below w.heap.size w w6) := (Lines.grow B7.out _).trans (b6.mono (Lines.grow B7.out _).size)
    clear b6 B7 cs
    obtain ⟨⟨ba, bd⟩, ⟨bb, be⟩, ⟨bc, bf⟩⟩ := X8.out
    have hlx := X8.out.lt
    go_wp2_with fail
    refine (ct _).mono ?_
    rintro e w7 ⟨rfl, b7⟩
    have X9 : Hid (Box w7 w5.heap.size l2 o2 x2) := (X8.out.below (Lines.grow (Below.refl _ _) _)).below b7
    have B9 : Hid (Below w.heap.size w w7) := (Lines.grow B8.out _).trans (b7.mono (Lines.grow B8.out _).size)
    clear b7 X8 B8 ct ba bb bc bd be bf
    go_wp2_with fail
    refine (cr _).mono ?_
    rintro e w8 ⟨rfl, b8⟩
    have X10 : Hid (Box w8 w5.heap.size l2 o2 x2) := X9.out.below b8
    have B10 : Hid (Below w.heap.size w w8) := B9.out.trans (b8.mono B9.out.size)
    clear b8 X9 B9 cr
    obtain ⟨⟨ba, bd⟩, ⟨bb, be⟩, ⟨bc, bf⟩⟩ := X10.out
    have hlz := X10.out.lt
    go_wp2_with fail
    refine (ck _).mono ?_
    rintro e w9 ⟨rfl, b9⟩
    have X11 : Hid (Box w9 w5.heap.size l2 o2 x2) := (X10.out.below (Lines.grow (Below.refl _ _) _)).below b9
    have Y11 : Hid (Box w9 w8.heap.size l2 o2 x2) := (Readl.Box.new w8 _ _ _ _).below b9
    have B11 : Hid (Below w.heap.size w w9) := (Lines.grow B10.out _).trans (b9.mono (Lines.grow B10.out _).size)
    clear b9 X10 B10 ck ba bb bc bd be bf
    obtain ⟨⟨ba, bd⟩, ⟨bb, be⟩, ⟨bc, bf⟩⟩ := X11.out
    obtain ⟨⟨ra, rd⟩, ⟨rb, re⟩, ⟨rc, rf⟩⟩ := Y11.out
    go_wp2
    go_ret
    exact ⟨rfl, B11.out⟩
  · rw [hv] at ci cs
    clear hv
    go_wp2_with fail
    refine (ci _).mono ?_
    rintro e w5 ⟨rfl, b5⟩
    have B7 : Hid (Below w.heap.size w w5) := B6.out.trans (b5.mono B6.out.size)
    clear b5 B6 ci
    go_wp2_with fail
    refine (cs _).mono ?_
    rintro e w6 ⟨rfl, b6⟩
    have X8 : Hid (Box w6 w5.heap.size ⟨#[]⟩ ⟨#[]⟩ ⟨#[]⟩) := (Readl.Box.new w5 _ _ _ _).below b6
    have B8 : Hid (Below w.heap.size w w6) := (Lines.grow B7.out _).trans (b6.mono (Lines.grow B7.out _).size)
    clear b6 B7 cs
    obtain ⟨⟨ba, bd⟩, ⟨bb, be⟩, ⟨bc, bf⟩⟩ := X8.out
    have hlx := X8.out.lt
    have B9 : Hid (∀ o, Below w.heap.size w (w6.alloc o)) := fun o => Lines.grow B8.out o
    clear X8 B8
    go_wp2
    go_ret
    exact ⟨rfl, B9.out _⟩

set_option maxRecDepth 100000 in
theorem contract (H : Type) (enc : TypeId × Value → H) (W : World) (base : Nat) (args : Array Value) (ds gs : List (DataW H)) (before : List MemPlace)
    (hval : ∀ (j : Nat) t v, Tryd.f3.params[j]? = some t → args[j]? = some v → Value.okWide Tryd.prog W .any base t v)
    (hW : DataW.Whole enc Tryd.prog Tryd.f3.params.toList Rows.fnLinesSpec.vars false W args.toList ds gs before) (hL : laidMetH Tryd.prog Rows.fnLinesRow.laid W) :
    Calls Tryd.prog 3 args W fun e W' => ∃ v, e = .returned v ∧ Rows.fnLinesSpec.post enc Tryd.prog Tryd.f3 false true false false W args v W' := by
  have hW' := hW
  obtain ⟨p, q, hA0, hV, hbef, hfz, hnd⟩ := hW
  have hA : DataW.TrodAll enc Tryd.prog W 0 (fun _ => true) true Tryd.f3.params.toList args.toList ds p := hA0
  rw [Tryd.params3] at hA hval
  obtain ⟨v0, vs0, d0, ds0, p0, q0, hargs, rfl, rfl, h0, r0⟩ := trodAll_cons hA
  obtain ⟨rfl, rfl, rfl⟩ := trodAll_nil r0
  obtain rfl : args = #[v0] := by cases args; simp_all
  obtain ⟨rfl, rfl⟩ := trodVars_none hV
  obtain ⟨a0, len0, cap0, rfl⟩ := okWide_slice Tryd.underlying22 (hval 0 22 v0 rfl rfl)
  have k0 := h0
  have lt0 : ∀ x ∈ p0, x.block < W.heap.size := by obtain ⟨m, hm⟩ := k0; exact DataW.trod_lt m _ _ _ hm
  obtain ⟨z0, w0⟩ : ∃ zs, IsRow .u8 W a0 len0 cap0 zs := by
    obtain ⟨fuel, hf⟩ := h0
    rcases open_ints Tryd.underlying22 Tryd.underlying5 (by kernel_rfl) hf with ⟨hcs, _⟩ | ⟨x, l, c, zs, hcs, _, hl, hm, hz, _, hcell, hwz⟩
    · simp [Value.cells] at hcs
      obtain ⟨rfl, rfl, rfl⟩ := hcs
      exact ⟨[], .inl ⟨rfl, rfl, rfl, rfl⟩⟩
    · simp [Value.cells] at hcs
      obtain ⟨rfl, rfl, rfl⟩ := hcs
      exact ⟨zs, .inr ⟨_, rfl, hl, hm, by simpa using hz, hcell, hwz⟩⟩
  clear hA0
  refine (walk W a0 len0 cap0 z0 w0).mono fun e W' ⟨he, bel⟩ => ?_
  subst he
  exact ⟨_, rfl, _, _, _, [], _, [], hW', trodAll_mk1 (shut_bool Tryd.underlying4 _), (trodAll_cons_mk (Below.trod laidOut (by kernel_rfl) (of_decide_eq_true (by kernel_rfl)) k0 bel lt0) trodAll_mk0), rfl, bel.frame _, fun h => by cases h⟩

/-- A world for the witness: the settled one, the table holding what its initialiser lays. -/
noncomputable def laidWorld (os : Os) : World :=
  { World.holding Tryd.prog os ⟨#[], #[], []⟩ with heap := (fun h => h.modify 2 fun | .cells _ t frozen => .cells #[.int .u8 128, .int .u8 191, .int .u8 160, .int .u8 191, .int .u8 128, .int .u8 159, .int .u8 144, .int .u8 191, .int .u8 128, .int .u8 143, .int .u8 0, .int .u8 0, .int .u8 0, .int .u8 0, .int .u8 0, .int .u8 0, .int .u8 0, .int .u8 0, .int .u8 0, .int .u8 0, .int .u8 0, .int .u8 0, .int .u8 0, .int .u8 0, .int .u8 0, .int .u8 0, .int .u8 0, .int .u8 0, .int .u8 0, .int .u8 0, .int .u8 0, .int .u8 0] t frozen | o => o) <| (fun h => h.modify 1 fun | .cells _ t frozen => .cells ((Go.Pinned.utf8FirstZ).map fun n => Value.int .u8 (n : Nat)).toArray t frozen | o => o) <| (World.holding Tryd.prog os ⟨#[], #[], []⟩).heap }
theorem laid_met (os : Os) : laidMet Tryd.prog Rows.fnLinesRow.laid ((laidWorld os).forCall (fun _ _ => 0) ⟨#[], #[.slice none 0 0], []⟩).memory :=
  laidMet_of_run' 8 (by kernel_rfl) (by kernel_rfl)
theorem reads (os : Os) {H : Type} (enc : TypeId × Value → H) : ∃ places, DataW.whole enc Tryd.prog ((laidWorld os).forCall (fun _ _ => 0) ⟨#[], #[.slice none 0 0], []⟩).memory Tryd.f3.params.toList Rows.fnLinesSpec.vars false [.slice none 0 0] 8 = some ([.nil], [], places) :=
  ⟨[], by kernel_rfl⟩

set_option maxRecDepth 100000 in
theorem lifted (os : Os) (started : os.Started) (H : Type) (enc : TypeId × Value → H) (F : Stop.Interp) :
    ReturnsInHanded {} Tryd.checked os 3 .any ((OpenSpec.ofChange Rows.fnLinesSpec).preRow enc Tryd.prog Tryd.f3 Rows.fnLinesRow.domain false Rows.fnLinesRow.laid) (((OpenSpec.ofChange Rows.fnLinesSpec).at F).post enc Tryd.prog Tryd.f3 false true false false) := by
  obtain ⟨places, hx⟩ := reads os enc
  refine returnsInHanded_of_row (C := Tryd.checked) (s := OpenSpec.ofChange Rows.fnLinesSpec) own started (by kernel_rfl) Tryd.func3
    (witness_row_at (enc := enc) (C := Tryd.checked) false (laidWorld os) #[.slice none 0 0] rfl (by kernel_rfl) (by kernel_rfl) (by kernel_rfl)
      (OpenSpec.preRow_of_cond 8 hx (by kernel_rfl) (fun k hk => by cases hk) (by kernel_rfl) (laid_met os))) ?_
  intro W base args ds gs before hval hW _ _ _ hL _ _
  exact contract H enc W base args ds gs before hval hW hL

theorem said : Rows.FnLinesSaid :=
  OpenClaim.holds_of_cond 3 Tryd.f3 rfl rfl rfl rfl rfl rfl rfl ⟨rfl, rfl, rfl, rfl, rfl⟩ rfl rfl rfl rfl rfl (by kernel_rfl) Tryd.func3 (by kernel_rfl)
    (of_decide_eq_true (by kernel_rfl)) (by unfold Func.isWrapper; first | (rw [if_pos (by decide +kernel)]; kernel_rfl) | (rw [if_neg (by decide +kernel)]; exact ⟨rfl, rfl⟩))
    (fun os started H enc _ F => by rw [OpenClaim.pre_eq_preRow]; exact lifted os started H enc F)

theorem plain (f : FuncId) (fn : Func) (hf : Tryd.pinned.checked.prog.funcNamed "loop.example/g00460/laws.FnLines" = some f) (hfn : Tryd.pinned.checked.prog.funcs[f]? = some fn) :
    false = Tryd.pinned.checked.prog.looks [] ∧ ∀ (j : Nat) t, fn.params[j]? = some t → Tryd.pinned.checked.prog.wantsStandIn t = false := by
  obtain rfl : f = 3 := Option.some.inj ((show Tryd.prog.funcNamed "loop.example/g00460/laws.FnLines" = some 3 by kernel_rfl).symm.trans hf) |>.symm
  obtain rfl : fn = Tryd.f3 := (Option.some.inj (Tryd.func3.symm.trans hfn)).symm
  refine ⟨by kernel_rfl, fun j t ht => ?_⟩
  rw [Tryd.params3] at ht
  have h : t = 22 := by simpa using Array.mem_of_getElem? ht
  subst h
  exact (show Tryd.prog.wantsStandIn 22 = false by kernel_rfl)

theorem card : Rows.FnLinesCardSaid :=
  Claim7.holds_tied_plain_at .later [] _ _ _ _ said (fun _ h => by cases h) (by kernel_rfl) (fun _ h => by cases h) fnLines_row_tie rfl ⟨rfl, rfl⟩ (by kernel_rfl) rfl plain (by kernel_rfl)
end Go.Proofs.YtcjipfjbbdbbgaaDoor.fnLines
namespace Go.Proofs.YtcjipfjbbdbbgaaDoor
theorem fnLines_holds : Rows.FnLinesCardSaid := fnLines.card
end Go.Proofs.YtcjipfjbbdbbgaaDoor
