/- For every slice of bytes the law FnExprTexts answers true, that is, a right expression drawn from them comes back from its text, and what is read of a drawn text, written again, has just its bytes; program and specification agree at both; the tables of the program and of the library hold what the row says. -/
import Derived.Test.YtfgabgihdcokdaaDoorCards
import Derived.Test.YtfgabgihdcokdaaDoorTie
import Derived.WalkKit
import Derived.ProofKit
import Derived.OpenShut
import Derived.ShutString
import Derived.ChangeOld
import Derived.ChangeVars
import Derived.OpenVars
import Derived.Below
import Derived.Deep.DeepHandedRow
import Derived.Lib.LaidTab
import Derived.Test.YtfgabgihdcokdaaDoorDrawE
import Derived.HandedShaped
import Derived.Test.YtfgabgihdcokdaaDoorLaid
namespace Go.Proofs.YtfgabgihdcokdaaDoor.fnExprTexts
open Go.ChangeShapes Go.WideShapes Go.ChangeAt Go.RowKit
open Go.ChangeMaps (open_string shut_string)
set_option linter.unusedVariables false

theorem own : ownKnob Tryd.prog.godebug = none := by kernel_rfl
theorem laidOut : laidOutB Tryd.prog = true := by kernel_rfl
theorem rowed : varsRowed Tryd.prog Rows.fnExprTextsSpec.vars = true := by kernel_rfl

/-- What the walk is told of a slice of bytes that came in: it is nil; or it leads to a row of cells, the numbers zs, each fitting its kind. -/
def IsRow (k : IntKind) (w : World) (a : Option Addr) (len cap : Nat) (zs : List Int) : Prop :=
  (a = none ∧ len = 0 ∧ cap = 0 ∧ zs = []) ∨
  ∃ x, a = some x ∧ len ≤ cap ∧ cap ≤ maxLen ∧ zs.length = cap ∧ (∀ i, i < zs.length → w.cell? (x.add i) = some (.int k (zs.getD i 0))) ∧ ∀ n ∈ zs, (Lit.int k n).wf = true

theorem tables {W : World} (h : laidMetH Tryd.prog Rows.fnExprTextsRow.laid W) : Optx.OpTab W ∧ Optx.Pow W ∧ Nums.Tab W := by
  obtain ⟨q0, L0, _⟩ : laidMet Tryd.prog Rows.fnExprTextsRow.laid W := h
  obtain ⟨q1, L1⟩ := Laid.skip L0
  obtain ⟨q2, L2⟩ := Laid.skip L1
  have tp := Laid.tab (P := Tryd.prog) (k := .u64) (zs := Lib.pow10Tab) (show Tryd.prog.globalNamed "internal/strconv.uint64pow10" = some 1 by kernel_rfl) (show (Tryd.prog.globals[1]?).map (·.type) = some 146 by kernel_rfl) Tryd.underlying146 Tryd.underlying128 (by kernel_rfl) (by kernel_rfl) L2
  obtain ⟨q3, L3⟩ := Laid.skip L2
  obtain ⟨q4, L4⟩ := Laid.skip L3
  have t4 := Laid.nums (P := Tryd.prog) (k := .u8) (zs := [48, 49, 50, 51, 52, 53, 54, 55, 56, 57, 65, 66, 67, 68, 69, 70]) (show Tryd.prog.globalNamed "loop.example/g00460/impl.hexDigits" = some 3 by kernel_rfl) (show (Tryd.prog.globals[3]?).map (·.type) = some 149 by kernel_rfl) Tryd.underlying149 Tryd.underlying5 (by kernel_rfl) (by kernel_rfl) L4
  obtain ⟨q5, L5⟩ := Laid.skip L4
  have t5 := Laid.txts (P := Tryd.prog) (l := [[110, 101, 103], [110, 111, 116], [104, 105, 103, 104], [108, 111, 119], [43], [45], [42], [47], [37], [38], [94], [124], [60, 60], [62, 62]]) (show Tryd.prog.globalNamed "loop.example/g00460/impl.opTexts" = some 0 by kernel_rfl) (show (Tryd.prog.globals[0]?).map (·.type) = some 79 by kernel_rfl) Tryd.underlying79 Tryd.underlying9 (by kernel_rfl) (by kernel_rfl) L5
  obtain ⟨q6, L6⟩ := Laid.skip L5
  obtain ⟨q7, L7⟩ := Laid.skip L6
  exact ⟨fun i hi => (t5 i hi).trans (by match i, hi with | 0, _ => rfl | 1, _ => rfl | 2, _ => rfl | 3, _ => rfl | 4, _ => rfl | 5, _ => rfl | 6, _ => rfl | 7, _ => rfl | 8, _ => rfl | 9, _ => rfl | 10, _ => rfl | 11, _ => rfl | 12, _ => rfl | 13, _ => rfl), tp, fun i hi => t4 i hi⟩
theorem toRow {k : IntKind} {w : World} {a : Option Addr} {len cap : Nat} {zs : List Int} (h : IsRow k w a len cap zs) : Rdr.IsRow k w a len cap zs := h
theorem same_list (s : ByteArray) : (s.toList == s.toList) = true := by simp

set_option maxHeartbeats 2000000 in
theorem walk (w : World) (a0 : Option Addr) (len0 cap0 : Nat) (z0 : List Int) (w0 : IsRow .u8 w a0 len0 cap0 z0) (hT : Optx.OpTab w ∧ Optx.Pow w ∧ Nums.Tab w) (hm : Wort.MaxL w) :
    Calls Tryd.prog 3 #[.slice a0 len0 cap0] w fun e w' => e = .returned (.bool true) ∧ Below w.heap.size w w' := by
  have HX : Hid ((Optx.OpTab w ∧ Optx.Pow w ∧ Nums.Tab w) ∧ Wort.MaxL w) := ⟨hT, hm⟩
  clear hT hm
  have H : Hid (Rdr.IsRow .u8 w a0 len0 cap0 z0) := toRow w0
  clear w0
  have cb := Rdr.big_any a0 len0 cap0 w H.out.len
  by_cases hbig : Rdr.bigB len0 = true
  · rw [hbig] at cb
    clear HX
    go_enter Tryd.func3, Tryd.ntmps3
    go_wp2_with (go_at_call 6; refine cb.mono ?_; rintro e w' ⟨rfl, rfl⟩)
    go_ret
    exact ⟨rfl, Below.refl _ _⟩
  have hbig : Rdr.bigB len0 = false := by simpa using hbig
  rw [hbig] at cb
  go_enter Tryd.func3, Tryd.ntmps3
  go_wp2_with fail
  refine cb.mono ?_
  rintro e w' ⟨rfl, rfl⟩
  go_wp2_with fail
  refine (Cmpf.drawExprText_any _ _ _ _ _ H.out).mono ?_
  rintro e w2 ⟨⟨a2, cap2, L, rfl, ho2, hl, hn⟩, hb2⟩
  have N2 : Hid (Stepx.Nodes w2 a2 L) := Nodm.nodes_own ho2 (fun x hx => Nat.le_trans (hn x hx).1 (by decide))
  have B2 : Hid (Below w'.heap.size w' w2) := hb2
  have OT : Hid ((Wors.outI (Extx.exprT L)).isSome = Stepx.exprB L ∧ (Stepx.exprB L = true → Wors.lst (Wors.outI (Extx.exprT L)) = L)) := DrawE.out_text (fun x hx => (hn x hx).2)
  clear ho2 hb2 hn cb
  have hz := DrawE.text_len L
  have ci := fun w hN hT hP => Extx.implText_any a2 cap2 L w hN (by omega) hT hP
  have cs := fun w hN => Exts.specText_any a2 cap2 L w hN (by omega)
  have oi := fun w hN => Worr.implOk_any a2 cap2 L w hN (by omega)
  have os := fun w hN => Specx.exprOk_any a2 cap2 L w hN (by omega)
  have ri := fun w hT hP hX hm => Wort.implRead_any (Extx.exprT L) w (by omega) hT hP hX hm
  have sm := fun a cap w h h' => DrawE.sameExpr_any a a2 cap cap2 L w h h' (by omega)
  generalize Wors.outI (Extx.exprT L) = O at *
  generalize Extx.exprT L = s at *
  have q0 := same_list s
  have q1 : (s.toList != s.toList) = false := by rw [bne, q0]; rfl
  go_wp2_with fail
  refine (ci _ N2.out (HX.out.1.1.below B2.out) (HX.out.1.2.1.below B2.out)).mono ?_
  rintro e w3 ⟨rfl, b3⟩
  have B3 : Hid (Below w'.heap.size w' w3) := B2.out.trans (b3.mono B2.out.size)
  have N3 : Hid (Stepx.Nodes w3 a2 L) := Mirror.Nodes.below N2.out b3
  clear b3 B2 N2 ci
  go_wp2_with fail
  refine (ri _ (HX.out.1.1.below B3.out) (HX.out.1.2.1.below B3.out) (Nodi.tab_below HX.out.1.2.2 B3.out) (HX.out.2.below B3.out)).mono ?_
  rintro e w4 ⟨a4, cap4, rfl, o4, z4, l4, b4⟩
  have B4 : Hid (Below w'.heap.size w' w4) := B3.out.trans (b4.mono B3.out.size)
  have N4 : Hid (Stepx.Nodes w4 a2 L) := Mirror.Nodes.below N3.out b4
  have F4 : Hid (Stepx.Nodes w4 a4 (Wors.lst O)) := Nodm.nodes_own o4 z4
  clear b4 B3 N3 o4 z4 l4 ri
  obtain ⟨r, hr⟩ : ∃ r, Stepx.exprB L = r := ⟨_, rfl⟩
  rw [hr] at oi os OT
  rw [OT.out.1]
  clear hr
  obtain ⟨v4, hv4⟩ : ∃ v, v = Value.slice a4 (Wors.lst O).length cap4 := ⟨_, rfl⟩
  have S4 : Hid (r = true → ∀ W, Below w4.heap.size w4 W → Calls Tryd.prog 13 #[v4, .slice a2 L.length cap2] W fun e w' => e = .returned (.bool true) ∧ Below W.heap.size W w') := fun h W hW => by
    have e := OT.out.2 h
    rw [hv4, e]
    have f4 := F4.out
    rw [e] at f4
    exact sm a4 cap4 W (Mirror.Nodes.below f4 hW) (Mirror.Nodes.below N4.out hW)
  rw [← hv4]
  clear hv4 F4 OT sm
  go_wp2_with fail
  refine (cs _ N4.out).mono ?_
  rintro e w5 ⟨rfl, b5⟩
  have C5 : Hid (Below w4.heap.size w4 w5) := b5
  clear b5 cs
  go_wp2_with fail
  refine (oi _ (Mirror.Nodes.below N4.out C5.out)).mono ?_
  rintro e w6 ⟨rfl, b6⟩
  have C6 : Hid (Below w4.heap.size w4 w6) := C5.out.trans (b6.mono C5.out.size)
  clear b6 C5
  have r1 : (r == r) = true := by simp
  have r2 : (r != r) = false := by simp
  go_wp2_with fail
  refine (oi _ (Mirror.Nodes.below N4.out C6.out)).mono ?_
  rintro e w7 ⟨rfl, b7⟩
  have C7 : Hid (Below w4.heap.size w4 w7) := C6.out.trans (b7.mono C6.out.size)
  clear b7 C6 oi
  go_wp2_with fail
  refine (os _ (Mirror.Nodes.below N4.out C7.out)).mono ?_
  rintro e w8 ⟨rfl, b8⟩
  have C8 : Hid (Below w4.heap.size w4 w8) := C7.out.trans (b8.mono C7.out.size)
  clear b8 C7 os
  cases r with
  | false =>
    have B9 : Hid (Below w'.heap.size w' w8) := B4.out.trans (C8.out.mono B4.out.size)
    go_wp2_with fail
    refine (DrawE.drawReadExpr_any _ _ _ _ _ (H.out.below B9.out)).mono ?_
    rintro e wA ⟨⟨t, ht, rfl⟩, bA⟩
    have BA : Hid (Below w'.heap.size w' wA) := B9.out.trans (bA.mono B9.out.size)
    clear bA
    have ri2 := fun w hT hP hX hm => Wort.implRead_any t w (by omega) hT hP hX hm
    have rs2 := fun w => Wors.specRead_any t w (by omega)
    rw [← Woru.same] at rs2
    have BT : Hid ((Wors.outI t).isSome = true → Extx.exprT (Wors.lst (Wors.outI t)) = t) := DrawE.back_text
    generalize Wors.outI t = O2 at *
    have t0 := same_list t
    go_wp2_with fail
    refine (ri2 _ (HX.out.1.1.below BA.out) (HX.out.1.2.1.below BA.out) (Nodi.tab_below HX.out.1.2.2 BA.out) (HX.out.2.below BA.out)).mono ?_
    rintro e wB ⟨aB, capB, rfl, oB, zB, lB, bB⟩
    have NB : Hid (Stepx.Nodes wB aB (Wors.lst O2)) := Nodm.nodes_own oB zB
    have BB : Hid (Below w'.heap.size w' wB) := BA.out.trans (bB.mono BA.out.size)
    clear oB zB bB ri2
    go_wp2_with fail
    refine (rs2 _).mono ?_
    rintro e wC ⟨aC, capC, rfl, oC, zC, lC, bC⟩
    have NC : Hid (Stepx.Nodes wC aB (Wors.lst O2)) := Mirror.Nodes.below NB.out bC
    have BC : Hid (Below w'.heap.size w' wC) := BB.out.trans (bC.mono BB.out.size)
    clear oC zC bC rs2 NB BB lC
    have ct := fun w hN hT hP => Extx.implText_any aB capB (Wors.lst O2) w hN (by omega) hT hP
    obtain ⟨fl, hfl⟩ : ∃ fl, O2.isSome = fl := ⟨_, rfl⟩
    rw [hfl] at BT ⊢
    clear hfl
    cases fl with
    | false =>
      go_wp2_with fail
      go_ret
      exact ⟨rfl, BC.out⟩
    | true =>
      rw [BT.out rfl] at ct
      go_wp2_with fail
      refine (ct _ NC.out (HX.out.1.1.below BC.out) (HX.out.1.2.1.below BC.out)).mono ?_
      rintro e wD ⟨rfl, bD⟩
      have BD : Hid (Below w'.heap.size w' wD) := BC.out.trans (bD.mono BC.out.size)
      clear bD
      go_wp2_with fail
      go_ret
      exact ⟨rfl, BD.out⟩
  | true =>
    go_wp2_with fail
    refine (S4.out (by simp) w8 C8.out).mono ?_
    rintro e w9 ⟨rfl, b9⟩
    have C9 : Hid (Below w4.heap.size w4 w9) := C8.out.trans (b9.mono C8.out.size)
    clear b9 S4
    have B9 : Hid (Below w'.heap.size w' w9) := B4.out.trans (C9.out.mono B4.out.size)
    go_wp2_with fail
    refine (DrawE.drawReadExpr_any _ _ _ _ _ (H.out.below B9.out)).mono ?_
    rintro e wA ⟨⟨t, ht, rfl⟩, bA⟩
    have BA : Hid (Below w'.heap.size w' wA) := B9.out.trans (bA.mono B9.out.size)
    clear bA
    have ri2 := fun w hT hP hX hm => Wort.implRead_any t w (by omega) hT hP hX hm
    have rs2 := fun w => Wors.specRead_any t w (by omega)
    rw [← Woru.same] at rs2
    have BT : Hid ((Wors.outI t).isSome = true → Extx.exprT (Wors.lst (Wors.outI t)) = t) := DrawE.back_text
    generalize Wors.outI t = O2 at *
    have t0 := same_list t
    go_wp2_with fail
    refine (ri2 _ (HX.out.1.1.below BA.out) (HX.out.1.2.1.below BA.out) (Nodi.tab_below HX.out.1.2.2 BA.out) (HX.out.2.below BA.out)).mono ?_
    rintro e wB ⟨aB, capB, rfl, oB, zB, lB, bB⟩
    have NB : Hid (Stepx.Nodes wB aB (Wors.lst O2)) := Nodm.nodes_own oB zB
    have BB : Hid (Below w'.heap.size w' wB) := BA.out.trans (bB.mono BA.out.size)
    clear oB zB bB ri2
    go_wp2_with fail
    refine (rs2 _).mono ?_
    rintro e wC ⟨aC, capC, rfl, oC, zC, lC, bC⟩
    have NC : Hid (Stepx.Nodes wC aB (Wors.lst O2)) := Mirror.Nodes.below NB.out bC
    have BC : Hid (Below w'.heap.size w' wC) := BB.out.trans (bC.mono BB.out.size)
    clear oC zC bC rs2 NB BB lC
    have ct := fun w hN hT hP => Extx.implText_any aB capB (Wors.lst O2) w hN (by omega) hT hP
    obtain ⟨fl, hfl⟩ : ∃ fl, O2.isSome = fl := ⟨_, rfl⟩
    rw [hfl] at BT ⊢
    clear hfl
    cases fl with
    | false =>
      go_wp2_with fail
      go_ret
      exact ⟨rfl, BC.out⟩
    | true =>
      rw [BT.out rfl] at ct
      go_wp2_with fail
      refine (ct _ NC.out (HX.out.1.1.below BC.out) (HX.out.1.2.1.below BC.out)).mono ?_
      rintro e wD ⟨rfl, bD⟩
      have BD : Hid (Below w'.heap.size w' wD) := BC.out.trans (bD.mono BC.out.size)
      clear bD
      go_wp2_with fail
      go_ret
      exact ⟨rfl, BD.out⟩

set_option maxRecDepth 100000 in
theorem contract (H : Type) (enc : TypeId × Value → H) (W : World) (base : Nat) (args : Array Value) (ds gs : List (DataW H)) (before : List MemPlace)
    (hval : ∀ (j : Nat) t v, Tryd.f3.params[j]? = some t → args[j]? = some v → Value.okWide Tryd.prog W .any base t v)
    (hW : DataW.Whole enc Tryd.prog Tryd.f3.params.toList Rows.fnExprTextsSpec.vars false W args.toList ds gs before) (hL : laidMetH Tryd.prog Rows.fnExprTextsRow.laid W) (hsh : W.ShapedOpen Tryd.prog) :
    Calls Tryd.prog 3 args W fun e W' => ∃ v, e = .returned v ∧ Rows.fnExprTextsSpec.post enc Tryd.prog Tryd.f3 false true false false W args v W' := by
  have hW' := hW
  obtain ⟨p, q, hA0, hV, hbef, hfz, hnd⟩ := hW
  have hA : DataW.TrodAll enc Tryd.prog W 0 (fun _ => true) true Tryd.f3.params.toList args.toList ds p := hA0
  have hVk : DataW.TrodVars enc Tryd.prog W (fun _ => true) Rows.fnExprTextsSpec.vars gs q := hV
  rw [Tryd.params3] at hA hval
  obtain ⟨v0, vs0, d0, ds0, p0, q0, hargs, rfl, rfl, h0, r0⟩ := trodAll_cons hA
  obtain ⟨rfl, rfl, rfl⟩ := trodAll_nil r0
  obtain rfl : args = #[v0] := by cases args; simp_all
  obtain ⟨g1, g2, rfl⟩ : ∃ g1 g2, gs = [g1, g2] := by
    have hl := Laid.vars_len hVk
    match gs, hl with
    | [g1, g2], _ => exact ⟨_, _, rfl⟩
  obtain ⟨a0, len0, cap0, rfl⟩ := okWide_slice Tryd.underlying22 (hval 0 22 v0 rfl rfl)
  have k0 := h0
  have lt0 : ∀ x ∈ p0, x.block < W.heap.size := by obtain ⟨m, hm⟩ := k0; exact DataW.trod_lt m _ _ _ hm
  obtain ⟨z0, w0⟩ : ∃ zs, IsRow .u8 W a0 len0 cap0 zs := by
    obtain ⟨fuel, hf⟩ := h0
    rcases open_ints Tryd.underlying22 Tryd.underlying5 (by kernel_rfl) hf with ⟨hcs, _⟩ | ⟨x, l, c, zs, hcs, _, hl, hm, hz, _, hcell, hwz⟩
    · simp [Value.cells] at hcs
      obtain ⟨rfl, rfl, rfl⟩ := hcs
      exact ⟨[], .inl ⟨rfl, rfl, rfl, rfl⟩⟩
    · simp [Value.cells] at hcs
      obtain ⟨rfl, rfl, rfl⟩ := hcs
      exact ⟨zs, .inr ⟨_, rfl, hl, hm, by simpa using hz, hcell, hwz⟩⟩
  clear hA0
  refine (walk W a0 len0 cap0 z0 w0 (tables hL) (Tryd.laysM146.s1_3 W hsh)).mono fun e W' ⟨he, bel⟩ => ?_
  subst he
  exact ⟨_, rfl, _, _, _, [], _, q, hW', trodAll_mk1 (shut_bool Tryd.underlying4 _), (trodAll_cons_mk (Below.trod laidOut (by kernel_rfl) (of_decide_eq_true (by kernel_rfl)) k0 bel lt0) trodAll_mk0), Below.trodVars laidOut bel rowed hVk, bel.frame _, fun h => by cases h⟩

/-- A world for the witness: the settled one, the table holding what its initialiser lays. -/
noncomputable def laidWorld (os : Os) : World :=
  { World.holding Tryd.prog os ⟨#[], #[], []⟩ with heap := (fun h => h.modify 6 fun | .cells _ t frozen => .cells #[.int .u8 0, .int .u8 1, .int .u8 28, .int .u8 2, .int .u8 29, .int .u8 14, .int .u8 24, .int .u8 3, .int .u8 30, .int .u8 22, .int .u8 20, .int .u8 15, .int .u8 25, .int .u8 17, .int .u8 4, .int .u8 8, .int .u8 31, .int .u8 27, .int .u8 13, .int .u8 23, .int .u8 21, .int .u8 19, .int .u8 16, .int .u8 7, .int .u8 26, .int .u8 12, .int .u8 18, .int .u8 6, .int .u8 11, .int .u8 5, .int .u8 10, .int .u8 9] t frozen | o => o) <| (fun h => h.modify 7 fun | .cells _ t frozen => .cells #[.int .u8 0, .int .u8 1, .int .u8 56, .int .u8 2, .int .u8 57, .int .u8 49, .int .u8 28, .int .u8 3, .int .u8 61, .int .u8 58, .int .u8 42, .int .u8 50, .int .u8 38, .int .u8 29, .int .u8 17, .int .u8 4, .int .u8 62, .int .u8 47, .int .u8 59, .int .u8 36, .int .u8 45, .int .u8 43, .int .u8 51, .int .u8 22, .int .u8 53, .int .u8 39, .int .u8 33, .int .u8 30, .int .u8 24, .int .u8 18, .int .u8 12, .int .u8 5, .int .u8 63, .int .u8 55, .int .u8 48, .int .u8 27, .int .u8 60, .int .u8 41, .int .u8 37, .int .u8 16, .int .u8 46, .int .u8 35, .int .u8 44, .int .u8 21, .int .u8 52, .int .u8 32, .int .u8 23, .int .u8 11, .int .u8 54, .int .u8 26, .int .u8 40, .int .u8 15, .int .u8 34, .int .u8 20, .int .u8 31, .int .u8 10, .int .u8 25, .int .u8 14, .int .u8 19, .int .u8 9, .int .u8 13, .int .u8 8, .int .u8 7, .int .u8 6] t frozen | o => o) <| (fun h => h.modify 1 fun | .cells _ t frozen => .cells #[.int .u64 1, .int .u64 10, .int .u64 100, .int .u64 1000, .int .u64 10000, .int .u64 100000, .int .u64 1000000, .int .u64 10000000, .int .u64 100000000, .int .u64 1000000000, .int .u64 10000000000, .int .u64 100000000000, .int .u64 1000000000000, .int .u64 10000000000000, .int .u64 100000000000000, .int .u64 1000000000000000, .int .u64 10000000000000000, .int .u64 100000000000000000, .int .u64 1000000000000000000, .int .u64 10000000000000000000] t frozen | o => o) <| (fun h => h.modify 5 fun | .cells _ t frozen => .cells #[.int .u8 128, .int .u8 191, .int .u8 160, .int .u8 191, .int .u8 128, .int .u8 159, .int .u8 144, .int .u8 191, .int .u8 128, .int .u8 143, .int .u8 0, .int .u8 0, .int .u8 0, .int .u8 0, .int .u8 0, .int .u8 0, .int .u8 0, .int .u8 0, .int .u8 0, .int .u8 0, .int .u8 0, .int .u8 0, .int .u8 0, .int .u8 0, .int .u8 0, .int .u8 0, .int .u8 0, .int .u8 0, .int .u8 0, .int .u8 0, .int .u8 0, .int .u8 0] t frozen | o => o) <| (fun h => h.modify 3 fun | .cells _ t frozen => .cells #[.int .u8 48, .int .u8 49, .int .u8 50, .int .u8 51, .int .u8 52, .int .u8 53, .int .u8 54, .int .u8 55, .int .u8 56, .int .u8 57, .int .u8 65, .int .u8 66, .int .u8 67, .int .u8 68, .int .u8 69, .int .u8 70] t frozen | o => o) <| (fun h => h.modify 0 fun | .cells _ t frozen => .cells #[.string ⟨#[110, 101, 103]⟩, .string ⟨#[110, 111, 116]⟩, .string ⟨#[104, 105, 103, 104]⟩, .string ⟨#[108, 111, 119]⟩, .string ⟨#[43]⟩, .string ⟨#[45]⟩, .string ⟨#[42]⟩, .string ⟨#[47]⟩, .string ⟨#[37]⟩, .string ⟨#[38]⟩, .string ⟨#[94]⟩, .string ⟨#[124]⟩, .string ⟨#[60, 60]⟩, .string ⟨#[62, 62]⟩] t frozen | o => o) <| (fun h => h.modify 4 fun | .cells _ t frozen => .cells ((Go.Pinned.utf8FirstZ).map fun n => Value.int .u8 (n : Nat)).toArray t frozen | o => o) <| (World.holding Tryd.prog os ⟨#[], #[], []⟩).heap }
theorem laid_met (os : Os) : laidMet Tryd.prog Rows.fnExprTextsRow.laid ((laidWorld os).forCall (fun _ _ => 0) ⟨#[], #[.slice none 0 0], []⟩).memory :=
  laidMet_of_run' 8 (by kernel_rfl) (by kernel_rfl)
theorem reads (os : Os) {H : Type} (enc : TypeId × Value → H) : ∃ places, DataW.whole enc Tryd.prog ((laidWorld os).forCall (fun _ _ => 0) ⟨#[], #[.slice none 0 0], []⟩).memory Tryd.f3.params.toList Rows.fnExprTextsSpec.vars false [.slice none 0 0] 8 = some ([.nil], [.agg [.lit (.string [110, 101, 103]), .lit (.string [110, 111, 116]), .lit (.string [104, 105, 103, 104]), .lit (.string [108, 111, 119]), .lit (.string [43]), .lit (.string [45]), .lit (.string [42]), .lit (.string [47]), .lit (.string [37]), .lit (.string [38]), .lit (.string [94]), .lit (.string [124]), .lit (.string [60, 60]), .lit (.string [62, 62])], .agg [.lit (.int .u8 48), .lit (.int .u8 49), .lit (.int .u8 50), .lit (.int .u8 51), .lit (.int .u8 52), .lit (.int .u8 53), .lit (.int .u8 54), .lit (.int .u8 55), .lit (.int .u8 56), .lit (.int .u8 57), .lit (.int .u8 65), .lit (.int .u8 66), .lit (.int .u8 67), .lit (.int .u8 68), .lit (.int .u8 69), .lit (.int .u8 70)]], places) :=
  ⟨MemPlace.row ⟨0, 0, none⟩ 14 ++ MemPlace.row ⟨3, 0, none⟩ 16, by kernel_rfl⟩

set_option maxRecDepth 100000 in
theorem lifted (os : Os) (started : os.Started) (H : Type) (enc : TypeId × Value → H) (F : Stop.Interp) :
    ReturnsInHanded {} Tryd.checked os 3 .any ((OpenSpec.ofChange Rows.fnExprTextsSpec).preRow enc Tryd.prog Tryd.f3 Rows.fnExprTextsRow.domain false Rows.fnExprTextsRow.laid) (((OpenSpec.ofChange Rows.fnExprTextsSpec).at F).post enc Tryd.prog Tryd.f3 false true false false) := by
  obtain ⟨places, hx⟩ := reads os enc
  refine returnsInHanded_of_row (C := Tryd.checked) (s := OpenSpec.ofChange Rows.fnExprTextsSpec) own started (by kernel_rfl) Tryd.func3
    (witness_row_at (enc := enc) (C := Tryd.checked) false (laidWorld os) #[.slice none 0 0] rfl (by kernel_rfl) (by kernel_rfl) (by kernel_rfl)
      (OpenSpec.preRow_of_cond 8 hx (by kernel_rfl) (fun k hk => by cases hk) (by kernel_rfl) (laid_met os))) ?_
  intro W base args ds gs before hval hW _ _ _ hL hsh _
  exact contract H enc W base args ds gs before hval hW hL hsh

theorem said : Rows.FnExprTextsSaid :=
  OpenClaim.holds_of_cond 3 Tryd.f3 rfl rfl rfl rfl rfl rfl rfl ⟨rfl, rfl, rfl, rfl, rfl⟩ rfl rfl rfl rfl rfl (by kernel_rfl) Tryd.func3 (by kernel_rfl)
    (of_decide_eq_true (by kernel_rfl)) (by unfold Func.isWrapper; first | (rw [if_pos (by decide +kernel)]; kernel_rfl) | (rw [if_neg (by decide +kernel)]; exact ⟨rfl, rfl⟩))
    (fun os started H enc _ F => by rw [OpenClaim.pre_eq_preRow]; exact lifted os started H enc F)

theorem plain (f : FuncId) (fn : Func) (hf : Tryd.pinned.checked.prog.funcNamed "loop.example/g00460/laws.FnExprTexts" = some f) (hfn : Tryd.pinned.checked.prog.funcs[f]? = some fn) :
    true = Tryd.pinned.checked.prog.looks [] ∧ ∀ (j : Nat) t, fn.params[j]? = some t → Tryd.pinned.checked.prog.wantsStandIn t = false := by
  obtain rfl : f = 3 := Option.some.inj ((show Tryd.prog.funcNamed "loop.example/g00460/laws.FnExprTexts" = some 3 by kernel_rfl).symm.trans hf) |>.symm
  obtain rfl : fn = Tryd.f3 := (Option.some.inj (Tryd.func3.symm.trans hfn)).symm
  refine ⟨by kernel_rfl, fun j t ht => ?_⟩
  rw [Tryd.params3] at ht
  have h : t = 22 := by simpa using Array.mem_of_getElem? ht
  subst h
  exact (show Tryd.prog.wantsStandIn 22 = false by kernel_rfl)

theorem card : Rows.FnExprTextsCardSaid :=
  Claim7.holds_tied_plain_at .later [] _ _ _ _ said (fun _ h => by cases h) (by kernel_rfl) (fun _ h => by cases h) fnExprTexts_row_tie rfl ⟨rfl, rfl⟩ (by kernel_rfl) rfl plain (by kernel_rfl)
end Go.Proofs.YtfgabgihdcokdaaDoor.fnExprTexts
namespace Go.Proofs.YtfgabgihdcokdaaDoor
theorem fnExprTexts_holds : Rows.FnExprTextsCardSaid := fnExprTexts.card
end Go.Proofs.YtfgabgihdcokdaaDoor
