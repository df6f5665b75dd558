/- For every code the law FnSymTexts answers true: what SymText tells of the drawn symbols is what the specification tells and is read back as them; of the drawn text ReadSyms answers where the specification does, and what it reads, written again, has just its bytes; the code reads afterwards as it read before; the table of digits holds what its initialiser lays when the call begins (tied to the program's text by the card), and is as it was. -/
import Derived.Test.YtkcophgkkeakjaaDoorCards
import Derived.Test.YtkcophgkkeakjaaDoorTie
import Derived.WalkKit
import Derived.ProofKit
import Derived.OpenShut
import Derived.ShutString
import Derived.ChangeOld
import Derived.ChangeVars
import Derived.OpenVars
import Derived.Below
import Derived.Deep.DeepHandedRow
import Derived.Lib.LaidTab
import Derived.Test.YtkcophgkkeakjaaDoorDrawY
import Derived.HandedShaped
namespace Go.Proofs.YtkcophgkkeakjaaDoor.fnSymTexts
open Go.ChangeShapes Go.WideShapes Go.ChangeAt Go.RowKit
open Go.ChangeMaps (open_string shut_string)
set_option linter.unusedVariables false

theorem own : ownKnob Tryd.prog.godebug = none := by kernel_rfl
theorem laidOut : laidOutB Tryd.prog = true := by kernel_rfl
theorem gTab : Tryd.prog.globalNamed "loop.example/g00460/impl.hexDigits" = some 0 := by kernel_rfl
theorem gTabType : (Tryd.prog.globals[0]?).map (·.type) = some 68 := by kernel_rfl
theorem cellsTab : Tryd.prog.cellsOf 68 = 16 := by kernel_rfl
theorem cells5 : Tryd.prog.cellsOf 5 = 1 := by kernel_rfl
theorem rowed : varsRowed Tryd.prog Rows.fnSymTextsSpec.vars = true := by kernel_rfl

/-- What the walk is told of a slice of bytes that came in: it is nil; or it leads to a row of cells, the numbers zs, each fitting its kind. -/
def IsRow (k : IntKind) (w : World) (a : Option Addr) (len cap : Nat) (zs : List Int) : Prop :=
  (a = none ∧ len = 0 ∧ cap = 0 ∧ zs = []) ∨
  ∃ x, a = some x ∧ len ≤ cap ∧ cap ≤ maxLen ∧ zs.length = cap ∧ (∀ i, i < zs.length → w.cell? (x.add i) = some (.int k (zs.getD i 0))) ∧ ∀ n ∈ zs, (Lit.int k n).wf = true

/-- What the row's list gives: the table's cells hold the sixteen digits. -/
theorem table {W : World} (h : laidMetH Tryd.prog Rows.fnSymTextsRow.laid W) : Nums.Tab W := fun i hi =>
  (Lib.tabIs_of_head (k := .u8) (zs := Nums.tab) (rest := []) gTab gTabType Tryd.underlying68 Tryd.underlying5 cells5 cellsTab h).cell gTab i hi
theorem toRow {k : IntKind} {w : World} {a : Option Addr} {len cap : Nat} {zs : List Int} (h : IsRow k w a len cap zs) : Rdr.IsRow k w a len cap zs := h

set_option maxHeartbeats 2000000 in
theorem walk (w : World) (a0 : Option Addr) (len0 cap0 : Nat) (z0 : List Int) (w0 : IsRow .u8 w a0 len0 cap0 z0) (hT : Nums.Tab w) (hm : Symq.MaxL w) :
    Calls Tryd.prog 5 #[.slice a0 len0 cap0] w fun e w' => e = .returned (.bool true) ∧ Below w.heap.size w w' := by
  have HX : Hid (Nums.Tab w ∧ Symq.MaxL w) := ⟨hT, hm⟩
  have H : Hid (Rdr.IsRow .u8 w a0 len0 cap0 z0) := toRow w0
  have hl0 := (toRow w0).len
  clear hT hm w0
  have cbig := fun w => Rdr.big_any a0 len0 cap0 w hl0
  cases hb : Rdr.bigB len0
  · rw [hb] at cbig
    clear hb
    go_enter Tryd.func5, Tryd.ntmps5
    go_wp2_with (go_at_call 15; refine (cbig _).mono ?_; rintro e w' ⟨rfl, hw'⟩; have hw' := hw'.symm; subst hw')
    refine (DrawY.drawText_any _ _ _ _ _ H.out).mono ?_
    rintro e w1 ⟨L, ao, c, rfl, hL, hz, hS, b1⟩
    have B1 : Hid (Below w.heap.size w w1) := b1
    have S1 : Hid (Symr.Syms w1 ao L) := hS
    obtain ⟨len, hlen⟩ : ∃ len, L.length = len := ⟨_, rfl⟩
    have HL : Hid (L.length = len) := hlen
    have ti := fun a cap w hN hT => Symt.implText_any a cap L w hN (by omega) hT
    have ts := fun a cap w hN => Symt.specText_any a cap L w hN (by omega)
    have cm := fun a a' cap cap' w h h' => DrawY.sameSyms_any a a' cap cap' L w h h' (by omega)
    rw [hlen] at ti ts cm ⊢
    clear hlen
    have zt := DrawY.symT_size L hL
    have AG : Hid (¬ (Symt.symT L).size = 0 → Symp.outI (Symt.symT L) = some L) := Symp.again
    generalize Symt.symT L = T at ti ts zt AG
    clear b1 hS hz hL
    go_wp2_with fail
    refine (ti _ _ _ S1.out (Symt.tab_below HX.out.1 B1.out)).mono ?_
    rintro e w2 ⟨rfl, b2⟩
    have B2 : Hid (Below w.heap.size w w2) := B1.out.trans (b2.mono B1.out.size)
    have S2 : Hid (Symr.Syms w2 ao L) := S1.out.below b2
    clear b2 B1 S1 ti
    have ci := fun w hT hm => Symq.implRead_any T w (by omega) hT hm
    go_wp2_with fail
    refine (ci _ (Symt.tab_below HX.out.1 B2.out) (HX.out.2.below B2.out)).mono ?_
    rintro e w3 ⟨ao3, cap3, rfl, o3, z3, l3, b3⟩
    have B3 : Hid (Below w.heap.size w w3) := B2.out.trans (b3.mono B2.out.size)
    have S3 : Hid (Symr.Syms w3 ao L) := S2.out.below b3
    have M3 : Hid (Symr.Syms w3 ao3 (Symq.lst (Symp.outI T))) := Symq.syms_own o3 z3
    clear b3 o3 z3 l3 B2 S2 ci
    by_cases h0 : T.size = 0
    · have e0 : T.toList.isEmpty = true := Names.empty_yes h0
      clear AG M3 cm
      generalize Symq.lst (Symp.outI T) = Lx
      generalize (Symp.outI T).isSome = fx
      go_wp2_with (first | (go_at_call 7; refine (ts _ _ _ S3.out).mono ?_; rintro e w4 ⟨rfl, b4⟩; have B5 : Hid (Below w.heap.size w w4) := B3.out.trans (b4.mono B3.out.size); clear b4) | fail)
      all_goals
        have HW := H.out.below B5.out
        refine (DrawY.drawRead_any _ _ _ _ _ HW).mono ?_
        rintro e w6 ⟨⟨t, ht, rfl⟩, b6⟩
        have B6 : Hid (Below w.heap.size w w6) := B5.out.trans (b6.mono B5.out.size)
        clear b6 HW B5
        have ci := fun w hT hm => Symq.implRead_any t w (by omega) hT hm
        have cs := fun w => Symq.specRead_any t w (by omega)
        rw [← Symp.same] at cs
        have HO : Hid (∀ l, Symp.outI t = some l → Symt.symT l = t) := fun l h => Symp.out_text h
        generalize Symp.outI t = O at ci cs HO
        go_wp2_with fail
        refine (ci _ (Symt.tab_below HX.out.1 B6.out) (HX.out.2.below B6.out)).mono ?_
        rintro e w7 ⟨ao7, cap7, rfl, o7, z7, l7, b7⟩
        have B7 : Hid (Below w.heap.size w w7) := B6.out.trans (b7.mono B6.out.size)
        have S7 : Hid (Symr.Syms w7 ao7 (Symq.lst O)) := Symq.syms_own o7 z7
        clear b7 o7 z7 B6 ci
        go_wp2_with fail
        refine (cs _).mono ?_
        rintro e w8 ⟨ao8, cap8, rfl, o8, z8, l8, b8⟩
        have B8 : Hid (Below w.heap.size w w8) := B7.out.trans (b8.mono B7.out.size)
        have S8 : Hid (Symr.Syms w8 ao7 (Symq.lst O)) := S7.out.below b8
        clear b8 o8 z8 l8 B7 S7 cs
        cases O with
        | none =>
          go_wp2
          go_ret
          exact ⟨rfl, B8.out⟩
        | some l =>
          have cx := fun w hN hT => Symt.implText_any ao7 cap7 l w hN (by have : l.length ≤ 801 := l7; omega) hT
          rw [HO.out l rfl] at cx
          have S9 : Hid (Symr.Syms w8 ao7 l) := S8.out
          clear HO l7 S8
          go_wp2_with fail
          refine (cx _ S9.out (Symt.tab_below HX.out.1 B8.out)).mono ?_
          rintro e w9 ⟨rfl, b9⟩
          have B9 : Hid (Below w.heap.size w w9) := B8.out.trans (b9.mono B8.out.size)
          clear b9
          go_wp2
          go_ret
          exact ⟨rfl, B9.out⟩
    · have e0 : T.toList.isEmpty = false := Names.empty_no h0
      rw [AG.out h0] at M3 ⊢
      have M4 : Hid (Symr.Syms w3 ao3 L) := M3.out
      rw [show (Symq.lst (some L)).length = len from HL.out, show (some L).isSome = true from rfl]
      clear AG M3
      go_wp2_with (first | (go_at_call 7; refine (ts _ _ _ S3.out).mono ?_; rintro e w4 ⟨rfl, b4⟩; have B4 : Hid (Below w.heap.size w w4) := B3.out.trans (b4.mono B3.out.size); have S4 : Hid (Symr.Syms w4 ao L) := S3.out.below b4; have M5 : Hid (Symr.Syms w4 ao3 L) := M4.out.below b4; clear b4) | (go_at_call 17; refine (cm _ _ _ _ _ M5.out S4.out).mono ?_; rintro e w5 ⟨rfl, b5⟩; have B5 : Hid (Below w.heap.size w w5) := B4.out.trans (b5.mono B4.out.size); clear b5) | fail)
      all_goals
        have HW := H.out.below B5.out
        refine (DrawY.drawRead_any _ _ _ _ _ HW).mono ?_
        rintro e w6 ⟨⟨t, ht, rfl⟩, b6⟩
        have B6 : Hid (Below w.heap.size w w6) := B5.out.trans (b6.mono B5.out.size)
        clear b6 HW B5
        have ci := fun w hT hm => Symq.implRead_any t w (by omega) hT hm
        have cs := fun w => Symq.specRead_any t w (by omega)
        rw [← Symp.same] at cs
        have HO : Hid (∀ l, Symp.outI t = some l → Symt.symT l = t) := fun l h => Symp.out_text h
        generalize Symp.outI t = O at ci cs HO
        go_wp2_with fail
        refine (ci _ (Symt.tab_below HX.out.1 B6.out) (HX.out.2.below B6.out)).mono ?_
        rintro e w7 ⟨ao7, cap7, rfl, o7, z7, l7, b7⟩
        have B7 : Hid (Below w.heap.size w w7) := B6.out.trans (b7.mono B6.out.size)
        have S7 : Hid (Symr.Syms w7 ao7 (Symq.lst O)) := Symq.syms_own o7 z7
        clear b7 o7 z7 B6 ci
        go_wp2_with fail
        refine (cs _).mono ?_
        rintro e w8 ⟨ao8, cap8, rfl, o8, z8, l8, b8⟩
        have B8 : Hid (Below w.heap.size w w8) := B7.out.trans (b8.mono B7.out.size)
        have S8 : Hid (Symr.Syms w8 ao7 (Symq.lst O)) := S7.out.below b8
        clear b8 o8 z8 l8 B7 S7 cs
        cases O with
        | none =>
          go_wp2
          go_ret
          exact ⟨rfl, B8.out⟩
        | some l =>
          have cx := fun w hN hT => Symt.implText_any ao7 cap7 l w hN (by have : l.length ≤ 801 := l7; omega) hT
          rw [HO.out l rfl] at cx
          have S9 : Hid (Symr.Syms w8 ao7 l) := S8.out
          clear HO l7 S8
          go_wp2_with fail
          refine (cx _ S9.out (Symt.tab_below HX.out.1 B8.out)).mono ?_
          rintro e w9 ⟨rfl, b9⟩
          have B9 : Hid (Below w.heap.size w w9) := B8.out.trans (b9.mono B8.out.size)
          clear b9
          go_wp2
          go_ret
          exact ⟨rfl, B9.out⟩
  · rw [hb] at cbig
    go_enter Tryd.func5, Tryd.ntmps5
    go_wp2_with (go_at_call 15; refine (cbig _).mono ?_; rintro e w' ⟨rfl, hw'⟩; have hw' := hw'.symm; subst hw')
    go_ret
    exact ⟨rfl, Below.refl _ _⟩

set_option maxRecDepth 100000 in
theorem contract (H : Type) (enc : TypeId × Value → H) (W : World) (base : Nat) (args : Array Value) (ds gs : List (DataW H)) (before : List MemPlace)
    (hval : ∀ (j : Nat) t v, Tryd.f5.params[j]? = some t → args[j]? = some v → Value.okWide Tryd.prog W .any base t v)
    (hW : DataW.Whole enc Tryd.prog Tryd.f5.params.toList Rows.fnSymTextsSpec.vars false W args.toList ds gs before) (hL : laidMetH Tryd.prog Rows.fnSymTextsRow.laid W) (hsh : W.ShapedOpen Tryd.prog) :
    Calls Tryd.prog 5 args W fun e W' => ∃ v, e = .returned v ∧ Rows.fnSymTextsSpec.post enc Tryd.prog Tryd.f5 false true false false W args v W' := by
  have hW' := hW
  obtain ⟨p, q, hA0, hV, hbef, hfz, hnd⟩ := hW
  have hA : DataW.TrodAll enc Tryd.prog W 0 (fun _ => true) true Tryd.f5.params.toList args.toList ds p := hA0
  have hVk : DataW.TrodVars enc Tryd.prog W (fun _ => true) Rows.fnSymTextsSpec.vars gs q := hV
  rw [Tryd.params5] at hA hval
  obtain ⟨v0, vs0, d0, ds0, p0, q0, hargs, rfl, rfl, h0, r0⟩ := trodAll_cons hA
  obtain ⟨rfl, rfl, rfl⟩ := trodAll_nil r0
  obtain rfl : args = #[v0] := by cases args; simp_all
  obtain ⟨g, t, cs, fuel, d, p', rfl, hg, ht, hvar, hd, hq⟩ := trodVars_one hV
  obtain ⟨a0, len0, cap0, rfl⟩ := okWide_slice Tryd.underlying33 (hval 0 33 v0 rfl rfl)
  have k0 := h0
  have lt0 : ∀ x ∈ p0, x.block < W.heap.size := by obtain ⟨m, hm⟩ := k0; exact DataW.trod_lt m _ _ _ hm
  obtain ⟨z0, w0⟩ : ∃ zs, IsRow .u8 W a0 len0 cap0 zs := by
    obtain ⟨fuel, hf⟩ := h0
    rcases open_ints Tryd.underlying33 Tryd.underlying5 (by kernel_rfl) hf with ⟨hcs, _⟩ | ⟨x, l, c, zs, hcs, _, hl, hm, hz, _, hcell, hwz⟩
    · simp [Value.cells] at hcs
      obtain ⟨rfl, rfl, rfl⟩ := hcs
      exact ⟨[], .inl ⟨rfl, rfl, rfl, rfl⟩⟩
    · simp [Value.cells] at hcs
      obtain ⟨rfl, rfl, rfl⟩ := hcs
      exact ⟨zs, .inr ⟨_, rfl, hl, hm, by simpa using hz, hcell, hwz⟩⟩
  clear hA0
  refine (walk W a0 len0 cap0 z0 w0 (table hL) (Tryd.laysM145.s1_3 W hsh)).mono fun e W' ⟨he, bel⟩ => ?_
  subst he
  exact ⟨_, rfl, _, _, _, [], _, q, hW', trodAll_mk1 (shut_bool Tryd.underlying4 _), (trodAll_cons_mk (Below.trod laidOut (by kernel_rfl) (of_decide_eq_true (by kernel_rfl)) k0 bel lt0) trodAll_mk0), Below.trodVars laidOut bel rowed hVk, bel.frame _, fun h => by cases h⟩

/-- A world for the witness: the settled one, the table holding what its initialiser lays. -/
noncomputable def laidWorld (os : Os) : World :=
  { World.holding Tryd.prog os ⟨#[], #[], []⟩ with heap := (World.holding Tryd.prog os ⟨#[], #[], []⟩).heap.modify 0 fun
      | .cells _ t frozen => .cells #[.int .u8 48, .int .u8 49, .int .u8 50, .int .u8 51, .int .u8 52, .int .u8 53, .int .u8 54, .int .u8 55, .int .u8 56, .int .u8 57, .int .u8 65, .int .u8 66, .int .u8 67, .int .u8 68, .int .u8 69, .int .u8 70] t frozen
      | o => o }
theorem laid_met (os : Os) : laidMet Tryd.prog Rows.fnSymTextsRow.laid ((laidWorld os).forCall (fun _ _ => 0) ⟨#[], #[.slice none 0 0], []⟩).memory :=
  laidMet_of_run' 8 (by kernel_rfl) (by kernel_rfl)
theorem reads (os : Os) {H : Type} (enc : TypeId × Value → H) : ∃ places, DataW.whole enc Tryd.prog ((laidWorld os).forCall (fun _ _ => 0) ⟨#[], #[.slice none 0 0], []⟩).memory Tryd.f5.params.toList Rows.fnSymTextsSpec.vars false [.slice none 0 0] 8 = some ([.nil], [.agg [.lit (.int .u8 48), .lit (.int .u8 49), .lit (.int .u8 50), .lit (.int .u8 51), .lit (.int .u8 52), .lit (.int .u8 53), .lit (.int .u8 54), .lit (.int .u8 55), .lit (.int .u8 56), .lit (.int .u8 57), .lit (.int .u8 65), .lit (.int .u8 66), .lit (.int .u8 67), .lit (.int .u8 68), .lit (.int .u8 69), .lit (.int .u8 70)]], places) :=
  ⟨MemPlace.row ⟨0, 0, none⟩ 16, by kernel_rfl⟩

set_option maxRecDepth 100000 in
theorem lifted (os : Os) (started : os.Started) (H : Type) (enc : TypeId × Value → H) (F : Stop.Interp) :
    ReturnsInHanded {} Tryd.checked os 5 .any ((OpenSpec.ofChange Rows.fnSymTextsSpec).preRow enc Tryd.prog Tryd.f5 Rows.fnSymTextsRow.domain false Rows.fnSymTextsRow.laid) (((OpenSpec.ofChange Rows.fnSymTextsSpec).at F).post enc Tryd.prog Tryd.f5 false true false false) := by
  obtain ⟨places, hx⟩ := reads os enc
  refine returnsInHanded_of_row (C := Tryd.checked) (s := OpenSpec.ofChange Rows.fnSymTextsSpec) own started (by kernel_rfl) Tryd.func5
    (witness_row_at (enc := enc) (C := Tryd.checked) false (laidWorld os) #[.slice none 0 0] rfl (by kernel_rfl) (by kernel_rfl) (by kernel_rfl)
      (OpenSpec.preRow_of_cond 8 hx (by kernel_rfl) (fun k hk => by cases hk) (by kernel_rfl) (laid_met os))) ?_
  intro W base args ds gs before hval hW _ _ _ hL hsh _
  exact contract H enc W base args ds gs before hval hW hL hsh

theorem said : Rows.FnSymTextsSaid :=
  OpenClaim.holds_of_cond 5 Tryd.f5 rfl rfl rfl rfl rfl rfl rfl ⟨rfl, rfl, rfl, rfl, rfl⟩ rfl rfl rfl rfl rfl (by kernel_rfl) Tryd.func5 (by kernel_rfl)
    (of_decide_eq_true (by kernel_rfl)) (by unfold Func.isWrapper; first | (rw [if_pos (by decide +kernel)]; kernel_rfl) | (rw [if_neg (by decide +kernel)]; exact ⟨rfl, rfl⟩))
    (fun os started H enc _ F => by rw [OpenClaim.pre_eq_preRow]; exact lifted os started H enc F)

theorem plain (f : FuncId) (fn : Func) (hf : Tryd.pinned.checked.prog.funcNamed "loop.example/g00460/laws.FnSymTexts" = some f) (hfn : Tryd.pinned.checked.prog.funcs[f]? = some fn) :
    false = Tryd.pinned.checked.prog.looks [] ∧ ∀ (j : Nat) t, fn.params[j]? = some t → Tryd.pinned.checked.prog.wantsStandIn t = false := by
  obtain rfl : f = 5 := Option.some.inj ((show Tryd.prog.funcNamed "loop.example/g00460/laws.FnSymTexts" = some 5 by kernel_rfl).symm.trans hf) |>.symm
  obtain rfl : fn = Tryd.f5 := (Option.some.inj (Tryd.func5.symm.trans hfn)).symm
  refine ⟨by kernel_rfl, fun j t ht => ?_⟩
  rw [Tryd.params5] at ht
  have h : t = 33 := by simpa using Array.mem_of_getElem? ht
  subst h
  exact (show Tryd.prog.wantsStandIn 33 = false by kernel_rfl)

theorem card : Rows.FnSymTextsCardSaid :=
  Claim7.holds_tied_plain_at .later [] _ _ _ _ said (fun _ h => by cases h) (by kernel_rfl) (fun _ h => by cases h) fnSymTexts_row_tie rfl ⟨rfl, rfl⟩ (by kernel_rfl) rfl plain (by kernel_rfl)
end Go.Proofs.YtkcophgkkeakjaaDoor.fnSymTexts
namespace Go.Proofs.YtkcophgkkeakjaaDoor
theorem fnSymTexts_holds : Rows.FnSymTextsCardSaid := fnSymTexts.card
end Go.Proofs.YtkcophgkkeakjaaDoor
