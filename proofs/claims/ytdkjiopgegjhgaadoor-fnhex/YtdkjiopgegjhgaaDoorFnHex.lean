/- For every code the law FnHex answers true: the drawn number's digits are what the specification tells, are as many as was asked for, and are read back as that number; the code reads afterwards as it read before; the table of digits holds what its initialiser lays when the call begins (tied to the program's text by the card). -/
import Derived.Test.YtdkjiopgegjhgaaDoorCards
import Derived.Test.YtdkjiopgegjhgaaDoorTie
import Derived.WalkKit
import Derived.ProofKit
import Derived.OpenShut
import Derived.ShutString
import Derived.ChangeOld
import Derived.ChangeVars
import Derived.OpenVars
import Derived.Below
import Derived.Deep.DeepHandedRow
import Derived.Lib.LaidTab
import Derived.Test.YtdkjiopgegjhgaaDoorNums
import Derived.Test.YtdkjiopgegjhgaaDoorHex
import Derived.Test.YtdkjiopgegjhgaaDoorRd
import Derived.Lib.IndexBytes
namespace Go.Proofs.YtdkjiopgegjhgaaDoor.fnHex
open Go.ChangeShapes Go.WideShapes Go.ChangeAt Go.RowKit
open Go.ChangeMaps (open_string shut_string)
set_option linter.unusedVariables false

theorem own : ownKnob Tryd.prog.godebug = none := by kernel_rfl
theorem laidOut : laidOutB Tryd.prog = true := by kernel_rfl
theorem gTab : Tryd.prog.globalNamed "loop.example/g00460/impl.hexDigits" = some 0 := by kernel_rfl
theorem gTabType : (Tryd.prog.globals[0]?).map (·.type) = some 47 := by kernel_rfl
theorem cellsTab : Tryd.prog.cellsOf 47 = 16 := by kernel_rfl
theorem cells5 : Tryd.prog.cellsOf 5 = 1 := by kernel_rfl
theorem rowed : varsRowed Tryd.prog Rows.fnHexSpec.vars = true := by kernel_rfl

/-- What the walk is told of a slice of bytes that came in: it is nil; or it leads to a row of cells, the numbers zs, each fitting its kind. -/
def IsRow (k : IntKind) (w : World) (a : Option Addr) (len cap : Nat) (zs : List Int) : Prop :=
  (a = none ∧ len = 0 ∧ cap = 0 ∧ zs = []) ∨
  ∃ x, a = some x ∧ len ≤ cap ∧ cap ≤ maxLen ∧ zs.length = cap ∧ (∀ i, i < zs.length → w.cell? (x.add i) = some (.int k (zs.getD i 0))) ∧ ∀ n ∈ zs, (Lit.int k n).wf = true

/-- What the row's list gives: the table's cells hold the sixteen digits. -/
theorem table {W : World} (h : laidMetH Tryd.prog Rows.fnHexRow.laid W) : Nums.Tab W := fun i hi =>
  (Lib.tabIs_of_head (k := .u8) (zs := Nums.tab) (rest := []) gTab gTabType Tryd.underlying47 Tryd.underlying5 cells5 cellsTab h).cell gTab i hi
open Rdr (Rd Post)
theorem toRow {k : IntKind} {w : World} {a : Option Addr} {len cap : Nat} {zs : List Int} (h : IsRow k w a len cap zs) : Rdr.IsRow k w a len cap zs := h
theorem tab_below {w w' : World} (h : Nums.Tab w) (hb : Below w.heap.size w w') : Nums.Tab w' := fun i hi =>
  (hb.cell (p := ⟨0, i, none⟩) (Hex.size_pos h)).trans (h i hi)

theorem drawHex_any (a : Option Addr) (len cap : Nat) (zs : List Int) (w : World) (h : Rdr.IsRow .u8 w a len cap zs) :
    Calls Tryd.prog 9 #[.slice a len cap] w fun e w' => (∃ x y : Int, (Lit.int .i64 x).wf = true ∧ (Lit.int .i64 y).wf = true ∧ e = .returned (.tuple #[.int .i64 x, .int .i64 y])) ∧ Below w.heap.size w w' := by
  have H : Hid (Rdr.IsRow .u8 w a len cap zs) := h
  clear h
  go_enter Tryd.func9, Tryd.ntmps9
  go_wp2_with fail
  refine (Rdr.open_any _ _ _ _ _ H.out).mono ?_
  rintro e w1 ⟨rfl, hr, hb⟩
  go_wp2_with fail
  refine (Rdr.off_any _ _ _ _ hr (by decide) (by decide) (by decide)).mono ?_
  rintro e w2 ⟨⟨n, hn, rfl⟩, hp⟩
  go_wp2_with fail
  refine (Rdr.once_any _ _ _ hp.1 (by decide) (by decide)).mono ?_
  rintro e w3 ⟨⟨x, rfl⟩, hp2⟩
  have hz := hb.size
  have HN : Hid ((Lit.int .i64 n).wf = true) := hn
  clear hn
  cases x with
  | true =>
    go_wp2_with fail
    refine (Rdr.below_any _ _ _ hp2.1 (by decide) (by decide)).mono ?_
    rintro e w4 ⟨⟨m, m0, m1, rfl⟩, hp3⟩
    go_wp2_with fail
    refine (Rdr.off_any _ _ _ _ hp3.1 (by decide) (by decide) (by decide)).mono ?_
    rintro e w5 ⟨⟨d, hd, rfl⟩, hp4⟩
    go_wp2
    go_ret2
    exact ⟨⟨m, d, Rdr.wf_small (by omega) (by omega), hd, rfl⟩, hb.trans ((((hp.trans hp2).trans hp3).trans hp4).below (Nat.le_refl _) hz)⟩
  | false =>
    go_wp2_with fail
    refine (Rdr.off_any _ _ _ _ hp2.1 (by decide) (by decide) (by decide)).mono ?_
    rintro e w5 ⟨⟨d, hd, rfl⟩, hp4⟩
    go_wp2
    go_ret2
    exact ⟨⟨n, d, HN.out, hd, rfl⟩, hb.trans (((hp.trans hp2).trans hp4).below (Nat.le_refl _) hz)⟩

theorem digS_tab : ∀ m, m < 16 → Nums.digS ((UInt8.ofNat (Nums.tab.getD m 0).toNat).toNat : Int) = (m : Int) := by decide
theorem digS_at {x : Int} (h0 : 0 ≤ x) (h1 : x < 16) : Nums.digS ((UInt8.ofNat (Nums.tab.getD x.toNat 0).toNat).toNat : Int) = x := by
  rw [digS_tab x.toNat (by omega)]; omega
theorem word_cons {n : Int} {c : UInt8} {r : List UInt8} {m : Int} (hc : Nums.digS (c.toNat : Int) = m) (hm : m < 16) (hn : n * 16 + m ≤ 65535) : Nums.word 16 n (c :: r) = Nums.word 16 (n * 16 + m) r := by
  show (if (16 : Int) ≤ Nums.digS (c.toNat : Int) then none else if 65535 < n * 16 + Nums.digS (c.toNat : Int) then none else Nums.word 16 (n * 16 + Nums.digS (c.toNat : Int)) r) = _
  rw [hc, if_neg (by omega), if_neg (by omega)]
theorem word_digs {n d : Int} (h : 1 ≤ d ∧ d ≤ 4 ∧ 0 ≤ n ∧ n ≤ 65535 ∧ n / Hex.pw d = 0) : Nums.word 16 0 ((Hex.digs n d.toNat).map fun n => UInt8.ofNat n.toNat) = some n := by
  obtain ⟨h1, h2, h3, h4, h5⟩ := h
  have hd : d = 1 ∨ d = 2 ∨ d = 3 ∨ d = 4 := by omega
  rcases hd with rfl | rfl | rfl | rfl
  · have e : n / Hex.pw 1 = n / 16 := by unfold Hex.pw; show n / (16 ^ 1) = _; omega
    show Nums.word 16 0 [UInt8.ofNat (Nums.tab.getD (n % 16).toNat 0).toNat] = _
    rw [word_cons (digS_at (x := n % 16) (by omega) (by omega)) (by omega) (by omega)]
    show some _ = some _
    congr 1; omega
  · have e : n / Hex.pw 2 = n / 16 / 16 := by unfold Hex.pw; show n / (16 ^ 2) = _; omega
    show Nums.word 16 0 [UInt8.ofNat (Nums.tab.getD (n / 16 % 16).toNat 0).toNat, UInt8.ofNat (Nums.tab.getD (n % 16).toNat 0).toNat] = _
    rw [word_cons (digS_at (x := n / 16 % 16) (by omega) (by omega)) (by omega) (by omega), word_cons (digS_at (x := n % 16) (by omega) (by omega)) (by omega) (by omega)]
    show some _ = some _
    congr 1; omega
  · have e : n / Hex.pw 3 = n / 16 / 16 / 16 := by unfold Hex.pw; show n / (16 ^ 3) = _; omega
    show Nums.word 16 0 [UInt8.ofNat (Nums.tab.getD (n / 16 / 16 % 16).toNat 0).toNat, UInt8.ofNat (Nums.tab.getD (n / 16 % 16).toNat 0).toNat, UInt8.ofNat (Nums.tab.getD (n % 16).toNat 0).toNat] = _
    rw [word_cons (digS_at (x := n / 16 / 16 % 16) (by omega) (by omega)) (by omega) (by omega), word_cons (digS_at (x := n / 16 % 16) (by omega) (by omega)) (by omega) (by omega), word_cons (digS_at (x := n % 16) (by omega) (by omega)) (by omega) (by omega)]
    show some _ = some _
    congr 1; omega
  · have e : n / Hex.pw 4 = n / 16 / 16 / 16 / 16 := by unfold Hex.pw; show n / (16 ^ 4) = _; omega
    show Nums.word 16 0 [UInt8.ofNat (Nums.tab.getD (n / 16 / 16 / 16 % 16).toNat 0).toNat, UInt8.ofNat (Nums.tab.getD (n / 16 / 16 % 16).toNat 0).toNat, UInt8.ofNat (Nums.tab.getD (n / 16 % 16).toNat 0).toNat, UInt8.ofNat (Nums.tab.getD (n % 16).toNat 0).toNat] = _
    rw [word_cons (digS_at (x := n / 16 / 16 / 16 % 16) (by omega) (by omega)) (by omega) (by omega), word_cons (digS_at (x := n / 16 / 16 % 16) (by omega) (by omega)) (by omega) (by omega), word_cons (digS_at (x := n / 16 % 16) (by omega) (by omega)) (by omega) (by omega), word_cons (digS_at (x := n % 16) (by omega) (by omega)) (by omega) (by omega)]
    show some _ = some _
    congr 1; omega
theorem digs_len : ∀ (k : Nat) (n : Int), (Hex.digs n k).length = k
  | 0, _ => rfl
  | k + 1, n => by show (Hex.digs (n / 16) k ++ [_]).length = _; rw [List.length_append, digs_len k]; rfl
theorem num_hex {n d : Int} (h : 1 ≤ d ∧ d ≤ 4 ∧ 0 ≤ n ∧ n ≤ 65535 ∧ n / Hex.pw d = 0) : Nums.num (Hex.hexS n d) = some n ∧ ((Hex.hexS n d).size : Int) = d + 1 := by
  rw [Hex.hexS_yes h]
  have hz : (strOfNums (36 :: Hex.digs n d.toNat)).size = d.toNat + 1 := by rw [strOfNums_size, List.length_cons, digs_len]
  refine ⟨?_, by rw [hz]; omega⟩
  unfold Nums.num
  rw [if_neg (by rw [hz]; omega), if_pos (by rfl)]
  unfold Nums.base
  rw [if_neg (by rw [Nums.cut_size, hz]; omega)]
  have e : ((strOfNums (36 :: Hex.digs n d.toNat)).extract 1 (strOfNums (36 :: Hex.digs n d.toNat)).size).data.toList = (Hex.digs n d.toNat).map fun n => UInt8.ofNat n.toNat := by
    rw [Lib.extract_to_end, strOfNums_data, List.map_cons]; rfl
  rw [e]
  exact word_digs h

theorem walk (w : World) (a0 : Option Addr) (len0 cap0 : Nat) (z0 : List Int) (w0 : IsRow .u8 w a0 len0 cap0 z0) (hT : Nums.Tab w) :
    Calls Tryd.prog 3 #[.slice a0 len0 cap0] w fun e w' => e = .returned (.bool true) ∧ Below w.heap.size w w' := by
  have H : Hid (Rdr.IsRow .u8 w a0 len0 cap0 z0) := toRow w0
  have HT : Hid (Nums.Tab w) := hT
  clear w0 hT
  have cb := Rdr.big_any a0 len0 cap0 w H.out.len
  by_cases hbig : Rdr.bigB len0 = true
  · rw [hbig] at cb
    go_enter Tryd.func3, Tryd.ntmps3
    go_wp2_with (go_at_call 8; refine cb.mono ?_; rintro e w' ⟨rfl, rfl⟩)
    go_ret
    exact ⟨rfl, Below.refl _ _⟩
  · have hbig : Rdr.bigB len0 = false := by simpa using hbig
    rw [hbig] at cb
    go_enter Tryd.func3, Tryd.ntmps3
    go_wp2_with fail
    refine cb.mono ?_
    rintro e w' ⟨rfl, rfl⟩
    go_wp2_with fail
    refine (drawHex_any _ _ _ _ _ H.out).mono ?_
    rintro e w1 ⟨⟨n, d, hn, hd, rfl⟩, hB1⟩
    have HT1 := tab_below HT.out hB1
    go_wp2_with fail
    refine (Hex.implHex_any _ _ _ HT1).mono ?_
    rintro e w2 ⟨rfl, hB2⟩
    have HT2 : Hid (Nums.Tab w2) := tab_below HT1 hB2
    have HB : Hid (Below w'.heap.size w' w2) := hB1.trans (hB2.mono hB1.size)
    clear hB1 hB2 HT1 hn
    by_cases hg : 1 ≤ d ∧ d ≤ 4 ∧ 0 ≤ n ∧ n ≤ 65535 ∧ n / Hex.pw d = 0
    · obtain ⟨en, es⟩ := num_hex hg
      have hz5 : (Hex.hexS n d).size ≤ 5 := by have := hg.2.1; omega
      have hne : (Hex.hexS n d).toList.isEmpty = false := Nums.empty_no (by omega)
      have c1 := Hex.specHex_any n d w2
      have c2 := Nums.implNum_any (Hex.hexS n d) w2 HT2.out (Nat.le_trans hz5 (by unfold maxLen; decide))
      rw [en] at c2
      obtain ⟨d1, d4, -, -, -⟩ := hg
      clear hz5
      generalize Hex.hexS n d = s at es hne c1 c2 ⊢
      clear en hd
      go_wp2_with (first | (go_at_call 11; refine c1.mono ?_; rintro e w3 ⟨rfl, rfl⟩) | (go_at_call 12; refine c2.mono ?_; rintro e w3 ⟨rfl, rfl⟩))
      go_ret
      exact ⟨rfl, HB.out⟩
    · rw [Hex.hexS_no hg]
      have c1 := Hex.specHex_any n d w2
      rw [Hex.hexS_no hg] at c1
      clear hg hd
      go_wp2_with (first | (go_at_call 11; refine c1.mono ?_; rintro e w3 ⟨rfl, rfl⟩))
      go_ret
      exact ⟨rfl, HB.out⟩

set_option maxRecDepth 100000 in
theorem contract (H : Type) (enc : TypeId × Value → H) (W : World) (base : Nat) (args : Array Value) (ds gs : List (DataW H)) (before : List MemPlace)
    (hval : ∀ (j : Nat) t v, Tryd.f3.params[j]? = some t → args[j]? = some v → Value.okWide Tryd.prog W .any base t v)
    (hW : DataW.Whole enc Tryd.prog Tryd.f3.params.toList Rows.fnHexSpec.vars false W args.toList ds gs before) (hL : laidMetH Tryd.prog Rows.fnHexRow.laid W) :
    Calls Tryd.prog 3 args W fun e W' => ∃ v, e = .returned v ∧ Rows.fnHexSpec.post enc Tryd.prog Tryd.f3 false true false false W args v W' := by
  have hW' := hW
  obtain ⟨p, q, hA0, hV, hbef, hfz, hnd⟩ := hW
  have hA : DataW.TrodAll enc Tryd.prog W 0 (fun _ => true) true Tryd.f3.params.toList args.toList ds p := hA0
  have hVk : DataW.TrodVars enc Tryd.prog W (fun _ => true) Rows.fnHexSpec.vars gs q := hV
  rw [Tryd.params3] at hA hval
  obtain ⟨v0, vs0, d0, ds0, p0, q0, hargs, rfl, rfl, h0, r0⟩ := trodAll_cons hA
  obtain ⟨rfl, rfl, rfl⟩ := trodAll_nil r0
  obtain rfl : args = #[v0] := by cases args; simp_all
  obtain ⟨g, t, cs, fuel, d, p', rfl, hg, ht, hvar, hd, hq⟩ := trodVars_one hV
  obtain ⟨a0, len0, cap0, rfl⟩ := okWide_slice Tryd.underlying22 (hval 0 22 v0 rfl rfl)
  have k0 := h0
  have lt0 : ∀ x ∈ p0, x.block < W.heap.size := by obtain ⟨m, hm⟩ := k0; exact DataW.trod_lt m _ _ _ hm
  obtain ⟨z0, w0⟩ : ∃ zs, IsRow .u8 W a0 len0 cap0 zs := by
    obtain ⟨fuel, hf⟩ := h0
    rcases open_ints Tryd.underlying22 Tryd.underlying5 (by kernel_rfl) hf with ⟨hcs, _⟩ | ⟨x, l, c, zs, hcs, _, hl, hm, hz, _, hcell, hwz⟩
    · simp [Value.cells] at hcs
      obtain ⟨rfl, rfl, rfl⟩ := hcs
      exact ⟨[], .inl ⟨rfl, rfl, rfl, rfl⟩⟩
    · simp [Value.cells] at hcs
      obtain ⟨rfl, rfl, rfl⟩ := hcs
      exact ⟨zs, .inr ⟨_, rfl, hl, hm, by simpa using hz, hcell, hwz⟩⟩
  clear hA0
  refine (walk W a0 len0 cap0 z0 w0 (table hL)).mono fun e W' ⟨he, bel⟩ => ?_
  subst he
  exact ⟨_, rfl, _, _, _, [], _, q, hW', trodAll_mk1 (shut_bool Tryd.underlying4 _), (trodAll_cons_mk (Below.trod laidOut (by kernel_rfl) (of_decide_eq_true (by kernel_rfl)) k0 bel lt0) trodAll_mk0), Below.trodVars laidOut bel rowed hVk, bel.frame _, fun h => by cases h⟩

/-- A world for the witness: the settled one, the table holding what its initialiser lays. -/
noncomputable def laidWorld (os : Os) : World :=
  { World.holding Tryd.prog os ⟨#[], #[], []⟩ with heap := (World.holding Tryd.prog os ⟨#[], #[], []⟩).heap.modify 0 fun
      | .cells _ t frozen => .cells #[.int .u8 48, .int .u8 49, .int .u8 50, .int .u8 51, .int .u8 52, .int .u8 53, .int .u8 54, .int .u8 55, .int .u8 56, .int .u8 57, .int .u8 65, .int .u8 66, .int .u8 67, .int .u8 68, .int .u8 69, .int .u8 70] t frozen
      | o => o }
theorem laid_met (os : Os) : laidMet Tryd.prog Rows.fnHexRow.laid ((laidWorld os).forCall (fun _ _ => 0) ⟨#[], #[.slice none 0 0], []⟩).memory :=
  laidMet_of_run' 8 (by kernel_rfl) (by kernel_rfl)
theorem reads (os : Os) {H : Type} (enc : TypeId × Value → H) : ∃ places, DataW.whole enc Tryd.prog ((laidWorld os).forCall (fun _ _ => 0) ⟨#[], #[.slice none 0 0], []⟩).memory Tryd.f3.params.toList Rows.fnHexSpec.vars false [.slice none 0 0] 8 = some ([.nil], [.agg [.lit (.int .u8 48), .lit (.int .u8 49), .lit (.int .u8 50), .lit (.int .u8 51), .lit (.int .u8 52), .lit (.int .u8 53), .lit (.int .u8 54), .lit (.int .u8 55), .lit (.int .u8 56), .lit (.int .u8 57), .lit (.int .u8 65), .lit (.int .u8 66), .lit (.int .u8 67), .lit (.int .u8 68), .lit (.int .u8 69), .lit (.int .u8 70)]], places) :=
  ⟨MemPlace.row ⟨0, 0, none⟩ 16, by kernel_rfl⟩

set_option maxRecDepth 100000 in
theorem lifted (os : Os) (started : os.Started) (H : Type) (enc : TypeId × Value → H) (F : Stop.Interp) :
    ReturnsInHanded {} Tryd.checked os 3 .any ((OpenSpec.ofChange Rows.fnHexSpec).preRow enc Tryd.prog Tryd.f3 Rows.fnHexRow.domain false Rows.fnHexRow.laid) (((OpenSpec.ofChange Rows.fnHexSpec).at F).post enc Tryd.prog Tryd.f3 false true false false) := by
  obtain ⟨places, hx⟩ := reads os enc
  refine returnsInHanded_of_row (C := Tryd.checked) (s := OpenSpec.ofChange Rows.fnHexSpec) own started (by kernel_rfl) Tryd.func3
    (witness_row_at (enc := enc) (C := Tryd.checked) false (laidWorld os) #[.slice none 0 0] rfl (by kernel_rfl) (by kernel_rfl) (by kernel_rfl)
      (OpenSpec.preRow_of_cond 8 hx (by kernel_rfl) (fun k hk => by cases hk) (by kernel_rfl) (laid_met os))) ?_
  intro W base args ds gs before hval hW _ _ _ hL _ _
  exact contract H enc W base args ds gs before hval hW hL

theorem said : Rows.FnHexSaid :=
  OpenClaim.holds_of_cond 3 Tryd.f3 rfl rfl rfl rfl rfl rfl rfl ⟨rfl, rfl, rfl, rfl, rfl⟩ rfl rfl rfl rfl rfl (by kernel_rfl) Tryd.func3 (by kernel_rfl)
    (of_decide_eq_true (by kernel_rfl)) (by unfold Func.isWrapper; first | (rw [if_pos (by decide +kernel)]; kernel_rfl) | (rw [if_neg (by decide +kernel)]; exact ⟨rfl, rfl⟩))
    (fun os started H enc _ F => by rw [OpenClaim.pre_eq_preRow]; exact lifted os started H enc F)

theorem plain (f : FuncId) (fn : Func) (hf : Tryd.pinned.checked.prog.funcNamed "loop.example/g00460/laws.FnHex" = some f) (hfn : Tryd.pinned.checked.prog.funcs[f]? = some fn) :
    true = Tryd.pinned.checked.prog.looks [] ∧ ∀ (j : Nat) t, fn.params[j]? = some t → Tryd.pinned.checked.prog.wantsStandIn t = false := by
  obtain rfl : f = 3 := Option.some.inj ((show Tryd.prog.funcNamed "loop.example/g00460/laws.FnHex" = some 3 by kernel_rfl).symm.trans hf) |>.symm
  obtain rfl : fn = Tryd.f3 := (Option.some.inj (Tryd.func3.symm.trans hfn)).symm
  refine ⟨by kernel_rfl, fun j t ht => ?_⟩
  rw [Tryd.params3] at ht
  have h : t = 22 := by simpa using Array.mem_of_getElem? ht
  subst h
  exact (show Tryd.prog.wantsStandIn 22 = false by kernel_rfl)

theorem card : Rows.FnHexCardSaid :=
  Claim7.holds_tied_plain_at .later [] _ _ _ _ said (fun _ h => by cases h) (by kernel_rfl) (fun _ h => by cases h) fnHex_row_tie rfl ⟨rfl, rfl⟩ (by kernel_rfl) rfl plain (by kernel_rfl)
end Go.Proofs.YtdkjiopgegjhgaaDoor.fnHex
namespace Go.Proofs.YtdkjiopgegjhgaaDoor
theorem fnHex_holds : Rows.FnHexCardSaid := fnHex.card
end Go.Proofs.YtdkjiopgegjhgaaDoor
