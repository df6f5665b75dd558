/-
  Contracts of ours for what a word is as a node: impl.nodeOf, spec.l2Word.
-/
import Derived.Test.YtfgabgihdcokdaaDoorExts
import Derived.Test.YtfgabgihdcokdaaDoorNums
import Derived.Test.YtfgabgihdcokdaaDoorShelh
import Derived.Deep.RegionWith
namespace Go.Proofs.YtfgabgihdcokdaaDoor.Nodi
open Go.ChangeShapes Go.WideShapes Go.ChangeAt Go.RowKit
open Optx Extx Exts
set_option linter.unusedVariables false
set_option maxRecDepth 20000
def opAtB (w : ByteArray) (j : Nat) : Bool := (opTab.getD j ⟨#[]⟩).toList == w.toList
def opI (w : ByteArray) : Option Nat := (List.range 14).find? (opAtB w)
theorem op_first {w : ByteArray} {k : Nat} (hk : k < 14) (hn : ∀ j, j < k → opAtB w j = false) (h : opAtB w k = true) : opI w = some k := by
  unfold opI
  rw [List.find?_eq_some_iff_append]
  refine ⟨h, List.range k, (List.range (14 - k - 1)).map (· + (k + 1)), ?_, fun a ha => by rw [hn a (List.mem_range.1 ha)]; rfl⟩
  have : ∀ k, k < 14 → List.range 14 = List.range k ++ k :: (List.range (14 - k - 1)).map (· + (k + 1)) := by decide
  exact this k hk
theorem op_none {w : ByteArray} (hn : ∀ j, j < 14 → opAtB w j = false) : opI w = none := by
  unfold opI
  rw [List.find?_eq_none]
  intro a ha
  rw [hn a (List.mem_range.1 ha)]; simp
def numI (w : ByteArray) : Option Int := match Nums.num w with
  | some n => if ((decW n).toList == w.toList) = true then some n else none
  | none => none
def hash (w : ByteArray) : Bool := decide (0 < w.size ∧ (w.data.getD 0 0).toNat = 35)
def nodeI (w : ByteArray) : Stepx.Node := match opI w with
  | some j => (4 + (j : Int), 0, ⟨#[]⟩)
  | none => match numI w with
    | some n => (1, n, ⟨#[]⟩)
    | none => if hash w = true then (3, 0, w.extract 1 w.size) else (2, 0, w)
def nodeS (w : ByteArray) : Stepx.Node := match opI w with
  | some j => (4 + (j : Int), 0, ⟨#[]⟩)
  | none => match Nums.num w with
    | some n => (1, n, ⟨#[]⟩)
    | none => if hash w = true then (3, 0, w.extract 1 w.size) else (2, 0, w)
def nodeV (x : Stepx.Node) : Value := .agg #[.int .i64 x.1, .int .i64 x.2.1, .string x.2.2]
/-- A node of noughts lies in a block of the call's own. -/
def Zero (w : World) (b : Nat) : Prop := w.cell? ⟨b, 0, none⟩ = some (.int .i64 0) ∧ w.cell? ⟨b, 1, none⟩ = some (.int .i64 0) ∧ w.cell? ⟨b, 2, none⟩ = some (.string ⟨#[]⟩) ∧ (∀ i, w.frozen? ⟨b, i, none⟩ = false) ∧ b < w.heap.size
theorem Zero.new (w : World) : Zero (w.alloc (.cells #[.int .i64 0, .int .i64 0, .string ⟨#[]⟩] 38)) w.heap.size := by
  refine ⟨?_, ?_, ?_, fun i => World.frozen?_alloc_at _ _ _ _ rfl, by simp⟩
  · rw [World.cell?_alloc_new]; rfl
  · rw [World.cell?_alloc_new]; rfl
  · rw [World.cell?_alloc_new]; rfl
theorem Zero.below {w w' : World} {b : Nat} (h : Zero w b) (hb : Below w.heap.size w w') : Zero w' b := by
  obtain ⟨h0, h1, h2, h3, h4⟩ := h
  exact ⟨(hb.cell (p := ⟨b, _, none⟩) h4).trans h0, (hb.cell (p := ⟨b, _, none⟩) h4).trans h1, (hb.cell (p := ⟨b, _, none⟩) h4).trans h2, fun i => (World.frozen?_of_block (a := ⟨b, i, none⟩) (hb.block b h4)).trans (h3 i), Nat.lt_of_lt_of_le h4 hb.size⟩
theorem Zero.put {w : World} {B : Nat} (h : Zero w B) (x y z : Value) : (((w.setCell ⟨B, 0, none⟩ x).setCell ⟨B, 1, none⟩ y).setCell ⟨B, 2, none⟩ z).cell? ⟨B, 0, none⟩ = some x ∧ (((w.setCell ⟨B, 0, none⟩ x).setCell ⟨B, 1, none⟩ y).setCell ⟨B, 2, none⟩ z).cell? ⟨B, 1, none⟩ = some y ∧ (((w.setCell ⟨B, 0, none⟩ x).setCell ⟨B, 1, none⟩ y).setCell ⟨B, 2, none⟩ z).cell? ⟨B, 2, none⟩ = some z := by
  obtain ⟨h0, h1, h2, h3, h4⟩ := h
  refine ⟨?_, ?_, ?_⟩
  · rw [World.cell?_setCell_other _ _ _ _ (by simp), World.cell?_setCell_other _ _ _ _ (by simp)]
    exact World.cell?_setCell_same _ _ _ h0
  · rw [World.cell?_setCell_other _ _ _ _ (by simp)]
    exact World.cell?_setCell_same _ _ _ ((World.cell?_setCell_other _ _ _ _ (by simp)).trans h1)
  · exact World.cell?_setCell_same _ _ _ ((World.cell?_setCell_other _ _ _ _ (by simp)).trans ((World.cell?_setCell_other _ _ _ _ (by simp)).trans h2))
theorem set3_below {w W : World} {B : Nat} (h : Below w.heap.size w W) (hB : w.heap.size ≤ B) (x y z : Value) : Below w.heap.size w (((W.setCell ⟨B, 0, none⟩ x).setCell ⟨B, 1, none⟩ y).setCell ⟨B, 2, none⟩ z) :=
  ((h.setCell (p := ⟨B, 0, none⟩) hB _).setCell (p := ⟨B, 1, none⟩) hB _).setCell (p := ⟨B, 2, none⟩) hB _
theorem word_bd : ∀ (l : List UInt8) (b n r : Int), 0 ≤ n → n ≤ 65535 → 2 ≤ b → Nums.word b n l = some r → 0 ≤ r ∧ r ≤ 65535
  | [], b, n, r, h0, h1, hb, h => by cases h; exact ⟨h0, h1⟩
  | c :: l, b, n, r, h0, h1, hb, h => by
    have h : (if b ≤ Nums.digS (c.toNat : Int) then none else if 65535 < n * b + Nums.digS (c.toNat : Int) then none else Nums.word b (n * b + Nums.digS (c.toNat : Int)) l) = some r := h
    split at h
    · cases h
    split at h
    · cases h
    · rename_i h2
      have hd := (Nums.digS_bd (c.toNat : Int)).1
      have hm : 0 ≤ n * b := Int.mul_nonneg h0 (by omega)
      exact word_bd l b _ r (by omega) (by omega) hb h
theorem num_bd {s : ByteArray} {n : Int} (h : Nums.num s = some n) : 0 ≤ n ∧ n ≤ 65535 := by
  have base : ∀ (x : ByteArray) (b : Int), 2 ≤ b → Nums.base x b = some n → 0 ≤ n ∧ n ≤ 65535 := fun x b hb h => by
    unfold Nums.base at h
    split at h
    · cases h
    · exact word_bd _ b 0 n (by omega) (by omega) hb h
  unfold Nums.num at h
  split at h
  · cases h
  split at h
  · exact base _ 16 (by omega) h
  split at h
  · exact base _ 2 (by omega) h
  · exact base _ 10 (by omega) h
theorem hash_has (s : ByteArray) : Lib.hasPrefix s.data.toList [35] = hash s := by
  unfold hash Lib.hasPrefix
  cases h : s.data.toList with
  | nil =>
    have : s.size = 0 := by show s.data.size = 0; rw [← Array.length_toList, h]; rfl
    rw [decide_eq_false (by omega)]; rfl
  | cons c r =>
    have hsz : 0 < s.size := by show 0 < s.data.size; rw [← Array.length_toList, h]; exact Nat.succ_pos _
    have hc : s.data.getD 0 0 = c := by
      have : s.data.toList[0]? = some c := by rw [h]; rfl
      rw [Array.getElem?_toList] at this
      rw [Array.getD_eq_getD_getElem?, this]; rfl
    rw [hc]
    rw [Bool.eq_iff_iff]
    simp [List.isPrefixOf, hsz]
    constructor
    · intro e; rw [← e]; rfl
    · intro e; exact (UInt8.toNat_inj.1 e.symm)
theorem tab_below {w w' : World} (h : Nums.Tab w) (hb : Below w.heap.size w w') : Nums.Tab w' := fun i hi => (hb.cell (p := ⟨3, i, none⟩) (World.block_lt_of_cell? w ⟨3, 0, none⟩ (h 0 (by decide)))).trans (h i hi)
set_option maxHeartbeats 2000000 in
theorem nodeOf_any (s : ByteArray) (w : World) (hs : s.size ≤ 1048576) (hT : OpTab w) (hP : Pow w) (hX : Nums.Tab w) :
    Calls Tryd.prog 27 #[.string s] w fun e w' => e = .returned (nodeV (nodeI s)) ∧ Below w.heap.size w w' := by
  have B0 : Hid (Below w.heap.size w (w.alloc (.cells #[.int .i64 0, .int .i64 0, .string ⟨#[]⟩] 38))) := (Below.refl _ _).alloc (Nat.le_refl _) _
  have Z0 : Hid (Zero (w.alloc (.cells #[.int .i64 0, .int .i64 0, .string ⟨#[]⟩] 38)) w.heap.size) := Zero.new w
  have HT : Hid (OpTab w ∧ Pow w ∧ Nums.Tab w) := ⟨hT, hP, hX⟩
  clear hT hP hX
  go_enter Tryd.func27, Tryd.ntmps27
  go_wp2_with fail
  generalize w.alloc (.cells #[.int .i64 0, .int .i64 0, .string ⟨#[]⟩] 38) = W0 at B0 Z0 ⊢
  go_loopw [3] (fun i wr => ∃ k : Nat, k ≤ 14 ∧ i = .int .i64 (4 + (k : Int)) ∧ Hid (∀ j, j < k → opAtB s j = false) ∧ wr = W0) (fun i _ => 18 - (intOf i).toNat)
  case atStart => exact ⟨0, Nat.zero_le _, rfl, fun j h => absurd h (Nat.not_lt_zero _), rfl⟩
  case round =>
    obtain ⟨k, hk, rfl, hno, rfl⟩ := hrel
    by_cases hlt : k < 14
    · have c0 := (HT.out.1.below B0.out) k hlt
      have e4 : (4 + (k : Int)) - 4 = (k : Int) := by omega
      have k0 : (0 : Int) ≤ (k : Int) := by omega
      have k1 : (k : Int) < 14 := by omega
      have hw4 : (4 + (k : Int)) ≤ 17 := by omega
      cases hb : opAtB s k with
      | true =>
        have HV : Hid (nodeV (nodeI s) = nodeV (4 + (k : Int), 0, ⟨#[]⟩)) := by show _ = _; unfold nodeI; rw [op_first hlt hno.out hb]
        have hb' : ((opTab.getD k ⟨#[]⟩).toList == s.toList) = true := hb
        generalize opTab.getD k ⟨#[]⟩ = T at c0 hb'
        obtain ⟨r0, r1, r2, f0, hrl⟩ := Z0.out
        have ZP : Hid (_ ∧ _ ∧ _) := Z0.out.put (.int .i64 (4 + (k : Int))) (.int .i64 0) (.string ⟨#[]⟩)
        have BB : Hid (Below w.heap.size w wr) := B0.out
        clear hno hb Z0
        go_wp2_with fail
        obtain ⟨p0, p1, p2⟩ := ZP.out
        exact bodyPost_ret (v := .agg #[.int .i64 (4 + (k : Int)), .int .i64 0, .string ⟨#[]⟩]) (by simp [results, Tryd.results27, go_sem, p0, p1, p2]) rfl ⟨(congrArg Ending.returned HV.out).symm, set3_below BB.out (Nat.le_refl _) _ _ _⟩
      | false =>
        have HN2 : Hid (∀ j, j < k + 1 → opAtB s j = false) := fun j hj => by
          rcases Nat.lt_or_ge j k with h | h
          · exact hno.out j h
          · have e : j = k := by omega
            subst e; exact hb
        have hb' : ((opTab.getD k ⟨#[]⟩).toList == s.toList) = false := hb
        generalize opTab.getD k ⟨#[]⟩ = T at c0 hb'
        clear hno hb
        go_wp2_with fail
        go_roundw
        case rel => exact ⟨k + 1, by omega, by first | go_num | (congr 1; omega), HN2.out, by first | rfl | trivial⟩
        case measure => simp [intOf]; omega
    · have e : k = 14 := by omega
      subst e
      have HOP : Hid (opI s = none) := op_none hno.out
      have cn := Nums.implNum_any s wr (tab_below HT.out.2.2 B0.out) (by unfold maxLen; omega)
      have HP0 : Hid (Pow wr) := HT.out.2.1.below B0.out
      clear hno
      cases hn : Nums.num s with
      | none =>
        rw [hn] at cn
        simp only [Option.getD_none, Option.isSome_none] at cn
        have HNI : Hid (numI s = none) := by show _ = _; unfold numI; rw [hn]
        clear hn
        have ch := fun W => Tryd.strings_HasPrefix s ⟨#[35]⟩ W
        rw [show (⟨#[35]⟩ : ByteArray).data.toList = [35] from rfl, hash_has] at ch
        cases hh : hash s with
        | true =>
          rw [hh] at ch
          have HV : Hid (nodeV (nodeI s) = nodeV (3, 0, (s.extract 1 s.size))) := by show _ = _; unfold nodeI; rw [HOP.out]; simp only; rw [HNI.out]; simp only; rw [hh]; rfl
          have hs1 : 1 ≤ s.size := (of_decide_eq_true hh).1
          clear hh
          obtain ⟨r0, r1, r2, f0, hrl⟩ := Z0.out
          have ZP : Hid (_ ∧ _ ∧ _) := (Z0.out).put (.int .i64 3) (.int .i64 0) (.string (s.extract 1 s.size))
          have BB : Hid (Below w.heap.size w wr) := B0.out
          go_wp2_with fail
          refine cn.mono ?_
          rintro e w' ⟨rfl, hw'⟩
          have hw' := hw'.symm
          subst hw'
          go_wp2_with (first | (go_at_call 51; refine (ch _).mono ?_; rintro e w' ⟨rfl, hw'⟩; have hw' := hw'.symm; subst hw') | go_in)
          obtain ⟨p0, p1, p2⟩ := ZP.out
          exact bodyPost_ret (v := .agg #[.int .i64 3, .int .i64 0, .string (s.extract 1 s.size)]) (by simp [results, Tryd.results27, go_sem, p0, p1, p2]) rfl ⟨(congrArg Ending.returned HV.out).symm, set3_below BB.out (Nat.le_refl _) _ _ _⟩
        | false =>
          rw [hh] at ch
          have HV : Hid (nodeV (nodeI s) = nodeV (2, 0, s)) := by show _ = _; unfold nodeI; rw [HOP.out]; simp only; rw [HNI.out]; simp only; rw [hh]; rfl
          clear hh
          obtain ⟨r0, r1, r2, f0, hrl⟩ := Z0.out
          have ZP : Hid (_ ∧ _ ∧ _) := (Z0.out).put (.int .i64 2) (.int .i64 0) (.string s)
          have BB : Hid (Below w.heap.size w wr) := B0.out
          go_wp2_with fail
          refine cn.mono ?_
          rintro e w' ⟨rfl, hw'⟩
          have hw' := hw'.symm
          subst hw'
          go_wp2_with (first | (go_at_call 51; refine (ch _).mono ?_; rintro e w' ⟨rfl, hw'⟩; have hw' := hw'.symm; subst hw') | go_in)
          obtain ⟨p0, p1, p2⟩ := ZP.out
          exact bodyPost_ret (v := .agg #[.int .i64 2, .int .i64 0, .string s]) (by simp [results, Tryd.results27, go_sem, p0, p1, p2]) rfl ⟨(congrArg Ending.returned HV.out).symm, set3_below BB.out (Nat.le_refl _) _ _ _⟩
      | some n =>
        rw [hn] at cn
        simp only [Option.getD_some, Option.isSome_some] at cn
        have hbd := num_bd hn
        have cf : ∀ W, Pow W → Calls Tryd.prog 45 #[.int .i64 n, .int .i64 10] W fun e w' => e = .returned (.string (decW n)) ∧ Below W.heap.size W w' := fun W h =>
          (Tryd.strconv_FormatInt_10 n (by omega) (by omega) W h).mono (by
            rintro e w' ⟨rfl, k, os, rfl⟩
            exact ⟨rfl, Lib.below_grow _ _ (Nat.le_refl _) k os⟩)
        cases hq : ((decW n).toList == s.toList) with
        | true =>
          have HV : Hid (nodeV (nodeI s) = nodeV (1, n, ⟨#[]⟩)) := by show _ = _; unfold nodeI numI; rw [HOP.out]; simp only; rw [hn]; simp only; rw [hq]; rfl
          clear hn
          generalize decW n = D at cf hq
          go_wp2_with fail
          refine cn.mono ?_
          rintro e w' ⟨rfl, hw'⟩
          have hw' := hw'.symm
          subst hw'
          go_wp2_with fail
          refine (cf _ HP0.out).mono ?_
          rintro e w3 ⟨rfl, b3⟩
          have ZZ : Hid (Zero w3 w.heap.size) := Z0.out.below b3
          have BB : Hid (Below w.heap.size w w3) := B0.out.trans (b3.mono B0.out.size)
          have BB3 : Hid (Below w.heap.size w w3) := BB.out
          clear b3 cf
          obtain ⟨r0, r1, r2, f0, hrl⟩ := ZZ.out
          have ZP : Hid (_ ∧ _ ∧ _) := ZZ.out.put (.int .i64 1) (.int .i64 n) (.string ⟨#[]⟩)
          go_wp2_with fail
          obtain ⟨p0, p1, p2⟩ := ZP.out
          exact bodyPost_ret (v := .agg #[.int .i64 1, .int .i64 n, .string ⟨#[]⟩]) (by simp [results, Tryd.results27, go_sem, p0, p1, p2]) rfl ⟨(congrArg Ending.returned HV.out).symm, set3_below BB.out (Nat.le_refl _) _ _ _⟩
        | false =>
          have HNI : Hid (numI s = none) := by show _ = _; unfold numI; rw [hn]; simp only; rw [hq]; rfl
          clear hn
          generalize decW n = D at cf hq
          go_wp2_with fail
          refine cn.mono ?_
          rintro e w' ⟨rfl, hw'⟩
          have hw' := hw'.symm
          subst hw'
          go_wp2_with fail
          refine (cf _ HP0.out).mono ?_
          rintro e w3 ⟨rfl, b3⟩
          have ZZ : Hid (Zero w3 w.heap.size) := Z0.out.below b3
          have BB : Hid (Below w.heap.size w w3) := B0.out.trans (b3.mono B0.out.size)
          have BB3 : Hid (Below w.heap.size w w3) := BB.out
          clear b3 cf
          have ch := fun W => Tryd.strings_HasPrefix s ⟨#[35]⟩ W
          rw [show (⟨#[35]⟩ : ByteArray).data.toList = [35] from rfl, hash_has] at ch
          cases hh : hash s with
          | true =>
            rw [hh] at ch
            have HV : Hid (nodeV (nodeI s) = nodeV (3, 0, (s.extract 1 s.size))) := by show _ = _; unfold nodeI; rw [HOP.out]; simp only; rw [HNI.out]; simp only; rw [hh]; rfl
            have hs1 : 1 ≤ s.size := (of_decide_eq_true hh).1
            clear hh
            obtain ⟨r0, r1, r2, f0, hrl⟩ := ZZ.out
            have ZP : Hid (_ ∧ _ ∧ _) := (ZZ.out).put (.int .i64 3) (.int .i64 0) (.string (s.extract 1 s.size))
            have BB : Hid (Below w.heap.size w w3) := BB3.out
            go_wp2_with (first | (go_at_call 51; refine (ch _).mono ?_; rintro e w' ⟨rfl, hw'⟩; have hw' := hw'.symm; subst hw') | go_in)
            obtain ⟨p0, p1, p2⟩ := ZP.out
            exact bodyPost_ret (v := .agg #[.int .i64 3, .int .i64 0, .string (s.extract 1 s.size)]) (by simp [results, Tryd.results27, go_sem, p0, p1, p2]) rfl ⟨(congrArg Ending.returned HV.out).symm, set3_below BB.out (Nat.le_refl _) _ _ _⟩
          | false =>
            rw [hh] at ch
            have HV : Hid (nodeV (nodeI s) = nodeV (2, 0, s)) := by show _ = _; unfold nodeI; rw [HOP.out]; simp only; rw [HNI.out]; simp only; rw [hh]; rfl
            clear hh
            obtain ⟨r0, r1, r2, f0, hrl⟩ := ZZ.out
            have ZP : Hid (_ ∧ _ ∧ _) := (ZZ.out).put (.int .i64 2) (.int .i64 0) (.string s)
            have BB : Hid (Below w.heap.size w w3) := BB3.out
            go_wp2_with (first | (go_at_call 51; refine (ch _).mono ?_; rintro e w' ⟨rfl, hw'⟩; have hw' := hw'.symm; subst hw') | go_in)
            obtain ⟨p0, p1, p2⟩ := ZP.out
            exact bodyPost_ret (v := .agg #[.int .i64 2, .int .i64 0, .string s]) (by simp [results, Tryd.results27, go_sem, p0, p1, p2]) rfl ⟨(congrArg Ending.returned HV.out).symm, set3_below BB.out (Nat.le_refl _) _ _ _⟩
end Go.Proofs.YtfgabgihdcokdaaDoor.Nodi
