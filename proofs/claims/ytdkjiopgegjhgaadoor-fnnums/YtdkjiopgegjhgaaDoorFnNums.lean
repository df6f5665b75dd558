/- For every code the law FnNums answers true: of the drawn text impl.ReadNum answers as spec.ReadNum does, a word, and a nought ahead changes nothing as long as there is room; the code reads afterwards as it read before; the table of digits holds what its initialiser lays when the call begins (tied to the program's text by the card). -/
import Derived.Test.YtdkjiopgegjhgaaDoorCards
import Derived.Test.YtdkjiopgegjhgaaDoorTie
import Derived.WalkKit
import Derived.ProofKit
import Derived.OpenShut
import Derived.ShutString
import Derived.ChangeOld
import Derived.ChangeVars
import Derived.OpenVars
import Derived.Below
import Derived.Deep.DeepHandedRow
import Derived.Lib.LaidTab
import Derived.Test.YtdkjiopgegjhgaaDoorNums
import Derived.Test.YtdkjiopgegjhgaaDoorHex
import Derived.Test.YtdkjiopgegjhgaaDoorRd
import Derived.Test.YtdkjiopgegjhgaaDoorDraw
import Derived.Lib.IndexBytes
namespace Go.Proofs.YtdkjiopgegjhgaaDoor.fnNums
open Go.ChangeShapes Go.WideShapes Go.ChangeAt Go.RowKit
open Go.ChangeMaps (open_string shut_string)
set_option linter.unusedVariables false

theorem own : ownKnob Tryd.prog.godebug = none := by kernel_rfl
theorem laidOut : laidOutB Tryd.prog = true := by kernel_rfl
theorem gTab : Tryd.prog.globalNamed "loop.example/g00460/impl.hexDigits" = some 0 := by kernel_rfl
theorem gTabType : (Tryd.prog.globals[0]?).map (·.type) = some 47 := by kernel_rfl
theorem cellsTab : Tryd.prog.cellsOf 47 = 16 := by kernel_rfl
theorem cells5 : Tryd.prog.cellsOf 5 = 1 := by kernel_rfl
theorem rowed : varsRowed Tryd.prog Rows.fnNumsSpec.vars = true := by kernel_rfl

/-- What the walk is told of a slice of bytes that came in: it is nil; or it leads to a row of cells, the numbers zs, each fitting its kind. -/
def IsRow (k : IntKind) (w : World) (a : Option Addr) (len cap : Nat) (zs : List Int) : Prop :=
  (a = none ∧ len = 0 ∧ cap = 0 ∧ zs = []) ∨
  ∃ x, a = some x ∧ len ≤ cap ∧ cap ≤ maxLen ∧ zs.length = cap ∧ (∀ i, i < zs.length → w.cell? (x.add i) = some (.int k (zs.getD i 0))) ∧ ∀ n ∈ zs, (Lit.int k n).wf = true

/-- What the row's list gives: the table's cells hold the sixteen digits. -/
theorem table {W : World} (h : laidMetH Tryd.prog Rows.fnNumsRow.laid W) : Nums.Tab W := fun i hi =>
  (Lib.tabIs_of_head (k := .u8) (zs := Nums.tab) (rest := []) gTab gTabType Tryd.underlying47 Tryd.underlying5 cells5 cellsTab h).cell gTab i hi
open Rdr (Rd Post)
theorem toRow {k : IntKind} {w : World} {a : Option Addr} {len cap : Nat} {zs : List Int} (h : IsRow k w a len cap zs) : Rdr.IsRow k w a len cap zs := h
theorem tab_below {w w' : World} (h : Nums.Tab w) (hb : Below w.heap.size w w') : Nums.Tab w' := fun i hi =>
  (hb.cell (p := ⟨0, i, none⟩) (Hex.size_pos h)).trans (h i hi)
theorem strOf_len (l : List Int) : (strOfNums l).size = l.length := strOfNums_size l
theorem hexS_size (n d : Int) : (Hex.hexS n d).size ≤ 10 := by
  by_cases h : 1 ≤ d ∧ d ≤ 4 ∧ 0 ≤ n ∧ n ≤ 65535 ∧ n / Hex.pw d = 0
  · rw [Hex.hexS_yes h, strOf_len]
    have hl : ∀ (k : Nat) (n : Int), (Hex.digs n k).length = k := fun k => by
      induction k with
      | zero => intro n; rfl
      | succ k ih => intro n; show (Hex.digs (n / 16) k ++ [_]).length = _; rw [List.length_append, ih]; rfl
    rw [List.length_cons, hl]; omega
  · rw [Hex.hexS_no h]; exact Nat.zero_le _

set_option maxHeartbeats 1000000 in
theorem drawNum_any (a : Option Addr) (len cap : Nat) (zs : List Int) (w : World) (h : Rdr.IsRow .u8 w a len cap zs) :
    Calls Tryd.prog 13 #[.slice a len cap] w fun e w' => (∃ s : ByteArray, s.size ≤ 1000000 ∧ e = .returned (.string s)) ∧ Below w.heap.size w w' := by
  have H : Hid (Rdr.IsRow .u8 w a len cap zs) := h
  clear h
  go_enter Tryd.func13, Tryd.ntmps13
  go_wp2_with fail
  refine (Rdr.open_any _ _ _ _ _ H.out).mono ?_
  rintro e w1 ⟨rfl, hr, hb⟩
  go_wp2_with fail
  refine (Rdr.below_any _ _ _ hr (by decide) (by decide)).mono ?_
  rintro e w2 ⟨⟨n, n0, n1, rfl⟩, hp⟩
  go_wp2_with fail
  refine (Rdr.below_any _ _ _ hp.1 (by decide) (by decide)).mono ?_
  rintro e w3 ⟨⟨x, x0, x1, rfl⟩, hp2⟩
  have hz := hb.size
  have HP : Post w1 w.heap.size w3 := hp.trans hp2
  clear hp hp2
  by_cases e0 : x = 0
  · subst e0
    go_wp2_with fail
    refine (Hex.specHex_any _ _ _).mono ?_
    rintro e w4 ⟨rfl, rfl⟩
    have hz10 := hexS_size (n % 65536) 4
    generalize Hex.hexS (n % 65536) 4 = hx at hz10 ⊢
    go_wp2_with fail
    refine (Draw.hurt_any _ _ _ HP.1 (by omega)).mono ?_
    rintro e w5 ⟨⟨t, ht, rfl⟩, hp3⟩
    go_wp2
    go_ret
    exact ⟨⟨t, by omega, rfl⟩, hb.trans ((HP.trans hp3).below (Nat.le_refl _) hz)⟩
  by_cases e1 : x = 1
  · subst e1
    go_wp2_with fail
    refine (Rdr.below_any _ _ _ (HP.alloc _).1 (by decide) (by decide)).mono ?_
    rintro e w4 ⟨⟨y, y0, y1, rfl⟩, hp3⟩
    obtain ⟨t, ht, hc⟩ := Draw.row_text (C := [⟨#[]⟩, ⟨#[49]⟩, ⟨#[49, 48, 49, 48]⟩, ⟨#[50]⟩, ⟨#[49, 49, 49, 49, 49, 49, 49, 49, 49, 49, 49, 49, 49, 49, 49, 49, 49]⟩]) 20 hp3 rfl HP.1.lt (by decide) y0 y1
    go_wp2
    go_ret
    exact ⟨⟨⟨#[37]⟩ ++ t, by rw [ByteArray.size_append]; show 1 + t.size ≤ _; omega, rfl⟩, hb.trans (((HP.alloc _).trans hp3).below (Nat.le_refl _) hz)⟩
  by_cases e2 : x = 2
  · subst e2
    go_wp2_with fail
    refine (Rdr.below_any _ _ _ (HP.alloc _).1 (by decide) (by decide)).mono ?_
    rintro e w4 ⟨⟨y, y0, y1, rfl⟩, hp3⟩
    obtain ⟨t, ht, hc⟩ := Draw.row_text (C := [⟨#[]⟩, ⟨#[48, 48, 55]⟩, ⟨#[54, 53, 53, 51, 53]⟩, ⟨#[54, 53, 53, 51, 54]⟩, ⟨#[45, 49]⟩, ⟨#[36, 103]⟩, ⟨#[36, 97, 98]⟩]) 20 hp3 rfl HP.1.lt (by decide) y0 y1
    go_wp2
    go_ret
    exact ⟨⟨t, by omega, rfl⟩, hb.trans (((HP.alloc _).trans hp3).below (Nat.le_refl _) hz)⟩
  · have b0 : (x == 0) = false := by simpa using e0
    have b1 : (x == 1) = false := by simpa using e1
    have b2 : (x == 2) = false := by simpa using e2
    go_wp2_with fail
    refine (Draw.l1Dec_any _ _ (by omega) (by omega)).mono ?_
    rintro e w4 ⟨rfl, hb4⟩
    have hds := Draw.dec_size n.toNat n ⟨#[]⟩ (Nat.le_refl _) n0
    have hds : (Draw.dec n ⟨#[]⟩).size ≤ 70001 := by have : ((⟨#[]⟩ : ByteArray).size : Int) = 0 := rfl; omega
    generalize Draw.dec n ⟨#[]⟩ = dx at hds ⊢
    have HP4 : Post w1 w.heap.size w4 := HP.trans ⟨HP.1.kept fun k hk => hb4.block k (Nat.lt_of_le_of_lt hk HP.1.lt), ⟨hb4.os, hb4.tape, hb4.output, hb4.size, fun k hk _ => hb4.block k hk⟩⟩
    clear HP
    go_wp2_with fail
    refine (Draw.hurt_any _ _ _ HP4.1 (by omega)).mono ?_
    rintro e w5 ⟨⟨t, ht, rfl⟩, hp3⟩
    go_wp2
    go_ret
    exact ⟨⟨t, by omega, rfl⟩, hb.trans ((HP4.trans hp3).below (Nat.le_refl _) hz)⟩
theorem word_zero (b : Int) (hb : 2 ≤ b) (l : List UInt8) : Nums.word b 0 (48 :: l) = Nums.word b 0 l := by
  show (if b ≤ Nums.digS (((48 : UInt8).toNat : Nat) : Int) then none else if 65535 < 0 * b + Nums.digS (((48 : UInt8).toNat : Nat) : Int) then none else Nums.word b (0 * b + Nums.digS (((48 : UInt8).toNat : Nat) : Int)) l) = _
  have e : Nums.digS (((48 : UInt8).toNat : Nat) : Int) = 0 := by decide
  rw [e, if_neg (by omega), if_neg (by omega), Int.zero_mul, Int.add_zero]
theorem word_bd (b : Int) (hb : 2 ≤ b) : ∀ (l : List UInt8) (m n : Int), 0 ≤ m → m ≤ 65535 → Nums.word b m l = some n → 0 ≤ n ∧ n ≤ 65535
  | [], m, n, h0, h1, h => by cases h; exact ⟨h0, h1⟩
  | c :: r, m, n, h0, h1, h => by
    have hd := (Nums.digS_bd (c.toNat : Int)).1
    have hm : 0 ≤ m * b := Int.mul_nonneg h0 (by omega)
    unfold Nums.word at h
    by_cases h2 : b ≤ Nums.digS (c.toNat : Int)
    · rw [if_pos h2] at h; cases h
    · rw [if_neg h2] at h
      by_cases h3 : 65535 < m * b + Nums.digS (c.toNat : Int)
      · rw [if_pos h3] at h; cases h
      · rw [if_neg h3] at h
        exact word_bd b hb r _ n (by omega) (by omega) h
theorem base_bd {s : ByteArray} {b n : Int} (hb : 2 ≤ b) (h : Nums.base s b = some n) : 0 ≤ n ∧ n ≤ 65535 ∧ 0 < s.size := by
  unfold Nums.base at h
  by_cases h0 : s.size = 0
  · rw [if_pos h0] at h; cases h
  · rw [if_neg h0] at h
    have := word_bd b hb _ 0 n (by decide) (by decide) h
    exact ⟨this.1, this.2, by omega⟩
theorem base_zero {s t : ByteArray} {b n : Int} (hb : 2 ≤ b) (ht : t.data.toList = 48 :: s.data.toList) (h : Nums.base s b = some n) : Nums.base t b = some n := by
  have hz : t.size ≠ 0 := by
    intro e
    have := congrArg List.length ht
    rw [Array.length_toList] at this
    have e' : t.data.size = 0 := e
    rw [e'] at this
    simp at this
  have h0 : ¬ s.size = 0 := by have := (base_bd hb h).2.2; omega
  unfold Nums.base at h ⊢
  rw [if_neg h0] at h
  rw [if_neg hz, ht, word_zero b hb]
  exact h
theorem num_bd {s : ByteArray} {n : Int} (h : Nums.num s = some n) : 0 ≤ n ∧ n ≤ 65535 ∧ 0 < s.size ∧ s.size ≤ 18 := by
  unfold Nums.num at h
  by_cases h0 : s.size = 0 ∨ 18 < s.size
  · rw [if_pos h0] at h; cases h
  · rw [if_neg h0] at h
    refine ⟨?_, ?_, by omega, by omega⟩
    all_goals
      by_cases h1 : (s.data.getD 0 0).toNat = 36
      · rw [if_pos h1] at h
        have := base_bd (by decide) h
        omega
      · rw [if_neg h1] at h
        by_cases h2 : (s.data.getD 0 0).toNat = 37
        · rw [if_pos h2] at h
          have := base_bd (by decide) h
          omega
        · rw [if_neg h2] at h
          have := base_bd (by decide) h
          omega
theorem num_plain {s : ByteArray} {n : Int} (h : Nums.num s = some n) (h1 : ¬ (s.data.getD 0 0).toNat = 36) (h2 : ¬ (s.data.getD 0 0).toNat = 37) (hz : ¬ 18 < s.size + 1) : Nums.num (⟨#[48]⟩ ++ s) = some n := by
  have hb := num_bd h
  unfold Nums.num at h
  rw [if_neg (by omega), if_neg h1, if_neg h2] at h
  have hl : (⟨#[48]⟩ ++ s : ByteArray).size = s.size + 1 := by rw [ByteArray.size_append]; show 1 + s.size = _; omega
  have hd : (⟨#[48]⟩ ++ s : ByteArray).data.toList = 48 :: s.data.toList := by rw [ByteArray.data_append]; simp
  have hg : (⟨#[48]⟩ ++ s : ByteArray).data.getD 0 0 = 48 := by
    rw [Array.getD_eq_getD_getElem?, ← Array.getElem?_toList, hd]; rfl
  unfold Nums.num
  rw [if_neg (by rw [hl]; omega), hg, if_neg (by decide), if_neg (by decide)]
  exact base_zero (by decide) hd h
theorem num_sign {s : ByteArray} {n : Int} (h : Nums.num s = some n) (h12 : (s.data.getD 0 0).toNat = 36 ∨ (s.data.getD 0 0).toNat = 37) (hz : ¬ 18 < s.size + 1) : Nums.num (s.extract 0 1 ++ ⟨#[48]⟩ ++ s.extract 1 s.size) = some n := by
  have hb := num_bd h
  have e1 : (s.extract 0 1).size = 1 := by rw [ByteArray.size_extract]; omega
  have hl : (s.extract 0 1 ++ ⟨#[48]⟩ ++ s.extract 1 s.size : ByteArray).size = s.size + 1 := by
    rw [ByteArray.size_append, ByteArray.size_append, e1, Nums.cut_size]; show 1 + 1 + (s.size - 1) = _; omega
  have hx : (s.extract 0 1).data.toList = s.data.toList.take 1 := by
    rw [ByteArray.data_extract]; simp
  obtain ⟨c, r, hcr⟩ : ∃ c r, s.data.toList = c :: r := by
    cases e : s.data.toList with
    | nil => have := congrArg List.length e; rw [Array.length_toList] at this; have : s.size = 0 := this; omega
    | cons c r => exact ⟨c, r, rfl⟩
  have hd : (s.extract 0 1 ++ ⟨#[48]⟩ ++ s.extract 1 s.size : ByteArray).data.toList = c :: 48 :: r := by
    rw [ByteArray.data_append, ByteArray.data_append]
    simp only [Array.toList_append]
    rw [hx, Lib.extract_to_end, hcr]; rfl
  have hc : s.data.getD 0 0 = c := by rw [Array.getD_eq_getD_getElem?, ← Array.getElem?_toList, hcr]; rfl
  have hg : (s.extract 0 1 ++ ⟨#[48]⟩ ++ s.extract 1 s.size : ByteArray).data.getD 0 0 = c := by
    rw [Array.getD_eq_getD_getElem?, ← Array.getElem?_toList, hd]; rfl
  have hr : ∀ t : ByteArray, t.data.toList = c :: 48 :: r → (t.extract 1 t.size).data.toList = 48 :: (s.extract 1 s.size).data.toList := fun t ht => by
    rw [Lib.extract_to_end, ht, Lib.extract_to_end, hcr]; rfl
  unfold Nums.num at h ⊢
  rw [if_neg (by omega), hc] at h
  rw [if_neg (by rw [hl]; omega), hg]
  rw [hc] at h12
  rcases h12 with h12 | h12
  · rw [if_pos h12] at h ⊢
    exact base_zero (by decide) (hr _ hd) h
  · rw [if_neg (by omega), if_pos h12] at h ⊢
    exact base_zero (by decide) (hr _ hd) h

set_option maxHeartbeats 2000000 in
theorem walk (w : World) (a0 : Option Addr) (len0 cap0 : Nat) (z0 : List Int) (w0 : IsRow .u8 w a0 len0 cap0 z0) (hT : Nums.Tab w) :
    Calls Tryd.prog 4 #[.slice a0 len0 cap0] w fun e w' => e = .returned (.bool true) ∧ Below w.heap.size w w' := by
  have H : Hid (Rdr.IsRow .u8 w a0 len0 cap0 z0) := toRow w0
  have HT : Hid (Nums.Tab w) := hT
  clear w0 hT
  have cb := Rdr.big_any a0 len0 cap0 w H.out.len
  by_cases hbig : Rdr.bigB len0 = true
  · rw [hbig] at cb
    go_enter Tryd.func4, Tryd.ntmps4
    go_wp2_with (go_at_call 8; refine cb.mono ?_; rintro e w' ⟨rfl, rfl⟩)
    go_ret
    exact ⟨rfl, Below.refl _ _⟩
  · have hbig : Rdr.bigB len0 = false := by simpa using hbig
    rw [hbig] at cb
    go_enter Tryd.func4, Tryd.ntmps4
    go_wp2_with fail
    refine cb.mono ?_
    rintro e w' ⟨rfl, rfl⟩
    go_wp2_with fail
    refine (drawNum_any _ _ _ _ _ H.out).mono ?_
    rintro e w1 ⟨⟨s, hs, rfl⟩, hB1⟩
    have HT1 : Hid (Nums.Tab w1) := tab_below HT.out hB1
    have HB : Hid (Below w'.heap.size w' w1) := hB1
    clear hB1
    have hs' : s.size ≤ maxLen := Nat.le_trans hs (by unfold maxLen; decide)
    have c1 := Nums.implNum_any s w1 HT1.out hs'
    have c2 := Nums.specNum_any s w1 hs'
    clear hs'
    cases hn : Nums.num s with
    | none =>
      rw [hn] at c1 c2
      clear hn
      go_wp2_with (first | (go_at_call 12; refine c1.mono ?_; rintro e w2 ⟨rfl, rfl⟩) | (go_at_call 14; refine c2.mono ?_; rintro e w2 ⟨rfl, rfl⟩))
      go_ret
      exact ⟨rfl, HB.out⟩
    | some n =>
      rw [hn] at c1 c2
      obtain ⟨n0, n1, z0, z18⟩ := num_bd hn
      have HN : Hid (Nums.num s = some n) := hn
      clear hn
      have hne : s.toList.isEmpty = false := Nums.empty_no (by omega)
      have hg := Nums.getD_at s z0
      by_cases h1 : s[0].toNat = 36 ∨ s[0].toNat = 37
      · have hz1 : 1 ≤ s.size := z0
        have e1 : (s.extract 0 1).size = 1 := by rw [ByteArray.size_extract]; omega
        have e2 : (s.extract 1 s.size).size = s.size - 1 := Nums.cut_size s
        have hl : (s.extract 0 1 ++ ⟨#[48]⟩ ++ s.extract 1 s.size : ByteArray).size = s.size + 1 := by
          rw [ByteArray.size_append, ByteArray.size_append, e1, e2]; show 1 + 1 + (s.size - 1) = _; omega
        have c3 := fun k : Nat => Nums.implNum_any (s.extract 0 1 ++ ⟨#[48]⟩ ++ s.extract 1 s.size) (w1.drewN k) (fun i hi => HT1.out i hi) (Nat.le_trans (show _ ≤ 100 by omega) (by unfold maxLen; decide))
        by_cases h18 : 18 < s.size + 1
        · have H18 : (18 : Int) < (s.size : Int) + 1 := by omega
          rcases h1 with h1 | h1
          · have b1 : ((s[0].toNat : Int) == 36) = true := by simp; omega
            clear hg
            go_wp2_with fail
            refine c1.mono ?_
            rintro e w2 ⟨rfl, rfl⟩
            go_wp2_with fail
            refine c2.mono ?_
            rintro e w2 ⟨rfl, rfl⟩
            go_wp2_with fail
            go_quiet (fail)
            go_wp2_with fail
            refine (c3 _).mono ?_
            rintro e w3 ⟨rfl, rfl⟩
            go_wp2
            go_ret
            exact ⟨rfl, below_drewN HB.out _⟩
          · have b1 : ((s[0].toNat : Int) == 36) = false := by simp; omega
            have b2 : ((s[0].toNat : Int) == 37) = true := by simp; omega
            clear hg
            go_wp2_with fail
            refine c1.mono ?_
            rintro e w2 ⟨rfl, rfl⟩
            go_wp2_with fail
            refine c2.mono ?_
            rintro e w2 ⟨rfl, rfl⟩
            go_wp2_with fail
            go_quiet (fail)
            go_wp2_with fail
            refine (c3 _).mono ?_
            rintro e w3 ⟨rfl, rfl⟩
            go_wp2
            go_ret
            exact ⟨rfl, below_drewN HB.out _⟩
        · have hn3 := num_sign HN.out (by rw [hg]; exact h1) h18
          rw [hn3] at c3
          rcases h1 with h1 | h1
          all_goals clear hn3
          · have b1 : ((s[0].toNat : Int) == 36) = true := by simp; omega
            clear hg
            go_wp2_with fail
            refine c1.mono ?_
            rintro e w2 ⟨rfl, rfl⟩
            go_wp2_with fail
            refine c2.mono ?_
            rintro e w2 ⟨rfl, rfl⟩
            go_wp2_with fail
            go_quiet (fail)
            go_wp2_with fail
            refine (c3 _).mono ?_
            rintro e w3 ⟨rfl, rfl⟩
            go_wp2
            go_ret
            exact ⟨rfl, below_drewN HB.out _⟩
          · have b1 : ((s[0].toNat : Int) == 36) = false := by simp; omega
            have b2 : ((s[0].toNat : Int) == 37) = true := by simp; omega
            clear hg
            go_wp2_with fail
            refine c1.mono ?_
            rintro e w2 ⟨rfl, rfl⟩
            go_wp2_with fail
            refine c2.mono ?_
            rintro e w2 ⟨rfl, rfl⟩
            go_wp2_with fail
            go_quiet (fail)
            go_wp2_with fail
            refine (c3 _).mono ?_
            rintro e w3 ⟨rfl, rfl⟩
            go_wp2
            go_ret
            exact ⟨rfl, below_drewN HB.out _⟩
      · have b1 : ((s[0].toNat : Int) == 36) = false := by simp; omega
        have b2 : ((s[0].toNat : Int) == 37) = false := by simp; omega
        have hl : (⟨#[48]⟩ ++ s : ByteArray).size = 1 + s.size := by rw [ByteArray.size_append]; rfl
        have c3 := Nums.implNum_any (⟨#[48]⟩ ++ s) w1 HT1.out (Nat.le_trans (show _ ≤ 100 by omega) (by unfold maxLen; decide))
        by_cases h18 : 18 < s.size + 1
        · have H18 : (18 : Int) < 1 + (s.size : Int) := by omega
          clear h1 hg
          go_wp2_with fail
          refine c1.mono ?_
          rintro e w2 ⟨rfl, rfl⟩
          go_wp2_with fail
          refine c2.mono ?_
          rintro e w2 ⟨rfl, rfl⟩
          go_wp2_with fail
          refine c3.mono ?_
          rintro e w3 ⟨rfl, rfl⟩
          go_wp2
          go_ret
          exact ⟨rfl, HB.out⟩
        · have hn3 := num_plain HN.out (by rw [hg]; omega) (by rw [hg]; omega) h18
          rw [hn3] at c3
          clear hn3
          clear h1 hg
          go_wp2_with fail
          refine c1.mono ?_
          rintro e w2 ⟨rfl, rfl⟩
          go_wp2_with fail
          refine c2.mono ?_
          rintro e w2 ⟨rfl, rfl⟩
          go_wp2_with fail
          refine c3.mono ?_
          rintro e w3 ⟨rfl, rfl⟩
          go_wp2
          go_ret
          exact ⟨rfl, HB.out⟩

set_option maxRecDepth 100000 in
theorem contract (H : Type) (enc : TypeId × Value → H) (W : World) (base : Nat) (args : Array Value) (ds gs : List (DataW H)) (before : List MemPlace)
    (hval : ∀ (j : Nat) t v, Tryd.f4.params[j]? = some t → args[j]? = some v → Value.okWide Tryd.prog W .any base t v)
    (hW : DataW.Whole enc Tryd.prog Tryd.f4.params.toList Rows.fnNumsSpec.vars false W args.toList ds gs before) (hL : laidMetH Tryd.prog Rows.fnNumsRow.laid W) :
    Calls Tryd.prog 4 args W fun e W' => ∃ v, e = .returned v ∧ Rows.fnNumsSpec.post enc Tryd.prog Tryd.f4 false true false false W args v W' := by
  have hW' := hW
  obtain ⟨p, q, hA0, hV, hbef, hfz, hnd⟩ := hW
  have hA : DataW.TrodAll enc Tryd.prog W 0 (fun _ => true) true Tryd.f4.params.toList args.toList ds p := hA0
  have hVk : DataW.TrodVars enc Tryd.prog W (fun _ => true) Rows.fnNumsSpec.vars gs q := hV
  rw [Tryd.params4] at hA hval
  obtain ⟨v0, vs0, d0, ds0, p0, q0, hargs, rfl, rfl, h0, r0⟩ := trodAll_cons hA
  obtain ⟨rfl, rfl, rfl⟩ := trodAll_nil r0
  obtain rfl : args = #[v0] := by cases args; simp_all
  obtain ⟨g, t, cs, fuel, d, p', rfl, hg, ht, hvar, hd, hq⟩ := trodVars_one hV
  obtain ⟨a0, len0, cap0, rfl⟩ := okWide_slice Tryd.underlying22 (hval 0 22 v0 rfl rfl)
  have k0 := h0
  have lt0 : ∀ x ∈ p0, x.block < W.heap.size := by obtain ⟨m, hm⟩ := k0; exact DataW.trod_lt m _ _ _ hm
  obtain ⟨z0, w0⟩ : ∃ zs, IsRow .u8 W a0 len0 cap0 zs := by
    obtain ⟨fuel, hf⟩ := h0
    rcases open_ints Tryd.underlying22 Tryd.underlying5 (by kernel_rfl) hf with ⟨hcs, _⟩ | ⟨x, l, c, zs, hcs, _, hl, hm, hz, _, hcell, hwz⟩
    · simp [Value.cells] at hcs
      obtain ⟨rfl, rfl, rfl⟩ := hcs
      exact ⟨[], .inl ⟨rfl, rfl, rfl, rfl⟩⟩
    · simp [Value.cells] at hcs
      obtain ⟨rfl, rfl, rfl⟩ := hcs
      exact ⟨zs, .inr ⟨_, rfl, hl, hm, by simpa using hz, hcell, hwz⟩⟩
  clear hA0
  refine (walk W a0 len0 cap0 z0 w0 (table hL)).mono fun e W' ⟨he, bel⟩ => ?_
  subst he
  exact ⟨_, rfl, _, _, _, [], _, q, hW', trodAll_mk1 (shut_bool Tryd.underlying4 _), (trodAll_cons_mk (Below.trod laidOut (by kernel_rfl) (of_decide_eq_true (by kernel_rfl)) k0 bel lt0) trodAll_mk0), Below.trodVars laidOut bel rowed hVk, bel.frame _, fun h => by cases h⟩

/-- A world for the witness: the settled one, the table holding what its initialiser lays. -/
noncomputable def laidWorld (os : Os) : World :=
  { World.holding Tryd.prog os ⟨#[], #[], []⟩ with heap := (World.holding Tryd.prog os ⟨#[], #[], []⟩).heap.modify 0 fun
      | .cells _ t frozen => .cells #[.int .u8 48, .int .u8 49, .int .u8 50, .int .u8 51, .int .u8 52, .int .u8 53, .int .u8 54, .int .u8 55, .int .u8 56, .int .u8 57, .int .u8 65, .int .u8 66, .int .u8 67, .int .u8 68, .int .u8 69, .int .u8 70] t frozen
      | o => o }
theorem laid_met (os : Os) : laidMet Tryd.prog Rows.fnNumsRow.laid ((laidWorld os).forCall (fun _ _ => 0) ⟨#[], #[.slice none 0 0], []⟩).memory :=
  laidMet_of_run' 8 (by kernel_rfl) (by kernel_rfl)
theorem reads (os : Os) {H : Type} (enc : TypeId × Value → H) : ∃ places, DataW.whole enc Tryd.prog ((laidWorld os).forCall (fun _ _ => 0) ⟨#[], #[.slice none 0 0], []⟩).memory Tryd.f4.params.toList Rows.fnNumsSpec.vars false [.slice none 0 0] 8 = some ([.nil], [.agg [.lit (.int .u8 48), .lit (.int .u8 49), .lit (.int .u8 50), .lit (.int .u8 51), .lit (.int .u8 52), .lit (.int .u8 53), .lit (.int .u8 54), .lit (.int .u8 55), .lit (.int .u8 56), .lit (.int .u8 57), .lit (.int .u8 65), .lit (.int .u8 66), .lit (.int .u8 67), .lit (.int .u8 68), .lit (.int .u8 69), .lit (.int .u8 70)]], places) :=
  ⟨MemPlace.row ⟨0, 0, none⟩ 16, by kernel_rfl⟩

set_option maxRecDepth 100000 in
theorem lifted (os : Os) (started : os.Started) (H : Type) (enc : TypeId × Value → H) (F : Stop.Interp) :
    ReturnsInHanded {} Tryd.checked os 4 .any ((OpenSpec.ofChange Rows.fnNumsSpec).preRow enc Tryd.prog Tryd.f4 Rows.fnNumsRow.domain false Rows.fnNumsRow.laid) (((OpenSpec.ofChange Rows.fnNumsSpec).at F).post enc Tryd.prog Tryd.f4 false true false false) := by
  obtain ⟨places, hx⟩ := reads os enc
  refine returnsInHanded_of_row (C := Tryd.checked) (s := OpenSpec.ofChange Rows.fnNumsSpec) own started (by kernel_rfl) Tryd.func4
    (witness_row_at (enc := enc) (C := Tryd.checked) false (laidWorld os) #[.slice none 0 0] rfl (by kernel_rfl) (by kernel_rfl) (by kernel_rfl)
      (OpenSpec.preRow_of_cond 8 hx (by kernel_rfl) (fun k hk => by cases hk) (by kernel_rfl) (laid_met os))) ?_
  intro W base args ds gs before hval hW _ _ _ hL _ _
  exact contract H enc W base args ds gs before hval hW hL

theorem said : Rows.FnNumsSaid :=
  OpenClaim.holds_of_cond 4 Tryd.f4 rfl rfl rfl rfl rfl rfl rfl ⟨rfl, rfl, rfl, rfl, rfl⟩ rfl rfl rfl rfl rfl (by kernel_rfl) Tryd.func4 (by kernel_rfl)
    (of_decide_eq_true (by kernel_rfl)) (by unfold Func.isWrapper; first | (rw [if_pos (by decide +kernel)]; kernel_rfl) | (rw [if_neg (by decide +kernel)]; exact ⟨rfl, rfl⟩))
    (fun os started H enc _ F => by rw [OpenClaim.pre_eq_preRow]; exact lifted os started H enc F)

theorem plain (f : FuncId) (fn : Func) (hf : Tryd.pinned.checked.prog.funcNamed "loop.example/g00460/laws.FnNums" = some f) (hfn : Tryd.pinned.checked.prog.funcs[f]? = some fn) :
    true = Tryd.pinned.checked.prog.looks [] ∧ ∀ (j : Nat) t, fn.params[j]? = some t → Tryd.pinned.checked.prog.wantsStandIn t = false := by
  obtain rfl : f = 4 := Option.some.inj ((show Tryd.prog.funcNamed "loop.example/g00460/laws.FnNums" = some 4 by kernel_rfl).symm.trans hf) |>.symm
  obtain rfl : fn = Tryd.f4 := (Option.some.inj (Tryd.func4.symm.trans hfn)).symm
  refine ⟨by kernel_rfl, fun j t ht => ?_⟩
  rw [Tryd.params4] at ht
  have h : t = 22 := by simpa using Array.mem_of_getElem? ht
  subst h
  exact (show Tryd.prog.wantsStandIn 22 = false by kernel_rfl)

theorem card : Rows.FnNumsCardSaid :=
  Claim7.holds_tied_plain_at .later [] _ _ _ _ said (fun _ h => by cases h) (by kernel_rfl) (fun _ h => by cases h) fnNums_row_tie rfl ⟨rfl, rfl⟩ (by kernel_rfl) rfl plain (by kernel_rfl)
end Go.Proofs.YtdkjiopgegjhgaaDoor.fnNums
namespace Go.Proofs.YtdkjiopgegjhgaaDoor
theorem fnNums_holds : Rows.FnNumsCardSaid := fnNums.card
end Go.Proofs.YtdkjiopgegjhgaaDoor
