/-
  Contracts of ours for both ReadSyms.
-/
import Derived.Test.YtkcophgkkeakjaaDoorSymp
import Derived.Test.YtkcophgkkeakjaaDoorShelg
import Derived.Laws.Strings3
import Derived.Laws.OwnMore
namespace Go.Proofs.YtkcophgkkeakjaaDoor.Symq
open Go.ChangeShapes Go.WideShapes Go.ChangeAt Go.RowKit Go.Deep
open Symr (Sym Syms)
open Symt Symp
set_option linter.unusedVariables false

theorem brk_none : ∀ l : List UInt8, (∀ c ∈ l, c ≠ 10) → brk l = (l, [], false)
  | [], _ => rfl
  | c :: r, h => by rw [brk, if_neg (h c (List.mem_cons_self ..)), brk_none r (fun d hd => h d (List.mem_cons_of_mem _ hd))]
theorem at_list (s : ByteArray) (j : Nat) (h : j < s.size) : s.data.toList[j]? = some s[j] := by
  rw [List.getElem?_eq_getElem (by rw [len_size]; exact h), Array.getElem_toList]; rfl
theorem cut_here {s : ByteArray} {k : Nat} (hk : k < s.size) (hn : ∀ j (h : j < s.size), j < k → s[j] ≠ 10) (h10 : s[k] = 10) : A s = s.extract 0 k ∧ B s = s.extract (k + 1) s.size ∧ F s = true := by
  have e : s.data.toList = s.data.toList.take k ++ 10 :: s.data.toList.drop (k + 1) := by
    have := Nums.drop_at s k hk
    rw [h10] at this
    rw [← this, List.take_append_drop]
  have hb : brk s.data.toList = (s.data.toList.take k, s.data.toList.drop (k + 1), true) := by
    conv => lhs; rw [e]
    refine brk_app _ _ fun c hc => ?_
    obtain ⟨i, hi, rfl⟩ := List.getElem_of_mem hc
    rw [List.length_take, len_size] at hi
    rw [List.getElem_take]
    have := hn i (by omega) (by omega)
    rwa [Array.getElem_toList]
  refine ⟨?_, ?_, ?_⟩
  · unfold A; rw [hb]
    apply ByteArray.ext; apply Array.toList_inj.1
    rw [ext_list]; simp
  · unfold B; rw [hb]
    apply ByteArray.ext; apply Array.toList_inj.1
    rw [ext_list]
    show s.data.toList.drop (k + 1) = _
    rw [List.take_of_length_le (by rw [List.length_drop, len_size]; omega)]
  · unfold F; rw [hb]
theorem cut_end {s : ByteArray} (hn : ∀ j (h : j < s.size), s[j] ≠ 10) : A s = s ∧ B s = ⟨#[]⟩ ∧ F s = false := by
  have hb : brk s.data.toList = (s.data.toList, [], false) := brk_none _ fun c hc => by
    obtain ⟨i, hi, rfl⟩ := List.getElem_of_mem hc
    rw [len_size] at hi
    have := hn i hi
    rwa [Array.getElem_toList]
  refine ⟨?_, ?_, ?_⟩
  · unfold A; rw [hb]
  · unfold B; rw [hb]
  · unfold F; rw [hb]
theorem slice_to (s : ByteArray) (k : Nat) (h : k < s.size) (w : World) : (Instr.slice 9 (.string s) none (some (.int .i64 (k : Int))) none).run Tryd.prog w = .ok (.string (s.extract 0 k)) w := by
  have := run_slice_string_h (P := Tryd.prog) (w := w) (t := 9) (s := s) Tryd.underlying9 .i64 (k : Int) (by omega) (by omega)
  rw [Int.toNat_natCast] at this
  exact this
theorem slice_from (s : ByteArray) (k : Nat) (h : k < s.size) (w : World) : (Instr.slice 9 (.string s) (some (.int .i64 ((k : Int) + 1))) none none).run Tryd.prog w = .ok (.string (s.extract (k + 1) s.size)) w := by
  have := run_slice_string_l (P := Tryd.prog) (w := w) (t := 9) (s := s) Tryd.underlying9 .i64 ((k : Int) + 1) (by omega) (by omega)
  rw [show ((k : Int) + 1).toNat = k + 1 by omega] at this
  exact this
theorem slice_37 (s : ByteArray) (w : World) (h : 7 ≤ s.size) : (Instr.slice 9 (.string s) (some (.int .i64 3)) (some (.int .i64 7)) none).run Tryd.prog w = .ok (.string (s.extract 3 7)) w := by
  have := run_slice_string (P := Tryd.prog) w 9 s .i64 .i64 3 7 Tryd.underlying9 (by omega) (by omega) (by omega)
  exact this
theorem ret3 {v u : Value} (h : v = u) : Ending.returned v = .returned u := by rw [h]
theorem cut_tuple {s : ByteArray} {k : Nat} (h : A s = s.extract 0 k ∧ B s = s.extract (k + 1) s.size ∧ F s = true) : (Value.tuple #[.string (s.extract 0 k), .string (s.extract (k + 1) s.size), .bool true]) = .tuple #[.string (A s), .string (B s), .bool (F s)] := by
  rw [h.1, h.2.1, h.2.2]
theorem cut_tuple0 {s : ByteArray} (h : A s = s ∧ B s = ⟨#[]⟩ ∧ F s = false) : (Value.tuple #[.string s, .string ⟨#[]⟩, .bool false]) = .tuple #[.string (A s), .string (B s), .bool (F s)] := by
  rw [h.1, h.2.1, h.2.2]
theorem ten {c : UInt8} : (c.toNat : Int) = 10 ↔ c = 10 := by
  constructor
  · intro h
    apply UInt8.toNat_inj.1
    show c.toNat = 10
    omega
  · rintro rfl; rfl
set_option maxHeartbeats 1000000 in
theorem l1Cut_any (s : ByteArray) (w : World) (hs : s.size ≤ 1048576) :
    Calls Tryd.prog 32 #[.string s, .int .u8 10] w fun e w' => e = .returned (.tuple #[.string (A s), .string (B s), .bool (F s)]) ∧ ∃ n, w' = w.drewN n := by
  go_enter Tryd.func32, Tryd.ntmps32
  go_wp2
  go_loop [7] (fun i => ∃ (k : Nat), k ≤ s.size ∧ i = .int .i64 k ∧ Hid (∀ j (h : j < s.size), j < k → s[j] ≠ 10)) (fun i => s.size - (intOf i).toNat)
  case atStart => exact ⟨0, Nat.zero_le _, rfl, fun j _ h => absurd h (Nat.not_lt_zero _)⟩
  case round =>
    obtain ⟨k, hk, rfl, hr⟩ := hrel
    by_cases hlt : k < s.size
    · by_cases hc : s[k] = 10
      · have HT := (show Hid _ from cut_tuple (cut_here hlt hr.out hc))
        have hc : (s[k].toNat : Int) = 10 := ten.2 hc
        have s1 := slice_to s k hlt
        have s2 := slice_from s k hlt
        have k0 : (0 : Int) ≤ (k : Int) := by omega
        have k1 : (k : Int) ≤ (s.size : Int) := by omega
        have k2 : (0 : Int) ≤ (k : Int) + 1 := by omega
        have k3 : (k : Int) + 1 ≤ (s.size : Int) := by omega
        have k4 : IntKind.i64.wrap ((k : Int) + 1) = (k : Int) + 1 := by rw [IntKind.wrap_i64]; omega
        have k5 : ((k : Int) + 1).toNat = k + 1 := by omega
        clear hr
        go_wp2_with fail
        go_quiet (fail)
        go_wp2
        go_ret3
        exact ⟨ret3 HT.out, _, rfl⟩
      · have HR : Hid (∀ j (h : j < s.size), j < k + 1 → s[j] ≠ 10) := fun j h hj => by
          rcases Nat.lt_or_ge j k with h' | h'
          · exact hr.out j h h'
          · have e : j = k := by omega
            subst e; exact hc
        have hc : ¬ (s[k].toNat : Int) = 10 := fun h => hc (ten.1 h)
        clear hr
        go_wp2
        go_round
        case rel => exact ⟨k + 1, by omega, by go_num, HR.out⟩
        case measure => simp [intOf]; omega
    · have HT := (show Hid _ from cut_tuple0 (cut_end fun j h => hr.out j h (by omega)))
      clear hr
      go_wp2
      go_ret3
      exact ⟨ret3 HT.out, 0, rfl⟩
theorem dollar (x : ByteArray) (h : x.size ≤ 17) : Nums.num (⟨#[36]⟩ ++ x) = Nums.base x 16 := by
  have hz : (⟨#[36]⟩ ++ x : ByteArray).size = x.size + 1 := by rw [ByteArray.size_append]; show 1 + x.size = _; omega
  have he : (⟨#[36]⟩ ++ x : ByteArray).extract 1 (⟨#[36]⟩ ++ x : ByteArray).size = x := by
    apply ByteArray.ext; apply Array.toList_inj.1
    rw [ext_list, hz, ByteArray.data_append, Array.toList_append]
    show ((36 :: x.data.toList).drop 1).take _ = _
    rw [List.drop_succ_cons, List.drop_zero, List.take_of_length_le (by rw [len_size]; omega)]
  unfold Nums.num
  rw [if_neg (by omega), if_pos (by rw [Nums.getD_at _ (by omega)]; rfl), he]

def cellsOf (L : List Sym) : List Value := L.flatMap fun x => [.string x.1, .int .i64 x.2.1, .int .i64 x.2.2]
def MaxL (w : World) : Prop := ∃ m, w.cell? ⟨1, 0, none⟩ = some (.int .i64 m)
theorem cells_len (L : List Sym) : (cellsOf L).length = L.length * 3 := by
  unfold cellsOf
  induction L with
  | nil => rfl
  | cons x L ih => rw [List.flatMap_cons, List.length_append, ih, List.length_cons]; simp; omega
theorem cells_snoc (L : List Sym) (x : Sym) : cellsOf (L ++ [x]) = cellsOf L ++ [.string x.1, .int .i64 x.2.1, .int .i64 x.2.2] := by
  unfold cellsOf; rw [List.flatMap_append]; rfl
theorem cells_at : ∀ (L : List Sym) (i : Nat) (h : i < L.length), (cellsOf L)[i * 3]? = some (.string L[i].1) ∧ (cellsOf L)[i * 3 + 1]? = some (.int .i64 L[i].2.1) ∧ (cellsOf L)[i * 3 + 2]? = some (.int .i64 L[i].2.2)
  | [], i, h => absurd h (Nat.not_lt_zero _)
  | x :: L, 0, _ => ⟨rfl, rfl, rfl⟩
  | x :: L, i + 1, h => by
    have ih := cells_at L i (by simpa using h)
    have e : cellsOf (x :: L) = .string x.1 :: .int .i64 x.2.1 :: .int .i64 x.2.2 :: cellsOf L := rfl
    rw [e, show (i + 1) * 3 = i * 3 + 1 + 1 + 1 by omega]
    simp only [List.getElem?_cons_succ, List.getElem_cons_succ]
    exact ih
abbrev Own (w : World) (base : Nat) (v : Value) (L : List Sym) : Prop := w.ownsRow base 40 3 v L.length (cellsOf L)
theorem syms_own {w : World} {base : Nat} {a : Option Addr} {n cap : Nat} {L : List Sym} (h : Own w base (.slice a n cap) L) (hz : ∀ x ∈ L, x.1.size ≤ 1048576) : Syms w a L := by
  rcases h.2 with ⟨hv, h0⟩ | ⟨g, c, cur, hv, hb, hg, hn, hm, hs, ht⟩
  · exact .inl (List.length_eq_zero_iff.1 h0)
  · cases hv
    have hl := (h.lt g rfl).2
    refine .inr ⟨g, 0, rfl, hl, fun i hi => ?_⟩
    have hc := h.cellAt
    obtain ⟨a1, a2, a3⟩ := cells_at L i hi
    rw [Nat.zero_add]
    refine ⟨(hc (i * 3) (by omega)).trans a1, (hc (i * 3 + 1) (by omega)).trans a2, (hc (i * 3 + 2) (by omega)).trans a3, ?_⟩
    have := hz L[i] (List.getElem_mem hi)
    unfold maxLen; omega
theorem own_below {w w1 : World} {base : Nat} {v : Value} {L : List Sym} (h : Own w base v L) (hb : Below w.heap.size w w1) : Own w1 base v L :=
  h.kept (row := none) ⟨hb.os, hb.tape, hb.output, hb.size, fun k hk _ => hb.block k hk⟩ (by cases hv : Value.ownBlock v <;> simp)
def lst (o : Option (List Sym)) : List Sym := o.getD []
/-- What a call of ReadSyms leaves. -/
def Left (w w' : World) (e : Ending) (o : Option (List Sym)) : Prop :=
  ∃ ao cap, e = .returned (.tuple #[.slice ao (lst o).length cap, .bool o.isSome]) ∧ Own w' w.heap.size (.slice ao (lst o).length cap) (lst o) ∧ (∀ x ∈ lst o, x.1.size ≤ 1048576) ∧ (lst o).length ≤ 801 ∧ Below w.heap.size w w'
theorem left_none {w w' : World} {o : Option (List Sym)} (h : o = none) (hb : Below w.heap.size w w') : Left w w' (.returned (.tuple #[.slice none 0 0, .bool false])) o := by
  subst h
  exact ⟨none, 0, rfl, World.ownsRow_nil _ _ _ _, (fun x hx => by cases hx), Nat.zero_le _, hb⟩
theorem left_some {w w' : World} {o : Option (List Sym)} {l : List Sym} {ao : Option Addr} {cap : Nat} (h : o = some l) (ho : Own w' w.heap.size (.slice ao l.length cap) l) (hz : ∀ x ∈ l, x.1.size ≤ 1048576) (hl : l.length ≤ 801) (hb : Below w.heap.size w w') : Left w w' (.returned (.tuple #[.slice ao l.length cap, .bool true])) o := by
  subst h
  exact ⟨ao, cap, rfl, ho, hz, hl, hb⟩
def strSize : Value → Nat
  | .string b => b.size
  | _ => 0
theorem size_nil {r : ByteArray} (h : r.size = 0) : r.toList.isEmpty = true := Names.empty_yes h
theorem fin_no {s : ByteArray} {l : List Sym} (h : ¬ symT l = s) : fin s (some l) = none := by unfold fin; simp only; rw [if_neg h]
theorem eq_list {a b : ByteArray} : (a.toList == b.toList) = true ↔ a = b := by
  rw [ByteArray.toList_eq, ByteArray.toList_eq]
  constructor
  · intro h
    have := eq_of_beq h
    exact ByteArray.ext (Array.toList_inj.1 this)
  · rintro rfl; simp
theorem MaxL.below {w w' : World} (h : MaxL w) (hb : Below w.heap.size w w') : MaxL w' := by
  obtain ⟨m, hm⟩ := h
  have hl : 1 < w.heap.size := World.block_lt_of_cell? w ⟨1, 0, none⟩ hm
  exact ⟨m, (hb.cell (p := ⟨1, 0, none⟩) hl).trans hm⟩
theorem goI_end {n : Nat} {r : ByteArray} {l : List Sym} (h : r.size = 0) : goI (n + 1) r l = some l := by rw [goI, if_pos h]
theorem goI_no {n : Nat} {r : ByteArray} {l : List Sym} (h : ¬ r.size = 0) (h2 : (A r).size < 8 ∨ l.length = 800) : goI (n + 1) r l = none := by rw [goI, if_neg h, if_pos h2]
theorem goI_bad {n : Nat} {r : ByteArray} {l : List Sym} (h : ¬ r.size = 0) (h2 : ¬ ((A r).size < 8 ∨ l.length = 800)) (h3 : numsOf (A r) = none) : goI (n + 1) r l = none := by rw [goI, if_neg h, if_neg h2, h3]
theorem goI_on {n : Nat} {r : ByteArray} {l : List Sym} {b v : Int} (h : ¬ r.size = 0) (h2 : ¬ ((A r).size < 8 ∨ l.length = 800)) (h3 : numsOf (A r) = some (b, v)) : goI (n + 1) r l = goI n (B r) (l ++ [((A r).extract 8 (A r).size, b, v)]) := by rw [goI, if_neg h, if_neg h2, h3]
theorem nums_of (x : ByteArray) : numsOf x = (match Nums.base (x.extract 0 2) 16, Nums.base (x.extract 3 7) 16 with
  | some b, some v => some (b, v)
  | _, _ => none) := rfl

set_option maxHeartbeats 2000000 in
theorem implRead_any (s : ByteArray) (w : World) (hs : s.size ≤ 1048576) (hT : Nums.Tab w) (hm : MaxL w) :
    Calls Tryd.prog 12 #[.string s] w fun e w' => Left w w' e (outI s) := by
  obtain ⟨i0, hi, hz0, hz1, hz2⟩ := info_parts Symr.infoY
  obtain ⟨O, hO⟩ : ∃ O, O = outI s := ⟨_, rfl⟩
  have HO : Hid (O = fin s (goI (s.size + 1) s [])) := hO
  rw [← hO]
  clear hO
  have HT : Hid (Nums.Tab w) := hT
  have HM : Hid (MaxL w) := hm
  clear hT hm
  go_enter Tryd.func12, Tryd.ntmps12
  go_wp2_with fail
  go_loopw [4, 5] (fun x y wr => ∃ (l : List Sym) (r : ByteArray) (n : Nat) (ao : Option Addr) (cap : Nat), r.size ≤ s.size ∧ r.size ≤ n ∧ l.length ≤ 800 ∧ x = .slice ao l.length cap ∧ y = .string r ∧ Hid (Own wr w.heap.size (.slice ao l.length cap) l) ∧ Hid (∀ x ∈ l, x.1.size ≤ 1048576) ∧ Hid (O = fin s (goI (n + 1) r l)) ∧ Hid (Below w.heap.size w wr)) (fun _ y _ => strSize y)
  case atStart => exact ⟨[], s, s.size, none, 0, Nat.le_refl _, Nat.le_refl _, Nat.zero_le _, rfl, rfl, World.ownsRow_nil _ _ _ _, (fun x hx => by cases hx), HO.out, Below.refl _ _⟩
  case round =>
    clear HO
    obtain ⟨l, r, n, ao, cap, hr, hn, hl8, rfl, rfl, hown, hsm, HO, hbel⟩ := hrel
    by_cases h0 : r.size = 0
    · have e0 := size_nil h0
      have HO' : Hid (O = fin s (some l)) := by show _ = _; rw [HO.out, goI_end h0]
      clear HO h0
      have ct := fun w hN hT => implText_any ao cap l w hN (by omega) hT
      obtain ⟨R, hR⟩ : ∃ R, R = symT l := ⟨_, rfl⟩
      have HR : Hid (R = symT l) := hR
      rw [← hR] at ct
      clear hR
      obtain ⟨len, hlen⟩ : ∃ len, len = l.length := ⟨_, rfl⟩
      have HL : Hid (len = l.length) := hlen
      rw [← hlen] at ct hown ⊢
      clear hlen
      by_cases hq : R = s
      · have q1 : (R.toList == s.toList) = true := eq_list.2 hq
        have q2 : (R.toList != s.toList) = false := by rw [bne, q1]; rfl
        have HO2 : Hid (O = some l) := by show _ = _; rw [HO'.out, fin_of (HR.out.symm.trans hq)]
        clear hq
        go_wp2_with (go_at_call 9; refine (ct _ (syms_own hown.out hsm.out) (tab_below HT.out hbel.out)).mono ?_; rintro e w1 ⟨rfl, b1⟩; have B1 : Hid (Below w.heap.size w w1 ∧ Own w1 w.heap.size (.slice ao len cap) l) := ⟨hbel.out.trans (b1.mono hbel.out.size), own_below hown.out b1⟩; clear b1)
        go_ret2
        have hf := left_some (ao := ao) (cap := cap) HO2.out (by rw [← HL.out]; exact B1.out.2) hsm.out (by omega) B1.out.1
        rw [← HL.out] at hf
        exact hf
      · have q1 : (R.toList == s.toList) = false := by
          cases hb : (R.toList == s.toList)
          · rfl
          · exact absurd (eq_list.1 hb) hq
        have q2 : (R.toList != s.toList) = true := by rw [bne, q1]; rfl
        have HO2 : Hid (O = none) := by show _ = _; rw [HO'.out, fin_no (fun h => hq (HR.out.trans h))]
        clear hq
        go_wp2_with (go_at_call 9; refine (ct _ (syms_own hown.out hsm.out) (tab_below HT.out hbel.out)).mono ?_; rintro e w1 ⟨rfl, b1⟩; have B1 : Hid (Below w.heap.size w w1 ∧ Own w1 w.heap.size (.slice ao len cap) l) := ⟨hbel.out.trans (b1.mono hbel.out.size), own_below hown.out b1⟩; clear b1)
        go_ret2
        exact left_none HO2.out B1.out.1
    · have e0 : r.toList.isEmpty = false := Names.empty_no h0
      obtain ⟨mm, hmm⟩ := HM.out.below hbel.out
      have hmd : ∀ k, (wr.drewN k).cell? ⟨1, 0, none⟩ = some (.int .i64 mm) := fun k => hmm
      have cc := Tryd.strings_Cut r ⟨#[10]⟩ mm wr (by omega) hmm
      rw [show (⟨#[10]⟩ : ByteArray).data.toList = [10] from rfl, cut_brk] at cc
      have za := A_le r
      have zb := B_lt h0
      have EA : Hid (∀ n l, ((A r).size < 8 ∨ l.length = 800) → goI (n + 1) r l = none) := fun n l h => goI_no h0 h
      have EB : Hid (∀ n l, ¬ ((A r).size < 8 ∨ l.length = 800) → numsOf (A r) = none → goI (n + 1) r l = none) := fun n l h h2 => goI_bad h0 h h2
      have EC : Hid (∀ n l b v, ¬ ((A r).size < 8 ∨ l.length = 800) → numsOf (A r) = some (b, v) → goI (n + 1) r l = goI n (B r) (l ++ [((A r).extract 8 (A r).size, b, v)])) := fun n l b v h h2 => goI_on h0 h h2
      change Calls _ _ _ _ (fun e w' => e = .returned (.tuple #[.string (A r), .string (B r), .bool (F r)]) ∧ ∃ n, w' = wr.drewN n) at cc
      generalize A r = X at *
      generalize B r = Y at *
      generalize F r = ff at *
      obtain ⟨len, hlen⟩ : ∃ len, len = l.length := ⟨_, rfl⟩
      have HL : Hid (len = l.length) := hlen
      rw [← hlen] at hl8 hown ⊢
      clear hlen
      by_cases hx : X.size < 8 ∨ len = 800
      · have HO2 : Hid (O = none) := by show _ = _; rw [HO.out, EA.out _ _ (by rw [← HL.out]; exact hx)]; rfl
        have gb : Hid (Below w.heap.size w wr) := hbel.out
        rcases Nat.lt_or_ge X.size 8 with h8 | h8
        · go_wp2_with (go_at_call 34; refine cc.mono ?_; rintro e w1 ⟨rfl, n1, rfl⟩)
          go_ret2
          exact left_none HO2.out (drewN_below gb.out _)
        · have hx : len = 800 := by omega
          subst hx
          go_wp2_with (go_at_call 34; refine cc.mono ?_; rintro e w1 ⟨rfl, n1, rfl⟩)
          go_ret2
          exact left_none HO2.out (drewN_below gb.out _)
      · have x8 : ¬ X.size < 8 := fun h => hx (.inl h)
        have l8 : ¬ len = 800 := fun h => hx (.inr h)
        have l8' : ((len : Int) == 800) = false := by simp; omega
        have s37 := fun u => slice_37 X u (by omega)
        have c1 := fun w hT => Nums.implNum_any (⟨#[36]⟩ ++ X.extract 0 2) w hT (by rw [ByteArray.size_append, ByteArray.size_extract]; unfold maxLen; show 1 + _ ≤ _; omega)
        have c2 := fun w hT => Nums.implNum_any (⟨#[36]⟩ ++ X.extract 3 7) w hT (by rw [ByteArray.size_append, ByteArray.size_extract]; unfold maxLen; show 1 + _ ≤ _; omega)
        rw [dollar _ (by rw [ByteArray.size_extract]; omega)] at c1 c2
        have EN := nums_of X
        cases hb : Nums.base (X.extract 0 2) 16 with
        | none =>
          rw [hb] at c1 EN
          have HO2 : Hid (O = none) := by show _ = _; rw [HO.out, EB.out _ _ (by rw [← HL.out]; exact hx) EN]; rfl
          clear hx EN HO EA EB EC hb
          obtain ⟨bv, bi, hbv⟩ : ∃ (bv : Int) (bi : Bool), (Value.tuple #[.int .i64 ((Nums.base (X.extract 3 7) 16).getD 0), .bool (Nums.base (X.extract 3 7) 16).isSome]) = .tuple #[.int .i64 bv, .bool bi] := ⟨_, _, rfl⟩
          rw [hbv] at c2
          clear hbv
          simp only [Option.getD_none, Option.isSome_none] at c1
          go_wp2_with (first | (go_at_call 34; refine cc.mono ?_; rintro e w1 ⟨rfl, n1, rfl⟩) | (go_at_call_of 35 (X.extract 0 2); refine (c1 _ (tab_below HT.out (drewN_below hbel.out _))).mono ?_; rintro e w2 ⟨rfl, rfl⟩) | (go_at_call_of 35 (X.extract 3 7); refine (c2 _ (tab_below HT.out (drewN_below hbel.out _))).mono ?_; rintro e w2 ⟨rfl, rfl⟩) | fail)
          go_ret2
          exact left_none HO2.out (drewN_below hbel.out _)
        | some b =>
          rw [hb] at c1 EN
          simp only [Option.getD_some, Option.isSome_some] at c1
          cases hv : Nums.base (X.extract 3 7) 16 with
          | none =>
            rw [hv] at c2 EN
            simp only [Option.getD_none, Option.isSome_none] at c2
            have HO2 : Hid (O = none) := by show _ = _; rw [HO.out, EB.out _ _ (by rw [← HL.out]; exact hx) EN]; rfl
            clear hx EN HO EA EB EC hb hv
            go_wp2_with (first | (go_at_call 34; refine cc.mono ?_; rintro e w1 ⟨rfl, n1, rfl⟩) | (go_at_call_of 35 (X.extract 0 2); refine (c1 _ (tab_below HT.out (drewN_below hbel.out _))).mono ?_; rintro e w2 ⟨rfl, rfl⟩) | (go_at_call_of 35 (X.extract 3 7); refine (c2 _ (tab_below HT.out (drewN_below hbel.out _))).mono ?_; rintro e w2 ⟨rfl, rfl⟩) | fail)
            go_ret2
            exact left_none HO2.out (drewN_below hbel.out _)
          | some v =>
            rw [hv] at c2 EN
            simp only [Option.getD_some, Option.isSome_some] at c2
            obtain ⟨n', rfl⟩ : ∃ n', n = n' + 1 := ⟨n - 1, by omega⟩
            have HO2 : Hid (O = fin s (goI (n' + 1) Y (l ++ [(X.extract 8 X.size, b, v)]))) := by show _ = _; rw [HO.out, EC.out _ _ _ _ (by rw [← HL.out]; exact hx) EN]
            clear hx EN HO EA EB EC hb hv
            have own1 : Hid (∀ k o, ((wr.drewN k).alloc o).ownsRow w.heap.size 40 3 (.slice ao len cap) len (cellsOf l)) := fun k o => by
              have h := (own_below hown.out (drewN_refl wr k)).alloc o
              rw [← HL.out] at h
              exact h
            go_wp2_with (first | (go_at_call 34; refine cc.mono ?_; rintro e w1 ⟨rfl, n1, rfl⟩) | (go_at_call_of 35 (X.extract 0 2); refine (c1 _ (tab_below HT.out (drewN_below hbel.out _))).mono ?_; rintro e w2 ⟨rfl, rfl⟩) | (go_at_call_of 35 (X.extract 3 7); refine (c2 _ (tab_below HT.out (drewN_below hbel.out _))).mono ?_; rintro e w2 ⟨rfl, rfl⟩) | (at_builtin; refine wpList_append_own _ rfl _ _ 25 rfl w.heap.size 40 i0 (.agg #[.string ⟨#[]⟩, .int .i64 0, .int .i64 0]) 3 32 Tryd.underlying25 hi hz0 hz1 hz2 rfl (by decide) (.slice ao len cap) len (cellsOf l) rfl (own1.out _ _) ⟨wr.heap.size, 0, none⟩ 1 1 [.string (X.extract 8 X.size), .int .i64 b, .int .i64 v] rfl rfl ?c1 ?c2 ?c3 ?c4 ?c5 ?_) | fail)
            case c1 =>
              intro j u hj
              match j, hj with
              | 0, hj => simp at hj; subst hj; show World.cell? _ ⟨(wr.drewN n1).heap.size, 0, none⟩ = _; rw [World.cell?_alloc_new]; rfl
              | 1, hj => simp at hj; subst hj; show World.cell? _ ⟨(wr.drewN n1).heap.size, 1, none⟩ = _; rw [World.cell?_alloc_new]; rfl
              | 2, hj => simp at hj; subst hj; show World.cell? _ ⟨(wr.drewN n1).heap.size, 2, none⟩ = _; rw [World.cell?_alloc_new]; rfl
            case c2 => intro u hu; simp at hu; rcases hu with rfl | rfl | rfl <;> rfl
            case c3 => unfold maxLen; omega
            case c4 => omega
            case c5 => simp; have := hbel.out.size; omega
            intro v' w2 hown' hgrow _
            have e1 : (l ++ [(X.extract 8 X.size, b, v)]).length = len + 1 := by rw [List.length_append, ← HL.out]; rfl
            have OW : Hid (Own w2 w.heap.size v' (l ++ [(X.extract 8 X.size, b, v)])) := by
              show World.ownsRow _ _ _ _ _ _ _
              rw [e1, cells_snoc]; exact hown'
            have BW : Hid (Below w.heap.size w w2) := ((drewN_below hbel.out n1).alloc (drewN_below hbel.out n1).size _).grown hgrow (by have := hbel.out.size; simp; omega) (fun k hk => ((own1.out n1 (.cells #[] 0)).lt k hk).1)
            have SM : Hid (∀ x ∈ l ++ [(X.extract 8 X.size, b, v)], x.1.size ≤ 1048576) := fun x hx => by
              rcases List.mem_append.1 hx with hx | hx
              · exact hsm.out x hx
              · rw [List.mem_singleton.1 hx]
                show (X.extract 8 X.size).size ≤ _
                rw [ByteArray.size_extract]; omega
            have E1 : Hid ((l ++ [(X.extract 8 X.size, b, v)]).length = len + 1) := e1
            obtain ⟨ao', cap', rfl⟩ : ∃ ao' cap', v' = .slice ao' (len + 1) cap' := by
              rcases hown'.2 with ⟨_, h⟩ | ⟨g, c, cur, hv, _⟩
              · omega
              · exact ⟨_, _, hv⟩
            clear hown' hgrow own1 hown hbel hsm c1 c2 cc e1
            go_wp2_with fail
            go_roundw
            case rel => exact ⟨l ++ [(X.extract 8 X.size, b, v)], Y, n', ao', cap', by omega, by omega, by rw [E1.out]; omega, by rw [E1.out], rfl, by rw [E1.out]; exact OW.out, SM.out, HO2.out, BW.out⟩
            case measure => show Y.size < r.size; exact zb
theorem goS_end {n : Nat} {r : ByteArray} {l : List Sym} (h : r.size = 0 ∨ 800 < l.length) : goS (n + 1) r l = some l := by rw [goS, if_pos h]
theorem goS_no {n : Nat} {r : ByteArray} {l : List Sym} (h : ¬ (r.size = 0 ∨ 800 < l.length)) (h2 : (A r).size < 9 ∨ F r = false) : goS (n + 1) r l = none := by rw [goS, if_neg h, if_pos h2]
theorem goS_bad {n : Nat} {r : ByteArray} {l : List Sym} (h : ¬ (r.size = 0 ∨ 800 < l.length)) (h2 : ¬ ((A r).size < 9 ∨ F r = false)) (h3 : numsOf (A r) = none) : goS (n + 1) r l = none := by rw [goS, if_neg h, if_neg h2, h3]
theorem goS_on {n : Nat} {r : ByteArray} {l : List Sym} {b v : Int} (h : ¬ (r.size = 0 ∨ 800 < l.length)) (h2 : ¬ ((A r).size < 9 ∨ F r = false)) (h3 : numsOf (A r) = some (b, v)) : goS (n + 1) r l = goS n (B r) (l ++ [((A r).extract 8 (A r).size, b, v)]) := by rw [goS, if_neg h, if_neg h2, h3]
set_option maxHeartbeats 2000000 in
theorem specRead_any (s : ByteArray) (w : World) (hs : s.size ≤ 1048576) :
    Calls Tryd.prog 11 #[.string s] w fun e w' => Left w w' e (outS s) := by
  obtain ⟨i0, hi, hz0, hz1, hz2⟩ := info_parts Symr.infoY
  obtain ⟨O, hO⟩ : ∃ O, O = outS s := ⟨_, rfl⟩
  have HO : Hid (O = fin s (goS (s.size + 1) s [])) := hO
  rw [← hO]
  clear hO
  have OW0 : Hid (Own (w.alloc (.cells #[] 40)) w.heap.size (.slice (some ⟨w.heap.size, 0, none⟩) 0 0) []) := World.ownsRow_lit w #[] 0 (Nat.le_refl _) (Nat.zero_le _) rfl
  go_enter Tryd.func11, Tryd.ntmps11
  go_wp2_with fail
  go_loopw [4, 5] (fun x y wr => ∃ (l : List Sym) (r : ByteArray) (n : Nat) (ao : Option Addr) (cap : Nat), r.size ≤ s.size ∧ r.size ≤ n ∧ l.length ≤ 801 ∧ x = .slice ao l.length cap ∧ y = .string r ∧ Hid (Own wr w.heap.size (.slice ao l.length cap) l) ∧ Hid (∀ x ∈ l, x.1.size ≤ 1048576) ∧ Hid (O = fin s (goS (n + 1) r l)) ∧ Hid (Below w.heap.size w wr)) (fun _ y _ => strSize y)
  case atStart => exact ⟨[], s, s.size, _, 0, Nat.le_refl _, Nat.le_refl _, Nat.zero_le _, rfl, rfl, OW0.out, (fun x hx => by cases hx), HO.out, (Below.refl _ _).alloc (Nat.le_refl _) _⟩
  case round =>
    clear HO OW0
    obtain ⟨l, r, n, ao, cap, hr, hn, hl8, rfl, rfl, hown, hsm, HO, hbel⟩ := hrel
    by_cases h0 : r.size = 0
    · have e0 := size_nil h0
      have HO' : Hid (O = fin s (some l)) := by show _ = _; rw [HO.out, goS_end (.inl h0)]
      have LE : l.length ≤ 801 := hl8
      clear HO h0
      have ct := fun w hN => specText_any ao cap l w hN (by omega)
      obtain ⟨R, hR⟩ : ∃ R, R = symT l := ⟨_, rfl⟩
      have HR : Hid (R = symT l) := hR
      rw [← hR] at ct
      clear hR
      obtain ⟨len, hlen⟩ : ∃ len, len = l.length := ⟨_, rfl⟩
      have HL : Hid (len = l.length) := hlen
      rw [← hlen] at ct hown hl8 LE ⊢
      clear hlen
      by_cases hq : R = s
      · have q1 : (R.toList == s.toList) = true := eq_list.2 hq
        have q2 : (R.toList != s.toList) = false := by rw [bne, q1]; rfl
        have HO2 : Hid (O = some l) := by show _ = _; rw [HO'.out, fin_of (HR.out.symm.trans hq)]
        clear hq
        go_wp2_with (go_at_call 7; refine (ct _ (syms_own hown.out hsm.out)).mono ?_; rintro e w1 ⟨rfl, b1⟩; have B1 : Hid (Below w.heap.size w w1 ∧ Own w1 w.heap.size (.slice ao len cap) l) := ⟨hbel.out.trans (b1.mono hbel.out.size), own_below hown.out b1⟩; clear b1)
        go_ret2
        have hf := left_some (ao := ao) (cap := cap) HO2.out (by rw [← HL.out]; exact B1.out.2) hsm.out (by rw [← HL.out]; omega) B1.out.1
        rw [← HL.out] at hf
        exact hf
      · have q1 : (R.toList == s.toList) = false := by
          cases hb : (R.toList == s.toList)
          · rfl
          · exact absurd (eq_list.1 hb) hq
        have q2 : (R.toList != s.toList) = true := by rw [bne, q1]; rfl
        have HO2 : Hid (O = none) := by show _ = _; rw [HO'.out, fin_no (fun h => hq (HR.out.trans h))]
        clear hq
        go_wp2_with (go_at_call 7; refine (ct _ (syms_own hown.out hsm.out)).mono ?_; rintro e w1 ⟨rfl, b1⟩; have B1 : Hid (Below w.heap.size w w1 ∧ Own w1 w.heap.size (.slice ao len cap) l) := ⟨hbel.out.trans (b1.mono hbel.out.size), own_below hown.out b1⟩; clear b1)
        go_ret2
        exact left_none HO2.out B1.out.1
    · by_cases h8 : 800 < l.length
      · have e0 : r.toList.isEmpty = false := Names.empty_no h0
        have HO' : Hid (O = fin s (some l)) := by show _ = _; rw [HO.out, goS_end (.inr h8)]
        have LE : 800 < l.length := h8
        clear HO h0 h8
        have ct := fun w hN => specText_any ao cap l w hN (by omega)
        obtain ⟨R, hR⟩ : ∃ R, R = symT l := ⟨_, rfl⟩
        have HR : Hid (R = symT l) := hR
        rw [← hR] at ct
        clear hR
        obtain ⟨len, hlen⟩ : ∃ len, len = l.length := ⟨_, rfl⟩
        have HL : Hid (len = l.length) := hlen
        rw [← hlen] at ct hown hl8 LE ⊢
        clear hlen
        by_cases hq : R = s
        · have q1 : (R.toList == s.toList) = true := eq_list.2 hq
          have q2 : (R.toList != s.toList) = false := by rw [bne, q1]; rfl
          have HO2 : Hid (O = some l) := by show _ = _; rw [HO'.out, fin_of (HR.out.symm.trans hq)]
          clear hq
          go_wp2_with (go_at_call 7; refine (ct _ (syms_own hown.out hsm.out)).mono ?_; rintro e w1 ⟨rfl, b1⟩; have B1 : Hid (Below w.heap.size w w1 ∧ Own w1 w.heap.size (.slice ao len cap) l) := ⟨hbel.out.trans (b1.mono hbel.out.size), own_below hown.out b1⟩; clear b1)
          go_ret2
          have hf := left_some (ao := ao) (cap := cap) HO2.out (by rw [← HL.out]; exact B1.out.2) hsm.out (by rw [← HL.out]; omega) B1.out.1
          rw [← HL.out] at hf
          exact hf
        · have q1 : (R.toList == s.toList) = false := by
            cases hb : (R.toList == s.toList)
            · rfl
            · exact absurd (eq_list.1 hb) hq
          have q2 : (R.toList != s.toList) = true := by rw [bne, q1]; rfl
          have HO2 : Hid (O = none) := by show _ = _; rw [HO'.out, fin_no (fun h => hq (HR.out.trans h))]
          clear hq
          go_wp2_with (go_at_call 7; refine (ct _ (syms_own hown.out hsm.out)).mono ?_; rintro e w1 ⟨rfl, b1⟩; have B1 : Hid (Below w.heap.size w w1 ∧ Own w1 w.heap.size (.slice ao len cap) l) := ⟨hbel.out.trans (b1.mono hbel.out.size), own_below hown.out b1⟩; clear b1)
          go_ret2
          exact left_none HO2.out B1.out.1
      · have e0 : r.toList.isEmpty = false := Names.empty_no h0
        have cc := l1Cut_any r wr (by omega)
        have za := A_le r
        have zb := B_lt h0
        have NE : ¬ (r.size = 0 ∨ 800 < l.length) := fun h => h.elim h0 h8
        have EA : Hid (∀ n, ((A r).size < 9 ∨ F r = false) → goS (n + 1) r l = none) := fun n h => goS_no NE h
        have EB : Hid (∀ n, ¬ ((A r).size < 9 ∨ F r = false) → numsOf (A r) = none → goS (n + 1) r l = none) := fun n h h2 => goS_bad NE h h2
        have EC : Hid (∀ n b v, ¬ ((A r).size < 9 ∨ F r = false) → numsOf (A r) = some (b, v) → goS (n + 1) r l = goS n (B r) (l ++ [((A r).extract 8 (A r).size, b, v)])) := fun n b v h h2 => goS_on NE h h2
        clear NE
        generalize A r = X at *
        generalize B r = Y at *
        generalize F r = ff at *
        obtain ⟨len, hlen⟩ : ∃ len, len = l.length := ⟨_, rfl⟩
        have HL : Hid (len = l.length) := hlen
        rw [← hlen] at hl8 h8 hown ⊢
        clear hlen
        by_cases hx : X.size < 9 ∨ ff = false
        · have HO2 : Hid (O = none) := by show _ = _; rw [HO.out, EA.out _ hx]; rfl
          have gb : Hid (Below w.heap.size w wr) := hbel.out
          rcases Nat.lt_or_ge X.size 9 with h9 | h9
          · clear hx
            go_wp2_with (go_at_call 32; refine cc.mono ?_; rintro e w1 ⟨rfl, n1, rfl⟩)
            go_ret2
            exact left_none HO2.out (drewN_below gb.out _)
          · have hx : ff = false := by
              rcases hx with hx | hx
              · omega
              · exact hx
            subst hx
            go_wp2_with (go_at_call 32; refine cc.mono ?_; rintro e w1 ⟨rfl, n1, rfl⟩)
            go_ret2
            exact left_none HO2.out (drewN_below gb.out _)
        · have x8 : ¬ X.size < 9 := fun h => hx (.inl h)
          have hf : ff = true := by
            cases ff
            · exact absurd (.inr rfl) hx
            · rfl
          subst hf
          have s37 := fun u => slice_37 X u (by omega)
          have c1 := fun w => Nums.l1Base_any (X.extract 0 2) 16 w (by rw [ByteArray.size_extract]; unfold maxLen; omega) (by omega) (by omega)
          have c2 := fun w => Nums.l1Base_any (X.extract 3 7) 16 w (by rw [ByteArray.size_extract]; unfold maxLen; omega) (by omega) (by omega)
          have EN := nums_of X
          cases hb : Nums.base (X.extract 0 2) 16 with
          | none =>
            rw [hb] at c1 EN
            have HO2 : Hid (O = none) := by show _ = _; rw [HO.out, EB.out _ hx EN]; rfl
            clear hx EN HO EA EB EC hb
            obtain ⟨bv, bi, hbv⟩ : ∃ (bv : Int) (bi : Bool), (Value.tuple #[.int .i64 ((Nums.base (X.extract 3 7) 16).getD 0), .bool (Nums.base (X.extract 3 7) 16).isSome]) = .tuple #[.int .i64 bv, .bool bi] := ⟨_, _, rfl⟩
            rw [hbv] at c2
            clear hbv
            simp only [Option.getD_none, Option.isSome_none] at c1
            go_wp2_with (first | (go_at_call 32; refine cc.mono ?_; rintro e w1 ⟨rfl, n1, rfl⟩) | (go_at_call_of 33 (X.extract 0 2); refine (c1 _).mono ?_; rintro e w2 ⟨rfl, rfl⟩) | (go_at_call_of 33 (X.extract 3 7); refine (c2 _).mono ?_; rintro e w2 ⟨rfl, rfl⟩) | fail)
            go_ret2
            exact left_none HO2.out (drewN_below hbel.out _)
          | some b =>
            rw [hb] at c1 EN
            simp only [Option.getD_some, Option.isSome_some] at c1
            cases hv : Nums.base (X.extract 3 7) 16 with
            | none =>
              rw [hv] at c2 EN
              simp only [Option.getD_none, Option.isSome_none] at c2
              have HO2 : Hid (O = none) := by show _ = _; rw [HO.out, EB.out _ hx EN]; rfl
              clear hx EN HO EA EB EC hb hv
              go_wp2_with (first | (go_at_call 32; refine cc.mono ?_; rintro e w1 ⟨rfl, n1, rfl⟩) | (go_at_call_of 33 (X.extract 0 2); refine (c1 _).mono ?_; rintro e w2 ⟨rfl, rfl⟩) | (go_at_call_of 33 (X.extract 3 7); refine (c2 _).mono ?_; rintro e w2 ⟨rfl, rfl⟩) | fail)
              go_ret2
              exact left_none HO2.out (drewN_below hbel.out _)
            | some v =>
              rw [hv] at c2 EN
              simp only [Option.getD_some, Option.isSome_some] at c2
              obtain ⟨n', rfl⟩ : ∃ n', n = n' + 1 := ⟨n - 1, by omega⟩
              have HO2 : Hid (O = fin s (goS (n' + 1) Y (l ++ [(X.extract 8 X.size, b, v)]))) := by show _ = _; rw [HO.out, EC.out _ _ _ hx EN]
              clear hx EN HO EA EB EC hb hv
              have own1 : Hid (∀ k o, ((wr.drewN k).alloc o).ownsRow w.heap.size 40 3 (.slice ao len cap) len (cellsOf l)) := fun k o => by
                have h := (own_below hown.out (drewN_refl wr k)).alloc o
                rw [← HL.out] at h
                exact h
              go_wp2_with (first | (go_at_call 32; refine cc.mono ?_; rintro e w1 ⟨rfl, n1, rfl⟩) | (go_at_call_of 33 (X.extract 0 2); refine (c1 _).mono ?_; rintro e w2 ⟨rfl, rfl⟩) | (go_at_call_of 33 (X.extract 3 7); refine (c2 _).mono ?_; rintro e w2 ⟨rfl, rfl⟩) | (at_builtin; refine wpList_append_own _ rfl _ _ 25 rfl w.heap.size 40 i0 (.agg #[.string ⟨#[]⟩, .int .i64 0, .int .i64 0]) 3 32 Tryd.underlying25 hi hz0 hz1 hz2 rfl (by decide) (.slice ao len cap) len (cellsOf l) rfl (own1.out _ _) ⟨wr.heap.size, 0, none⟩ 1 1 [.string (X.extract 8 X.size), .int .i64 b, .int .i64 v] rfl rfl ?c1 ?c2 ?c3 ?c4 ?c5 ?_) | fail)
              case c1 =>
                intro j u hj
                match j, hj with
                | 0, hj => simp at hj; subst hj; show World.cell? _ ⟨(wr.drewN n1).heap.size, 0, none⟩ = _; rw [World.cell?_alloc_new]; rfl
                | 1, hj => simp at hj; subst hj; show World.cell? _ ⟨(wr.drewN n1).heap.size, 1, none⟩ = _; rw [World.cell?_alloc_new]; rfl
                | 2, hj => simp at hj; subst hj; show World.cell? _ ⟨(wr.drewN n1).heap.size, 2, none⟩ = _; rw [World.cell?_alloc_new]; rfl
              case c2 => intro u hu; simp at hu; rcases hu with rfl | rfl | rfl <;> rfl
              case c3 => unfold maxLen; omega
              case c4 => omega
              case c5 => simp; have := hbel.out.size; omega
              intro v' w2 hown' hgrow _
              have e1 : (l ++ [(X.extract 8 X.size, b, v)]).length = len + 1 := by rw [List.length_append, ← HL.out]; rfl
              have OW : Hid (Own w2 w.heap.size v' (l ++ [(X.extract 8 X.size, b, v)])) := by
                show World.ownsRow _ _ _ _ _ _ _
                rw [e1, cells_snoc]; exact hown'
              have BW : Hid (Below w.heap.size w w2) := ((drewN_below hbel.out n1).alloc (drewN_below hbel.out n1).size _).grown hgrow (by have := hbel.out.size; simp; omega) (fun k hk => ((own1.out n1 (.cells #[] 0)).lt k hk).1)
              have SM : Hid (∀ x ∈ l ++ [(X.extract 8 X.size, b, v)], x.1.size ≤ 1048576) := fun x hx => by
                rcases List.mem_append.1 hx with hx | hx
                · exact hsm.out x hx
                · rw [List.mem_singleton.1 hx]
                  show (X.extract 8 X.size).size ≤ _
                  rw [ByteArray.size_extract]; omega
              have E1 : Hid ((l ++ [(X.extract 8 X.size, b, v)]).length = len + 1) := e1
              obtain ⟨ao', cap', rfl⟩ : ∃ ao' cap', v' = .slice ao' (len + 1) cap' := by
                rcases hown'.2 with ⟨_, h⟩ | ⟨g, c, cur, hv, _⟩
                · omega
                · exact ⟨_, _, hv⟩
              clear hown' hgrow own1 hown hbel hsm c1 c2 cc e1
              go_wp2_with fail
              go_roundw
              case rel => exact ⟨l ++ [(X.extract 8 X.size, b, v)], Y, n', ao', cap', by omega, by omega, by rw [E1.out]; omega, by rw [E1.out], rfl, by rw [E1.out]; exact OW.out, SM.out, HO2.out, BW.out⟩
              case measure => show Y.size < r.size; exact zb
end Go.Proofs.YtkcophgkkeakjaaDoor.Symq
