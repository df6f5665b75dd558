/-
  A contract of ours for impl.firstTexts.
-/
import Derived.Test.YtjhacbkmoepffaaIter
import Derived.Test.YtjhacbkmoepffaaMapi
import Derived.Test.YtjhacbkmoepffaaUnmp
import Derived.Sort.KeysCollected
import Derived.Laws.CopyOwn
import Derived.Laws.CopyRow
import Derived.Laws.Tables
import Derived.Laws.Rows
import Derived.Deep.Cut
namespace Go.Proofs.Ytjhacbkmoepffaa.Unmi
open Go.ChangeShapes Go.WideShapes Go.ChangeAt Go.RowKit Go.Deep Go.Maps Go.WideMaps
open Pairr (Pair Pairs)
open Chok Mapp Mapi Unmp
set_option linter.unusedVariables false
set_option linter.unusedSimpArgs false
set_option maxRecDepth 100000
abbrev tA : TypeId := 40
theorem zeroA (w : World) : (zeroValue tA).run Try.prog w = .ok (.agg (Array.replicate 256 (.string ⟨#[]⟩))) w := by kernel_rfl
theorem sizeA : (Try.prog.info? tA).map (·.size) = some 256 := by kernel_rfl
def txt : Option Pair → ByteArray
  | none => ⟨#[]⟩
  | some p => p.1
/-- The row has, for each byte, the text of the first pair with it. -/
structure Txs (L : List Pair) (k : Nat) (cs : Array Value) : Prop where
  size : cs.size = 256
  at' : ∀ c : UInt8, cs[c.toNat]? = some (.string (txt (firstOf (L.take k) c)))
theorem Txs.start (L : List Pair) : Txs L 0 (Array.replicate 256 (.string ⟨#[]⟩)) := ⟨by simp, fun c => by
  have := UInt8.toNat_lt c
  rw [Array.getElem?_eq_getElem (by simp; omega)]
  simp [firstOf, txt]⟩
theorem first_snoc {L : List Pair} {k : Nat} (hk : k < L.length) (c : UInt8) : firstOf (L.take (k + 1)) c = (firstOf (L.take k) c).or (if L[k].2 = (c.toNat : Int) then some L[k] else none) := by
  unfold firstOf
  rw [List.take_add_one, List.find?_append, List.getElem?_eq_getElem hk]
  congr 1
  by_cases h : L[k].2 = (c.toNat : Int)
  · simp [List.find?, h]
  · simp [List.find?, h]
theorem txt_empty {L : List Pair} (hR : Right L) {k : Nat} {c : UInt8} (h : (txt (firstOf (L.take k) c)).size = 0) : firstOf (L.take k) c = none := by
  cases e : firstOf (L.take k) c with
  | none => rfl
  | some p =>
    rw [e] at h
    have := size_pos hR (List.mem_of_mem_take (first_mem e))
    simp only [txt] at h
    omega
theorem Txs.set {L : List Pair} (hR : Right L) {k : Nat} {cs : Array Value} (h : Txs L k cs) (hk : k < L.length) {d : UInt8} (hd : L[k].2 = (d.toNat : Int)) (he : (txt (firstOf (L.take k) d)).size = 0) : Txs L (k + 1) (cs.setIfInBounds d.toNat (.string L[k].1)) := by
  refine ⟨by rw [Array.size_setIfInBounds]; exact h.size, fun c => ?_⟩
  rw [first_snoc hk]
  by_cases hc : c = d
  · subst hc
    rw [txt_empty hR he, if_pos hd]
    have := UInt8.toNat_lt c
    rw [Array.getElem?_setIfInBounds_self_of_lt (by rw [h.size]; omega)]
    rfl
  · have hne : d.toNat ≠ c.toNat := fun e => hc (UInt8.toNat_inj.1 e.symm)
    rw [Array.getElem?_setIfInBounds_ne hne, h.at' c, if_neg (fun e => hne (by rw [hd] at e; omega))]
    simp
theorem Txs.skip {L : List Pair} {k : Nat} {cs : Array Value} (h : Txs L k cs) (hk : k < L.length) {d : UInt8} (hd : L[k].2 = (d.toNat : Int)) (he : (txt (firstOf (L.take k) d)).size ≠ 0) : Txs L (k + 1) cs := by
  refine ⟨h.size, fun c => ?_⟩
  rw [first_snoc hk, h.at' c]
  by_cases hc : c = d
  · subst hc
    cases e : firstOf (L.take k) c with
    | none => rw [e] at he; exact absurd rfl he
    | some p => rfl
  · have hne : d.toNat ≠ c.toNat := fun e => hc (UInt8.toNat_inj.1 e.symm)
    rw [if_neg (fun e => hne (by rw [hd] at e; omega))]
    simp
theorem Txs.cells {L : List Pair} {k : Nat} {cs : Array Value} (h : Txs L k cs) : cs.all (·.oneCell') = true := by
  rw [Array.all_eq_true]
  intro i hi
  have hs := h.size
  have := h.at' (UInt8.ofNat i)
  rw [UInt8.toNat_ofNat', Nat.mod_eq_of_lt (by omega), Array.getElem?_eq_getElem hi] at this
  rw [Option.some.inj this]
  rfl
/-- The keys, in order. -/
theorem keys_sorted {L : List Pair} (hR : Right L) {D : DataW Unit} {w : World} {B : Nat} (hown : w.ownsMap Try.prog 9 (plainElem Try.prog 5) B 16 D) (hT : Tied L L.length D) {ss : List (List UInt8)} (hp : ss.Perm (strKeys D)) : ss.mergeSort (fun x y => decide (x ≤ y)) = L.map (fun p => T p.1) := by
  have hrise : (L.map (fun p => T p.1)).Pairwise (· < ·) := by
    rw [List.pairwise_map, List.pairwise_iff_getElem]
    intro i j hi hj hij
    have := rising hR (j - i - 1) i (by omega)
    have e : i + (j - i - 1) + 1 = j := by omega
    simp only [e] at this
    exact this
  have hc : Collected D (fun _ => false) (L.map (fun p => T p.1)) := by
    refine ⟨hrise.imp (fun h e => by rw [e] at h; exact List.lt_irrefl _ h), fun x => ?_⟩
    have h1 := hT.hs ⟨x.toArray⟩
    have e : lit ⟨x.toArray⟩ = .string x := rfl
    rw [e] at h1
    rw [h1]
    constructor
    · intro hx
      obtain ⟨p, hp, rfl⟩ := List.mem_map.1 hx
      obtain ⟨i, hi, rfl⟩ := List.getElem_of_mem hp
      exact ⟨⟨i, hi, hi, rfl⟩, rfl⟩
    · rintro ⟨⟨i, hi, _, he⟩, _⟩
      exact List.mem_map.2 ⟨L[i], List.getElem_mem _, by rw [he]⟩
  have hq := hc.perm hown law Try.underlying9 (fun _ => rfl)
  refine (mergeSort_of_perm (hp.trans hq.symm)).trans ?_
  exact List.mergeSort_of_pairwise (hrise.imp fun h => decide_eq_true (List.le_of_lt h))
theorem below_grown {B : Nat} {a b : World} (h : Below B a b) (hB : a.heap.size ≤ B) : a.grownBy b none := ⟨h.os, h.tape, h.output, h.size, fun k hk _ => h.block k (by omega)⟩
theorem keys_any (mb : Option Nat) (W : World) : Calls Try.prog 27 #[.map mb] W fun e w' => e = .returned (.func (.func 35) #[] #[.pointer (some ⟨W.heap.size, 0, none⟩)]) ∧ w' = W.alloc (.cells #[.map mb] tM) := callsIn_wide.1 (Try.maps_Keys_27 mb W)
theorem sort_any (b : Nat) (D : DataW Unit) (w : World) (hown : w.ownsMap Try.prog 9 (plainElem Try.prog 5) b 16 D) : Calls Try.prog 26 #[.func (.func 35) #[] #[.pointer (some ⟨w.heap.size, 0, none⟩)]] (w.alloc (.cells #[.map (some b)] tM)) fun e w' => ∃ (v : Value) (ss : List (List UInt8)), e = .returned v ∧ ss.Perm (strKeys D) ∧
      w'.ownsRow (w.alloc (.cells #[.map (some b)] tM)).heap.size 9 1 v ss.length ((ss.mergeSort (fun x y => decide (x ≤ y))).map encStr) ∧ (v = .slice none 0 0 ↔ ss = []) ∧ Below (w.alloc (.cells #[.map (some b)] tM)).heap.size (w.alloc (.cells #[.map (some b)] tM)) w' :=
  callsIn_wide.1 (Try.slices_Sorted_keys_26_27 b 16 D _ w hown (by have := hown.size_le; unfold maxLen; omega) (by have := hown.size_le; omega))
theorem old_lt {w : World} {b : Nat} {o : Obj} (h : w.heap[b]? = some o) : b < w.heap.size := by
  rcases Nat.lt_or_ge b w.heap.size with h' | h'
  · exact h'
  · simp [Array.getElem?_eq_none h'] at h
set_option maxHeartbeats 2000000 in
theorem first_any (B : Nat) (D : DataW Unit) (L : List Pair) (w : World) (hown : w.ownsMap Try.prog 9 (plainElem Try.prog 5) B 16 D) (hT : Tied L L.length D) (hR : Right L) :
    Calls Try.prog 16 #[.map (some B)] w fun e w' => ∃ cs, e = .returned (.agg cs) ∧ Txs L L.length cs ∧ Below w.heap.size w w' := by
  obtain ⟨zs, hzs⟩ : ∃ zs, zs = Array.replicate 256 (Value.string ⟨#[]⟩) := ⟨_, rfl⟩
  have hz := fun w => zeroA w
  have X0 : Hid (Txs L 0 zs) := by rw [hzs]; exact Txs.start L
  rw [← hzs] at hz
  clear hzs
  have HR : Hid (Right L) := hR
  have HT : Hid (Tied L L.length D) := hT
  have hl16 : L.length ≤ 16 := hR.1
  obtain ⟨n0, hn0⟩ : ∃ n0, n0 = L.length := ⟨_, rfl⟩
  have HL : Hid (n0 = L.length) := hn0
  rw [← hn0] at hl16
  clear hn0 hR hT
  have HO : Hid (w.ownsMap Try.prog 9 (plainElem Try.prog 5) B 16 D) := hown
  have hBlt := hown.lt
  clear hown
  go_enter Try.func16, Try.ntmps16
  go_wp2_with fail
  obtain ⟨w1, hw1⟩ : ∃ w1, w1 = (w.alloc (.cells zs tA)).alloc (.cells zs tA) := ⟨_, rfl⟩
  rw [← hw1]
  obtain ⟨bR, hbR⟩ : ∃ bR, bR = w.heap.size := ⟨_, rfl⟩
  have R1 : Hid (w1.heap[bR]? = some (.cells zs tA (0, 0))) := by
    show w1.heap[bR]? = _
    rw [hw1, hbR, Below.heap_alloc _ _ _ (by simp)]
    exact (MapKept.heap_alloc w _).1
  have T1 : Hid (w1.heap[bR + 1]? = some (.cells zs tA (0, 0))) := by
    show w1.heap[bR + 1]? = _
    have := (MapKept.heap_alloc (w.alloc (.cells zs tA)) (.cells zs tA)).1
    rw [hw1, hbR]
    simpa using this
  have B1 : Hid (Below bR w w1) := by rw [hw1, hbR]; exact ((Below.refl _ _).alloc (Nat.le_refl _) _).alloc (by simp) _
  have Z1 : bR + 2 = w1.heap.size := by rw [hw1, hbR]; simp
  have O1 : Hid (w1.ownsMap Try.prog 9 (plainElem Try.prog 5) B 16 D) := HO.out.kept (below_grown B1.out (by omega)) (by simp)
  rw [← hbR] at hBlt ⊢
  have HB : Hid (bR = w.heap.size) := hbR
  clear hw1 hbR
  refine (keys_any _ _).mono ?_
  rintro e w2 ⟨rfl, rfl⟩
  go_wp2_with fail
  refine (sort_any B D w1 O1.out).mono ?_
  rintro e w3 ⟨v, ss, rfl, hperm, hrow, _, hb3⟩
  rw [keys_sorted HR.out O1.out HT.out hperm] at hrow
  have hlen : ss.length = n0 := by
    have := congrArg List.length (keys_sorted HR.out O1.out HT.out hperm)
    rw [List.length_mergeSort, List.length_map] at this
    rw [this, HL.out]
  rw [hlen] at hrow
  have B3 : Hid (Below bR w w3) := B1.out.trans ((((Below.refl _ w1).alloc (Nat.le_refl _) _).trans (hb3.mono (by simp))).mono (by omega))
  have z3 : w1.heap.size < w3.heap.size := by have := hb3.size; simp at this; omega
  have R3 : Hid (w3.heap[bR]? = some (.cells zs tA (0, 0))) := by
    show w3.heap[bR]? = _
    rw [hb3.block bR (by simp; omega), Below.heap_alloc _ _ _ (by omega)]; exact R1.out
  have T3 : Hid (w3.heap[bR + 1]? = some (.cells zs tA (0, 0))) := by
    show w3.heap[bR + 1]? = _
    rw [hb3.block (bR + 1) (by simp; omega), Below.heap_alloc _ _ _ (by omega)]; exact T1.out
  obtain ⟨ao, cap, rfl, hcell⟩ : ∃ ao cap, v = .slice ao n0 cap ∧ Hid (∀ i (h : i < L.length), ∃ g, ao = some ⟨g, 0, none⟩ ∧ g ≠ bR + 1 ∧ w3.cell? ⟨g, i, none⟩ = some (.string L[i].1)) := by
    rcases hrow.2 with ⟨rfl, h0⟩ | ⟨g, cap, cur, rfl, h1, _⟩
    · exact ⟨none, 0, by rw [h0], fun i h => absurd h (by have := HL.out; omega)⟩
    · refine ⟨_, _, rfl, fun i h => ⟨g, rfl, by simp at h1; omega, ?_⟩⟩
      have := hrow.cells (g := g) rfl i (.string L[i].1) (by rw [List.getElem?_map, List.getElem?_map, List.getElem?_eq_getElem h]; simp)
      have ea : (⟨g, 0, none⟩ : Addr).add i = ⟨g, i, none⟩ := by by_cases h0 : i = 0 <;> simp [Addr.add, h0]
      rw [ea] at this
      exact this
  have E3 : Hid (w3 = w3.setRow (bR + 1) zs) := (setRow_self _ _ _ _ _ T3.out).symm
  clear hrow hb3 hperm hlen R1 T1 B1
  go_wp2_with fail
  go_loopw [11] (fun i wr => ∃ (k : Nat) (cs : Array Value), k ≤ n0 ∧ i = .int .i64 k ∧ Hid (wr = w3.setRow (bR + 1) cs) ∧ Hid (Txs L k cs)) (fun i _ => n0 - (intOf i).toNat)
  case atStart => exact ⟨0, zs, Nat.zero_le _, rfl, E3.out, X0.out⟩
  case round =>
    obtain ⟨k, cs, hk, rfl, hwr, htx⟩ := hrel
    have TT : wr.heap[bR + 1]? = some (.cells cs tA (0, 0)) := by rw [hwr.out]; exact setRow_heap _ _ _ _ _ _ T3.out
    have BF : Hid (Below bR w wr) := by rw [hwr.out]; exact below_setRow B3.out (by omega) _
    by_cases hlt : k < n0
    · have hkL : k < L.length := by have := HL.out; omega
      obtain ⟨g, rfl, hgne, hcl⟩ := hcell.out k hkL
      have c0 : wr.cell? ⟨g, k, none⟩ = some (.string L[k].1) := by rw [hwr.out, cell_setRow_other _ _ _ _ hgne]; exact hcl
      have OW : wr.ownsMap Try.prog 9 (plainElem Try.prog 5) B 16 D := by
        exact HO.out.kept (below_grown BF.out (by rw [HB.out]; exact Nat.le_refl _)) (by simp)
      have hsz := (HR.out.2 k hkL)
      have hkey : keyOf Try.prog 9 (.string L[k].1) = some (lit L[k].1) := keyOf_string_mk Try.underlying9 (by have := hsz.2.1; unfold maxLen; omega)
      have hv := HT.out.val k hkL hkL (.lit (.int .u8 0))
      have ed := u8_val hsz.2.2.1
      generalize u8 L[k].2 = d at ed
      have SET : Hid ((txt (firstOf (L.take k) d)).size = 0 → Txs L (k + 1) (cs.setIfInBounds d.toNat (.string L[k].1))) := fun h => htx.out.set HR.out hkL ed.symm h
      have SKIP : Hid ((txt (firstOf (L.take k) d)).size ≠ 0 → Txs L (k + 1) cs) := fun h => htx.out.skip hkL ed.symm h
      have c1 : wr.cell? ⟨bR + 1, d.toNat, none⟩ = some (.string (txt (firstOf (L.take k) d))) := by rw [cell_of_row _ _ _ _ _ _ TT]; exact htx.out.at' d
      have f1 : wr.frozen? ⟨bR + 1, d.toNat, none⟩ = false := frozen_of_row _ _ _ _ _ TT
      have hd := UInt8.toNat_lt d
      rw [← ed] at hv
      have hw4 : L[k].1.size ≤ 4 := hsz.2.1
      clear htx hsz ed hcl
      generalize L[k].1 = nm at *
      generalize txt (firstOf (L.take k) d) = ot at *
      generalize d.toNat = dn at *
      have i0 : (0 : Int) ≤ (dn : Int) := by omega
      have i1 : (dn : Int) < 256 := by omega
      by_cases he : ot.size = 0
      · have y1 := Chok.empty_yes he
        have US : Hid (Txs L (k + 1) (cs.setIfInBounds dn (.string nm))) := SET.out he
        have EW : Hid (wr.setCell ⟨bR + 1, dn, none⟩ (.string nm) = w3.setRow (bR + 1) (cs.setIfInBounds dn (.string nm))) := by
          show _ = _
          rw [setCell_eq_setRow _ _ _ _ _ _ _ TT, hwr.out, setRow_setRow]
        clear SET SKIP
        go_wp2_with (at_lookup; refine wpList_lookup_own_int _ rfl _ _ tM rfl 9 5 .u8 law Try.underlying42 Try.underlying5 (zeroE _) B 16 D rfl OW _ _ rfl hkey ?_; intro c' hat hwc; obtain rfl : c' = (dn : Int) := (by have := hat.symm.trans hv; injection this with h; injection h))
        go_roundw
        case rel => exact ⟨k + 1, _, by omega, by go_num, EW.out, US.out⟩
        case measure => simp [intOf]; omega
      · have y1 := Chok.empty_no he
        have US : Hid (Txs L (k + 1) cs) := SKIP.out he
        clear SET SKIP
        go_wp2_with (at_lookup; refine wpList_lookup_own_int _ rfl _ _ tM rfl 9 5 .u8 law Try.underlying42 Try.underlying5 (zeroE _) B 16 D rfl OW _ _ rfl hkey ?_; intro c' hat hwc; obtain rfl : c' = (dn : Int) := (by have := hat.symm.trans hv; injection this with h; injection h))
        go_roundw
        case rel => exact ⟨k + 1, _, by omega, by go_num, hwr.out, US.out⟩
        case measure => simp [intOf]; omega
    · have hkn : k = n0 := by omega
      subst hkn
      have TX : Hid (Txs L L.length cs) := by rw [← HL.out]; exact htx.out
      have hs := TX.out.size
      have ha := TX.out.cells
      have hzz := X0.out.size
      have RR : wr.heap[bR]? = some (.cells zs tA (0, 0)) := by rw [hwr.out, setRow_other _ _ _ _ (by omega)]; exact R3.out
      go_upto_region 9 with fail
      refine wp_region_list ?_
      refine wpList_load_row rfl tA _ rfl (bR + 1) rfl _ cs (0, 0) _ TT Try.underlying40 rfl (by rw [hs]; exact sizeA) ?_
      refine wpList_store_row rfl tA _ _ rfl bR cs rfl rfl _ zs RR (by rw [hs]; exact sizeA) (by omega) ha ?_
      refine wpList_nil ?_
      go_wp2
      refine bodyPost_ret (v := .agg cs) (results_cell_row rfl _ _ bR tA cs (0, 0) _ rfl (setRow_heap _ _ _ _ _ _ RR) Try.underlying40 rfl (by rw [hs]; exact sizeA)) rfl ?_
      exact ⟨cs, rfl, TX.out, by rw [← HB.out]; exact below_setRow BF.out (Nat.le_refl _) _⟩
end Go.Proofs.Ytjhacbkmoepffaa.Unmi
