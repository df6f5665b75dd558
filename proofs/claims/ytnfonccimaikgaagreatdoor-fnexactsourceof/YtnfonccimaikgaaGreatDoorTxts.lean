/-
  Contracts of ours for rows of texts: a row that came in, opened; the laws' own helpers over them (sizes, copies, equality).
-/
import Derived.Test.YtnfonccimaikgaaGreatDoorRows
import Derived.WalkKit
import Derived.ProofKit
import Derived.OpenShut
import Derived.ShutString
import Derived.Outline
import Derived.Below
import Derived.Deep.Strs
import Derived.Deep.RegionWith
import Derived.Deep.QuietTactic
import Derived.BigQuiet
import Derived.LoopN
import Derived.WalkLawsBesides
namespace Go.Proofs.YtnfonccimaikgaaGreatDoor.Txts
open Go.ChangeShapes Go.WideShapes Go.ChangeAt Go.RowKit Go.Deep
set_option linter.unusedVariables false

/-- A row of texts, from a place on. -/
def Texts (w : World) (a : Option Addr) (L : List ByteArray) : Prop := L = [] ∨ ∃ b off, a = some ⟨b, off, none⟩ ∧ b < w.heap.size ∧ ∀ i (h : i < L.length), w.cell? ⟨b, off + i, none⟩ = some (.string L[i])
theorem Texts.below {w w' : World} {a : Option Addr} {L : List ByteArray} (h : Texts w a L) (hb : Below w.heap.size w w') : Texts w' a L := by
  rcases h with h | ⟨b, off, ha, hl, hc⟩
  · exact .inl h
  · exact .inr ⟨b, off, ha, Nat.lt_of_lt_of_le hl hb.size, fun i hi => (hb.cell (p := ⟨b, _, none⟩) hl).trans (hc i hi)⟩
theorem cells9 : Tryz.prog.cellsOf 9 = 1 := by kernel_rfl
theorem texts_of {H : Type} {enc : TypeId × Value → H} {w : World} {base : Nat} {spare : Nat → Bool} {held : Bool} {fuel : Nat} {cs : List Value} {x : DataW H × List MemPlace}
    (h : DataW.trod enc Tryz.prog w base spare held fuel 22 cs = some x) : ∃ a len cap L, cs = [.slice a len cap] ∧ L.length = len ∧ len ≤ maxLen ∧ Texts w a L ∧ ∀ i (h : i < L.length), L[i].size ≤ maxLen := by
  rcases open_slice Tryz.underlying22 h with ⟨rfl, _⟩ | ⟨a, len, cap, m, n, D, Pl, rfl, hb, hl, hm, hmm, rfl, hx⟩
  · exact ⟨none, 0, 0, [], rfl, rfl, Nat.zero_le _, .inl rfl, fun i h => absurd h (by simp)⟩
  have hlm : len ≤ m := by rw [hmm]; split <;> omega
  have each : ∀ i, i < len → ∃ q : ByteArray, w.cell? (a.add i) = some (.string q) ∧ q.size ≤ maxLen := by
    intro i hi
    obtain ⟨cs', h1, h2⟩ := hx i (by omega)
    rw [cells9] at h1
    obtain ⟨_, hlen, hcell⟩ := World.cells?_some h1
    match cs', hlen with
    | [v0], _ =>
      obtain ⟨n0, e0, _, hs⟩ := DataW.trod_string Tryz.underlying9 h2
      simp at e0
      subst e0
      have d0 := hcell 0 (by omega)
      rw [add_add] at d0
      exact ⟨n0, by simpa using d0, hs⟩
  obtain ⟨q, hq⟩ := choose_lt each
  refine ⟨some a, len, cap, (List.range len).map q, rfl, by simp, by omega, ?_, fun i hi => by
    have hi' : i < len := by simpa using hi
    simpa using (hq i hi').2⟩
  by_cases h0 : len = 0
  · subst h0; exact .inl rfl
  obtain ⟨b, off, spot⟩ := a
  have c0 := (hq 0 (by omega)).1
  have hspot : spot = none := by simpa [Addr.add] using World.cell?_spot c0
  subst hspot
  have e : ∀ i, (⟨b, off, none⟩ : Addr).add i = ⟨b, off + i, none⟩ := fun i => by unfold Addr.add; split <;> simp_all
  refine .inr ⟨b, off, rfl, World.block_lt_of_cell? w ⟨b, off, none⟩ (by simpa [Addr.add] using c0), fun i hi => ?_⟩
  have hi' : i < len := by simpa using hi
  have d0 := (hq i hi').1
  rw [e] at d0
  simpa using d0

/-- The first k texts, and empty ones behind them. -/
def rowA (L : List ByteArray) (k : Nat) : Array Value := ((L.take k).map Value.string ++ List.replicate (L.length - k) (Value.string ⟨#[]⟩)).toArray
def rowO (L : List ByteArray) : Obj := .cells (rowA L L.length) 9
theorem rowA_zero (L : List ByteArray) : madeCells #[.string ⟨#[]⟩] L.length = rowA L 0 := by
  apply Array.toList_inj.1
  rw [toList_madeCells_one]
  simp [rowA]
theorem rowA_get (L : List ByteArray) (k : Nat) (h : k < L.length) : (rowA L k)[k]? = some (.string ⟨#[]⟩) := by
  unfold rowA
  rw [List.getElem?_toArray, List.getElem?_append_right (by simp; omega)]
  simp [Nat.min_eq_left (Nat.le_of_lt h)]
  rw [List.getElem?_replicate, if_pos (by omega)]
theorem rowA_step (L : List ByteArray) (k : Nat) (h : k < L.length) : (rowA L k).setIfInBounds k (.string L[k]) = rowA L (k + 1) := by
  apply Array.toList_inj.1
  unfold rowA
  rw [Array.toList_setIfInBounds]
  rw [List.set_append_right _ _ (by simp; omega)]
  have e1 : L.length - k = (L.length - (k + 1)) + 1 := by omega
  have e2 : ((L.take k).map Value.string).length = k := by simp [Nat.min_eq_left (Nat.le_of_lt h)]
  rw [e2, e1, List.replicate_succ, Nat.sub_self, List.set_cons_zero, List.take_succ_eq_append_getElem h, List.map_append, List.append_assoc]
  rfl
theorem rowA_full (L : List ByteArray) (i : Nat) (h : i < L.length) : (rowA L L.length)[i]? = some (.string L[i]) := by
  unfold rowA
  simp [h]
theorem infoS : (Tryz.prog.info? 9).map (fun i => (i.zero, i.size, i.bytes)) = some (some (.string ⟨#[]⟩), 1, 16) := by kernel_rfl
theorem rowO_row (w : World) (L : List ByteArray) : Texts (w.alloc (rowO L)) (some ⟨w.heap.size, 0, none⟩) L := by
  refine .inr ⟨w.heap.size, 0, rfl, by simp, fun i hi => ?_⟩
  unfold rowO
  rw [Nat.zero_add, World.cell?_alloc_new]
  exact rowA_full L i hi
/-- What a call owns is a row of texts. -/
theorem owned_texts {w : World} {base n : Nat} {v : Value} {L : List ByteArray} (h : w.ownsRow base 9 1 v n (L.map Value.string)) : ∃ a cap, v = .slice a L.length cap ∧ Texts w a L ∧ n = L.length := by
  have hn : n = L.length := by have := h.1; simp at this; omega
  subst hn
  rcases h.2 with ⟨rfl, h0⟩ | ⟨g, cap, cur, rfl, hb, hg, rest⟩
  · exact ⟨none, 0, by rw [h0], .inl (List.eq_nil_of_length_eq_zero h0), rfl⟩
  · refine ⟨_, cap, rfl, .inr ⟨g, 0, rfl, (Array.getElem?_eq_some_iff.1 hg).1, fun i hi => ?_⟩, rfl⟩
    have := h.cellAt i (by simpa using hi)
    rw [Nat.zero_add, this]
    simp [hi]



set_option maxHeartbeats 1000000 in
theorem eqStringS_any (a a' : Option Addr) (cap cap' : Nat) (L : List ByteArray) (w : World) (hN : Texts w a L) (hN' : Texts w a' L) (hlen : L.length ≤ 10000000) :
    Calls Tryz.prog 7 #[.slice a L.length cap, .slice a' L.length cap'] w fun e w' => e = .returned (.bool true) ∧ ∃ n, w' = w.drewN n := by
  obtain ⟨len, hl⟩ : ∃ len, len = L.length := ⟨_, rfl⟩
  have HL : Hid (len = L.length) := hl
  rw [← hl] at hlen ⊢
  clear hl
  go_enter Tryz.func7, Tryz.ntmps7
  go_wp2
  go_loopw [5] (fun i wr => ∃ k n : Nat, k ≤ len ∧ i = .int .i64 k ∧ wr = w.drewN n) (fun i _ => len - (intOf i).toNat)
  case atStart => exact ⟨0, 0, Nat.zero_le _, rfl, rfl⟩
  case round =>
    obtain ⟨k, n, hk, rfl, rfl⟩ := hrel
    by_cases hlt : k < len
    · have hkL : k < L.length := by have := HL.out; omega
      rcases hN with hnil | ⟨b, off, rfl, hb, hc⟩
      · exfalso; rw [hnil] at hkL; exact absurd hkL (by simp)
      rcases hN' with hnil | ⟨b', off', rfl, hb', hc'⟩
      · exfalso; rw [hnil] at hkL; exact absurd hkL (by simp)
      have c0 : w.cell? ⟨b, off + k, none⟩ = some (.string L[k]) := hc k hkL
      have e0 : w.cell? ⟨b', off' + k, none⟩ = some (.string L[k]) := hc' k hkL
      clear hc hc'
      generalize L[k] = kd at c0 e0
      have k0 : (0 : Int) ≤ (k : Int) := by omega
      have k1 : (k : Int) < (len : Int) := by omega
      go_wp2_with fail
      go_quiet (fail)
      go_wp2
      go_roundw
      case rel => exact ⟨k + 1, _, by omega, by go_num, rfl⟩
      case measure => simp [intOf]; omega
    · clear hN hN'
      go_wp2
      go_ret
      exact ⟨rfl, n, rfl⟩
end Go.Proofs.YtnfonccimaikgaaGreatDoor.Txts
