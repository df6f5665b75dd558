/-
  Contracts of ours for impl.codesOf and impl.longestAhead.
-/
import Derived.Maps.OwnSet
import Derived.Maps.OwnOps
import Derived.Maps.Views
import Derived.Test.YtjhacbkmoepffaaMapp
namespace Go.Proofs.Ytjhacbkmoepffaa.Mapi
open Go.ChangeShapes Go.WideShapes Go.ChangeAt Go.RowKit Go.Deep Go.Maps Go.WideMaps
open Pairr (Pair Pairs)
open Chok Mapp
set_option linter.unusedVariables false
set_option linter.unusedSimpArgs false
set_option maxRecDepth 100000
abbrev tM : TypeId := 42
theorem law : Keyed Try.prog 9 := string_keyed Try.underlying9
theorem zeroE (w : World) : (zeroValue 5).run Try.prog w = .ok (.int .u8 0) w := by kernel_rfl
abbrev lit (s : ByteArray) : Lit := .string (T s)
theorem lit_inj {s t : ByteArray} (h : lit s = lit t) : s = t := T_inj (Lit.string.inj h)
/-- The map has the first pairs, and nothing else. -/
structure Tied (L : List Pair) (k : Nat) (D : DataW Unit) : Prop where
  map : IsMap D
  hs : ∀ s : ByteArray, Maps.has D (lit s) = true ↔ ∃ i, ∃ h : i < L.length, i < k ∧ L[i].1 = s
  val : ∀ i (h : i < L.length), i < k → ∀ z, D.atKey (lit L[i].1) z = .lit (.int .u8 L[i].2)
theorem tied_nil (L : List Pair) : Tied L 0 (.map []) := ⟨⟨[], rfl⟩, fun s => ⟨(fun h => by cases h), (fun ⟨i, _, h, _⟩ => absurd h (Nat.not_lt_zero _))⟩, fun i _ h => absurd h (Nat.not_lt_zero _)⟩
theorem Tied.next {L : List Pair} (hR : Right L) {k : Nat} {D : DataW Unit} (h : Tied L k D) (hk : k < L.length) : Tied L (k + 1) (D.put (lit L[k].1) (.lit (.int .u8 L[k].2))) := by
  refine ⟨h.map.put _ _, fun s => ?_, fun i hi hik z => ?_⟩
  · by_cases e : s = L[k].1
    · subst e
      exact ⟨fun _ => ⟨k, hk, by omega, rfl⟩, fun _ => has_put_same h.map (show WideAt.IsKeyLit (lit _) from trivial) _⟩
    · rw [has_put_other (fun hh => e (lit_inj hh)), h.hs]
      exact ⟨fun ⟨i, hi, hik, hs⟩ => ⟨i, hi, by omega, hs⟩, fun ⟨i, hi, hik, hs⟩ => ⟨i, hi, by
        rcases Nat.lt_or_ge i k with c | c
        · exact c
        · obtain rfl : i = k := by omega
          exact absurd hs.symm e, hs⟩⟩
  · by_cases e : i = k
    · subst e; exact atKey_put_same h.map (show WideAt.IsKeyLit (lit _) from trivial) _ _
    · rw [atKey_put_other (fun hh => e (Mapp.distinct hR hi hk (lit_inj hh)))]
      exact h.val i hi (by omega) z
set_option maxHeartbeats 1000000 in
theorem codes_any (a : Option Addr) (cap : Nat) (L : List Pair) (w : World) (hN : Pairs w a L) (hR : Right L) :
    Calls Try.prog 17 #[.slice a L.length cap] w fun e w' => e = .returned (.map (some w.heap.size)) ∧ (∃ D : DataW Unit, w'.ownsMap Try.prog 9 (plainElem Try.prog 5) w.heap.size 16 D ∧ Tied L L.length D) ∧ Below w.heap.size w w' := by
  have hmm := @run_makeMap Try.prog
  obtain ⟨len, hl⟩ : ∃ len, len = L.length := ⟨_, rfl⟩
  have HL : Hid (len = L.length) := hl
  have hlen : len ≤ 16 := by rw [hl]; exact hR.1
  have HR : Hid (Right L) := hR
  rw [← hl]
  clear hl hR
  go_enter Try.func17, Try.ntmps17
  go_wp2
  go_loopw [9] (fun i wr => ∃ (k : Nat) (D : DataW Unit), k ≤ len ∧ i = .int .i64 k ∧ wr.ownsMap Try.prog 9 (plainElem Try.prog 5) w.heap.size k D ∧ Hid (Tied L k D) ∧ Hid (Below w.heap.size w wr)) (fun i _ => len - (intOf i).toNat)
  case atStart => exact ⟨0, .map [], Nat.zero_le _, rfl, World.ownsMap_made _ _ _ _, tied_nil L, (Below.refl _ _).alloc (Nat.le_refl _) _⟩
  case round =>
    obtain ⟨k, D, hk, rfl, hown, htie, hbel⟩ := hrel
    by_cases hlt : k < len
    · have hkL : k < L.length := by have := HL.out; omega
      rcases hN with hnil | ⟨b, off, rfl, hb, hc⟩
      · exfalso; rw [hnil] at hkL; exact absurd hkL (by simp)
      obtain ⟨c0, c1, hsz⟩ : wr.cell? ⟨b, off + k * 2, none⟩ = some (.string L[k].1) ∧ wr.cell? ⟨b, off + k * 2 + 1, none⟩ = some (.int .i64 L[k].2) ∧ L[k].1.size ≤ maxLen := by
        obtain ⟨d0, d1, d3⟩ := hc k hkL
        exact ⟨(hbel.out.cell (p := ⟨b, _, none⟩) hb).trans d0, (hbel.out.cell (p := ⟨b, _, none⟩) hb).trans d1, d3⟩
      have TN : Hid (Tied L (k + 1) (D.put (lit L[k].1) (.lit (.int .u8 L[k].2)))) := htie.out.next HR.out hkL
      have hin : 0 ≤ L[k].2 ∧ L[k].2 ≤ 255 := by have := (HR.out.2 k hkL).2.2.1; simpa [Signed.inB] using this
      clear hc htie
      generalize L[k].1 = nm at *
      generalize L[k].2 = bk at *
      have hkey : keyOf Try.prog 9 (.string nm) = some (lit nm) := keyOf_string_mk Try.underlying9 hsz
      obtain ⟨q, hq⟩ : ∃ q : Nat, bk = (q : Int) := ⟨bk.toNat, by omega⟩
      subst hq
      have eu : IntKind.u8.wrap (q : Int) = (q : Int) := by rw [IntKind.wrap_u8]; omega
      have wf : (Lit.int .u8 (q : Int)).wf = true := by simp [Lit.wf, IntKind.min, IntKind.max, IntKind.signed, IntKind.bits]; omega
      have hown' := hown.alloc (.cells #[.string nm, .int .i64 (q : Int)] 38)
      go_wp2_with (at_mapUpdate; refine wpList_mapUpdate_own _ rfl _ _ _ tM rfl 9 5 law Try.underlying42 _ w.heap.size k _ rfl hown' (by unfold maxLen; omega) _ _ _ rfl rfl hkey _ [] (plainElem_int Try.underlying5 wf) ?_)
      intro w1 hown1 hgrow1
      have B1 : Hid (Below w.heap.size w w1) := (hbel.out.alloc hbel.out.size _).grown hgrow1 (by simp; have := hbel.out.size; omega) (fun j hj => by cases hj; exact Nat.le_refl _)
      clear hown hown' hgrow1
      go_wp2
      go_roundw
      case rel => exact ⟨k + 1, _, by omega, by go_num, hown1, TN.out, B1.out⟩
      case measure => simp [intOf]; omega
    · have e : k = len := by omega
      subst e
      go_wp2
      go_ret
      exact ⟨rfl, ⟨D, hown.mono (by omega), htie.out⟩, hbel.out⟩
theorem ext_take (t : ByteArray) (m : Nat) : T (t.extract 0 m) = (T t).take m := by
  show (t.extract 0 m).data.toList = _
  rw [ByteArray.data_extract, Array.toList_extract, List.extract_eq_take_drop]; simp
theorem hit_of {L : List Pair} {D : DataW Unit} (h : Tied L L.length D) {t : ByteArray} {q : Pair} (hq : q ∈ L) (hf : Fits (T t) q) : Maps.has D (lit (t.extract 0 q.1.size)) = true := by
  obtain ⟨i, hi, rfl⟩ := List.getElem_of_mem hq
  exact (h.hs _).2 ⟨i, hi, hi, T_inj (by rw [ext_take]; exact hf.2.symm)⟩
theorem best_of {L : List Pair} {D : DataW Unit} (h : Tied L L.length D) {t : ByteArray} {k : Nat} (hk : k ≤ t.size) (hh : Maps.has D (lit (t.extract 0 k)) = true) (hno : ∀ m, k < m → m ≤ 4 → m ≤ t.size → Maps.has D (lit (t.extract 0 m)) = false) (hR : Right L) : ∃ p, Best L (T t) p ∧ p.1 = t.extract 0 k := by
  obtain ⟨i, hi, _, he⟩ := (h.hs _).1 hh
  have hz : (L[i].1).size = k := by rw [he, ByteArray.size_extract]; omega
  refine ⟨L[i], ⟨List.getElem_mem _, ⟨by rw [hz, T_len]; exact hk, by rw [hz, he, ext_take]⟩, fun q hq hf => ?_⟩, he⟩
  rw [hz]
  refine Nat.le_of_not_lt fun hlt => ?_
  have h1 := hit_of h hq hf
  have h2 := hf.1
  rw [T_len] at h2
  rw [hno _ hlt (size_pos hR hq).2.1 h2] at h1
  cases h1
theorem none_of {L : List Pair} {D : DataW Unit} (h : Tied L L.length D) {t : ByteArray} (hno : ∀ m, 0 < m → m ≤ 4 → m ≤ t.size → Maps.has D (lit (t.extract 0 m)) = false) (hR : Right L) : ∀ q ∈ L, ¬ Fits (T t) q := fun q hq hf => by
  have h1 := hit_of h hq hf
  have h2 := hf.1
  rw [T_len] at h2
  rw [hno _ (size_pos hR hq).1 (size_pos hR hq).2.1 h2] at h1
  cases h1
def LongT (L : List Pair) (t : ByteArray) (e : Ending) : Prop := (∃ p, Best L (T t) p ∧ e = .returned (.tuple #[.string p.1, .bool true])) ∨ ((∀ q ∈ L, ¬ Fits (T t) q) ∧ e = .returned (.tuple #[.string ⟨#[]⟩, .bool false]))
end Go.Proofs.Ytjhacbkmoepffaa.Mapi
