/-
  That the digits of a number read back as it (taken out of the walk of FnHex).
-/
import Derived.Test.YtkcophgkkeakjaaDoorNums
import Derived.Test.YtkcophgkkeakjaaDoorHex
import Derived.Lib.IndexBytes
namespace Go.Proofs.YtkcophgkkeakjaaDoor.Hexn
open Go.ChangeShapes Go.WideShapes Go.ChangeAt Go.RowKit

theorem digS_tab : ∀ m, m < 16 → Nums.digS ((UInt8.ofNat (Nums.tab.getD m 0).toNat).toNat : Int) = (m : Int) := by decide
theorem digS_at {x : Int} (h0 : 0 ≤ x) (h1 : x < 16) : Nums.digS ((UInt8.ofNat (Nums.tab.getD x.toNat 0).toNat).toNat : Int) = x := by
  rw [digS_tab x.toNat (by omega)]; omega
theorem word_cons {n : Int} {c : UInt8} {r : List UInt8} {m : Int} (hc : Nums.digS (c.toNat : Int) = m) (hm : m < 16) (hn : n * 16 + m ≤ 65535) : Nums.word 16 n (c :: r) = Nums.word 16 (n * 16 + m) r := by
  show (if (16 : Int) ≤ Nums.digS (c.toNat : Int) then none else if 65535 < n * 16 + Nums.digS (c.toNat : Int) then none else Nums.word 16 (n * 16 + Nums.digS (c.toNat : Int)) r) = _
  rw [hc, if_neg (by omega), if_neg (by omega)]
theorem word_digs {n d : Int} (h : 1 ≤ d ∧ d ≤ 4 ∧ 0 ≤ n ∧ n ≤ 65535 ∧ n / Hex.pw d = 0) : Nums.word 16 0 ((Hex.digs n d.toNat).map fun n => UInt8.ofNat n.toNat) = some n := by
  obtain ⟨h1, h2, h3, h4, h5⟩ := h
  have hd : d = 1 ∨ d = 2 ∨ d = 3 ∨ d = 4 := by omega
  rcases hd with rfl | rfl | rfl | rfl
  · have e : n / Hex.pw 1 = n / 16 := by unfold Hex.pw; show n / (16 ^ 1) = _; omega
    show Nums.word 16 0 [UInt8.ofNat (Nums.tab.getD (n % 16).toNat 0).toNat] = _
    rw [word_cons (digS_at (x := n % 16) (by omega) (by omega)) (by omega) (by omega)]
    show some _ = some _
    congr 1; omega
  · have e : n / Hex.pw 2 = n / 16 / 16 := by unfold Hex.pw; show n / (16 ^ 2) = _; omega
    show Nums.word 16 0 [UInt8.ofNat (Nums.tab.getD (n / 16 % 16).toNat 0).toNat, UInt8.ofNat (Nums.tab.getD (n % 16).toNat 0).toNat] = _
    rw [word_cons (digS_at (x := n / 16 % 16) (by omega) (by omega)) (by omega) (by omega), word_cons (digS_at (x := n % 16) (by omega) (by omega)) (by omega) (by omega)]
    show some _ = some _
    congr 1; omega
  · have e : n / Hex.pw 3 = n / 16 / 16 / 16 := by unfold Hex.pw; show n / (16 ^ 3) = _; omega
    show Nums.word 16 0 [UInt8.ofNat (Nums.tab.getD (n / 16 / 16 % 16).toNat 0).toNat, UInt8.ofNat (Nums.tab.getD (n / 16 % 16).toNat 0).toNat, UInt8.ofNat (Nums.tab.getD (n % 16).toNat 0).toNat] = _
    rw [word_cons (digS_at (x := n / 16 / 16 % 16) (by omega) (by omega)) (by omega) (by omega), word_cons (digS_at (x := n / 16 % 16) (by omega) (by omega)) (by omega) (by omega), word_cons (digS_at (x := n % 16) (by omega) (by omega)) (by omega) (by omega)]
    show some _ = some _
    congr 1; omega
  · have e : n / Hex.pw 4 = n / 16 / 16 / 16 / 16 := by unfold Hex.pw; show n / (16 ^ 4) = _; omega
    show Nums.word 16 0 [UInt8.ofNat (Nums.tab.getD (n / 16 / 16 / 16 % 16).toNat 0).toNat, UInt8.ofNat (Nums.tab.getD (n / 16 / 16 % 16).toNat 0).toNat, UInt8.ofNat (Nums.tab.getD (n / 16 % 16).toNat 0).toNat, UInt8.ofNat (Nums.tab.getD (n % 16).toNat 0).toNat] = _
    rw [word_cons (digS_at (x := n / 16 / 16 / 16 % 16) (by omega) (by omega)) (by omega) (by omega), word_cons (digS_at (x := n / 16 / 16 % 16) (by omega) (by omega)) (by omega) (by omega), word_cons (digS_at (x := n / 16 % 16) (by omega) (by omega)) (by omega) (by omega), word_cons (digS_at (x := n % 16) (by omega) (by omega)) (by omega) (by omega)]
    show some _ = some _
    congr 1; omega
theorem digs_len : ∀ (k : Nat) (n : Int), (Hex.digs n k).length = k
  | 0, _ => rfl
  | k + 1, n => by show (Hex.digs (n / 16) k ++ [_]).length = _; rw [List.length_append, digs_len k]; rfl
theorem num_hex {n d : Int} (h : 1 ≤ d ∧ d ≤ 4 ∧ 0 ≤ n ∧ n ≤ 65535 ∧ n / Hex.pw d = 0) : Nums.num (Hex.hexS n d) = some n ∧ ((Hex.hexS n d).size : Int) = d + 1 := by
  rw [Hex.hexS_yes h]
  have hz : (strOfNums (36 :: Hex.digs n d.toNat)).size = d.toNat + 1 := by rw [strOfNums_size, List.length_cons, digs_len]
  refine ⟨?_, by rw [hz]; omega⟩
  unfold Nums.num
  rw [if_neg (by rw [hz]; omega), if_pos (by rfl)]
  unfold Nums.base
  rw [if_neg (by rw [Nums.cut_size, hz]; omega)]
  have e : ((strOfNums (36 :: Hex.digs n d.toNat)).extract 1 (strOfNums (36 :: Hex.digs n d.toNat)).size).data.toList = (Hex.digs n d.toNat).map fun n => UInt8.ofNat n.toNat := by
    rw [Lib.extract_to_end, strOfNums_data, List.map_cons]; rfl
  rw [e]
  exact word_digs h
end Go.Proofs.YtkcophgkkeakjaaDoor.Hexn
