/-
  Of ours: what stands in a header (chapter 12), and contracts for its small helpers.
-/
import Derived.Test.YtpnaohonadoofaaDoorTitl
import Derived.Test.YtpnaohonadoofaaDoorShelf
namespace Go.Proofs.YtpnaohonadoofaaDoor.Heda
open Go.ChangeShapes Go.WideShapes Go.ChangeAt Go.RowKit
open Signed (inB ret_int ret_bool l1In_any)
open Sums Titl
set_option linter.unusedVariables false
set_option maxRecDepth 20000

theorem or8 (x y : Int) (x0 : 0 ≤ x) (x1 : x ≤ 255) (y0 : 0 ≤ y) (y1 : y ≤ 255) : bits .or .i64 (x * 256) y = x * 256 + y := by
  obtain ⟨a, rfl⟩ : ∃ a : Nat, x = a := ⟨x.toNat, by omega⟩
  obtain ⟨b, rfl⟩ : ∃ b : Nat, y = b := ⟨y.toNat, by omega⟩
  have e1 : ((a : Int) * 256 % ((2 ^ 64 : Nat) : Int)).toNat = 2 ^ 8 * a := by omega
  have e2 : ((b : Int) % ((2 ^ 64 : Nat) : Int)).toNat = b := by omega
  have key : (BitVec.ofInt 64 ((a : Int) * 256) ||| BitVec.ofInt 64 (b : Int)).toNat = 2 ^ 8 * a + b := by
    rw [BitVec.toNat_or, BitVec.toNat_ofInt, BitVec.toNat_ofInt, e1, e2, ← Nat.two_pow_add_eq_or_of_lt (by omega)]
  show IntKind.i64.wrap ((BitVec.ofInt 64 ((a : Int) * 256) ||| BitVec.ofInt 64 (b : Int)).toNat : Nat) = _
  rw [key, IntKind.wrap_i64]
  omega
theorem dbl_all : ∀ (d : Fin 256) (n : Fin 17), 2 ≤ n.val → ((wrap64 (2 * 2 ^ min d.val 64) != (n.val : Int)) = ((d.val : Int) != codeV (n.val : Int))) := by decide +kernel
theorem doubled_any (d : Int) (w : World) (h0 : 0 ≤ d) (h1 : d ≤ 255) (n : Int) (n0 : 2 ≤ n) (n1 : n ≤ 16) :
    Calls Tryd.prog 26 #[.int .i64 d] w fun e w' => e = .returned (.int .i64 (wrap64 (2 * 2 ^ min d.toNat 64))) ∧ w' = w := by
  go_enter Tryd.func26, Tryd.ntmps26
  go_wp2
  go_ret
  exact ⟨rfl, rfl⟩
theorem doubled_ne (d n : Int) (h0 : 0 ≤ d) (h1 : d ≤ 255) (n0 : 2 ≤ n) (n1 : n ≤ 16) : (wrap64 (2 * 2 ^ min d.toNat 64) != n) = (d != codeV n) := by
  have := dbl_all ⟨d.toNat, by omega⟩ ⟨n.toNat, by omega⟩ (by show 2 ≤ n.toNat; omega)
  rwa [show ((⟨d.toNat, by omega⟩ : Fin 256).val : Int) = d by show ((d.toNat : Nat) : Int) = d; omega, show ((⟨n.toNat, by omega⟩ : Fin 17).val : Int) = n by show ((n.toNat : Nat) : Int) = n; omega] at this
/-- The block B is such a header. -/
def Hdr (w : World) (B : Nat) (t : ByteArray) (k n s h : Int) : Prop := w.heap[B]? = some (.cells #[.string t, .int .i64 k, .int .i64 n, .int .i64 s, .int .i64 h] 29 (0, 0))
theorem Hdr.lt {w : World} {B : Nat} {t : ByteArray} {k n s h : Int} (x : Hdr w B t k n s h) : B < w.heap.size := lt_of_block x
theorem Hdr.cells {w : World} {B : Nat} {t : ByteArray} {k n s h : Int} (x : Hdr w B t k n s h) : w.cell? ⟨B, 0, none⟩ = some (.string t) ∧ w.cell? ⟨B, 1, none⟩ = some (.int .i64 k) ∧ w.cell? ⟨B, 2, none⟩ = some (.int .i64 n) ∧ w.cell? ⟨B, 3, none⟩ = some (.int .i64 s) ∧ w.cell? ⟨B, 4, none⟩ = some (.int .i64 h) := by
  unfold Hdr at x
  unfold World.cell?
  simp only [x]
  exact ⟨rfl, rfl, rfl, rfl, rfl⟩
theorem Hdr.free {w : World} {B : Nat} {t : ByteArray} {k n s h : Int} (x : Hdr w B t k n s h) (i : Nat) : w.frozen? ⟨B, i, none⟩ = false := by
  unfold Hdr at x
  unfold World.frozen?
  simp only [x]
  simp
theorem Hdr.kept {w w' : World} {B : Nat} {t : ByteArray} {k n s h : Int} (x : Hdr w B t k n s h) (hk : w'.heap[B]? = w.heap[B]?) : Hdr w' B t k n s h := hk.trans x
theorem Hdr.below {w w' : World} {B : Nat} {t : ByteArray} {k n s h : Int} (x : Hdr w B t k n s h) (b : Below w.heap.size w w') : Hdr w' B t k n s h := x.kept (b.block B x.lt)
theorem Hdr.new (w : World) (t : ByteArray) (k n s h : Int) : Hdr (w.alloc (.cells #[.string t, .int .i64 k, .int .i64 n, .int .i64 s, .int .i64 h] 29)) w.heap.size t k n s h := heap_alloc_new _ _
theorem Hdr.alloc {w : World} {B : Nat} {t : ByteArray} {k n s h : Int} (x : Hdr w B t k n s h) (o : Obj) : Hdr (w.alloc o) B t k n s h := x.kept (Below.heap_alloc _ _ _ x.lt)
theorem Hdr.other {w : World} {B C i : Nat} {t : ByteArray} {k n s h : Int} (x : Hdr w B t k n s h) (hne : B ≠ C) (v : Value) : Hdr (w.setCell ⟨C, i, none⟩ v) B t k n s h := x.kept (Below.heap_setCell _ _ _ _ hne)
theorem Hdr.title {w : World} {B : Nat} {t : ByteArray} {k n s h : Int} (x : Hdr w B t k n s h) (t' : ByteArray) : Hdr (w.setCell ⟨B, 0, none⟩ (.string t')) B t' k n s h := by
  have hlt := x.lt
  have h' : w.heap[B] = .cells #[.string t, .int .i64 k, .int .i64 n, .int .i64 s, .int .i64 h] 29 (0, 0) := by simpa [Array.getElem?_eq_getElem hlt, Hdr] using x
  show (w.heap.modify B _)[B]? = _
  rw [Array.getElem?_eq_getElem (by simpa using hlt), Array.getElem_modify_self, h']
  rfl

/-- The title of a header. -/
def titleS (rom : ByteArray) : ByteArray := ⟨(Lib.trimRightB (rom.extract 52 67).data.toList 0).toArray⟩
def hdrB (rom : ByteArray) : Bool := romB rom.size && (titleB (titleS rom) && (decide (byteAt rom 71 ≤ 2) && (byteAt rom 72 == codeV (banks rom.size) && (byteAt rom 77 == headV rom && byteAt rom 78 * 256 + byteAt rom 79 == wholeV rom))))
def okH (tb : Bool) (kd sz cv sm hv x wv : Int) : Bool := tb && (decide (kd ≤ 2) && (sz == cv && (sm == hv && x == wv)))
def noHdr : Value := .agg #[.string ⟨#[]⟩, .int .i64 0, .int .i64 0, .int .i64 0, .int .i64 0]
def hdrV (rom : ByteArray) : Value := .agg #[.string (titleS rom), .int .i64 (byteAt rom 71), .int .i64 (banks rom.size), .int .i64 (byteAt rom 77), .int .i64 (byteAt rom 78 * 256 + byteAt rom 79)]
def outH (rom : ByteArray) : Ending := .returned (.tuple #[if hdrB rom = true then hdrV rom else noHdr, .bool (hdrB rom)])
theorem trim_le (l : List UInt8) (c : UInt8) : (Lib.trimRightB l c).length ≤ l.length := by
  unfold Lib.trimRightB
  rw [List.length_reverse]
  have := (List.dropWhile_sublist (fun x => x == c) (l := l.reverse)).length_le
  rw [List.length_reverse] at this
  exact this
theorem trim_nil (c : UInt8) : Lib.trimRightB [] c = [] := rfl
theorem trim_last (l : List UInt8) (c : UInt8) : Lib.trimRightB (l ++ [c]) c = Lib.trimRightB l c := by
  unfold Lib.trimRightB
  rw [List.reverse_append, List.reverse_singleton, List.singleton_append, List.dropWhile_cons_of_pos (by simp)]
theorem trim_stop (l : List UInt8) (c d : UInt8) (h : ¬ d = c) : Lib.trimRightB (l ++ [d]) c = l ++ [d] := by
  unfold Lib.trimRightB
  rw [List.reverse_append, List.reverse_singleton, List.singleton_append, List.dropWhile_cons_of_neg (by simpa using h)]
  simp
theorem titleS_le (rom : ByteArray) (h : 512 ≤ rom.size) : (titleS rom).size ≤ 15 := by
  show (Lib.trimRightB (rom.extract 52 67).data.toList 0).toArray.size ≤ 15
  rw [List.size_toArray]
  refine Nat.le_trans (trim_le _ _) ?_
  rw [Array.length_toList]
  show (rom.extract 52 67).size ≤ 15
  simp; omega
theorem index_at (s : ByteArray) (i : Nat) (h : i < s.size) (w : World) : (Instr.index 9 (.string s) (.int .i64 (i : Int))).run Tryd.prog w = .ok (.int .u8 (byteAt s i)) w := by
  rw [byteAt_in h]
  have := run_index_string (P := Tryd.prog) w 9 s .i64 (i : Int) Tryd.underlying9
  rw [dif_pos ⟨by omega, by omega⟩] at this
  simpa using this
theorem any_cons {P : Program} {ops : Array Oper} {Q : Exit → Act → World → Prop} {md : Region.Mode} {fuel : Nat} {listed : Array Bool} {a : Act} {w : World} {i : Nat} {o : Oper} {rs : List Nat} (ho : ops[i]? = some o) (hg : o.guard = none)
    (h : ∀ K' : Act → World → Prop, (∀ a w, wpAny P md ops Q fuel (listed.setIfInBounds i true) a w → K' a w) → Oper.wp P o a w K' Q) (hs : AllReady P md ops Q fuel listed a w rs) : AllReady P md ops Q fuel listed a w (i :: rs) :=
  AllReady.cons ho (fun K hK => by simp only [Region.wanted, hg, if_true]; exact h K hK) hs
theorem drewN_below {B : Nat} {a b : World} (h : Below B a b) (n : Nat) : Below B a (b.drewN n) := ⟨h.os, h.tape, h.output, h.size, h.block⟩
end Go.Proofs.YtpnaohonadoofaaDoor.Heda
