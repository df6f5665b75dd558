/-
  Pure: an object's text.
-/
import Derived.Test.YtplkglgaobdpiaaGreatDoorOtxt
import Derived.Test.YtplkglgaobdpiaaGreatDoorObje
namespace Go.Proofs.YtplkglgaobdpiaaGreatDoor.Otxp
open Go.ChangeShapes Go.WideShapes Go.ChangeAt Go.RowKit Go.Deep
open Optx (decW)
open Extx (exprT)
open Signed (inB)
open Otxa Otxb Otxt Seco Secp Obje
set_option linter.unusedVariables false
set_option maxRecDepth 20000

def wPatch : ByteArray := ⟨#[112, 97, 116, 99, 104]⟩
def wSection : ByteArray := ⟨#[115, 101, 99, 116, 105, 111, 110]⟩
def wSymbol : ByteArray := ⟨#[115, 121, 109, 98, 111, 108]⟩
def wAssert : ByteArray := ⟨#[97, 115, 115, 101, 114, 116]⟩
def patT (p : Patr.X) : List UInt8 := line [wPatch, decW p.f0, decW p.f1, exprT p.f2]
def headT (s : Secr.X) : List UInt8 := line [wSection, s.f0, decW s.f1, decW s.f2, decW s.f3, hexA s.f4]
def secT (s : Secr.X) : List UInt8 := headT s ++ s.f5.flatMap patT
def outN (b : Bool) : Int := if b = true then 1 else 0
def symT (y : Osyr.X) : List UInt8 := line [wSymbol, y.f0, decW y.f1, decW y.f2, decW (outN y.f3)]
def assT (a : Assr.X) : List UInt8 := line [wAssert, exprT a.f0]
def objT (o : Objr.X) : List UInt8 := o.f0.flatMap secT ++ o.f1.flatMap symT ++ o.f2.flatMap assT
theorem expr_len {L : List Stepx.Node} : (exprT L).size ≤ 630 := by
  unfold exprT
  cases hx : Stepx.exprB L with
  | false => exact (by decide : (0 : Nat) ≤ 630)
  | true =>
    unfold Stepx.exprB at hx
    rw [Bool.and_eq_true] at hx
    have h1 := of_decide_eq_true hx.1
    have h2 := eq_of_beq hx.2
    have := Extx.join_len (Extx.words L) (fun x hx => by
      unfold Extx.words at hx
      obtain ⟨y, hy, rfl⟩ := List.mem_map.1 hx
      exact Extx.word_len (Extx.nodes_ok h2 y hy))
    have hw : (Extx.words L).length = L.length := by unfold Extx.words; rw [List.length_map]
    rw [hw] at this
    show (List.toArray _).size ≤ 630
    rw [List.size_toArray]
    omega
theorem toList_len (s : ByteArray) : s.data.toList.length = s.size := size_list s
theorem pat_len {p : Patr.X} (h0 : -4000000000 ≤ p.f0) (h0' : p.f0 ≤ 4000000000) (h1 : -4000000000 ≤ p.f1) (h1' : p.f1 ≤ 4000000000) : (patT p).length ≤ 700 := by
  have a := decW_le h0 h0'
  have b := decW_le h1 h1'
  have c := expr_len (L := p.f2)
  have e : (patT p).length = 5 + 1 + ((decW p.f0).size + 1 + ((decW p.f1).size + 1 + ((exprT p.f2).size))) + 1 := by
    unfold patT line Lib.join
    simp [List.intercalate, List.intersperse, wPatch]
    omega
  omega
/-- What bounds a right section has. -/
structure SecB (s : Secr.X) : Prop where
  nm : s.f0.size ≤ 16
  k0 : -4000000000 ≤ s.f1
  k1 : s.f1 ≤ 4000000000
  b0 : -4000000000 ≤ s.f2
  b1 : s.f2 ≤ 4000000000
  a0 : -4000000000 ≤ s.f3
  a1 : s.f3 ≤ 4000000000
  dt : s.f4.size ≤ 256
  pn : s.f5.length ≤ 256
  pb : ∀ i (h : i < s.f5.length), -4000000000 ≤ s.f5[i].f0 ∧ s.f5[i].f0 ≤ 4000000000 ∧ -4000000000 ≤ s.f5[i].f1 ∧ s.f5[i].f1 ≤ 4000000000 ∧ s.f5[i].f2.length ≤ 30
theorem head_len {s : Secr.X} (h : SecB s) : (headT s).length ≤ 700 := by
  have a := decW_le h.k0 h.k1
  have b := decW_le h.b0 h.b1
  have c := decW_le h.a0 h.a1
  have d := hexA_size s.f4
  have := h.nm
  have := h.dt
  have e : (headT s).length = 7 + 1 + (s.f0.size + 1 + ((decW s.f1).size + 1 + ((decW s.f2).size + 1 + ((decW s.f3).size + 1 + (hexA s.f4).size)))) + 1 := by
    unfold headT line Lib.join
    simp [List.intercalate, List.intersperse, wSection]
    omega
  omega
theorem flat_le {α : Type} (f : α → List UInt8) (n : Nat) : ∀ L : List α, (∀ x ∈ L, (f x).length ≤ n) → (L.flatMap f).length ≤ n * L.length
  | [], _ => Nat.zero_le _
  | x :: L, h => by
    rw [List.flatMap_cons, List.length_append, List.length_cons]
    have i := flat_le f n L (fun y hy => h y (List.mem_cons_of_mem _ hy))
    have j := h x List.mem_cons_self
    rw [Nat.mul_succ]
    omega
theorem pats_len {s : Secr.X} (h : SecB s) (k : Nat) : ((s.f5.take k).flatMap patT).length ≤ 700 * 256 := by
  have := flat_le patT 700 (s.f5.take k) (fun x hx => by
    obtain ⟨i, hi, rfl⟩ := List.getElem_of_mem (List.mem_of_mem_take hx)
    obtain ⟨a, b, c, d, _⟩ := h.pb i hi
    exact pat_len a b c d)
  have h2 : (s.f5.take k).length ≤ 256 := by rw [List.length_take]; have := h.pn; omega
  have h3 : 700 * (s.f5.take k).length ≤ 700 * 256 := Nat.mul_le_mul_left _ h2
  omega
theorem sec_len {s : Secr.X} (h : SecB s) : (secT s).length ≤ 180000 := by
  have := head_len h
  have := pats_len h s.f5.length
  rw [List.take_length] at this
  unfold secT
  rw [List.length_append]
  omega
theorem sym_len {y : Osyr.X} (hn : y.f0.size ≤ 16) (h0 : -4000000000 ≤ y.f1) (h0' : y.f1 ≤ 4000000000) (h1 : -4000000000 ≤ y.f2) (h1' : y.f2 ≤ 4000000000) : (symT y).length ≤ 100 := by
  have a := decW_le h0 h0'
  have b := decW_le h1 h1'
  have c : (decW (outN y.f3)).size ≤ 11 := decW_le (by unfold outN; split <;> omega) (by unfold outN; split <;> omega)
  have e : (symT y).length = 6 + 1 + (y.f0.size + 1 + ((decW y.f1).size + 1 + ((decW y.f2).size + 1 + (decW (outN y.f3)).size))) + 1 := by
    unfold symT line Lib.join
    simp [List.intercalate, List.intersperse, wSymbol]
    omega
  omega
theorem ass_len {a : Assr.X} : (assT a).length ≤ 700 := by
  have c := expr_len (L := a.f0)
  have e : (assT a).length = 6 + 1 + (exprT a.f0).size + 1 := by
    unfold assT line Lib.join
    simp [List.intercalate, List.intersperse, wAssert]
    omega
  omega
end Go.Proofs.YtplkglgaobdpiaaGreatDoor.Otxp
