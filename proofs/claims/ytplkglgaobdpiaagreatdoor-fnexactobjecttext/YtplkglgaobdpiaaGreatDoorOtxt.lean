/-
  Pieces of an object's text: impl.tellLine.
-/
import Derived.Test.YtplkglgaobdpiaaGreatDoorOtxb
namespace Go.Proofs.YtplkglgaobdpiaaGreatDoor.Otxt
open Go.ChangeShapes Go.WideShapes Go.ChangeAt Go.RowKit Go.Deep
open Optx (decW Pow)
open Lib (byteCells strCells)
open Bld (Holds)
open Otxa
set_option linter.unusedVariables false
set_option maxRecDepth 20000

/-- A line of words. -/
def line (ws : List ByteArray) : List UInt8 := Lib.join (ws.map (·.data.toList)) [32] ++ [10]
set_option maxHeartbeats 1000000 in
theorem tell_any (B b g c : Nat) (l : List UInt8) (ws : List ByteArray) (w : World) (h : Holds B b (byteCells l) w) (hBw : B ≤ w.heap.size) (hcells : ∀ (j : Nat) x, ws[j]? = some x → w.cell? ⟨g, j, none⟩ = some (.string x)) (hg : g < w.heap.size) (hcap : ws.length ≤ c) (hw : ws.length ≤ 100) (hlen : l.length + (line ws).length ≤ 100000000) :
    Calls Tryz.prog 32 #[.pointer (some ⟨b, 0, none⟩), .slice (some ⟨g, 0, none⟩) ws.length c] w fun e w' => e = .returned (.tuple #[]) ∧ Holds B b (byteCells (l ++ line ws)) w' ∧ Below B w w' := by
  have hjl : (Lib.join (ws.map (·.data.toList)) [32]).length + 1 = (line ws).length := by unfold line; rw [List.length_append]; rfl
  have cj := Tryz.strings_Join g 0 c ws ⟨#[32]⟩ w (fun j x hj => by rw [Nat.zero_add]; exact hcells j x hj) hg (by omega) hcap (by show (Lib.join (ws.map (·.data.toList)) [32]).length ≤ _; omega)
  obtain ⟨J, hJ⟩ : ∃ J, J = (⟨(Lib.join (ws.map (·.data.toList)) [32]).toArray⟩ : ByteArray) := ⟨_, rfl⟩
  have cq : Calls Tryz.prog 79 #[.slice (some ⟨g, 0, none⟩) ws.length c, .string ⟨#[32]⟩] w fun e w' => e = .returned (.string J) ∧ Below w.heap.size w w' := by rw [hJ]; exact cj
  have HC : Hid ((byteCells l ++ strCells J) ++ [.int .u8 10] = byteCells (l ++ line ws)) := (show _ = _ from by
    rw [hJ]; unfold byteCells strCells line
    simp)
  have hjs : J.size + 1 = (line ws).length := by rw [hJ, ← hjl]; show (List.toArray _).size + 1 = _; rw [List.size_toArray]
  have hbl : (byteCells l).length = l.length := Lib.byteCells_length l
  have HH : Hid (Holds B b (byteCells l) w) := h
  have HB : Hid (B ≤ w.heap.size) := hBw
  clear cj hJ hcells h hjl hBw
  go_enter Tryz.func32, Tryz.ntmps32
  go_wp2_with fail
  refine cq.mono ?_
  rintro e w1 ⟨rfl, b1⟩
  have H1 : Hid (Holds B b (byteCells l) w1) := Bld.holds_below HH.out b1
  have V1 : Hid (Below B w w1) := b1.mono HB.out
  have HB1 : Hid (B ≤ w1.heap.size) := Nat.le_trans HB.out b1.size
  clear b1 cq HH
  go_wp2_with fail
  refine (Bld.str_any B b _ J w1 H1.out (by rw [hbl]; omega) HB1.out).mono ?_
  rintro e w2 ⟨rfl, h2, b2⟩
  have H2 : Hid (Holds B b (byteCells l ++ strCells J) w2) := h2
  have V2 : Hid (Below B w w2) := V1.out.trans b2
  have HB2 : Hid (B ≤ w2.heap.size) := Nat.le_trans HB1.out b2.size
  clear h2 b2 H1 V1
  go_wp2_with fail
  refine (Bld.byte_any B b _ 10 w2 H2.out (by rw [List.length_append, hbl, Lib.strCells_length]; omega) HB2.out).mono ?_
  rintro e w3 ⟨rfl, h3, b3⟩
  have H3 : Hid (Holds B b (byteCells (l ++ line ws)) w3) := (show Holds _ _ _ _ from by rw [← HC.out]; exact h3)
  have V3 : Hid (Below B w w3) := V2.out.trans b3
  clear h3 b3 H2 V2
  go_wp2
  first | go_end0 | refine bodyPost_ret (results_none rfl _ _ _) rfl ?_
  exact ⟨rfl, H3.out, V3.out⟩
end Go.Proofs.YtplkglgaobdpiaaGreatDoor.Otxt
