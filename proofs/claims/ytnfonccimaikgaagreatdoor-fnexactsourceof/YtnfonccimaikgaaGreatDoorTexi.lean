/-
  Contracts of ours for impl.filledHole and both InsText: the text of an instruction.
-/
import Derived.Test.YtnfonccimaikgaaGreatDoorInsX
import Derived.Test.YtnfonccimaikgaaGreatDoorTmplI
import Derived.Test.YtnfonccimaikgaaGreatDoorDeci
import Derived.Test.YtnfonccimaikgaaGreatDoorHex
import Derived.Lib.AppendIntMem
import Derived.Deep.DeepFit
namespace Go.Proofs.YtnfonccimaikgaaGreatDoor.Texi
open Go.ChangeShapes Go.WideShapes Go.ChangeAt Go.RowKit
open Signed (inB l1In_any isByte_any sgn)
open HoleX (n8 n16 e8 holeT holeP)
open HolI LenX InsX
set_option linter.unusedVariables false
set_option maxRecDepth 20000

def Pow (w : World) : Prop := Lib.TabIs Tryz.prog w "internal/strconv.uint64pow10" .u64 Lib.pow10Tab
theorem gPow : Tryz.prog.globalNamed "internal/strconv.uint64pow10" = some 10 := by kernel_rfl
theorem Pow.below {w w' : World} (h : Pow w) (b : Below w.heap.size w w') : Pow w' := by
  unfold Pow Lib.TabIs World.var? at *
  rw [gPow] at h ⊢
  simp only [Option.bind_some] at h ⊢
  have hlt : 10 < w.heap.size := by
    rcases Nat.lt_or_ge 10 w.heap.size with h' | h'
    · exact h'
    · rw [Array.getElem?_eq_none h'] at h; cases h
  rw [b.block _ hlt]
  exact h
def newV (h : ByteArray) (imm : Int) : ByteArray := if h = n16 then Hex.hexS imm 4 else if h = e8 then Deci.decE (sgn imm) else Hex.hexS imm 2
theorem sgn_bd (n : Int) : -128 ≤ sgn n ∧ sgn n ≤ 127 := by
  unfold sgn
  split
  · omega
  split
  · omega
  · omega
theorem fill_n16 (imm : Int) (w : World) (hT : PartN.Tables w) :
    Calls Tryz.prog 74 #[.string ⟨#[110, 49, 54]⟩, .int .i64 imm] w fun e w' => e = .returned (.string (Hex.hexS imm 4)) ∧ Below w.heap.size w w' := by
  have c := Hex.implHex_any imm 4 w hT.hex
  clear hT
  generalize Hex.hexS imm 4 = V at c ⊢
  go_enter Tryz.func74, Tryz.ntmps74
  go_wp2_with fail
  refine c.mono ?_
  rintro e w1 ⟨rfl, b1⟩
  have B1 : Hid (Below w.heap.size w w1) := b1
  clear b1
  go_wp2
  go_ret
  exact ⟨rfl, B1.out⟩
theorem fill_n8 (imm : Int) (w : World) (hT : PartN.Tables w) :
    Calls Tryz.prog 74 #[.string ⟨#[110, 56]⟩, .int .i64 imm] w fun e w' => e = .returned (.string (Hex.hexS imm 2)) ∧ Below w.heap.size w w' := by
  have c := Hex.implHex_any imm 2 w hT.hex
  clear hT
  generalize Hex.hexS imm 2 = V at c ⊢
  go_enter Tryz.func74, Tryz.ntmps74
  go_wp2_with fail
  refine c.mono ?_
  rintro e w1 ⟨rfl, b1⟩
  have B1 : Hid (Below w.heap.size w w1) := b1
  clear b1
  go_wp2
  go_ret
  exact ⟨rfl, B1.out⟩
theorem fill_e8 (imm : Int) (w : World) (hP : Pow w) :
    Calls Tryz.prog 74 #[.string ⟨#[101, 56]⟩, .int .i64 imm] w fun e w' => e = .returned (.string (Deci.decE (sgn imm))) ∧ Below w.heap.size w w' := by
  have cs := fun w => Signed.implSigned_any imm w
  have bd := sgn_bd imm
  generalize sgn imm = m at cs bd ⊢
  have c : Calls Tryz.prog 43 #[.int .i64 m, .int .i64 10] w fun e w' => e = .returned (.string (Deci.decE m)) ∧ Below w.heap.size w w' :=
    (Tryz.strconv_FormatInt_10 m (by omega) (by omega) w hP).mono (by
      rintro e w' ⟨rfl, k, os, rfl⟩
      exact ⟨by rw [Deci.itoa_at bd.1 bd.2], Lib.below_grow _ _ (Nat.le_refl _) k os⟩)
  clear hP
  generalize Deci.decE m = V at c ⊢
  go_enter Tryz.func74, Tryz.ntmps74
  go_wp2_with first | (go_at_call 76; refine (cs _).mono ?_; rintro e w' ⟨rfl, hw⟩; have hw := hw.symm; subst hw) | fail
  refine c.mono ?_
  rintro e w1 ⟨rfl, b1⟩
  have B1 : Hid (Below w.heap.size w w1) := b1
  clear b1 c
  go_wp2
  go_ret
  exact ⟨rfl, B1.out⟩
theorem hole_all : ∀ (c : Fin 256) (b : Bool), ¬ (Tmpl.tmplS (c.val : Int) b).size = 0 → holeI (Tmpl.tmplS (c.val : Int) b) = holeT (Tmpl.tmplS (c.val : Int) b) ∧
    (¬ (holeT (Tmpl.tmplS (c.val : Int) b)).size = 0 → Lib.countB (Tmpl.tmplS (c.val : Int) b) (holeT (Tmpl.tmplS (c.val : Int) b)) = 1 ∧ Lib.replaceNum (Tmpl.tmplS (c.val : Int) b).data.toList (holeT (Tmpl.tmplS (c.val : Int) b)).data.toList 1 = 1 ∧
      Lib.index (Tmpl.tmplS (c.val : Int) b).data.toList (holeT (Tmpl.tmplS (c.val : Int) b)).data.toList = holeP (Tmpl.tmplS (c.val : Int) b) ∧ 0 ≤ holeP (Tmpl.tmplS (c.val : Int) b) ∧ (holeP (Tmpl.tmplS (c.val : Int) b)).toNat + (holeT (Tmpl.tmplS (c.val : Int) b)).size ≤ (Tmpl.tmplS (c.val : Int) b).size) := by decide +kernel
def put (T h new : ByteArray) (p : Int) : ByteArray := T.extract 0 p.toNat ++ new ++ T.extract (p.toNat + h.size) T.size
theorem put_eq (T h new : ByteArray) (p : Int) (h0 : 0 ≤ p) (h1 : p.toNat + h.size ≤ T.size) (hi : Lib.index T.data.toList h.data.toList = p) : (⟨(Lib.replaceK h.data.toList new.data.toList 1 T.data.toList).toArray⟩ : ByteArray) = put T h new p := by
  rw [Lib.replaceK_hit _ _ 0 _ p.toNat (by rw [hi]; omega)]
  apply ByteArray.ext
  apply Array.ext'
  unfold put
  simp only [ByteArray.data_append, ByteArray.data_extract, Array.toList_append, Array.toList_extract, Lib.replaceK, List.extract_eq_take_drop, List.drop_zero, Nat.sub_zero]
  have e1 : h.data.toList.length = h.size := Array.length_toList
  have e2 : T.data.toList.length = T.size := Array.length_toList
  rw [e1, List.take_of_length_le (l := List.drop (p.toNat + h.size) T.data.toList) (by rw [List.length_drop]; omega)]
def textV (code : Int) (cb : Bool) (imm : Int) : ByteArray := if okV code cb imm = false then ⟨#[]⟩ else if (hole code cb).size = 0 then Tmpl.tmplS code cb else put (Tmpl.tmplS code cb) (hole code cb) (newV (hole code cb) imm) (holeP (Tmpl.tmplS code cb))
theorem at_hole {code : Int} {cb : Bool} {imm : Int} (h : okV code cb imm = true) : 0 ≤ code ∧ code ≤ 255 ∧ ¬ (Tmpl.tmplS code cb).size = 0 ∧ holeI (Tmpl.tmplS code cb) = hole code cb ∧ (Tmpl.tmplS code cb).size ≤ 40 ∧ TmplI.tmpl code cb = Tmpl.tmplS code cb ∧
    (¬ (hole code cb).size = 0 → Lib.countB (Tmpl.tmplS code cb) (hole code cb) = 1 ∧ Lib.replaceNum (Tmpl.tmplS code cb).data.toList (hole code cb).data.toList 1 = 1 ∧ Lib.index (Tmpl.tmplS code cb).data.toList (hole code cb).data.toList = holeP (Tmpl.tmplS code cb) ∧ 0 ≤ holeP (Tmpl.tmplS code cb) ∧ (holeP (Tmpl.tmplS code cb)).toNat + (hole code cb).size ≤ (Tmpl.tmplS code cb).size) := by
  have hn : none? code cb = false := by
    cases hn : none? code cb
    · rfl
    · unfold okV at h; rw [hn, if_pos rfl] at h; exact absurd h (by decide)
  obtain ⟨hb, _⟩ := some_impl hn
  obtain ⟨h0, h1⟩ := of_decide_eq_true hb
  have hz : ¬ (Tmpl.tmplS code cb).size = 0 := by
    unfold none? at hn
    rw [hb, beqN] at hn
    simpa using hn
  have ha := hole_all ⟨code.toNat, by omega⟩ cb
  rw [show ((⟨code.toNat, by omega⟩ : Fin 256).val : Int) = code by show ((code.toNat : Nat) : Int) = code; omega] at ha
  obtain ⟨a1, a2⟩ := ha hz
  exact ⟨h0, h1, hz, a1, Leng.tmpl_le code cb h0 h1, by unfold TmplI.tmpl; rw [if_pos hb], a2⟩
theorem dec_ne : ∀ k : Fin 256, Deci.decE ((k.val : Int) - 128) ≠ ⟨#[101, 56]⟩ ∧ (Deci.decE ((k.val : Int) - 128)).size ≤ 5 := by decide +kernel
theorem dec_ne_at {m : Int} (h0 : -128 ≤ m) (h1 : m ≤ 127) : Deci.decE m ≠ ⟨#[101, 56]⟩ ∧ (Deci.decE m).size ≤ 5 := by
  have := dec_ne ⟨(m + 128).toNat, by omega⟩
  rwa [show (((⟨(m + 128).toNat, by omega⟩ : Fin 256).val : Int) - 128) = m by show (((m + 128).toNat : Nat) : Int) - 128 = m; omega] at this
theorem digs_len : ∀ (k : Nat) (n : Int), (Hex.digs n k).length = k
  | 0, _ => rfl
  | k + 1, n => by
    simp only [Hex.digs, List.length_append, List.length_cons, List.length_nil]
    rw [digs_len k]
theorem hex_size (n d : Int) (hd : 0 ≤ d) : (Hex.hexS n d).size = 0 ∨ (Hex.hexS n d).size = d.toNat + 1 := by
  unfold Hex.hexS
  split
  · right; rw [strOfNums_size, List.length_cons, digs_len]
  · left; rfl
theorem new_8 (imm : Int) : (⟨#[110, 56]⟩ : ByteArray) ≠ Hex.hexS imm 2 ∧ (Hex.hexS imm 2).size ≤ 5 := by
  have := hex_size imm 2 (by omega)
  refine ⟨fun h => ?_, by omega⟩
  rw [← h] at this
  revert this
  decide
theorem new_16 (imm : Int) : (⟨#[110, 49, 54]⟩ : ByteArray) ≠ Hex.hexS imm 4 ∧ (Hex.hexS imm 4).size ≤ 5 := by
  have := hex_size imm 4 (by omega)
  refine ⟨fun h => ?_, by omega⟩
  rw [← h] at this
  revert this
  decide
end Go.Proofs.YtnfonccimaikgaaGreatDoor.Texi
