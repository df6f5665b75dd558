/-
  A contract of ours for impl.TemplateOf: the shape with its great letters' parts in their places.
-/
import Derived.Test.YtnfonccimaikgaaGreatDoorPartN
import Derived.Test.YtnfonccimaikgaaGreatDoorBld
import Derived.Test.YtnfonccimaikgaaGreatDoorTmpl
namespace Go.Proofs.YtnfonccimaikgaaGreatDoor.TmplI
open Go.ChangeShapes Go.WideShapes Go.ChangeAt Go.RowKit
open Signed (inB)
open PartN Bld
set_option linter.unusedVariables false
set_option maxRecDepth 20000

def one (x y z p : Int) (b : UInt8) : List UInt8 := if 65 ≤ b.toNat ∧ b.toNat ≤ 90 then (partS (b.toNat : Int) x y z p).data.toList else [b]
def outL (x y z p : Int) (l : List UInt8) : List UInt8 := l.flatMap (one x y z p)
theorem out_snoc (x y z p : Int) (l : List UInt8) (b : UInt8) : outL x y z p (l ++ [b]) = outL x y z p l ++ one x y z p b := by simp [outL]
theorem at8_le {l : List ByteArray} (h : ∀ s ∈ l, s.size ≤ 5) (i : Int) : (Tabs.at8 l i).size ≤ 5 := by
  unfold Tabs.at8
  rw [List.getD_eq_getElem?_getD]
  cases hx : l[i.toNat]? with
  | none => decide
  | some s => exact h s (List.mem_of_getElem? hx)
theorem part_le (l x y z p : Int) : (partS l x y z p).size ≤ 5 := by
  unfold partS
  repeat' split
  all_goals exact at8_le (by decide) _
theorem one_le (x y z p : Int) (b : UInt8) : (one x y z p b).length ≤ 5 := by
  unfold one
  split
  · have := part_le (b.toNat : Int) x y z p
    rw [Array.length_toList]
    exact this
  · simp
theorem out_le (x y z p : Int) (l : List UInt8) : (outL x y z p l).length ≤ 5 * l.length := by
  induction l with
  | nil => exact Nat.le_refl _
  | cons b r ih =>
    have := one_le x y z p b
    simp only [outL, List.flatMap_cons, List.length_append, List.length_cons] at ih ⊢
    omega
theorem isGreat_any (n : Int) (w : World) :
    Calls Tryz.prog 81 #[.int .u8 n] w fun e w' => e = .returned (.bool (decide (65 ≤ n ∧ n ≤ 90))) ∧ w' = w := by
  go_enter Tryz.func81, Tryz.ntmps81
  go_wp2
  all_goals
    go_ret
    exact ⟨Signed.ret_bool (by first | (simp; omega) | simp_all), rfl⟩
theorem holds_below {B b : Nat} {bs : List Value} {w w' : World} (h : Holds B b bs w) (hb : Below w.heap.size w w') : Holds B b bs w' := by
  have go : ∀ p, Lib.BuilderAt 50 5 B b p bs w → Lib.BuilderAt 50 5 B b p bs w' := fun p hp => by
    have hl := hp.lt
    obtain ⟨hB, v, hbk, hown, hne⟩ := hp
    exact ⟨hB, v, (hb.block b hl).trans hbk, hown.kept (row := none) ⟨hb.os, hb.tape, hb.output, hb.size, fun k hk _ => hb.block k hk⟩ (by cases hv : Value.ownBlock v <;> simp), hne⟩
  exact h.imp (go _) (go _)
theorem undrew {w w2 : World} (h : Below w.drew.heap.size w.drew w2) : Below w.heap.size w w2 := ⟨h.os, h.tape, h.output, h.size, h.block⟩
theorem holds_new (w : World) : Holds w.heap.size w.heap.size [] (w.alloc (.cells #[.pointer none, .slice none 0 0] 50)) :=
  .inl ⟨Nat.le_refl _, _, (MapKept.heap_alloc w _).1, World.ownsRow_nil _ _ _ _, by simp [Value.ownBlock]⟩
theorem holds_lt {B b : Nat} {bs : List Value} {w : World} (h : Holds B b bs w) : b < w.heap.size := h.elim (·.lt) (·.lt)
set_option maxHeartbeats 2000000 in
theorem loop_any (T : ByteArray) (code : Int) (cb : Bool) (w : World) (hT : PartN.Tables w) (he : T.toList.isEmpty = false) (hz : T.size ≤ 40) (hL : ∀ b ∈ T.data.toList, 65 ≤ b.toNat ∧ b.toNat ≤ 90 → (b.toNat : Int) ∈ letters)
    (c : ∀ w, Calls Tryz.prog 70 #[.int .i64 code, .bool cb] w fun e w' => e = .returned (.string T) ∧ Below w.heap.size w w') (h0 : 0 ≤ code) (h1 : code ≤ 255) :
    Calls Tryz.prog 59 #[.int .i64 code, .bool cb] w fun e w' => e = .returned (.string ⟨(outL (code / 64) (code / 8 % 8) (code % 8) (code / 8 % 8 / 2) T.data.toList).toArray⟩) ∧ Below w.heap.size w w' := by
  have HT : Hid (PartN.Tables w) := hT
  have HL : Hid (∀ b ∈ T.data.toList, 65 ≤ b.toNat ∧ b.toNat ≤ 90 → (b.toNat : Int) ∈ letters) := hL
  clear hT hL
  have cp := fun w => Shape.partsOf_any code w h0 h1
  have HR : Hid ((0 ≤ code / 64 ∧ code / 64 ≤ 3) ∧ (0 ≤ code / 8 % 8 ∧ code / 8 % 8 ≤ 7) ∧ (0 ≤ code % 8 ∧ code % 8 ≤ 7) ∧ (0 ≤ code / 8 % 8 / 2 ∧ code / 8 % 8 / 2 ≤ 3)) := by
    show _ ∧ _ ∧ _ ∧ _
    omega
  generalize code / 64 = x at cp HR ⊢
  generalize code / 8 % 8 % 2 = q at cp
  generalize code / 8 % 8 / 2 = p at cp HR ⊢
  generalize code / 8 % 8 = y at cp HR ⊢
  generalize code % 8 = z at cp HR ⊢
  clear h0 h1
  go_enter Tryz.func59, Tryz.ntmps59
  go_wp2_with fail
  refine (c _).mono ?_
  rintro e w1 ⟨rfl, b1⟩
  have B1 : Hid (Below w.heap.size w w1) := b1
  clear b1 c
  go_wp2_with fail
  refine (cp _).mono ?_
  rintro e w2 ⟨rfl, b2⟩
  have B2 : Hid (Below w.heap.size w w2) := B1.out.trans (b2.mono B1.out.size)
  clear b2 B1 cp
  go_wp2_with fail
  have HH : Hid (Holds (w2.heap.size + 1) (w2.heap.size + 1) [] ((w2.alloc (.cells #[.int .i64 x, .int .i64 y, .int .i64 z, .int .i64 p, .int .i64 q] 90)).alloc (.cells #[.pointer none, .slice none 0 0] 50))) := by
    have := holds_new (w2.alloc (.cells #[.int .i64 x, .int .i64 y, .int .i64 z, .int .i64 p, .int .i64 q] 90))
    rwa [World.size_alloc] at this
  have BW : Hid (Below w.heap.size w ((w2.alloc (.cells #[.int .i64 x, .int .i64 y, .int .i64 z, .int .i64 p, .int .i64 q] 90)).alloc (.cells #[.pointer none, .slice none 0 0] 50))) := (B2.out.alloc B2.out.size _).alloc (B2.out.alloc B2.out.size _).size _
  have CB : Hid (∀ wr, Below (w2.heap.size + 1) ((w2.alloc (.cells #[.int .i64 x, .int .i64 y, .int .i64 z, .int .i64 p, .int .i64 q] 90)).alloc (.cells #[.pointer none, .slice none 0 0] 50)) wr → (wr.cell? ⟨w2.heap.size, 0, none⟩ = some (.int .i64 x) ∧ wr.cell? ⟨w2.heap.size, 1, none⟩ = some (.int .i64 y) ∧ wr.cell? ⟨w2.heap.size, 2, none⟩ = some (.int .i64 z) ∧ wr.cell? ⟨w2.heap.size, 3, none⟩ = some (.int .i64 p) ∧ wr.cell? ⟨w2.heap.size, 4, none⟩ = some (.int .i64 q))) := fun wr hb => by
    have e : ∀ k v, (#[.int .i64 x, .int .i64 y, .int .i64 z, .int .i64 p, .int .i64 q] : Array Value)[k]? = some v → wr.cell? ⟨w2.heap.size, k, none⟩ = some v := fun k v hv => by
      rw [hb.cell (p := ⟨w2.heap.size, k, none⟩) (by simp), World.cell?_of_block (a := ⟨w2.heap.size, k, none⟩) (w := w2.alloc (.cells #[.int .i64 x, .int .i64 y, .int .i64 z, .int .i64 p, .int .i64 q] 90)) (Below.heap_alloc _ _ _ (by simp)), World.cell?_alloc_new]
      exact hv
    exact ⟨e 0 _ rfl, e 1 _ rfl, e 2 _ rfl, e 3 _ rfl, e 4 _ rfl⟩
  have HO : Hid (w.heap.size ≤ w2.heap.size + 1 ∧ w2.heap.size + 1 ≤ ((w2.alloc (.cells #[.int .i64 x, .int .i64 y, .int .i64 z, .int .i64 p, .int .i64 q] 90)).alloc (.cells #[.pointer none, .slice none 0 0] 50)).heap.size) := ⟨by have := B2.out.size; omega, by simp⟩
  generalize (w2.alloc (.cells #[.int .i64 x, .int .i64 y, .int .i64 z, .int .i64 p, .int .i64 q] 90)).alloc (.cells #[.pointer none, .slice none 0 0] 50) = W at HH BW CB HO ⊢
  generalize w2.heap.size = ib at HH CB HO ⊢
  clear B2
  have hsz : (T.data.toList).length = T.size := Array.length_toList
  go_loopw [18] (fun i wr => ∃ k : Nat, k ≤ T.size ∧ i = .int .i64 k ∧ Hid (Holds (ib + 1) (ib + 1) (Lib.byteCells (outL x y z p (T.data.toList.take k))) wr) ∧ Hid (Below (ib + 1) W wr)) (fun i _ => T.size - (intOf i).toNat)
  case atStart => exact ⟨0, Nat.zero_le _, rfl, HH.out, Below.refl _ _⟩
  case round =>
    obtain ⟨k, hk, rfl, HR1, HB⟩ := hrel
    have HW : Hid (Below w.heap.size w wr) := BW.out.trans (HB.out.mono HO.out.1)
    by_cases hlt : k < T.size
    · have hlt' : (k : Int) < (T.size : Int) := by omega
      obtain ⟨b, hb⟩ : ∃ b, T.data.toList[k]? = some b := ⟨T.data.toList[k]'(by omega), List.getElem?_eq_getElem (by omega)⟩
      have xi : ∀ w, (Instr.index 9 (.string T) (.int .i64 (k : Int))).run Tryz.prog w = .ok (.int .u8 (b.toNat : Int)) w := fun w => by
        rw [run_index_string w 9 T .i64 (k : Int) Tryz.underlying9, dif_pos ⟨by omega, hlt'⟩]
        have : T[(k : Int).toNat]'(by omega) = b := by
          rw [List.getElem?_eq_getElem (by omega)] at hb
          have := Option.some.inj hb
          rw [← this]
          simp only [Int.toNat_natCast]
          show T.data[k] = _
          rw [Array.getElem_toList]
        rw [this]
      have HS : Hid (outL x y z p (T.data.toList.take (k + 1)) = outL x y z p (T.data.toList.take k) ++ one x y z p b) := by
        show _ = _
        rw [List.take_add_one, hb]
        exact out_snoc x y z p _ b
      have HN : Hid ((outL x y z p (T.data.toList.take k)).length ≤ 200) := by
        show _ ≤ _
        have := out_le x y z p (T.data.toList.take k)
        rw [List.length_take] at this
        omega
      have HM : Hid (k < T.size ∧ b ∈ T.data.toList) := ⟨hlt, List.mem_of_getElem? hb⟩
      obtain ⟨a0, a1, a2, a3, a4⟩ := CB.out wr HB.out
      have hg := fun w => isGreat_any (b.toNat : Int) w
      clear hb hk hlt
      by_cases hgr : 65 ≤ b.toNat ∧ b.toNat ≤ 90
      · rw [show decide ((65 : Int) ≤ (b.toNat : Int) ∧ (b.toNat : Int) ≤ 90) = true from decide_eq_true (by omega)] at hg
        have HE : Hid (one x y z p b = (partS (b.toNat : Int) x y z p).data.toList) := by show _ = _; unfold one; rw [if_pos hgr]
        have HP := part_le (b.toNat : Int) x y z p
        have ca := fun w hT => part_any (b.toNat : Int) x y z p q w hT HR.out.1.1 HR.out.1.2 HR.out.2.1.1 HR.out.2.1.2 HR.out.2.2.1.1 HR.out.2.2.1.2 HR.out.2.2.2.1 HR.out.2.2.2.2 (HL.out b HM.out.2 hgr)
        generalize partS (b.toNat : Int) x y z p = P at HE HP ca
        clear hgr
        go_wp2_with (go_at_call 81; refine (hg _).mono ?_; rintro e w' ⟨rfl, hw⟩; subst hw)
        go_region_with (first
          | (go_at_call 82; refine (ca _ (HT.out.below HW.out.drew)).mono ?_; rintro e w4 ⟨rfl, b4⟩; have HH4 : Hid (Holds (ib + 1) (ib + 1) (Lib.byteCells (outL x y z p (T.data.toList.take k))) w4) := holds_below HR1.out (undrew b4); have HB4 : Hid (Below (ib + 1) W w4) := HB.out.trans ((undrew b4).mono (Nat.le_of_lt (holds_lt HR1.out))); clear b4)
          | (go_at_call 30; refine (str_any _ _ _ P _ HH4.out (by rw [Lib.byteCells_length]; have := HN.out; omega) (Nat.le_of_lt (holds_lt HH4.out))).mono ?_; rintro e w5 ⟨rfl, h5, b5⟩; have HH5 : Hid (Holds (ib + 1) (ib + 1) (Lib.byteCells (outL x y z p (T.data.toList.take (k + 1)))) w5) := (by show Holds _ _ _ _; rw [HS.out, Lib.byteCells_append, HE.out]; exact h5); have HB5 : Hid (Below (ib + 1) W w5) := HB4.out.trans b5; clear h5 b5)
          | fail)
        all_goals
          go_wp2_with fail
          go_roundw
          case rel => exact ⟨k + 1, HM.out.1, by go_num, HH5.out, HB5.out⟩
          case measure => have := HM.out.1; simp [intOf]; omega
      · rw [show decide ((65 : Int) ≤ (b.toNat : Int) ∧ (b.toNat : Int) ≤ 90) = false from decide_eq_false (by omega)] at hg
        have HE : Hid (one x y z p b = [b]) := by show _ = _; unfold one; rw [if_neg hgr]
        clear hgr
        go_wp2_with first
          | (go_at_call 81; refine (hg _).mono ?_; rintro e w' ⟨rfl, hw⟩; subst hw)
          | (go_at_call 83; refine (byte_any _ _ _ _ _ HR1.out (by rw [Lib.byteCells_length]; have := HN.out; omega) (Nat.le_of_lt (holds_lt HR1.out))).mono ?_; rintro e w5 ⟨rfl, h5, b5⟩; have HH5 : Hid (Holds (ib + 1) (ib + 1) (Lib.byteCells (outL x y z p (T.data.toList.take (k + 1)))) w5) := (by show Holds _ _ _ _; rw [HS.out, Lib.byteCells_append, HE.out]; exact h5); have HB5 : Hid (Below (ib + 1) W w5) := HB.out.trans b5; clear h5 b5)
        go_roundw
        case rel => exact ⟨k + 1, HM.out.1, by go_num, HH5.out, HB5.out⟩
        case measure => have := HM.out.1; simp [intOf]; omega
    · have hk2 : k = T.size := by omega
      subst hk2
      have HE : Hid (T.data.toList.take T.size = T.data.toList) := by show _ = _; rw [← hsz]; exact List.take_length
      go_wp2_with (go_at_call 31; refine (Tryz.Builder_String_any _ _ _ _ HR1.out (Nat.le_of_lt (holds_lt HR1.out))).mono ?_; rintro e w5 ⟨rfl, b5⟩; have B5 : Hid (Below w.heap.size w w5) := HW.out.trans (b5.mono HO.out.1); clear b5)
      go_ret
      exact ⟨by rw [HE.out]; rfl, B5.out⟩
theorem empty_any (code : Int) (cb : Bool) (w : World) (T : ByteArray) (he : T.toList.isEmpty = true)
    (c : ∀ w, Calls Tryz.prog 70 #[.int .i64 code, .bool cb] w fun e w' => e = .returned (.string T) ∧ Below w.heap.size w w') :
    Calls Tryz.prog 59 #[.int .i64 code, .bool cb] w fun e w' => e = .returned (.string ⟨#[]⟩) ∧ Below w.heap.size w w' := by
  go_enter Tryz.func59, Tryz.ntmps59
  go_wp2_with fail
  refine (c _).mono ?_
  rintro e w1 ⟨rfl, b1⟩
  have B1 : Hid (Below w.heap.size w w1) := b1
  clear b1 c
  go_wp2
  go_ret
  exact ⟨rfl, B1.out⟩
theorem all_same : ∀ (c : Fin 256) (b : Bool), ((Shape.shapeR (c.val : Int) b).size = 0 → (Tmpl.tmplS (c.val : Int) b).size = 0) ∧ (Shape.shapeR (c.val : Int) b).size ≤ 40 ∧ (∀ x ∈ (Shape.shapeR (c.val : Int) b).data.toList, 65 ≤ x.toNat ∧ x.toNat ≤ 90 → (x.toNat : Int) ∈ letters) ∧
    (¬ (Shape.shapeR (c.val : Int) b).size = 0 → (⟨(outL ((c.val : Int) / 64) ((c.val : Int) / 8 % 8) ((c.val : Int) % 8) ((c.val : Int) / 8 % 8 / 2) (Shape.shapeR (c.val : Int) b).data.toList).toArray⟩ : ByteArray) = Tmpl.tmplS (c.val : Int) b) := by decide +kernel
/-- What both sides tell of a code. -/
def tmpl (code : Int) (cb : Bool) : ByteArray := if inB code 0 255 = true then Tmpl.tmplS code cb else ⟨#[]⟩
theorem implTemplate_any (code : Int) (cb : Bool) (w : World) (hT : PartN.Tables w) :
    Calls Tryz.prog 59 #[.int .i64 code, .bool cb] w fun e w' => e = .returned (.string (tmpl code cb)) ∧ Below w.heap.size w w' := by
  have c := fun w => Shape.shapeOf_any code cb w
  cases hb : inB code 0 255
  · have e1 : tmpl code cb = ⟨#[]⟩ := by unfold tmpl; rw [hb]; rfl
    have e2 : Shape.shape code cb = ⟨#[]⟩ := by unfold Shape.shape; rw [hb]; rfl
    rw [e1]
    rw [e2] at c
    exact empty_any code cb w ⟨#[]⟩ (by rw [ByteArray.toList_eq]; rfl) c
  · obtain ⟨h0, h1⟩ := of_decide_eq_true hb
    have e1 : tmpl code cb = Tmpl.tmplS code cb := by unfold tmpl; rw [if_pos hb]
    have e2 : Shape.shape code cb = Shape.shapeR code cb := by unfold Shape.shape; rw [if_pos hb]
    obtain ⟨a1, a2, a3, a4⟩ := all_same ⟨code.toNat, by omega⟩ cb
    rw [show ((⟨code.toNat, by omega⟩ : Fin 256).val : Int) = code by show ((code.toNat : Nat) : Int) = code; omega] at a1 a2 a3 a4
    rw [e1]
    rw [e2] at c
    by_cases hz : (Shape.shapeR code cb).size = 0
    · have : Tmpl.tmplS code cb = ⟨#[]⟩ := by
        have := a1 hz
        apply ByteArray.ext
        exact Array.eq_empty_of_size_eq_zero this
      rw [this]
      exact empty_any code cb w _ (by rw [ByteArray.toList_eq, List.isEmpty_iff_length_eq_zero, Array.length_toList]; exact hz) c
    · rw [← a4 hz]
      exact loop_any _ code cb w hT (by
        rw [ByteArray.toList_eq]
        cases e : (Shape.shapeR code cb).data.toList with
        | nil => exact absurd (by have := congrArg List.length e; rw [Array.length_toList] at this; exact this) hz
        | cons _ _ => rfl) a2 a3 c h0 h1
end Go.Proofs.YtnfonccimaikgaaGreatDoor.TmplI
