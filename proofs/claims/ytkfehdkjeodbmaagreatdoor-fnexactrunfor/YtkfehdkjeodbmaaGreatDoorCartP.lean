/-
  Contracts of ours for a text with another byte: impl.withByte and spec.l5Put.
-/
import Derived.Test.YtkfehdkjeodbmaaGreatDoorCartN
import Derived.Test.YtkfehdkjeodbmaaGreatDoorCartR
namespace Go.Proofs.YtkfehdkjeodbmaaGreatDoor.CartP
set_option maxRecDepth 20000
open Go.ChangeShapes Go.WideShapes Go.ChangeAt Go.RowKit Go.Deep
set_option linter.unusedVariables false
open Signed (inB ret_int ret_bool isByte_any l1In_any)
open Carts CartK CartL CartM CartN

/-- A text with another byte. -/
def putB (s : ByteArray) (i v : Int) : ByteArray := ⟨(s.data.toList.set i.toNat (UInt8.ofNat v.toNat)).toArray⟩
theorem putB_size (s : ByteArray) (i v : Int) : (putB s i v).size = s.size := by show ((s.data.toList.set i.toNat (UInt8.ofNat v.toNat)).toArray).size = s.data.size; simp only [List.size_toArray, List.length_set, Array.length_toList]
theorem set_new (u : World) (o : Obj) (i : Nat) (v : Value) : ∃ o', (u.alloc o).setCell ⟨u.heap.size, i, none⟩ v = u.alloc o' := by
  have hm : ∀ (a : Array Obj) (x : Obj) (f : Obj → Obj), (a.push x).modify a.size f = a.push (f x) := by
    intro a x f
    apply Array.ext
    · simp
    · intro i h1 h2
      simp only [Array.getElem_modify, Array.getElem_push]
      by_cases h : a.size = i
      · subst h
        simp
      · have hi : i < a.size := by simp at h1; omega
        simp [h, hi]
  have h := hm u.heap o
  refine ⟨?_, ?_⟩
  rotate_left
  · unfold World.setCell World.alloc
    simp only [h]
    rfl
theorem put_facts (s : ByteArray) (n : Nat) (hs : s.size = n) (i v : Int) (i0 : 0 ≤ i) (i1 : i < n) (v0 : 0 ≤ v) (v1 : v ≤ 255) (w : World) :
    ∃ (W : World) (cap : Nat) (u : Value) (o : Obj), (convert 9 109 (.string s)).run Tryz.prog w = .ok (.slice (some ⟨w.heap.size, 0, none⟩) n cap) W ∧ n ≤ cap ∧ W.cell? ⟨w.heap.size, i.toNat, none⟩ = some u ∧ W.frozen? ⟨w.heap.size, i.toNat, none⟩ = false ∧
      W.setCell ⟨w.heap.size, i.toNat, none⟩ (.int .u8 v) = w.drew.alloc o ∧
      (convert 109 9 (.slice (some ⟨w.heap.size, 0, none⟩) n cap)).run Tryz.prog (W.setCell ⟨w.heap.size, i.toNat, none⟩ (.int .u8 v)) = .ok (.string (putB s i v)) (W.setCell ⟨w.heap.size, i.toNat, none⟩ (.int .u8 v)) := by
  subst hs
  have hc := run_bytes_of_string (P := Tryz.prog) w 9 109 5 s Tryz.underlying9 Tryz.underlying109 Tryz.underlying5
  have hge := grownCap_ge w s.size 0 5
  obtain ⟨cap, hcap⟩ : ∃ cap, cap = grownCap w s.size 0 5 := ⟨_, rfl⟩
  rw [← hcap] at hc hge
  have hi : i.toNat < s.data.size := by have : s.data.size = s.size := rfl; omega
  have hcell : ∀ j (hj : j < s.data.size), (w.drew.alloc (.cells (bytesRow s cap) 5 ((bytesRow s cap).size, (bytesRow s cap).size + 1))).cell? ⟨w.heap.size, j, none⟩ = some (.int .u8 (s.data[j].toNat : Int)) := fun j hj => by
    have h := World.cell?_alloc_mark w.drew (bytesRow s cap) 5 ((bytesRow s cap).size, (bytesRow s cap).size + 1) j
    rw [bytesRow_at s cap j hj] at h
    exact h
  obtain ⟨o, ho⟩ := set_new w.drew (.cells (bytesRow s cap) 5 ((bytesRow s cap).size, (bytesRow s cap).size + 1)) i.toNat (.int .u8 v)
  refine ⟨_, cap, _, o, hc, hge, hcell i.toNat hi, ?_, ho, ?_⟩
  · have h := World.frozen?_alloc_mark w.drew (bytesRow s cap) 5 (bytesRow s cap).size ((bytesRow s cap).size + 1) i.toNat
    have hb : i.toNat < (bytesRow s cap).size := by unfold bytesRow; simp; omega
    rw [decide_eq_false (by omega : ¬ (bytesRow s cap).size ≤ i.toNat)] at h
    exact h
  · have hl : (s.data.toList.set i.toNat (UInt8.ofNat v.toNat)).length = s.size := by show _ = s.data.size; simp only [List.length_set, Array.length_toList]
    have h := run_convert_bytes_back (P := Tryz.prog) ((w.drew.alloc (.cells (bytesRow s cap) 5 ((bytesRow s cap).size, (bytesRow s cap).size + 1))).setCell ⟨w.heap.size, i.toNat, none⟩ (.int .u8 v)) 109 9 5 ⟨w.heap.size, 0, none⟩ cap (s.data.toList.set i.toNat (UInt8.ofNat v.toNat)) Tryz.underlying109 Tryz.underlying5 Tryz.underlying9 (fun j hj => by
      have ea : (⟨w.heap.size, 0, none⟩ : Addr).add j = ⟨w.heap.size, j, none⟩ := by unfold Addr.add; split <;> simp_all
      have hj' : j < s.data.size := by rw [hl] at hj; exact hj
      rw [ea]
      by_cases e : j = i.toNat
      · subst e
        rw [World.cell?_setCell_same _ _ _ (hcell i.toNat hi)]
        rw [List.getElem_set_self]
        have : (UInt8.ofNat v.toNat).toNat = v.toNat := by simp; omega
        rw [this]
        congr 2
        omega
      · rw [World.cell?_setCell_other _ _ _ _ (fun x => e (by have := congrArg Addr.off x; exact this.symm)), hcell j hj', List.getElem_set_ne (by omega)]
        simp)
    rw [hl] at h
    exact h
theorem put_impl (s : ByteArray) (n : Nat) (hs : s.size = n) (hn : n ≤ 1000) (i v : Int) (i0 : 0 ≤ i) (i1 : i < n) (v0 : 0 ≤ v) (v1 : v ≤ 255) (w : World) :
    Calls Tryz.prog 211 #[.string s, .int .i64 i, .int .i64 v] w fun e w' => e = .returned (.string (putB s i v)) ∧ ∃ o, w' = w.drew.alloc o := by
  obtain ⟨W, cap, u, o, hc, hge, hu, hf, ho, hb⟩ := put_facts s n hs i v i0 i1 v0 v1 w
  clear hs
  have HO : Hid (W.setCell ⟨w.heap.size, i.toNat, none⟩ (.int .u8 v) = w.drew.alloc o) := ho
  clear ho
  go_enter Tryz.func211, Tryz.ntmps211
  go_wp2
  go_ret
  exact ⟨rfl, o, HO.out⟩
theorem put_spec (s : ByteArray) (n : Nat) (hs : s.size = n) (hn : n ≤ 1000) (i v : Int) (i0 : 0 ≤ i) (i1 : i < n) (v0 : 0 ≤ v) (v1 : v ≤ 255) (w : World) :
    Calls Tryz.prog 176 #[.string s, .int .i64 i, .int .i64 v] w fun e w' => e = .returned (.string (putB s i v)) ∧ ∃ o, w' = w.drew.alloc o := by
  obtain ⟨W, cap, u, o, hc, hge, hu, hf, ho, hb⟩ := put_facts s n hs i v i0 i1 v0 v1 w
  clear hs
  have HO : Hid (W.setCell ⟨w.heap.size, i.toNat, none⟩ (.int .u8 v) = w.drew.alloc o) := ho
  clear ho
  go_enter Tryz.func176, Tryz.ntmps176
  go_wp2
  go_ret
  exact ⟨rfl, o, HO.out⟩
end Go.Proofs.YtkfehdkjeodbmaaGreatDoor.CartP
