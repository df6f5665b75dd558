/-
  Contracts of ours for both CartNew, at every argument.
-/
import Derived.Test.YtjipfhioobebiaaCartM
import Derived.Laws.IdiomStrings
import Derived.Laws.OwnMore
namespace Go.Proofs.Ytjipfhioobebiaa.CartN
open Go.ChangeShapes Go.WideShapes Go.ChangeAt Go.RowKit Go.Deep
set_option linter.unusedVariables false
open Signed (inB ret_int ret_bool isByte_any l1In_any)
open Carts CartK CartL CartM

theorem infoB : (Try.prog.info? 5).map (fun i => (i.zero, i.size, i.bytes)) = some (some (.int .u8 0), 1, 1) := by kernel_rfl
theorem info_parts {P : Program} {t : TypeId} {z : Value} {s b : Nat} (h : (P.info? t).map (fun i => (i.zero, i.size, i.bytes)) = some (some z, s, b)) : ∃ i, P.info? t = some i ∧ i.zero = some z ∧ i.size = s ∧ i.bytes = b := by
  cases e : P.info? t with
  | none => rw [e] at h; cases h
  | some i =>
    rw [e] at h
    simp only [Option.map_some, Option.some.injEq, Prod.mk.injEq] at h
    exact ⟨i, rfl, h.1, h.2.1, h.2.2⟩
/-- So many noughts. -/
def Z (n : Nat) : ByteArray := ⟨(List.replicate n (0 : UInt8)).toArray⟩
theorem Z_size (n : Nat) : (Z n).size = n := by simp [Z, ByteArray.size]
theorem made (n : Nat) (hn : n ≤ 1000) : ∃ o : Obj, ∀ u : World, (Instr.makeSlice 68 (.int .i64 (n : Int)) (.int .i64 (n : Int))).run Try.prog u = .ok (.slice (some ⟨u.heap.size, 0, none⟩) n n) (u.alloc o) ∧
    (convert 68 9 (.slice (some ⟨u.heap.size, 0, none⟩) n n)).run Try.prog (u.alloc o) = .ok (.string (Z n)) (u.alloc o) := by
  obtain ⟨i0, hi, hz0, hz1, hz2⟩ := info_parts infoB
  refine ⟨.cells (madeCells #[.int .u8 0] n) 5, fun u => ⟨?_, ?_⟩⟩
  · have h := run_make (P := Try.prog) u 68 5 i0 (.int .u8 0) Try.underlying68 hi hz0 .i64 .i64 (n : Int) (n : Int) (by omega) (Int.le_refl _) (by rw [hz2]; omega) (by omega)
    simpa [hz1, Value.cells] using h
  · have h := run_convert_bytes_back (P := Try.prog) (u.alloc (.cells (madeCells #[.int .u8 0] n) 5)) 68 9 5 ⟨u.heap.size, 0, none⟩ n (List.replicate n 0) Try.underlying68 Try.underlying5 Try.underlying9 (fun j hj => by
      have hj' : j < n := by simpa using hj
      have ea : (⟨u.heap.size, 0, none⟩ : Addr).add j = ⟨u.heap.size, j, none⟩ := by unfold Addr.add; split <;> simp_all
      rw [ea, World.cell?_alloc_new, ← Array.getElem?_toList, toList_madeCells_one]
      simp [hj'])
    simpa [Z] using h
theorem noughts_256 (w : World) : Calls Try.prog 46 #[.int .i64 256] w fun e w' => e = .returned (.string (Z 256)) ∧ ∃ o, w' = w.alloc o := by
  obtain ⟨o, h⟩ := made 256 (by decide)
  have h1 : ∀ u : World, (Instr.makeSlice 68 (.int .i64 256) (.int .i64 256)).run Try.prog u = .ok (.slice (some ⟨u.heap.size, 0, none⟩) 256 256) (u.alloc o) := fun u => (h u).1
  have h2 := fun u => (h u).2
  clear h
  go_enter Try.func46, Try.ntmps46
  go_wp2
  go_ret
  exact ⟨rfl, _, rfl⟩
theorem implOk_kind (rom : ByteArray) (kind bank : Int) (ram : ByteArray) (rb : Int) (on : Bool) (mode : Int) (w : World) (hs : rom.size ≤ maxLen) (hr : ram.size ≤ maxLen) (hk : kind = 0 ∨ kind = 1 ∨ kind = 2) :
    Calls Try.prog 16 #[.agg #[.string rom, .int .i64 kind, .int .i64 bank, .string ram, .int .i64 rb, .bool on, .int .i64 mode]] w fun e w' => e = .returned (.bool (okB rom kind bank ram rb on mode)) ∧ ∃ T : TypeId, w' = ((w.alloc (.cells #[.string rom, .int .i64 kind, .int .i64 bank, .string ram, .int .i64 rb, .bool on, .int .i64 mode] 26)).alloc (.cells #[] T)).alloc (.cells #[.string rom, .int .i64 kind, .int .i64 bank, .string ram, .int .i64 rb, .bool on, .int .i64 mode] 26) := by
  rcases hk with rfl | rfl | rfl
  · refine (cartOk_0 rom bank ram rb on mode w hs hr _ _ rfl rfl).mono ?_
    rintro e w' ⟨rfl, rfl⟩
    exact ⟨rfl, _, rfl⟩
  · refine (cartOk_1 rom bank ram rb on mode w hs hr _ _ rfl rfl).mono ?_
    rintro e w' ⟨rfl, rfl⟩
    exact ⟨rfl, _, rfl⟩
  · refine (cartOk_2 rom bank ram rb on mode w hs hr _ _ rfl rfl).mono ?_
    rintro e w' ⟨rfl, rfl⟩
    exact ⟨rfl, _, rfl⟩
def newB (rom : ByteArray) (kind : Int) : Bool := okB rom kind 1 (Z 256) 0 false 0
def noCart : Value := .agg #[.string ⟨#[]⟩, .int .i64 0, .int .i64 0, .string ⟨#[]⟩, .int .i64 0, .bool false, .int .i64 0]
def newCart (rom : ByteArray) (kind : Int) : Value := .agg #[.string rom, .int .i64 kind, .int .i64 1, .string (Z 256), .int .i64 0, .bool false, .int .i64 0]
theorem zmax : (Z 256).size ≤ maxLen := by rw [Z_size]; decide
set_option maxHeartbeats 1000000 in
theorem specNew_any (rom : ByteArray) (kind : Int) (w : World) (hs : rom.size ≤ maxLen) (b : Bool) (h : newB rom kind = b) :
    Calls Try.prog 17 #[.string rom, .int .i64 kind] w fun e w' => e = .returned (.tuple #[if b = true then newCart rom kind else noCart, .bool b]) ∧ ∃ o1 o2 o3 o4, w' = (((w.alloc o1).alloc o2).alloc o3).alloc o4 := by
  obtain ⟨o, hh⟩ := made 256 (by decide)
  have h1 : ∀ u : World, (Instr.makeSlice 68 (.int .i64 256) (.int .i64 256)).run Try.prog u = .ok (.slice (some ⟨u.heap.size, 0, none⟩) 256 256) (u.alloc o) := fun u => (hh u).1
  have h2 : ∀ (u : World) (p : Obj), (convert 68 9 (.slice (some ⟨u.heap.size + 1, 0, none⟩) 256 256)).run Try.prog ((u.alloc p).alloc o) = .ok (.string (Z 256)) ((u.alloc p).alloc o) := fun u p => by
    have h := (hh (u.alloc p)).2
    simpa using h
  have c := fun w => specOk_any rom kind 1 (Z 256) 0 false 0 w hs zmax
  unfold newB at h
  rw [h] at c
  clear hh h hs
  cases b
  · go_enter Try.func17, Try.ntmps17
    go_wp2_with (go_at_call 14; refine (c _).mono ?_; rintro e w' ⟨rfl, rfl⟩)
    exact bodyPost_ret (v := .tuple #[noCart, .bool false]) (by simp [results, Try.results17, noCart, go_sem]) rfl ⟨rfl, _, _, _, _, rfl⟩
  · go_enter Try.func17, Try.ntmps17
    go_wp2_with (go_at_call 14; refine (c _).mono ?_; rintro e w' ⟨rfl, rfl⟩)
    exact bodyPost_ret (v := .tuple #[newCart rom kind, .bool true]) (by simp [results, Try.results17, newCart, go_sem]) rfl ⟨rfl, _, _, _, _, rfl⟩
set_option maxHeartbeats 1000000 in
theorem implNew_any (rom : ByteArray) (kind : Int) (w : World) (hs : rom.size ≤ maxLen) (b : Bool) (h : newB rom kind = b) :
    Calls Try.prog 18 #[.string rom, .int .i64 kind] w fun e w' => e = .returned (.tuple #[if b = true then newCart rom kind else noCart, .bool b]) ∧ ∃ o1 o2 o3 o4, w' = (((w.alloc o1).alloc o2).alloc o3).alloc o4 ∨ ∃ o5 o6, w' = (((((w.alloc o1).alloc o2).alloc o3).alloc o4).alloc o5).alloc o6 := by
  by_cases hk : kind = 0 ∨ kind = 1 ∨ kind = 2
  · have c := fun w => implOk_kind rom kind 1 (Z 256) 0 false 0 w hs zmax hk
    unfold newB at h
    rw [h] at c
    clear h hs hk
    cases b
    · go_enter Try.func18, Try.ntmps18
      go_wp2_with first | (go_at_call 46; refine (noughts_256 _).mono ?_; rintro e w' ⟨rfl, o, rfl⟩) | (go_at_call 16; refine (c _).mono ?_; rintro e w' ⟨rfl, T, rfl⟩)
      exact bodyPost_ret (v := .tuple #[noCart, .bool false]) (by simp [results, Try.results18, noCart, go_sem]) rfl ⟨rfl, _, _, _, _, .inr ⟨_, _, rfl⟩⟩
    · go_enter Try.func18, Try.ntmps18
      go_wp2_with first | (go_at_call 46; refine (noughts_256 _).mono ?_; rintro e w' ⟨rfl, o, rfl⟩) | (go_at_call 16; refine (c _).mono ?_; rintro e w' ⟨rfl, T, rfl⟩)
      exact bodyPost_ret (v := .tuple #[newCart rom kind, .bool true]) (by simp [results, Try.results18, newCart, go_sem]) rfl ⟨rfl, _, _, _, _, .inr ⟨_, _, rfl⟩⟩
  · have c := fun w => cartOk_no rom kind 1 (Z 256) 0 false 0 w (by omega) (by omega) (by omega)
    have hb : b = false := by
      rw [← h]
      unfold newB okB heldB
      rw [if_neg (by omega), if_neg (by omega), if_neg (by omega)]
      rfl
    subst hb
    clear h hs hk
    go_enter Try.func18, Try.ntmps18
    go_wp2_with first | (go_at_call 46; refine (noughts_256 _).mono ?_; rintro e w' ⟨rfl, o, rfl⟩) | (go_at_call 16; refine (c _).mono ?_; rintro e w' ⟨rfl, rfl⟩)
    exact bodyPost_ret (v := .tuple #[noCart, .bool false]) (by simp [results, Try.results18, noCart, go_sem]) rfl ⟨rfl, _, _, _, _, .inl rfl⟩
theorem eqNo (w : World) : Calls Try.prog 19 #[noCart, noCart] w fun e w' => e = .returned (.bool true) ∧ ∃ o1 o2, w' = (w.alloc o1).alloc o2 := by
  refine (eqCart_any ⟨#[]⟩ 0 0 ⟨#[]⟩ 0 false 0 w).mono ?_
  rintro e w' ⟨rfl, rfl⟩
  exact ⟨rfl, _, _, rfl⟩
theorem eqNew (rom : ByteArray) (kind : Int) (w : World) : Calls Try.prog 19 #[newCart rom kind, newCart rom kind] w fun e w' => e = .returned (.bool true) ∧ ∃ o1 o2, w' = (w.alloc o1).alloc o2 := by
  refine (eqCart_any rom kind 1 (Z 256) 0 false 0 w).mono ?_
  rintro e w' ⟨rfl, rfl⟩
  exact ⟨rfl, _, _, rfl⟩
end Go.Proofs.Ytjipfhioobebiaa.CartN
