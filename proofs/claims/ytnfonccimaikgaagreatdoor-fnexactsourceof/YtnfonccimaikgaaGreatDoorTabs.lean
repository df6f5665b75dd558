/-
  Contracts of ours for the specification's rows of names, for one digit in decimal and for two in base 16.
-/
import Derived.Test.YtnfonccimaikgaaGreatDoorSigned
import Derived.Test.YtnfonccimaikgaaGreatDoorRows
import Derived.WalkKit
import Derived.ProofKit
import Derived.OpenShut
import Derived.ShutString
import Derived.Outline
import Derived.WalkLawsBesides
import Derived.Deep.RegionWith
import Derived.LoopN
import Derived.Laws.BytesArg
namespace Go.Proofs.YtnfonccimaikgaaGreatDoor.Tabs
open Go.ChangeShapes Go.WideShapes Go.ChangeAt Go.RowKit
open Signed (inB l1In_any)
set_option linter.unusedVariables false

def at8 (l : List ByteArray) (i : Int) : ByteArray := l.getD i.toNat ⟨#[]⟩
theorem cases8 {y : Int} (h0 : 0 ≤ y) (h1 : y ≤ 7) : y = 0 ∨ y = 1 ∨ y = 2 ∨ y = 3 ∨ y = 4 ∨ y = 5 ∨ y = 6 ∨ y = 7 := by omega
theorem cases4 {y : Int} (h0 : 0 ≤ y) (h1 : y ≤ 3) : y = 0 ∨ y = 1 ∨ y = 2 ∨ y = 3 := by omega
theorem ret_str {a b : ByteArray} (h : a = b) : Ending.returned (.string a) = .returned (.string b) := by rw [h]
def bitW : List ByteArray := [⟨#[]⟩, ⟨#[98, 105, 116, 32]⟩, ⟨#[114, 101, 115, 32]⟩, ⟨#[115, 101, 116, 32]⟩]
def decs : List ByteArray := [⟨#[48]⟩, ⟨#[49]⟩, ⟨#[50]⟩, ⟨#[51]⟩, ⟨#[52]⟩, ⟨#[53]⟩, ⟨#[54]⟩, ⟨#[55]⟩]
def regs : List ByteArray := [⟨#[98]⟩, ⟨#[99]⟩, ⟨#[100]⟩, ⟨#[101]⟩, ⟨#[104]⟩, ⟨#[108]⟩, ⟨#[91, 104, 108, 93]⟩, ⟨#[97]⟩]
theorem regs_any (w : World) :
    Calls Tryz.prog 47 #[] w fun e w' => e = .returned (.slice (some ⟨w.heap.size, 0, none⟩) 8 8) ∧ w' = w.alloc (.cells #[.string ⟨#[98]⟩, .string ⟨#[99]⟩, .string ⟨#[100]⟩, .string ⟨#[101]⟩, .string ⟨#[104]⟩, .string ⟨#[108]⟩, .string ⟨#[91, 104, 108, 93]⟩, .string ⟨#[97]⟩] 9) := by
  go_enter Tryz.func47, Tryz.ntmps47
  go_wp2
  go_ret
  exact ⟨rfl, rfl⟩
def pairs : List ByteArray := [⟨#[98, 99]⟩, ⟨#[100, 101]⟩, ⟨#[104, 108]⟩, ⟨#[115, 112]⟩]
theorem pairs_any (w : World) :
    Calls Tryz.prog 64 #[] w fun e w' => e = .returned (.slice (some ⟨w.heap.size, 0, none⟩) 4 4) ∧ w' = w.alloc (.cells #[.string ⟨#[98, 99]⟩, .string ⟨#[100, 101]⟩, .string ⟨#[104, 108]⟩, .string ⟨#[115, 112]⟩] 9) := by
  go_enter Tryz.func64, Tryz.ntmps64
  go_wp2
  go_ret
  exact ⟨rfl, rfl⟩
def conds : List ByteArray := [⟨#[110, 122]⟩, ⟨#[122]⟩, ⟨#[110, 99]⟩, ⟨#[99]⟩]
theorem conds_any (w : World) :
    Calls Tryz.prog 63 #[] w fun e w' => e = .returned (.slice (some ⟨w.heap.size, 0, none⟩) 4 4) ∧ w' = w.alloc (.cells #[.string ⟨#[110, 122]⟩, .string ⟨#[122]⟩, .string ⟨#[110, 99]⟩, .string ⟨#[99]⟩] 9) := by
  go_enter Tryz.func63, Tryz.ntmps63
  go_wp2
  go_ret
  exact ⟨rfl, rfl⟩
def alus : List ByteArray := [⟨#[97, 100, 100]⟩, ⟨#[97, 100, 99]⟩, ⟨#[115, 117, 98]⟩, ⟨#[115, 98, 99]⟩, ⟨#[97, 110, 100]⟩, ⟨#[120, 111, 114]⟩, ⟨#[111, 114]⟩, ⟨#[99, 112]⟩]
theorem alus_any (w : World) :
    Calls Tryz.prog 49 #[] w fun e w' => e = .returned (.slice (some ⟨w.heap.size, 0, none⟩) 8 8) ∧ w' = w.alloc (.cells #[.string ⟨#[97, 100, 100]⟩, .string ⟨#[97, 100, 99]⟩, .string ⟨#[115, 117, 98]⟩, .string ⟨#[115, 98, 99]⟩, .string ⟨#[97, 110, 100]⟩, .string ⟨#[120, 111, 114]⟩, .string ⟨#[111, 114]⟩, .string ⟨#[99, 112]⟩] 9) := by
  go_enter Tryz.func49, Tryz.ntmps49
  go_wp2
  go_ret
  exact ⟨rfl, rfl⟩
def turns : List ByteArray := [⟨#[114, 108, 99]⟩, ⟨#[114, 114, 99]⟩, ⟨#[114, 108]⟩, ⟨#[114, 114]⟩, ⟨#[115, 108, 97]⟩, ⟨#[115, 114, 97]⟩, ⟨#[115, 119, 97, 112]⟩, ⟨#[115, 114, 108]⟩]
theorem turns_any (w : World) :
    Calls Tryz.prog 46 #[] w fun e w' => e = .returned (.slice (some ⟨w.heap.size, 0, none⟩) 8 8) ∧ w' = w.alloc (.cells #[.string ⟨#[114, 108, 99]⟩, .string ⟨#[114, 114, 99]⟩, .string ⟨#[114, 108]⟩, .string ⟨#[114, 114]⟩, .string ⟨#[115, 108, 97]⟩, .string ⟨#[115, 114, 97]⟩, .string ⟨#[115, 119, 97, 112]⟩, .string ⟨#[115, 114, 108]⟩] 9) := by
  go_enter Tryz.func46, Tryz.ntmps46
  go_wp2
  go_ret
  exact ⟨rfl, rfl⟩
theorem regs_get {i : Int} (h0 : 0 ≤ i) (h1 : i ≤ 7) : (∀ h, ([.string ⟨#[98]⟩, .string ⟨#[99]⟩, .string ⟨#[100]⟩, .string ⟨#[101]⟩, .string ⟨#[104]⟩, .string ⟨#[108]⟩, .string ⟨#[91, 104, 108, 93]⟩, .string ⟨#[97]⟩] : List Value)[i.toNat]'h = .string (at8 regs i)) ∧ (at8 regs i).size ≤ 4 := by
  rcases cases8 h0 h1 with rfl | rfl | rfl | rfl | rfl | rfl | rfl | rfl
  all_goals exact ⟨fun _ => rfl, by decide⟩
theorem alus_get {i : Int} (h0 : 0 ≤ i) (h1 : i ≤ 7) : (∀ h, ([.string ⟨#[97, 100, 100]⟩, .string ⟨#[97, 100, 99]⟩, .string ⟨#[115, 117, 98]⟩, .string ⟨#[115, 98, 99]⟩, .string ⟨#[97, 110, 100]⟩, .string ⟨#[120, 111, 114]⟩, .string ⟨#[111, 114]⟩, .string ⟨#[99, 112]⟩] : List Value)[i.toNat]'h = .string (at8 alus i)) ∧ (at8 alus i).size ≤ 4 := by
  rcases cases8 h0 h1 with rfl | rfl | rfl | rfl | rfl | rfl | rfl | rfl
  all_goals exact ⟨fun _ => rfl, by decide⟩
theorem turns_get {i : Int} (h0 : 0 ≤ i) (h1 : i ≤ 7) : (∀ h, ([.string ⟨#[114, 108, 99]⟩, .string ⟨#[114, 114, 99]⟩, .string ⟨#[114, 108]⟩, .string ⟨#[114, 114]⟩, .string ⟨#[115, 108, 97]⟩, .string ⟨#[115, 114, 97]⟩, .string ⟨#[115, 119, 97, 112]⟩, .string ⟨#[115, 114, 108]⟩] : List Value)[i.toNat]'h = .string (at8 turns i)) ∧ (at8 turns i).size ≤ 4 := by
  rcases cases8 h0 h1 with rfl | rfl | rfl | rfl | rfl | rfl | rfl | rfl
  all_goals exact ⟨fun _ => rfl, by decide⟩
theorem bitW_get {i : Int} (h0 : 0 ≤ i) (h1 : i ≤ 3) : (∀ h, ([.string ⟨#[]⟩, .string ⟨#[98, 105, 116, 32]⟩, .string ⟨#[114, 101, 115, 32]⟩, .string ⟨#[115, 101, 116, 32]⟩] : List Value)[i.toNat]'h = .string (at8 bitW i)) ∧ (at8 bitW i).size ≤ 4 := by
  rcases cases4 h0 h1 with rfl | rfl | rfl | rfl
  all_goals exact ⟨fun _ => rfl, by decide⟩
set_option maxRecDepth 100000 in
theorem dec_any (y : Int) (w : World) (h0 : 0 ≤ y) (h1 : y ≤ 7) :
    Calls Tryz.prog 19 #[.int .i64 y] w fun e w' => e = .returned (.string (at8 decs y)) ∧ w' = w.alloc (.cells #[.int .u8 (48 + y)] 5) := by
  have hcv : ∀ (u : World) (x : Int), (convert 47 9 (.slice (some ⟨u.heap.size, 0, none⟩) 1 1)).run Tryz.prog (u.alloc (.cells #[.int .u8 x] 5)) = .ok (.string (strOfNums [x])) (u.alloc (.cells #[.int .u8 x] 5)) := fun u x =>
    run_convert_bytes_arg _ 47 5 Tryz.underlying47 Tryz.underlying5 u.heap.size 0 1 1 [x] rfl (fun i hi => by
      rw [Nat.zero_add, World.cell?_alloc_new]
      match i, hi with
      | 0, _ => rfl) 9 Tryz.underlying9
  have hsz : ∀ x : Int, (strOfNums [x]).size = 1 := fun _ => strOfNums_size _
  rcases cases8 h0 h1 with rfl | rfl | rfl | rfl | rfl | rfl | rfl | rfl
  all_goals
    go_enter Tryz.func19, Tryz.ntmps19
    go_wp2
    refine wp_loop_rounds 1 ?_
    rw [rounds_succ]
    go_wp2
    go_ret
    exact ⟨ret_str rfl, rfl⟩
def tab : List Int := [48, 49, 50, 51, 52, 53, 54, 55, 56, 57, 65, 66, 67, 68, 69, 70]
abbrev hexs : ByteArray := ⟨#[48, 49, 50, 51, 52, 53, 54, 55, 56, 57, 65, 66, 67, 68, 69, 70]⟩
def hex8 : List ByteArray := [⟨#[36, 48, 48]⟩, ⟨#[36, 48, 56]⟩, ⟨#[36, 49, 48]⟩, ⟨#[36, 49, 56]⟩, ⟨#[36, 50, 48]⟩, ⟨#[36, 50, 56]⟩, ⟨#[36, 51, 48]⟩, ⟨#[36, 51, 56]⟩]
set_option maxRecDepth 100000 in
set_option maxHeartbeats 1000000 in
theorem hex_any (n : Int) (w : World) (h : n = 0 ∨ n = 8 ∨ n = 16 ∨ n = 24 ∨ n = 32 ∨ n = 40 ∨ n = 48 ∨ n = 56) :
    Calls Tryz.prog 24 #[.int .i64 n, .int .i64 2] w fun e w' => e = .returned (.string (at8 hex8 (n / 8))) ∧ w' = w := by
  have hd : inB 2 1 4 = true := rfl
  rcases h with rfl | rfl | rfl | rfl | rfl | rfl | rfl | rfl
  all_goals
    go_enter Tryz.func24, Tryz.ntmps24
    go_wp2_with (go_at_call 12; refine (l1In_any _ _ _ _).mono ?_; rintro e w' ⟨rfl, rfl⟩)
    refine wp_loop_rounds 3 ?_
    rw [rounds_succ]
    go_wp2
    rw [rounds_succ]
    go_wp2
    rw [rounds_succ]
    go_wp2
    go_ret
    exact ⟨ret_str (by kernel_rfl), rfl⟩

end Go.Proofs.YtnfonccimaikgaaGreatDoor.Tabs
