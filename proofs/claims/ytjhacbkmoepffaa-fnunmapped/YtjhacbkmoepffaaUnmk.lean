/-
  A contract of ours for impl.Unmapped.
-/
import Derived.Test.YtjhacbkmoepffaaUnmi
import Derived.Test.YtjhacbkmoepffaaBld
import Derived.Deep.WholeRow
namespace Go.Proofs.Ytjhacbkmoepffaa.Unmk
open Go.ChangeShapes Go.WideShapes Go.ChangeAt Go.RowKit Go.Deep Go.Maps Go.WideMaps
open Pairr (Pair Pairs)
open Chok Mapp Mapi Unmp Unmi
open Bld (Holds str_any holds_lt holds_new)
set_option linter.unusedVariables false
set_option linter.unusedSimpArgs false
set_option maxRecDepth 100000
theorem strCells_T (s : ByteArray) : Lib.strCells s = Lib.byteCells (T s) := rfl
theorem byteCells_app (a b : List UInt8) : Lib.byteCells (a ++ b) = Lib.byteCells a ++ Lib.byteCells b := by simp [Lib.byteCells]
set_option maxHeartbeats 2000000 in
theorem unmapped_any (a : Option Addr) (cap : Nat) (L : List Pair) (s : ByteArray) (w : World) (hN : Pairs w a L) (hlen : L.length ≤ 1048576) (hs : s.size ≤ 1048576) :
    Calls Try.prog 8 #[.slice a L.length cap, .string s] w fun e w' => e = .returned (.tuple #[.string (Unmp.outV L s), .bool (Unmp.outB L s)]) ∧ Below w.heap.size w w' := by
  have co := fun w h => implOk_any a cap L w h hlen
  have HN : Hid (Pairs w a L) := hN
  clear hN
  by_cases hR : Right L
  · rw [okV_yes hR] at co
    by_cases h2 : 20000 < s.size
    · have HE : Hid (Unmp.outV L s = ⟨#[]⟩ ∧ Unmp.outB L s = false) := Unmp.no_form (fun h => by omega)
      have d2 : decide ((20000 : Int) < (s.size : Int)) = true := decide_eq_true (by omega)
      generalize L.length = n0 at *
      go_enter Try.func8, Try.ntmps8
      go_wp2_with fail
      refine (co _ HN.out).mono ?_
      rintro e w1 ⟨rfl, hb1⟩
      go_wp2
      go_ret2
      exact ⟨Unmp.ret_two HE.out, hb1⟩
    · have d2 : decide ((20000 : Int) < (s.size : Int)) = false := decide_eq_false (by omega)
      have C0 : Hid (Unmp.Come L s 0 []) := Unmp.Come.start hR (by omega)
      have cc := fun w h => codes_any a cap L w h hR
      have cf := fun B D w h1 h2 => first_any B D L w h1 h2 hR
      have HR : Hid (Right L) := hR
      obtain ⟨zs, hzs⟩ : ∃ zs, zs = Array.replicate 256 (Value.string ⟨#[]⟩) := ⟨_, rfl⟩
      have hz := fun w => zeroA w
      have Z0 : Hid (zs.size = 256) := by rw [hzs]; exact Array.size_replicate
      rw [← hzs] at hz
      clear hzs
      obtain ⟨n0, hn0⟩ : ∃ n0, n0 = L.length := ⟨_, rfl⟩
      have HL : Hid (n0 = L.length) := hn0
      rw [← hn0] at co cc cf ⊢
      clear hn0 hR
      go_enter Try.func8, Try.ntmps8
      go_wp2_with fail
      refine (co _ HN.out).mono ?_
      rintro e w1 ⟨rfl, hb1⟩
      have B1 : Hid (Below w.heap.size w w1) := hb1
      clear hb1 co
      go_upto_region 3 with fail
      refine wp_region_list ?_
      go_wp2_with fail
      refine (cc _ (HN.out.below B1.out)).mono ?_
      rintro e w2 ⟨rfl, ⟨D, hown, htie⟩, hb2⟩
      have B2 : Hid (Below w.heap.size w w2) := B1.out.trans (hb2.mono B1.out.size)
      obtain ⟨B, hB⟩ : ∃ B, B = w1.heap.size := ⟨_, rfl⟩
      rw [← hB] at hown ⊢
      clear hb2 cc B1 HN hB
      go_wp2_with fail
      refine (cf B D _ hown htie).mono ?_
      rintro e w3 ⟨cs, rfl, htx, hb3⟩
      have B3 : Hid (Below w.heap.size w w3) := B2.out.trans (hb3.mono B2.out.size)
      have TX : Hid (Txs L n0 cs) := htx
      clear hb3 htx hown htie cf B2
      have hsz : cs.size = 256 := TX.out.size
      have hst := run_storeCells_new (P := Try.prog) w3 tA zs cs (by rw [hsz]; exact sizeA) (by rw [hsz]; exact Z0.out) TX.out.cells
      go_upto_region 5 with fail
      clear hst
      obtain ⟨w5, hw5⟩ : ∃ w5, w5 = (w3.alloc (.cells cs tA)).alloc (.cells #[.pointer none, .slice none 0 0] 46) := ⟨_, rfl⟩
      obtain ⟨bX, hbX⟩ : ∃ bX, bX = w3.heap.size := ⟨_, rfl⟩
      have X5 : Hid (w5.heap[bX]? = some (.cells cs tA (0, 0))) := by
        show w5.heap[bX]? = _
        rw [hw5, hbX, Below.heap_alloc _ _ _ (by simp)]; exact heap_alloc_last _ _
      have B5 : Hid (Below w.heap.size w w5) := by rw [hw5]; exact (B3.out.alloc B3.out.size _).alloc (by simp; have := B3.out.size; omega) _
      have H5 : Hid (Holds (bX + 1) (bX + 1) (Lib.byteCells []) w5) := by
        have := holds_new (w3.alloc (.cells cs tA))
        have e : (w3.alloc (.cells cs tA)).heap.size = bX + 1 := by rw [hbX]; simp
        rw [e] at this
        rw [hw5]; exact this
      have z0 : w.heap.size ≤ bX := by rw [hbX]; exact B3.out.size
      rw [← hw5, ← hbX]
      clear hw5 hbX B3 hz Z0
      go_wp2_with fail
      go_loopw [23] (fun x wr => ∃ (p : Nat) (out : List UInt8), x = .int .i64 p ∧ p ≤ s.size ∧ Hid (Unmp.Come L s p out) ∧ Hid (Holds (bX + 1) (bX + 1) (Lib.byteCells out) wr) ∧ Hid (Below (bX + 1) w5 wr)) (fun x _ => s.size - (intOf x).toNat)
      case atStart => exact ⟨0, [], rfl, by omega, C0.out, H5.out, Below.refl _ _⟩
      case round =>
        clear C0 H5
        obtain ⟨p, out, rfl, hp2, hcome, hho, hbel⟩ := hrel
        have BF : Hid (Below w.heap.size w wr) := B5.out.trans (hbel.out.mono (by omega))
        by_cases hz : p < s.size
        · have y1 : (p : Int) < (s.size : Int) := by omega
          have XW : wr.heap[bX]? = some (.cells cs tA (0, 0)) := by rw [hbel.out.block bX (by omega)]; exact X5.out
          have c1 : wr.cell? ⟨bX, s[p].toNat, none⟩ = some (.string (txt (firstOf (L.take n0) s[p]))) := by rw [cell_of_row _ _ _ _ _ _ XW]; exact TX.out.at' _
          have hd := UInt8.toNat_lt s[p]
          rw [HL.out, List.take_length] at c1
          have i0 : (0 : Int) ≤ (s[p].toNat : Int) := by omega
          have i1 : (s[p].toNat : Int) < 256 := by omega
          cases hf : firstOf L s[p] with
          | none =>
            have HE : Hid (Unmp.outV L s = ⟨#[]⟩ ∧ Unmp.outB L s = false) := hcome.out.none hz hf
            rw [hf] at c1
            obtain ⟨nm, hnm⟩ : ∃ nm : ByteArray, nm = ⟨#[]⟩ := ⟨_, rfl⟩
            replace c1 : wr.cell? ⟨bX, s[p].toNat, none⟩ = some (.string nm) := by rw [hnm]; exact c1
            have y2 := Chok.empty_yes (s := nm) (by rw [hnm]; rfl)
            clear hf hcome XW hnm
            go_wp2
            go_ret2
            exact ⟨Unmp.ret_two HE.out, BF.out⟩
          | some q =>
            have NX : Hid (Unmp.Come L s (p + 1) (out ++ T q.1)) := hcome.out.next hz hf
            have hq := size_pos HR.out (first_mem hf)
            rw [hf] at c1
            replace c1 : wr.cell? ⟨bX, s[p].toNat, none⟩ = some (.string q.1) := c1
            have hl := hcome.out.less
            have hl2 := hcome.out.small
            clear hf hcome XW
            generalize q.1 = nm at *
            have y2 := Chok.empty_no (s := nm) (by omega)
            go_wp2_with (go_at_call 18; refine (str_any (bX + 1) (bX + 1) _ nm _ hho.out (by rw [Lib.byteCells_length]; omega) (Nat.le_of_lt (holds_lt hho.out))).mono ?_)
            rintro e w6 ⟨rfl, h6, b6⟩
            have H6 : Hid (Holds (bX + 1) (bX + 1) (Lib.byteCells (out ++ T nm)) w6) := by rw [byteCells_app]; exact h6
            have B6 : Hid (Below (bX + 1) w5 w6) := hbel.out.trans b6
            clear h6 b6 hho hbel
            go_wp2
            go_roundw
            case rel => exact ⟨p + 1, _, by go_num, by omega, NX.out, H6.out, B6.out⟩
            case measure => simp [intOf]; omega
        · obtain rfl : p = s.size := by omega
          have HE : Hid (Unmp.outV L s = ⟨out.toArray⟩ ∧ Unmp.outB L s = true) := hcome.out.fin
          have y1 : ¬ (s.size : Int) < (s.size : Int) := by omega
          clear hcome
          go_wp2_with (go_at_call 19; refine (Try.Builder_String_any _ _ _ _ hho.out (Nat.le_of_lt (holds_lt hho.out))).mono ?_; rintro e w6 ⟨rfl, b6⟩; have B6 : Hid (Below w.heap.size w w6) := BF.out.trans (b6.mono (by omega)); clear b6)
          go_ret2
          exact ⟨Unmp.ret_two HE.out, B6.out⟩
  · have HE : Hid (Unmp.outV L s = ⟨#[]⟩ ∧ Unmp.outB L s = false) := Unmp.no_form (fun h => hR h.1)
    rw [okV_no hR] at co
    generalize L.length = n0 at *
    go_enter Try.func8, Try.ntmps8
    go_wp2_with fail
    refine (co _ HN.out).mono ?_
    rintro e w1 ⟨rfl, hb1⟩
    go_wp2
    go_ret2
    exact ⟨Unmp.ret_two HE.out, hb1⟩
end Go.Proofs.Ytjhacbkmoepffaa.Unmk
