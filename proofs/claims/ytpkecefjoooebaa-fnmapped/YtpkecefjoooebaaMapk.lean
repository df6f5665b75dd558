/-
  A contract of ours for impl.Mapped.
-/
import Derived.Maps.AppendAt
import Derived.RangeFuncBox
import Derived.Laws.IdiomStrings
import Derived.Laws.OwnMore
import Derived.Test.YtpkecefjoooebaaMapi
namespace Go.Proofs.Ytpkecefjoooebaa.Mapk
open Go.ChangeShapes Go.WideShapes Go.ChangeAt Go.RowKit Go.Deep Go.Maps Go.WideMaps
open Pairr (Pair Pairs)
open Chok Mapp Mapi
set_option linter.unusedVariables false
set_option linter.unusedSimpArgs false
set_option maxRecDepth 100000
abbrev tO : TypeId := 32
theorem info5 : (Try.prog.info? 5).map (fun i => (i.zero, i.size, i.bytes)) = some (some (.int .u8 0), 1, 1) := by kernel_rfl
/-- The row's bytes, as a text. -/
theorem str_own {W : World} {base : Nat} {v : Value} {l : List UInt8} (h : W.ownsRow base 5 1 v l.length (Lib.byteCells l)) : (convert 32 9 v).run Try.prog W = .ok (.string ⟨l.toArray⟩) W := by
  rcases h.2 with ⟨rfl, h0⟩ | ⟨g, cap, cur, rfl, _, hg, hn, hm, hc, ht⟩
  · obtain rfl : l = [] := List.length_eq_zero_iff.1 h0
    exact run_convert_bytes_nil (P := Try.prog) _ 32 5 Try.underlying32 Try.underlying5 0 0 9 Try.underlying9
  · refine run_convert_bytes_back (P := Try.prog) W 32 9 5 ⟨g, 0, none⟩ cap l Try.underlying32 Try.underlying5 Try.underlying9 (fun j hj => ?_)
    refine h.cells (g := g) rfl j _ ?_
    unfold Lib.byteCells
    rw [List.getElem?_map, List.getElem?_eq_getElem hj]
    rfl
theorem info_parts {P : Program} {t : TypeId} {z : Value} {s b : Nat} (h : (P.info? t).map (fun i => (i.zero, i.size, i.bytes)) = some (some z, s, b)) : ∃ i, P.info? t = some i ∧ i.zero = some z ∧ i.size = s ∧ i.bytes = b := by
  cases e : P.info? t with
  | none => rw [e] at h; cases h
  | some i =>
    rw [e] at h
    simp only [Option.map_some, Option.some.injEq, Prod.mk.injEq] at h
    exact ⟨i, rfl, h.1, h.2.1, h.2.2⟩
theorem ret_two {L : List Pair} {s b : ByteArray} {q : Bool} (h : outV L s = b ∧ outB L s = q) : Ending.returned (.tuple #[.string b, .bool q]) = .returned (.tuple #[.string (outV L s), .bool (outB L s)]) := by rw [h.1, h.2]
theorem below_grown {B : Nat} {a b : World} (h : Below B a b) (hB : a.heap.size ≤ B) : a.grownBy b none := ⟨h.os, h.tape, h.output, h.size, fun k hk _ => h.block k (by omega)⟩
theorem T_ext (r : ByteArray) (n : Nat) : T (r.extract n r.size) = (T r).drop n := by
  show (r.extract n r.size).data.toList = _
  rw [ByteArray.data_extract, Array.toList_extract, List.extract_eq_take_drop]
  exact List.take_of_length_le (by rw [List.length_drop, T_len]; exact Nat.le_refl _)
def vsize : Value → Nat
  | .string s => s.size
  | _ => 0
set_option maxHeartbeats 2000000 in
theorem mapped_any (a : Option Addr) (cap : Nat) (L : List Pair) (s : ByteArray) (w : World) (hN : Pairs w a L) (hlen : L.length ≤ 1048576) (hs : s.size ≤ 1048576) :
    Calls Try.prog 14 #[.slice a L.length cap, .string s] w fun e w' => e = .returned (.tuple #[.string (outV L s), .bool (outB L s)]) ∧ Below w.heap.size w w' := by
  have co := fun w h => implOk_any a cap L w h hlen
  have HN : Hid (Pairs w a L) := hN
  clear hN
  by_cases hR : Right L
  · rw [okV_yes hR] at co
    by_cases h2 : 20000 < s.size
    · have HE : Hid (outV L s = ⟨#[]⟩ ∧ outB L s = false) := no_form (fun h => by omega)
      have d2 : decide ((20000 : Int) < (s.size : Int)) = true := decide_eq_true (by omega)
      generalize L.length = n0 at *
      go_enter Try.func14, Try.ntmps14
      go_wp2_with fail
      refine (co _ HN.out).mono ?_
      rintro e w1 ⟨rfl, hb1⟩
      go_wp2
      go_ret2
      exact ⟨ret_two HE.out, hb1⟩
    · have d2 : decide ((20000 : Int) < (s.size : Int)) = false := decide_eq_false (by omega)
      have C0 : Hid (Come L s (T s) []) := Come.start hR (by omega)
      have cc := fun w h => codes_any a cap L w h hR
      have cl := fun B D t w h k z => long_any B D L t w h k hR z
      have VAL : Hid (∀ (D : DataW Unit), Tied L L.length D → ∀ p ∈ L, ∀ z, D.atKey (lit p.1) z = .lit (.int .u8 p.2)) := fun D hD p hp z => by
        obtain ⟨i, hi, rfl⟩ := List.getElem_of_mem hp
        exact hD.val i hi hi z
      have HR : Hid (Right L) := hR
      obtain ⟨i0, hi, hz0, hz1, hz2⟩ := info_parts info5
      obtain ⟨n0, hn0⟩ : ∃ n0, n0 = L.length := ⟨_, rfl⟩
      rw [← hn0] at co cc VAL cl ⊢
      clear hn0 hR
      go_enter Try.func14, Try.ntmps14
      go_wp2_with fail
      refine (co _ HN.out).mono ?_
      rintro e w1 ⟨rfl, hb1⟩
      have B1 : Hid (Below w.heap.size w w1) := hb1
      clear hb1 co
      go_wp2_with fail
      refine (cc _ (HN.out.below B1.out)).mono ?_
      rintro e w2 ⟨rfl, ⟨D, hown, htie⟩, hb2⟩
      have B2 : Hid (Below w.heap.size w w2) := B1.out.trans (hb2.mono B1.out.size)
      have HT : Hid (Tied L n0 D) := htie
      obtain ⟨B, hB⟩ : ∃ B, B = w1.heap.size := ⟨_, rfl⟩
      rw [← hB] at hown ⊢
      have OW : Hid (w2.ownsMap Try.prog 9 (plainElem Try.prog 5) B 16 D) := hown
      clear hb2 cc B1 HN htie hB hown
      go_wp2_with fail
      go_loopw [7, 8] (fun v x wr => ∃ (r : ByteArray) (ao : Option Addr) (n c : Nat) (out : List UInt8), x = .string r ∧ v = .slice ao n c ∧ r.size ≤ 20000 ∧ n ≤ 20000 ∧ Hid (n = out.length) ∧ Hid (Come L s (T r) out) ∧ Hid (wr.ownsRow w2.heap.size 5 1 (.slice ao n c) n (Lib.byteCells out)) ∧ Hid (Below w2.heap.size w2 wr)) (fun _ x _ => vsize x)
      case atStart => exact ⟨s, none, 0, 0, [], rfl, rfl, by omega, by omega, rfl, C0.out, World.ownsRow_nil _ _ _ _, Below.refl _ _⟩
      case round =>
        clear C0
        obtain ⟨r, ao, n, c, out, rfl, rfl, hr2, hn2, hno, hcome, hrow, hbel⟩ := hrel
        by_cases hz : r.size = 0
        · have y1 := Chok.empty_yes hz
          have HE : Hid (outV L s = ⟨out.toArray⟩ ∧ outB L s = true) := by
            have := hcome.out
            rw [show T r = [] from List.eq_nil_of_length_eq_zero (by rw [T_len]; exact hz)] at this
            exact this.fin
          have hrw := hrow.out
          rw [hno.out] at hrw
          have hcv := str_own hrw
          rw [← hno.out] at hcv
          have BF : Hid (Below w.heap.size w wr) := B2.out.trans (hbel.out.mono B2.out.size)
          clear hrw
          go_wp2
          go_ret2
          exact ⟨ret_two HE.out, BF.out⟩
        · have y1 := Chok.empty_no hz
          have hne : T r ≠ [] := fun h => by have := T_len r; rw [h] at this; simp at this; omega
          have OR : wr.ownsMap Try.prog 9 (plainElem Try.prog 5) B 16 D := OW.out.kept (below_grown hbel.out (Nat.le_refl _)) (by simp)
          have BF : Hid (Below w.heap.size w wr) := B2.out.trans (hbel.out.mono B2.out.size)
          have NONE : Hid ((∀ q ∈ L, ¬ Fits (T r) q) → outV L s = ⟨#[]⟩ ∧ outB L s = false) := fun h => hcome.out.none hne h
          have NEXT : Hid (∀ p, Best L (T r) p → Come L s ((T r).drop p.1.size) (out ++ [u8 p.2])) := fun p hp => hcome.out.next hne hp
          clear hcome hne
          go_wp2_with fail
          refine (cl B D r _ OR HT.out (by omega)).mono ?_
          rintro e w3 ⟨(⟨p, hp, rfl⟩ | ⟨hno', rfl⟩), hw3⟩
          · have hw3 := hw3.symm
            subst hw3
            have NX : Hid (Come L s ((T r).drop p.1.size) (out ++ [u8 p.2])) := NEXT.out p hp
            have hv := VAL.out D HT.out p hp.1 (.lit (.int .u8 0))
            have hsz := size_pos HR.out hp.1
            have hfit : p.1.size ≤ r.size := by have := hp.2.1.1; rwa [T_len] at this
            clear NEXT NONE hp
            obtain ⟨pt, pb⟩ := p
            dsimp only at hv hsz hfit NX
            have hkey : keyOf Try.prog 9 (.string pt) = some (lit pt) := keyOf_string_mk Try.underlying9 (by unfold maxLen; omega)
            have eb := u8_val hsz.2.2
            generalize u8 pb = bb at *
            subst eb
            have hrw := hrow.out
            have f0 : (0 : Int) ≤ (pt.size : Int) := by omega
            have f1 : (pt.size : Int) ≤ (r.size : Int) := by omega
            go_wp2_with first
              | (at_lookup; refine wpList_lookup_own_int _ rfl _ _ tM rfl 9 5 .u8 law Try.underlying44 Try.underlying5 (zeroE _) B 16 D rfl OR _ _ rfl hkey ?_; intro c' hat hwc; obtain rfl : c' = (bb.toNat : Int) := (by have := hat.symm.trans hv; injection this with h; injection h))
              | (at_builtin; refine wpList_append_own _ rfl _ _ tO rfl w2.heap.size 5 i0 (.int .u8 0) 1 1 Try.underlying32 hi hz0 hz1 hz2 rfl (by decide) _ _ _ rfl (hrw.alloc _) ⟨wr.heap.size, 0, none⟩ 1 1 [.int .u8 bb.toNat] rfl rfl ?c1 ?c2 ?c3 ?c4 ?c5 ?_)
            case c1 =>
              intro j u hj
              match j, hj with
              | 0, hj => simp at hj; subst hj; simp [Addr.add]
            case c2 => intro u hu; simp at hu; subst hu; rfl
            case c3 => unfold maxLen; omega
            case c4 => omega
            case c5 => simp; have := hbel.out.size; omega
            intro v' w6 hown' hgrow _
            have B6 : Hid (Below w2.heap.size w2 w6) := (hbel.out.alloc hbel.out.size _).grown hgrow (by simp; have := hbel.out.size; omega) (fun k ek => (hrw.lt k ek).1)
            obtain ⟨g', cap', rfl⟩ := ownsRow_succ hown'
            have R6 : Hid (w6.ownsRow w2.heap.size 5 1 (.slice (some ⟨g', 0, none⟩) (n + 1) cap') (n + 1) (Lib.byteCells (out ++ [bb]))) := by
              have e : Lib.byteCells (out ++ [bb]) = Lib.byteCells out ++ [.int .u8 bb.toNat] := by simp [Lib.byteCells]
              rw [e]; exact hown'
            have HNN : Hid (n + 1 = (out ++ [bb]).length) := by show _ = _; rw [List.length_append, hno.out]; rfl
            have NY : Hid (Come L s (T (r.extract pt.size r.size)) (out ++ [bb])) := by rw [T_ext]; exact NX.out
            have zr : (r.extract pt.size r.size).size = r.size - pt.size := by rw [ByteArray.size_extract]; omega
            have hles : n + 1 ≤ 20000 := by have h1 := NY.out.less; have h2 := NY.out.small; have h3 := HNN.out; omega
            clear hown' hgrow hrw NX
            go_wp2
            go_roundw
            case rel => exact ⟨_, _, _, _, _, rfl, rfl, by omega, hles, HNN.out, NY.out, R6.out, B6.out⟩
            case measure => show (r.extract pt.size r.size).size < r.size; omega
          · have HE := NONE.out hno'
            have hw3 := hw3.symm
            subst hw3
            clear NEXT NONE hno'
            have HE : Hid (outV L s = ⟨#[]⟩ ∧ outB L s = false) := HE
            go_wp2
            go_ret2
            exact ⟨ret_two HE.out, BF.out⟩
  · have HE : Hid (outV L s = ⟨#[]⟩ ∧ outB L s = false) := no_form (fun h => hR h.1)
    rw [okV_no hR] at co
    generalize L.length = n0 at *
    go_enter Try.func14, Try.ntmps14
    go_wp2_with fail
    refine (co _ HN.out).mono ?_
    rintro e w1 ⟨rfl, hb1⟩
    go_wp2
    go_ret2
    exact ⟨ret_two HE.out, hb1⟩
end Go.Proofs.Ytpkecefjoooebaa.Mapk
