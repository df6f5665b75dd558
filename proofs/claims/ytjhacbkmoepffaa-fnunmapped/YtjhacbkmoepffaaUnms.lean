/-
  A contract of ours for spec.Unmapped.
-/
import Derived.Test.YtjhacbkmoepffaaUnmp
namespace Go.Proofs.Ytjhacbkmoepffaa.Unms
open Go.ChangeShapes Go.WideShapes Go.ChangeAt Go.RowKit Go.Deep
open Pairr (Pair Pairs)
open Chok Mapp Unmp
set_option linter.unusedVariables false
set_option linter.unusedSimpArgs false
set_option maxRecDepth 100000
set_option maxHeartbeats 2000000 in
theorem unmapped_any (a : Option Addr) (cap : Nat) (L : List Pair) (s : ByteArray) (w : World) (hN : Pairs w a L) (hlen : L.length ≤ 1048576) (hs : s.size ≤ 1048576) :
    Calls Try.prog 6 #[.slice a L.length cap, .string s] w fun e w' => e = .returned (.tuple #[.string (Unmp.outV L s), .bool (Unmp.outB L s)]) ∧ Below w.heap.size w w' := by
  have co := fun w h => specOk_any a cap L w h hlen
  have HN : Hid (Pairs w a L) := hN
  clear hN
  by_cases hR : Right L
  · rw [okV_yes hR] at co
    by_cases h2 : 20000 < s.size
    · have HE : Hid (Unmp.outV L s = ⟨#[]⟩ ∧ Unmp.outB L s = false) := Unmp.no_form (fun h => by omega)
      have d2 : decide ((20000 : Int) < (s.size : Int)) = true := decide_eq_true (by omega)
      generalize L.length = n0 at *
      go_enter Try.func6, Try.ntmps6
      go_wp2_with fail
      refine (co _ HN.out).mono ?_
      rintro e w1 ⟨rfl, hb1⟩
      go_wp2
      go_ret2
      exact ⟨Unmp.ret_two HE.out, hb1⟩
    · have d2 : decide ((20000 : Int) < (s.size : Int)) = false := decide_eq_false (by omega)
      have C0 : Hid (Unmp.Come L s 0 []) := Unmp.Come.start hR (by omega)
      have HR : Hid (Right L) := hR
      have hl16 : L.length ≤ 16 := hR.1
      obtain ⟨n0, hn0⟩ : ∃ n0, n0 = L.length := ⟨_, rfl⟩
      have HL : Hid (n0 = L.length) := hn0
      rw [← hn0] at co hl16 ⊢
      clear hn0 hR
      go_enter Try.func6, Try.ntmps6
      go_wp2_with fail
      refine (co _ HN.out).mono ?_
      rintro e w2 ⟨rfl, hb1⟩
      have B2 : Hid (Below w.heap.size w w2) := hb1
      have N2 : Hid (Pairs w2 a L) := HN.out.below hb1
      clear hb1 co HN
      go_wp2_with fail
      go_loopw [6, 7] (fun v x wr => ∃ (p : Nat) (out : List UInt8), x = .int .i64 p ∧ v = .string ⟨out.toArray⟩ ∧ p ≤ s.size ∧ out.length ≤ 80000 ∧ Hid (Unmp.Come L s p out) ∧ Hid (∃ n, wr = w2.drewN n)) (fun _ x _ => s.size - (intOf x).toNat)
      case atStart => exact ⟨0, [], rfl, rfl, by omega, by simp, C0.out, ⟨0, rfl⟩⟩
      case round =>
        clear C0
        obtain ⟨p, out, rfl, rfl, hp2, hn2, hcome, hbel⟩ := hrel
        by_cases hz : p < s.size
        · have y1 : (p : Int) < (s.size : Int) := by omega
          have NONE : Hid (firstOf L s[p] = none → Unmp.outV L s = ⟨#[]⟩ ∧ Unmp.outB L s = false) := fun h => hcome.out.none hz h
          have NEXT : Hid (∀ q, firstOf L s[p] = some q → Unmp.Come L s (p + 1) (out ++ T q.1)) := fun q hq => hcome.out.next hz hq
          clear hcome
          go_wp2_with fail
          go_loopw [8, 9] (fun v i wx => ∃ (k : Nat) (b : Int), k ≤ n0 ∧ i = .int .i64 k ∧ v = .int .i64 b ∧ Hid (Upto L s[p] k b) ∧ Hid (∃ n, wx = w2.drewN n)) (fun _ i _ => n0 - (intOf i).toNat)
          case atStart => exact ⟨0, -1, Nat.zero_le _, rfl, rfl, .inl ⟨rfl, fun j _ h => absurd h (Nat.not_lt_zero _)⟩, hbel.out⟩
          case round =>
            obtain ⟨k, b, hk, rfl, rfl, hup, hw⟩ := hrel
            by_cases hlt : k < n0
            · have hkL : k < L.length := by have := HL.out; omega
              rcases N2.out with hnil | ⟨bl, off, rfl, hb, hc⟩
              · exfalso; rw [hnil] at hkL; exact absurd hkL (by simp)
              have hc : Hid (∀ i (h : i < L.length), w2.cell? ⟨bl, off + i * 2, none⟩ = some (.string L[i].1) ∧ w2.cell? ⟨bl, off + i * 2 + 1, none⟩ = some (.int .i64 L[i].2) ∧ L[i].1.size ≤ maxLen) := hc
              have HC : Hid (wr.cell? ⟨bl, off + k * 2 + 1, none⟩ = some (.int .i64 L[k].2)) := by
                obtain ⟨n, hn⟩ := hw.out
                rw [hn]; exact (hc.out k hkL).2.1
              have c1 := HC.out
              have TK := fun (e : b = -1) => upto_here (c := s[p]) (by rw [← e]; exact hup.out) hkL
              have SK := fun (e : b = -1) => upto_not (c := s[p]) (by rw [← e]; exact hup.out) hkL
              have SJ := fun h => upto_on hup.out h
              have BB : b = -1 ∨ 0 ≤ b := by
                rcases hup.out with ⟨h, _⟩ | ⟨i, _, h, _⟩
                · exact .inl h
                · right; omega
              clear hup HC
              generalize L[k].2 = bk at *
              have ew : wrap64 (s[p].toNat : Int) = (s[p].toNat : Int) := by have := UInt8.toNat_lt s[p]; unfold wrap64; omega
              rcases BB with rfl | hb0
              · by_cases he : bk = (s[p].toNat : Int)
                · have US : Hid (Upto L s[p] (k + 1) (k : Int)) := TK rfl he
                  have e1 : (bk == (s[p].toNat : Int)) = true := by rw [he]; simp
                  clear TK SK SJ he
                  go_wp2_with fail
                  go_quiet (fail)
                  go_wp2_with fail
                  go_roundw
                  case rel => exact ⟨k + 1, _, by omega, by go_num, rfl, US.out, by obtain ⟨n, hn⟩ := hw.out; exact ⟨_, by rw [hn]; first | rfl | exact World.drewN_drewN _ _ _⟩⟩
                  case measure => simp [intOf]; omega
                · have US : Hid (Upto L s[p] (k + 1) (-1)) := SK rfl he
                  have e1 : (bk == (s[p].toNat : Int)) = false := by simpa using he
                  clear TK SK SJ he
                  go_wp2_with fail
                  go_quiet (fail)
                  go_wp2_with fail
                  go_roundw
                  case rel => exact ⟨k + 1, _, by omega, by go_num, rfl, US.out, by obtain ⟨n, hn⟩ := hw.out; exact ⟨_, by rw [hn]; first | rfl | exact World.drewN_drewN _ _ _⟩⟩
                  case measure => simp [intOf]; omega
              · have US : Hid (Upto L s[p] (k + 1) b) := SJ hb0
                have e1 : ¬ b < 0 := by omega
                have e2 : decide (b < 0) = false := decide_eq_false e1
                clear TK SK SJ
                go_wp2_with fail
                go_quiet (fail)
                go_wp2_with fail
                go_roundw
                case rel => exact ⟨k + 1, _, by omega, by go_num, rfl, US.out, by obtain ⟨n, hn⟩ := hw.out; exact ⟨_, by rw [hn]; first | rfl | exact World.drewN_drewN _ _ _⟩⟩
                case measure => simp [intOf]; omega
            · have hkn : k = n0 := by omega
              subst hkn
              have UE := upto_end (L := L) (c := s[p]) (b := b) (by rw [← HL.out]; exact hup.out)
              rcases UE with ⟨rfl, hno⟩ | ⟨i, hi, rfl, hso⟩
              · have HE : Hid (Unmp.outV L s = ⟨#[]⟩ ∧ Unmp.outB L s = false) := NONE.out hno
                have B3 : Hid (Below w.heap.size w wr) := by obtain ⟨n, hn⟩ := hw.out; rw [hn]; exact drewN_below B2.out _
                go_wp2
                go_ret2
                exact ⟨Unmp.ret_two HE.out, B3.out⟩
              · rcases N2.out with hnil | ⟨bl, off, rfl, hb, hc⟩
                · exfalso; rw [hnil] at hi; exact absurd hi (by simp)
                have hc : Hid (∀ i (h : i < L.length), w2.cell? ⟨bl, off + i * 2, none⟩ = some (.string L[i].1) ∧ w2.cell? ⟨bl, off + i * 2 + 1, none⟩ = some (.int .i64 L[i].2) ∧ L[i].1.size ≤ maxLen) := hc
                have c0 : wr.cell? ⟨bl, off + i * 2, none⟩ = some (.string L[i].1) := by
                  obtain ⟨n, hn⟩ := hw.out
                  rw [hn]; exact (hc.out i hi).1
                have NX : Hid (Unmp.Come L s (p + 1) (out ++ T L[i].1)) := NEXT.out _ hso
                have f0 : ¬ (i : Int) < 0 := by omega
                have f0' : decide ((i : Int) < 0) = false := decide_eq_false f0
                have f1 : (0 : Int) ≤ (i : Int) := by omega
                have f2 : (i : Int) < (k : Int) := by have := HL.out; omega
                have zs : L[i].1.size ≤ 4 := (HR.out.2 i hi).2.1
                clear NEXT NONE hso
                generalize L[i].1 = nm at *
                have ez : (⟨out.toArray⟩ : ByteArray).size = out.length := rfl
                have ee : (⟨out.toArray⟩ : ByteArray) ++ nm = ⟨(out ++ T nm).toArray⟩ := T_inj (by simp [T])
                go_wp2
                go_roundw
                case rel => exact ⟨p + 1, _, by go_num, by first | rfl | rw [ee], by omega, by have := NX.out.less; have := NX.out.small; omega, NX.out, hw.out⟩
                case measure => simp [intOf]; omega
        · obtain rfl : p = s.size := by omega
          have HE : Hid (Unmp.outV L s = ⟨out.toArray⟩ ∧ Unmp.outB L s = true) := hcome.out.fin
          have B3 : Hid (Below w.heap.size w wr) := by obtain ⟨n, hn⟩ := hbel.out; rw [hn]; exact drewN_below B2.out _
          have y1 : ¬ (s.size : Int) < (s.size : Int) := by omega
          clear hcome
          go_wp2
          go_ret2
          exact ⟨Unmp.ret_two HE.out, B3.out⟩
  · have HE : Hid (Unmp.outV L s = ⟨#[]⟩ ∧ Unmp.outB L s = false) := Unmp.no_form (fun h => hR h.1)
    rw [okV_no hR] at co
    generalize L.length = n0 at *
    go_enter Try.func6, Try.ntmps6
    go_wp2_with fail
    refine (co _ HN.out).mono ?_
    rintro e w1 ⟨rfl, hb1⟩
    go_wp2
    go_ret2
    exact ⟨Unmp.ret_two HE.out, hb1⟩
end Go.Proofs.Ytjhacbkmoepffaa.Unms
