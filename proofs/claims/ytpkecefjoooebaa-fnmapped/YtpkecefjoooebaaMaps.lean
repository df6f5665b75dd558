/-
  Contracts of ours for spec.l16Longest and spec.Mapped.
-/
import Derived.Test.YtpkecefjoooebaaMapk
namespace Go.Proofs.Ytpkecefjoooebaa.Mapss
open Go.ChangeShapes Go.WideShapes Go.ChangeAt Go.RowKit Go.Deep
open Pairr (Pair Pairs)
open Chok Mapp
set_option linter.unusedVariables false
set_option linter.unusedSimpArgs false
set_option maxRecDepth 100000
theorem fits_at {s : ByteArray} {at' : Nat} (h : at' ≤ s.size) (p : Pair) : Fits ((T s).drop at') p ↔ at' + p.1.size ≤ s.size ∧ s.extract at' (at' + p.1.size) = p.1 := by
  have e : T (s.extract at' (at' + p.1.size)) = ((T s).drop at').take p.1.size := by
    show (s.extract at' (at' + p.1.size)).data.toList = _
    rw [ByteArray.data_extract, Array.toList_extract, List.extract_eq_take_drop, Nat.add_sub_cancel_left]
  unfold Fits
  rw [List.length_drop, T_len, ← e]
  exact ⟨fun ⟨h1, h2⟩ => ⟨by omega, T_inj h2⟩, fun ⟨h1, h2⟩ => ⟨by omega, by rw [h2]⟩⟩
/-- The best among the first k. -/
def Upto (L : List Pair) (r : List UInt8) (k : Nat) (b : Int) : Prop :=
  (b = -1 ∧ ∀ j (h : j < L.length), j < k → ¬ Fits r L[j]) ∨ ∃ i, ∃ hi : i < L.length, b = (i : Int) ∧ i < k ∧ Fits r L[i] ∧ ∀ j (h : j < L.length), j < k → Fits r L[j] → L[j].1.size ≤ L[i].1.size
theorem upto_skip {L : List Pair} {r : List UInt8} {k : Nat} {b : Int} (h : Upto L r k b) (hk : k < L.length) (hn : ¬ Fits r L[k] ∨ ∃ i, ∃ hi : i < L.length, b = (i : Int) ∧ L[k].1.size ≤ L[i].1.size) : Upto L r (k + 1) b := by
  rcases h with ⟨rfl, h⟩ | ⟨i, hi, rfl, hik, hf, h⟩
  · refine .inl ⟨rfl, fun j hj hjk => ?_⟩
    rcases Nat.lt_or_ge j k with c | c
    · exact h j hj c
    · obtain rfl : j = k := by omega
      rcases hn with hn | ⟨i, hi, e, _⟩
      · exact hn
      · omega
  · refine .inr ⟨i, hi, rfl, by omega, hf, fun j hj hjk hfj => ?_⟩
    rcases Nat.lt_or_ge j k with c | c
    · exact h j hj c hfj
    · obtain rfl : j = k := by omega
      rcases hn with hn | ⟨i', hi', e, hle⟩
      · exact absurd hfj hn
      · obtain rfl : i = i' := by omega
        exact hle
theorem upto_take {L : List Pair} {r : List UInt8} {k : Nat} {b : Int} (h : Upto L r k b) (hk : k < L.length) (hf : Fits r L[k]) (hb : b = -1 ∨ ∃ i, ∃ hi : i < L.length, b = (i : Int) ∧ L[i].1.size < L[k].1.size) : Upto L r (k + 1) (k : Int) := by
  refine .inr ⟨k, hk, rfl, by omega, hf, fun j hj hjk hfj => ?_⟩
  rcases Nat.lt_or_ge j k with c | c
  · rcases h with ⟨rfl, h⟩ | ⟨i, hi, rfl, hik, _, h⟩
    · exact absurd hfj (h j hj c)
    · have h1 := h j hj c hfj
      rcases hb with hb | ⟨i', hi', e, hlt⟩
      · omega
      · obtain rfl : i = i' := by omega
        omega
  · obtain rfl : j = k := by omega
    exact Nat.le_refl _
def LongT (L : List Pair) (r : List UInt8) (e : Ending) : Prop := ((∀ q ∈ L, ¬ Fits r q) ∧ e = .returned (.int .i64 (-1))) ∨ ∃ i, ∃ hi : i < L.length, Best L r L[i] ∧ e = .returned (.int .i64 (i : Int))
theorem long_of {L : List Pair} {r : List UInt8} {b : Int} (h : Upto L r L.length b) : LongT L r (.returned (.int .i64 b)) := by
  rcases h with ⟨rfl, h⟩ | ⟨i, hi, rfl, _, hf, h⟩
  · refine .inl ⟨fun q hq => ?_, rfl⟩
    obtain ⟨j, hj, rfl⟩ := List.getElem_of_mem hq
    exact h j hj hj
  · refine .inr ⟨i, hi, ⟨List.getElem_mem _, hf, fun q hq hfq => ?_⟩, rfl⟩
    obtain ⟨j, hj, rfl⟩ := List.getElem_of_mem hq
    exact h j hj hj hfq
theorem list_eq {s t : ByteArray} (h : s = t) : (s.toList == t.toList) = true := by rw [h]; simp
theorem list_ne {s t : ByteArray} (h : ¬ s = t) : (s.toList == t.toList) = false := by
  rw [beq_eq_false_iff_ne, ByteArray.toList_eq, ByteArray.toList_eq]; exact fun hh => h (T_inj hh)
set_option maxHeartbeats 2000000 in
theorem long_any (a : Option Addr) (cap : Nat) (L : List Pair) (s : ByteArray) (p : Nat) (w : World) (hN : Pairs w a L) (hR : Right L) (hs : s.size ≤ 1048576) (hp : p ≤ s.size) :
    Calls Try.prog 25 #[.slice a L.length cap, .string s, .int .i64 (p : Int)] w fun e w' => LongT L ((T s).drop p) e ∧ ∃ n, w' = w.drewN n := by
  obtain ⟨len, hl⟩ : ∃ len, len = L.length := ⟨_, rfl⟩
  have HL : Hid (len = L.length) := hl
  have hlen : len ≤ 16 := by rw [hl]; exact hR.1
  have HR : Hid (Right L) := hR
  rw [← hl]
  clear hl hR
  go_enter Try.func25, Try.ntmps25
  go_wp2
  go_loopw [7, 8] (fun v i wr => ∃ (k : Nat) (b : Int), k ≤ len ∧ i = .int .i64 k ∧ v = .int .i64 b ∧ Hid (Upto L ((T s).drop p) k b) ∧ Hid (∃ n, wr = w.drewN n)) (fun _ i _ => len - (intOf i).toNat)
  case atStart => exact ⟨0, -1, Nat.zero_le _, rfl, rfl, .inl ⟨rfl, fun j _ h => absurd h (Nat.not_lt_zero _)⟩, ⟨0, rfl⟩⟩
  case round =>
    obtain ⟨k, b, hk, rfl, rfl, hup, hw⟩ := hrel
    by_cases hlt : k < len
    · have hkL : k < L.length := by have := HL.out; omega
      rcases hN with hnil | ⟨bl, off, rfl, hb, hc⟩
      · exfalso; rw [hnil] at hkL; exact absurd hkL (by simp)
      have HC : Hid (∀ i (h : i < L.length), wr.cell? ⟨bl, off + i * 2, none⟩ = some (.string L[i].1)) := fun i h => by
        obtain ⟨n, hn⟩ := hw.out
        rw [hn]; exact (hc i h).1
      have c0 := HC.out k hkL
      have hs4 := (HR.out.2 k hkL).2.1
      have SK := fun h => upto_skip hup.out hkL h
      have TK := fun h1 h2 => upto_take hup.out hkL h1 h2
      rw [fits_at hp] at SK TK
      have UP := hup.out
      clear hc hup
      have hz4 : L[k].1.size ≤ 4 := hs4
      have SZ : Hid (∀ h : ¬ (p + L[k].1.size ≤ s.size ∧ s.extract p (p + L[k].1.size) = L[k].1), Upto L ((T s).drop p) (k + 1) b) := fun h => SK (.inl h)
      have SJ : Hid (∀ i (hi : i < L.length), b = (i : Int) → L[k].1.size ≤ L[i].1.size → Upto L ((T s).drop p) (k + 1) b) := fun i hi e h => SK (.inr ⟨i, hi, e, h⟩)
      have TZ : Hid ((p + L[k].1.size ≤ s.size ∧ s.extract p (p + L[k].1.size) = L[k].1) → b = -1 → Upto L ((T s).drop p) (k + 1) (k : Int)) := fun h1 h2 => TK h1 (.inl h2)
      have TJ : Hid ((p + L[k].1.size ≤ s.size ∧ s.extract p (p + L[k].1.size) = L[k].1) → ∀ i (hi : i < L.length), b = (i : Int) → L[i].1.size < L[k].1.size → Upto L ((T s).drop p) (k + 1) (k : Int)) := fun h1 i hi e h => TK h1 (.inr ⟨i, hi, e, h⟩)
      have BB : Hid (b = -1 ∨ ∃ i, ∃ hi : i < L.length, b = (i : Int)) := by
        rcases UP with ⟨h, _⟩ | ⟨i, hi, h, _⟩
        · exact .inl h
        · exact .inr ⟨i, hi, h⟩
      clear SK TK UP hs4
      generalize L[k].1 = nm at *
      obtain ⟨z, hz⟩ : ∃ z : Nat, z = p + nm.size := ⟨_, rfl⟩
      rw [← hz] at SZ TZ TJ
      have HZ : Hid (z = p + nm.size) := hz
      have ez : (p : Int) + (nm.size : Int) = (z : Int) := by omega
      have ewz : IntKind.i64.wrap (z : Int) = (z : Int) := by rw [IntKind.wrap_i64]; omega
      have p0 : (0 : Int) ≤ (p : Int) := by omega
      have pz : (p : Int) ≤ (z : Int) := by omega
      clear hz
      by_cases g1 : z ≤ s.size
      · have e1 : (z : Int) ≤ (s.size : Int) := by omega
        have e1' : decide ((z : Int) ≤ (s.size : Int)) = true := decide_eq_true e1
        by_cases g2 : s.extract p z = nm
        · have e2 := list_eq g2
          have e2' : (s.extract p z).toList = nm.toList := by rw [g2]
          have YES : Hid (z ≤ s.size ∧ s.extract p z = nm) := ⟨g1, g2⟩
          rcases BB.out with rfl | ⟨i, hi, rfl⟩
          · have US : Hid (Upto L ((T s).drop p) (k + 1) (k : Int)) := TZ.out YES.out rfl
            clear SZ SJ TZ TJ g2 HC
            go_wp2_with fail
            go_quiet (fail)
            go_wp2_with fail
            go_roundw
            case rel => exact ⟨k + 1, _, by omega, by go_num, rfl, US.out, by obtain ⟨n, hn⟩ := hw.out; exact ⟨_, by rw [hn]; first | rfl | exact World.drewN_drewN _ _ _⟩⟩
            case measure => simp [intOf]; omega
          · have c1 := HC.out i hi
            have f0 : ¬ (i : Int) < 0 := by omega
            have f0' : decide ((i : Int) < 0) = false := decide_eq_false f0
            have f1 : (0 : Int) ≤ (i : Int) := by omega
            have f2 : (i : Int) < (len : Int) := by have := HL.out; omega
            have SJi : Hid (nm.size ≤ L[i].1.size → Upto L ((T s).drop p) (k + 1) (i : Int)) := fun h => SJ.out i hi rfl h
            have TJi : Hid (L[i].1.size < nm.size → Upto L ((T s).drop p) (k + 1) (k : Int)) := fun h => TJ.out YES.out i hi rfl h
            have hzi : L[i].1.size ≤ 4 := (HR.out.2 i hi).2.1
            clear SZ SJ TZ TJ g2 HC
            generalize L[i].1 = ni at *
            by_cases g3 : ni.size < nm.size
            · have e3 : (ni.size : Int) < (nm.size : Int) := by omega
              have e3' : decide ((ni.size : Int) < (nm.size : Int)) = true := decide_eq_true e3
              have US : Hid (Upto L ((T s).drop p) (k + 1) (k : Int)) := TJi.out g3
              clear SJi TJi
              go_wp2_with fail
              go_quiet (fail)
              go_wp2_with fail
              go_roundw
              case rel => exact ⟨k + 1, _, by omega, by go_num, rfl, US.out, by obtain ⟨n, hn⟩ := hw.out; exact ⟨_, by rw [hn]; first | rfl | exact World.drewN_drewN _ _ _⟩⟩
              case measure => simp [intOf]; omega
            · have e3 : ¬ (ni.size : Int) < (nm.size : Int) := by omega
              have e3' : decide ((ni.size : Int) < (nm.size : Int)) = false := decide_eq_false e3
              have US : Hid (Upto L ((T s).drop p) (k + 1) (i : Int)) := SJi.out (by omega)
              clear SJi TJi
              go_wp2_with fail
              go_quiet (fail)
              go_wp2_with fail
              go_roundw
              case rel => exact ⟨k + 1, _, by omega, by go_num, rfl, US.out, by obtain ⟨n, hn⟩ := hw.out; exact ⟨_, by rw [hn]; first | rfl | exact World.drewN_drewN _ _ _⟩⟩
              case measure => simp [intOf]; omega
        · have e2 := list_ne g2
          have US : Hid (Upto L ((T s).drop p) (k + 1) b) := SZ.out (fun h => g2 h.2)
          clear SZ SJ TZ TJ HC
          go_wp2_with fail
          go_quiet (fail)
          go_wp2_with fail
          go_roundw
          case rel => exact ⟨k + 1, _, by omega, by go_num, rfl, US.out, by obtain ⟨n, hn⟩ := hw.out; exact ⟨_, by rw [hn]; first | rfl | exact World.drewN_drewN _ _ _⟩⟩
          case measure => simp [intOf]; omega
      · have e1 : ¬ (z : Int) ≤ (s.size : Int) := by omega
        have e1' : decide ((z : Int) ≤ (s.size : Int)) = false := decide_eq_false e1
        have US : Hid (Upto L ((T s).drop p) (k + 1) b) := SZ.out (fun h => g1 h.1)
        clear SZ SJ TZ TJ HC
        go_wp2_with fail
        go_quiet (fail)
        go_wp2_with fail
        go_roundw
        case rel => exact ⟨k + 1, _, by omega, by go_num, rfl, US.out, by obtain ⟨n, hn⟩ := hw.out; exact ⟨_, by rw [hn]; first | rfl | exact World.drewN_drewN _ _ _⟩⟩
        case measure => simp [intOf]; omega
    · have e : k = len := by omega
      subst e
      have HE : Hid (LongT L ((T s).drop p) (.returned (.int .i64 b))) := long_of (by rw [← HL.out]; exact hup.out)
      clear hN
      go_wp2
      go_ret
      exact ⟨HE.out, hw.out⟩
open Mapk (tO info5 str_own info_parts ret_two)
set_option maxHeartbeats 2000000 in
theorem mapped_any (a : Option Addr) (cap : Nat) (L : List Pair) (s : ByteArray) (w : World) (hN : Pairs w a L) (hlen : L.length ≤ 1048576) (hs : s.size ≤ 1048576) :
    Calls Try.prog 13 #[.slice a L.length cap, .string s] w fun e w' => e = .returned (.tuple #[.string (outV L s), .bool (outB L s)]) ∧ Below w.heap.size w w' := by
  have co := fun w h => specOk_any a cap L w h hlen
  have HN : Hid (Pairs w a L) := hN
  clear hN
  by_cases hR : Right L
  · rw [okV_yes hR] at co
    by_cases h2 : 20000 < s.size
    · have HE : Hid (outV L s = ⟨#[]⟩ ∧ outB L s = false) := no_form (fun h => by omega)
      have d2 : decide ((20000 : Int) < (s.size : Int)) = true := decide_eq_true (by omega)
      generalize L.length = n0 at *
      go_enter Try.func13, Try.ntmps13
      go_wp2_with fail
      refine (co _ HN.out).mono ?_
      rintro e w1 ⟨rfl, hb1⟩
      go_wp2
      go_ret2
      exact ⟨ret_two HE.out, hb1⟩
    · have d2 : decide ((20000 : Int) < (s.size : Int)) = false := decide_eq_false (by omega)
      have C0 : Hid (Come L s ((T s).drop 0) []) := Come.start hR (by omega)
      have cl := fun p w h k => long_any a cap L s p w h hR hs k
      have HR : Hid (Right L) := hR
      have hl16 : L.length ≤ 16 := hR.1
      obtain ⟨i0, hi, hz0, hz1, hz2⟩ := info_parts info5
      obtain ⟨n0, hn0⟩ : ∃ n0, n0 = L.length := ⟨_, rfl⟩
      have HL : Hid (n0 = L.length) := hn0
      rw [← hn0] at co cl hl16 ⊢
      clear hn0 hR
      go_enter Try.func13, Try.ntmps13
      go_wp2_with fail
      refine (co _ HN.out).mono ?_
      rintro e w2 ⟨rfl, hb1⟩
      have B2 : Hid (Below w.heap.size w w2) := hb1
      have N2 : Hid (Pairs w2 a L) := HN.out.below hb1
      clear hb1 co HN
      have R0 : Hid ((w2.alloc (.cells #[] 5)).ownsRow w2.heap.size 5 1 (.slice (some ⟨w2.heap.size, 0, none⟩) 0 0) 0 (Lib.byteCells [])) := World.ownsRow_lit w2 #[] 0 (Nat.le_refl _) (Nat.zero_le _) rfl
      go_wp2_with fail
      go_loopw [6, 7] (fun v x wr => ∃ (p : Nat) (ao : Option Addr) (n c : Nat) (out : List UInt8), x = .int .i64 p ∧ v = .slice ao n c ∧ p ≤ s.size ∧ n ≤ 20000 ∧ Hid (n = out.length) ∧ Hid (Come L s ((T s).drop p) out) ∧ Hid (wr.ownsRow w2.heap.size 5 1 (.slice ao n c) n (Lib.byteCells out)) ∧ Hid (Below w2.heap.size w2 wr)) (fun _ x _ => s.size - (intOf x).toNat)
      case atStart => exact ⟨0, _, 0, 0, [], rfl, rfl, by omega, by omega, rfl, C0.out, R0.out, (Below.refl _ _).alloc (Nat.le_refl _) _⟩
      case round =>
        clear C0 R0
        obtain ⟨p, ao, n, c, out, rfl, rfl, hp2, hn2, hno, hcome, hrow, hbel⟩ := hrel
        by_cases hz : p < s.size
        · have y1 : (p : Int) < (s.size : Int) := by omega
          have hne : (T s).drop p ≠ [] := fun h => by have := congrArg List.length h; rw [List.length_drop, T_len] at this; simp at this; omega
          have BF : Hid (Below w.heap.size w wr) := B2.out.trans (hbel.out.mono B2.out.size)
          have NONE : Hid ((∀ q ∈ L, ¬ Fits ((T s).drop p) q) → outV L s = ⟨#[]⟩ ∧ outB L s = false) := fun h => hcome.out.none hne h
          have NEXT : Hid (∀ q, Best L ((T s).drop p) q → Come L s (((T s).drop p).drop q.1.size) (out ++ [Mapp.u8 q.2])) := fun q hq => hcome.out.next hne hq
          clear hcome hne
          go_wp2_with fail
          refine (cl p _ (N2.out.below hbel.out) (by omega)).mono ?_
          rintro e w3 ⟨(⟨hno', rfl⟩ | ⟨i, hi', hbest, rfl⟩), n3, hw3⟩
          · have HE : Hid (outV L s = ⟨#[]⟩ ∧ outB L s = false) := NONE.out hno'
            have B3 : Hid (Below w.heap.size w w3) := by rw [hw3]; exact drewN_below BF.out _
            clear NEXT NONE hno' hw3
            go_wp2
            go_ret2
            exact ⟨ret_two HE.out, B3.out⟩
          · have NX : Hid (Come L s (((T s).drop p).drop L[i].1.size) (out ++ [Mapp.u8 L[i].2])) := NEXT.out _ hbest
            have hfit := ((fits_at hp2 L[i]).1 hbest.2.1).1
            have hsz := size_pos HR.out hbest.1
            have B3 : Hid (Below w2.heap.size w2 w3) := by rw [hw3]; exact drewN_below hbel.out _
            have R3 : w3.ownsRow w2.heap.size 5 1 (.slice ao n c) n (Lib.byteCells out) := by rw [hw3]; exact hrow.out
            clear NEXT NONE hbest hw3 hrow hbel BF
            obtain ⟨bl, off, rfl, c0, c1⟩ : ∃ bl off, a = some ⟨bl, off, none⟩ ∧ w3.cell? ⟨bl, off + i * 2, none⟩ = some (.string L[i].1) ∧ w3.cell? ⟨bl, off + i * 2 + 1, none⟩ = some (.int .i64 L[i].2) := by
              rcases N2.out with hnil | ⟨bl, off, rfl, hb, hc⟩
              · exfalso; rw [hnil] at hi'; exact absurd hi' (by simp)
              · obtain ⟨d0, d1, _⟩ := hc i hi'
                exact ⟨bl, off, rfl, (B3.out.cell (p := ⟨bl, _, none⟩) hb).trans d0, (B3.out.cell (p := ⟨bl, _, none⟩) hb).trans d1⟩
            have hil : (i : Int) < (n0 : Int) := by have := HL.out; omega
            generalize L[i].1 = pt at *
            generalize L[i].2 = pb at *
            have eb := u8_val hsz.2.2
            generalize Mapp.u8 pb = bb at *
            subst eb
            have hb4 : bb.toNat < 256 := bb.toNat_lt
            have eu : IntKind.u8.wrap (bb.toNat : Int) = (bb.toNat : Int) := by rw [IntKind.wrap_u8]; omega
            have i0' : (0 : Int) ≤ (i : Int) := by omega
            have i1' : ¬ (i : Int) < 0 := by omega
            obtain ⟨q, hq⟩ : ∃ q : Nat, q = p + pt.size := ⟨_, rfl⟩
            have HQ : Hid (q = p + pt.size) := hq
            have eq : (p : Int) + (pt.size : Int) = (q : Int) := by omega
            have ewq : IntKind.i64.wrap (q : Int) = (q : Int) := by rw [IntKind.wrap_i64]; omega
            have hqs : q ≤ s.size := by omega
            have hpq : p < q := by omega
            clear hq
            go_wp2_with (at_builtin; refine wpList_append_own _ rfl _ _ tO rfl w2.heap.size 5 i0 (.int .u8 0) 1 1 Try.underlying32 hi hz0 hz1 hz2 rfl (by decide) _ _ _ rfl (R3.alloc _) ⟨w3.heap.size, 0, none⟩ 1 1 [.int .u8 bb.toNat] rfl rfl ?c1 ?c2 ?c3 ?c4 ?c5 ?_)
            case c1 =>
              intro j u hj
              match j, hj with
              | 0, hj => simp at hj; subst hj; simp [Addr.add]
            case c2 => intro u hu; simp at hu; subst hu; rfl
            case c3 => unfold maxLen; omega
            case c4 => omega
            case c5 => simp; have := B3.out.size; omega
            intro v' w6 hown' hgrow _
            have B6 : Hid (Below w2.heap.size w2 w6) := (B3.out.alloc B3.out.size _).grown hgrow (by simp; have := B3.out.size; omega) (fun k ek => (R3.lt k ek).1)
            have c06 : w6.cell? ⟨bl, off + i * 2, none⟩ = some (.string pt) := by
              rcases N2.out with hnil | ⟨bl', off', e', hb, hc⟩
              · exfalso; rw [hnil] at hi'; exact absurd hi' (by simp)
              · cases e'
                exact ((B6.out.cell (p := ⟨bl, _, none⟩) hb).trans (B3.out.cell (p := ⟨bl, _, none⟩) hb).symm).trans c0
            obtain ⟨g', cap', rfl⟩ := ownsRow_succ hown'
            have R6 : Hid (w6.ownsRow w2.heap.size 5 1 (.slice (some ⟨g', 0, none⟩) (n + 1) cap') (n + 1) (Lib.byteCells (out ++ [bb]))) := by
              have e : Lib.byteCells (out ++ [bb]) = Lib.byteCells out ++ [.int .u8 bb.toNat] := by simp [Lib.byteCells]
              rw [e]; exact hown'
            have HNN : Hid (n + 1 = (out ++ [bb]).length) := by show _ = _; rw [List.length_append, hno.out]; rfl
            have NY : Hid (Come L s ((T s).drop q) (out ++ [bb])) := by rw [HQ.out, ← List.drop_drop]; exact NX.out
            have hles : n + 1 ≤ 20000 := by have h1 := NY.out.less; have h2 := NY.out.small; have h3 := HNN.out; omega
            clear hown' hgrow R3 NX c0 c1
            go_wp2
            go_roundw
            case rel => exact ⟨q, _, _, _, _, rfl, rfl, hqs, hles, HNN.out, NY.out, R6.out, B6.out⟩
            case measure => simp [intOf]; omega
        · have y1 : ¬ (p : Int) < (s.size : Int) := by omega
          have HE : Hid (outV L s = ⟨out.toArray⟩ ∧ outB L s = true) := by
            have := hcome.out
            rw [show (T s).drop p = [] from List.eq_nil_of_length_eq_zero (by rw [List.length_drop, T_len]; omega)] at this
            exact this.fin
          have hrw := hrow.out
          rw [hno.out] at hrw
          have hcv := str_own hrw
          rw [← hno.out] at hcv
          have BF : Hid (Below w.heap.size w wr) := B2.out.trans (hbel.out.mono B2.out.size)
          clear hrw
          go_wp2
          go_ret2
          exact ⟨ret_two HE.out, BF.out⟩
  · have HE : Hid (outV L s = ⟨#[]⟩ ∧ outB L s = false) := no_form (fun h => hR h.1)
    rw [okV_no hR] at co
    generalize L.length = n0 at *
    go_enter Try.func13, Try.ntmps13
    go_wp2_with fail
    refine (co _ HN.out).mono ?_
    rintro e w1 ⟨rfl, hb1⟩
    go_wp2
    go_ret2
    exact ⟨ret_two HE.out, hb1⟩
end Go.Proofs.Ytpkecefjoooebaa.Mapss
