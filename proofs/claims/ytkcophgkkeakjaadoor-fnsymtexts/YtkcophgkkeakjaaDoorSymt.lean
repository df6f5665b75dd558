/-
  Contracts of ours for both SymText: what a row of symbols is as a text.
-/
import Derived.Test.YtkcophgkkeakjaaDoorSymr
import Derived.Test.YtkcophgkkeakjaaDoorHexn
import Derived.Test.YtkcophgkkeakjaaDoorBld
import Derived.Deep.QuietTactic
import Derived.BigQuiet
namespace Go.Proofs.YtkcophgkkeakjaaDoor.Symt
open Go.ChangeShapes Go.WideShapes Go.ChangeAt Go.RowKit Go.Deep
open Symr (Sym Syms)
open Hex (inB ret_bool)
open Bld (Holds str_any)
set_option linter.unusedVariables false

theorem isByte_any (n : Int) (w : World) :
    Calls Tryd.prog 26 #[.int .i64 n] w fun e w' => e = .returned (.bool (inB n 0 255)) ∧ w' = w := by
  go_enter Tryd.func26, Tryd.ntmps26
  go_wp2
  all_goals go_ret
  all_goals exact ⟨ret_bool (by rw [Bool.eq_iff_iff]; simp [inB]; try omega), rfl⟩
theorem l4Byte_any (n : Int) (w : World) :
    Calls Tryd.prog 21 #[.int .i64 n] w fun e w' => e = .returned (.bool (inB n 0 255)) ∧ w' = w := by
  have c := fun w => Hex.l1In_any n 0 255 w
  generalize inB n 0 255 = b at c ⊢
  go_enter Tryd.func21, Tryd.ntmps21
  go_wp2_with (go_at_call 42; refine (c _).mono ?_; rintro e w' ⟨rfl, hw'⟩; have hw' := hw'.symm; subst hw')
  go_ret
  exact ⟨rfl, rfl⟩
theorem l4Word_any (n : Int) (w : World) :
    Calls Tryd.prog 22 #[.int .i64 n] w fun e w' => e = .returned (.bool (inB n 0 65535)) ∧ w' = w := by
  have c := fun w => Hex.l1In_any n 0 65535 w
  generalize inB n 0 65535 = b at c ⊢
  go_enter Tryd.func22, Tryd.ntmps22
  go_wp2_with (go_at_call 42; refine (c _).mono ?_; rintro e w' ⟨rfl, hw'⟩; have hw' := hw'.symm; subst hw')
  go_ret
  exact ⟨rfl, rfl⟩

def rise (a b : ByteArray) : Bool := Op.bytesLess a.toList b.toList
def hx (n d : Int) : ByteArray := (Hex.hexS n d).extract 1 (Hex.hexS n d).size
def lineT (x : Sym) : List UInt8 := (hx x.2.1 2).data.toList ++ 58 :: ((hx x.2.2 4).data.toList ++ 32 :: (x.1.data.toList ++ [10]))
def textL (L : List Sym) : List UInt8 := L.flatMap lineT
def OkAt (L : List Sym) (i : Nat) (h : i < L.length) : Prop :=
  Names.nameB L[i].1 = true ∧ inB L[i].2.1 0 255 = true ∧ inB L[i].2.2 0 65535 = true ∧ ∀ h0 : 0 < i, rise (L[i - 1]'(by omega)).1 L[i].1 = true
def Right (L : List Sym) : Prop := L.length ≤ 800 ∧ ∀ i h, OkAt L i h
open Classical in
noncomputable def symT (L : List Sym) : ByteArray := if Right L then ⟨(textL L).toArray⟩ else ⟨#[]⟩
theorem symT_no {L : List Sym} (h : ¬ Right L) : symT L = ⟨#[]⟩ := if_neg h
theorem symT_yes {L : List Sym} (h : Right L) : symT L = ⟨(textL L).toArray⟩ := if_pos h
theorem hex2 {n : Int} (h : inB n 0 255 = true) : (Hex.hexS n 2).size = 3 := by
  obtain ⟨h0, h1⟩ := of_decide_eq_true h
  have := (Hexn.num_hex (n := n) (d := 2) ⟨by omega, by omega, h0, by omega, by show n / (16 ^ 2) = 0; omega⟩).2
  omega
theorem hex4 {n : Int} (h : inB n 0 65535 = true) : (Hex.hexS n 4).size = 5 := by
  obtain ⟨h0, h1⟩ := of_decide_eq_true h
  have := (Hexn.num_hex (n := n) (d := 4) ⟨by omega, by omega, h0, by omega, by show n / (16 ^ 4) = 0; omega⟩).2
  omega
theorem name_le {s : ByteArray} (h : Names.nameB s = true) : 1 ≤ s.size ∧ s.size ≤ 16 := by
  have := of_decide_eq_true h
  exact ⟨this.1, this.2.1⟩
theorem drewN_below {B : Nat} {a b : World} (h : Below B a b) (n : Nat) : Below B a (b.drewN n) := ⟨h.os, h.tape, h.output, h.size, h.block⟩
theorem cat_line (s r2 r4 nm : ByteArray) : (s ++ r2.extract 1 3 ++ ⟨#[58]⟩ ++ r4.extract 1 5 ++ ⟨#[32]⟩ ++ nm ++ ⟨#[10]⟩).data.toList = s.data.toList ++ ((r2.extract 1 3).data.toList ++ 58 :: ((r4.extract 1 5).data.toList ++ 32 :: (nm.data.toList ++ [10]))) := by
  simp [ByteArray.data_append]
theorem cat_size {s r2 r4 nm : ByteArray} (h2 : r2.size = 3) (h4 : r4.size = 5) (hn : nm.size ≤ 16) : (s ++ r2.extract 1 3 ++ ⟨#[58]⟩ ++ r4.extract 1 5 ++ ⟨#[32]⟩ ++ nm ++ ⟨#[10]⟩).size ≤ s.size + 40 := by
  simp only [ByteArray.size_append, ByteArray.size_extract]
  have e1 : (⟨#[58]⟩ : ByteArray).size = 1 := rfl
  have e2 : (⟨#[32]⟩ : ByteArray).size = 1 := rfl
  have e3 : (⟨#[10]⟩ : ByteArray).size = 1 := rfl
  omega
theorem text_snoc (L : List Sym) (k : Nat) (h : k < L.length) : textL (L.take (k + 1)) = textL (L.take k) ++ lineT L[k] := by
  unfold textL
  rw [List.take_add_one, List.getElem?_eq_getElem h, List.flatMap_append]
  simp

set_option maxHeartbeats 1000000 in
theorem specText_any (a : Option Addr) (cap : Nat) (L : List Sym) (w : World) (hN : Syms w a L) (hlen : L.length ≤ 1048576) :
    Calls Tryd.prog 7 #[.slice a L.length cap] w fun e w' => e = .returned (.string (symT L)) ∧ Below w.heap.size w w' := by
  obtain ⟨len, hl⟩ : ∃ len, len = L.length := ⟨_, rfl⟩
  have HL : Hid (len = L.length) := hl
  rw [← hl] at hlen ⊢
  clear hl
  obtain ⟨R, hR⟩ : ∃ R, R = symT L := ⟨_, rfl⟩
  have HR : Hid (R = symT L) := hR
  rw [← hR]
  clear hR
  go_enter Tryd.func7, Tryd.ntmps7
  go_wp2
  go_loopw [3, 4] (fun v i wr => ∃ (k : Nat) (s : ByteArray), k ≤ len ∧ i = .int .i64 k ∧ v = .string s ∧ s.size ≤ 40 * k ∧ k ≤ 800 ∧ Hid (s.data.toList = textL (L.take k)) ∧ Hid (∀ i h, i < k → OkAt L i h) ∧ Hid (Below w.heap.size w wr)) (fun _ i _ => len - (intOf i).toNat)
  case atStart => exact ⟨0, ⟨#[]⟩, Nat.zero_le _, rfl, rfl, Nat.zero_le _, Nat.zero_le _, rfl, fun i _ h => absurd h (Nat.not_lt_zero _), Below.refl _ _⟩
  case round =>
    obtain ⟨k, s, hk, rfl, rfl, hs, hk8, hst, hok, hbel⟩ := hrel
    by_cases hlt : k < len
    · have hkL : k < L.length := by have := HL.out; omega
      rcases hN with hnil | ⟨b, off, rfl, hb, hc⟩
      · exfalso; rw [hnil] at hkL; exact absurd hkL (by simp)
      have HC : Hid (∀ i (h : i < L.length), w.cell? ⟨b, off + i * 3, none⟩ = some (.string L[i].1)) := fun i h => (hc i h).1
      have HB : Hid (b < w.heap.size) := hb
      obtain ⟨c0, c1, c2, hsz⟩ : wr.cell? ⟨b, off + k * 3, none⟩ = some (.string L[k].1) ∧ wr.cell? ⟨b, off + k * 3 + 1, none⟩ = some (.int .i64 L[k].2.1) ∧ wr.cell? ⟨b, off + k * 3 + 2, none⟩ = some (.int .i64 L[k].2.2) ∧ L[k].1.size ≤ maxLen := by
        obtain ⟨d0, d1, d2, d3⟩ := hc k hkL
        exact ⟨(hbel.out.cell (p := ⟨b, _, none⟩) hb).trans d0, (hbel.out.cell (p := ⟨b, _, none⟩) hb).trans d1, (hbel.out.cell (p := ⟨b, _, none⟩) hb).trans d2, d3⟩
      clear hc
      have NO : Hid (¬ OkAt L k hkL → R = ⟨#[]⟩) := fun h => HR.out.trans (symT_no fun h' => h (h'.2 k hkL))
      have N8 : Hid (800 ≤ k → R = ⟨#[]⟩) := fun h => HR.out.trans (symT_no fun h' => by have := h'.1; omega)
      have OK : Hid (OkAt L k hkL → ∀ i h, i < k + 1 → OkAt L i h) := fun h i hi hik => by
        rcases Nat.lt_or_ge i k with h' | h'
        · exact hok.out i hi h'
        · have e : i = k := by omega
          subst e; exact h
      have TX : Hid (textL (L.take (k + 1)) = textL (L.take k) ++ lineT L[k]) := text_snoc L k hkL
      have cn := fun w => Names.specName_any L[k].1 w hsz
      have cb := fun w => l4Byte_any L[k].2.1 w
      have cw := fun w => l4Word_any L[k].2.2 w
      have ch2 := fun w => Hex.specHex_any L[k].2.1 2 w
      have ch4 := fun w => Hex.specHex_any L[k].2.2 4 w
      have OI : Hid (OkAt L k hkL ↔ Names.nameB L[k].1 = true ∧ inB L[k].2.1 0 255 = true ∧ inB L[k].2.2 0 65535 = true ∧ ∀ h0 : 0 < k, rise (L[k - 1]'(by omega)).1 L[k].1 = true) := Iff.rfl
      obtain ⟨pv, hpv, cp⟩ : ∃ pv : ByteArray, (∀ h0 : 0 < k, (L[k - 1]'(by omega)).1 = pv) ∧ (0 < k → wr.cell? ⟨b, off + (k - 1) * 3, none⟩ = some (.string pv)) := by
        by_cases h0 : 0 < k
        · exact ⟨_, fun _ => rfl, fun _ => (hbel.out.cell (p := ⟨b, _, none⟩) hb).trans (HC.out (k - 1) (by omega))⟩
        · exact ⟨⟨#[]⟩, fun h => absurd h h0, fun h => absurd h h0⟩
      have OJ : Hid (OkAt L k hkL ↔ Names.nameB L[k].1 = true ∧ inB L[k].2.1 0 255 = true ∧ inB L[k].2.2 0 65535 = true ∧ (0 < k → rise pv L[k].1 = true)) := OI.out.trans ⟨fun h => ⟨h.1, h.2.1, h.2.2.1, fun h0 => by have := h.2.2.2 h0; rwa [hpv h0] at this⟩, fun h => ⟨h.1, h.2.1, h.2.2.1, fun h0 => by rw [hpv h0]; exact h.2.2.2 h0⟩⟩
      have LT : Hid (lineT L[k] = (hx L[k].2.1 2).data.toList ++ 58 :: ((hx L[k].2.2 4).data.toList ++ 32 :: (L[k].1.data.toList ++ [10]))) := rfl
      clear OI HC hpv
      generalize L[k].1 = nm at *
      generalize L[k].2.1 = bk at *
      generalize L[k].2.2 = vl at *
      have h2 := fun h => hex2 (n := bk) h
      have h4 := fun h => hex4 (n := vl) h
      have hnm := fun h => name_le (s := nm) h
      have hr : rise pv nm = Op.bytesLess pv.toList nm.toList := rfl
      unfold hx at LT
      generalize Hex.hexS bk 2 = r2 at *
      generalize Hex.hexS vl 4 = r4 at *
      have RZ : Hid (¬ (Names.nameB nm = true ∧ inB bk 0 255 = true ∧ inB vl 0 65535 = true ∧ (0 < k → rise pv nm = true)) → R = ⟨#[]⟩) := fun h => NO.out fun h' => h (OJ.out.1 h')
      by_cases hb1 : Names.nameB nm = true
      · rw [hb1] at cn
        by_cases hb2 : inB bk 0 255 = true
        · rw [hb2] at cb
          by_cases hb3 : inB vl 0 65535 = true
          · rw [hb3] at cw
            have z2 := h2 hb2
            have z4 := h4 hb3
            have zn := hnm hb1
            clear h2 h4 hnm
            by_cases hk0 : 0 < k
            · have g0 : decide ((0 : Int) < (k : Int)) = true := decide_eq_true (by omega)
              obtain ⟨j, ej, jl, cp'⟩ : ∃ j : Nat, (k : Int) - 1 = (j : Int) ∧ (j : Int) < (len : Int) ∧ ∀ o, (wr.alloc o).cell? ⟨b, off + j * 3, none⟩ = some (.string pv) := ⟨k - 1, by omega, by omega, fun o => (World.cell?_of_block (a := ⟨b, _, none⟩) (Below.heap_alloc _ _ _ (Nat.lt_of_lt_of_le HB.out hbel.out.size))).trans (cp hk0)⟩
              have j0 : (0 : Int) ≤ (j : Int) := by omega
              have ew : IntKind.i64.wrap (j : Int) = (j : Int) := by rw [IntKind.wrap_i64]; omega
              by_cases hrs : Op.bytesLess pv.toList nm.toList = true
              · have RI : Hid (OkAt L k hkL) := OJ.out.2 ⟨hb1, hb2, hb3, fun _ => hrs⟩
                clear hb1 hb2 hb3
                by_cases hk9 : 800 ≤ k
                · have g8 : decide ((800 : Int) ≤ (k : Int)) = true := decide_eq_true (by omega)
                  go_wp2_with fail
                  go_quiet (first | (go_at_call 20; exact Calls.quiet_of_same (cn _)) | (go_at_call 21; exact Calls.quiet_of_same (cb _)) | (go_at_call 22; exact Calls.quiet_of_same (cw _)))
                  go_wp2
                  go_ret
                  exact ⟨by rw [N8.out hk9]; rfl, drewN_below (hbel.out.alloc hbel.out.size _) _⟩
                · have g8 : decide ((800 : Int) ≤ (k : Int)) = false := decide_eq_false (by omega)
                  go_wp2_with fail
                  go_quiet (first | (go_at_call 20; exact Calls.quiet_of_same (cn _)) | (go_at_call 21; exact Calls.quiet_of_same (cb _)) | (go_at_call 22; exact Calls.quiet_of_same (cw _)))
                  go_wp2_with fail
                  go_quiet (first | (go_at_call_of 23 (Value.int .i64 bk); exact (ch2 _).mono fun e w'' h => ⟨h.1, _, h.2⟩) | (go_at_call_of 23 (Value.int .i64 vl); exact (ch4 _).mono fun e w'' h => ⟨h.1, _, h.2⟩))
                  go_wp2_with fail
                  go_roundw
                  case rel => exact ⟨k + 1, _, by omega, by go_num, rfl, by have := cat_size (s := s) (nm := nm) z2 z4 zn.2; omega, by omega, by show _ = _; rw [cat_line, hst.out, TX.out, LT.out, z2, z4], OK.out RI.out, drewN_below (hbel.out.alloc hbel.out.size _) _⟩
                  case measure => simp [intOf]; omega
              · have hrs : Op.bytesLess pv.toList nm.toList = false := by simpa using hrs
                have RI : Hid (R = ⟨#[]⟩) := RZ.out fun h => by have := h.2.2.2 hk0; rw [hr, hrs] at this; cases this
                go_wp2_with fail
                go_quiet (first | (go_at_call 20; exact Calls.quiet_of_same (cn _)) | (go_at_call 21; exact Calls.quiet_of_same (cb _)) | (go_at_call 22; exact Calls.quiet_of_same (cw _)))
                go_wp2
                go_ret
                exact ⟨by rw [RI.out]; rfl, drewN_below (hbel.out.alloc hbel.out.size _) _⟩
            · have g0 : decide ((0 : Int) < (k : Int)) = false := decide_eq_false (by omega)
              have g8 : decide ((800 : Int) ≤ (k : Int)) = false := decide_eq_false (by omega)
              have RI : Hid (OkAt L k hkL) := OJ.out.2 ⟨hb1, hb2, hb3, fun h => absurd h hk0⟩
              clear hb1 hb2 hb3
              go_wp2_with fail
              go_quiet (first | (go_at_call 20; exact Calls.quiet_of_same (cn _)) | (go_at_call 21; exact Calls.quiet_of_same (cb _)) | (go_at_call 22; exact Calls.quiet_of_same (cw _)))
              go_wp2_with fail
              go_quiet (first | (go_at_call_of 23 (Value.int .i64 bk); exact (ch2 _).mono fun e w'' h => ⟨h.1, _, h.2⟩) | (go_at_call_of 23 (Value.int .i64 vl); exact (ch4 _).mono fun e w'' h => ⟨h.1, _, h.2⟩))
              go_wp2_with fail
              go_roundw
              case rel => exact ⟨k + 1, _, by omega, by go_num, rfl, by have := cat_size (s := s) (nm := nm) z2 z4 zn.2; omega, by omega, by show _ = _; rw [cat_line, hst.out, TX.out, LT.out, z2, z4], OK.out RI.out, drewN_below (hbel.out.alloc hbel.out.size _) _⟩
              case measure => simp [intOf]; omega
          · have hb3 : inB vl 0 65535 = false := by simpa using hb3
            rw [hb3] at cw
            have RI : Hid (R = ⟨#[]⟩) := RZ.out fun h => by rw [hb3] at h; cases h.2.2.1
            go_wp2_with fail
            go_quiet (first | (go_at_call 20; exact Calls.quiet_of_same (cn _)) | (go_at_call 21; exact Calls.quiet_of_same (cb _)) | (go_at_call 22; exact Calls.quiet_of_same (cw _)))
            go_wp2
            go_ret
            exact ⟨by rw [RI.out]; rfl, drewN_below (hbel.out.alloc hbel.out.size _) _⟩
        · have hb2 : inB bk 0 255 = false := by simpa using hb2
          rw [hb2] at cb
          have RI : Hid (R = ⟨#[]⟩) := RZ.out fun h => by rw [hb2] at h; cases h.2.1
          go_wp2_with fail
          go_quiet (first | (go_at_call 20; exact Calls.quiet_of_same (cn _)) | (go_at_call 21; exact Calls.quiet_of_same (cb _)) | (go_at_call 22; exact Calls.quiet_of_same (cw _)))
          go_wp2
          go_ret
          exact ⟨by rw [RI.out]; rfl, drewN_below (hbel.out.alloc hbel.out.size _) _⟩
      · have hb1 : Names.nameB nm = false := by simpa using hb1
        rw [hb1] at cn
        have RI : Hid (R = ⟨#[]⟩) := RZ.out fun h => by rw [hb1] at h; cases h.1
        go_wp2_with fail
        go_quiet (first | (go_at_call 20; exact Calls.quiet_of_same (cn _)) | (go_at_call 21; exact Calls.quiet_of_same (cb _)) | (go_at_call 22; exact Calls.quiet_of_same (cw _)))
        go_wp2
        go_ret
        exact ⟨by rw [RI.out]; rfl, drewN_below (hbel.out.alloc hbel.out.size _) _⟩
    · have e : k = len := by omega
      subst e
      have HE : Hid (R = s) := by
        show R = s
        rw [HR.out, symT_yes ⟨by rw [← HL.out]; exact hk8, fun i h => hok.out i h (by rw [HL.out]; exact h)⟩]
        have := hst.out
        rw [HL.out, List.take_length] at this
        apply ByteArray.ext
        rw [← this]
      clear hN
      go_wp2
      go_ret
      exact ⟨by rw [HE.out]; rfl, hbel.out⟩


open Bld (str_kept holds_below holds_new holds_lt holds_row)
theorem tab_below {w w' : World} (h : Nums.Tab w) (hb : Below w.heap.size w w') : Nums.Tab w' := fun i hi => (hb.cell (p := ⟨0, i, none⟩) (Hex.size_pos h)).trans (h i hi)
/-- Within a round: the symbol's copy at its block, the builder, what was there. -/
def At (w0 W : World) (B ib : Nat) (nm : ByteArray) (bk vl : Int) (v : Value) (bs : List Value) : Prop :=
  Below w0.heap.size w0 W ∧ w0.heap.size ≤ ib ∧ W.cell? ⟨B, 0, none⟩ = some (.string nm) ∧ W.cell? ⟨B, 1, none⟩ = some (.int .i64 bk) ∧ W.cell? ⟨B, 2, none⟩ = some (.int .i64 vl) ∧ B < W.heap.size ∧ B ≠ ib ∧ v.ownBlock ≠ some B ∧ W.cell? ⟨ib, 1, none⟩ = some v ∧ Holds ib ib bs W
theorem At.below {w0 W W' : World} {B ib : Nat} {nm : ByteArray} {bk vl : Int} {v : Value} {bs : List Value} (h : At w0 W B ib nm bk vl v bs) (hb : Below W.heap.size W W') : At w0 W' B ib nm bk vl v bs := by
  obtain ⟨h0, h1, h2, h3, h4, h5, h6, h7, h8, h9⟩ := h
  exact ⟨h0.trans (hb.mono h0.size), h1, (hb.cell (p := ⟨B, _, none⟩) h5).trans h2, (hb.cell (p := ⟨B, _, none⟩) h5).trans h3, (hb.cell (p := ⟨B, _, none⟩) h5).trans h4, Nat.lt_of_lt_of_le h5 hb.size, h6, h7, (hb.cell (p := ⟨ib, _, none⟩) (holds_lt h9)).trans h8, holds_below h9 hb⟩
theorem drewN_refl (w : World) (n : Nat) : Below w.heap.size w (w.drewN n) := drewN_below (Below.refl _ _) n
theorem undrew {w w2 : World} (h : Below w.drew.heap.size w.drew w2) : Below w.heap.size w w2 := ⟨h.os, h.tape, h.output, h.size, h.block⟩
theorem At.drew {w0 W : World} {B ib : Nat} {nm : ByteArray} {bk vl : Int} {v : Value} {bs : List Value} (h : At w0 W B ib nm bk vl v bs) : At w0 W.drew B ib nm bk vl v bs := h.below ⟨rfl, rfl, rfl, Nat.le_refl _, fun _ _ => rfl⟩
theorem At.new {w0 wr : World} {ib : Nat} {nm : ByteArray} {bk vl : Int} {v : Value} {bs : List Value} (hb : Below w0.heap.size w0 wr) (hi : w0.heap.size ≤ ib) (hH : Holds ib ib bs wr) (hv : wr.cell? ⟨ib, 1, none⟩ = some v) (hl : ∀ k, v.ownBlock = some k → k < wr.heap.size) :
    At w0 (wr.alloc (.cells #[.string nm, .int .i64 bk, .int .i64 vl] 40)) wr.heap.size ib nm bk vl v bs := by
  have hg : Below wr.heap.size wr (wr.alloc (.cells #[.string nm, .int .i64 bk, .int .i64 vl] 40)) := (Below.refl _ _).alloc (Nat.le_refl _) _
  refine ⟨hb.trans (hg.mono hb.size), hi, ?_, ?_, ?_, by simp, ?_, fun h => Nat.lt_irrefl _ (hl _ h), (hg.cell (p := ⟨ib, _, none⟩) (holds_lt hH)).trans hv, holds_below hH hg⟩
  · rw [World.cell?_alloc_new]; rfl
  · rw [World.cell?_alloc_new]; rfl
  · rw [World.cell?_alloc_new]; rfl
  · have := holds_lt hH; omega
/-- Behind a writing: the copy's name, the builder with more. -/
theorem At.wrote {w0 W W' : World} {B ib : Nat} {nm : ByteArray} {bk vl : Int} {v : Value} {bs bs' : List Value} (h : At w0 W B ib nm bk vl v bs) (hH : Holds ib ib bs' W') (hb : Below ib W W') (hz : W.heap.size ≤ W'.heap.size) (hk : ∀ k, k < W.heap.size → k ≠ ib → v.ownBlock ≠ some k → W'.heap[k]? = W.heap[k]?) :
    W'.cell? ⟨B, 0, none⟩ = some (.string nm) ∧ Below w0.heap.size w0 W' ∧ Holds ib ib bs' W' := by
  obtain ⟨h0, h1, h2, h3, h4, h5, h6, h7, h8, h9⟩ := h
  exact ⟨(World.cell?_of_block (a := ⟨B, 0, none⟩) (hk B h5 h6 h7)).trans h2, h0.trans (hb.mono h1), hH⟩

theorem mid_size (T : List UInt8) {n : Nat} (h : T.length ≤ n) (hn : n ≤ 100000) (r2 r4 : ByteArray) : (Lib.byteCells T).length + (r2.extract 1 3 ++ ⟨#[58]⟩ ++ r4.extract 1 5).size ≤ 140737488355328 := by
  rw [Lib.byteCells_length]
  simp only [ByteArray.size_append, ByteArray.size_extract]
  have e1 : (⟨#[58]⟩ : ByteArray).size = 1 := rfl
  omega
theorem last_size (T : List UInt8) {n : Nat} (h : T.length ≤ n) (hn : n ≤ 100000) (r2 r4 nm : ByteArray) (hm : nm.size ≤ 16) : (Lib.byteCells T ++ Lib.strCells (r2.extract 1 3 ++ ⟨#[58]⟩ ++ r4.extract 1 5)).length + (⟨#[32]⟩ ++ nm ++ ⟨#[10]⟩ : ByteArray).size ≤ 140737488355328 := by
  rw [List.length_append, Lib.byteCells_length, Lib.strCells_length]
  simp only [ByteArray.size_append, ByteArray.size_extract]
  have e1 : (⟨#[58]⟩ : ByteArray).size = 1 := rfl
  have e2 : (⟨#[32]⟩ : ByteArray).size = 1 := rfl
  have e3 : (⟨#[10]⟩ : ByteArray).size = 1 := rfl
  omega
theorem line_len {r2 r4 nm : ByteArray} (hm : nm.size ≤ 16) : ((r2.extract 1 3).data.toList ++ 58 :: ((r4.extract 1 5).data.toList ++ 32 :: (nm.data.toList ++ [10]))).length ≤ 40 := by
  have e2 : (r2.extract 1 3).data.toList.length ≤ 2 := by rw [Array.length_toList]; show (r2.extract 1 3).size ≤ 2; rw [ByteArray.size_extract]; omega
  have e4 : (r4.extract 1 5).data.toList.length ≤ 4 := by rw [Array.length_toList]; show (r4.extract 1 5).size ≤ 4; rw [ByteArray.size_extract]; omega
  have en : nm.data.toList.length ≤ 16 := by rw [Array.length_toList]; exact hm
  simp only [List.length_append, List.length_cons, List.length_nil]
  omega
theorem two_cells (T : List UInt8) (r2 r4 nm : ByteArray) : Lib.byteCells T ++ Lib.strCells (r2.extract 1 3 ++ ⟨#[58]⟩ ++ r4.extract 1 5) ++ Lib.strCells (⟨#[32]⟩ ++ nm ++ ⟨#[10]⟩) = Lib.byteCells (T ++ ((r2.extract 1 3).data.toList ++ 58 :: ((r4.extract 1 5).data.toList ++ 32 :: (nm.data.toList ++ [10])))) := by
  unfold Lib.strCells Lib.byteCells
  simp [ByteArray.data_append]

set_option maxHeartbeats 1000000 in
theorem implText_any (a : Option Addr) (cap : Nat) (L : List Sym) (w : World) (hN : Syms w a L) (hlen : L.length ≤ 1048576) (hT : Nums.Tab w) :
    Calls Tryd.prog 9 #[.slice a L.length cap] w fun e w' => e = .returned (.string (symT L)) ∧ Below w.heap.size w w' := by
  obtain ⟨len, hl⟩ : ∃ len, len = L.length := ⟨_, rfl⟩
  have HL : Hid (len = L.length) := hl
  rw [← hl] at hlen ⊢
  clear hl
  obtain ⟨R, hR⟩ : ∃ R, R = symT L := ⟨_, rfl⟩
  have HR : Hid (R = symT L) := hR
  rw [← hR]
  clear hR
  have HT : Hid (Nums.Tab w) := hT
  clear hT
  by_cases h8 : 800 < len
  · have HZ : Hid (R = ⟨#[]⟩) := HR.out.trans (symT_no fun h => by have := h.1; have := HL.out; omega)
    clear hN
    go_enter Tryd.func9, Tryd.ntmps9
    go_wp2
    go_ret
    exact ⟨by rw [HZ.out]; rfl, Below.refl _ _⟩
  have HH : Hid (Holds w.heap.size w.heap.size [] (w.alloc (.cells #[.pointer none, .slice none 0 0] 46))) := holds_new w
  have HB0 : Hid (Below w.heap.size w (w.alloc (.cells #[.pointer none, .slice none 0 0] 46))) := (Below.refl _ _).alloc (Nat.le_refl _) _
  go_enter Tryd.func9, Tryd.ntmps9
  go_wp2_with fail
  generalize w.alloc (.cells #[.pointer none, .slice none 0 0] 46) = W0 at HH HB0 ⊢
  obtain ⟨ib, hib⟩ : ∃ ib, ib = w.heap.size := ⟨_, rfl⟩
  have HI : Hid (ib = w.heap.size) := hib
  rw [← hib] at HH ⊢
  clear hib
  go_loopw [11] (fun i wr => ∃ (k : Nat), k ≤ len ∧ i = .int .i64 k ∧ Hid (Holds ib ib (Lib.byteCells (textL (L.take k))) wr) ∧ Hid ((textL (L.take k)).length ≤ 40 * k) ∧ Hid (∀ i h, i < k → OkAt L i h) ∧ Hid (Below w.heap.size w wr)) (fun i _ => len - (intOf i).toNat)
  case atStart => exact ⟨0, Nat.zero_le _, rfl, HH.out, Nat.zero_le _, fun i _ h => absurd h (Nat.not_lt_zero _), HB0.out⟩
  case round =>
    clear HH HB0
    obtain ⟨k, hk, rfl, hhold, hst, hok, hbel⟩ := hrel
    by_cases hlt : k < len
    · have hkL : k < L.length := by have := HL.out; omega
      rcases hN with hnil | ⟨b, off, rfl, hb, hc⟩
      · exfalso; rw [hnil] at hkL; exact absurd hkL (by simp)
      have HC : Hid (∀ i (h : i < L.length), w.cell? ⟨b, off + i * 3, none⟩ = some (.string L[i].1)) := fun i h => (hc i h).1
      have HB : Hid (b < w.heap.size) := hb
      obtain ⟨c0, c1, c2, hsz⟩ : wr.cell? ⟨b, off + k * 3, none⟩ = some (.string L[k].1) ∧ wr.cell? ⟨b, off + k * 3 + 1, none⟩ = some (.int .i64 L[k].2.1) ∧ wr.cell? ⟨b, off + k * 3 + 2, none⟩ = some (.int .i64 L[k].2.2) ∧ L[k].1.size ≤ maxLen := by
        obtain ⟨d0, d1, d2, d3⟩ := hc k hkL
        exact ⟨(hbel.out.cell (p := ⟨b, _, none⟩) hb).trans d0, (hbel.out.cell (p := ⟨b, _, none⟩) hb).trans d1, (hbel.out.cell (p := ⟨b, _, none⟩) hb).trans d2, d3⟩
      clear hc
      have NO : Hid (¬ OkAt L k hkL → R = ⟨#[]⟩) := fun h => HR.out.trans (symT_no fun h' => h (h'.2 k hkL))
      have OK : Hid (OkAt L k hkL → ∀ i h, i < k + 1 → OkAt L i h) := fun h i hi hik => by
        rcases Nat.lt_or_ge i k with h' | h'
        · exact hok.out i hi h'
        · have e : i = k := by omega
          subst e; exact h
      have TX : Hid (textL (L.take (k + 1)) = textL (L.take k) ++ lineT L[k]) := text_snoc L k hkL
      have cn := fun w => Names.implName_any L[k].1 w hsz
      have cb := fun w => isByte_any L[k].2.1 w
      have cw := fun w => Hex.isWord_any L[k].2.2 w
      have ch2 := fun w hT => Hex.implHex_any L[k].2.1 2 w hT
      have ch4 := fun w hT => Hex.implHex_any L[k].2.2 4 w hT
      have OI : Hid (OkAt L k hkL ↔ Names.nameB L[k].1 = true ∧ inB L[k].2.1 0 255 = true ∧ inB L[k].2.2 0 65535 = true ∧ ∀ h0 : 0 < k, rise (L[k - 1]'(by omega)).1 L[k].1 = true) := Iff.rfl
      obtain ⟨pv, hpv, cp⟩ : ∃ pv : ByteArray, (∀ h0 : 0 < k, (L[k - 1]'(by omega)).1 = pv) ∧ (0 < k → wr.cell? ⟨b, off + (k - 1) * 3, none⟩ = some (.string pv)) := by
        by_cases h0 : 0 < k
        · exact ⟨_, fun _ => rfl, fun _ => (hbel.out.cell (p := ⟨b, _, none⟩) hb).trans (HC.out (k - 1) (by omega))⟩
        · exact ⟨⟨#[]⟩, fun h => absurd h h0, fun h => absurd h h0⟩
      have OJ : Hid (OkAt L k hkL ↔ Names.nameB L[k].1 = true ∧ inB L[k].2.1 0 255 = true ∧ inB L[k].2.2 0 65535 = true ∧ (0 < k → rise pv L[k].1 = true)) := OI.out.trans ⟨fun h => ⟨h.1, h.2.1, h.2.2.1, fun h0 => by have := h.2.2.2 h0; rwa [hpv h0] at this⟩, fun h => ⟨h.1, h.2.1, h.2.2.1, fun h0 => by rw [hpv h0]; exact h.2.2.2 h0⟩⟩
      have LT : Hid (lineT L[k] = (hx L[k].2.1 2).data.toList ++ 58 :: ((hx L[k].2.2 4).data.toList ++ 32 :: (L[k].1.data.toList ++ [10]))) := rfl
      clear OI HC hpv
      generalize L[k].1 = nm at *
      generalize L[k].2.1 = bk at *
      generalize L[k].2.2 = vl at *
      have h2 := fun h => hex2 (n := bk) h
      have h4 := fun h => hex4 (n := vl) h
      have hnm := fun h => name_le (s := nm) h
      have hr : rise pv nm = Op.bytesLess pv.toList nm.toList := rfl
      unfold hx at LT
      generalize Hex.hexS bk 2 = r2 at *
      generalize Hex.hexS vl 4 = r4 at *
      have RZ : Hid (¬ (Names.nameB nm = true ∧ inB bk 0 255 = true ∧ inB vl 0 65535 = true ∧ (0 < k → rise pv nm = true)) → R = ⟨#[]⟩) := fun h => NO.out fun h' => h (OJ.out.1 h')
      obtain ⟨rv, hrv, hrl⟩ := holds_row hhold.out
      have AT : Hid (At w (wr.alloc (.cells #[.string nm, .int .i64 bk, .int .i64 vl] 40)) wr.heap.size ib nm bk vl rv (Lib.byteCells (textL (L.take k)))) := At.new hbel.out (Nat.le_of_eq HI.out.symm) hhold.out hrv hrl
      clear hrv hrl
      by_cases hrs : 0 < k ∧ Op.bytesLess pv.toList nm.toList = false
      · obtain ⟨hk0, hrs⟩ := hrs
        have RI : Hid (R = ⟨#[]⟩) := RZ.out fun h => by have := h.2.2.2 hk0; rw [hr, hrs] at this; cases this
        have g0 : decide ((0 : Int) < (k : Int)) = true := decide_eq_true (by omega)
        obtain ⟨j, ej, jl, cp'⟩ : ∃ j : Nat, (k : Int) - 1 = (j : Int) ∧ (j : Int) < (len : Int) ∧ ∀ o, (wr.alloc o).cell? ⟨b, off + j * 3, none⟩ = some (.string pv) := ⟨k - 1, by omega, by omega, fun o => (World.cell?_of_block (a := ⟨b, _, none⟩) (Below.heap_alloc _ _ _ (Nat.lt_of_lt_of_le HB.out hbel.out.size))).trans (cp hk0)⟩
        have j0 : (0 : Int) ≤ (j : Int) := by omega
        have ew : IntKind.i64.wrap (j : Int) = (j : Int) := by rw [IntKind.wrap_i64]; omega
        go_wp2_with fail
        go_quiet (first | (go_at_call 25; exact Calls.quiet_of_same (cn _)) | (go_at_call 26; exact Calls.quiet_of_same (cb _)) | (go_at_call 27; exact Calls.quiet_of_same (cw _)))
        go_wp2
        go_ret
        exact ⟨by rw [RI.out]; rfl, drewN_below (hbel.out.alloc hbel.out.size _) _⟩
      · by_cases hb1 : Names.nameB nm = true
        · rw [hb1] at cn
          by_cases hb2 : inB bk 0 255 = true
          · rw [hb2] at cb
            by_cases hb3 : inB vl 0 65535 = true
            · rw [hb3] at cw
              have z2 := h2 hb2
              have z4 := h4 hb3
              have zn := hnm hb1
              clear h2 h4 hnm
              by_cases hk0 : 0 < k
              · have g0 : decide ((0 : Int) < (k : Int)) = true := decide_eq_true (by omega)
                obtain ⟨j, ej, jl, cp'⟩ : ∃ j : Nat, (k : Int) - 1 = (j : Int) ∧ (j : Int) < (len : Int) ∧ ∀ o, (wr.alloc o).cell? ⟨b, off + j * 3, none⟩ = some (.string pv) := ⟨k - 1, by omega, by omega, fun o => (World.cell?_of_block (a := ⟨b, _, none⟩) (Below.heap_alloc _ _ _ (Nat.lt_of_lt_of_le HB.out hbel.out.size))).trans (cp hk0)⟩
                have j0 : (0 : Int) ≤ (j : Int) := by omega
                have ew : IntKind.i64.wrap (j : Int) = (j : Int) := by rw [IntKind.wrap_i64]; omega
                have hrs : Op.bytesLess pv.toList nm.toList = true := by
                  cases hq : Op.bytesLess pv.toList nm.toList
                  · exact absurd ⟨hk0, hq⟩ hrs
                  · rfl
                have RI : Hid (OkAt L k hkL) := OJ.out.2 ⟨hb1, hb2, hb3, fun _ => hrs⟩
                clear hb1 hb2 hb3
                go_wp2_with fail
                go_quiet (first | (go_at_call 25; exact Calls.quiet_of_same (cn _)) | (go_at_call 26; exact Calls.quiet_of_same (cb _)) | (go_at_call 27; exact Calls.quiet_of_same (cw _)))
                go_wp2_with fail
                have A1 : Hid (At w ((wr.alloc (.cells #[.string nm, .int .i64 bk, .int .i64 vl] 40)).drewN nq) wr.heap.size ib nm bk vl rv (Lib.byteCells (textL (L.take k)))) := AT.out.below (drewN_refl _ _)
                clear AT
                generalize (wr.alloc (.cells #[.string nm, .int .i64 bk, .int .i64 vl] 40)).drewN nq = W1 at A1 ⊢
                generalize wr.heap.size = B at A1 ⊢
                have q1 := A1.out.2.2.2.1
                have q2 := A1.out.2.2.2.2.1
                go_region_with (first
                  | (go_at_call_of 29 (Value.int .i64 bk); refine (ch2 _ (tab_below HT.out A1.out.drew.1)).mono ?_; rintro e w4 ⟨rfl, b4⟩; have A4 : Hid (At w w4 B ib nm bk vl rv (Lib.byteCells (textL (L.take k)))) := A1.out.below (undrew b4); have q3 := A4.out.2.2.2.2.1; clear b4)
                  | (go_at_call_of 29 (Value.int .i64 vl); refine (ch4 _ (tab_below HT.out A4.out.1)).mono ?_; rintro e w5 ⟨rfl, b5⟩; have A5 : Hid (At w w5 B ib nm bk vl rv (Lib.byteCells (textL (L.take k)))) := A4.out.below b5; clear b5)
                  | (go_at_call 28; refine (str_kept ib ib _ _ rv _ A5.out.2.2.2.2.2.2.2.2.2 A5.out.2.2.2.2.2.2.2.2.1 (mid_size _ hst.out (by omega) _ _) (Nat.le_of_lt (holds_lt A5.out.2.2.2.2.2.2.2.2.2))).mono ?_; rintro e w6 ⟨rfl, h6, b6, z6, k6⟩; have A6 : Hid (w6.cell? ⟨B, 0, none⟩ = some (.string nm) ∧ Below w.heap.size w w6 ∧ Holds ib ib (Lib.byteCells (textL (L.take k)) ++ Lib.strCells (r2.extract 1 3 ++ ⟨#[58]⟩ ++ r4.extract 1 5)) w6) := A5.out.wrote h6 b6 z6 k6; clear h6 b6 z6 k6)
                  | fail)
                all_goals
                  have q6 := A6.out.1
                  clear q1 q2 q3
                  go_wp2_with (go_at_call 28; refine (str_any ib ib _ _ _ A6.out.2.2 (last_size _ hst.out (by omega) _ _ _ zn.2) (Nat.le_of_lt (holds_lt A6.out.2.2))).mono ?_; rintro e w7 ⟨rfl, h7, b7⟩; have A7 : Hid (Below w.heap.size w w7 ∧ Holds ib ib (Lib.byteCells (textL (L.take k)) ++ Lib.strCells (r2.extract 1 3 ++ ⟨#[58]⟩ ++ r4.extract 1 5) ++ Lib.strCells (⟨#[32]⟩ ++ nm ++ ⟨#[10]⟩)) w7) := ⟨A6.out.2.1.trans (b7.mono (Nat.le_of_eq HI.out.symm)), h7⟩; clear h7 b7)
                  go_roundw
                  case rel => exact ⟨k + 1, by omega, by go_num, by show Holds _ _ _ _; rw [TX.out, LT.out, z2, z4, ← two_cells]; exact A7.out.2, by show _ ≤ _; rw [TX.out, LT.out, z2, z4, List.length_append]; have := line_len (r2 := r2) (r4 := r4) zn.2; have := hst.out; omega, OK.out RI.out, A7.out.1⟩
                  case measure => simp [intOf]; omega
              · have g0 : decide ((0 : Int) < (k : Int)) = false := decide_eq_false (by omega)
                have RI : Hid (OkAt L k hkL) := OJ.out.2 ⟨hb1, hb2, hb3, fun h => absurd h hk0⟩
                clear hb1 hb2 hb3
                go_wp2_with fail
                go_quiet (first | (go_at_call 25; exact Calls.quiet_of_same (cn _)) | (go_at_call 26; exact Calls.quiet_of_same (cb _)) | (go_at_call 27; exact Calls.quiet_of_same (cw _)))
                go_wp2_with fail
                have A1 : Hid (At w ((wr.alloc (.cells #[.string nm, .int .i64 bk, .int .i64 vl] 40)).drewN nq) wr.heap.size ib nm bk vl rv (Lib.byteCells (textL (L.take k)))) := AT.out.below (drewN_refl _ _)
                clear AT
                generalize (wr.alloc (.cells #[.string nm, .int .i64 bk, .int .i64 vl] 40)).drewN nq = W1 at A1 ⊢
                generalize wr.heap.size = B at A1 ⊢
                have q1 := A1.out.2.2.2.1
                have q2 := A1.out.2.2.2.2.1
                go_region_with (first
                  | (go_at_call_of 29 (Value.int .i64 bk); refine (ch2 _ (tab_below HT.out A1.out.drew.1)).mono ?_; rintro e w4 ⟨rfl, b4⟩; have A4 : Hid (At w w4 B ib nm bk vl rv (Lib.byteCells (textL (L.take k)))) := A1.out.below (undrew b4); have q3 := A4.out.2.2.2.2.1; clear b4)
                  | (go_at_call_of 29 (Value.int .i64 vl); refine (ch4 _ (tab_below HT.out A4.out.1)).mono ?_; rintro e w5 ⟨rfl, b5⟩; have A5 : Hid (At w w5 B ib nm bk vl rv (Lib.byteCells (textL (L.take k)))) := A4.out.below b5; clear b5)
                  | (go_at_call 28; refine (str_kept ib ib _ _ rv _ A5.out.2.2.2.2.2.2.2.2.2 A5.out.2.2.2.2.2.2.2.2.1 (mid_size _ hst.out (by omega) _ _) (Nat.le_of_lt (holds_lt A5.out.2.2.2.2.2.2.2.2.2))).mono ?_; rintro e w6 ⟨rfl, h6, b6, z6, k6⟩; have A6 : Hid (w6.cell? ⟨B, 0, none⟩ = some (.string nm) ∧ Below w.heap.size w w6 ∧ Holds ib ib (Lib.byteCells (textL (L.take k)) ++ Lib.strCells (r2.extract 1 3 ++ ⟨#[58]⟩ ++ r4.extract 1 5)) w6) := A5.out.wrote h6 b6 z6 k6; clear h6 b6 z6 k6)
                  | fail)
                all_goals
                  have q6 := A6.out.1
                  clear q1 q2 q3
                  go_wp2_with (go_at_call 28; refine (str_any ib ib _ _ _ A6.out.2.2 (last_size _ hst.out (by omega) _ _ _ zn.2) (Nat.le_of_lt (holds_lt A6.out.2.2))).mono ?_; rintro e w7 ⟨rfl, h7, b7⟩; have A7 : Hid (Below w.heap.size w w7 ∧ Holds ib ib (Lib.byteCells (textL (L.take k)) ++ Lib.strCells (r2.extract 1 3 ++ ⟨#[58]⟩ ++ r4.extract 1 5) ++ Lib.strCells (⟨#[32]⟩ ++ nm ++ ⟨#[10]⟩)) w7) := ⟨A6.out.2.1.trans (b7.mono (Nat.le_of_eq HI.out.symm)), h7⟩; clear h7 b7)
                  go_roundw
                  case rel => exact ⟨k + 1, by omega, by go_num, by show Holds _ _ _ _; rw [TX.out, LT.out, z2, z4, ← two_cells]; exact A7.out.2, by show _ ≤ _; rw [TX.out, LT.out, z2, z4, List.length_append]; have := line_len (r2 := r2) (r4 := r4) zn.2; have := hst.out; omega, OK.out RI.out, A7.out.1⟩
                  case measure => simp [intOf]; omega
            · have hb3 : inB vl 0 65535 = false := by simpa using hb3
              rw [hb3] at cw
              have RI : Hid (R = ⟨#[]⟩) := RZ.out fun h => by rw [hb3] at h; cases h.2.2.1
              by_cases hk0 : 0 < k
              · have g0 : decide ((0 : Int) < (k : Int)) = true := decide_eq_true (by omega)
                obtain ⟨j, ej, jl, cp'⟩ : ∃ j : Nat, (k : Int) - 1 = (j : Int) ∧ (j : Int) < (len : Int) ∧ ∀ o, (wr.alloc o).cell? ⟨b, off + j * 3, none⟩ = some (.string pv) := ⟨k - 1, by omega, by omega, fun o => (World.cell?_of_block (a := ⟨b, _, none⟩) (Below.heap_alloc _ _ _ (Nat.lt_of_lt_of_le HB.out hbel.out.size))).trans (cp hk0)⟩
                have j0 : (0 : Int) ≤ (j : Int) := by omega
                have ew : IntKind.i64.wrap (j : Int) = (j : Int) := by rw [IntKind.wrap_i64]; omega
                have hrs : Op.bytesLess pv.toList nm.toList = true := by
                  cases hq : Op.bytesLess pv.toList nm.toList
                  · exact absurd ⟨hk0, hq⟩ hrs
                  · rfl
                go_wp2_with fail
                go_quiet (first | (go_at_call 25; exact Calls.quiet_of_same (cn _)) | (go_at_call 26; exact Calls.quiet_of_same (cb _)) | (go_at_call 27; exact Calls.quiet_of_same (cw _)))
                go_wp2
                go_ret
                exact ⟨by rw [RI.out]; rfl, drewN_below (hbel.out.alloc hbel.out.size _) _⟩
              · have g0 : decide ((0 : Int) < (k : Int)) = false := decide_eq_false (by omega)
                go_wp2_with fail
                go_quiet (first | (go_at_call 25; exact Calls.quiet_of_same (cn _)) | (go_at_call 26; exact Calls.quiet_of_same (cb _)) | (go_at_call 27; exact Calls.quiet_of_same (cw _)))
                go_wp2
                go_ret
                exact ⟨by rw [RI.out]; rfl, drewN_below (hbel.out.alloc hbel.out.size _) _⟩
          · have hb2 : inB bk 0 255 = false := by simpa using hb2
            rw [hb2] at cb
            have RI : Hid (R = ⟨#[]⟩) := RZ.out fun h => by rw [hb2] at h; cases h.2.1
            by_cases hk0 : 0 < k
            · have g0 : decide ((0 : Int) < (k : Int)) = true := decide_eq_true (by omega)
              obtain ⟨j, ej, jl, cp'⟩ : ∃ j : Nat, (k : Int) - 1 = (j : Int) ∧ (j : Int) < (len : Int) ∧ ∀ o, (wr.alloc o).cell? ⟨b, off + j * 3, none⟩ = some (.string pv) := ⟨k - 1, by omega, by omega, fun o => (World.cell?_of_block (a := ⟨b, _, none⟩) (Below.heap_alloc _ _ _ (Nat.lt_of_lt_of_le HB.out hbel.out.size))).trans (cp hk0)⟩
              have j0 : (0 : Int) ≤ (j : Int) := by omega
              have ew : IntKind.i64.wrap (j : Int) = (j : Int) := by rw [IntKind.wrap_i64]; omega
              have hrs : Op.bytesLess pv.toList nm.toList = true := by
                cases hq : Op.bytesLess pv.toList nm.toList
                · exact absurd ⟨hk0, hq⟩ hrs
                · rfl
              go_wp2_with fail
              go_quiet (first | (go_at_call 25; exact Calls.quiet_of_same (cn _)) | (go_at_call 26; exact Calls.quiet_of_same (cb _)) | (go_at_call 27; exact Calls.quiet_of_same (cw _)))
              go_wp2
              go_ret
              exact ⟨by rw [RI.out]; rfl, drewN_below (hbel.out.alloc hbel.out.size _) _⟩
            · have g0 : decide ((0 : Int) < (k : Int)) = false := decide_eq_false (by omega)
              go_wp2_with fail
              go_quiet (first | (go_at_call 25; exact Calls.quiet_of_same (cn _)) | (go_at_call 26; exact Calls.quiet_of_same (cb _)) | (go_at_call 27; exact Calls.quiet_of_same (cw _)))
              go_wp2
              go_ret
              exact ⟨by rw [RI.out]; rfl, drewN_below (hbel.out.alloc hbel.out.size _) _⟩
        · have hb1 : Names.nameB nm = false := by simpa using hb1
          rw [hb1] at cn
          have RI : Hid (R = ⟨#[]⟩) := RZ.out fun h => by rw [hb1] at h; cases h.1
          by_cases hk0 : 0 < k
          · have g0 : decide ((0 : Int) < (k : Int)) = true := decide_eq_true (by omega)
            obtain ⟨j, ej, jl, cp'⟩ : ∃ j : Nat, (k : Int) - 1 = (j : Int) ∧ (j : Int) < (len : Int) ∧ ∀ o, (wr.alloc o).cell? ⟨b, off + j * 3, none⟩ = some (.string pv) := ⟨k - 1, by omega, by omega, fun o => (World.cell?_of_block (a := ⟨b, _, none⟩) (Below.heap_alloc _ _ _ (Nat.lt_of_lt_of_le HB.out hbel.out.size))).trans (cp hk0)⟩
            have j0 : (0 : Int) ≤ (j : Int) := by omega
            have ew : IntKind.i64.wrap (j : Int) = (j : Int) := by rw [IntKind.wrap_i64]; omega
            have hrs : Op.bytesLess pv.toList nm.toList = true := by
              cases hq : Op.bytesLess pv.toList nm.toList
              · exact absurd ⟨hk0, hq⟩ hrs
              · rfl
            go_wp2_with fail
            go_quiet (first | (go_at_call 25; exact Calls.quiet_of_same (cn _)) | (go_at_call 26; exact Calls.quiet_of_same (cb _)) | (go_at_call 27; exact Calls.quiet_of_same (cw _)))
            go_wp2
            go_ret
            exact ⟨by rw [RI.out]; rfl, drewN_below (hbel.out.alloc hbel.out.size _) _⟩
          · have g0 : decide ((0 : Int) < (k : Int)) = false := decide_eq_false (by omega)
            go_wp2_with fail
            go_quiet (first | (go_at_call 25; exact Calls.quiet_of_same (cn _)) | (go_at_call 26; exact Calls.quiet_of_same (cb _)) | (go_at_call 27; exact Calls.quiet_of_same (cw _)))
            go_wp2
            go_ret
            exact ⟨by rw [RI.out]; rfl, drewN_below (hbel.out.alloc hbel.out.size _) _⟩
    · have e : k = len := by omega
      subst e
      have HE : Hid (R = ⟨(textL (L.take k)).toArray⟩) := by
        show _ = _
        rw [HR.out, symT_yes ⟨by rw [← HL.out]; omega, fun i h => hok.out i h (by rw [HL.out]; exact h)⟩, HL.out, List.take_length]
      clear hN
      go_wp2_with (go_at_call 30; refine (Tryd.Builder_String_any _ _ _ _ hhold.out (Nat.le_of_lt (holds_lt hhold.out))).mono ?_; rintro e w5 ⟨rfl, b5⟩; have B5 : Hid (Below w.heap.size w w5) := hbel.out.trans (b5.mono (Nat.le_of_eq HI.out.symm)); clear b5)
      go_ret
      exact ⟨by rw [HE.out]; rfl, B5.out⟩

end Go.Proofs.YtkcophgkkeakjaaDoor.Symt
