/-
  Contracts of ours for the program's reader of expressions (impl.exprParser): skip, run, put, name, bank, opAt.
-/
import Derived.Test.YtlobkgohenebmaaDoorXima
namespace Go.Proofs.YtlobkgohenebmaaDoor.Ximb
open Go.ChangeShapes Go.WideShapes Go.ChangeAt Go.RowKit Go.Deep
open Nodm (cellsOf cells_snoc Own)
open Prsp Xima
set_option linter.unusedVariables false
set_option maxRecDepth 20000

theorem hdK_lt {s : ByteArray} {k : Nat} {c : Int} (h : hdK s k = c) (hc : c ≠ 0) : k < s.size := hd_lt s k (by rw [← hdK_def, h]; exact hc)
theorem RI.pan {pb k : Nat} {s : ByteArray} {w w' : World} {u : TypeId} {pv : Value} (h : Below pb w w') : RI pb s k none w (.panicked [{ v := .iface u pv, recovered := false }]) w' := ⟨⟨u, pv, rfl⟩, h⟩
theorem RI.some {pb k j : Nat} {s : ByteArray} {w w' : World} {L : List Stepx.Node} (hj : k ≤ j) (h : PI w' pb s j L) (hb : BK pb w w') : RI pb s k (some (s.data.toList.drop j, L)) w (.returned (.tuple #[])) w' := ⟨rfl, ⟨j, hj, rfl, h⟩, hb⟩

set_option maxHeartbeats 1000000 in
theorem skip_any (pb k : Nat) (s : ByteArray) (L : List Stepx.Node) (c : Int) (hc : c ≠ 0) (w : World) (h : PI w pb s k L) :
    Calls Tryd.prog 60 #[.pointer (some ⟨pb, 0, none⟩), .int .u8 c] w (RI pb s k (if hdK s k = c then some (s.data.toList.drop (k + 1), L) else none) w) := by
  have H : Hid (PI w pb s k L) := h
  have hl := h.lt
  have hs := h.sz
  clear h
  by_cases hh : hdK s k = c
  · have hk := hdK_lt hh hc
    rw [if_pos hh]
    have d0 : (hdK s k == c) = true := by simpa using hh
    have d1 : (hdK s k != c) = false := by simpa using hh
    have d2 : decide (hdK s k = c) = true := by simpa using hh
    clear hh
    go_enter Tryd.func60, Tryd.ntmps60
    go_wp2_with fail
    refine (next_any pb k s L _ H.out).mono ?_
    rintro e w1 ⟨rfl, p1, b1⟩
    have P1 : Hid (PI w1 pb s k L ∧ BK pb w w1) := ⟨p1, BK.of hl b1⟩
    have c1 := p1.c1
    have f1 := p1.fz 1
    clear p1 b1
    have i1 : IntKind.i64.wrap ((k : Int) + 1) = (k : Int) + 1 := by rw [IntKind.wrap_i64]; omega
    go_wp2
    first | go_end0 | refine bodyPost_ret (results_none rfl _ _ _) rfl ?_
    exact RI.some (Nat.le_succ k) (P1.out.1.at_ (by omega) (by omega)) (P1.out.2.trans bk_set)
  · rw [if_neg hh]
    have d0 : (hdK s k == c) = false := by simpa using hh
    have d1 : (hdK s k != c) = true := by simpa using hh
    have d2 : decide (hdK s k = c) = false := by simpa using hh
    clear hh
    go_enter Tryd.func60, Tryd.ntmps60
    go_wp2_with fail
    refine (next_any pb k s L _ H.out).mono ?_
    rintro e w1 ⟨rfl, p1, b1⟩
    have P1 : Hid (Below pb w w1) := b1.mono (Nat.le_of_lt hl)
    clear p1 b1
    go_wp2
    exact ⟨rfl, RI.pan P1.out⟩

def atOf (w : World) (pb : Nat) : Nat := match w.cell? ⟨pb, 1, none⟩ with
  | some (.int _ z) => z.toNat
  | _ => 0
theorem atOf_ {w : World} {pb k : Nat} {s : ByteArray} {L : List Stepx.Node} (h : PI w pb s k L) : atOf w pb = k := by
  unfold atOf
  rw [h.c1]
  simp
theorem nb_run {c : Int} (h : Names.nbB c = true) : runB c = true := by
  have h := of_decide_eq_true h
  exact decide_eq_true (by omega)
theorem run_cases (c : Int) : Names.nbB c = true ∨ Names.nbB c = false ∧ ((65 ≤ c ∧ c ≤ 70 ∧ runB c = true) ∨ (c < 65 ∧ runB c = false) ∨ (65 ≤ c ∧ 70 < c ∧ runB c = false)) := by
  cases h : Names.nbB c with
  | true => exact .inl rfl
  | false =>
    have h := of_decide_eq_false h
    refine .inr ⟨rfl, ?_⟩
    by_cases h1 : c < 65
    · exact .inr (.inl ⟨h1, decide_eq_false (by omega)⟩)
    · by_cases h2 : 70 < c
      · exact .inr (.inr ⟨by omega, h2, decide_eq_false (by omega)⟩)
      · exact .inl ⟨by omega, by omega, decide_eq_true (by omega)⟩
theorem run_at {s : ByteArray} {k : Nat} (hk : k ≤ s.size) (h : runB (hdK s k) = true) : k < s.size ∧ af (s.data.toList.drop k) = af (s.data.toList.drop (k + 1)) := by
  have hk : k < s.size := by
    rcases Nat.lt_or_ge k s.size with h' | h'
    · exact h'
    · rw [hdK_def, hd_end s k h'] at h; exact absurd h (by decide)
  rw [hdK_def, hd_in s k hk] at h
  exact ⟨hk, af_step s k hk h⟩
theorem run_not {s : ByteArray} {k : Nat} (hk : k ≤ s.size) (h : runB (hdK s k) = false) : af (s.data.toList.drop k) = s.data.toList.drop k := by
  rcases Nat.lt_or_ge k s.size with h' | h'
  · rw [hdK_def, hd_in s k h'] at h
    exact af_stop s k h' h
  · exact af_end s k h'

set_option maxHeartbeats 2000000 in
theorem run_any (pb k : Nat) (s : ByteArray) (L : List Stepx.Node) (w : World) (h : PI w pb s k L) :
    Calls Tryd.prog 61 #[.pointer (some ⟨pb, 0, none⟩)] w fun e w' => e = .returned (.tuple #[]) ∧ (∃ j, k ≤ j ∧ j ≤ s.size ∧ af (s.data.toList.drop k) = s.data.toList.drop j ∧ PI w' pb s j L) ∧ BK pb w w' := by
  have H : Hid (PI w pb s k L) := h
  have hs := h.sz
  clear h
  go_enter Tryd.func61, Tryd.ntmps61
  go_wp2_with fail
  go_loopw [] (fun wr => ∃ j, k ≤ j ∧ j ≤ s.size ∧ Hid (af (s.data.toList.drop k) = af (s.data.toList.drop j) ∧ PI wr pb s j L ∧ BK pb w wr)) (fun wr => s.size - Ximb.atOf wr pb)
  case atStart => exact ⟨k, Nat.le_refl _, hs.1, rfl, H.out, BK.refl _ _⟩
  case round =>
    obtain ⟨j, hkj, hj, Q⟩ := hrel
    clear H
    have hat := atOf_ Q.out.2.1
    have hl := Q.out.2.1.lt
    go_wp2_with fail
    refine (next_any pb j s L _ Q.out.2.1).mono ?_
    rintro e w1 ⟨rfl, p1, b1⟩
    have P1 : Hid (PI w1 pb s j L ∧ BK pb w w1) := ⟨p1, Q.out.2.2.trans (BK.of hl b1)⟩
    have hl1 := p1.lt
    clear p1 b1 hl
    obtain ⟨c, hc⟩ : ∃ c, c = hdK s j := ⟨_, rfl⟩
    have HC : Hid (c = hdK s j) := hc
    rw [← hc]
    clear hc
    have GO : Hid (runB c = true → j < s.size ∧ af (s.data.toList.drop k) = af (s.data.toList.drop (j + 1))) := fun h => by rw [HC.out] at h; have := run_at hj h; exact ⟨this.1, Q.out.1.trans this.2⟩
    have NO : Hid (runB c = false → af (s.data.toList.drop k) = s.data.toList.drop j) := fun h => by rw [HC.out] at h; exact Q.out.1.trans (run_not hj h)
    go_wp2_with fail
    refine (Names.nameByte_any c _).mono ?_
    rintro e w2 ⟨rfl, hw⟩
    have hw := hw.symm
    subst hw
    rcases run_cases c with h1 | ⟨h1, h2⟩
    · obtain ⟨g1, g2⟩ := GO.out (nb_run h1)
      have G2 : Hid (af (s.data.toList.drop k) = af (s.data.toList.drop (j + 1))) := g2
      rw [h1]
      clear h1 g2
      have c1 := P1.out.1.c1
      have f1 := P1.out.1.fz 1
      have i1 : IntKind.i64.wrap ((j : Int) + 1) = (j : Int) + 1 := by rw [IntKind.wrap_i64]; omega
      have P2 : Hid (PI (w1.setCell ⟨pb, 1, none⟩ (.int .i64 ((j : Int) + 1))) pb s (j + 1) L ∧ BK pb w (w1.setCell ⟨pb, 1, none⟩ (.int .i64 ((j : Int) + 1)))) := ⟨P1.out.1.at_ g1 (by omega), P1.out.2.trans bk_set⟩
      go_wp2_with fail
      go_roundw
      case rel => exact ⟨j + 1, by omega, g1, G2.out, P2.out.1, P2.out.2⟩
      case measure => rw [hat, atOf_ P2.out.1]; omega
    · rw [h1]
      go_wp2_with fail
      refine (next_any pb j s L _ P1.out.1).mono ?_
      rintro e w3 ⟨rfl, p3, b3⟩
      have P3 : Hid (PI w3 pb s j L ∧ BK pb w w3) := ⟨p3, P1.out.2.trans (BK.of hl1 b3)⟩
      have hl3 := p3.lt
      clear p3 b3
      rw [← HC.out]
      rcases h2 with ⟨q1, q2, q3⟩ | ⟨q1, q3⟩ | ⟨q1, q2, q3⟩
      · obtain ⟨g1, g2⟩ := GO.out q3
        have G2 : Hid (af (s.data.toList.drop k) = af (s.data.toList.drop (j + 1))) := g2
        have d1 : decide (65 ≤ c) = true := decide_eq_true q1
        have d2 : decide (c ≤ 70) = true := decide_eq_true q2
        clear g2 q3 h1
        go_wp2_with fail
        refine (next_any pb j s L _ P3.out.1).mono ?_
        rintro e w4 ⟨rfl, p4, b4⟩
        have P4 : Hid (PI w4 pb s j L ∧ BK pb w w4) := ⟨p4, P3.out.2.trans (BK.of hl3 b4)⟩
        clear p4 b4
        rw [← HC.out]
        have c1 := P4.out.1.c1
        have f1 := P4.out.1.fz 1
        have i1 : IntKind.i64.wrap ((j : Int) + 1) = (j : Int) + 1 := by rw [IntKind.wrap_i64]; omega
        have P5 : Hid (PI (w4.setCell ⟨pb, 1, none⟩ (.int .i64 ((j : Int) + 1))) pb s (j + 1) L ∧ BK pb w (w4.setCell ⟨pb, 1, none⟩ (.int .i64 ((j : Int) + 1)))) := ⟨P4.out.1.at_ g1 (by omega), P4.out.2.trans bk_set⟩
        go_wp2_with fail
        go_roundw
        case rel => exact ⟨j + 1, by omega, g1, G2.out, P5.out.1, P5.out.2⟩
        case measure => rw [hat, atOf_ P5.out.1]; omega
      · have d1 : decide (65 ≤ c) = false := decide_eq_false (by omega)
        have F : Hid (af (s.data.toList.drop k) = s.data.toList.drop j) := NO.out q3
        clear q3 h1
        go_wp2_with fail
        first | go_end0 | refine bodyPost_ret (results_none rfl _ _ _) rfl ?_
        exact ⟨rfl, ⟨j, hkj, hj, F.out, P3.out.1⟩, P3.out.2⟩
      · have d1 : decide (65 ≤ c) = true := decide_eq_true q1
        have d2 : decide (c ≤ 70) = false := decide_eq_false (by omega)
        have F : Hid (af (s.data.toList.drop k) = s.data.toList.drop j) := NO.out q3
        clear q3 h1
        go_wp2_with fail
        refine (next_any pb j s L _ P3.out.1).mono ?_
        rintro e w4 ⟨rfl, p4, b4⟩
        have P4 : Hid (PI w4 pb s j L ∧ BK pb w w4) := ⟨p4, P3.out.2.trans (BK.of hl3 b4)⟩
        clear p4 b4
        rw [← HC.out]
        go_wp2_with fail
        first | go_end0 | refine bodyPost_ret (results_none rfl _ _ _) rfl ?_
        exact ⟨rfl, ⟨j, hkj, hj, F.out, P4.out.1⟩, P4.out.2⟩
end Go.Proofs.YtlobkgohenebmaaDoor.Ximb
