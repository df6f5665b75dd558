/-
  Contracts of ours for the program's reader of expressions (impl.exprParser): value, expr.
-/
import Derived.Test.YtlobkgohenebmaaDoorXime
import Derived.Deep.CutRange
namespace Go.Proofs.YtlobkgohenebmaaDoor.Ximf
open Go.ChangeShapes Go.WideShapes Go.ChangeAt Go.RowKit Go.Deep
open Prsp Prsl Xima Ximb Ximc Ximd
set_option linter.unusedVariables false
set_option linter.unusedSimpArgs false
set_option maxRecDepth 20000

abbrev ptr (pb : Nat) : Value := .pointer (some ⟨pb, 0, none⟩)
/-- What value tells at a depth. -/
def VA (pb : Nat) (s : ByteArray) (deep : Int) (f : St → Option St) : Prop := ∀ k L w, PI w pb s k L → Nums.Tab w → Calls Tryd.prog 38 #[ptr pb, .int .i64 deep] w (RI pb s k (f (s.data.toList.drop k, L)) w)
def EA (pb : Nat) (s : ByteArray) (deep : Int) (f : Int → St → Option St) : Prop := ∀ least k L w, 1 ≤ least → least ≤ 7 → PI w pb s k L → Nums.Tab w → Calls Tryd.prog 23 #[ptr pb, .int .i64 least, .int .i64 deep] w (RI pb s k (f least (s.data.toList.drop k, L)) w)

set_option maxHeartbeats 4000000 in
theorem value_zero (pb : Nat) (s : ByteArray) (deep : Int) (hdp : 30 < deep) : VA pb s deep (val 0) := by
  intro k L w h hT
  rw [val_zero]
  clear h hT
  have dd : decide (30 < deep) = true := decide_eq_true hdp
  go_enter Tryd.func38, Tryd.ntmps38
  go_wp2
  exact ⟨rfl, RI.pan (Below.refl _ _)⟩

set_option maxHeartbeats 4000000 in
theorem value_succ (pb n : Nat) (s : ByteArray) (deep : Int) (h0 : 0 ≤ deep) (hdp : deep ≤ 30) (hg : 0 < pb) (hv : VA pb s (deep + 1) (val n)) (he : EA pb s (deep + 1) (lev n)) : VA pb s deep (val (n + 1)) := by
  intro k L w h hT
  have H : Hid (PI w pb s k L) := h
  have hs := h.sz
  have hlt := h.lt
  have HT : Hid (Nums.Tab w) := hT
  have dd : decide (30 < deep) = false := decide_eq_false (by omega)
  have id1 : IntKind.i64.wrap (deep + 1) = deep + 1 := by rw [IntKind.wrap_i64]; omega
  obtain ⟨R, hR⟩ : ∃ R, R = valueF (val n) (lev n 1) (s.data.toList.drop k, L) := ⟨_, rfl⟩
  have HR : Hid (R = valueF (val n) (lev n 1) (s.data.toList.drop k, L)) := hR
  rw [val_succ, ← hR]
  have hl : ∀ k L w, PI w pb s k L → Nums.Tab w → Calls Tryd.prog 23 #[ptr pb, .int .i64 1, .int .i64 (deep + 1)] w (RI pb s k (lev n 1 (s.data.toList.drop k, L)) w) := fun k L w h hT => he 1 k L w (by decide) (by decide) h hT
  clear h hR hT he
  by_cases h45 : hdK s k = 45
  · have hk := hdK_lt h45 (by decide)
    have RQ : Hid (R = (val n (s.data.toList.drop (k + 1), L)).bind (put (4, 0, E0))) := (show R = _ from by
      rw [HR.out]; unfold valueF
      have e : hd (s.data.toList.drop k, L).1 = 45 := by show hd (s.data.toList.drop k) = 45; rw [← hdK_def]; exact h45
      rw [e, if_pos rfl]
      show (val n ((s.data.toList.drop k).tail, L)).bind _ = _
      rw [tl])
    have d45 : (hdK s k == 45) = true := by simpa using h45
    clear HR h45 
    go_enter Tryd.func38, Tryd.ntmps38
    go_wp2_with fail
    refine (next_any pb k s L _ H.out).mono ?_
    rintro e w1 ⟨rfl, p, b⟩
    have P1 : Hid (PI w1 pb s k L ∧ BK pb w w1) := ⟨p, BK.of hlt b⟩
    have cz := p.c1
    have fz := p.fz 1
    clear p b H
    have i1 : IntKind.i64.wrap ((k : Int) + 1) = (k : Int) + 1 := by rw [IntKind.wrap_i64]; omega
    have P2 : Hid (PI (w1.setCell ⟨pb, 1, none⟩ (.int .i64 ((k : Int) + 1))) pb s (k + 1) L ∧ BK pb w (w1.setCell ⟨pb, 1, none⟩ (.int .i64 ((k : Int) + 1)))) := ⟨P1.out.1.at_ (by omega) (by omega), P1.out.2.trans bk_set⟩
    go_wp2_with fail
    refine (hv (k + 1) L _ P2.out.1 (tab_pb hg HT.out P2.out.2.bel)).mono ?_
    intro e w9 h9
    rcases RI.split h9 with ⟨hn, ⟨u, pv, rfl⟩, b9⟩ | ⟨st9, j9, hn, rfl, hj9, hst9, p9, b9⟩
    · exact ⟨rfl, RI.none_of (by rw [RQ.out, hn]; rfl) (P2.out.2.bel.trans b9)⟩
    · have P9 : Hid (PI w9 pb s j9 st9.2 ∧ BK pb w w9) := ⟨p9, P2.out.2.trans b9⟩
      have RQ2 : Hid (R = put (4, 0, E0) (s.data.toList.drop j9, st9.2)) := (show R = _ from by rw [RQ.out, hn]; show put _ st9 = _; rw [← hst9])
      clear h9 p9 b9 hst9 hn RQ cz fz P1 P2
      have RQ : Hid (R = put (4, 0, E0) (s.data.toList.drop j9, st9.2)) := RQ2.out
      clear RQ2
      have ct := put_any pb j9 s st9.2 _ P9.out.1 4 0 E0
      rw [← RQ.out] at ct
      go_wp2_with fail
      refine ct.mono ?_
      intro e wz hz
      rcases RI.split hz with ⟨hn, ⟨u, pv, rfl⟩, bz⟩ | ⟨st, jz, hn, rfl, hjz, hst, pz, bz⟩
      · exact ⟨rfl, RI.none_of hn (P9.out.2.bel.trans bz)⟩
      · have F : Hid (RI pb s k R w (.returned (.tuple #[])) wz) := RI.to hz (by omega) P9.out.2
        clear hz pz bz hst hn ct
        go_wp2_with fail
        first | go_end0 | refine bodyPost_ret (results_none rfl _ _ _) rfl ?_
        exact F.out
  by_cases h126 : hdK s k = 126
  · have hk := hdK_lt h126 (by decide)
    have RQ : Hid (R = (val n (s.data.toList.drop (k + 1), L)).bind (put (5, 0, E0))) := (show R = _ from by
      rw [HR.out]; unfold valueF
      have e : hd (s.data.toList.drop k, L).1 = 126 := by show hd (s.data.toList.drop k) = 126; rw [← hdK_def]; exact h126
      rw [e, if_neg (by decide), if_pos rfl]
      show (val n ((s.data.toList.drop k).tail, L)).bind _ = _
      rw [tl])
    have d45 : (hdK s k == 45) = false := by simpa using h45
    have d126 : (hdK s k == 126) = true := by simpa using h126
    clear HR h126 h45
    go_enter Tryd.func38, Tryd.ntmps38
    go_wp2_with fail
    refine (next_any pb k s L _ H.out).mono ?_
    rintro e w1 ⟨rfl, p, b⟩
    have P1 : Hid (PI w1 pb s k L ∧ BK pb w w1) := ⟨p, BK.of hlt b⟩
    have cz := p.c1
    have fz := p.fz 1
    clear p b H
    have i1 : IntKind.i64.wrap ((k : Int) + 1) = (k : Int) + 1 := by rw [IntKind.wrap_i64]; omega
    have P2 : Hid (PI (w1.setCell ⟨pb, 1, none⟩ (.int .i64 ((k : Int) + 1))) pb s (k + 1) L ∧ BK pb w (w1.setCell ⟨pb, 1, none⟩ (.int .i64 ((k : Int) + 1)))) := ⟨P1.out.1.at_ (by omega) (by omega), P1.out.2.trans bk_set⟩
    go_wp2_with fail
    refine (hv (k + 1) L _ P2.out.1 (tab_pb hg HT.out P2.out.2.bel)).mono ?_
    intro e w9 h9
    rcases RI.split h9 with ⟨hn, ⟨u, pv, rfl⟩, b9⟩ | ⟨st9, j9, hn, rfl, hj9, hst9, p9, b9⟩
    · exact ⟨rfl, RI.none_of (by rw [RQ.out, hn]; rfl) (P2.out.2.bel.trans b9)⟩
    · have P9 : Hid (PI w9 pb s j9 st9.2 ∧ BK pb w w9) := ⟨p9, P2.out.2.trans b9⟩
      have RQ2 : Hid (R = put (5, 0, E0) (s.data.toList.drop j9, st9.2)) := (show R = _ from by rw [RQ.out, hn]; show put _ st9 = _; rw [← hst9])
      clear h9 p9 b9 hst9 hn RQ cz fz P1 P2
      have RQ : Hid (R = put (5, 0, E0) (s.data.toList.drop j9, st9.2)) := RQ2.out
      clear RQ2
      have ct := put_any pb j9 s st9.2 _ P9.out.1 5 0 E0
      rw [← RQ.out] at ct
      go_wp2_with fail
      refine ct.mono ?_
      intro e wz hz
      rcases RI.split hz with ⟨hn, ⟨u, pv, rfl⟩, bz⟩ | ⟨st, jz, hn, rfl, hjz, hst, pz, bz⟩
      · exact ⟨rfl, RI.none_of hn (P9.out.2.bel.trans bz)⟩
      · have F : Hid (RI pb s k R w (.returned (.tuple #[])) wz) := RI.to hz (by omega) P9.out.2
        clear hz pz bz hst hn ct
        go_wp2_with fail
        first | go_end0 | refine bodyPost_ret (results_none rfl _ _ _) rfl ?_
        exact F.out
  by_cases h40 : hdK s k = 40
  · have H40 : Hid (hdK s k = 40) := h40
    have RQ : Hid (R = brF (lev n 1) (s.data.toList.drop k, L)) := (show R = _ from by
      rw [HR.out]; unfold valueF
      have e : hd (s.data.toList.drop k, L).1 = 40 := by show hd (s.data.toList.drop k) = 40; rw [← hdK_def]; exact h40
      rw [e, if_neg (by decide), if_neg (by decide), if_pos rfl])
    have d45 : (hdK s k == 45) = false := by simpa using h45
    have d126 : (hdK s k == 126) = false := by simpa using h126
    have d40 : (hdK s k == 40) = true := by simpa using h40
    clear HR h40 h45 h126
    go_enter Tryd.func38, Tryd.ntmps38
    go_wp2_with fail
    refine (next_any pb k s L _ H.out).mono ?_
    rintro e w1 ⟨rfl, p, b⟩
    have P1 : Hid (PI w1 pb s k L ∧ BK pb w w1) := ⟨p, BK.of hlt b⟩
    have cz := p.c1
    have fz := p.fz 1
    clear p b H
    have ct := bracket_any pb k n deep s L w1 P1.out.1 H40.out h0 (by omega) (tab_pb hg HT.out P1.out.2.bel) hg hl
    rw [← RQ.out] at ct
    go_wp2_with fail
    refine ct.mono ?_
    intro e wz hz
    rcases RI.split hz with ⟨hn, ⟨u, pv, rfl⟩, bz⟩ | ⟨st, jz, hn, rfl, hjz, hst, pz, bz⟩
    · exact ⟨rfl, RI.none_of hn (P1.out.2.bel.trans bz)⟩
    · have F : Hid (RI pb s k R w (.returned (.tuple #[])) wz) := RI.to hz (by omega) P1.out.2
      clear hz pz bz hst hn ct
      go_wp2_with fail
      first | go_end0 | refine bodyPost_ret (results_none rfl _ _ _) rfl ?_
      exact F.out
  have RQ : Hid (R = wordF (lev n 1) (s.data.toList.drop k, L)) := (show R = _ from by
    rw [HR.out]; unfold valueF
    have e : hd (s.data.toList.drop k, L).1 = hdK s k := by rw [hdK_def]
    rw [e, if_neg h45, if_neg h126, if_neg h40])
  have d45 : (hdK s k == 45) = false := by simpa using h45
  have d126 : (hdK s k == 126) = false := by simpa using h126
  have d40 : (hdK s k == 40) = false := by simpa using h40
  clear HR h40 h45 h126
  go_enter Tryd.func38, Tryd.ntmps38
  go_wp2_with fail
  refine (next_any pb k s L _ H.out).mono ?_
  rintro e w1 ⟨rfl, p, b⟩
  have P1 : Hid (PI w1 pb s k L ∧ BK pb w w1) := ⟨p, BK.of hlt b⟩
  have cz := p.c1
  have fz := p.fz 1
  clear p b H
  have ct := Xime.word_any pb k n deep s L w1 P1.out.1 h0 (by omega) (tab_pb hg HT.out P1.out.2.bel) hg hl
  rw [← RQ.out] at ct
  go_wp2_with fail
  refine ct.mono ?_
  intro e wz hz
  rcases RI.split hz with ⟨hn, ⟨u, pv, rfl⟩, bz⟩ | ⟨st, jz, hn, rfl, hjz, hst, pz, bz⟩
  · exact ⟨rfl, RI.none_of hn (P1.out.2.bel.trans bz)⟩
  · have F : Hid (RI pb s k R w (.returned (.tuple #[])) wz) := RI.to hz (by omega) P1.out.2
    clear hz pz bz hst hn ct
    go_wp2_with fail
    first | go_end0 | refine bodyPost_ret (results_none rfl _ _ _) rfl ?_
    exact F.out
end Go.Proofs.YtlobkgohenebmaaDoor.Ximf
