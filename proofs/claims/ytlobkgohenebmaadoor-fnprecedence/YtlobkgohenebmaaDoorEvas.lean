/-
  A contract of ours for spec.EvalExpr: what an expression tells among symbols.
-/
import Derived.Test.YtlobkgohenebmaaDoorEvai
import Derived.Test.YtlobkgohenebmaaDoorSpecx
namespace Go.Proofs.YtlobkgohenebmaaDoor.Evas
open Go.ChangeShapes Go.WideShapes Go.ChangeAt Go.RowKit Go.Deep
open Symr (Sym Syms)
open Go.Proofs.YtlobkgohenebmaaDoor.Stepx (Nodes takes run exprB)
open Go.Proofs.YtlobkgohenebmaaDoor.Steps (nodeB stepV)
open Reke Symn Rekn Evai
set_option linter.unusedVariables false
set_option maxRecDepth 20000
abbrev Stk (w : World) (base : Nat) (v : Value) (n : Nat) (st : List Int) : Prop := w.ownsRow base 2 1 v n (st.map fun x => .int .i64 x)
theorem info64 : (Tryd.prog.info? 2).map (fun i => (i.zero, i.size, i.bytes)) = some (some (.int .i64 0), 1, 8) := by kernel_rfl
theorem l2Wrap_any (n : Int) (w : World) : Calls Tryd.prog 34 #[.int .i64 n] w fun e w' => e = .returned (.int .i64 (wrap32 n)) ∧ w' = w := by
  go_enter Tryd.func34, Tryd.ntmps34
  go_wp2
  all_goals go_ret
  all_goals exact ⟨ret_i (by first | rfl | exact Arith.wrap64_of_wrap32 _), rfl⟩
theorem stk_cap {w : World} {base g n cap : Nat} {st : List Int} (h : Stk w base (.slice (some ⟨g, 0, none⟩) n cap) n st) : n ≤ cap := by
  rcases h.2 with ⟨hv, _⟩ | ⟨g', c', cur, hv, hb, hg, hn, _⟩
  · cases hv
  · cases hv; exact hn
theorem stk_at {w : World} {base g n cap j : Nat} {st : List Int} (h : Stk w base (.slice (some ⟨g, 0, none⟩) n cap) n st) (hl : st.length = n) (hin : ∀ x ∈ st, In x) (hj : j < n) : ∃ x, In x ∧ st[j]? = some x ∧ w.cell? ⟨g, j, none⟩ = some (.int .i64 x) := by
  have hj' : j < st.length := by omega
  refine ⟨st[j], hin _ (List.getElem_mem hj'), List.getElem?_eq_getElem hj', ?_⟩
  rw [h.cellAt j (by omega)]
  simp [hj']
theorem stk_cut {w : World} {base g n cap lo : Nat} {st : List Int} (h : Stk w base (.slice (some ⟨g, 0, none⟩) n cap) n st) (hl : lo ≤ n) : Stk w base (.slice (some ⟨g, 0, none⟩) lo cap) lo (st.take lo) := by
  have hlen := h.1
  rcases h.2 with ⟨hv, _⟩ | ⟨g', c', cur, hv, hb, hg, hn, hm, hs, ht⟩
  · cases hv
  · cases hv
    refine ⟨by simp at hlen ⊢; omega, .inr ⟨g, cap, cur, rfl, hb, hg, by omega, hm, hs, ?_⟩⟩
    have : (cur.toList.take (n * 1)).take lo = (st.map fun x => Value.int .i64 x).take lo := by rw [ht]
    rw [List.take_take, Nat.mul_one, Nat.min_eq_left hl, ← List.map_take] at this
    rw [Nat.mul_one]; exact this
theorem stk_below {w w1 : World} {base n : Nat} {v : Value} {st : List Int} (h : Stk w base v n st) (hb : Below w.heap.size w w1) : Stk w1 base v n st :=
  h.kept (row := none) ⟨hb.os, hb.tape, hb.output, hb.size, fun k hk _ => hb.block k hk⟩ (by cases hv : Value.ownBlock v <;> simp)
theorem stk_new {w : World} {base N : Nat} {v : Value} {xs : List Value} (h : w.ownsRow base 2 1 v N xs) {new : List Int} (he : xs = new.map fun x => .int .i64 x) : Stk w base v N new := by
  show World.ownsRow _ _ _ _ _ _ _
  rw [← he]; exact h
theorem stk_set {w : World} {base g n cap lo : Nat} {st : List Int} {rv : Int} (h : Stk w base (.slice (some ⟨g, 0, none⟩) n cap) n st) (hl : st.length = n) (hn : n = lo + 1) : Stk (w.setCell ⟨g, lo, none⟩ (.int .i64 rv)) base (.slice (some ⟨g, 0, none⟩) n cap) n (st.take lo ++ [rv]) := by
  have h1 := (h.stored lo (.int .i64 rv)).1
  refine stk_new h1 ?_
  have e : st = st.take lo ++ [st[lo]'(by omega)] := by
    conv => lhs; rw [← List.take_append_drop lo st]
    rw [List.drop_eq_getElem_cons (by omega), List.drop_eq_nil_of_le (by omega)]
  have hlt : (st.take lo).length = lo := by rw [List.length_take]; omega
  conv => lhs; rw [e]
  rw [List.map_append, List.set_append_right _ _ (by rw [List.length_map]; omega), List.length_map, hlt, Nat.sub_self, List.map_append]
  rfl
theorem zero_of (kd x y : Int) : ((v2 kd x y).2 = 0 → (!zero kd y) = true) ∧ ((v2 kd x y).2 = 3 → (!zero kd y) = false) := by
  unfold v2
  cases hz : zero kd y
  · exact ⟨fun _ => rfl, fun h => by simp at h⟩
  · exact ⟨fun h => by simp at h, fun _ => rfl⟩
theorem in_more {st : List Int} {rv : Int} (h : ∀ x ∈ st, In x) (hr : In rv) : ∀ x ∈ st ++ [rv], In x := Evai.in_more h hr

set_option maxHeartbeats 2000000 in
theorem l2Eval_any (a : Option Addr) (cap : Nat) (L : List Stepx.Node) (ya : Option Addr) (ycap : Nat) (Y : List Sym) (w : World) (hN : Nodes w a L) (hx : exprB L = true) (hY : Syms w ya Y) (hyl : Y.length ≤ 1048576) :
    Calls Tryd.prog 17 #[.slice a L.length cap, .slice ya Y.length ycap] w fun e w' => e = .returned (.tuple #[.int .i64 (ev Y [] L).1, .int .i64 (ev Y [] L).2]) ∧ Below w.heap.size w w' := by
  obtain ⟨i0, hi, hz0, hz1, hz2⟩ := info_parts info64
  have HY : Hid (Syms w ya Y) := hY
  clear hY
  obtain ⟨O, hO⟩ : ∃ O, O = ev Y [] L := ⟨_, rfl⟩
  have HO : Hid (O = ev Y [] (L.drop 0)) := hO
  rw [← hO]
  clear hO
  have hrun : run 0 L = some 1 := by
    have := hx
    unfold exprB at this
    simp at this
    exact this.2
  have hl30 : L.length ≤ 30 := by
    have := hx
    unfold exprB at this
    simp at this
    exact this.1
  have HRN : Hid (run ((0 : Nat) : Int) (L.drop 0) = some 1) := hrun
  obtain ⟨b, off, rfl, hb, hc⟩ : ∃ b off, a = some ⟨b, off, none⟩ ∧ b < w.heap.size ∧ ∀ i (h : i < L.length), w.cell? ⟨b, off + i * 3, none⟩ = some (.int .i64 L[i].1) ∧ w.cell? ⟨b, off + i * 3 + 1, none⟩ = some (.int .i64 L[i].2.1) ∧ w.cell? ⟨b, off + i * 3 + 2, none⟩ = some (.string L[i].2.2) ∧ L[i].2.2.size ≤ maxLen := by
    rcases hN with h | h
    · exfalso; rw [h] at hrun; cases hrun
    · exact h
  have HC : Hid (∀ i (h : i < L.length), w.cell? ⟨b, off + i * 3, none⟩ = some (.int .i64 L[i].1) ∧ w.cell? ⟨b, off + i * 3 + 1, none⟩ = some (.int .i64 L[i].2.1) ∧ w.cell? ⟨b, off + i * 3 + 2, none⟩ = some (.string L[i].2.2) ∧ L[i].2.2.size ≤ maxLen) := hc
  obtain ⟨len, hl⟩ : ∃ len, len = L.length := ⟨_, rfl⟩
  have HL : Hid (len = L.length) := hl
  rw [← hl] at hl30 ⊢
  clear hl hrun hx hN hc
  obtain ⟨yl, hyl'⟩ : ∃ yl, yl = Y.length := ⟨_, rfl⟩
  have HYL : Hid (yl = Y.length) := hyl'
  rw [← hyl'] at hyl ⊢
  clear hyl'
  have OW0 : Hid (Stk (w.alloc (.cells #[] 2)) w.heap.size (.slice (some ⟨w.heap.size, 0, none⟩) 0 0) 0 []) := World.ownsRow_lit w #[] 0 (Nat.le_refl _) (Nat.zero_le _) rfl
  go_enter Tryd.func17, Tryd.ntmps17
  go_wp2_with fail
  go_loopw [6, 7] (fun x i wr => ∃ (k : Nat) (st : List Int) (g scap sl : Nat), k ≤ len ∧ sl ≤ k ∧ st.length = sl ∧ i = .int .i64 k ∧ x = .slice (some ⟨g, 0, none⟩) sl scap ∧ Hid (Stk wr w.heap.size (.slice (some ⟨g, 0, none⟩) sl scap) sl st) ∧ Hid (∀ x ∈ st, In x) ∧ Hid (run (sl : Int) (L.drop k) = some 1) ∧ Hid (O = ev Y st (L.drop k)) ∧ Hid (Below w.heap.size w wr)) (fun _ i _ => len - (intOf i).toNat)
  case atStart => exact ⟨0, [], w.heap.size, 0, 0, Nat.zero_le _, Nat.zero_le _, rfl, rfl, rfl, OW0.out, (fun x hx => by cases hx), HRN.out, HO.out, (Below.refl _ _).alloc (Nat.le_refl _) _⟩
  case round =>
    clear HRN HO OW0
    obtain ⟨k, st, g, scap, sl, hk, hsk, hsl, rfl, rfl, hv, hin, hrn, HO, hbel⟩ := hrel
    have HSL : Hid (st.length = sl) := hsl
    clear hsl
    by_cases hlt : k < len
    · have hkL : k < L.length := by have := HL.out; omega
      obtain ⟨c0, c1, c2⟩ : wr.cell? ⟨b, off + k * 3, none⟩ = some (.int .i64 L[k].1) ∧ wr.cell? ⟨b, off + k * 3 + 1, none⟩ = some (.int .i64 L[k].2.1) ∧ wr.cell? ⟨b, off + k * 3 + 2, none⟩ = some (.string L[k].2.2) := by
        obtain ⟨d0, d1, d2, d3⟩ := HC.out k hkL
        exact ⟨(hbel.out.cell (p := ⟨b, _, none⟩) hb).trans d0, (hbel.out.cell (p := ⟨b, _, none⟩) hb).trans d1, (hbel.out.cell (p := ⟨b, _, none⟩) hb).trans d2⟩
      have HO2 : Hid (O = ev Y st (L[k] :: L.drop (k + 1))) := by have := HO.out; rw [List.drop_eq_getElem_cons hkL] at this; exact this
      have hr2 : run (sl : Int) (L[k] :: L.drop (k + 1)) = some 1 := by have := hrn.out; rw [List.drop_eq_getElem_cons hkL] at this; exact this
      have k0 : (0 : Int) ≤ (k : Int) := by omega
      have k1 : (k : Int) < (len : Int) := by omega
      obtain ⟨kd, n, s, hnode⟩ : ∃ kd n s, L[k] = (kd, n, s) := ⟨_, _, _, rfl⟩
      rw [hnode] at c0 c1 c2 HO2 hr2
      obtain ⟨hnb, htl, hrun2⟩ := run_cons hr2
      simp only at c0 c1 c2 hnb htl hrun2
      clear hnode hr2 HO hrn
      rcases kinds_of hnb with rfl | rfl | rfl | ⟨k4, k7⟩ | ⟨k8, k17⟩
      · have hw := word_of hnb
        rw [show takes 1 = 0 from rfl] at htl hrun2
        have HE : Hid (O = if (rkV Y (1, n, s) (st.drop (low st 1))).2 = 0 then ev Y (st.take (low st 1) ++ [(rkV Y (1, n, s) (st.drop (low st 1))).1]) (L.drop (k + 1)) else (0, (rkV Y (1, n, s) (st.drop (low st 1))).2)) := HO2.out
        have hlow : low st 1 = sl - 0 := by unfold low; rw [show takes 1 = 0 from rfl, HSL.out]; rfl
        have hrk : ∀ T, rkV Y (1, n, s) T = (n, 0) := fun T => rfl
        rw [hlow, hrk] at HE
        clear HO2 hrk hlow hnb
        rw [Nat.sub_zero] at HE
        have hst : st.take sl = st := by rw [← HSL.out]; exact List.take_length
        rw [hst] at HE
        clear hst
        have HO3' : Hid (O = ev Y (st ++ [n]) (L.drop (k + 1))) := by have := HE.out; rw [if_pos rfl] at this; exact this
        clear HE
        obtain ⟨rv, hrv⟩ : ∃ rv, rv = n := ⟨_, rfl⟩
        have hrin : In rv := by rw [hrv]; exact ⟨by omega, by omega⟩
        have HO3 : Hid (O = ev Y (st ++ [rv]) (L.drop (k + 1))) := by rw [hrv]; exact HO3'.out
        rw [← hrv] at c1
        clear HO3' hrv hw
        have HRN2 : Hid (run ((sl + 1 : Nat) : Int) (L.drop (k + 1)) = some 1) := (congrArg (fun z => run z (L.drop (k + 1))) (by omega)).trans hrun2
        clear hrun2
        have HIN : Hid (∀ x ∈ st ++ [rv], In x) := in_more hin.out hrin
        have hcap := stk_cap hv.out
        go_wp2_with (first | (at_builtin; refine wpList_append_own _ rfl _ _ 65 rfl w.heap.size 2 i0 (.int .i64 0) 1 8 Tryd.underlying65 hi hz0 hz1 hz2 rfl (by decide) (.slice (some ⟨g, 0, none⟩) sl scap) sl (st.map fun x => .int .i64 x) rfl (hv.out.alloc _) ⟨wr.heap.size, 0, none⟩ 1 1 [.int .i64 rv] rfl rfl (cell_one_new _ _ _) (by intro u hu; simp at hu; subst hu; rfl) (by unfold maxLen; omega) (by omega) (by have := hbel.out.size; simp; omega) ?_) | go_in)
        all_goals
          intro v' w4 hown' hgrow _
          have OW : Hid (Stk w4 w.heap.size v' (sl + 1) (st ++ [rv])) := stk_new hown' (by simp)
          have BW : Hid (Below w.heap.size w w4) := (hbel.out.alloc hbel.out.size _).grown hgrow (by have := hbel.out.size; simp; omega) (fun q hq => (hv.out.lt q hq).1)
          obtain ⟨g', cap', rfl⟩ : ∃ g' cap', v' = .slice (some ⟨g', 0, none⟩) (sl + 1) cap' := by
            rcases hown'.2 with ⟨_, h⟩ | ⟨g', c', cur', hv', _⟩
            · omega
            · exact ⟨_, _, hv'⟩
          clear hown' hgrow
          go_wp2_with fail
          go_roundw
          case rel => exact ⟨k + 1, st ++ [rv], g', cap', sl + 1, by omega, by omega, by rw [List.length_append, HSL.out]; rfl, by go_num, rfl, OW.out, HIN.out, HRN2.out, HO3.out, BW.out⟩
          case measure => simp [intOf]; omega
      · rw [show takes 2 = 0 from rfl] at htl hrun2
        have HE : Hid (O = if (rkV Y (2, n, s) (st.drop (low st 2))).2 = 0 then ev Y (st.take (low st 2) ++ [(rkV Y (2, n, s) (st.drop (low st 2))).1]) (L.drop (k + 1)) else (0, (rkV Y (2, n, s) (st.drop (low st 2))).2)) := HO2.out
        have hlow : low st 2 = sl - 0 := by unfold low; rw [show takes 2 = 0 from rfl, HSL.out]; rfl
        have hrk : ∀ T, rkV Y (2, n, s) T = symR 2 (find Y s) := fun T => rfl
        rw [hlow, hrk] at HE
        clear HO2 hrk hlow hnb
        rw [Nat.sub_zero] at HE
        have hst : st.take sl = st := by rw [← HSL.out]; exact List.take_length
        rw [hst] at HE
        clear hst
        have hcap := stk_cap hv.out
        have cl : ∀ W, Syms W ya Y → Calls Tryd.prog 33 #[.slice ya yl ycap, .string s] W fun e w' => Symn.Found e Y s ∧ w' = W := fun W h => by
          have := l2Sym_any s ya ycap Y W h (by rw [← HYL.out]; exact hyl)
          rw [← HYL.out] at this
          exact this
        have SY : Syms wr ya Y := HY.out.below hbel.out
        go_wp2_with fail
        refine (cl _ SY).mono ?_
        rintro e w' ⟨hfound, rfl⟩
        rcases hfound with ⟨hf, rfl⟩ | ⟨i, hi', hf, rfl⟩
        · have HO3 : Hid (O = (0, 2)) := by have := HE.out; rw [hf] at this; rw [if_neg (by decide)] at this; exact this
          clear HE hrun2 hf
          go_wp2
          go_ret2
          exact ⟨by rw [HO3.out]; rfl, hbel.out⟩
        · obtain ⟨rv, hrv⟩ : ∃ rv, rv = wrap32 Y[i].2.2 := ⟨_, rfl⟩
          have HO3 : Hid (O = ev Y (st ++ [rv]) (L.drop (k + 1))) := by have := HE.out; rw [hf] at this; rw [if_pos (show (symR 2 (some Y[i])).2 = 0 from rfl)] at this; rw [hrv]; exact this
          have hrin : In rv := by rw [hrv]; exact in_wrap _
          obtain ⟨yb, yoff, hya, d1, d2⟩ : ∃ yb yoff, ya = some ⟨yb, yoff, none⟩ ∧ w'.cell? ⟨yb, yoff + i * 3 + 1, none⟩ = some (.int .i64 Y[i].2.1) ∧ w'.cell? ⟨yb, yoff + i * 3 + 2, none⟩ = some (.int .i64 Y[i].2.2) := by
            rcases SY with hn | ⟨yb, yoff, hy, _, hc⟩
            · exfalso; rw [hn] at hi'; exact absurd hi' (by simp)
            · exact ⟨yb, yoff, hy, (hc i hi').2.1, (hc i hi').2.2.1⟩
          have hiy : i < yl := by have := HYL.out; omega
          have i1 : (0 : Int) ≤ (i : Int) := by omega
          have i2 : (i : Int) < (yl : Int) := by omega
          have cw : ∀ W, Calls Tryd.prog 34 #[.int .i64 Y[i].2.2] W fun e w' => e = .returned (.int .i64 rv) ∧ w' = W := fun W => by rw [hrv]; exact l2Wrap_any _ W
          clear HE hf SY hrv
          subst hya
          generalize Y[i].2.1 = y1 at *
          generalize Y[i].2.2 = y2 at *
          have HRN2 : Hid (run ((sl + 1 : Nat) : Int) (L.drop (k + 1)) = some 1) := (congrArg (fun z => run z (L.drop (k + 1))) (by omega)).trans hrun2
          clear hrun2
          have HIN : Hid (∀ x ∈ st ++ [rv], In x) := in_more hin.out hrin
          go_wp2_with (first | (go_at_call 34; refine (cw _).mono ?_; rintro e w2 ⟨rfl, hw2⟩; have hw2 := hw2.symm; subst hw2) | (at_builtin; refine wpList_append_own _ rfl _ _ 65 rfl w.heap.size 2 i0 (.int .i64 0) 1 8 Tryd.underlying65 hi hz0 hz1 hz2 rfl (by decide) (.slice (some ⟨g, 0, none⟩) sl scap) sl (st.map fun x => .int .i64 x) rfl (hv.out.alloc _) ⟨w'.heap.size, 0, none⟩ 1 1 [.int .i64 rv] rfl rfl (cell_one_new _ _ _) (by intro u hu; simp at hu; subst hu; rfl) (by unfold maxLen; omega) (by omega) (by have := hbel.out.size; simp; omega) ?_) | go_in)
          all_goals
            intro v' w4 hown' hgrow _
            have OW : Hid (Stk w4 w.heap.size v' (sl + 1) (st ++ [rv])) := stk_new hown' (by simp)
            have BW : Hid (Below w.heap.size w w4) := (hbel.out.alloc hbel.out.size _).grown hgrow (by have := hbel.out.size; simp; omega) (fun q hq => (hv.out.lt q hq).1)
            obtain ⟨g', cap', rfl⟩ : ∃ g' cap', v' = .slice (some ⟨g', 0, none⟩) (sl + 1) cap' := by
              rcases hown'.2 with ⟨_, h⟩ | ⟨g', c', cur', hv', _⟩
              · omega
              · exact ⟨_, _, hv'⟩
            clear hown' hgrow
            go_wp2_with fail
            go_roundw
            case rel => exact ⟨k + 1, st ++ [rv], g', cap', sl + 1, by omega, by omega, by rw [List.length_append, HSL.out]; rfl, by go_num, rfl, OW.out, HIN.out, HRN2.out, HO3.out, BW.out⟩
            case measure => simp [intOf]; omega
      · rw [show takes 3 = 0 from rfl] at htl hrun2
        have HE : Hid (O = if (rkV Y (3, n, s) (st.drop (low st 3))).2 = 0 then ev Y (st.take (low st 3) ++ [(rkV Y (3, n, s) (st.drop (low st 3))).1]) (L.drop (k + 1)) else (0, (rkV Y (3, n, s) (st.drop (low st 3))).2)) := HO2.out
        have hlow : low st 3 = sl - 0 := by unfold low; rw [show takes 3 = 0 from rfl, HSL.out]; rfl
        have hrk : ∀ T, rkV Y (3, n, s) T = symR 3 (find Y s) := fun T => rfl
        rw [hlow, hrk] at HE
        clear HO2 hrk hlow hnb
        rw [Nat.sub_zero] at HE
        have hst : st.take sl = st := by rw [← HSL.out]; exact List.take_length
        rw [hst] at HE
        clear hst
        have hcap := stk_cap hv.out
        have cl : ∀ W, Syms W ya Y → Calls Tryd.prog 33 #[.slice ya yl ycap, .string s] W fun e w' => Symn.Found e Y s ∧ w' = W := fun W h => by
          have := l2Sym_any s ya ycap Y W h (by rw [← HYL.out]; exact hyl)
          rw [← HYL.out] at this
          exact this
        have SY : Syms wr ya Y := HY.out.below hbel.out
        go_wp2_with fail
        refine (cl _ SY).mono ?_
        rintro e w' ⟨hfound, rfl⟩
        rcases hfound with ⟨hf, rfl⟩ | ⟨i, hi', hf, rfl⟩
        · have HO3 : Hid (O = (0, 2)) := by have := HE.out; rw [hf] at this; rw [if_neg (by decide)] at this; exact this
          clear HE hrun2 hf
          go_wp2
          go_ret2
          exact ⟨by rw [HO3.out]; rfl, hbel.out⟩
        · obtain ⟨rv, hrv⟩ : ∃ rv, rv = wrap32 Y[i].2.1 := ⟨_, rfl⟩
          have HO3 : Hid (O = ev Y (st ++ [rv]) (L.drop (k + 1))) := by have := HE.out; rw [hf] at this; rw [if_pos (show (symR 3 (some Y[i])).2 = 0 from rfl)] at this; rw [hrv]; exact this
          have hrin : In rv := by rw [hrv]; exact in_wrap _
          obtain ⟨yb, yoff, hya, d1, d2⟩ : ∃ yb yoff, ya = some ⟨yb, yoff, none⟩ ∧ w'.cell? ⟨yb, yoff + i * 3 + 1, none⟩ = some (.int .i64 Y[i].2.1) ∧ w'.cell? ⟨yb, yoff + i * 3 + 2, none⟩ = some (.int .i64 Y[i].2.2) := by
            rcases SY with hn | ⟨yb, yoff, hy, _, hc⟩
            · exfalso; rw [hn] at hi'; exact absurd hi' (by simp)
            · exact ⟨yb, yoff, hy, (hc i hi').2.1, (hc i hi').2.2.1⟩
          have hiy : i < yl := by have := HYL.out; omega
          have i1 : (0 : Int) ≤ (i : Int) := by omega
          have i2 : (i : Int) < (yl : Int) := by omega
          have cw : ∀ W, Calls Tryd.prog 34 #[.int .i64 Y[i].2.1] W fun e w' => e = .returned (.int .i64 rv) ∧ w' = W := fun W => by rw [hrv]; exact l2Wrap_any _ W
          clear HE hf SY hrv
          subst hya
          generalize Y[i].2.1 = y1 at *
          generalize Y[i].2.2 = y2 at *
          have HRN2 : Hid (run ((sl + 1 : Nat) : Int) (L.drop (k + 1)) = some 1) := (congrArg (fun z => run z (L.drop (k + 1))) (by omega)).trans hrun2
          clear hrun2
          have HIN : Hid (∀ x ∈ st ++ [rv], In x) := in_more hin.out hrin
          go_wp2_with (first | (go_at_call 34; refine (cw _).mono ?_; rintro e w2 ⟨rfl, hw2⟩; have hw2 := hw2.symm; subst hw2) | (at_builtin; refine wpList_append_own _ rfl _ _ 65 rfl w.heap.size 2 i0 (.int .i64 0) 1 8 Tryd.underlying65 hi hz0 hz1 hz2 rfl (by decide) (.slice (some ⟨g, 0, none⟩) sl scap) sl (st.map fun x => .int .i64 x) rfl (hv.out.alloc _) ⟨w'.heap.size, 0, none⟩ 1 1 [.int .i64 rv] rfl rfl (cell_one_new _ _ _) (by intro u hu; simp at hu; subst hu; rfl) (by unfold maxLen; omega) (by omega) (by have := hbel.out.size; simp; omega) ?_) | go_in)
          all_goals
            intro v' w4 hown' hgrow _
            have OW : Hid (Stk w4 w.heap.size v' (sl + 1) (st ++ [rv])) := stk_new hown' (by simp)
            have BW : Hid (Below w.heap.size w w4) := (hbel.out.alloc hbel.out.size _).grown hgrow (by have := hbel.out.size; simp; omega) (fun q hq => (hv.out.lt q hq).1)
            obtain ⟨g', cap', rfl⟩ : ∃ g' cap', v' = .slice (some ⟨g', 0, none⟩) (sl + 1) cap' := by
              rcases hown'.2 with ⟨_, h⟩ | ⟨g', c', cur', hv', _⟩
              · omega
              · exact ⟨_, _, hv'⟩
            clear hown' hgrow
            go_wp2_with fail
            go_roundw
            case rel => exact ⟨k + 1, st ++ [rv], g', cap', sl + 1, by omega, by omega, by rw [List.length_append, HSL.out]; rfl, by go_num, rfl, OW.out, HIN.out, HRN2.out, HO3.out, BW.out⟩
            case measure => simp [intOf]; omega
      · have htk := takes_one k4 k7
        rw [htk] at htl hrun2
        have HE : Hid (O = if (rkV Y (kd, n, s) (st.drop (low st kd))).2 = 0 then ev Y (st.take (low st kd) ++ [(rkV Y (kd, n, s) (st.drop (low st kd))).1]) (L.drop (k + 1)) else (0, (rkV Y (kd, n, s) (st.drop (low st kd))).2)) := HO2.out
        have hlow : low st kd = sl - 1 := by unfold low; rw [htk, HSL.out]; rfl
        have hrk : ∀ T, rkV Y (kd, n, s) T = (f1 kd (T.getD 0 0), 0) := fun T => rk_one k4 k7
        rw [hlow, hrk] at HE
        clear HO2 hrk hlow hnb
        obtain ⟨lo, hlo0⟩ : ∃ lo, lo = sl - 1 := ⟨_, rfl⟩
        rw [← hlo0] at HE
        have hlo : lo ≤ sl := by omega
        have hlo1 : (sl : Int) - 1 = (lo : Int) := by omega
        have hcap := stk_cap hv.out
        obtain ⟨x0, hx0, e0, hc0⟩ := stk_at (j := lo) hv.out HSL.out hin.out (by omega)
        have d0 : (st.drop lo).getD 0 0 = x0 := by rw [List.getD_eq_getElem?_getD, List.getElem?_drop, Nat.add_zero, e0]; rfl
        rw [d0] at HE
        clear d0 e0
        obtain ⟨rv, hrv⟩ : ∃ rv, rv = f1 kd x0 := ⟨_, rfl⟩
        have hrin : In rv := by rw [hrv]; exact in_f1 _ _
        have HO3 : Hid (O = ev Y (st.take lo ++ [rv]) (L.drop (k + 1))) := by have := HE.out; rw [if_pos rfl, ← hrv] at this; exact this
        clear HE htk
        have HRN2 : Hid (run ((lo + 1 : Nat) : Int) (L.drop (k + 1)) = some 1) := (congrArg (fun z => run z (L.drop (k + 1))) (by omega)).trans hrun2
        clear hrun2
        have HIN : Hid (∀ x ∈ st.take lo ++ [rv], In x) := in_more (fun x hx => hin.out x (List.mem_of_mem_take hx)) hrin
        have hsl1 : sl = lo + 1 := by omega
        have HS1 : Hid (sl = lo + 1) := hsl1
        have hlo2 : (lo : Int) < (sl : Int) := by omega
        have hlo3 : (0 : Int) ≤ (lo : Int) := by omega
        have fz : wr.frozen? ⟨g, lo, none⟩ = false := hv.out.frozenAt lo
        have SET : Hid (Stk (wr.setCell ⟨g, lo, none⟩ (.int .i64 rv)) w.heap.size (.slice (some ⟨g, 0, none⟩) sl scap) sl (st.take lo ++ [rv])) := stk_set hv.out HSL.out HS1.out
        clear hsl1 hlo0
        have BW : Hid (Below w.heap.size w (wr.setCell ⟨g, lo, none⟩ (.int .i64 rv))) := hbel.out.setCell (p := ⟨g, lo, none⟩) (hv.out.lt g rfl).1 _
        have hkk : kd = 4 ∨ kd = 5 ∨ kd = 6 ∨ kd = 7 := by omega
        obtain ⟨x00, x01⟩ := hx0
        rcases hkk with rfl | rfl | rfl | rfl
        · have q : wrap32 (-x0) = rv := by rw [hrv]; rfl
          have cw : ∀ W, Calls Tryd.prog 34 #[.int .i64 (-x0)] W fun e w' => e = .returned (.int .i64 rv) ∧ w' = W := fun W => by rw [← q]; exact l2Wrap_any _ W
          clear q
          clear hrv
          go_wp2_with (first | (go_at_call 34; refine (cw _).mono ?_; rintro e w2 ⟨rfl, hw2⟩; have hw2 := hw2.symm; subst hw2) | go_in)
          go_roundw
          case rel => exact ⟨k + 1, st.take lo ++ [rv], g, scap, sl, by omega, by omega, by rw [List.length_append, List.length_take, HSL.out, Nat.min_eq_left hlo, HS1.out]; rfl, by go_num, rfl, SET.out, HIN.out, by rw [HS1.out]; exact HRN2.out, HO3.out, BW.out⟩
          case measure => simp [intOf]; omega
        · have q : bits .xor .i64 (-1) x0 = rv := by rw [hrv, Arith.xor64 (by omega) (by omega) x00 x01]; rfl
          have q' : bits .xor .i64 (if IntKind.i64.signed = true then -1 else 9223372036854775807) x0 = rv := q
          clear hrv
          go_wp2_with fail
          go_roundw
          case rel => exact ⟨k + 1, st.take lo ++ [rv], g, scap, sl, by omega, by omega, by rw [List.length_append, List.length_take, HSL.out, Nat.min_eq_left hlo, HS1.out]; rfl, by go_num, rfl, SET.out, HIN.out, by rw [HS1.out]; exact HRN2.out, HO3.out, BW.out⟩
          case measure => simp [intOf]; omega
        · have q : bits .and .i64 (x0 / 256) 255 = rv := by rw [hrv, Arith.and64 (by omega) (by omega) (by omega) (by omega)]; rfl
          clear hrv
          go_wp2_with fail
          go_roundw
          case rel => exact ⟨k + 1, st.take lo ++ [rv], g, scap, sl, by omega, by omega, by rw [List.length_append, List.length_take, HSL.out, Nat.min_eq_left hlo, HS1.out]; rfl, by go_num, rfl, SET.out, HIN.out, by rw [HS1.out]; exact HRN2.out, HO3.out, BW.out⟩
          case measure => simp [intOf]; omega
        · have q : bits .and .i64 x0 255 = rv := by rw [hrv, Arith.and64 x00 x01 (by omega) (by omega)]; rfl
          clear hrv
          go_wp2_with fail
          go_roundw
          case rel => exact ⟨k + 1, st.take lo ++ [rv], g, scap, sl, by omega, by omega, by rw [List.length_append, List.length_take, HSL.out, Nat.min_eq_left hlo, HS1.out]; rfl, by go_num, rfl, SET.out, HIN.out, by rw [HS1.out]; exact HRN2.out, HO3.out, BW.out⟩
          case measure => simp [intOf]; omega
      · have htk := takes_two k8
        rw [htk] at htl hrun2
        have HE : Hid (O = if (rkV Y (kd, n, s) (st.drop (low st kd))).2 = 0 then ev Y (st.take (low st kd) ++ [(rkV Y (kd, n, s) (st.drop (low st kd))).1]) (L.drop (k + 1)) else (0, (rkV Y (kd, n, s) (st.drop (low st kd))).2)) := HO2.out
        have hlow : low st kd = sl - 2 := by unfold low; rw [htk, HSL.out]; rfl
        have hrk : ∀ T, rkV Y (kd, n, s) T = v2 kd (T.getD 0 0) (T.getD 1 0) := fun T => rk_two k8
        rw [hlow, hrk] at HE
        clear HO2 hrk hlow hnb
        obtain ⟨lo, hlo0⟩ : ∃ lo, lo = sl - 2 := ⟨_, rfl⟩
        rw [← hlo0] at HE
        have hlo : lo ≤ sl := by omega
        have hlo1 : (sl : Int) - 2 = (lo : Int) := by omega
        have hcap := stk_cap hv.out
        obtain ⟨x0, hx0, e0, hc0⟩ := stk_at (j := lo) hv.out HSL.out hin.out (by omega)
        obtain ⟨x1, hx1, e1, hc1⟩ := stk_at (j := lo + 1) hv.out HSL.out hin.out (by omega)
        have d0 : (st.drop lo).getD 0 0 = x0 := by rw [List.getD_eq_getElem?_getD, List.getElem?_drop, Nat.add_zero, e0]; rfl
        have d1 : (st.drop lo).getD 1 0 = x1 := by rw [List.getD_eq_getElem?_getD, List.getElem?_drop, e1]; rfl
        rw [d0, d1] at HE
        clear d0 e0 d1 e1 htk
        have ct := fun W => l2Two_any kd x0 x1 W hx0 hx1 k8 k17
        have hcs := v2_cases kd x0 x1 hx0
        have hze := zero_of kd x0 x1
        obtain ⟨rv, cd, hrv⟩ : ∃ rv cd, v2 kd x0 x1 = (rv, cd) := ⟨_, _, rfl⟩
        rw [hrv] at ct HE hcs hze
        simp only at ct HE hcs hze
        clear hrv
        have q1 : ¬ kd = 1 := by omega
        have q2 : (kd == 2) = false := by simp; omega
        have q3 : (kd == 3) = false := by simp; omega
        have q4 : (kd == 4) = false := by simp; omega
        have q5 : (kd == 5) = false := by simp; omega
        have q6 : (kd == 6) = false := by simp; omega
        have q7 : (kd == 7) = false := by simp; omega
        have hlo2 : (lo : Int) < (sl : Int) := by omega
        have hlo3 : (0 : Int) ≤ (lo : Int) := by omega
        have hm1 : (sl : Int) - 1 = ((lo + 1 : Nat) : Int) := by omega
        have hm2 : ((lo + 1 : Nat) : Int) < (sl : Int) := by omega
        have HRX : Hid (lo = sl - 2) := hlo0
        clear hlo0
        rcases hcs with ⟨rfl, hrin⟩ | ⟨hrv0, hcd⟩
        · rw [hze.1 rfl] at ct
          have HO3 : Hid (O = ev Y (st.take lo ++ [rv]) (L.drop (k + 1))) := by have := HE.out; rw [if_pos rfl] at this; exact this
          clear HE hze
          have hlo0 := HRX.out
          have HRN2 : Hid (run ((lo + 1 : Nat) : Int) (L.drop (k + 1)) = some 1) := (congrArg (fun z => run z (L.drop (k + 1))) (by omega)).trans hrun2
          clear hrun2
          clear hlo0
          have HIN : Hid (∀ x ∈ st.take lo ++ [rv], In x) := in_more (fun x hx => hin.out x (List.mem_of_mem_take hx)) hrin
          have hv2 : Hid (∀ q, Stk (wr.drewN q) w.heap.size (.slice (some ⟨g, 0, none⟩) lo scap) lo (st.take lo)) := fun q => stk_cut (stk_below hv.out (drewN_below (Below.refl _ _) q)) hlo
          go_wp2_with fail
          go_quiet ((go_at_call 35; exact Calls.quiet_of_same (ct _)))
          go_wp2_with (first | (at_builtin; refine wpList_append_own _ rfl _ _ 65 rfl w.heap.size 2 i0 (.int .i64 0) 1 8 Tryd.underlying65 hi hz0 hz1 hz2 rfl (by decide) (.slice (some ⟨g, 0, none⟩) lo scap) lo ((st.take lo).map fun x => .int .i64 x) rfl ((hv2.out _).alloc _) ⟨wr.heap.size, 0, none⟩ 1 1 [.int .i64 rv] rfl rfl (cell_one_new _ _ _) (by intro u hu; simp at hu; subst hu; rfl) (by unfold maxLen; omega) (by omega) (by have := hbel.out.size; simp; omega) ?_) | go_in)
          all_goals
            intro v' w4 hown' hgrow _
            have OW : Hid (Stk w4 w.heap.size v' (lo + 1) (st.take lo ++ [rv])) := stk_new hown' (by simp)
            have BW : Hid (Below w.heap.size w w4) := ((drewN_below hbel.out nq).alloc (drewN_below hbel.out nq).size _).grown hgrow (by have := hbel.out.size; simp; omega) (fun q hq => (hv.out.lt q hq).1)
            obtain ⟨g', cap', rfl⟩ : ∃ g' cap', v' = .slice (some ⟨g', 0, none⟩) (lo + 1) cap' := by
              rcases hown'.2 with ⟨_, h⟩ | ⟨g', c', cur', hv', _⟩
              · omega
              · exact ⟨_, _, hv'⟩
            clear hown' hgrow
            go_wp2_with fail
            go_roundw
            case rel => exact ⟨k + 1, st.take lo ++ [rv], g', cap', lo + 1, by omega, by omega, by rw [List.length_append, List.length_take, HSL.out, Nat.min_eq_left hlo]; rfl, by go_num, rfl, OW.out, HIN.out, HRN2.out, HO3.out, BW.out⟩
            case measure => simp [intOf]; omega
        · rw [hze.2 hcd] at ct
          have HO3 : Hid (O = (0, 3)) := by have := HE.out; rw [if_neg (by omega), hcd] at this; exact this
          clear HE hze hrun2
          go_wp2_with fail
          go_quiet ((go_at_call 35; exact Calls.quiet_of_same (ct _)))
          go_wp2
          all_goals go_ret2
          all_goals exact ⟨by rw [HO3.out]; rfl, drewN_below hbel.out _⟩
    · have e : k = len := by omega
      subst e
      have e1 : sl = 1 := by
        have := hrn.out
        rw [HL.out, List.drop_length] at this
        have := Option.some.inj this
        omega
      subst e1
      obtain ⟨x, rfl⟩ : ∃ x, st = [x] := List.length_eq_one_iff.1 HSL.out
      have HE : Hid (O = (x, 0)) := by show _ = _; rw [HO.out, HL.out, List.drop_length]; rfl
      obtain ⟨x', hx', e', hc⟩ := stk_at (j := 0) hv.out rfl hin.out (Nat.zero_lt_one)
      obtain rfl : x = x' := by simpa using e'
      clear HO hrn hv hin e'
      go_wp2
      go_ret2
      exact ⟨by rw [HE.out]; rfl, hbel.out⟩
end Go.Proofs.YtlobkgohenebmaaDoor.Evas
