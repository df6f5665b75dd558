/-
  A contract of ours for impl.EvalExpr: what an expression tells among symbols.
-/
import Derived.Test.YtlobkgohenebmaaDoorRekn
import Derived.Laws.OwnMore
namespace Go.Proofs.YtlobkgohenebmaaDoor.Evai
open Go.ChangeShapes Go.WideShapes Go.ChangeAt Go.RowKit Go.Deep
open Symr (Sym Syms)
open Go.Proofs.YtlobkgohenebmaaDoor.Stepx (Nodes takes run exprB StepsRow m1 m2 m3 m4 m5)
open Go.Proofs.YtlobkgohenebmaaDoor.Steps (nodeB stepV)
open Reke Symn Rekn
set_option linter.unusedVariables false
set_option maxRecDepth 20000

def rkV (Y : List Sym) (x : Stepx.Node) (T : List Int) : Int × Int :=
  if x.1 = 1 then (x.2.1, 0) else if x.1 = 2 ∨ x.1 = 3 then symR x.1 (find Y x.2.2) else if x.1 ≤ 7 then (f1 x.1 (T.getD 0 0), 0) else v2 x.1 (T.getD 0 0) (T.getD 1 0)
def low (st : List Int) (kd : Int) : Nat := st.length - (takes kd).toNat
/-- What an expression tells: its number, and how it went. -/
def ev (Y : List Sym) : List Int → List Stepx.Node → Int × Int
  | st, [] => (st.getD 0 0, 0)
  | st, x :: r => if (rkV Y x (st.drop (low st x.1))).2 = 0 then ev Y (st.take (low st x.1) ++ [(rkV Y x (st.drop (low st x.1))).1]) r else (0, (rkV Y x (st.drop (low st x.1))).2)
def evV (L : List Stepx.Node) (Y : List Sym) : Int × Int := if exprB L = true ∧ Y.length ≤ 200 then ev Y [] L else (0, 1)
abbrev Vals (w : World) (base : Nat) (v : Value) (st : List Int) : Prop := w.ownsRow base 21 1 v st.length (st.map fun x => .int .i32 x)

abbrev Vals' (w : World) (base : Nat) (v : Value) (n : Nat) (st : List Int) : Prop := w.ownsRow base 21 1 v n (st.map fun x => .int .i32 x)
theorem vals_below {w w1 : World} {base n : Nat} {v : Value} {st : List Int} (h : Vals' w base v n st) (hb : Below w.heap.size w w1) : Vals' w1 base v n st :=
  h.kept (row := none) ⟨hb.os, hb.tape, hb.output, hb.size, fun k hk _ => hb.block k hk⟩ (by cases hv : Value.ownBlock v <;> simp)
theorem vals_cut {w : World} {base g n cap lo : Nat} {st : List Int} (h : Vals' w base (.slice (some ⟨g, 0, none⟩) n cap) n st) (hl : lo ≤ n) : w.ownsRow base 21 1 (.slice (some ⟨g, 0, none⟩) lo cap) lo ((st.take lo).map fun x => .int .i32 x) := by
  have hlen := h.1
  rcases h.2 with ⟨hv, _⟩ | ⟨g', c', cur, hv, hb, hg, hn, hm, hs, ht⟩
  · cases hv
  · cases hv
    refine ⟨by simp at hlen ⊢; omega, .inr ⟨g, cap, cur, rfl, hb, hg, by omega, hm, hs, ?_⟩⟩
    have : (cur.toList.take (n * 1)).take lo = (st.map fun x => Value.int .i32 x).take lo := by rw [ht]
    rw [List.take_take, Nat.mul_one, Nat.min_eq_left hl, ← List.map_take] at this
    rw [Nat.mul_one]; exact this
theorem vals_at {w : World} {base g n cap j : Nat} {st : List Int} (h : Vals' w base (.slice (some ⟨g, 0, none⟩) n cap) n st) (hl : st.length = n) (hin : ∀ x ∈ st, In x) (hj : j < n) : ∃ x, In x ∧ st[j]? = some x ∧ w.cell? ⟨g, j, none⟩ = some (.int .i32 x) := by
  have hj' : j < st.length := by omega
  refine ⟨st[j], hin _ (List.getElem_mem hj'), List.getElem?_eq_getElem hj', ?_⟩
  rw [h.cellAt j (by omega)]
  simp [hj']
theorem vals_new {w : World} {base N : Nat} {v : Value} {xs : List Value} (h : w.ownsRow base 21 1 v N xs) {new : List Int} (hl : new.length = N) (he : xs = new.map fun x => .int .i32 x) : Vals w base v new := by
  show World.ownsRow _ _ _ _ _ _ _
  rw [hl, ← he]; exact h
theorem vals_cap {w : World} {base g n cap : Nat} {st : List Int} (h : Vals' w base (.slice (some ⟨g, 0, none⟩) n cap) n st) : n ≤ cap := by
  rcases h.2 with ⟨hv, _⟩ | ⟨g', c', cur, hv, hb, hg, hn, _⟩
  · cases hv
  · cases hv; exact hn
theorem cell_alloc {w : World} {g i : Nat} {v : Value} (h : w.cell? ⟨g, i, none⟩ = some v) (o : Obj) : (w.alloc o).cell? ⟨g, i, none⟩ = some v :=
  (World.cell?_of_block (a := ⟨g, i, none⟩) (Below.heap_alloc _ _ _ (World.block_lt_of_cell? w ⟨g, i, none⟩ h))).trans h
theorem in_more {st : List Int} {rv : Int} (h : ∀ x ∈ st, In x) (hr : In rv) : ∀ x ∈ st ++ [rv], In x := fun x hx => (List.mem_append.1 hx).elim (h x) fun hx => by rw [List.mem_singleton.1 hx]; exact hr
theorem word_of {n : Int} {s : ByteArray} (h : nodeB 1 n s = true) : 0 ≤ n ∧ n ≤ 65535 := by
  unfold nodeB at h; rw [if_pos rfl] at h
  simp only [Bool.and_eq_true] at h
  exact of_decide_eq_true h.1
theorem kinds_of {kd n : Int} {s : ByteArray} (hn : nodeB kd n s = true) : kd = 1 ∨ kd = 2 ∨ kd = 3 ∨ (4 ≤ kd ∧ kd ≤ 7) ∨ (8 ≤ kd ∧ kd ≤ 17) := by
  unfold nodeB at hn
  by_cases e1 : kd = 1
  · exact .inl e1
  rw [if_neg e1] at hn
  by_cases e2 : kd = 2 ∨ kd = 3
  · omega
  rw [if_neg e2] at hn
  by_cases e3 : 4 ≤ kd ∧ kd ≤ 17
  · omega
  rw [if_neg e3] at hn; cases hn
theorem step_one {kd n : Int} {s : ByteArray} (h4 : 4 ≤ kd) (h7 : kd ≤ 7) : stepV kd n s = .iface 92 (.agg #[.int .i64 kd]) := by
  unfold stepV; rw [if_neg (by omega), if_neg (by omega), if_neg (by omega), if_pos ⟨h4, h7⟩]
theorem step_two {kd n : Int} {s : ByteArray} (h8 : 8 ≤ kd) (h17 : kd ≤ 17) : stepV kd n s = .iface 94 (.agg #[.int .i64 kd]) := by
  unfold stepV; rw [if_neg (by omega), if_neg (by omega), if_neg (by omega), if_neg (by omega), if_pos ⟨h8, h17⟩]
theorem takes_one {kd : Int} (h4 : 4 ≤ kd) (h7 : kd ≤ 7) : takes kd = 1 := by unfold takes; rw [if_neg (by omega), if_pos h7]
theorem takes_two {kd : Int} (h8 : 8 ≤ kd) : takes kd = 2 := by unfold takes; rw [if_neg (by omega), if_neg (by omega)]
theorem rk_one {Y : List Sym} {kd n : Int} {s : ByteArray} {T : List Int} (h4 : 4 ≤ kd) (h7 : kd ≤ 7) : rkV Y (kd, n, s) T = (f1 kd (T.getD 0 0), 0) := by
  unfold rkV; simp only; rw [if_neg (by omega), if_neg (by omega), if_pos h7]
theorem rk_two {Y : List Sym} {kd n : Int} {s : ByteArray} {T : List Int} (h8 : 8 ≤ kd) : rkV Y (kd, n, s) T = v2 kd (T.getD 0 0) (T.getD 1 0) := by
  unfold rkV; simp only; rw [if_neg (by omega), if_neg (by omega), if_neg (by omega)]
theorem run_cons {v : Int} {x : Stepx.Node} {r : List Stepx.Node} (h : run v (x :: r) = some 1) : nodeB x.1 x.2.1 x.2.2 = true ∧ takes x.1 ≤ v ∧ run (v + (1 - takes x.1)) r = some 1 := by
  rw [run] at h
  split at h
  · rename_i hc; exact ⟨hc.1, hc.2, h⟩
  · cases h
theorem symR_cases (kd : Int) (o : Option Sym) : ((symR kd o).2 = 0 ∧ In (symR kd o).1) ∨ ((symR kd o).1 = 0 ∧ (symR kd o).2 = 2) := by
  cases o with
  | none => exact .inr ⟨rfl, rfl⟩
  | some y => exact .inl ⟨rfl, in_wrap _⟩
theorem v2_cases (kd x y : Int) (hx : In x) : ((v2 kd x y).2 = 0 ∧ In (v2 kd x y).1) ∨ ((v2 kd x y).1 = 0 ∧ (v2 kd x y).2 = 3) := by
  unfold v2
  split
  · exact .inr ⟨rfl, rfl⟩
  · exact .inl ⟨rfl, in_f2 hx⟩
theorem info32 : (Tryd.prog.info? 21).map (fun i => (i.zero, i.size, i.bytes)) = some (some (.int .i32 0), 1, 4) := by kernel_rfl
theorem vals_shape {w : World} {base cap : Nat} {vo : Option Addr} {n : Nat} {st : List Int} (h : Vals' w base (.slice vo n cap) n st) : (vo = none ∧ n = 0 ∧ st = [] ∧ cap = 0) ∨ ∃ g, vo = some ⟨g, 0, none⟩ := by
  have hl := h.1
  rcases h.2 with ⟨hv, h0⟩ | ⟨g, c, cur, hv, _⟩
  · cases hv
    simp at hl
    exact .inl ⟨rfl, rfl, hl, rfl⟩
  · cases hv; exact .inr ⟨g, rfl⟩
set_option maxHeartbeats 2000000 in
theorem implEval_any (a : Option Addr) (cap : Nat) (L : List Stepx.Node) (ya : Option Addr) (ycap : Nat) (Y : List Sym) (w : World) (hN : Nodes w a L) (hlen : L.length ≤ 1048576) (hY : Syms w ya Y) (hyl : Y.length ≤ 1048576) :
    Calls Tryd.prog 14 #[.slice a L.length cap, .slice ya Y.length ycap] w fun e w' => e = .returned (.tuple #[.int .i64 (evV L Y).1, .int .i64 (evV L Y).2]) ∧ Below w.heap.size w w' := by
  have cs := Stepx.stepsOf_any a cap L w hN hlen
  have HY : Hid (Syms w ya Y) := hY
  clear hN hY
  by_cases hx : exprB L = true ∧ Y.length ≤ 200
  · have e1 : evV L Y = ev Y [] L := by unfold evV; rw [if_pos hx]
    rw [e1]
    rw [hx.1] at cs
    obtain ⟨O, hO⟩ : ∃ O, O = ev Y [] L := ⟨_, rfl⟩
    have HO : Hid (O = ev Y [] (L.drop 0)) := hO
    rw [← hO]
    clear hO e1
    go_enter Tryd.func14, Tryd.ntmps14
    go_wp2_with fail
    refine cs.mono ?_
    rintro e w1 ⟨⟨sv, rfl, hrow⟩, b1⟩
    have ROW : Hid (w1.ownsRow w.heap.size 55 1 sv L.length (L.map fun x => stepV x.1 x.2.1 x.2.2)) := hrow rfl
    have B1 : Hid (Below w.heap.size w w1) := b1
    clear hrow b1 cs
    have hrun : run 0 L = some 1 := by
      have := hx.1
      unfold exprB at this
      simp at this
      exact this.2
    have hl30 : L.length ≤ 30 := by
      have := hx.1
      unfold exprB at this
      simp at this
      exact this.1
    obtain ⟨gs, scap, hsv, SC, hgl⟩ : ∃ gs scap, sv = .slice (some ⟨gs, 0, none⟩) L.length scap ∧ (∀ k (h : k < L.length), w1.cell? ⟨gs, k, none⟩ = some (stepV L[k].1 L[k].2.1 L[k].2.2)) ∧ gs < w1.heap.size := by
      rcases ROW.out.2 with ⟨hv, h0⟩ | ⟨g, c, cur, hv, _⟩
      · exfalso
        rw [List.length_eq_zero_iff.1 h0] at hrun
        cases hrun
      · refine ⟨g, c, hv, fun k h => ?_, (ROW.out.lt g (by rw [hv]; rfl)).2⟩
        have := ROW.out
        rw [hv] at this
        exact (this.cellAt k (by omega)).trans (by simp [h])
    subst hsv
    have HSC : Hid (∀ k (h : k < L.length), w1.cell? ⟨gs, k, none⟩ = some (stepV L[k].1 L[k].2.1 L[k].2.2)) := SC
    have HRN : Hid (run (([] : List Int).length : Int) (L.drop 0) = some 1) := hrun
    have hY200 := hx.2
    obtain ⟨len, hl⟩ : ∃ len, len = L.length := ⟨_, rfl⟩
    have HL : Hid (len = L.length) := hl
    rw [← hl] at hl30 ⊢
    clear hl hrun SC hx hlen ROW
    obtain ⟨yl, hyl'⟩ : ∃ yl, yl = Y.length := ⟨_, rfl⟩
    have HYL : Hid (yl = Y.length) := hyl'
    rw [← hyl'] at hY200 hyl ⊢
    clear hyl'
    obtain ⟨i0, hi, hz0, hz1, hz2⟩ := info_parts info32
    have hyb := fun W (h : Below w1.heap.size w1 W) (hs : Syms w ya Y) => (hs.below B1.out).below h
    go_wp2_with fail
    go_loopw [8, 28] (fun x i wr => ∃ (k : Nat) (st : List Int) (vo : Option Addr) (vcap : Nat), k ≤ len ∧ st.length ≤ k ∧ i = .int .i64 k ∧ x = .slice vo st.length vcap ∧ Hid (Vals wr w1.heap.size (.slice vo st.length vcap) st) ∧ Hid (∀ x ∈ st, In x) ∧ Hid (run (st.length : Int) (L.drop k) = some 1) ∧ Hid (O = ev Y st (L.drop k)) ∧ Hid (Below w1.heap.size w1 wr)) (fun _ i _ => len - (intOf i).toNat)
    case atStart => exact ⟨0, [], none, 0, Nat.zero_le _, Nat.zero_le _, rfl, rfl, World.ownsRow_nil _ _ _ _, (fun x hx => by cases hx), HRN.out, HO.out, Below.refl _ _⟩
    case round =>
    clear HRN HO
    obtain ⟨k, st, vo, vcap, hk, hsk, rfl, rfl, hv, hin, hrn, HO, hbel⟩ := hrel
    have shape := vals_shape (n := st.length) hv.out
    by_cases hlt : k < len
    · have hkL : k < L.length := by have := HL.out; omega
      have c_s := (hbel.out.cell (p := ⟨gs, k, none⟩) hgl).trans (HSC.out k hkL)
      have HO2 : Hid (O = ev Y st (L[k] :: L.drop (k + 1))) := by have := HO.out; rw [List.drop_eq_getElem_cons hkL] at this; exact this
      have hr2 : run (st.length : Int) (L[k] :: L.drop (k + 1)) = some 1 := by have := hrn.out; rw [List.drop_eq_getElem_cons hkL] at this; exact this
      have hbel0 : Hid (Below w1.heap.size w1 wr) := hbel.out
      obtain ⟨kd, n, s, hnode⟩ : ∃ kd n s, L[k] = (kd, n, s) := ⟨_, _, _, rfl⟩
      rw [hnode] at c_s HO2 hr2
      obtain ⟨hnb, htl, hrun2⟩ := run_cons hr2
      simp only at c_s hnb htl hrun2
      obtain ⟨sl, hsl⟩ : ∃ sl, st.length = sl := ⟨_, rfl⟩
      have HSL : Hid (st.length = sl) := hsl
      have hv0 : Vals' wr w1.heap.size (.slice vo st.length vcap) st.length st := hv.out
      rw [hsl] at hsk hv0 htl hrun2 shape ⊢
      have hv1 : Hid (Vals' wr w1.heap.size (.slice vo sl vcap) sl st) := hv0
      clear hv hv0
      have hv := hv1
      clear hv1
      have htl0 := htl
      clear hsl hnode hr2 HO hrn
      rcases kinds_of hnb with rfl | rfl | rfl | ⟨k4, k7⟩ | ⟨k8, k17⟩
      · have hsv : stepV 1 n s = .iface 85 (.agg #[.int .i64 n]) := rfl
        have htk : takes 1 = 0 := rfl
        have hw := word_of hnb
        have hrk : ∀ T, rkV Y (1, n, s) T = (n, 0) := fun T => rfl
        rw [hsv] at c_s
        rw [htk] at htl hrun2
        have HE : Hid (O = if (rkV Y (1, n, s) (st.drop (low st 1))).2 = 0 then ev Y (st.take (low st 1) ++ [(rkV Y (1, n, s) (st.drop (low st 1))).1]) (L.drop (k + 1)) else (0, (rkV Y (1, n, s) (st.drop (low st 1))).2)) := HO2.out
        have hlow : low st 1 = sl - 0 := by unfold low; rw [htk, HSL.out]; rfl
        rw [hlow, hrk] at HE
        clear HO2 hrk hlow htk hsv hnb
        rw [Nat.sub_zero] at HE
        have hst : st.take sl = st := by rw [← HSL.out]; exact List.take_length
        rw [hst] at HE
        clear hst
        have HO3' : Hid (O = ev Y (st ++ [n]) (L.drop (k + 1))) := by have := HE.out; rw [if_pos rfl] at this; exact this
        clear HE
        obtain ⟨rv, hrv⟩ : ∃ rv, rv = n := ⟨_, rfl⟩
        have hrin : In rv := by rw [hrv]; exact ⟨by omega, by omega⟩
        have HO3 : Hid (O = ev Y (st ++ [rv]) (L.drop (k + 1))) := by rw [hrv]; exact HO3'.out
        have cr : ∀ tv yv W, Calls Tryd.prog 25 #[.iface 85 (.agg #[.int .i64 n]), tv, yv] W fun e w' => e = .returned (.tuple #[.int .i32 rv, .int .i64 0]) ∧ Below W.heap.size W w' := fun tv yv W => by rw [hrv]; exact rek1 n tv yv W hw.1 hw.2
        clear HO3' hrv
        rcases shape with ⟨rfl, rfl, hst0, rfl⟩ | ⟨g, rfl⟩
        · subst hst0
          have HRN2 : Hid (run ((0 + 1 : Nat) : Int) (L.drop (k + 1)) = some 1) := (congrArg (fun z => run z (L.drop (k + 1))) (by omega)).trans hrun2
          clear hrun2
          have HIN : Hid (∀ x ∈ [rv], In x) := fun x hx => by rw [List.mem_singleton.1 hx]; exact hrin
          have mm := m1
          go_wp2_with (first | (go_at_call 25; refine (cr _ _ _).mono ?_; rintro e w3 ⟨rfl, b3⟩; have V3 : Hid (Vals' w3 w1.heap.size (.slice none 0 0) 0 []) := vals_below ((hv.out).alloc _) b3; have B3 : Hid (Below w1.heap.size w1 w3) := (hbel.out.alloc hbel.out.size _).trans (b3.mono (by have := hbel.out.size; simp; omega)); clear b3) | (at_builtin; refine wpList_append_own _ rfl _ _ 53 rfl w1.heap.size 21 i0 (.int .i32 0) 1 4 Tryd.underlying53 hi hz0 hz1 hz2 rfl (by decide) (.slice none 0 0) 0 ([]) rfl ((V3.out.alloc _)) ⟨w3.heap.size, 0, none⟩ 1 1 [.int .i32 rv] rfl rfl (cell_one_new _ _ _) (by intro u hu; simp at hu; subst hu; rfl) (by unfold maxLen; omega) (by omega) (by have := B3.out.size; simp; omega) ?_) | go_in)
          all_goals
            intro v' w4 hown' hgrow _
            have OW : Hid (Vals w4 w1.heap.size v' ([rv])) := vals_new hown' (by simp) (by simp)
            have BW : Hid (Below w1.heap.size w1 w4) := (B3.out.alloc B3.out.size _).grown hgrow (by have := B3.out.size; simp; omega) (fun q hq => by cases hq)
            have EL : ([rv]).length = 0 + 1 := by simp
            obtain ⟨ao', cap', rfl⟩ : ∃ ao' cap', v' = .slice ao' (0 + 1) cap' := by
              rcases hown'.2 with ⟨_, h⟩ | ⟨g', c', cur', hv', _⟩
              · omega
              · exact ⟨_, _, hv'⟩
            clear hown' hgrow V3 B3
            go_wp2_with fail
            go_roundw
            case rel => exact ⟨k + 1, [rv], ao', cap', by omega, by omega, by go_num, by rw [EL], by rw [EL]; exact OW.out, HIN.out, by rw [EL]; exact HRN2.out, HO3.out, BW.out⟩
            case measure => simp [intOf]; omega
        · have HRN2 : Hid (run ((sl + 1 : Nat) : Int) (L.drop (k + 1)) = some 1) := (congrArg (fun z => run z (L.drop (k + 1))) (by omega)).trans hrun2
          clear hrun2
          have HIN : Hid (∀ x ∈ st ++ [rv], In x) := in_more hin.out hrin
          have mm := m1
          have hcap := vals_cap hv.out
          go_wp2_with (first | (go_at_call 25; refine (cr _ _ _).mono ?_; rintro e w3 ⟨rfl, b3⟩; have V3 : Hid (Vals' w3 w1.heap.size (.slice (some ⟨g, 0, none⟩) sl vcap) sl st) := vals_below ((hv.out).alloc _) b3; have B3 : Hid (Below w1.heap.size w1 w3) := (hbel.out.alloc hbel.out.size _).trans (b3.mono (by have := hbel.out.size; simp; omega)); clear b3) | (at_builtin; refine wpList_append_own _ rfl _ _ 53 rfl w1.heap.size 21 i0 (.int .i32 0) 1 4 Tryd.underlying53 hi hz0 hz1 hz2 rfl (by decide) (.slice (some ⟨g, 0, none⟩) sl vcap) sl (st.map fun x => .int .i32 x) rfl ((V3.out.alloc _)) ⟨w3.heap.size, 0, none⟩ 1 1 [.int .i32 rv] rfl rfl (cell_one_new _ _ _) (by intro u hu; simp at hu; subst hu; rfl) (by unfold maxLen; omega) (by omega) (by have := B3.out.size; simp; omega) ?_) | go_in)
          all_goals
            intro v' w4 hown' hgrow _
            have OW : Hid (Vals w4 w1.heap.size v' (st ++ [rv])) := vals_new hown' (by rw [List.length_append, HSL.out]; rfl) (by simp)
            have BW : Hid (Below w1.heap.size w1 w4) := (B3.out.alloc B3.out.size _).grown hgrow (by have := B3.out.size; simp; omega) (fun q hq => (V3.out.lt q hq).1)
            have EL : (st ++ [rv]).length = sl + 1 := by rw [List.length_append, HSL.out]; rfl
            obtain ⟨ao', cap', rfl⟩ : ∃ ao' cap', v' = .slice ao' (sl + 1) cap' := by
              rcases hown'.2 with ⟨_, h⟩ | ⟨g', c', cur', hv', _⟩
              · omega
              · exact ⟨_, _, hv'⟩
            clear hown' hgrow V3 B3
            go_wp2_with fail
            go_roundw
            case rel => exact ⟨k + 1, st ++ [rv], ao', cap', by omega, by omega, by go_num, by rw [EL], by rw [EL]; exact OW.out, HIN.out, by rw [EL]; exact HRN2.out, HO3.out, BW.out⟩
            case measure => simp [intOf]; omega
      · have hsv : stepV 2 n s = .iface 87 (.agg #[.string s]) := rfl
        have htk : takes 2 = 0 := rfl
        have hrk : ∀ T, rkV Y (2, n, s) T = symR 2 (find Y s) := fun T => rfl
        rw [hsv] at c_s
        rw [htk] at htl hrun2
        have HE : Hid (O = if (rkV Y (2, n, s) (st.drop (low st 2))).2 = 0 then ev Y (st.take (low st 2) ++ [(rkV Y (2, n, s) (st.drop (low st 2))).1]) (L.drop (k + 1)) else (0, (rkV Y (2, n, s) (st.drop (low st 2))).2)) := HO2.out
        have hlow : low st 2 = sl - 0 := by unfold low; rw [htk, HSL.out]; rfl
        rw [hlow, hrk] at HE
        clear HO2 hrk hlow htk hsv hnb
        rw [Nat.sub_zero] at HE
        have hst : st.take sl = st := by rw [← HSL.out]; exact List.take_length
        rw [hst] at HE
        clear hst
        have cr0 : ∀ tv W, (Syms w ya Y → Syms W ya Y) → Calls Tryd.prog 25 #[.iface 87 (.agg #[.string s]), tv, .slice ya yl ycap] W fun e w' => e = .returned (.tuple #[.int .i32 (symR 2 (find Y s)).1, .int .i64 (symR 2 (find Y s)).2]) ∧ Below W.heap.size W w' := fun tv W hs => by
          have := rek2 s tv ya ycap Y W (hs HY.out) (by rw [← HYL.out]; exact hyl)
          rw [← HYL.out] at this
          exact this
        have hcs := symR_cases 2 (find Y s)
        obtain ⟨rv, cd, hrv⟩ : ∃ rv cd, symR 2 (find Y s) = (rv, cd) := ⟨_, _, rfl⟩
        rw [hrv] at cr0 HE hcs
        simp only at cr0 HE hcs
        have cr : ∀ tv W, (Syms w ya Y → Syms W ya Y) → Calls Tryd.prog 25 #[.iface 87 (.agg #[.string s]), tv, .slice ya yl ycap] W fun e w' => e = .returned (.tuple #[.int .i32 rv, .int .i64 cd]) ∧ Below W.heap.size W w' := cr0
        clear cr0 hrv
        rcases shape with ⟨rfl, rfl, hst0, rfl⟩ | ⟨g, rfl⟩
        · subst hst0
          rcases hcs with ⟨rfl, hrin⟩ | ⟨hrv0, hcd⟩
          · have HO3 : Hid (O = ev Y ([rv]) (L.drop (k + 1))) := by have := HE.out; rw [if_pos rfl] at this; exact this
            clear HE
            have HRN2 : Hid (run ((0 + 1 : Nat) : Int) (L.drop (k + 1)) = some 1) := (congrArg (fun z => run z (L.drop (k + 1))) (by omega)).trans hrun2
            clear hrun2
            have HIN : Hid (∀ x ∈ [rv], In x) := fun x hx => by rw [List.mem_singleton.1 hx]; exact hrin
            have mm := m2
            go_wp2_with (first | (go_at_call 25; refine (cr _ _ (fun hs => hyb _ (hbel0.out.alloc hbel0.out.size _) hs)).mono ?_; rintro e w3 ⟨rfl, b3⟩; have V3 : Hid (Vals' w3 w1.heap.size (.slice none 0 0) 0 []) := vals_below ((hv.out).alloc _) b3; have B3 : Hid (Below w1.heap.size w1 w3) := (hbel.out.alloc hbel.out.size _).trans (b3.mono (by have := hbel.out.size; simp; omega)); clear b3) | (at_builtin; refine wpList_append_own _ rfl _ _ 53 rfl w1.heap.size 21 i0 (.int .i32 0) 1 4 Tryd.underlying53 hi hz0 hz1 hz2 rfl (by decide) (.slice none 0 0) 0 ([]) rfl ((V3.out.alloc _)) ⟨w3.heap.size, 0, none⟩ 1 1 [.int .i32 rv] rfl rfl (cell_one_new _ _ _) (by intro u hu; simp at hu; subst hu; rfl) (by unfold maxLen; omega) (by omega) (by have := B3.out.size; simp; omega) ?_) | go_in)
            all_goals
              intro v' w4 hown' hgrow _
              have OW : Hid (Vals w4 w1.heap.size v' ([rv])) := vals_new hown' (by simp) (by simp)
              have BW : Hid (Below w1.heap.size w1 w4) := (B3.out.alloc B3.out.size _).grown hgrow (by have := B3.out.size; simp; omega) (fun q hq => by cases hq)
              have EL : ([rv]).length = 0 + 1 := by simp
              obtain ⟨ao', cap', rfl⟩ : ∃ ao' cap', v' = .slice ao' (0 + 1) cap' := by
                rcases hown'.2 with ⟨_, h⟩ | ⟨g', c', cur', hv', _⟩
                · omega
                · exact ⟨_, _, hv'⟩
              clear hown' hgrow V3 B3
              go_wp2_with fail
              go_roundw
              case rel => exact ⟨k + 1, [rv], ao', cap', by omega, by omega, by go_num, by rw [EL], by rw [EL]; exact OW.out, HIN.out, by rw [EL]; exact HRN2.out, HO3.out, BW.out⟩
              case measure => simp [intOf]; omega
          · have HO3 : Hid (O = (0, cd)) := by have := HE.out; rw [if_neg (by omega)] at this; exact this
            have hne : ¬ cd = 0 := by omega
            clear HE hrun2
            have mm := m2
            go_wp2_with (first | (go_at_call 25; refine (cr _ _ (fun hs => hyb _ (hbel0.out.alloc hbel0.out.size _) hs)).mono ?_; rintro e w3 ⟨rfl, b3⟩; have V3 : Hid (Vals' w3 w1.heap.size (.slice none 0 0) 0 []) := vals_below ((hv.out).alloc _) b3; have B3 : Hid (Below w1.heap.size w1 w3) := (hbel.out.alloc hbel.out.size _).trans (b3.mono (by have := hbel.out.size; simp; omega)); clear b3) | go_in)
            all_goals go_ret2
            all_goals exact ⟨by rw [HO3.out, hcd]; rfl, B1.out.trans (B3.out.mono B1.out.size)⟩
        · rcases hcs with ⟨rfl, hrin⟩ | ⟨hrv0, hcd⟩
          · have HO3 : Hid (O = ev Y (st ++ [rv]) (L.drop (k + 1))) := by have := HE.out; rw [if_pos rfl] at this; exact this
            clear HE
            have HRN2 : Hid (run ((sl + 1 : Nat) : Int) (L.drop (k + 1)) = some 1) := (congrArg (fun z => run z (L.drop (k + 1))) (by omega)).trans hrun2
            clear hrun2
            have HIN : Hid (∀ x ∈ st ++ [rv], In x) := in_more hin.out hrin
            have mm := m2
            have hcap := vals_cap hv.out
            go_wp2_with (first | (go_at_call 25; refine (cr _ _ (fun hs => hyb _ (hbel0.out.alloc hbel0.out.size _) hs)).mono ?_; rintro e w3 ⟨rfl, b3⟩; have V3 : Hid (Vals' w3 w1.heap.size (.slice (some ⟨g, 0, none⟩) sl vcap) sl st) := vals_below ((hv.out).alloc _) b3; have B3 : Hid (Below w1.heap.size w1 w3) := (hbel.out.alloc hbel.out.size _).trans (b3.mono (by have := hbel.out.size; simp; omega)); clear b3) | (at_builtin; refine wpList_append_own _ rfl _ _ 53 rfl w1.heap.size 21 i0 (.int .i32 0) 1 4 Tryd.underlying53 hi hz0 hz1 hz2 rfl (by decide) (.slice (some ⟨g, 0, none⟩) sl vcap) sl (st.map fun x => .int .i32 x) rfl ((V3.out.alloc _)) ⟨w3.heap.size, 0, none⟩ 1 1 [.int .i32 rv] rfl rfl (cell_one_new _ _ _) (by intro u hu; simp at hu; subst hu; rfl) (by unfold maxLen; omega) (by omega) (by have := B3.out.size; simp; omega) ?_) | go_in)
            all_goals
              intro v' w4 hown' hgrow _
              have OW : Hid (Vals w4 w1.heap.size v' (st ++ [rv])) := vals_new hown' (by rw [List.length_append, HSL.out]; rfl) (by simp)
              have BW : Hid (Below w1.heap.size w1 w4) := (B3.out.alloc B3.out.size _).grown hgrow (by have := B3.out.size; simp; omega) (fun q hq => (V3.out.lt q hq).1)
              have EL : (st ++ [rv]).length = sl + 1 := by rw [List.length_append, HSL.out]; rfl
              obtain ⟨ao', cap', rfl⟩ : ∃ ao' cap', v' = .slice ao' (sl + 1) cap' := by
                rcases hown'.2 with ⟨_, h⟩ | ⟨g', c', cur', hv', _⟩
                · omega
                · exact ⟨_, _, hv'⟩
              clear hown' hgrow V3 B3
              go_wp2_with fail
              go_roundw
              case rel => exact ⟨k + 1, st ++ [rv], ao', cap', by omega, by omega, by go_num, by rw [EL], by rw [EL]; exact OW.out, HIN.out, by rw [EL]; exact HRN2.out, HO3.out, BW.out⟩
              case measure => simp [intOf]; omega
          · have HO3 : Hid (O = (0, cd)) := by have := HE.out; rw [if_neg (by omega)] at this; exact this
            have hne : ¬ cd = 0 := by omega
            clear HE hrun2
            have mm := m2
            have hcap := vals_cap hv.out
            go_wp2_with (first | (go_at_call 25; refine (cr _ _ (fun hs => hyb _ (hbel0.out.alloc hbel0.out.size _) hs)).mono ?_; rintro e w3 ⟨rfl, b3⟩; have V3 : Hid (Vals' w3 w1.heap.size (.slice (some ⟨g, 0, none⟩) sl vcap) sl st) := vals_below ((hv.out).alloc _) b3; have B3 : Hid (Below w1.heap.size w1 w3) := (hbel.out.alloc hbel.out.size _).trans (b3.mono (by have := hbel.out.size; simp; omega)); clear b3) | go_in)
            all_goals go_ret2
            all_goals exact ⟨by rw [HO3.out, hcd]; rfl, B1.out.trans (B3.out.mono B1.out.size)⟩
      · have hsv : stepV 3 n s = .iface 90 (.agg #[.string s]) := rfl
        have htk : takes 3 = 0 := rfl
        have hrk : ∀ T, rkV Y (3, n, s) T = symR 3 (find Y s) := fun T => rfl
        rw [hsv] at c_s
        rw [htk] at htl hrun2
        have HE : Hid (O = if (rkV Y (3, n, s) (st.drop (low st 3))).2 = 0 then ev Y (st.take (low st 3) ++ [(rkV Y (3, n, s) (st.drop (low st 3))).1]) (L.drop (k + 1)) else (0, (rkV Y (3, n, s) (st.drop (low st 3))).2)) := HO2.out
        have hlow : low st 3 = sl - 0 := by unfold low; rw [htk, HSL.out]; rfl
        rw [hlow, hrk] at HE
        clear HO2 hrk hlow htk hsv hnb
        rw [Nat.sub_zero] at HE
        have hst : st.take sl = st := by rw [← HSL.out]; exact List.take_length
        rw [hst] at HE
        clear hst
        have cr0 : ∀ tv W, (Syms w ya Y → Syms W ya Y) → Calls Tryd.prog 25 #[.iface 90 (.agg #[.string s]), tv, .slice ya yl ycap] W fun e w' => e = .returned (.tuple #[.int .i32 (symR 3 (find Y s)).1, .int .i64 (symR 3 (find Y s)).2]) ∧ Below W.heap.size W w' := fun tv W hs => by
          have := rek3 s tv ya ycap Y W (hs HY.out) (by rw [← HYL.out]; exact hyl)
          rw [← HYL.out] at this
          exact this
        have hcs := symR_cases 3 (find Y s)
        obtain ⟨rv, cd, hrv⟩ : ∃ rv cd, symR 3 (find Y s) = (rv, cd) := ⟨_, _, rfl⟩
        rw [hrv] at cr0 HE hcs
        simp only at cr0 HE hcs
        have cr : ∀ tv W, (Syms w ya Y → Syms W ya Y) → Calls Tryd.prog 25 #[.iface 90 (.agg #[.string s]), tv, .slice ya yl ycap] W fun e w' => e = .returned (.tuple #[.int .i32 rv, .int .i64 cd]) ∧ Below W.heap.size W w' := cr0
        clear cr0 hrv
        rcases shape with ⟨rfl, rfl, hst0, rfl⟩ | ⟨g, rfl⟩
        · subst hst0
          rcases hcs with ⟨rfl, hrin⟩ | ⟨hrv0, hcd⟩
          · have HO3 : Hid (O = ev Y ([rv]) (L.drop (k + 1))) := by have := HE.out; rw [if_pos rfl] at this; exact this
            clear HE
            have HRN2 : Hid (run ((0 + 1 : Nat) : Int) (L.drop (k + 1)) = some 1) := (congrArg (fun z => run z (L.drop (k + 1))) (by omega)).trans hrun2
            clear hrun2
            have HIN : Hid (∀ x ∈ [rv], In x) := fun x hx => by rw [List.mem_singleton.1 hx]; exact hrin
            have mm := m3
            go_wp2_with (first | (go_at_call 25; refine (cr _ _ (fun hs => hyb _ (hbel0.out.alloc hbel0.out.size _) hs)).mono ?_; rintro e w3 ⟨rfl, b3⟩; have V3 : Hid (Vals' w3 w1.heap.size (.slice none 0 0) 0 []) := vals_below ((hv.out).alloc _) b3; have B3 : Hid (Below w1.heap.size w1 w3) := (hbel.out.alloc hbel.out.size _).trans (b3.mono (by have := hbel.out.size; simp; omega)); clear b3) | (at_builtin; refine wpList_append_own _ rfl _ _ 53 rfl w1.heap.size 21 i0 (.int .i32 0) 1 4 Tryd.underlying53 hi hz0 hz1 hz2 rfl (by decide) (.slice none 0 0) 0 ([]) rfl ((V3.out.alloc _)) ⟨w3.heap.size, 0, none⟩ 1 1 [.int .i32 rv] rfl rfl (cell_one_new _ _ _) (by intro u hu; simp at hu; subst hu; rfl) (by unfold maxLen; omega) (by omega) (by have := B3.out.size; simp; omega) ?_) | go_in)
            all_goals
              intro v' w4 hown' hgrow _
              have OW : Hid (Vals w4 w1.heap.size v' ([rv])) := vals_new hown' (by simp) (by simp)
              have BW : Hid (Below w1.heap.size w1 w4) := (B3.out.alloc B3.out.size _).grown hgrow (by have := B3.out.size; simp; omega) (fun q hq => by cases hq)
              have EL : ([rv]).length = 0 + 1 := by simp
              obtain ⟨ao', cap', rfl⟩ : ∃ ao' cap', v' = .slice ao' (0 + 1) cap' := by
                rcases hown'.2 with ⟨_, h⟩ | ⟨g', c', cur', hv', _⟩
                · omega
                · exact ⟨_, _, hv'⟩
              clear hown' hgrow V3 B3
              go_wp2_with fail
              go_roundw
              case rel => exact ⟨k + 1, [rv], ao', cap', by omega, by omega, by go_num, by rw [EL], by rw [EL]; exact OW.out, HIN.out, by rw [EL]; exact HRN2.out, HO3.out, BW.out⟩
              case measure => simp [intOf]; omega
          · have HO3 : Hid (O = (0, cd)) := by have := HE.out; rw [if_neg (by omega)] at this; exact this
            have hne : ¬ cd = 0 := by omega
            clear HE hrun2
            have mm := m3
            go_wp2_with (first | (go_at_call 25; refine (cr _ _ (fun hs => hyb _ (hbel0.out.alloc hbel0.out.size _) hs)).mono ?_; rintro e w3 ⟨rfl, b3⟩; have V3 : Hid (Vals' w3 w1.heap.size (.slice none 0 0) 0 []) := vals_below ((hv.out).alloc _) b3; have B3 : Hid (Below w1.heap.size w1 w3) := (hbel.out.alloc hbel.out.size _).trans (b3.mono (by have := hbel.out.size; simp; omega)); clear b3) | go_in)
            all_goals go_ret2
            all_goals exact ⟨by rw [HO3.out, hcd]; rfl, B1.out.trans (B3.out.mono B1.out.size)⟩
        · rcases hcs with ⟨rfl, hrin⟩ | ⟨hrv0, hcd⟩
          · have HO3 : Hid (O = ev Y (st ++ [rv]) (L.drop (k + 1))) := by have := HE.out; rw [if_pos rfl] at this; exact this
            clear HE
            have HRN2 : Hid (run ((sl + 1 : Nat) : Int) (L.drop (k + 1)) = some 1) := (congrArg (fun z => run z (L.drop (k + 1))) (by omega)).trans hrun2
            clear hrun2
            have HIN : Hid (∀ x ∈ st ++ [rv], In x) := in_more hin.out hrin
            have mm := m3
            have hcap := vals_cap hv.out
            go_wp2_with (first | (go_at_call 25; refine (cr _ _ (fun hs => hyb _ (hbel0.out.alloc hbel0.out.size _) hs)).mono ?_; rintro e w3 ⟨rfl, b3⟩; have V3 : Hid (Vals' w3 w1.heap.size (.slice (some ⟨g, 0, none⟩) sl vcap) sl st) := vals_below ((hv.out).alloc _) b3; have B3 : Hid (Below w1.heap.size w1 w3) := (hbel.out.alloc hbel.out.size _).trans (b3.mono (by have := hbel.out.size; simp; omega)); clear b3) | (at_builtin; refine wpList_append_own _ rfl _ _ 53 rfl w1.heap.size 21 i0 (.int .i32 0) 1 4 Tryd.underlying53 hi hz0 hz1 hz2 rfl (by decide) (.slice (some ⟨g, 0, none⟩) sl vcap) sl (st.map fun x => .int .i32 x) rfl ((V3.out.alloc _)) ⟨w3.heap.size, 0, none⟩ 1 1 [.int .i32 rv] rfl rfl (cell_one_new _ _ _) (by intro u hu; simp at hu; subst hu; rfl) (by unfold maxLen; omega) (by omega) (by have := B3.out.size; simp; omega) ?_) | go_in)
            all_goals
              intro v' w4 hown' hgrow _
              have OW : Hid (Vals w4 w1.heap.size v' (st ++ [rv])) := vals_new hown' (by rw [List.length_append, HSL.out]; rfl) (by simp)
              have BW : Hid (Below w1.heap.size w1 w4) := (B3.out.alloc B3.out.size _).grown hgrow (by have := B3.out.size; simp; omega) (fun q hq => (V3.out.lt q hq).1)
              have EL : (st ++ [rv]).length = sl + 1 := by rw [List.length_append, HSL.out]; rfl
              obtain ⟨ao', cap', rfl⟩ : ∃ ao' cap', v' = .slice ao' (sl + 1) cap' := by
                rcases hown'.2 with ⟨_, h⟩ | ⟨g', c', cur', hv', _⟩
                · omega
                · exact ⟨_, _, hv'⟩
              clear hown' hgrow V3 B3
              go_wp2_with fail
              go_roundw
              case rel => exact ⟨k + 1, st ++ [rv], ao', cap', by omega, by omega, by go_num, by rw [EL], by rw [EL]; exact OW.out, HIN.out, by rw [EL]; exact HRN2.out, HO3.out, BW.out⟩
              case measure => simp [intOf]; omega
          · have HO3 : Hid (O = (0, cd)) := by have := HE.out; rw [if_neg (by omega)] at this; exact this
            have hne : ¬ cd = 0 := by omega
            clear HE hrun2
            have mm := m3
            have hcap := vals_cap hv.out
            go_wp2_with (first | (go_at_call 25; refine (cr _ _ (fun hs => hyb _ (hbel0.out.alloc hbel0.out.size _) hs)).mono ?_; rintro e w3 ⟨rfl, b3⟩; have V3 : Hid (Vals' w3 w1.heap.size (.slice (some ⟨g, 0, none⟩) sl vcap) sl st) := vals_below ((hv.out).alloc _) b3; have B3 : Hid (Below w1.heap.size w1 w3) := (hbel.out.alloc hbel.out.size _).trans (b3.mono (by have := hbel.out.size; simp; omega)); clear b3) | go_in)
            all_goals go_ret2
            all_goals exact ⟨by rw [HO3.out, hcd]; rfl, B1.out.trans (B3.out.mono B1.out.size)⟩
      · obtain ⟨g, rfl⟩ : ∃ g, vo = some ⟨g, 0, none⟩ := by
          rcases shape with ⟨rfl, rfl, hst0, rfl⟩ | ⟨g, rfl⟩
          · exfalso; rw [takes_one k4 k7] at htl0; omega
          · exact ⟨g, rfl⟩
        have hsv : stepV kd n s = .iface 92 (.agg #[.int .i64 kd]) := step_one k4 k7
        have htk : takes kd = 1 := takes_one k4 k7
        have hrk : ∀ T, rkV Y (kd, n, s) T = (f1 kd (T.getD 0 0), 0) := fun T => rk_one k4 k7
        rw [hsv] at c_s
        rw [htk] at htl hrun2
        have HE : Hid (O = if (rkV Y (kd, n, s) (st.drop (low st kd))).2 = 0 then ev Y (st.take (low st kd) ++ [(rkV Y (kd, n, s) (st.drop (low st kd))).1]) (L.drop (k + 1)) else (0, (rkV Y (kd, n, s) (st.drop (low st kd))).2)) := HO2.out
        have hlow : low st kd = sl - 1 := by unfold low; rw [htk, HSL.out]; rfl
        rw [hlow, hrk] at HE
        clear HO2 hrk hlow htk hsv hnb
        obtain ⟨lo, hlo0⟩ : ∃ lo, lo = sl - 1 := ⟨_, rfl⟩
        rw [← hlo0] at HE
        have hlo : lo ≤ sl := by omega
        have hlo1 : (sl : Int) - 1 = (lo : Int) := by omega
        have hlo2 : sl - lo = 1 := by omega
        obtain ⟨x0, hx0, e0, hc0⟩ := vals_at (j := lo) hv.out HSL.out hin.out (by omega)
        have d0 : (st.drop lo).getD 0 0 = x0 := by rw [List.getD_eq_getElem?_getD, List.getElem?_drop, Nat.add_zero, e0]; rfl
        rw [d0] at HE
        clear d0 e0 hlo0
        obtain ⟨rv, hrv⟩ : ∃ rv, rv = f1 kd x0 := ⟨_, rfl⟩
        have hrin : In rv := by rw [hrv]; exact in_f1 _ _
        have HO3 : Hid (O = ev Y (st.take lo ++ [rv]) (L.drop (k + 1))) := by have := HE.out; rw [if_pos rfl, ← hrv] at this; exact this
        have cr : ∀ tc yv W, W.cell? ⟨g, lo, none⟩ = some (.int .i32 x0) → Calls Tryd.prog 25 #[.iface 92 (.agg #[.int .i64 kd]), .slice (some ⟨g, lo, none⟩) 1 tc, yv] W fun e w' => e = .returned (.tuple #[.int .i32 rv, .int .i64 0]) ∧ Below W.heap.size W w' := fun tc yv W h => by rw [hrv]; exact rekOne kd x0 g lo tc yv W k4 k7 hx0 h
        clear HE hrv
        have HRN2 : Hid (run ((lo + 1 : Nat) : Int) (L.drop (k + 1)) = some 1) := (congrArg (fun z => run z (L.drop (k + 1))) (by omega)).trans hrun2
        clear hrun2
        have HIN : Hid (∀ x ∈ st.take lo ++ [rv], In x) := in_more (fun x hx => hin.out x (List.mem_of_mem_take hx)) hrin
        have mm := m4
        have hcap := vals_cap hv.out
        go_wp2_with (first | (go_at_call 25; refine (cr _ _ _ (cell_alloc hc0 _)).mono ?_; rintro e w3 ⟨rfl, b3⟩; have V3 : Hid (Vals' w3 w1.heap.size (.slice (some ⟨g, 0, none⟩) sl vcap) sl st) := vals_below ((hv.out).alloc _) b3; have B3 : Hid (Below w1.heap.size w1 w3) := (hbel.out.alloc hbel.out.size _).trans (b3.mono (by have := hbel.out.size; simp; omega)); clear b3) | (at_builtin; refine wpList_append_own _ rfl _ _ 53 rfl w1.heap.size 21 i0 (.int .i32 0) 1 4 Tryd.underlying53 hi hz0 hz1 hz2 rfl (by decide) (.slice (some ⟨g, 0, none⟩) lo vcap) lo ((st.take lo).map fun x => .int .i32 x) rfl ((vals_cut (V3.out.alloc _) hlo)) ⟨w3.heap.size, 0, none⟩ 1 1 [.int .i32 rv] rfl rfl (cell_one_new _ _ _) (by intro u hu; simp at hu; subst hu; rfl) (by unfold maxLen; omega) (by omega) (by have := B3.out.size; simp; omega) ?_) | go_in)
        all_goals
          intro v' w4 hown' hgrow _
          have OW : Hid (Vals w4 w1.heap.size v' (st.take lo ++ [rv])) := vals_new hown' (by rw [List.length_append, List.length_take, HSL.out, Nat.min_eq_left hlo]; rfl) (by simp)
          have BW : Hid (Below w1.heap.size w1 w4) := (B3.out.alloc B3.out.size _).grown hgrow (by have := B3.out.size; simp; omega) (fun q hq => (V3.out.lt q hq).1)
          have EL : (st.take lo ++ [rv]).length = lo + 1 := by rw [List.length_append, List.length_take, HSL.out, Nat.min_eq_left hlo]; rfl
          obtain ⟨ao', cap', rfl⟩ : ∃ ao' cap', v' = .slice ao' (lo + 1) cap' := by
            rcases hown'.2 with ⟨_, h⟩ | ⟨g', c', cur', hv', _⟩
            · omega
            · exact ⟨_, _, hv'⟩
          clear hown' hgrow V3 B3
          go_wp2_with fail
          go_roundw
          case rel => exact ⟨k + 1, st.take lo ++ [rv], ao', cap', by omega, by omega, by go_num, by rw [EL], by rw [EL]; exact OW.out, HIN.out, by rw [EL]; exact HRN2.out, HO3.out, BW.out⟩
          case measure => simp [intOf]; omega
      · obtain ⟨g, rfl⟩ : ∃ g, vo = some ⟨g, 0, none⟩ := by
          rcases shape with ⟨rfl, rfl, hst0, rfl⟩ | ⟨g, rfl⟩
          · exfalso; rw [takes_two k8] at htl0; omega
          · exact ⟨g, rfl⟩
        have hsv : stepV kd n s = .iface 94 (.agg #[.int .i64 kd]) := step_two k8 k17
        have htk : takes kd = 2 := takes_two k8
        have hrk : ∀ T, rkV Y (kd, n, s) T = v2 kd (T.getD 0 0) (T.getD 1 0) := fun T => rk_two k8
        rw [hsv] at c_s
        rw [htk] at htl hrun2
        have HE : Hid (O = if (rkV Y (kd, n, s) (st.drop (low st kd))).2 = 0 then ev Y (st.take (low st kd) ++ [(rkV Y (kd, n, s) (st.drop (low st kd))).1]) (L.drop (k + 1)) else (0, (rkV Y (kd, n, s) (st.drop (low st kd))).2)) := HO2.out
        have hlow : low st kd = sl - 2 := by unfold low; rw [htk, HSL.out]; rfl
        rw [hlow, hrk] at HE
        clear HO2 hrk hlow htk hsv hnb
        obtain ⟨lo, hlo0⟩ : ∃ lo, lo = sl - 2 := ⟨_, rfl⟩
        rw [← hlo0] at HE
        have hlo : lo ≤ sl := by omega
        have hlo1 : (sl : Int) - 2 = (lo : Int) := by omega
        have hlo2 : sl - lo = 2 := by omega
        obtain ⟨x0, hx0, e0, hc0⟩ := vals_at (j := lo) hv.out HSL.out hin.out (by omega)
        obtain ⟨x1, hx1, e1, hc1⟩ := vals_at (j := lo + 1) hv.out HSL.out hin.out (by omega)
        have d0 : (st.drop lo).getD 0 0 = x0 := by rw [List.getD_eq_getElem?_getD, List.getElem?_drop, Nat.add_zero, e0]; rfl
        have d1 : (st.drop lo).getD 1 0 = x1 := by rw [List.getD_eq_getElem?_getD, List.getElem?_drop, e1]; rfl
        rw [d0, d1] at HE
        clear d0 e0 hlo0 d1 e1
        have hcs := v2_cases kd x0 x1 hx0
        obtain ⟨rv, cd, hrv⟩ : ∃ rv cd, v2 kd x0 x1 = (rv, cd) := ⟨_, _, rfl⟩
        have cr : ∀ tc yv W, W.cell? ⟨g, lo, none⟩ = some (.int .i32 x0) → W.cell? ⟨g, lo + 1, none⟩ = some (.int .i32 x1) → Calls Tryd.prog 25 #[.iface 94 (.agg #[.int .i64 kd]), .slice (some ⟨g, lo, none⟩) 2 tc, yv] W fun e w' => e = .returned (.tuple #[.int .i32 rv, .int .i64 cd]) ∧ Below W.heap.size W w' := fun tc yv W h h' => by
          have := rekTwo kd x0 x1 g lo tc yv W k8 k17 hx0 hx1 h h'
          rw [hrv] at this
          exact this
        rw [hrv] at HE hcs
        simp only at HE hcs
        clear hrv
        rcases hcs with ⟨rfl, hrin⟩ | ⟨hrv0, hcd⟩
        · have HO3 : Hid (O = ev Y (st.take lo ++ [rv]) (L.drop (k + 1))) := by have := HE.out; rw [if_pos rfl] at this; exact this
          clear HE
          have HRN2 : Hid (run ((lo + 1 : Nat) : Int) (L.drop (k + 1)) = some 1) := (congrArg (fun z => run z (L.drop (k + 1))) (by omega)).trans hrun2
          clear hrun2
          have HIN : Hid (∀ x ∈ st.take lo ++ [rv], In x) := in_more (fun x hx => hin.out x (List.mem_of_mem_take hx)) hrin
          have mm := m5
          have hcap := vals_cap hv.out
          go_wp2_with (first | (go_at_call 25; refine (cr _ _ _ (cell_alloc hc0 _) (cell_alloc hc1 _)).mono ?_; rintro e w3 ⟨rfl, b3⟩; have V3 : Hid (Vals' w3 w1.heap.size (.slice (some ⟨g, 0, none⟩) sl vcap) sl st) := vals_below ((hv.out).alloc _) b3; have B3 : Hid (Below w1.heap.size w1 w3) := (hbel.out.alloc hbel.out.size _).trans (b3.mono (by have := hbel.out.size; simp; omega)); clear b3) | (at_builtin; refine wpList_append_own _ rfl _ _ 53 rfl w1.heap.size 21 i0 (.int .i32 0) 1 4 Tryd.underlying53 hi hz0 hz1 hz2 rfl (by decide) (.slice (some ⟨g, 0, none⟩) lo vcap) lo ((st.take lo).map fun x => .int .i32 x) rfl ((vals_cut (V3.out.alloc _) hlo)) ⟨w3.heap.size, 0, none⟩ 1 1 [.int .i32 rv] rfl rfl (cell_one_new _ _ _) (by intro u hu; simp at hu; subst hu; rfl) (by unfold maxLen; omega) (by omega) (by have := B3.out.size; simp; omega) ?_) | go_in)
          all_goals
            intro v' w4 hown' hgrow _
            have OW : Hid (Vals w4 w1.heap.size v' (st.take lo ++ [rv])) := vals_new hown' (by rw [List.length_append, List.length_take, HSL.out, Nat.min_eq_left hlo]; rfl) (by simp)
            have BW : Hid (Below w1.heap.size w1 w4) := (B3.out.alloc B3.out.size _).grown hgrow (by have := B3.out.size; simp; omega) (fun q hq => (V3.out.lt q hq).1)
            have EL : (st.take lo ++ [rv]).length = lo + 1 := by rw [List.length_append, List.length_take, HSL.out, Nat.min_eq_left hlo]; rfl
            obtain ⟨ao', cap', rfl⟩ : ∃ ao' cap', v' = .slice ao' (lo + 1) cap' := by
              rcases hown'.2 with ⟨_, h⟩ | ⟨g', c', cur', hv', _⟩
              · omega
              · exact ⟨_, _, hv'⟩
            clear hown' hgrow V3 B3
            go_wp2_with fail
            go_roundw
            case rel => exact ⟨k + 1, st.take lo ++ [rv], ao', cap', by omega, by omega, by go_num, by rw [EL], by rw [EL]; exact OW.out, HIN.out, by rw [EL]; exact HRN2.out, HO3.out, BW.out⟩
            case measure => simp [intOf]; omega
        · have HO3 : Hid (O = (0, cd)) := by have := HE.out; rw [if_neg (by omega)] at this; exact this
          have hne : ¬ cd = 0 := by omega
          clear HE hrun2
          have mm := m5
          have hcap := vals_cap hv.out
          go_wp2_with (first | (go_at_call 25; refine (cr _ _ _ (cell_alloc hc0 _) (cell_alloc hc1 _)).mono ?_; rintro e w3 ⟨rfl, b3⟩; have V3 : Hid (Vals' w3 w1.heap.size (.slice (some ⟨g, 0, none⟩) sl vcap) sl st) := vals_below ((hv.out).alloc _) b3; have B3 : Hid (Below w1.heap.size w1 w3) := (hbel.out.alloc hbel.out.size _).trans (b3.mono (by have := hbel.out.size; simp; omega)); clear b3) | go_in)
          all_goals go_ret2
          all_goals exact ⟨by rw [HO3.out, hcd]; rfl, B1.out.trans (B3.out.mono B1.out.size)⟩
    · have e : k = len := by omega
      subst e
      have e1 : st.length = 1 := by
        have := hrn.out
        rw [HL.out, List.drop_length] at this
        have := Option.some.inj this
        omega
      obtain ⟨g, rfl⟩ : ∃ g, vo = some ⟨g, 0, none⟩ := by
        rcases shape with ⟨_, h0, _, _⟩ | ⟨g, rfl⟩
        · omega
        · exact ⟨g, rfl⟩
      clear shape
      obtain ⟨x, rfl⟩ : ∃ x, st = [x] := List.length_eq_one_iff.1 e1
      have HE : Hid (O = (x, 0)) := by show _ = _; rw [HO.out, HL.out, List.drop_length]; rfl
      obtain ⟨x', hx', e', hc⟩ := vals_at (j := 0) hv.out rfl hin.out (Nat.zero_lt_one)
      obtain rfl : x = x' := by simpa using e'
      obtain ⟨i1, i2⟩ := hx'
      have hw32 : wrap64 x = x := by unfold wrap64; omega
      clear HO hrn hv hin e'
      go_wp2
      go_ret2
      exact ⟨by rw [HE.out]; rfl, B1.out.trans (hbel.out.mono B1.out.size)⟩
  · have e1 : evV L Y = (0, 1) := by unfold evV; rw [if_neg hx]
    rw [e1]
    have hyl2 := hyl
    generalize Y.length = yl at *
    cases hb : exprB L with
    | false =>
      rw [hb] at cs
      go_enter Tryd.func14, Tryd.ntmps14
      go_wp2_with fail
      refine cs.mono ?_
      rintro e w1 ⟨⟨sv, rfl, hrow⟩, b1⟩
      have B1 : Hid (Below w.heap.size w w1) := b1
      clear hrow b1 cs
      go_wp2
      go_ret2
      exact ⟨rfl, B1.out⟩
    | true =>
      rw [hb] at cs
      have h200 : ¬ yl ≤ 200 := fun h => hx ⟨hb, h⟩
      clear hx
      go_enter Tryd.func14, Tryd.ntmps14
      go_wp2_with fail
      refine cs.mono ?_
      rintro e w1 ⟨⟨sv, rfl, hrow⟩, b1⟩
      have B1 : Hid (Below w.heap.size w w1) := b1
      clear hrow b1 cs
      go_wp2
      go_ret2
      exact ⟨rfl, B1.out⟩
end Go.Proofs.YtlobkgohenebmaaDoor.Evai
