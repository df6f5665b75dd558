/-
  Contracts of ours for the program's reader of expressions (impl.exprParser): expr.
-/
import Derived.Test.YtlobkgohenebmaaDoorXimf
import Derived.Deep.CutRange
namespace Go.Proofs.YtlobkgohenebmaaDoor.Ximg
open Go.ChangeShapes Go.WideShapes Go.ChangeAt Go.RowKit Go.Deep
open Prsp Prsl Xima Ximb Ximc Ximd Ximf
set_option linter.unusedVariables false
set_option linter.unusedSimpArgs false
set_option maxRecDepth 20000


set_option maxHeartbeats 4000000 in
theorem expr_zero (pb : Nat) (s : ByteArray) (deep : Int) (hv : VA pb s deep (val 0)) : EA pb s deep (lev 0) := by
  intro least k L w _ _ h hT
  rw [lev_zero]
  have ct := hv k L w h hT
  rw [val_zero] at ct
  go_enter Tryd.func23, Tryd.ntmps23
  go_wp2_with fail
  refine ct.mono ?_
  rintro e w1 ⟨⟨u, pv, rfl⟩, hb⟩
  exact ⟨rfl, RI.pan hb⟩

/-- Behind the op's box. -/
def Q1 (pb j b : Nat) (s : ByteArray) (L : List Stepx.Node) (o : Int) (w wx : World) : Prop :=
  PI wx pb s j L ∧ BK pb w wx ∧ wx.cell? ⟨b, 0, none⟩ = some (.int .i64 o) ∧ wx.cell? ⟨b, 1, none⟩ = some (.int .i64 (tgt o)) ∧ wx.cell? ⟨b, 2, none⟩ = some (.int .i64 (opSz o)) ∧ b ≠ pb ∧ rowB wx pb ≠ some b
theorem rowB_lt {w : World} {pb k : Nat} {s : ByteArray} {L : List Stepx.Node} (h : PI w pb s k L) {b : Nat} (hb : w.heap.size ≤ b) : rowB w pb ≠ some b := by
  obtain ⟨a, cap, c0, c1, c2, cf, hk, hs, hl30, ho⟩ := h
  intro e
  unfold rowB at e
  rw [c2] at e
  rcases ho.2 with ⟨h1, _⟩ | ⟨g, c, cur, h1, hg, hh, _⟩
  · rw [h1] at e; cases e
  · rw [h1] at e
    have e : g = b := by simpa [Value.ownBlock] using e
    have := (Array.getElem?_eq_some_iff.1 hh).1
    omega
theorem meet1 {w wr wx : World} {pb j b : Nat} {s : ByteArray} {L : List Stepx.Node} {o : Int} (h : PI wr pb s j L) (hw : BK pb w wr) (hb : Below wr.heap.size wr wx) (hbb : wr.heap.size ≤ b)
    (c0 : wx.cell? ⟨b, 0, none⟩ = some (.int .i64 o)) (c1 : wx.cell? ⟨b, 1, none⟩ = some (.int .i64 (tgt o))) (c2 : wx.cell? ⟨b, 2, none⟩ = some (.int .i64 (opSz o))) : Q1 pb j b s L o w wx := by
  have hk := BK.of h.lt hb
  refine ⟨h.kept hb, hw.trans hk, c0, c1, c2, by have := h.lt; omega, ?_⟩
  rcases hk.row with e | ⟨c, e, hc⟩
  · rw [e]; exact rowB_lt h hbb
  · have : rowB wx pb = rowB wr pb := by unfold rowB; rw [hb.cell (p := ⟨pb, 2, none⟩) h.lt]
    rw [this]; exact rowB_lt h hbb
theorem drop_all (s : ByteArray) (j : Nat) (h : j ≤ s.size) : (s.extract j s.size).data.toList = s.data.toList.drop j := by
  rw [ByteArray.data_extract, Array.toList_extract, List.extract_eq_take_drop, List.take_of_length_le (by rw [List.length_drop]; exact Nat.le_refl _)]
theorem new_cells (W : World) (a b c : Value) (t : TypeId) : (W.alloc (.cells #[a, b, c] t)).cell? ⟨W.heap.size, 0, none⟩ = some a ∧ (W.alloc (.cells #[a, b, c] t)).cell? ⟨W.heap.size, 1, none⟩ = some b ∧ (W.alloc (.cells #[a, b, c] t)).cell? ⟨W.heap.size, 2, none⟩ = some c :=
  ⟨by rw [World.cell?_alloc_new]; rfl, by rw [World.cell?_alloc_new]; rfl, by rw [World.cell?_alloc_new]; rfl⟩

theorem meetA {w wr wq : World} {pb j : Nat} {s : ByteArray} {L : List Stepx.Node} {o : Int} (h : PI wr pb s j L) (hw : BK pb w wr) (hb : Below wr.heap.size wr wq)
    (z0 : wq.cell? ⟨wr.heap.size, 0, none⟩ = some (.int .i64 0)) (z1 : wq.cell? ⟨wr.heap.size, 1, none⟩ = some (.int .i64 0)) (z2 : wq.cell? ⟨wr.heap.size, 2, none⟩ = some (.int .i64 0)) :
    Q1 pb j wr.heap.size s L o w (((wq.setCell ⟨wr.heap.size, 0, none⟩ (.int .i64 o)).setCell ⟨wr.heap.size, 1, none⟩ (.int .i64 (tgt o))).setCell ⟨wr.heap.size, 2, none⟩ (.int .i64 (opSz o))) := by
  have ne : ∀ (W : World) (i j : Nat) (v : Value), j ≠ i → (W.setCell ⟨wr.heap.size, i, none⟩ v).cell? ⟨wr.heap.size, j, none⟩ = W.cell? ⟨wr.heap.size, j, none⟩ := fun W i j v hij => World.cell?_setCell_other W _ _ _ (fun e => by have := congrArg Addr.off e; simp at this; omega)
  refine meet1 h hw (((hb.trans below_set).trans below_set).trans below_set) (Nat.le_refl _) ?_ ?_ ?_
  · rw [ne _ _ _ _ (by decide), ne _ _ _ _ (by decide)]; exact World.cell?_setCell_same _ _ _ z0
  · rw [ne _ _ _ _ (by decide)]; exact World.cell?_setCell_same _ _ _ ((ne _ _ _ _ (by decide)).trans z1)
  · exact World.cell?_setCell_same _ _ _ (((ne _ _ _ _ (by decide)).trans (ne _ _ _ _ (by decide))).trans z2)
theorem meetB {w wr wq : World} {pb j : Nat} {s : ByteArray} {L : List Stepx.Node} {o : Int} (h : PI wr pb s j L) (hw : BK pb w wr) (hb : Below wr.heap.size wr wq) :
    Q1 pb j wq.heap.size s L o w (wq.alloc (.cells #[.int .i64 o, .int .i64 (tgt o), .int .i64 (opSz o)] 79)) := by
  obtain ⟨a, b, c⟩ := new_cells wq (.int .i64 o) (.int .i64 (tgt o)) (.int .i64 (opSz o)) 79
  exact meet1 h hw (hb.trans ((Below.refl _ _).alloc hb.size _)) hb.size a b c
theorem metA {w wr wq : World} {pb j : Nat} {s : ByteArray} {L : List Stepx.Node} {o : Int} (h : PI wr pb s j L) (hw : BK pb w wr) (hb : Below wr.heap.size wr wq)
    (z0 : wq.cell? ⟨wr.heap.size, 0, none⟩ = some (.int .i64 0)) (z1 : wq.cell? ⟨wr.heap.size, 1, none⟩ = some (.int .i64 0)) (z2 : wq.cell? ⟨wr.heap.size, 2, none⟩ = some (.int .i64 0)) :
    ∃ b : Nat, Value.pointer (some ⟨wr.heap.size, 0, none⟩) = .pointer (some ⟨b, 0, none⟩) ∧ Hid (Q1 pb j b s L o w (((wq.setCell ⟨wr.heap.size, 0, none⟩ (.int .i64 o)).setCell ⟨wr.heap.size, 1, none⟩ (.int .i64 (tgt o))).setCell ⟨wr.heap.size, 2, none⟩ (.int .i64 (opSz o)))) := ⟨_, rfl, meetA h hw hb z0 z1 z2⟩
theorem metB {w wr wq : World} {pb j : Nat} {s : ByteArray} {L : List Stepx.Node} {o : Int} (h : PI wr pb s j L) (hw : BK pb w wr) (hb : Below wr.heap.size wr wq) :
    ∃ b : Nat, Value.pointer (some ⟨wq.heap.size, 0, none⟩) = .pointer (some ⟨b, 0, none⟩) ∧ Hid (Q1 pb j b s L o w (wq.alloc (.cells #[.int .i64 o, .int .i64 (tgt o), .int .i64 (opSz o)] 79))) := ⟨_, rfl, meetB h hw hb⟩
theorem Q1.below {w wc wx : World} {pb j b : Nat} {s : ByteArray} {L : List Stepx.Node} {o : Int} (h : Q1 pb j b s L o w wc) (hb : Below wc.heap.size wc wx) : Q1 pb j b s L o w wx := by
  obtain ⟨h1, h2, c0, c1, c2, hne, hr⟩ := h
  have hl : b < wc.heap.size := World.block_lt_of_cell? wc ⟨b, 0, none⟩ c0
  have e : ∀ i, wx.cell? ⟨b, i, none⟩ = wc.cell? ⟨b, i, none⟩ := fun i => hb.cell (p := ⟨b, i, none⟩) hl
  exact ⟨h1.kept hb, h2.trans (BK.of h1.lt hb), (e 0).trans c0, (e 1).trans c1, (e 2).trans c2, hne, by
    have : rowB wx pb = rowB wc pb := by unfold rowB; rw [hb.cell (p := ⟨pb, 2, none⟩) h1.lt]
    rw [this]; exact hr⟩
theorem Q1.at_ {w wc : World} {pb j b j2 : Nat} {s : ByteArray} {L : List Stepx.Node} {o z : Int} (h : Q1 pb j b s L o w wc) (hj : j2 ≤ s.size) (hz : z = (j2 : Int)) : Q1 pb j2 b s L o w (wc.setCell ⟨pb, 1, none⟩ (.int .i64 z)) := by
  obtain ⟨h1, h2, c0, c1, c2, hne, hr⟩ := h
  have e : ∀ i, (wc.setCell ⟨pb, 1, none⟩ (.int .i64 z)).cell? ⟨b, i, none⟩ = wc.cell? ⟨b, i, none⟩ := fun i => World.cell?_setCell_other wc _ _ _ (fun e => hne (congrArg Addr.block e).symm)
  refine ⟨h1.at_ hj hz, h2.trans bk_set, (e 0).trans c0, (e 1).trans c1, (e 2).trans c2, hne, ?_⟩
  have : rowB (wc.setCell ⟨pb, 1, none⟩ (.int .i64 z)) pb = rowB wc pb := by unfold rowB; rw [World.cell?_setCell_other wc _ _ _ (fun e => by have := congrArg Addr.off e; simp at this)]
  rw [this]; exact hr
theorem Q1.kind {w wc wx : World} {pb j b : Nat} {s : ByteArray} {L : List Stepx.Node} {o : Int} (h : Q1 pb j b s L o w wc) (hb : BK pb wc wx) : wx.cell? ⟨b, 0, none⟩ = some (.int .i64 o) := by
  obtain ⟨h1, h2, c0, c1, c2, hne, hr⟩ := h
  have hl : b < wc.heap.size := World.block_lt_of_cell? wc ⟨b, 0, none⟩ c0
  exact (World.cell?_of_block (a := ⟨b, 0, none⟩) (hb.keep b hl hne hr)).trans c0
theorem step_at {f : Int → St → Option St} {s : ByteArray} {j z : Nat} {L : List Stepx.Node} {o q : Int} (ho : o = opK (s.data.toList.drop j)) (hq : q = tgt o) (hz : z = opL o) :
    stepF f (s.data.toList.drop j, L) = (f (q + 1) (s.data.toList.drop (j + z), L)).bind (put (o, 0, E0)) := by
  unfold stepF
  show (f (tgt (opK (s.data.toList.drop j)) + 1) ((s.data.toList.drop j).drop (opL (opK (s.data.toList.drop j))), L)).bind (put (opK (s.data.toList.drop j), 0, E0)) = _
  rw [← ho, ← hq, ← hz, List.drop_drop]

set_option maxHeartbeats 8000000 in
theorem expr_succ (pb n : Nat) (s : ByteArray) (deep : Int) (h0 : 0 ≤ deep) (hdp : deep ≤ 30) (hg : 0 < pb) (hv : VA pb s deep (val (n + 1))) (he : EA pb s (deep + 1) (lev n)) : EA pb s deep (lev (n + 1)) := by
  intro least k L w hl1 hl7 h hT
  have H : Hid (PI w pb s k L) := h
  have hs := h.sz
  have HT : Hid (Nums.Tab w) := hT
  have id1 : IntKind.i64.wrap (deep + 1) = deep + 1 := by rw [IntKind.wrap_i64]; omega
  obtain ⟨R, hR⟩ : ∃ R, R = (val (n + 1) (s.data.toList.drop k, L)).bind (loopF (lev n) least) := ⟨_, rfl⟩
  have HR : Hid (R = (val (n + 1) (s.data.toList.drop k, L)).bind (loopF (lev n) least)) := hR
  rw [lev_succ, ← hR]
  clear h hR hT
  go_enter Tryd.func23, Tryd.ntmps23
  go_wp2_with fail
  refine (hv k L _ H.out HT.out).mono ?_
  intro e w1 h1
  rcases RI.split h1 with ⟨hn, ⟨u, pv, rfl⟩, b1⟩ | ⟨st, j1, hn, rfl, hj1, hst, p1, b1⟩
  · exact ⟨rfl, RI.none_of (by rw [HR.out, hn]; rfl) b1⟩
  have START : Hid (∃ j L', k ≤ j ∧ Hid (PI w1 pb s j L' ∧ BK pb w w1 ∧ R = loopF (lev n) least (s.data.toList.drop j, L'))) := ⟨j1, st.2, hj1, p1, b1, by rw [HR.out, hn]; show loopF (lev n) least st = _; rw [← hst]⟩
  clear h1 p1 b1 hst hn HR hv H
  go_wp2_with fail
  go_loopw [] (fun wr => ∃ j L', k ≤ j ∧ Hid (PI wr pb s j L' ∧ BK pb w wr ∧ R = loopF (lev n) least (s.data.toList.drop j, L'))) (fun wr => s.size - Ximb.atOf wr pb)
  case atStart => exact START.out
  case round =>
    obtain ⟨j, L', hkj, Q⟩ := hrel
    clear START hj1
    have hat := atOf_ Q.out.1
    have hj := Q.out.1.sz.1
    obtain ⟨o, ho⟩ : ∃ o, o = opK (s.data.toList.drop j) := ⟨_, rfl⟩
    have HO : Hid (o = opK (s.data.toList.drop j)) := ho
    have obd := op_bd (s.data.toList.drop j)
    rw [← ho] at obd
    have co := fun W => opAt_any (s.extract j s.size) W (by rw [ByteArray.size_extract]; omega)
    rw [drop_all s j hj, ← ho] at co
    clear ho
    have s1 : ∀ w, (Instr.slice 9 (.string s) (some (.int .i64 (j : Int))) none none).run Tryd.prog w = .ok (.string (s.extract j s.size)) w := fun w => by
      rw [run_slice_string_from_if (P := Tryd.prog) (w := w) 9 s .i64 (j : Int) Tryd.underlying9, if_pos ⟨by omega, by omega⟩, show ((j : Int)).toNat = j by omega]
    have c0 := Q.out.1.c0
    have c1 := Q.out.1.c1
    have hpl := Q.out.1.lt
    have g0 : ∀ o, (wr.alloc o).cell? ⟨pb, 0, none⟩ = some (.string s) := fun o => (((Below.refl wr.heap.size wr).alloc (Nat.le_refl _) o).cell (p := ⟨pb, 0, none⟩) hpl).trans c0
    have g1 : ∀ o, (wr.alloc o).cell? ⟨pb, 1, none⟩ = some (.int .i64 j) := fun o => (((Below.refl wr.heap.size wr).alloc (Nat.le_refl _) o).cell (p := ⟨pb, 1, none⟩) hpl).trans c1
    generalize s.extract j s.size = t at *
    go_upto_region 1 with fail
    go_cut [6] from 10 to 44 (fun v wx => ∃ b : Nat, v = .pointer (some ⟨b, 0, none⟩) ∧ Hid (Q1 pb j b s L' o w wx))
    case first =>
      unfold opV at co
      go_region_with (first
        | (go_at_call 39
           refine (co _).mono ?_
           rintro e wq ⟨rfl, bq⟩
           first
             | (have z0 : wq.cell? ⟨wr.heap.size, 0, none⟩ = some (.int .i64 0) := (bq.cell (p := ⟨wr.heap.size, 0, none⟩) (by simp)).trans (by first | exact (new_cells _ _ _ _ _).1 | exact (new_cells wr _ _ _ _).1)
                have z1 : wq.cell? ⟨wr.heap.size, 1, none⟩ = some (.int .i64 0) := (bq.cell (p := ⟨wr.heap.size, 1, none⟩) (by simp)).trans (by first | exact (new_cells _ _ _ _ _).2.1 | exact (new_cells wr _ _ _ _).2.1)
                have z2 : wq.cell? ⟨wr.heap.size, 2, none⟩ = some (.int .i64 0) := (bq.cell (p := ⟨wr.heap.size, 2, none⟩) (by simp)).trans (by first | exact (new_cells _ _ _ _ _).2.2 | exact (new_cells wr _ _ _ _).2.2)
                have zf : ∀ i, wq.frozen? ⟨wr.heap.size, i, none⟩ = false := fun i => (World.frozen?_of_block (a := ⟨wr.heap.size, i, none⟩) (bq.block wr.heap.size (by simp))).trans (by simp [go_sem])
                have BQ : Hid (Below wr.heap.size wr wq) := (show Below wr.heap.size wr _ from by repeat (with_reducible first | exact Below.refl _ _ | refine Below.drew ?_ | refine Below.alloc ?_ (Nat.le_refl _) _)).trans (bq.mono (by simp)))
             | (have BQ : Hid (Below wr.heap.size wr wq) := (show Below wr.heap.size wr _ from by repeat (with_reducible first | exact Below.refl _ _ | refine Below.drew ?_)).trans (bq.mono (by simp)))
           clear bq)
        | fail)
      all_goals go_wp2_with fail
      all_goals go_meet
      all_goals first
        | (with_reducible exact metA Q.out.1 Q.out.2.1 BQ.out z0 z1 z2)
        | (with_reducible exact metB Q.out.1 Q.out.2.1 BQ.out)
    case rest =>
      obtain ⟨b, rfl, Q2⟩ := hcut
      have HQ : Hid (R = loopF (lev n) least (s.data.toList.drop j, L')) := Q.out.2.2
      have x0 := Q2.out.2.2.1
      have x1 := Q2.out.2.2.2.1
      have x2 := Q2.out.2.2.2.2.1
      have c1 := Q2.out.1.c1
      clear c0 g0 g1 Q co s1 x0 hpl
      by_cases ht : tgt o < least
      · have F : Hid (RI pb s k R w (.returned (.tuple #[])) wc) := (show RI _ _ _ _ _ _ _ from by
          rw [HQ.out, loop_stop (by rw [HO.out] at ht; exact ht)]; exact RI.some hkj Q2.out.1 Q2.out.2.1)
        have d0 : decide (tgt o < least) = true := decide_eq_true ht
        clear HQ HO ht c1 x2
        go_wp2_with fail
        first | go_end0 | refine bodyPost_ret (results_none rfl _ _ _) rfl ?_
        exact F.out
      · have HTG : Hid (¬ tgt (opK (s.data.toList.drop j)) < least) := (show ¬ _ from by rw [← HO.out]; exact ht)
        have hob : 8 ≤ o ∧ o ≤ 17 := by have := op_ne hl1 HTG.out; rw [← HO.out] at this; exact this
        have hqb := tight_bd hob
        have hzb := opL_bd o
        have hol : j + opL o ≤ s.size := by
          have := Prsm.op_len (l := s.data.toList.drop j) (by rw [← HO.out]; exact hob.1)
          rw [← HO.out, drop_len] at this
          omega
        have hsz : opSz o = (opL o : Int) := by unfold opSz; rw [if_neg (by omega)]
        rw [hsz] at x2
        obtain ⟨z, hz⟩ : ∃ z, z = opL o := ⟨_, rfl⟩
        obtain ⟨q, hq⟩ : ∃ q, q = tgt o := ⟨_, rfl⟩
        have ST : Hid (∀ L, stepF (lev n) (s.data.toList.drop j, L) = (lev n (q + 1) (s.data.toList.drop (j + z), L)).bind (put (o, 0, E0))) := fun L => step_at HO.out hq hz
        have HQT : Hid (q = tgt o) := hq
        rw [← hz] at hzb hol x2
        rw [← hq] at ht hqb x1
        clear hsz hz hq HO
        have d0 : decide (q < least) = false := decide_eq_false ht
        have i1 : IntKind.i64.wrap ((j : Int) + (z : Int)) = (j : Int) + (z : Int) := by rw [IntKind.wrap_i64]; omega
        have i2 : IntKind.i64.wrap (q + 1) = q + 1 := by rw [IntKind.wrap_i64]; omega
        go_upto_region 3 with fail
        have r1 := fun d os => cell_regrown c1 d os
        have r2 := fun d os => cell_regrown x2 d os
        refine Qtail.tail_below 9 (by kernel_rfl) (by kernel_rfl) ?_
        simp only [List.take_succ_cons, List.take_zero, List.drop_succ_cons, List.drop_zero]
        repeat (go_big_quiet_step (fail))
        refine wpQuiet_nil ?_
        intro _ hw'
        obtain ⟨⟨dq, osq⟩, hw''⟩ := hw'
        subst hw''
        have hbr := below_regrown wc dq osq
        generalize Go.Sort.grow (redrawn wc dq) osq = W3 at hbr ⊢
        have Q3 : Hid (Q1 pb j b s L' o w W3) := Q2.out.below hbr
        clear hbr r1 r2 x1 x2 c1 Q2
        have c1 := Q3.out.1.c1
        have f1 := Q3.out.1.fz 1
        have Q4 : Hid (Q1 pb (j + z) b s L' o w (W3.setCell ⟨pb, 1, none⟩ (.int .i64 ((j : Int) + (z : Int))))) := Q3.out.at_ hol (by omega)
        have x1 := Q4.out.2.2.2.1
        rw [← HQT.out] at x1
        go_wp2_with fail
        refine (he (q + 1) (j + z) L' _ (by omega) (by omega) Q4.out.1 (tab_pb hg HT.out Q4.out.2.1.bel)).mono ?_
        intro e w5 h5
        rcases RI.split h5 with ⟨hn, ⟨u, pv, rfl⟩, b5⟩ | ⟨st5, j5, hn, rfl, hj5, hst5, p5, b5⟩
        · have F : Hid (RI pb s k R w (.panicked [{ v := .iface u pv, recovered := false }]) w5) := (show RI _ _ _ _ _ _ _ from RI.none_of (by rw [HQ.out]; exact loop_none (s := (s.data.toList.drop j, L')) (by show ¬ tgt (opK (s.data.toList.drop j)) < least; have := HTG.out; omega) (by rw [ST.out, hn]; rfl)) (Q4.out.2.1.bel.trans b5))
          first | exact ⟨rfl, F.out⟩ | (go_wp2; exact ⟨rfl, F.out⟩)
        have P5 : Hid (PI w5 pb s j5 st5.2 ∧ BK pb w w5) := ⟨p5, Q4.out.2.1.trans b5⟩
        have y0 := Q4.out.kind b5
        have ST5 : Hid (stepF (lev n) (s.data.toList.drop j, L') = put (o, 0, E0) (s.data.toList.drop j5, st5.2)) := (show _ = _ from by rw [ST.out, hn]; show put _ st5 = _; rw [← hst5])
        clear h5 p5 b5 hn hst5 x1 c1 f1 Q3 Q4 ST
        have ct := put_any pb j5 s st5.2 _ P5.out.1 o 0 E0
        rw [← ST5.out] at ct
        go_wp2_with fail
        refine ct.mono ?_
        intro e w6 h6
        rcases RI.split h6 with ⟨hn, ⟨u, pv, rfl⟩, b6⟩ | ⟨st6, j6, hn, rfl, hj6, hst6, p6, b6⟩
        · have F : Hid (RI pb s k R w (.panicked [{ v := .iface u pv, recovered := false }]) w6) := (show RI _ _ _ _ _ _ _ from RI.none_of (by rw [HQ.out]; exact loop_none (s := (s.data.toList.drop j, L')) (by show ¬ tgt (opK (s.data.toList.drop j)) < least; have := HTG.out; omega) hn) (P5.out.2.bel.trans b6))
          first | exact ⟨rfl, F.out⟩ | (go_wp2; exact ⟨rfl, F.out⟩)
        have P6 : Hid (PI w6 pb s j6 st6.2 ∧ BK pb w w6 ∧ R = loopF (lev n) least (s.data.toList.drop j6, st6.2)) := ⟨p6, P5.out.2.trans b6, by
          rw [HQ.out, loop_go (s := (s.data.toList.drop j, L')) (s' := st6) (by show ¬ tgt (opK (s.data.toList.drop j)) < least; have := HTG.out; omega) hn (by rw [hst6]; show (s.data.toList.drop j6).length < (s.data.toList.drop j).length; rw [drop_len, drop_len]; omega), ← hst6]⟩
        clear h6 p6 b6 hn hst6 ct y0 P5 ST5 HQ
        go_wp2_with fail
        go_roundw
        case rel => exact ⟨j6, st6.2, by omega, P6.out⟩
        case measure => rw [hat, atOf_ P6.out.1]; omega

/-- At every depth. -/
theorem both_any (pb : Nat) (s : ByteArray) (hg : 0 < pb) : ∀ n : Nat, n ≤ 31 → VA pb s (31 - (n : Int)) (val n) ∧ EA pb s (31 - (n : Int)) (lev n)
  | 0, _ => ⟨value_zero pb s _ (by decide), expr_zero pb s _ (value_zero pb s _ (by decide))⟩
  | n + 1, h => by
    obtain ⟨hv, he⟩ := both_any pb s hg n (by omega)
    have e : 31 - ((n + 1 : Nat) : Int) + 1 = 31 - (n : Int) := by omega
    have v := value_succ pb n s (31 - ((n + 1 : Nat) : Int)) (by omega) (by omega) hg (by rw [e]; exact hv) (by rw [e]; exact he)
    exact ⟨v, expr_succ pb n s _ (by omega) (by omega) hg v (by rw [e]; exact he)⟩
theorem expr_any (pb : Nat) (s : ByteArray) (hg : 0 < pb) : EA pb s 0 (lev 31) := by
  have := (both_any pb s hg 31 (by decide)).2
  simpa using this

end Go.Proofs.YtlobkgohenebmaaDoor.Ximg
