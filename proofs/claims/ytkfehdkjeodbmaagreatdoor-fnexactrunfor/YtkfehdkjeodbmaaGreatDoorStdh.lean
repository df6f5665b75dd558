/-
  A contract of ours for spec.Step, at every machine; both steps keep an answer's length.
-/
import Derived.Test.YtkfehdkjeodbmaaGreatDoorStdg
namespace Go.Proofs.YtkfehdkjeodbmaaGreatDoor.Stdh
open Go.ChangeShapes Go.WideShapes Go.ChangeAt Go.RowKit Go.Deep
set_option linter.unusedVariables false
set_option linter.unusedSimpArgs false
set_option maxRecDepth 20000
open Signed (inB sgn ret_int ret_bool)
open Busw Busx Stpp Stpq Stpi Stpj Stpo Stdg
open Ista (stepV)
open MachT (heap_row heap_row_other below_row)
set_option maxHeartbeats 4000000 in
theorem specStep_any (m : M) (po : Option Addr) (cap : Nat) (w : World) (hs : Sm m) (hN : Sl w po m.out cap) (hpo : ∀ p, po = some p → p.block < w.heap.size) :
    Calls Tryz.prog 7 #[.agg (cellsM m po cap)] w (Ista.Told m w) := by
  have hz := zeroM
  have c1 := fun W (h : Sl W po m.out cap) => specOk_M m po cap W hs h
  have H0 : Hid (∀ W, Below w.heap.size w W → Sl W po m.out cap) := fun W h => hN.below h
  have HS : Hid (Sm m) := hs
  have HP : Hid (∀ p, po = some p → p.block < w.heap.size) := hpo
  have HBT : Hid (Tryz.prog.built 33 [] = some (cellsM Z0 none 0)) := builtM
  obtain ⟨b, hb⟩ : ∃ x, x = okMM m := ⟨_, rfl⟩
  have HO : Hid (b = okMM m) := hb
  rw [← hb] at c1
  clear hN hs hb hpo
  obtain ⟨cM, hcM⟩ : ∃ c, c = cellsM m po cap := ⟨_, rfl⟩
  obtain ⟨cZ, hcZ⟩ : ∃ c, c = cellsM Z0 none 0 := ⟨_, rfl⟩
  have HM : Hid (cM = cellsM m po cap) := hcM
  have HZ : Hid (cZ = cellsM Z0 none 0) := hcZ
  have HIM : Hid ((Tryz.prog.info? 33).map (·.size) = some cM.size) := hcM ▸ infoMs m po cap
  have HIZ : Hid ((Tryz.prog.info? 33).map (·.size) = some cZ.size) := hcZ ▸ infoMs Z0 none 0
  have HOZ : Hid (cZ.all (·.oneCell') = true) := hcZ ▸ one_M Z0 none 0
  rw [← hcM] at c1 ⊢
  rw [← hcZ] at hz HBT
  clear hcM hcZ
  go_enter Tryz.func7, Tryz.ntmps7
  go_upto_region 1 with fail
  refine wp_region_list ?_
  have k0 : ((w.alloc (.cells cM 33)).alloc (.cells cZ 33)).heap[w.heap.size]? = some (.cells cM 33) := by
    rw [Below.heap_alloc _ _ _ (by simp)]; exact heap_alloc_last w _
  refine wpList_load_row rfl 33 _ rfl w.heap.size rfl _ _ (0, 0) _ k0 Tryz.underlying33 rfl HIM.out ?_
  clear k0
  go_wp2_with fail
  refine Calls.mono (c1 _ (H0.out _ (by repeat (with_reducible first | exact Below.refl _ _ | refine CartL.grow ?_ _ | refine below_drewN ?_ _ | refine Below.drew ?_)))) ?_
  rintro e w1 ⟨rfl, hb1⟩
  have HB : Hid (Below w.heap.size w w1) := HolI.after (by repeat (with_reducible first | exact Below.refl _ _ | refine CartL.grow ?_ _ | refine below_drewN ?_ _ | refine Below.drew ?_)) hb1
  have HK : Hid (w1.heap[w.heap.size]? = some (.cells cM 33)) := by
    have h := hb1.block w.heap.size (by simp; omega)
    rw [Below.heap_alloc _ _ _ (by simp)] at h
    exact h.trans (heap_alloc_last w _)
  have HR : Hid (w1.heap[w.heap.size + 1]? = some (.cells cZ 33)) := by
    have h := hb1.block (w.heap.size + 1) (by simp)
    have h2 := heap_alloc_last (w.alloc (.cells cM 33)) (.cells cZ 33)
    simp only [World.size_alloc] at h2
    exact h.trans h2
  clear hb1 c1
  cases b with
  | false =>
    have HV : Hid (stepV m = (Z0, 3)) := by show _ = _; unfold stepV; rw [if_neg (by rw [← HO.out]; decide)]
    go_upto_region 2 with fail
    refine wp_region_list ?_
    refine wpList_build0 rfl 33 rfl cZ HBT.out ?_
    refine wpList_store_row rfl 33 _ _ rfl (w.heap.size + 1) cZ rfl rfl _ _ HR.out HIZ.out rfl HOZ.out ?_
    have HF : Hid ((w1.setRow (w.heap.size + 1) cZ).heap[w.heap.size + 1]? = some (.cells cZ 33)) := heap_row HR.out
    have HG : Hid (Below w.heap.size w (w1.setRow (w.heap.size + 1) cZ)) := below_row HB.out (by omega)
    go_wp2
    refine bodyPost_ret (v := .tuple #[.agg cZ, .int .i64 3]) (results_two Tryz.results7 _ _ (w.heap.size + 1) _ _ (0, 0) _ _ rfl rfl HF.out Tryz.underlying33 rfl HIZ.out) rfl ?_
    refine ⟨⟨none, 0, by rw [HV.out, HZ.out], ?_⟩, HG.out⟩
    rw [HV.out]
    exact Ista.own_nil _ _ HG.out.size
  | true =>
    have HV : Hid (stepV m = stepP m) := by show _ = _; unfold stepV; rw [if_pos HO.out.symm]
    have HGD : Hid (Stpq.Good m ∧ 0 ≤ m.cyc ∧ m.cyc ≤ 1000000000) := good_of HO.out.symm HS.out
    clear HS HBT
    go_upto_region 3 with fail
    refine wp_region_list ?_
    refine wpList_load_row rfl 33 _ rfl w.heap.size rfl _ _ (0, 0) _ HK.out Tryz.underlying33 rfl HIM.out ?_
    go_wp2_with fail
    refine Calls.mono (by rw [HM.out]; exact ssS m po cap w1 HGD.out.1 HGD.out.2 (H0.out w1 HB.out) (fun p e => Nat.lt_of_lt_of_le (HP.out p e) HB.out.size)) ?_
    rintro e w4 ⟨⟨po4, cap4, rfl, own4⟩, hb4⟩
    rw [← HV.out]
    rw [← HV.out] at own4
    have HB4 : Hid (Below w.heap.size w w4) := HolI.after HB.out hb4
    have HZ4 : Hid (w4.heap[w.heap.size + 1]? = some (.cells cZ 33)) := (hb4.block _ (Array.getElem?_eq_some_iff.1 HR.out).1).trans HR.out
    have HO4 : Hid (w4.ownsRow w.heap.size 2 1 (.slice po4 (stepV m).1.out.length cap4) (stepV m).1.out.length (outC (stepV m).1.out)) := row_own (w' := w4) own4 _ HB.out.size
    clear own4 hb4
    generalize hR : (stepV m).1 = R at *
    generalize hC : (stepV m).2 = code at *
    rename_i hK
    refine hK _ _ ?_
    clear hK
    refine wpList_plain rfl (fun K hK => ?_)
    go_simp
    refine hK _ _ ?_
    clear hK
    refine wpList_plain rfl (fun K hK => ?_)
    go_simp
    refine hK _ _ ?_
    clear hK
    refine wpList_store_row rfl 33 _ _ rfl (w.heap.size + 1) _ rfl rfl _ _ HZ4.out (infoMs _ _ _) (by rw [HZ.out, size_M, size_M]) (one_M _ _ _) ?_
    have HF : Hid ((w4.setRow (w.heap.size + 1) (cellsM R po4 cap4)).heap[w.heap.size + 1]? = some (.cells (cellsM R po4 cap4) 33)) := heap_row HZ4.out
    have HG : Hid (Below w.heap.size w (w4.setRow (w.heap.size + 1) (cellsM R po4 cap4))) := below_row HB4.out (by omega)
    have HOw : Hid ((w4.setRow (w.heap.size + 1) (cellsM R po4 cap4)).ownsRow w.heap.size 2 1 (.slice po4 R.out.length cap4) R.out.length (outC R.out)) :=
      World.ownsRow.kept (row := some (w.heap.size + 1)) HO4.out (set_row_grown _ _ _) (.inr (row_ne HO4.out HZ4.out))
    go_wp2
    refine bodyPost_ret (v := .tuple #[.agg (cellsM R po4 cap4), .int .i64 code]) (results_two Tryz.results7 _ _ (w.heap.size + 1) _ _ (0, 0) _ _ rfl rfl HF.out Tryz.underlying33 rfl (infoMs _ _ _)) rfl ?_
    refine ⟨⟨po4, cap4, by rw [hR, hC], ?_⟩, HG.out⟩
    rw [hR]
    exact HOw.out
theorem stepV_len {m : M} (hs : Sm m) : (stepV m).1.out.length ≤ 1048576 := by
  unfold stepV
  split
  · rename_i h
    have hg := good_of h hs
    unfold stepP
    split
    · exact hs.out
    split
    · exact hs.out
    rename_i hn
    have hI := ins_of m hn
    show (if _ then _ else _ : M × Int).1.out.length ≤ _
    split
    · exact hs.out
    · have hG : Stpq.Good (semOf m).1.m := by
        refine sem_good ?_ _ _ _ hI.cbd.1 hI.cbd.2 hI.iok
        exact good_pc hg.1 _ (by omega) (by omega)
      exact Nat.le_trans hG.rt.out (by decide)
  · show Z0.out.length ≤ _
    simp [Z0]
end Go.Proofs.YtkfehdkjeodbmaaGreatDoor.Stdh
