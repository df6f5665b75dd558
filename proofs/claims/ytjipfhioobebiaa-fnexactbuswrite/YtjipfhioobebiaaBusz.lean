/-
  A contract of ours for spec.BusWrite.
-/
import Derived.Test.YtjipfhioobebiaaBusy
namespace Go.Proofs.Ytjipfhioobebiaa.Busz
open Go.ChangeShapes Go.WideShapes Go.ChangeAt Go.RowKit Go.Deep
set_option linter.unusedVariables false
set_option linter.unusedSimpArgs false
set_option maxRecDepth 20000
open Signed (inB ret_int ret_bool isByte_any l1In_any)
open Carts CartK CartL CartM CartN CartP CartR CartW CartX CartY Outs Mach MachT MachO MachK MachB Busw Busx Busy
theorem wrM_len {m m' : M} {addr v : Int} (hr : Rt m) (h : wrM m addr v = some m') : m'.out.length ≤ 1048576 := by
  have ho := hr.out
  unfold wrM at h
  split at h
  · cases h; show m.out.length ≤ _; omega
  · split at h
    · cases h; show m.out.length ≤ _; omega
    · split at h
      · split at h
        · cases h
        · cases h; show (m.out ++ [v]).length ≤ _; rw [List.length_append]; simp; omega
      · cases h; show m.out.length ≤ _; omega
set_option maxHeartbeats 2000000 in
theorem specBW_any (m : M) (po : Option Addr) (cap : Nat) (addr v : Int) (w : World) (hs : Sm m) (hN : Sl w po m.out cap) :
    Calls Try.prog 37 #[.agg (cellsM m po cap), .int .i64 addr, .int .i64 v] w fun e w' =>
      ((∃ m' po' cap', bwM m addr v = some m' ∧ e = .returned (.tuple #[.agg (cellsM m' po' cap'), .bool true]) ∧ w'.ownsRow w.heap.size 2 1 (.slice po' m'.out.length cap') m'.out.length (outC m'.out)) ∨ (bwM m addr v = none ∧ e = .returned (.tuple #[.agg (cellsM Z0 none 0), .bool false]))) ∧ Below w.heap.size w w' := by
  have hz := zeroM
  have c1 := fun W (h : Sl W po m.out cap) => specOk_M m po cap W hs h
  have c2 := fun w => l4Word_any addr w
  have c3 := fun w => l4Byte_any v w
  have H0 : Hid (∀ W, Below w.heap.size w W → Sl W po m.out cap) := fun W h => hN.below h
  have HS : Hid (Sm m) := hs
  have HBW : Hid (bwM m addr v = if okMM m = true ∧ inB addr 0 65535 = true ∧ inB v 0 255 = true then wrM m addr v else none) := rfl
  have HBT : Hid (Try.prog.built 47 [] = some (cellsM Z0 none 0)) := builtM
  obtain ⟨bw, hbw⟩ : ∃ x, x = bwM m addr v := ⟨_, rfl⟩
  obtain ⟨b, hb⟩ : ∃ x, x = okMM m := ⟨_, rfl⟩
  obtain ⟨b2, hb2⟩ : ∃ x, x = inB addr 0 65535 := ⟨_, rfl⟩
  obtain ⟨b3, hb3⟩ : ∃ x, x = inB v 0 255 := ⟨_, rfl⟩
  have HO : Hid (b = okMM m ∧ b2 = inB addr 0 65535 ∧ b3 = inB v 0 255) := ⟨hb, hb2, hb3⟩
  rw [← hbw, ← hb, ← hb2, ← hb3] at HBW
  rw [← hbw]
  rw [← hb] at c1
  rw [← hb2] at c2
  rw [← hb3] at c3
  clear hN hs hbw hb hb2 hb3
  obtain ⟨cM, hcM⟩ : ∃ c, c = cellsM m po cap := ⟨_, rfl⟩
  obtain ⟨cZ, hcZ⟩ : ∃ c, c = cellsM Z0 none 0 := ⟨_, rfl⟩
  have HM : Hid (cM = cellsM m po cap) := hcM
  have HZ : Hid (cZ = cellsM Z0 none 0) := hcZ
  have HIM : Hid ((Try.prog.info? 47).map (·.size) = some cM.size) := hcM ▸ infoMs m po cap
  have HIZ : Hid ((Try.prog.info? 47).map (·.size) = some cZ.size) := hcZ ▸ infoMs Z0 none 0
  have HOZ : Hid (cZ.all (·.oneCell') = true) := hcZ ▸ one_M Z0 none 0
  rw [← hcM] at c1 ⊢
  rw [← hcZ] at hz HBT ⊢
  clear hcM hcZ
  go_enter Try.func37, Try.ntmps37
  go_upto_region 1 with fail
  refine wp_region_list ?_
  have k0 : ((w.alloc (.cells cM 47)).alloc (.cells cZ 47)).heap[w.heap.size]? = some (.cells cM 47) := by
    rw [Below.heap_alloc _ _ _ (by simp)]; exact heap_alloc_last w _
  refine wpList_load_row rfl 47 _ rfl w.heap.size rfl _ _ (0, 0) _ k0 Try.underlying47 rfl HIM.out ?_
  clear k0
  go_wp2_with fail
  refine Calls.mono (c1 _ (H0.out _ (by repeat (with_reducible first | exact Below.refl _ _ | refine CartL.grow ?_ _ | refine below_drewN ?_ _ | refine Below.drew ?_)))) ?_
  rintro e w1 ⟨rfl, hb1⟩
  have HB : Hid (Below w.heap.size w w1) := after (by repeat (with_reducible first | exact Below.refl _ _ | refine CartL.grow ?_ _ | refine below_drewN ?_ _ | refine Below.drew ?_)) hb1
  have HK : Hid (w1.heap[w.heap.size]? = some (.cells cM 47)) := by
    have h := hb1.block w.heap.size (by simp; omega)
    rw [Below.heap_alloc _ _ _ (by simp)] at h
    exact h.trans (heap_alloc_last w _)
  have HR : Hid (w1.heap[w.heap.size + 1]? = some (.cells cZ 47)) := by
    have h := hb1.block (w.heap.size + 1) (by simp)
    have h2 := heap_alloc_last (w.alloc (.cells cM 47)) (.cells cZ 47)
    simp only [World.size_alloc] at h2
    exact h.trans h2
  clear hb1 c1
  have hcase : (b = false) ∨ (b = true ∧ b2 = false) ∨ (b = true ∧ b2 = true ∧ b3 = false) ∨ (b = true ∧ b2 = true ∧ b3 = true) := by cases b <;> cases b2 <;> cases b3 <;> simp
  rcases hcase with rfl | ⟨rfl, rfl⟩ | ⟨rfl, rfl, rfl⟩ | ⟨rfl, rfl, rfl⟩
  rotate_left 3
  · have HN : Hid (bw = wrM m addr v) := by have := HBW.out; rw [if_pos ⟨rfl, rfl, rfl⟩] at this; exact this
    have HRT : Hid (Rt m) := rt_of HO.out.1.symm HS.out
    have HA : Hid (inB addr 0 65535 = true ∧ inB v 0 255 = true) := ⟨HO.out.2.1.symm, HO.out.2.2.symm⟩
    have HSM : Hid (∀ m', wrM m addr v = some m' → m'.out.length ≤ 1048576) := fun m' h => wrM_len HRT.out h
    clear HBW HO HS
    go_upto_region 3 with first | (go_at_call 48; refine (c2 _).mono ?_; rintro e w' ⟨rfl, hw'⟩; have hw' := hw'.symm; subst hw') | (go_at_call 52; refine (c3 _).mono ?_; rintro e w' ⟨rfl, hw'⟩; have hw' := hw'.symm; subst hw')
    clear c2 c3
    refine wp_region_list ?_
    refine wpList_load_row rfl 47 _ rfl w.heap.size rfl _ _ (0, 0) _ HK.out Try.underlying47 rfl HIM.out ?_
    go_wp2_with fail
    have cw := swrite_any m po cap addr v w1 HRT.out (H0.out w1 HB.out) HA.out.1 HA.out.2
    rw [← HM.out] at cw
    refine Calls.mono cw ?_
    clear cw
    rintro e w2 ⟨⟨m', po', cap', hr, rfl, hsl⟩ | ⟨hr, rfl⟩, hb2⟩
    · rename_i ha
      refine ha _ _ ?_
      clear ha
      refine wpList_plain rfl (fun K hK => ?_)
      go_simp
      refine hK _ _ ?_
      clear hK
      refine wpList_plain rfl (fun K hK => ?_)
      go_simp
      refine hK _ _ ?_
      clear hK
      refine wpList_plain rfl (fun K hK => ?_)
      go_simp
      refine hK _ _ ?_
      clear hK
      refine wpList_plain rfl (fun K hK => ?_)
      go_simp
      refine hK _ _ ?_
      clear hK
      refine wpList_store_row rfl 47 _ _ rfl w2.heap.size (cellsM m' po' cap') rfl rfl _ _ (heap_alloc_last w2 _) (infoMs _ _ _) (by rw [HZ.out, size_M, size_M]) (one_M _ _ _) ?_
      have hlt1 : w.heap.size + 1 < w1.heap.size := (Array.getElem?_eq_some_iff.1 HR.out).1
      have hlt2 : w.heap.size + 1 < w2.heap.size := Nat.lt_of_lt_of_le hlt1 hb2.size
      have hb3 : Below w2.heap.size w2 ((w2.alloc (.cells cZ 47)).setRow w2.heap.size (cellsM m' po' cap')) := below_row ((Below.refl _ _).alloc (Nat.le_refl _) _) (Nat.le_refl _)
      have hx3 : ((w2.alloc (.cells cZ 47)).setRow w2.heap.size (cellsM m' po' cap')).heap[w2.heap.size]? = some (.cells (cellsM m' po' cap') 47) := heap_row (heap_alloc_last w2 _)
      generalize (w2.alloc (.cells cZ 47)).setRow w2.heap.size (cellsM m' po' cap') = W3 at *
      have HX : Hid (W3.heap[w2.heap.size]? = some (.cells (cellsM m' po' cap') 47)) := hx3
      have HR3 : Hid (W3.heap[w.heap.size + 1]? = some (.cells cZ 47)) := (hb3.block _ hlt2).trans ((hb2.block _ hlt1).trans HR.out)
      have HB3 : Hid (Below w.heap.size w W3) := after (after HB.out hb2) hb3
      have HSL : Hid (Sl W3 po' m'.out cap') := hsl.below hb3
      have HQ : Hid (bw = some m') := HN.out.trans hr
      have HL : Hid (m'.out.length ≤ 1048576) := HSM.out m' hr
      clear hx3 hb3 hb2 hsl hr hlt1 hlt2 HB HK HR H0 HN HRT HA HSM hz
      go_upto_region 6 with fail
      refine wp_region_list ?_
      refine wpList_load_row rfl 47 _ rfl w2.heap.size rfl _ _ (0, 0) _ HX.out Try.underlying47 rfl (infoMs _ _ _) ?_
      go_wp2_with fail
      refine Calls.mono (copy_any m' po' cap' W3 HL.out HSL.out) ?_
      rintro e w4 ⟨⟨po2, cap2, rfl, own⟩, hb4⟩
      have hlt3 : w.heap.size + 1 < W3.heap.size := (Array.getElem?_eq_some_iff.1 HR3.out).1
      have hr4 : w4.heap[w.heap.size + 1]? = some (.cells cZ 47) := (hb4.block _ hlt3).trans HR3.out
      have HF : Hid ((w4.setRow (w.heap.size + 1) (cellsM m' po2 cap2)).heap[w.heap.size + 1]? = some (.cells (cellsM m' po2 cap2) 47)) := heap_row hr4
      have HG : Hid (Below w.heap.size w (w4.setRow (w.heap.size + 1) (cellsM m' po2 cap2))) := below_row (after HB3.out hb4) (by omega)
      have HOw : Hid ((w4.setRow (w.heap.size + 1) (cellsM m' po2 cap2)).ownsRow w.heap.size 2 1 (.slice po2 m'.out.length cap2) m'.out.length (outC m'.out)) :=
        World.ownsRow.kept (row := some (w.heap.size + 1)) (World.ownsRow.mono own HB3.out.size) (set_row_grown _ _ _) (.inr (row_ne own hr4))
      have HR4 : Hid (w4.heap[w.heap.size + 1]? = some (.cells cZ 47)) := hr4
      clear own hb4 hlt3 hr4
      rename_i ha
      refine ha _ _ ?_
      refine wpList_store_row rfl 47 _ _ rfl (w.heap.size + 1) (cellsM m' po2 cap2) rfl rfl _ _ HR4.out (infoMs _ _ _) (by rw [HZ.out, size_M, size_M]) (one_M _ _ _) ?_
      clear ha
      go_wp2
      exact bodyPost_ret (v := .tuple #[.agg (cellsM m' po2 cap2), .bool true]) (results_two Try.results37 _ _ (w.heap.size + 1) _ _ (0, 0) _ _ rfl rfl HF.out Try.underlying47 rfl (infoMs _ _ _)) rfl ⟨.inl ⟨m', po2, cap2, HQ.out, rfl, HOw.out⟩, HG.out⟩
    · rename_i ha
      refine ha _ _ ?_
      clear ha
      refine wpList_plain rfl (fun K hK => ?_)
      go_simp
      refine hK _ _ ?_
      clear hK
      refine wpList_plain rfl (fun K hK => ?_)
      go_simp
      refine hK _ _ ?_
      clear hK
      refine wpList_plain rfl (fun K hK => ?_)
      go_simp
      refine hK _ _ ?_
      clear hK
      refine wpList_plain rfl (fun K hK => ?_)
      go_simp
      refine hK _ _ ?_
      clear hK
      refine wpList_store_row rfl 47 _ _ rfl w2.heap.size (cellsM m po cap) rfl rfl _ _ (heap_alloc_last w2 _) (infoMs _ _ _) (by rw [HZ.out, size_M, size_M]) (one_M _ _ _) ?_
      have hlt1 : w.heap.size + 1 < w1.heap.size := (Array.getElem?_eq_some_iff.1 HR.out).1
      have hlt2 : w.heap.size + 1 < w2.heap.size := Nat.lt_of_lt_of_le hlt1 hb2.size
      have hb3 : Below w2.heap.size w2 ((w2.alloc (.cells cZ 47)).setRow w2.heap.size (cellsM m po cap)) := below_row ((Below.refl _ _).alloc (Nat.le_refl _) _) (Nat.le_refl _)
      have hx3 : ((w2.alloc (.cells cZ 47)).setRow w2.heap.size (cellsM m po cap)).heap[w2.heap.size]? = some (.cells (cellsM m po cap) 47) := heap_row (heap_alloc_last w2 _)
      generalize (w2.alloc (.cells cZ 47)).setRow w2.heap.size (cellsM m po cap) = W3 at *
      have HX : Hid (W3.heap[w2.heap.size]? = some (.cells (cellsM m po cap) 47)) := hx3
      have HR3 : Hid (W3.heap[w.heap.size + 1]? = some (.cells cZ 47)) := (hb3.block _ hlt2).trans ((hb2.block _ hlt1).trans HR.out)
      have HB3 : Hid (Below w.heap.size w W3) := after (after HB.out hb2) hb3
      have HQ : Hid (bw = none) := HN.out.trans hr
      have HF : Hid ((W3.setRow (w.heap.size + 1) cZ).heap[w.heap.size + 1]? = some (.cells cZ 47)) := heap_row HR3.out
      have HG : Hid (Below w.heap.size w (W3.setRow (w.heap.size + 1) cZ)) := below_row HB3.out (by omega)
      clear hx3 hb3 hb2 hr hlt1 hlt2 HB HK HR H0 HN HRT HA HSM hz
      go_upto_region 5 with fail
      refine wp_region_list ?_
      refine wpList_build0 rfl 47 rfl cZ HBT.out ?_
      refine wpList_store_row rfl 47 _ _ rfl (w.heap.size + 1) cZ rfl rfl _ _ HR3.out HIZ.out rfl HOZ.out ?_
      go_wp2
      exact bodyPost_ret (v := .tuple #[.agg cZ, .bool false]) (results_two Try.results37 _ _ (w.heap.size + 1) _ _ (0, 0) _ _ rfl rfl HF.out Try.underlying47 rfl HIZ.out) rfl ⟨.inr ⟨HQ.out, rfl⟩, HG.out⟩
  all_goals
    have HN : Hid (bw = none) := by have := HBW.out; rw [if_neg (by simp)] at this; exact this
    clear HBW HO
    go_upto_region 2 with first | (go_at_call 48; refine (c2 _).mono ?_; rintro e w' ⟨rfl, hw'⟩; have hw' := hw'.symm; subst hw') | (go_at_call 52; refine (c3 _).mono ?_; rintro e w' ⟨rfl, hw'⟩; have hw' := hw'.symm; subst hw')
    refine wp_region_list ?_
    refine wpList_build0 rfl 47 rfl cZ HBT.out ?_
    refine wpList_store_row rfl 47 _ _ rfl (w.heap.size + 1) cZ rfl rfl _ _ HR.out HIZ.out rfl HOZ.out ?_
    have HF : Hid ((w1.setRow (w.heap.size + 1) cZ).heap[w.heap.size + 1]? = some (.cells cZ 47)) := heap_row HR.out
    have HG : Hid (Below w.heap.size w (w1.setRow (w.heap.size + 1) cZ)) := below_row HB.out (by omega)
    go_wp2
    exact bodyPost_ret (v := .tuple #[.agg cZ, .bool false]) (results_two Try.results37 _ _ (w.heap.size + 1) _ _ (0, 0) _ _ rfl rfl HF.out Try.underlying47 rfl HIZ.out) rfl ⟨.inr ⟨HN.out, rfl⟩, HG.out⟩
end Go.Proofs.Ytjipfhioobebiaa.Busz
