/-
  Contracts of ours for what impl stores and loads at a place that steps.
-/
import Derived.Test.YtkfehdkjeodbmaaGreatDoorStpx
import Derived.Lib.QuietBelow
import Derived.BigQuiet
namespace Go.Proofs.YtkfehdkjeodbmaaGreatDoor.Stpy
open Go.ChangeShapes Go.WideShapes Go.ChangeAt Go.RowKit Go.Deep
set_option linter.unusedVariables false
set_option linter.unusedSimpArgs false
set_option maxRecDepth 20000
open Signed (inB sgn ret_int ret_bool)
open Busw Busx Stpp Stpq Stpi Stpj Stpr Stpk Stpm Stpn Stpu Stpx
theorem setP_same {m : M} (h : Stpq.Good m) (p : Int) (h0 : 0 ≤ p) (h1 : p ≤ 2) : setP m p ((pr m p + 0) % 65536) = m := by
  have hb := h.b; have hc := h.c; have hd := h.d; have he := h.e; have hh := h.h; have hl := h.l
  have hn : p = 0 ∨ p = 1 ∨ p = 2 := by omega
  rcases hn with rfl | rfl | rfl
  · show ({ m with rB := _, rC := _ } : M) = m
    rw [show (pr m 0 + 0) % 65536 / 256 = m.rB by show (256 * m.rB + m.rC + 0) % 65536 / 256 = m.rB; omega, show (pr m 0 + 0) % 65536 % 256 = m.rC by show (256 * m.rB + m.rC + 0) % 65536 % 256 = m.rC; omega]
  · show ({ m with rD := _, rE := _ } : M) = m
    rw [show (pr m 1 + 0) % 65536 / 256 = m.rD by show (256 * m.rD + m.rE + 0) % 65536 / 256 = m.rD; omega, show (pr m 1 + 0) % 65536 % 256 = m.rE by show (256 * m.rD + m.rE + 0) % 65536 % 256 = m.rE; omega]
  · show ({ m with rH := _, rL := _ } : M) = m
    rw [show (pr m 2 + 0) % 65536 / 256 = m.rH by show (256 * m.rH + m.rL + 0) % 65536 / 256 = m.rH; omega, show (pr m 2 + 0) % 65536 % 256 = m.rL by show (256 * m.rH + m.rL + 0) % 65536 % 256 = m.rL; omega]
theorem step_any (g : G) (m : M) (full : Bool) (w : World) (h : In g w m full) (hg : Stpq.Good m) (hp : Pt g) :
    Calls Tryz.prog 131 #[.pointer (some ⟨g.K, 0, none⟩)] w fun e w' => e = .returned (.int .i64 (placeOf m g.p)) ∧ In g w' (stepHl m g.p) full := by
  have h4 := cases4 hp.p.1 hp.p.2
  rcases h4 with h4 | h4 | h4 | h4
  · have c := step_0 g m full w h hg h4
    rw [setP_same hg 0 (by omega) (by omega)] at c
    rw [h4]; exact c
  · have c := step_1 g m full w h hg h4
    rw [setP_same hg 1 (by omega) (by omega)] at c
    rw [h4]; exact c
  · have c := step_2 g m full w h hg h4
    rw [h4]; exact c
  · have c := step_3 g m full w h hg h4
    have e : (pr m 2 + -1) % 65536 = (hl m + 65535) % 65536 := by show (256 * m.rH + m.rL + -1) % 65536 = (256 * m.rH + m.rL + 65535) % 65536; omega
    rw [e] at c
    rw [h4]; exact c
theorem stepHl_ra (m : M) (p : Int) : (stepHl m p).ra = m.ra := by
  unfold stepHl setP
  repeat' split
  all_goals rfl
theorem stepHl_cpu (X m : M) (p : Int) : stepHl (withCpu X m) p = withCpu X (stepHl m p) := by
  unfold stepHl setP
  repeat' split
  all_goals first | rfl | contradiction
theorem stepHl_self (m : M) (p : Int) : withCpu m (stepHl m p) = stepHl m p := by
  rw [← stepHl_cpu, withCpu_self]
theorem st_eq (m : M) (full : Bool) (p : Int) : wr ⟨stepHl m p, full⟩ (placeOf m p) m.ra = stE p ⟨m, full⟩ := by
  have h := wr_cpu m (stepHl m p) full (placeOf m p) m.ra
  rw [stepHl_self] at h
  rw [h]
  unfold stE
  simp only []
  have h2 := wr_same ⟨m, full⟩ (placeOf m p) m.ra
  rw [show stepHl (wr ⟨m, full⟩ (placeOf m p) m.ra).m p = stepHl (withCpu (wr ⟨m, full⟩ (placeOf m p) m.ra).m m) p by rw [h2], stepHl_cpu]
theorem ld_eq (m : M) (full : Bool) (p : Int) : (⟨{ stepHl m p with ra := rd m (placeOf m p) }, full⟩ : S) = ldE p ⟨m, full⟩ := by
  unfold ldE stepHl setP
  repeat' split
  all_goals first | rfl | contradiction
theorem rd_stepHl (m : M) (p a : Int) : rd (stepHl m p) a = rd m a := by
  unfold stepHl setP
  repeat' split
  all_goals rfl
theorem place_bd {m : M} (h : Stpq.Good m) (p : Int) : 0 ≤ placeOf m p ∧ placeOf m p ≤ 65535 := pr_bd h _
set_option maxHeartbeats 2000000 in
theorem stA_step (g : G) (m : M) (full : Bool) (bx : Nat) (w : World) (h : In g w m full) (hg : Stpq.Good m) (hp : Pt g) (hb : w.cell? ⟨bx, 0, none⟩ = some (.func (.func 131) #[] #[])) :
    Calls Tryz.prog 184 #[.pointer (some ⟨g.K, 0, none⟩), .pointer (some ⟨bx, 0, none⟩)] w fun e w' => e = .returned (.tuple #[]) ∧ In g w' (stE g.p ⟨m, full⟩).m (stE g.p ⟨m, full⟩).full := by
  have lb := World.block_lt_of_cell? w _ hb
  rw [← st_eq]
  have c1 : Hid (∀ W, In g W m full → Calls Tryz.prog 131 #[.pointer (some ⟨g.K, 0, none⟩)] W fun e w' => e = .returned (.int .i64 (placeOf m g.p)) ∧ In g w' (stepHl m g.p) full) := fun W hi => step_any g m full W hi hg hp
  have g1 := stepHl_good hg g.p
  have c2 : Hid (∀ W, In g W (stepHl m g.p) full → Calls Tryz.prog 182 #[.pointer (some ⟨g.K, 0, none⟩), .int .i64 (placeOf m g.p), .int .i64 m.ra] W fun e w' => e = .returned (.tuple #[]) ∧ In g w' (wr ⟨stepHl m g.p, full⟩ (placeOf m g.p) m.ra).m (wr ⟨stepHl m g.p, full⟩ (placeOf m g.p) m.ra).full) := fun W hi => write_any g (stepHl m g.p) full _ _ W hi g1.rt hg.a.1 hg.a.2
  have HR : Hid ((stepHl m g.p).ra = m.ra) := stepHl_ra m g.p
  generalize wr ⟨stepHl m g.p, full⟩ (placeOf m g.p) m.ra = t at *
  generalize stepHl m g.p = m1 at *
  generalize placeOf m g.p = v at *
  have q0 := h.k_cpu
  have q1 := h.c_ra
  have HI : Hid (In g w.drew m full) := h.below (Below.refl _ _).drew
  clear h hg g1 hp
  go_enter Tryz.func184, Tryz.ntmps184
  go_wp2_with fail
  go_region_with (first | (go_at_call 131; refine Calls.mono (c1.out _ HI.out) ?_; rintro e w1 ⟨rfl, hi1⟩; have k1 := hi1.k_cpu; have k2 := (hi1.c_ra).trans (by rw [HR.out]); have H1 : Hid (In g w1 m1 full) := hi1; clear hi1) | (go_at_call 182; refine Calls.mono (c2.out _ (by assumption : Hid (In g _ m1 full)).out) ?_; rintro e w2 ⟨rfl, hi2⟩; have H2 : Hid (In g w2 t.m t.full) := hi2; clear hi2))
  all_goals go_wp2
  all_goals go_end0
  all_goals exact ⟨rfl, (by assumption : Hid (In g _ t.m t.full)).out⟩
set_option maxHeartbeats 2000000 in
theorem ldA_step (g : G) (m : M) (full : Bool) (bx : Nat) (w : World) (h : In g w m full) (hg : Stpq.Good m) (hp : Pt g) (hb : w.cell? ⟨bx, 0, none⟩ = some (.func (.func 131) #[] #[])) :
    Calls Tryz.prog 185 #[.pointer (some ⟨g.K, 0, none⟩), .pointer (some ⟨bx, 0, none⟩)] w fun e w' => e = .returned (.tuple #[]) ∧ In g w' (ldE g.p ⟨m, full⟩).m (ldE g.p ⟨m, full⟩).full := by
  have lb := World.block_lt_of_cell? w _ hb
  rw [← ld_eq]
  have c1 : Hid (∀ W, In g W m full → Calls Tryz.prog 131 #[.pointer (some ⟨g.K, 0, none⟩)] W fun e w' => e = .returned (.int .i64 (placeOf m g.p)) ∧ In g w' (stepHl m g.p) full) := fun W hi => step_any g m full W hi hg hp
  have g1 := stepHl_good hg g.p
  have pb := place_bd hg g.p
  have c2 : Hid (∀ W, In g W (stepHl m g.p) full → Calls Tryz.prog 183 #[.pointer (some ⟨g.K, 0, none⟩), .int .i64 (placeOf m g.p)] W fun e w' => e = .returned (.int .i64 (rd m (placeOf m g.p))) ∧ Below W.heap.size W w') := fun W hi => by
    have h := read_any g (stepHl m g.p) full (placeOf m g.p) W hi g1.rt
    rw [show placeOf m g.p % 65536 = placeOf m g.p by omega, rd_stepHl] at h
    exact h
  generalize rd m (placeOf m g.p) = q at *
  generalize stepHl m g.p = m1 at *
  generalize placeOf m g.p = v at *
  have q0 := h.k_cpu
  have HI : Hid (In g w.drew m full) := h.below (Below.refl _ _).drew
  clear h hg g1 hp pb
  go_enter Tryz.func185, Tryz.ntmps185
  go_wp2_with fail
  go_region_with (first | (go_at_call 131; refine Calls.mono (c1.out _ HI.out) ?_; rintro e w1 ⟨rfl, hi1⟩; have k1 := hi1.k_cpu; have H1 : Hid (In g w1 m1 full) := hi1; clear hi1) | (go_at_call 183; refine Calls.mono (c2.out _ (by assumption : Hid (In g _ m1 full)).out) ?_; rintro e w2 ⟨rfl, hb2⟩; have hi2 := (by assumption : Hid (In g _ m1 full)).out.below hb2; have k3 := hi2.k_cpu; have k4 := hi2.c_ra; have k5 := hi2.fro 0; have H2 : Hid (In g (w2.setCell ⟨g.B, 0, none⟩ (.int .i64 q)) { m1 with ra := q } full) := hi2.s_ra q; clear hi2 hb2))
  all_goals go_wp2
  all_goals go_end0
  all_goals exact ⟨rfl, (by assumption : Hid (In g _ { m1 with ra := q } full)).out⟩
end Go.Proofs.YtkfehdkjeodbmaaGreatDoor.Stpy
