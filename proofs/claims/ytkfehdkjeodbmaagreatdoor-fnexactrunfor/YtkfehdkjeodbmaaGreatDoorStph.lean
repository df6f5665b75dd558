/-
  A contract of ours for impl.insAtPc: what stands at the place.
-/
import Derived.Test.YtkfehdkjeodbmaaGreatDoorStpg
import Derived.Test.YtkfehdkjeodbmaaGreatDoorReadJ
import Derived.Laws.IdiomStrings
namespace Go.Proofs.YtkfehdkjeodbmaaGreatDoor.Stph
open Go.ChangeShapes Go.WideShapes Go.ChangeAt Go.RowKit Go.Deep
set_option linter.unusedVariables false
set_option linter.unusedSimpArgs false
set_option maxRecDepth 20000
open Signed (inB sgn ret_int ret_bool)
open Busw Busx Stpp Stpq Stpi Stpj
def u (m : M) (k : Int) : UInt8 := UInt8.ofNat (rd m ((m.pc + k) % 65536)).toNat
theorem u_eq (m : M) (k : Int) : ((u m k).toNat : Int) = rd m ((m.pc + k) % 65536) := by
  have h := rd_bd m ((m.pc + k) % 65536)
  unfold u
  rw [UInt8.toNat_ofNat']
  omega
/-- The three bytes at the place. -/
def fetch (m : M) : ByteArray := ⟨#[u m 0, u m 1, u m 2]⟩
theorem fetch_size (m : M) : (fetch m).size = 3 := rfl
theorem string_at {w : World} {A : Nat} {a b c : UInt8} {T : TypeId} (h : w.heap[A]? = some (.cells #[.int .u8 (a.toNat : Int), .int .u8 (b.toNat : Int), .int .u8 (c.toNat : Int)] T)) : (convert 109 9 (.slice (some ⟨A, 0, none⟩) 3 3)).run Tryz.prog w = .ok (.string ⟨#[a, b, c]⟩) w :=
  run_convert_bytes_back (P := Tryz.prog) w 109 9 5 ⟨A, 0, none⟩ 3 [a, b, c] Tryz.underlying109 Tryz.underlying5 Tryz.underlying9 (fun j hj => by
    have ea : (⟨A, 0, none⟩ : Addr).add j = ⟨A, j, none⟩ := by unfold Addr.add; split <;> simp_all
    rw [ea, cell_of_row w A j _ _ _ h]
    match j, hj with
    | 0, _ => rfl
    | 1, _ => rfl
    | 2, _ => rfl)
set_option maxHeartbeats 2000000 in
theorem insAt_any (m : M) (po : Option Addr) (cap B : Nat) (w : World) (hb : w.heap[B]? = some (.cells (cellsM m po cap) 33 (0, 0))) (hr : Rt m) (hp : 0 ≤ m.pc ∧ m.pc ≤ 65535) (hm : HolI.MaxL w) :
    Calls Tryz.prog 58 #[.pointer (some ⟨B, 0, none⟩)] w fun e w' => e = .returned (.tuple #[ReadI.readI (fetch m) 0, .int .i64 (ReadI.readN (fetch m) 0)]) ∧ Below w.heap.size w w' := by
  have lB : B < w.heap.size := (Array.getElem?_eq_some_iff.1 hb).1
  have CR : Hid (∀ W a, Below w.heap.size w W → Calls Tryz.prog 95 #[.pointer (some ⟨B, 0, none⟩), .int .i64 (a % 65536)] W fun e w' => e = .returned (.int .i64 (rd m (a % 65536))) ∧ Below W.heap.size W w') := fun W a hW => by
    have hb2 := (hW.block _ lB).trans hb
    rw [cells_def] at hb2
    exact MachB.readBus_any m.ra m.rf m.rB m.rC m.rD m.rE m.rH m.rL m.sp m.pc m.ime m.hal m.rom m.kind m.bank m.ram m.rb m.on m.mode m.work m.high po m.out cap m.cyc B _ W hb2 hr.cart hr.work hr.high (word_bd a).1
  have CW := fun a w => wrapped_any a w
  have PC : Hid (∀ W, Below w.heap.size w W → W.cell? ⟨B, 9, none⟩ = some (.int .i64 m.pc)) := fun W hW => celM ((hW.block _ lB).trans hb) 9 _ rfl
  have HM : Hid (HolI.MaxL w) := hm
  have d1 : IntKind.i64.wrap (m.pc + 1) = m.pc + 1 := by rw [IntKind.wrap_i64]; omega
  have d2 : IntKind.i64.wrap (m.pc + 2) = m.pc + 2 := by rw [IntKind.wrap_i64]; omega
  have e0 := u_eq m 0
  have e1 := u_eq m 1
  have e2 := u_eq m 2
  rw [show m.pc + 0 = m.pc by omega] at e0
  obtain ⟨c, cb, imm, hI⟩ := ReadJ.readI_agg (fetch m) 0
  have CI : Hid (∀ W, Below w.heap.size w W → Calls Tryz.prog 96 #[.string (fetch m), .int .i64 0] W fun e w' => e = .returned (.tuple #[.agg #[.int .i64 c, .bool cb, .int .i64 imm], .int .i64 (ReadI.readN (fetch m) 0)]) ∧ Below W.heap.size W w') := fun W hW => by
    have h := ReadJ.implRead_any (fetch m) 0 W (hm.below hW) (by rw [fetch_size]; decide)
    unfold ReadI.Tup at h
    rw [hI] at h
    exact h
  rw [hI]
  generalize ReadI.readN (fetch m) 0 = n at *
  have hF : fetch m = ⟨#[u m 0, u m 1, u m 2]⟩ := rfl
  rw [hF] at CI
  have b0 := (u m 0).toNat_lt
  have b1 := (u m 1).toNat_lt
  have b2 := (u m 2).toNat_lt
  generalize u m 0 = u0 at *
  generalize u m 1 = u1 at *
  generalize u m 2 = u2 at *
  have z0 : IntKind.u8.wrap (u0.toNat : Int) = u0.toNat := by rw [IntKind.wrap_u8]; omega
  have z1 : IntKind.u8.wrap (u1.toNat : Int) = u1.toNat := by rw [IntKind.wrap_u8]; omega
  have z2 : IntKind.u8.wrap (u2.toNat : Int) = u2.toNat := by rw [IntKind.wrap_u8]; omega
  have CR0 := fun W hW => (CR.out W m.pc hW)
  have CR1 := fun W hW => (CR.out W (m.pc + 1) hW)
  have CR2 := fun W hW => (CR.out W (m.pc + 2) hW)
  rw [← e0] at CR0
  rw [← e1] at CR1
  rw [← e2] at CR2
  have H0 : Hid (∀ W, Below w.heap.size w W → Calls Tryz.prog 95 #[.pointer (some ⟨B, 0, none⟩), .int .i64 (m.pc % 65536)] W fun e w' => e = .returned (.int .i64 (u0.toNat : Int)) ∧ Below W.heap.size W w') := CR0
  have H1 : Hid (∀ W, Below w.heap.size w W → Calls Tryz.prog 95 #[.pointer (some ⟨B, 0, none⟩), .int .i64 ((m.pc + 1) % 65536)] W fun e w' => e = .returned (.int .i64 (u1.toNat : Int)) ∧ Below W.heap.size W w') := CR1
  have H2 : Hid (∀ W, Below w.heap.size w W → Calls Tryz.prog 95 #[.pointer (some ⟨B, 0, none⟩), .int .i64 ((m.pc + 2) % 65536)] W fun e w' => e = .returned (.int .i64 (u2.toNat : Int)) ∧ Below W.heap.size W w') := CR2
  have d0 : IntKind.i64.wrap m.pc = m.pc := by rw [IntKind.wrap_i64]; omega
  have d0' : wrap64 m.pc = m.pc := by first | (unfold wrap64; omega) | (rw [← wrap_i64_64]; exact d0)
  have a0 : Below w.heap.size w ((w.alloc (.cells #[.int .i64 0, .bool false, .int .i64 0] 77)).alloc (.cells #[.int .u8 0, .int .u8 0, .int .u8 0] 128)) := by repeat (with_reducible first | exact Below.refl _ _ | refine CartL.grow ?_ _ | refine below_drewN ?_ _ | refine Below.drew ?_)
  have A0 : Hid (Below w.heap.size w ((w.alloc (.cells #[.int .i64 0, .bool false, .int .i64 0] 77)).alloc (.cells #[.int .u8 0, .int .u8 0, .int .u8 0] 128))) := a0
  have HA : Hid (((w.alloc (.cells #[.int .i64 0, .bool false, .int .i64 0] 77)).alloc (.cells #[.int .u8 0, .int .u8 0, .int .u8 0] 128)).heap[w.heap.size + 1]? = some (.cells #[.int .u8 0, .int .u8 0, .int .u8 0] 128)) := by show _ = _; have h := heap_alloc_new (w.alloc (.cells #[.int .i64 0, .bool false, .int .i64 0] 77)) (.cells #[.int .u8 0, .int .u8 0, .int .u8 0] 128); rw [show (w.alloc (.cells #[.int .i64 0, .bool false, .int .i64 0] 77)).heap.size = w.heap.size + 1 by simp] at h; exact h
  have HRr : Hid (((w.alloc (.cells #[.int .i64 0, .bool false, .int .i64 0] 77)).alloc (.cells #[.int .u8 0, .int .u8 0, .int .u8 0] 128)).heap[w.heap.size]? = some (.cells #[.int .i64 0, .bool false, .int .i64 0] 77)) := by show _ = _; rw [alloc_kept _ _ (by simp)]; exact heap_alloc_new w _
  have q0 := PC.out _ A0.out
  clear a0
  clear hF CR0 CR1 CR2 e0 e1 e2 CR hI hm hp hr hb b0 b1 b2
  go_enter Tryz.func58, Tryz.ntmps58
  go_wp2_with fail
  refine wp_loop_rounds 4 ?_
  rw [rounds_succ]
  go_wp2_with (go_at_call 61; refine (CW _ _).mono ?_; rintro e w' ⟨rfl, hw'⟩; have hw' := hw'.symm; subst hw')
  refine Calls.mono (H0.out _ A0.out) ?_
  rintro e w1 ⟨rfl, hb⟩
  have hx := (hb.block _ (Array.getElem?_eq_some_iff.1 HA.out).1).trans HA.out
  have hR := (hb.block _ (Array.getElem?_eq_some_iff.1 HRr.out).1).trans HRr.out
  have k0 := (cell_of_row w1 (w.heap.size + 1) 0 _ _ _ hx).trans rfl
  have f0 := frozen_of_row w1 (w.heap.size + 1) 0 _ _ hx
  have X0 : Hid ((w1.setCell ⟨w.heap.size + 1, 0, none⟩ (.int .u8 (u0.toNat : Int))).heap[w.heap.size + 1]? = some (.cells #[.int .u8 (u0.toNat : Int), .int .u8 0, .int .u8 0] 128)) := (heap_setCell_same _ _ _ _ _ _ hx).trans rfl
  have R0 : Hid ((w1.setCell ⟨w.heap.size + 1, 0, none⟩ (.int .u8 (u0.toNat : Int))).heap[w.heap.size]? = some (.cells #[.int .i64 0, .bool false, .int .i64 0] 77)) := (Below.heap_setCell _ _ _ _ (by simp)).trans hR
  have bB := (HolI.after A0.out hb).setCell (p := ⟨w.heap.size + 1, 0, none⟩) (by simp) (.int .u8 (u0.toNat : Int))
  have B0 : Hid (Below w.heap.size w (w1.setCell ⟨w.heap.size + 1, 0, none⟩ (.int .u8 (u0.toNat : Int)))) := bB
  have q1 := PC.out _ bB
  clear hx hb hR bB H0 HA HRr A0 q0
  go_wp2_with (go_at_call 61; refine (CW _ _).mono ?_; rintro e w' ⟨rfl, hw'⟩; have hw' := hw'.symm; subst hw')
  rw [rounds_succ]
  go_wp2_with (go_at_call 61; refine (CW _ _).mono ?_; rintro e w' ⟨rfl, hw'⟩; have hw' := hw'.symm; subst hw')
  refine Calls.mono (H1.out _ B0.out) ?_
  rintro e w2 ⟨rfl, hb⟩
  have hx := (hb.block _ (Array.getElem?_eq_some_iff.1 X0.out).1).trans X0.out
  have hR := (hb.block _ (Array.getElem?_eq_some_iff.1 R0.out).1).trans R0.out
  have k1 := (cell_of_row w2 (w.heap.size + 1) 1 _ _ _ hx).trans rfl
  have f1 := frozen_of_row w2 (w.heap.size + 1) 1 _ _ hx
  have X1 : Hid ((w2.setCell ⟨w.heap.size + 1, 1, none⟩ (.int .u8 (u1.toNat : Int))).heap[w.heap.size + 1]? = some (.cells #[.int .u8 (u0.toNat : Int), .int .u8 (u1.toNat : Int), .int .u8 0] 128)) := (heap_setCell_same _ _ _ _ _ _ hx).trans rfl
  have R1 : Hid ((w2.setCell ⟨w.heap.size + 1, 1, none⟩ (.int .u8 (u1.toNat : Int))).heap[w.heap.size]? = some (.cells #[.int .i64 0, .bool false, .int .i64 0] 77)) := (Below.heap_setCell _ _ _ _ (by simp)).trans hR
  have bB := (HolI.after B0.out hb).setCell (p := ⟨w.heap.size + 1, 1, none⟩) (by simp) (.int .u8 (u1.toNat : Int))
  have B1 : Hid (Below w.heap.size w (w2.setCell ⟨w.heap.size + 1, 1, none⟩ (.int .u8 (u1.toNat : Int)))) := bB
  have q2 := PC.out _ bB
  clear hx hb hR bB H1 X0 R0 B0 q1
  go_wp2_with (go_at_call 61; refine (CW _ _).mono ?_; rintro e w' ⟨rfl, hw'⟩; have hw' := hw'.symm; subst hw')
  rw [rounds_succ]
  go_wp2_with (go_at_call 61; refine (CW _ _).mono ?_; rintro e w' ⟨rfl, hw'⟩; have hw' := hw'.symm; subst hw')
  refine Calls.mono (H2.out _ B1.out) ?_
  rintro e w3 ⟨rfl, hb⟩
  have hx := (hb.block _ (Array.getElem?_eq_some_iff.1 X1.out).1).trans X1.out
  have hR := (hb.block _ (Array.getElem?_eq_some_iff.1 R1.out).1).trans R1.out
  have k2 := (cell_of_row w3 (w.heap.size + 1) 2 _ _ _ hx).trans rfl
  have f2 := frozen_of_row w3 (w.heap.size + 1) 2 _ _ hx
  have X2 : Hid ((w3.setCell ⟨w.heap.size + 1, 2, none⟩ (.int .u8 (u2.toNat : Int))).heap[w.heap.size + 1]? = some (.cells #[.int .u8 (u0.toNat : Int), .int .u8 (u1.toNat : Int), .int .u8 (u2.toNat : Int)] 128)) := (heap_setCell_same _ _ _ _ _ _ hx).trans rfl
  have R2 : Hid ((w3.setCell ⟨w.heap.size + 1, 2, none⟩ (.int .u8 (u2.toNat : Int))).heap[w.heap.size]? = some (.cells #[.int .i64 0, .bool false, .int .i64 0] 77)) := (Below.heap_setCell _ _ _ _ (by simp)).trans hR
  have bB := (HolI.after B1.out hb).setCell (p := ⟨w.heap.size + 1, 2, none⟩) (by simp) (.int .u8 (u2.toNat : Int))
  have B2 : Hid (Below w.heap.size w (w3.setCell ⟨w.heap.size + 1, 2, none⟩ (.int .u8 (u2.toNat : Int)))) := bB
  have q3 := PC.out _ bB
  clear hx hb hR bB H2 X1 R1 B1 q2
  have hs := string_at X2.out
  go_wp2_with (go_at_call 61; refine (CW _ _).mono ?_; rintro e w' ⟨rfl, hw'⟩; have hw' := hw'.symm; subst hw')
  rw [rounds_succ]
  go_wp2_with (go_at_call 61; refine (CW _ _).mono ?_; rintro e w' ⟨rfl, hw'⟩; have hw' := hw'.symm; subst hw')
  refine Calls.mono (CI.out _ B2.out) ?_
  rintro e w4 ⟨rfl, hb⟩
  have hR := (hb.block _ (Array.getElem?_eq_some_iff.1 R2.out).1).trans R2.out
  have r0 := (cell_of_row w4 w.heap.size 0 _ _ _ hR).trans rfl
  have r1 := (cell_of_row w4 w.heap.size 1 _ _ _ hR).trans rfl
  have r2 := (cell_of_row w4 w.heap.size 2 _ _ _ hR).trans rfl
  have g0 := frozen_of_row w4 w.heap.size 0 _ _ hR
  have g1 := frozen_of_row w4 w.heap.size 1 _ _ hR
  have g2 := frozen_of_row w4 w.heap.size 2 _ _ hR
  have lR : w.heap.size < w4.heap.size := (Array.getElem?_eq_some_iff.1 hR).1
  have B4 : Hid (Below w.heap.size w w4) := HolI.after B2.out hb
  clear hR hb B2 R2 CI
  go_wp2_with fail
  refine bodyPost_ret (v := .tuple #[.agg #[.int .i64 c, .bool cb, .int .i64 imm], .int .i64 n]) (by simp [results, Tryz.results58, go_sem, r0, r1, r2, lR]) rfl ⟨rfl, ?_⟩
  exact ((B4.out.setCell (Nat.le_refl _) _).setCell (Nat.le_refl _) _).setCell (Nat.le_refl _) _
end Go.Proofs.YtkfehdkjeodbmaaGreatDoor.Stph
