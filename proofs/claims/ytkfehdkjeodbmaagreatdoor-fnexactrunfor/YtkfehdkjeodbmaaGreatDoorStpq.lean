/-
  Of numbers alone: a right machine stays right, whatever an instruction does; its clock is left alone.
-/
import Derived.Test.YtkfehdkjeodbmaaGreatDoorStpp
import Derived.Test.YtkfehdkjeodbmaaGreatDoorCartU
namespace Go.Proofs.YtkfehdkjeodbmaaGreatDoor.Stpq
open Go.ChangeShapes Go.WideShapes Go.ChangeAt Go.RowKit
set_option linter.unusedVariables false
set_option linter.unusedSimpArgs false
open Signed (inB sgn)
open Reck ReckS ReckM ReckD TurnS
open Busw (M wrM Rt)
open Busx (okMM Sm rt_of)
open Stpp
theorem cart_ok (rom : ByteArray) (kind bank : Int) (ram : ByteArray) (rb : Int) (on : Bool) (mode ad v : Int) (h : Carts.okB rom kind bank ram rb on mode = true) (a0 : 0 ≤ ad) (a1 : ad ≤ 65535) (v0 : 0 ≤ v) (v1 : v ≤ 255) :
    Carts.okB rom kind (CartY.wBank kind bank ad v) (CartY.wRam kind ram rb on mode ad v) (CartY.wRb kind rb ad v) (CartY.wOn kind on ad v) (CartY.wMode kind mode ad v) = true ∧ (CartY.wRam kind ram rb on mode ad v).size = 256 := by
  obtain ⟨n, n0, n1, hn, hbk, hm, b0, b1, r0, r1, m0, m1, hk⟩ := CartM.right rom kind bank ram rb on mode h
  have hms : (CartY.wRam kind ram rb on mode ad v).size = 256 := by
    unfold CartY.wRam
    repeat' split
    all_goals first | exact hm | (rw [CartP.putB_size]; exact hm)
  have hh : Carts.heldB kind bank rb on mode = true ∧ Carts.romB rom.size = true := by
    have h' := h
    simp only [Carts.okB, Bool.and_eq_true] at h'
    exact h'.1
  have hok : Carts.okB rom kind (CartY.wBank kind bank ad v) (CartY.wRam kind ram rb on mode ad v) (CartY.wRb kind rb ad v) (CartY.wOn kind on ad v) (CartY.wMode kind mode ad v) = true := by
    simp only [Carts.okB, Bool.and_eq_true, beq_iff_eq]
    refine ⟨⟨?_, hh.2⟩, hms⟩
    have g := hh.1
    unfold Carts.heldB at g ⊢
    rcases hk with ⟨rfl, hon⟩ | rfl | ⟨rfl, hmode⟩
    · rw [if_pos rfl] at g ⊢
      have g := of_decide_eq_true g
      refine decide_eq_true ⟨?_, ?_, ?_, ?_⟩
      · unfold CartY.wBank; split
        · rw [if_neg (by omega), if_neg (by omega)]; exact g.1
        · exact g.1
      · unfold CartY.wRb; rw [if_neg (by omega)]; exact g.2.1
      · unfold CartY.wMode; rw [if_neg (by omega)]; exact g.2.2.1
      · unfold CartY.wOn; rw [if_neg (by omega)]; exact g.2.2.2
    · rw [if_neg (by omega), if_pos rfl] at g ⊢
      simp only [Bool.and_eq_true] at g ⊢
      have g1 := of_decide_eq_true g.1.1
      have g2 := of_decide_eq_true g.1.2
      have g3 := of_decide_eq_true g.2
      refine ⟨⟨decide_eq_true ?_, decide_eq_true ?_⟩, decide_eq_true ?_⟩
      · unfold CartY.wBank; split
        · rw [if_pos rfl]; unfold CartW.bank1; split <;> omega
        · exact g1
      · unfold CartY.wRb; split
        · omega
        · exact g2
      · unfold CartY.wMode; split
        · omega
        · exact g3
    · rw [if_neg (by omega), if_neg (by omega), if_pos rfl] at g ⊢
      simp only [Bool.and_eq_true, beq_iff_eq] at g ⊢
      have g1 := of_decide_eq_true g.1.1
      have g2 := of_decide_eq_true g.1.2
      refine ⟨⟨decide_eq_true ?_, decide_eq_true ?_⟩, ?_⟩
      · unfold CartY.wBank; split
        · rw [if_neg (by omega), if_pos rfl]; omega
        · exact g1
      · unfold CartY.wRb; split
        · omega
        · exact g2
      · unfold CartY.wMode; rw [if_neg (by omega)]; exact g.2
  exact ⟨hok, hms⟩
structure Good (m : M) : Prop where
  a : 0 ≤ m.ra ∧ m.ra ≤ 255
  f : 0 ≤ m.rf ∧ m.rf ≤ 255
  b : 0 ≤ m.rB ∧ m.rB ≤ 255
  c : 0 ≤ m.rC ∧ m.rC ≤ 255
  d : 0 ≤ m.rD ∧ m.rD ≤ 255
  e : 0 ≤ m.rE ∧ m.rE ≤ 255
  h : 0 ≤ m.rH ∧ m.rH ≤ 255
  l : 0 ≤ m.rL ∧ m.rL ≤ 255
  f16 : m.rf % 16 = 0
  sp : 0 ≤ m.sp ∧ m.sp ≤ 65535
  pc : 0 ≤ m.pc ∧ m.pc ≤ 65535
  rt : Rt m
  outs : MachO.byteL m.out = true
theorem in_bd {n : Int} (h : inB n 0 255 = true) : 0 ≤ n ∧ n ≤ 255 := of_decide_eq_true h
theorem good_of {m : M} (h : okMM m = true) (hs : Sm m) : Good m ∧ 0 ≤ m.cyc ∧ m.cyc ≤ 1000000000 := by
  have hr := rt_of h hs
  unfold okMM MachK.okM MachO.cpuB MachO.byteL MachO.regL at h
  simp only [Bool.and_eq_true, decide_eq_true_eq, List.all_cons, List.all_nil, beq_iff_eq] at h
  obtain ⟨⟨⟨⟨⟨⟨⟨⟨⟨⟨⟨ha, hf, hB, hC, hD, hE, hH, hL, _⟩, h16⟩, hsp⟩, hpc⟩, _⟩, _⟩, _⟩, _⟩, ho⟩, c0⟩, c1⟩ := h
  exact ⟨⟨in_bd ha, in_bd hf, in_bd hB, in_bd hC, in_bd hD, in_bd hE, in_bd hH, in_bd hL, h16, of_decide_eq_true hsp, of_decide_eq_true hpc, hr, ho⟩, c0, c1⟩
theorem ok_of {m : M} (h : Good m) (c0 : 0 ≤ m.cyc) (c1 : m.cyc ≤ 1000000000) : okMM m = true := by
  unfold okMM MachK.okM MachO.cpuB
  have hr : MachO.byteL (MachO.regL m.ra m.rf m.rB m.rC m.rD m.rE m.rH m.rL) = true := by
    unfold MachO.byteL MachO.regL
    simp only [List.all_cons, List.all_nil, Bool.and_eq_true]
    exact ⟨decide_eq_true h.a, decide_eq_true h.f, decide_eq_true h.b, decide_eq_true h.c, decide_eq_true h.d, decide_eq_true h.e, decide_eq_true h.h, decide_eq_true h.l, trivial⟩
  rw [hr, h.outs, h.rt.cart, show inB m.sp 0 65535 = true from decide_eq_true h.sp, show inB m.pc 0 65535 = true from decide_eq_true h.pc, show decide (m.out.length ≤ 100) = true from decide_eq_true h.rt.out, show decide (0 ≤ m.cyc) = true from decide_eq_true c0, show decide (m.cyc ≤ 1000000000) = true from decide_eq_true c1, h.f16, h.rt.work, h.rt.high]
  rfl
theorem sm_of {m : M} (h : Rt m) : Sm m := ⟨h.rom, h.ram, by rw [h.work]; decide, by rw [h.high]; decide, Nat.le_trans h.out (by decide)⟩
theorem wrM_good {m m' : M} {a v : Int} (h : Good m) (a0 : 0 ≤ a) (a1 : a ≤ 65535) (v0 : 0 ≤ v) (v1 : v ≤ 255) (hw : wrM m a v = some m') : Good m' := by
  have hr := h.rt
  unfold wrM at hw
  split at hw
  · cases hw
    exact ⟨h.a, h.f, h.b, h.c, h.d, h.e, h.h, h.l, h.f16, h.sp, h.pc, ⟨hr.cart, (CartP.putB_size _ _ _).trans hr.work, hr.high, hr.out, hr.rom, hr.ram⟩, h.outs⟩
  · split at hw
    · cases hw
      exact ⟨h.a, h.f, h.b, h.c, h.d, h.e, h.h, h.l, h.f16, h.sp, h.pc, ⟨hr.cart, hr.work, (CartP.putB_size _ _ _).trans hr.high, hr.out, hr.rom, hr.ram⟩, h.outs⟩
    · split at hw
      · split at hw
        · cases hw
        · cases hw
          refine ⟨h.a, h.f, h.b, h.c, h.d, h.e, h.h, h.l, h.f16, h.sp, h.pc, ⟨hr.cart, hr.work, hr.high, ?_, hr.rom, hr.ram⟩, ?_⟩
          · show (m.out ++ [v]).length ≤ 100
            rw [List.length_append]; simp; omega
          · have ho := h.outs
            unfold MachO.byteL at ho ⊢
            show (m.out ++ [v]).all _ = true
            rw [List.all_append, ho]
            simp only [List.all_cons, List.all_nil, Bool.and_true, Bool.true_and]
            exact decide_eq_true ⟨v0, v1⟩
      · cases hw
        have hc := cart_ok m.rom m.kind m.bank m.ram m.rb m.on m.mode a v hr.cart a0 a1 v0 v1
        exact ⟨h.a, h.f, h.b, h.c, h.d, h.e, h.h, h.l, h.f16, h.sp, h.pc, ⟨hc.1, hr.work, hr.high, hr.out, hr.rom, by show (CartY.wRam _ _ _ _ _ _ _).size ≤ _; rw [hc.2]; decide⟩, h.outs⟩
theorem wr_good {s : S} (h : Good s.m) (a v : Int) (v0 : 0 ≤ v) (v1 : v ≤ 255) : Good (wr s a v).m := by
  unfold wr
  split
  · rename_i m' hw
    exact wrM_good h (by omega) (by omega) v0 v1 hw
  · exact h
theorem get_bd {m : M} (h : Good m) (n : Int) : 0 ≤ get m n ∧ get m n ≤ 255 := by
  unfold Stpp.get
  split
  · exact rd_bd _ _
  · unfold reg
    repeat' split
    all_goals first | exact h.b | exact h.c | exact h.d | exact h.e | exact h.h | exact h.l | exact h.a
theorem setR_good {m : M} (h : Good m) (n v : Int) (v0 : 0 ≤ v) (v1 : v ≤ 255) : Good (setR m n v) := by
  obtain ⟨ha, hf, hb, hc, hd, he, hh, hl, h16, hsp, hpc, hr, ho⟩ := h
  unfold setR
  repeat' split
  all_goals exact ⟨by first | exact ha | exact ⟨v0, v1⟩, hf, by first | exact hb | exact ⟨v0, v1⟩, by first | exact hc | exact ⟨v0, v1⟩, by first | exact hd | exact ⟨v0, v1⟩, by first | exact he | exact ⟨v0, v1⟩, by first | exact hh | exact ⟨v0, v1⟩, by first | exact hl | exact ⟨v0, v1⟩, h16, hsp, hpc, ⟨hr.cart, hr.work, hr.high, hr.out, hr.rom, hr.ram⟩, ho⟩
theorem put_good {s : S} (h : Good s.m) (n v : Int) (v0 : 0 ≤ v) (v1 : v ≤ 255) : Good (put s n v).m := by
  unfold put
  split
  · exact wr_good h _ v v0 v1
  · exact setR_good h n v v0 v1
theorem setP_good {m : M} (h : Good m) (p v : Int) (v0 : 0 ≤ v) (v1 : v ≤ 65535) : Good (setP m p v) := by
  obtain ⟨ha, hf, hb, hc, hd, he, hh, hl, h16, hsp, hpc, hr, ho⟩ := h
  have q1 : 0 ≤ v / 256 ∧ v / 256 ≤ 255 := by omega
  have q2 : 0 ≤ v % 256 ∧ v % 256 ≤ 255 := by omega
  unfold setP
  repeat' split
  all_goals exact ⟨ha, hf, by first | exact hb | exact q1, by first | exact hc | exact q2, by first | exact hd | exact q1, by first | exact he | exact q2, by first | exact hh | exact q1, by first | exact hl | exact q2, h16, by first | exact hsp | exact ⟨v0, v1⟩, hpc, ⟨hr.cart, hr.work, hr.high, hr.out, hr.rom, hr.ram⟩, ho⟩
theorem hl_bd {m : M} (h : Good m) : 0 ≤ hl m ∧ hl m ≤ 65535 := by have := h.h; have := h.l; unfold hl; omega
theorem pr_bd {m : M} (h : Good m) (p : Int) : 0 ≤ pr m p ∧ pr m p ≤ 65535 := by
  have := h.b; have := h.c; have := h.d; have := h.e; have := h.h; have := h.l; have := h.sp
  unfold pr
  repeat' split
  all_goals omega
theorem prQ_bd {m : M} (h : Good m) (p : Int) : 0 ≤ prQ m p ∧ prQ m p ≤ 65535 := by
  have := h.a; have := h.f
  unfold prQ
  split
  · omega
  · exact pr_bd h p
theorem good_f {m : M} (h : Good m) (f : Int) (f0 : 0 ≤ f) (f1 : f ≤ 255) (f2 : f % 16 = 0) : Good { m with rf := f } :=
  ⟨h.a, ⟨f0, f1⟩, h.b, h.c, h.d, h.e, h.h, h.l, f2, h.sp, h.pc, ⟨h.rt.cart, h.rt.work, h.rt.high, h.rt.out, h.rt.rom, h.rt.ram⟩, h.outs⟩
theorem good_a {m : M} (h : Good m) (v : Int) (v0 : 0 ≤ v) (v1 : v ≤ 255) : Good { m with ra := v } :=
  ⟨⟨v0, v1⟩, h.f, h.b, h.c, h.d, h.e, h.h, h.l, h.f16, h.sp, h.pc, ⟨h.rt.cart, h.rt.work, h.rt.high, h.rt.out, h.rt.rom, h.rt.ram⟩, h.outs⟩
theorem good_sp {m : M} (h : Good m) (v : Int) (v0 : 0 ≤ v) (v1 : v ≤ 65535) : Good { m with sp := v } :=
  ⟨h.a, h.f, h.b, h.c, h.d, h.e, h.h, h.l, h.f16, ⟨v0, v1⟩, h.pc, ⟨h.rt.cart, h.rt.work, h.rt.high, h.rt.out, h.rt.rom, h.rt.ram⟩, h.outs⟩
theorem good_pc {m : M} (h : Good m) (v : Int) (v0 : 0 ≤ v) (v1 : v ≤ 65535) : Good { m with pc := v } :=
  ⟨h.a, h.f, h.b, h.c, h.d, h.e, h.h, h.l, h.f16, h.sp, ⟨v0, v1⟩, ⟨h.rt.cart, h.rt.work, h.rt.high, h.rt.out, h.rt.rom, h.rt.ram⟩, h.outs⟩
theorem good_i {m : M} (h : Good m) (i j : Bool) (c : Int) : Good { m with ime := i, hal := j, cyc := c } :=
  ⟨h.a, h.f, h.b, h.c, h.d, h.e, h.h, h.l, h.f16, h.sp, h.pc, ⟨h.rt.cart, h.rt.work, h.rt.high, h.rt.out, h.rt.rom, h.rt.ram⟩, h.outs⟩
theorem fl_bd (z n h c : Bool) : 0 ≤ fl z n h c ∧ fl z n h c ≤ 255 ∧ fl z n h c % 16 = 0 := by cases z <;> cases n <;> cases h <;> cases c <;> decide
theorem fl_good {m : M} (h : Good m) (z n k c : Bool) : Good { m with rf := fl z n k c } := good_f h _ (fl_bd z n k c).1 (fl_bd z n k c).2.1 (fl_bd z n k c).2.2
theorem af_good {s : S} (h : Good s.m) (p : Int × Int) (a0 : 0 ≤ p.1) (a1 : p.1 ≤ 255) (f0 : 0 ≤ p.2) (f1 : p.2 ≤ 255) (f2 : p.2 % 16 = 0) : Good (AF s p).m := good_f (good_a h p.1 a0 a1) p.2 f0 f1 f2
theorem push_good {s : S} (h : Good s.m) (v : Int) (v0 : 0 ≤ v) (v1 : v ≤ 65535) : Good (push s v).m := by
  have hsp := h.sp
  exact good_sp (wr_good (wr_good h _ _ (by omega) (by omega)) _ _ (by omega) (by omega)) _ (by omega) (by omega)
theorem popV_bd (m : M) : 0 ≤ popV m ∧ popV m ≤ 65535 := by
  have h1 := rd_bd m m.sp
  have h2 := rd_bd m ((m.sp + 1) % 65536)
  unfold popV; omega
theorem popM_good {m : M} (h : Good m) : Good (popM m) := good_sp h _ (by omega) (by omega)
theorem setQ_good {m : M} (h : Good m) (p v : Int) (v0 : 0 ≤ v) (v1 : v ≤ 65535) : Good (setQ m p v) := by
  unfold setQ
  split
  · exact good_f (good_a h (v / 256) (by omega) (by omega)) _ (by omega) (by omega) (by omega)
  · exact setP_good h p v v0 v1
theorem bits_le {a b : Int} (a0 : 0 ≤ a) (a1 : a ≤ 255) (b0 : 0 ≤ b) (b1 : b ≤ 255) : (0 ≤ bits .and .i64 a b ∧ bits .and .i64 a b ≤ 255) ∧ (0 ≤ bits .or .i64 a b ∧ bits .or .i64 a b ≤ 255) ∧ (0 ≤ bits .xor .i64 a b ∧ bits .xor .i64 a b ≤ 255) := by
  have h1 : a.toNat &&& b.toNat < 2 ^ 8 := Nat.and_lt_two_pow _ (by omega)
  have h2 : a.toNat ||| b.toNat < 2 ^ 8 := Nat.or_lt_two_pow (by omega) (by omega)
  have h3 : a.toNat ^^^ b.toNat < 2 ^ 8 := Nat.xor_lt_two_pow (by omega) (by omega)
  rw [bits_and a0 a1 b0 b1, bits_or a0 a1 b0 b1, bits_xor a0 a1 b0 b1]
  omega
theorem alu_bd {op a b f : Int} (a0 : 0 ≤ a) (a1 : a ≤ 255) (b0 : 0 ≤ b) (b1 : b ≤ 255) (o0 : 0 ≤ op) (o1 : op ≤ 7) : 0 ≤ (aluR op a b f).1 ∧ (aluR op a b f).1 ≤ 255 ∧ 0 ≤ (aluR op a b f).2 ∧ (aluR op a b f).2 ≤ 255 ∧ (aluR op a b f).2 % 16 = 0 := by
  obtain ⟨k1, k2, k3⟩ := bits_le a0 a1 b0 b1
  have ho : op = 0 ∨ op = 1 ∨ op = 2 ∨ op = 3 ∨ op = 4 ∨ op = 5 ∨ op = 6 ∨ op = 7 := by omega
  rcases ho with rfl | rfl | rfl | rfl | rfl | rfl | rfl | rfl
  · rw [aluR_0]; exact ⟨by show 0 ≤ (_ : Int) % 256; omega, by show (_ : Int) % 256 ≤ 255; omega, fl_bd _ _ _ _⟩
  · rw [aluR_1]; exact ⟨by show 0 ≤ (_ : Int) % 256; omega, by show (_ : Int) % 256 ≤ 255; omega, fl_bd _ _ _ _⟩
  · rw [aluR_2]; exact ⟨by show 0 ≤ (_ : Int) % 256; omega, by show (_ : Int) % 256 ≤ 255; omega, fl_bd _ _ _ _⟩
  · rw [aluR_3]; exact ⟨by show 0 ≤ (_ : Int) % 256; omega, by show (_ : Int) % 256 ≤ 255; omega, fl_bd _ _ _ _⟩
  · rw [aluR_4]; exact ⟨k1.1, k1.2, fl_bd _ _ _ _⟩
  · rw [aluR_5]; exact ⟨k3.1, k3.2, fl_bd _ _ _ _⟩
  · rw [aluR_6]; exact ⟨k2.1, k2.2, fl_bd _ _ _ _⟩
  · rw [aluR_7, aluR_2]; exact ⟨a0, a1, fl_bd _ _ _ _⟩
theorem st8_bd {v f : Int} (d : Bool) : 0 ≤ (st8R v f d).1 ∧ (st8R v f d).1 ≤ 255 ∧ 0 ≤ (st8R v f d).2 ∧ (st8R v f d).2 ≤ 255 ∧ (st8R v f d).2 % 16 = 0 := by
  unfold st8R
  split
  · exact ⟨by show 0 ≤ (_ : Int) % 256; omega, by show (_ : Int) % 256 ≤ 255; omega, fl_bd _ _ _ _⟩
  · exact ⟨by show 0 ≤ (_ : Int) % 256; omega, by show (_ : Int) % 256 ≤ 255; omega, fl_bd _ _ _ _⟩
theorem aw_bd (a b f : Int) : 0 ≤ (awR a b f).1 ∧ (awR a b f).1 ≤ 65535 ∧ 0 ≤ (awR a b f).2 ∧ (awR a b f).2 ≤ 255 ∧ (awR a b f).2 % 16 = 0 := ⟨by show 0 ≤ (_ : Int) % 65536; omega, by show (_ : Int) % 65536 ≤ 65535; omega, fl_bd _ _ _ _⟩
theorem as_bd (a b : Int) : 0 ≤ (asR a b).1 ∧ (asR a b).1 ≤ 65535 ∧ 0 ≤ (asR a b).2 ∧ (asR a b).2 ≤ 255 ∧ (asR a b).2 % 16 = 0 := ⟨by show 0 ≤ (_ : Int) % 65536; omega, by show (_ : Int) % 65536 ≤ 65535; omega, fl_bd _ _ _ _⟩
theorem daa_bd (a f : Int) : 0 ≤ (daaR a f).1 ∧ (daaR a f).1 ≤ 255 ∧ 0 ≤ (daaR a f).2 ∧ (daaR a f).2 ≤ 255 ∧ (daaR a f).2 % 16 = 0 := ⟨by show 0 ≤ (_ : Int) % 256; omega, by show (_ : Int) % 256 ≤ 255; omega, fl_bd _ _ _ _⟩
theorem trnP_bd {op v c : Int} (v0 : 0 ≤ v) (v1 : v ≤ 255) (c0 : 0 ≤ c) (c1 : c ≤ 1) : 0 ≤ (trnP op v c).1 ∧ (trnP op v c).1 ≤ 255 := by
  unfold trnP
  repeat' split
  all_goals simp only []
  all_goals omega
theorem trn_bd {op v f : Int} (v0 : 0 ≤ v) (v1 : v ≤ 255) : 0 ≤ (trnR op v f).1 ∧ (trnR op v f).1 ≤ 255 ∧ 0 ≤ (trnR op v f).2 ∧ (trnR op v f).2 ≤ 255 ∧ (trnR op v f).2 % 16 = 0 := by
  obtain ⟨c0, c1⟩ := cy_bd f
  have h := trnP_bd (op := op) v0 v1 c0 c1
  exact ⟨h.1, h.2, fl_bd _ _ _ _⟩
theorem bitV_cases (y : Int) : bitV y = 1 ∨ bitV y = 2 ∨ bitV y = 4 ∨ bitV y = 8 ∨ bitV y = 16 ∨ bitV y = 32 ∨ bitV y = 64 ∨ bitV y = 128 := by
  unfold bitV
  repeat' split
  all_goals decide
theorem andNot_all : ∀ (v : Fin 256) (k : Fin 8), 0 ≤ bits .andNot .i64 (v.val : Int) (2 ^ k.val : Int) ∧ bits .andNot .i64 (v.val : Int) (2 ^ k.val : Int) ≤ 255 := by decide +kernel
theorem bitV_pow (y : Int) : ∃ k : Fin 8, bitV y = 2 ^ k.val := by
  rcases bitV_cases y with h | h | h | h | h | h | h | h
  all_goals first | exact ⟨0, h⟩ | exact ⟨1, h⟩ | exact ⟨2, h⟩ | exact ⟨3, h⟩ | exact ⟨4, h⟩ | exact ⟨5, h⟩ | exact ⟨6, h⟩ | exact ⟨7, h⟩
theorem andNot_bd {v : Int} (v0 : 0 ≤ v) (v1 : v ≤ 255) (y : Int) : 0 ≤ bits .andNot .i64 v (bitV y) ∧ bits .andNot .i64 v (bitV y) ≤ 255 := by
  obtain ⟨k, hk⟩ := bitV_pow y
  have h := andNot_all ⟨v.toNat, by omega⟩ k
  rw [hk]
  have e : ((v.toNat : Nat) : Int) = v := by omega
  simpa [e] using h
theorem orBit_bd {v : Int} (v0 : 0 ≤ v) (v1 : v ≤ 255) (y : Int) : 0 ≤ bits .or .i64 v (bitV y) ∧ bits .or .i64 v (bitV y) ≤ 255 := by
  have h := bitV_cases y
  exact (bits_le v0 v1 (by omega) (by omega)).2.1
theorem cb_good {s : S} (h : Good s.m) (code : Int) : Good (cbE code s).m := by
  have hg := get_bd h (code % 8)
  unfold cbE
  split
  · have ht := trn_bd (op := code / 8 % 8) (f := s.m.rf) hg.1 hg.2
    exact good_f (put_good h _ _ ht.1 ht.2.1) _ ht.2.2.1 ht.2.2.2.1 ht.2.2.2.2
  · split
    · exact fl_good h _ _ _ _
    · split
      · have ht := andNot_bd hg.1 hg.2 (code / 8 % 8)
        exact put_good h _ _ ht.1 ht.2
      · have ht := orBit_bd hg.1 hg.2 (code / 8 % 8)
        exact put_good h _ _ ht.1 ht.2
theorem odd_good {s : S} (h : Good s.m) (y : Int) : Good (oddE y s).m := by
  have ha := h.a
  unfold oddE
  split
  · have ht := daa_bd s.m.ra s.m.rf
    exact af_good h _ ht.1 ht.2.1 ht.2.2.1 ht.2.2.2.1 ht.2.2.2.2
  · split
    · have ht := fl_bd (zB s.m.rf) true true (cB s.m.rf)
      exact af_good h _ (by simp only []; omega) (by simp only []; omega) ht.1 ht.2.1 ht.2.2
    · split
      · exact fl_good h _ _ _ _
      · split
        · exact fl_good h _ _ _ _
        · have ht := trn_bd (op := y) (f := s.m.rf) ha.1 ha.2
          have hf := fl_bd false false false (cB (trnR y s.m.ra s.m.rf).2)
          exact af_good h _ ht.1 ht.2.1 hf.1 hf.2.1 hf.2.2
theorem sgn_bd (b : Int) : -128 ≤ sgn b ∧ sgn b ≤ 127 := ReckM.sgn_bd b
theorem stepHl_good {m : M} (h : Good m) (p : Int) : Good (stepHl m p) := by
  unfold stepHl
  split
  · exact setP_good h 2 _ (by omega) (by omega)
  · exact h
/-- What may stand behind a code: a byte, or a word where one is asked for. -/
def ImmOk (code : Int) (cb : Bool) (imm : Int) : Prop := cb = true ∨ (0 ≤ imm ∧ imm ≤ 65535 ∧ ((code < 64 → code % 8 ≠ 1 → ¬ (code % 8 = 0 ∧ code / 8 = 1) → imm ≤ 255) ∧ (code = 224 ∨ code = 240 ∨ code = 232 ∨ code = 248 ∨ (192 ≤ code ∧ code % 8 = 6) → imm ≤ 255)))
theorem low_good {s : S} (h : Good s.m) (code imm : Int) (c0 : 0 ≤ code) (c1 : code < 64) (hi : ImmOk code false imm) : Good (lowE code imm s).1.m := by
  rcases hi with hi | ⟨i0, i1, i2, i3⟩
  · cases hi
  have hsp := h.sp
  have hpc := h.pc
  have hs := sgn_bd imm
  unfold lowE
  split
  · split
    · exact wr_good (wr_good h _ _ (by omega) (by omega)) _ _ (by omega) (by omega)
    · split
      · exact good_pc h _ (by omega) (by omega)
      · exact h
  · split
    · split
      · exact setP_good h _ _ i0 i1
      · have ht := aw_bd (hl s.m) (pr s.m (code / 8 / 2)) s.m.rf
        exact good_f (setP_good h 2 _ ht.1 ht.2.1) _ ht.2.2.1 ht.2.2.2.1 ht.2.2.2.2
    · split
      · split
        · exact stepHl_good (wr_good h _ _ h.a.1 h.a.2) _
        · have hr := rd_bd s.m (placeOf s.m (code / 8 / 2))
          exact stepHl_good (good_a h _ hr.1 hr.2) _
      · split
        · exact setP_good h _ _ (by omega) (by omega)
        · split
          · have ht := st8_bd (v := get s.m (code / 8)) (f := s.m.rf) false
            exact good_f (put_good h _ _ ht.1 ht.2.1) _ ht.2.2.1 ht.2.2.2.1 ht.2.2.2.2
          · split
            · have ht := st8_bd (v := get s.m (code / 8)) (f := s.m.rf) true
              exact good_f (put_good h _ _ ht.1 ht.2.1) _ ht.2.2.1 ht.2.2.2.1 ht.2.2.2.2
            · split
              · exact put_good h _ _ i0 (i2 c1 (by omega) (by omega))
              · exact odd_good h _
theorem call_good {s : S} (h : Good s.m) (v : Int) (v0 : 0 ≤ v) (v1 : v ≤ 65535) : Good (callE v s).m := good_pc (push_good h _ h.pc.1 h.pc.2) _ v0 v1
theorem iteG {c : Prop} [Decidable c] {x y : S × Bool} (h1 : c → Good x.1.m) (h2 : ¬ c → Good y.1.m) : Good (if c then x else y).1.m := by
  by_cases h : c
  · rw [if_pos h]; exact h1 h
  · rw [if_neg h]; exact h2 h
theorem top_good {s : S} (h : Good s.m) (code imm : Int) (c0 : 192 ≤ code) (c1 : code ≤ 255) (hi : ImmOk code false imm) : Good (topE code imm s).1.m := by
  rcases hi with hi | ⟨i0, i1, i2, i3⟩
  · cases hi
  have hv := popV_bd s.m
  have ht := as_bd s.m.sp imm
  unfold topE
  refine iteG (fun _ => good_i (good_pc (popM_good h) _ hv.1 hv.2) _ _ _) (fun _ => ?_)
  refine iteG (fun _ => wr_good h _ _ h.a.1 h.a.2) (fun _ => ?_)
  refine iteG (fun _ => wr_good h _ _ h.a.1 h.a.2) (fun _ => ?_)
  refine iteG (fun _ => good_a h _ (rd_bd _ _).1 (rd_bd _ _).2) (fun _ => ?_)
  refine iteG (fun _ => good_a h _ (rd_bd _ _).1 (rd_bd _ _).2) (fun _ => ?_)
  refine iteG (fun _ => wr_good h _ _ h.a.1 h.a.2) (fun _ => ?_)
  refine iteG (fun _ => good_a h _ (rd_bd _ _).1 (rd_bd _ _).2) (fun _ => ?_)
  refine iteG (fun _ => good_f (good_sp h _ ht.1 ht.2.1) _ ht.2.2.1 ht.2.2.2.1 ht.2.2.2.2) (fun _ => ?_)
  refine iteG (fun _ => good_f (setP_good h 2 _ ht.1 ht.2.1) _ ht.2.2.1 ht.2.2.2.1 ht.2.2.2.2) (fun _ => ?_)
  refine iteG (fun _ => good_sp h _ (hl_bd h).1 (hl_bd h).2) (fun _ => ?_)
  refine iteG (fun _ => good_pc h _ (hl_bd h).1 (hl_bd h).2) (fun _ => ?_)
  refine iteG (fun _ => setQ_good (popM_good h) _ _ hv.1 hv.2) (fun _ => ?_)
  refine iteG (fun _ => push_good h _ (prQ_bd h _).1 (prQ_bd h _).2) (fun _ => ?_)
  refine iteG (fun _ => good_pc h _ i0 i1) (fun _ => ?_)
  refine iteG (fun _ => good_i h _ _ _) (fun _ => ?_)
  refine iteG (fun _ => call_good h _ i0 i1) (fun _ => ?_)
  refine iteG (fun h6 => ?_) (fun _ => ?_)
  · have ht := alu_bd (op := code / 8 % 8) (f := s.m.rf) h.a.1 h.a.2 i0 (i3 (.inr (.inr (.inr (.inr ⟨c0, h6⟩))))) (by omega) (by omega)
    exact af_good h _ ht.1 ht.2.1 ht.2.2.1 ht.2.2.2.1 ht.2.2.2.2
  refine iteG (fun _ => call_good h _ (by omega) (by omega)) (fun _ => h)
theorem sem_good {s : S} (h : Good s.m) (code : Int) (cb : Bool) (imm : Int) (c0 : 0 ≤ code) (c1 : code ≤ 255) (hi : ImmOk code cb imm) : Good (sem code cb imm s).1.m := by
  unfold sem
  split
  · exact cb_good h code
  have hcb : cb = false := by cases cb <;> simp_all
  subst hcb
  split
  · exact low_good h code imm c0 (by assumption) hi
  split
  · exact good_i h _ _ _
  split
  · exact put_good h _ _ (get_bd h _).1 (get_bd h _).2
  split
  · have ht := alu_bd (op := code / 8 % 8) (f := s.m.rf) h.a.1 h.a.2 (get_bd h (code % 8)).1 (get_bd h (code % 8)).2 (by omega) (by omega)
    exact af_good h _ ht.1 ht.2.1 ht.2.2.1 ht.2.2.2.1 ht.2.2.2.2
  · exact top_good h code imm (by omega) c1 hi
end Go.Proofs.YtkfehdkjeodbmaaGreatDoor.Stpq
