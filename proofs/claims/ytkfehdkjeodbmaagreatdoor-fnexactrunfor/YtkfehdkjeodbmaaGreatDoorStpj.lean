/-
  Contracts of ours for what impl's instructions are made of: what is read and written, registers, pairs, the stack.
-/
import Derived.Test.YtkfehdkjeodbmaaGreatDoorStpi
import Derived.Lib.QuietBelow
import Derived.BigQuiet
namespace Go.Proofs.YtkfehdkjeodbmaaGreatDoor.Stpj
open Go.ChangeShapes Go.WideShapes Go.ChangeAt Go.RowKit Go.Deep
set_option linter.unusedVariables false
set_option linter.unusedSimpArgs false
set_option maxRecDepth 20000
open Signed (inB sgn ret_int ret_bool)
open Busw Busx Stpp Stpi
theorem and65535 (n : Int) : bits .and .i64 n 65535 = n % 65536 := by
  have h127 : (BitVec.ofInt 64 65535).toNat = 2 ^ 16 - 1 := by decide
  have key : (BitVec.ofInt 64 n &&& BitVec.ofInt 64 65535).toNat = (n % ((2 ^ 64 : Nat) : Int)).toNat % 2 ^ 16 := by
    rw [BitVec.toNat_and, BitVec.toNat_ofInt, h127, Nat.and_two_pow_sub_one_eq_mod]
  show IntKind.i64.wrap ((BitVec.ofInt 64 n &&& BitVec.ofInt 64 65535).toNat : Nat) = n % 65536
  rw [key, IntKind.wrap_i64]
  omega
theorem wrapped_any (n : Int) (w : World) :
    Calls Tryz.prog 61 #[.int .i64 n] w fun e w' => e = .returned (.int .i64 (n % 65536)) ∧ w' = w := by
  have h := and65535 n
  go_enter Tryz.func61, Tryz.ntmps61
  go_wp2
  go_ret
  exact ⟨rfl, rfl⟩
theorem word_bd (n : Int) : 0 ≤ n % 65536 ∧ n % 65536 ≤ 65535 := by omega
set_option maxHeartbeats 1000000 in
theorem read_any (g : G) (m : M) (full : Bool) (addr : Int) (w : World) (h : In g w m full) (hr : Rt m) :
    Calls Tryz.prog 183 #[.pointer (some ⟨g.K, 0, none⟩), .int .i64 addr] w fun e w' => e = .returned (.int .i64 (rd m (addr % 65536))) ∧ Below w.heap.size w w' := by
  have c1 : ∀ d os, Calls Tryz.prog 61 #[.int .i64 addr] (Go.Sort.grow (redrawn w d) os) fun e w'' => e = .returned (.int .i64 (addr % 65536)) ∧ ∃ p : Regrown, w'' = Go.Sort.grow (redrawn w p.d) p.os := fun d os => Calls.regrown_of ((wrapped_any addr _).mono fun e w' h => ⟨h.1, by rw [h.2]; exact Below.refl _ _⟩)
  have c2 : ∀ d os, Calls Tryz.prog 95 #[.pointer (some ⟨g.B, 0, none⟩), .int .i64 (addr % 65536)] (Go.Sort.grow (redrawn w d) os) fun e w'' => e = .returned (.int .i64 (rd m (addr % 65536))) ∧ ∃ p : Regrown, w'' = Go.Sort.grow (redrawn w p.d) p.os := fun d os => Calls.regrown_of (by
    obtain ⟨po, cap, h⟩ := h.below (below_regrown w d os)
    have hb := h.held.box
    rw [cells_def] at hb
    exact MachB.readBus_any m.ra m.rf m.rB m.rC m.rD m.rE m.rH m.rL m.sp m.pc m.ime m.hal m.rom m.kind m.bank m.ram m.rb m.on m.mode m.work m.high po m.out cap m.cyc g.B _ _ hb hr.cart hr.work hr.high (word_bd addr).1)
  have k0 := cell_regrown (h.kcell 0 _ rfl)
  clear h hr
  generalize rd m (addr % 65536) = r at *
  generalize hq : addr % 65536 = q at *
  clear hq
  go_enter Tryz.func183, Tryz.ntmps183
  go_wp2_with fail
  refine wp_region_quiet_below (by kernel_rfl) (by kernel_rfl) ?_
  repeat (go_big_quiet_step (first | exact c1 _ _ | exact c2 _ _))
  refine wpQuiet_nil ?_
  intro _ hw'
  obtain ⟨⟨dq, osq⟩, hw''⟩ := hw'
  subst hw''
  go_wp2
  go_ret
  exact ⟨rfl, below_regrown _ _ _⟩
theorem in_post {g : G} {w w' : World} {m : M} {full : Bool} {po : Option Addr} {cap : Nat} {addr v : Int} {e : Ending} (h : At g w m full po cap) (hp : Post w w' g.B g.base m.out.length (wrM m (addr % 65536) v) po e) :
    (e = .returned (.bool true) ∧ In g w' (wr ⟨m, full⟩ addr v).m full ∧ (wr ⟨m, full⟩ addr v).full = full) ∨ (e = .returned (.bool false) ∧ In g w' m full ∧ wr ⟨m, full⟩ addr v = ⟨m, true⟩) := by
  obtain ⟨hc, ho, hk⟩ := hp
  have hlen : ∀ m', wrM m (addr % 65536) v = some m' → m.out.length ≤ m'.out.length := fun m' h => by
    unfold wrM at h
    repeat' split at h
    all_goals cases h
    all_goals simp
  have old : w'.ownsRow g.base 2 1 (.slice g.po0 g.n0 g.cap0) g.n0 (outC g.L0) := hk _ _ _ _ _ h.len h.old
  have hkk : w'.heap[g.K]? = some (.cells (kc g full) 99 (0, 0)) := by
    rw [ho.block g.K (Array.getElem?_eq_some_iff.1 h.k).1 h.neKB (fun p e e2 => row_other (by decide) h.held.row h.k (by subst e; rw [blk_own]; show some p.block = _; rw [e2]))]
    exact h.k
  have blocks : ∀ k, k < w.heap.size → k ≠ g.B → k ≠ g.K → some k ≠ blk po → w'.heap[k]? = w.heap[k]? := fun k h0 h1 _ h3 => ho.block k h0 h1 (fun p e e2 => h3 (by subst e; rw [e2]; rfl))
  rcases hc with ⟨m', po', cap', hm, rfl, hh, hmv⟩ | ⟨hm, rfl, rfl⟩
  · left
    have hw : wr ⟨m, full⟩ addr v = ⟨m', full⟩ := by unfold wr; rw [hm]
    rw [hw]
    refine ⟨rfl, ⟨po', cap', h.turn ho.os ho.tape ho.output ho.size blocks hh hkk old (fun e => ?_) hmv⟩, rfl⟩
    rcases hmv with rfl | ⟨p, rfl, hp⟩
    · exact Nat.le_trans (h.len e) (hlen m' hm)
    · have h1 := h.low p.block e
      have h2 := h.size
      omega
  · right
    exact ⟨rfl, ⟨po, cap, h⟩, by unfold wr; rw [hm]⟩
set_option maxHeartbeats 1000000 in
theorem write_any (g : G) (m : M) (full : Bool) (addr v : Int) (w : World) (h : In g w m full) (hr : Rt m) (v0 : 0 ≤ v) (v1 : v ≤ 255) :
    Calls Tryz.prog 182 #[.pointer (some ⟨g.K, 0, none⟩), .int .i64 addr, .int .i64 v] w fun e w' => e = .returned (.tuple #[]) ∧ In g w' (wr ⟨m, full⟩ addr v).m (wr ⟨m, full⟩ addr v).full := by
  have k0 := h.kcell 0 _ rfl
  have lk := h.ltK
  have c1 := fun w => wrapped_any addr w
  have hq := word_bd addr
  have c2 : ∀ W, Below w.heap.size w W → Calls Tryz.prog 202 #[.pointer (some ⟨g.B, 0, none⟩), .int .i64 (addr % 65536), .int .i64 v] W fun e w' => ∃ b, e = .returned (.bool b) ∧ Hid ((b = true ∧ In g w' (wr ⟨m, full⟩ addr v).m (wr ⟨m, full⟩ addr v).full) ∨ (b = false ∧ In g w' m full ∧ wr ⟨m, full⟩ addr v = ⟨m, true⟩)) := fun W hW => by
    have h := h.below hW
    have hb := h.base
    obtain ⟨po, cap, h⟩ := h
    exact (Busw.write_any m g.B g.base po cap (addr % 65536) v W h.held hr (decide_eq_true hq) (decide_eq_true ⟨v0, v1⟩) hb).mono fun e w' hp => by
      rcases in_post h hp with ⟨rfl, h1, h2⟩ | ⟨rfl, h1, h2⟩
      · exact ⟨true, rfl, .inl ⟨rfl, by rw [h2]; exact h1⟩⟩
      · exact ⟨false, rfl, .inr ⟨rfl, h1, h2⟩⟩
  clear h hr hq v0 v1
  obtain ⟨s, hs⟩ : ∃ s, s = wr ⟨m, full⟩ addr v := ⟨_, rfl⟩
  rw [← hs] at c2 ⊢
  clear hs
  generalize hq : addr % 65536 = q at *
  clear hq
  go_enter Tryz.func182, Tryz.ntmps182
  go_wp2_with fail
  go_region_with (first | (go_at_call 61; refine (c1 _).mono ?_; rintro e w' ⟨rfl, hw'⟩; have hw' := hw'.symm; subst hw') | (go_at_call 202; refine (c2 _ (by repeat (with_reducible first | exact Below.refl _ _ | refine CartL.grow ?_ _ | refine below_drewN ?_ _ | refine Below.drew ?_))).mono ?_; rintro e w' ⟨b, rfl, hpost⟩))
  all_goals
    rcases hpost.out with ⟨rfl, hi⟩ | ⟨rfl, hi, hf⟩
    · have HI : Hid (In g w' s.m s.full) := hi
      clear hi hpost
      go_wp2
      go_end0
      exact ⟨rfl, HI.out⟩
    · have HI : Hid (In g (w'.setCell ⟨g.K, 10, none⟩ (.bool true)) s.m s.full) := by show In g (w'.setCell ⟨g.K, 10, none⟩ (.bool true)) s.m s.full; rw [hf]; exact hi.setFull
      have k10 := hi.kcell 10 _ rfl
      have f10 := hi.kfro 10
      clear hi hf hpost
      go_wp2
      go_end0
      exact ⟨rfl, HI.out⟩
end Go.Proofs.YtkfehdkjeodbmaaGreatDoor.Stpj
