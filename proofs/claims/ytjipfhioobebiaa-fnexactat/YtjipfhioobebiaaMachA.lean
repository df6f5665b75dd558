/-
  Contracts of ours for both At.
-/
import Derived.Test.YtjipfhioobebiaaMachB
namespace Go.Proofs.Ytjipfhioobebiaa.MachA
open Go.ChangeShapes Go.WideShapes Go.ChangeAt Go.RowKit Go.Deep
set_option linter.unusedVariables false
set_option linter.unusedSimpArgs false
open Signed (inB ret_int ret_bool isByte_any l1In_any)
open Carts CartK CartL CartM CartN CartR CartX Outs Mach MachT MachO MachK MachB
/-- The bank of a right machine's place. -/
def seenV (pc bank n : Int) : Int := if pc < 256 then 0 else if pc < 512 then bank % n else -1
def bankA (ok : Bool) (pc bank n : Int) : Int := if ok = true then seenV pc bank n else -1
def addrA (ok : Bool) (pc : Int) : Int := if ok = true then pc else -1
theorem ret_two {a b c d : Int} (h1 : a = c) (h2 : b = d) : Ending.returned (.agg #[.int .i64 a, .int .i64 b]) = .returned (.agg #[.int .i64 c, .int .i64 d]) := by rw [h1, h2]
set_option maxHeartbeats 1000000 in
theorem whereIs_any (ra rf rB rC rD rE rH rL sp pc : Int) (ime hal : Bool) (rom : ByteArray) (kind bank : Int) (ram : ByteArray) (rb : Int) (on : Bool) (mode : Int) (work high : ByteArray) (po : Option Addr) (L : List Int) (cap : Nat) (cyc : Int) (B : Nat) (w : World) (kB : w.heap[B]? = some (.cells #[.int .i64 ra, .int .i64 rf, .int .i64 rB, .int .i64 rC, .int .i64 rD, .int .i64 rE, .int .i64 rH, .int .i64 rL, .int .i64 sp, .int .i64 pc, .bool ime, .bool hal, .string rom, .int .i64 kind, .int .i64 bank, .string ram, .int .i64 rb, .bool on, .int .i64 mode, .string work, .string high, .slice po L.length cap, .int .i64 cyc] 47)) (n : Nat) (n0 : 2 ≤ n) (n1 : n ≤ 16) (hn : rom.size = 256 * n) (b0 : 0 ≤ bank) (b1 : bank ≤ 255) :
    Calls Try.prog 72 #[.pointer (some ⟨B, 0, none⟩)] w fun e w' => e = .returned (.agg #[.int .i64 (seenV pc bank n), .int .i64 pc]) ∧ Below w.heap.size w w' := by
  have hlt : B < w.heap.size := by
    rcases Nat.lt_or_ge B w.heap.size with h' | h'
    · exact h'
    · simp [Array.getElem?_eq_none h'] at kB
  have m9 := cel kB 9 _ rfl
  have m12 := cel kB 12 _ rfl
  have m13 := cel kB 13 _ rfl
  have m14 := cel kB 14 _ rfl
  have m15 := cel kB 15 _ rfl
  have m16 := cel kB 16 _ rfl
  have m17 := cel kB 17 _ rfl
  have m18 := cel kB 18 _ rfl
  have c3 := fun w => bankSeen_any rom kind bank ram rb on mode w n n0 n1 hn b0 b1
  obtain ⟨r, hr⟩ : ∃ r, r = seenV pc bank n := ⟨_, rfl⟩
  have HR : Hid (r = seenV pc bank n) := hr
  rw [← hr]
  clear kB hn hr
  by_cases h1 : pc < 256
  · have e1 : r = 0 := by rw [HR.out]; unfold seenV; rw [if_pos h1]
    subst e1
    go_enter Try.func72, Try.ntmps72
    go_wp2
    exact bodyPost_ret (v := .agg #[.int .i64 0, .int .i64 pc]) (by simp [results, Try.results72, go_sem]) rfl ⟨rfl, by repeat (with_reducible first | exact Below.refl _ _ | refine CartL.grow ?_ _ | refine below_drewN ?_ _ | refine Below.drew ?_)⟩
  · by_cases h2 : pc < 512
    · have e1 : bank % (n : Int) = r := by rw [HR.out]; unfold seenV; rw [if_neg h1, if_pos h2]
      rw [e1] at c3
      clear e1
      go_enter Try.func72, Try.ntmps72
      go_wp2_with (go_at_call 47; refine (c3 _).mono ?_; rintro e w' ⟨rfl, rfl⟩)
      exact bodyPost_ret (v := .agg #[.int .i64 r, .int .i64 pc]) (by simp [results, Try.results72, go_sem]) rfl ⟨rfl, by repeat (with_reducible first | exact Below.refl _ _ | refine CartL.grow ?_ _ | refine below_drewN ?_ _ | refine Below.drew ?_)⟩
    · have e1 : r = -1 := by rw [HR.out]; unfold seenV; rw [if_neg h1, if_neg h2]
      subst e1
      go_enter Try.func72, Try.ntmps72
      go_wp2
      exact bodyPost_ret (v := .agg #[.int .i64 (-1), .int .i64 pc]) (by simp [results, Try.results72, go_sem]) rfl ⟨rfl, by repeat (with_reducible first | exact Below.refl _ _ | refine CartL.grow ?_ _ | refine below_drewN ?_ _ | refine Below.drew ?_)⟩
set_option maxHeartbeats 1000000 in
theorem l17At_any (ra rf rB rC rD rE rH rL sp pc : Int) (ime hal : Bool) (rom : ByteArray) (kind bank : Int) (ram : ByteArray) (rb : Int) (on : Bool) (mode : Int) (work high : ByteArray) (po : Option Addr) (L : List Int) (cap : Nat) (cyc : Int) (w : World) (z1 : rom.size ≤ maxLen) (z2 : ram.size ≤ maxLen) (h : okB rom kind bank ram rb on mode = true) (n : Nat) (hn : banks rom.size = n) (n0 : 2 ≤ n) (n1 : n ≤ 16) (b0 : 0 ≤ bank) (b1 : bank ≤ 255) :
    Calls Try.prog 71 #[.agg #[.int .i64 ra, .int .i64 rf, .int .i64 rB, .int .i64 rC, .int .i64 rD, .int .i64 rE, .int .i64 rH, .int .i64 rL, .int .i64 sp, .int .i64 pc, .bool ime, .bool hal, .string rom, .int .i64 kind, .int .i64 bank, .string ram, .int .i64 rb, .bool on, .int .i64 mode, .string work, .string high, .slice po L.length cap, .int .i64 cyc]] w fun e w' => e = .returned (.agg #[.int .i64 (seenV pc bank n), .int .i64 pc]) ∧ Below w.heap.size w w' := by
  have c3 := fun w => specMapped_yes rom kind bank ram rb on mode w z1 z2 h n hn n0 n1 b0 b1
  obtain ⟨r, hr⟩ : ∃ r, r = seenV pc bank n := ⟨_, rfl⟩
  have HR : Hid (r = seenV pc bank n) := hr
  rw [← hr]
  clear hn hr h z1 z2
  by_cases h1 : pc < 256
  · have e1 : r = 0 := by rw [HR.out]; unfold seenV; rw [if_pos h1]
    subst e1
    clear c3
    go_enter Try.func71, Try.ntmps71
    go_wp2
    exact bodyPost_ret (v := .agg #[.int .i64 0, .int .i64 pc]) (by simp [results, Try.results71, go_sem]) rfl ⟨rfl, by repeat (with_reducible first | exact Below.refl _ _ | refine CartL.grow ?_ _ | refine below_drewN ?_ _ | refine Below.drew ?_)⟩
  · by_cases h2 : pc < 512
    · have e1 : bank % (n : Int) = r := by rw [HR.out]; unfold seenV; rw [if_neg h1, if_pos h2]
      rw [e1] at c3
      clear e1
      go_enter Try.func71, Try.ntmps71
      go_wp2_with (go_at_call 20; refine (c3 _).mono ?_; rintro e w' ⟨rfl, k, rfl⟩)
      exact bodyPost_ret (v := .agg #[.int .i64 r, .int .i64 pc]) (by simp [results, Try.results71, go_sem]) rfl ⟨rfl, by repeat (with_reducible first | exact Below.refl _ _ | refine CartL.grow ?_ _ | refine below_drewN ?_ _ | refine Below.drew ?_ | refine Below.setCell ?_ (by simp) _)⟩
    · have e1 : r = -1 := by rw [HR.out]; unfold seenV; rw [if_neg h1, if_neg h2]
      subst e1
      clear c3
      go_enter Try.func71, Try.ntmps71
      go_wp2
      exact bodyPost_ret (v := .agg #[.int .i64 (-1), .int .i64 pc]) (by simp [results, Try.results71, go_sem]) rfl ⟨rfl, by repeat (with_reducible first | exact Below.refl _ _ | refine CartL.grow ?_ _ | refine below_drewN ?_ _ | refine Below.drew ?_)⟩
def okA (ra rf rB rC rD rE rH rL sp pc : Int) (ime hal : Bool) (rom : ByteArray) (kind bank : Int) (ram : ByteArray) (rb : Int) (on : Bool) (mode : Int) (work high : ByteArray) (po : Option Addr) (L : List Int) (cap : Nat) (cyc : Int) : Bool := okM ra rf rB rC rD rE rH rL sp pc (okB rom kind bank ram rb on mode) work.size high.size L cyc
set_option maxHeartbeats 1000000 in
theorem implA_any (ra rf rB rC rD rE rH rL sp pc : Int) (ime hal : Bool) (rom : ByteArray) (kind bank : Int) (ram : ByteArray) (rb : Int) (on : Bool) (mode : Int) (work high : ByteArray) (po : Option Addr) (L : List Int) (cap : Nat) (cyc : Int) (w : World) (z1 : rom.size ≤ maxLen) (z2 : ram.size ≤ maxLen) (z3 : work.size ≤ 1048576) (z4 : high.size ≤ 1048576) (hN : Row w po L) (hlen : L.length ≤ 1048576) :
    Calls Try.prog 40 #[.agg #[.int .i64 ra, .int .i64 rf, .int .i64 rB, .int .i64 rC, .int .i64 rD, .int .i64 rE, .int .i64 rH, .int .i64 rL, .int .i64 sp, .int .i64 pc, .bool ime, .bool hal, .string rom, .int .i64 kind, .int .i64 bank, .string ram, .int .i64 rb, .bool on, .int .i64 mode, .string work, .string high, .slice po L.length cap, .int .i64 cyc]] w fun e w' => e = .returned (.agg #[.int .i64 (bankA (okA ra rf rB rC rD rE rH rL sp pc ime hal rom kind bank ram rb on mode work high po L cap cyc) pc bank (banks rom.size)), .int .i64 (addrA (okA ra rf rB rC rD rE rH rL sp pc ime hal rom kind bank ram rb on mode work high po L cap cyc) pc)]) ∧ Below w.heap.size w w' := by
  have c1 := fun W h => implM_any ra rf rB rC rD rE rH rL sp pc ime hal rom kind bank ram rb on mode work high po L cap cyc W z1 z2 z3 z4 h hlen
  have H0 : Hid (Row w po L) := hN
  have HI : Hid ((Try.prog.info? 47).map (·.size) = some 23) := hi47
  have HJ : Hid ((Try.prog.info? 59).map (·.size) = some 2) := (by kernel_rfl : (Try.prog.info? 59).map (·.size) = some 2)
  have HP : Hid (okA ra rf rB rC rD rE rH rL sp pc ime hal rom kind bank ram rb on mode work high po L cap cyc = true → ∀ W : World, W.heap[w.heap.size]? = some (.cells #[.int .i64 ra, .int .i64 rf, .int .i64 rB, .int .i64 rC, .int .i64 rD, .int .i64 rE, .int .i64 rH, .int .i64 rL, .int .i64 sp, .int .i64 pc, .bool ime, .bool hal, .string rom, .int .i64 kind, .int .i64 bank, .string ram, .int .i64 rb, .bool on, .int .i64 mode, .string work, .string high, .slice po L.length cap, .int .i64 cyc] 47) → Calls Try.prog 72 #[.pointer (some ⟨w.heap.size, 0, none⟩)] W fun e w' => e = .returned (.agg #[.int .i64 (seenV pc bank (banks rom.size)), .int .i64 pc]) ∧ Below W.heap.size W w') := fun h W hW => by
    obtain ⟨n, n0, n1, hn, hb, _, b0, b1, _⟩ := right rom kind bank ram rb on mode (okM_parts h).1
    rw [hb]
    exact whereIs_any ra rf rB rC rD rE rH rL sp pc ime hal rom kind bank ram rb on mode work high po L cap cyc w.heap.size W hW n n0 n1 hn b0 b1
  unfold bankA addrA
  obtain ⟨b, hb⟩ : ∃ b, okA ra rf rB rC rD rE rH rL sp pc ime hal rom kind bank ram rb on mode work high po L cap cyc = b := ⟨_, rfl⟩
  have hb2 : okM ra rf rB rC rD rE rH rL sp pc (okB rom kind bank ram rb on mode) work.size high.size L cyc = b := hb
  rw [hb2] at c1
  rw [hb] at HP ⊢
  obtain ⟨v, hv⟩ : ∃ v, v = seenV pc bank (banks rom.size) := ⟨_, rfl⟩
  rw [← hv] at HP ⊢
  clear hb hb2 hv hN z1 z2 z3 z4 hlen
  go_enter Try.func40, Try.ntmps40
  go_upto_region 1 with fail
  refine wp_region_list ?_
  have k0 : ((w.alloc (.cells #[.int .i64 ra, .int .i64 rf, .int .i64 rB, .int .i64 rC, .int .i64 rD, .int .i64 rE, .int .i64 rH, .int .i64 rL, .int .i64 sp, .int .i64 pc, .bool ime, .bool hal, .string rom, .int .i64 kind, .int .i64 bank, .string ram, .int .i64 rb, .bool on, .int .i64 mode, .string work, .string high, .slice po L.length cap, .int .i64 cyc] 47)).alloc (.cells #[.int .i64 0, .int .i64 0] 59)).heap[w.heap.size]? = some (.cells #[.int .i64 ra, .int .i64 rf, .int .i64 rB, .int .i64 rC, .int .i64 rD, .int .i64 rE, .int .i64 rH, .int .i64 rL, .int .i64 sp, .int .i64 pc, .bool ime, .bool hal, .string rom, .int .i64 kind, .int .i64 bank, .string ram, .int .i64 rb, .bool on, .int .i64 mode, .string work, .string high, .slice po L.length cap, .int .i64 cyc] 47) := by
    rw [Below.heap_alloc _ _ _ (by simp)]; exact heap_alloc_last w _
  refine wpList_load_row rfl 47 _ rfl w.heap.size rfl _ _ (0, 0) _ k0 Try.underlying47 rfl HI.out ?_
  clear k0
  go_wp2_with fail
  refine Calls.mono (c1 _ ?_) ?_
  · exact H0.out.below (by repeat (with_reducible first | exact Below.refl _ _ | refine CartL.grow ?_ _ | refine below_drewN ?_ _ | refine Below.drew ?_))
  rintro e w1 ⟨rfl, hb1⟩
  have HB : Hid (Below w.heap.size w w1) := after (by repeat (with_reducible first | exact Below.refl _ _ | refine CartL.grow ?_ _ | refine below_drewN ?_ _ | refine Below.drew ?_)) hb1
  have HK : Hid (w1.heap[w.heap.size]? = some (.cells #[.int .i64 ra, .int .i64 rf, .int .i64 rB, .int .i64 rC, .int .i64 rD, .int .i64 rE, .int .i64 rH, .int .i64 rL, .int .i64 sp, .int .i64 pc, .bool ime, .bool hal, .string rom, .int .i64 kind, .int .i64 bank, .string ram, .int .i64 rb, .bool on, .int .i64 mode, .string work, .string high, .slice po L.length cap, .int .i64 cyc] 47)) := by
    have h := hb1.block w.heap.size (by simp; omega)
    rw [Below.heap_alloc _ _ _ (by simp)] at h
    exact h.trans (heap_alloc_last w _)
  have HS : Hid (w1.heap[w.heap.size + 1]? = some (.cells #[.int .i64 0, .int .i64 0] 59)) := by
    have h := hb1.block (w.heap.size + 1) (by simp)
    have h2 := heap_alloc_last (w.alloc (.cells #[.int .i64 ra, .int .i64 rf, .int .i64 rB, .int .i64 rC, .int .i64 rD, .int .i64 rE, .int .i64 rH, .int .i64 rL, .int .i64 sp, .int .i64 pc, .bool ime, .bool hal, .string rom, .int .i64 kind, .int .i64 bank, .string ram, .int .i64 rb, .bool on, .int .i64 mode, .string work, .string high, .slice po L.length cap, .int .i64 cyc] 47)) (.cells #[.int .i64 0, .int .i64 0] 59)
    simp only [World.size_alloc] at h2
    exact h.trans h2
  clear hb1 H0 c1
  cases b
  · have q0 := cel HS.out 0 _ rfl
    have q1 := cel HS.out 1 _ rfl
    have f0 := frozen_of_row w1 (w.heap.size + 1) 0 _ _ HS.out
    have f1 := frozen_of_row w1 (w.heap.size + 1) 1 _ _ HS.out
    go_wp2
    exact bodyPost_ret (v := .agg #[.int .i64 (-1), .int .i64 (-1)]) (results_cell_row Try.results40 _ _ (w.heap.size + 1) _ #[.int .i64 (-1), .int .i64 (-1)] (0, 0) _ rfl ((heap_setCell_same _ _ 1 _ _ (.int .i64 (-1)) (heap_setCell_same _ _ 0 _ _ (.int .i64 (-1)) HS.out)).trans rfl) Try.underlying59 rfl HJ.out) rfl ⟨rfl, (HB.out.setCell (by simp) _).setCell (by simp) _⟩
  go_wp2_with fail
  refine Calls.mono (HP.out trivial _ HK.out) ?_
  rintro e w2 ⟨rfl, hb2⟩
  have HB2 : Hid (Below w.heap.size w w2) := after HB.out hb2
  have HS2 : Hid (w2.heap[w.heap.size + 1]? = some (.cells #[.int .i64 0, .int .i64 0] 59)) := by
    have hl : w.heap.size + 1 < w1.heap.size := (Array.getElem?_eq_some_iff.1 HS.out).1
    exact (hb2.block _ hl).trans HS.out
  clear hb2 HS HB
  have q0 := cel HS2.out 0 _ rfl
  have q1 := cel HS2.out 1 _ rfl
  have f0 := frozen_of_row w2 (w.heap.size + 1) 0 _ _ HS2.out
  have f1 := frozen_of_row w2 (w.heap.size + 1) 1 _ _ HS2.out
  go_wp2
  exact bodyPost_ret (v := .agg #[.int .i64 v, .int .i64 pc]) (results_cell_row Try.results40 _ _ (w.heap.size + 1) _ #[.int .i64 v, .int .i64 pc] (0, 0) _ rfl ((heap_setCell_same _ _ 1 _ _ (.int .i64 pc) (heap_setCell_same _ _ 0 _ _ (.int .i64 v) HS2.out)).trans rfl) Try.underlying59 rfl HJ.out) rfl ⟨rfl, (HB2.out.setCell (by simp) _).setCell (by simp) _⟩
set_option maxHeartbeats 1000000 in
theorem specA_any (ra rf rB rC rD rE rH rL sp pc : Int) (ime hal : Bool) (rom : ByteArray) (kind bank : Int) (ram : ByteArray) (rb : Int) (on : Bool) (mode : Int) (work high : ByteArray) (po : Option Addr) (L : List Int) (cap : Nat) (cyc : Int) (w : World) (z1 : rom.size ≤ maxLen) (z2 : ram.size ≤ maxLen) (z3 : work.size ≤ 1048576) (z4 : high.size ≤ 1048576) (hN : Row w po L) (hlen : L.length ≤ 1048576) :
    Calls Try.prog 39 #[.agg #[.int .i64 ra, .int .i64 rf, .int .i64 rB, .int .i64 rC, .int .i64 rD, .int .i64 rE, .int .i64 rH, .int .i64 rL, .int .i64 sp, .int .i64 pc, .bool ime, .bool hal, .string rom, .int .i64 kind, .int .i64 bank, .string ram, .int .i64 rb, .bool on, .int .i64 mode, .string work, .string high, .slice po L.length cap, .int .i64 cyc]] w fun e w' => e = .returned (.agg #[.int .i64 (bankA (okA ra rf rB rC rD rE rH rL sp pc ime hal rom kind bank ram rb on mode work high po L cap cyc) pc bank (banks rom.size)), .int .i64 (addrA (okA ra rf rB rC rD rE rH rL sp pc ime hal rom kind bank ram rb on mode work high po L cap cyc) pc)]) ∧ Below w.heap.size w w' := by
  have c1 := fun W h => specM_any ra rf rB rC rD rE rH rL sp pc ime hal rom kind bank ram rb on mode work high po L cap cyc W z1 z2 z3 z4 h hlen
  have H0 : Hid (Row w po L) := hN
  have HI : Hid ((Try.prog.info? 47).map (·.size) = some 23) := hi47
  have HJ : Hid ((Try.prog.info? 59).map (·.size) = some 2) := (by kernel_rfl : (Try.prog.info? 59).map (·.size) = some 2)
  have HP : Hid (okA ra rf rB rC rD rE rH rL sp pc ime hal rom kind bank ram rb on mode work high po L cap cyc = true → ∀ W : World, Calls Try.prog 71 #[.agg #[.int .i64 ra, .int .i64 rf, .int .i64 rB, .int .i64 rC, .int .i64 rD, .int .i64 rE, .int .i64 rH, .int .i64 rL, .int .i64 sp, .int .i64 pc, .bool ime, .bool hal, .string rom, .int .i64 kind, .int .i64 bank, .string ram, .int .i64 rb, .bool on, .int .i64 mode, .string work, .string high, .slice po L.length cap, .int .i64 cyc]] W fun e w' => e = .returned (.agg #[.int .i64 (seenV pc bank (banks rom.size)), .int .i64 pc]) ∧ Below W.heap.size W w') := fun h W => by
    obtain ⟨n, n0, n1, hn, hb, _, b0, b1, _⟩ := right rom kind bank ram rb on mode (okM_parts h).1
    rw [hb]
    exact l17At_any ra rf rB rC rD rE rH rL sp pc ime hal rom kind bank ram rb on mode work high po L cap cyc W z1 z2 (okM_parts h).1 n hb n0 n1 b0 b1
  unfold bankA addrA
  obtain ⟨b, hb⟩ : ∃ b, okA ra rf rB rC rD rE rH rL sp pc ime hal rom kind bank ram rb on mode work high po L cap cyc = b := ⟨_, rfl⟩
  have hb2 : okM ra rf rB rC rD rE rH rL sp pc (okB rom kind bank ram rb on mode) work.size high.size L cyc = b := hb
  rw [hb2] at c1
  rw [hb] at HP ⊢
  obtain ⟨v, hv⟩ : ∃ v, v = seenV pc bank (banks rom.size) := ⟨_, rfl⟩
  rw [← hv] at HP ⊢
  clear hb hb2 hv hN z1 z2 z3 z4 hlen
  go_enter Try.func39, Try.ntmps39
  go_upto_region 1 with fail
  refine wp_region_list ?_
  have k0 : ((w.alloc (.cells #[.int .i64 ra, .int .i64 rf, .int .i64 rB, .int .i64 rC, .int .i64 rD, .int .i64 rE, .int .i64 rH, .int .i64 rL, .int .i64 sp, .int .i64 pc, .bool ime, .bool hal, .string rom, .int .i64 kind, .int .i64 bank, .string ram, .int .i64 rb, .bool on, .int .i64 mode, .string work, .string high, .slice po L.length cap, .int .i64 cyc] 47)).alloc (.cells #[.int .i64 0, .int .i64 0] 59)).heap[w.heap.size]? = some (.cells #[.int .i64 ra, .int .i64 rf, .int .i64 rB, .int .i64 rC, .int .i64 rD, .int .i64 rE, .int .i64 rH, .int .i64 rL, .int .i64 sp, .int .i64 pc, .bool ime, .bool hal, .string rom, .int .i64 kind, .int .i64 bank, .string ram, .int .i64 rb, .bool on, .int .i64 mode, .string work, .string high, .slice po L.length cap, .int .i64 cyc] 47) := by
    rw [Below.heap_alloc _ _ _ (by simp)]; exact heap_alloc_last w _
  refine wpList_load_row rfl 47 _ rfl w.heap.size rfl _ _ (0, 0) _ k0 Try.underlying47 rfl HI.out ?_
  clear k0
  go_wp2_with fail
  refine Calls.mono (c1 _ ?_) ?_
  · exact H0.out.below (by repeat (with_reducible first | exact Below.refl _ _ | refine CartL.grow ?_ _ | refine below_drewN ?_ _ | refine Below.drew ?_))
  rintro e w1 ⟨rfl, hb1⟩
  have HB : Hid (Below w.heap.size w w1) := after (by repeat (with_reducible first | exact Below.refl _ _ | refine CartL.grow ?_ _ | refine below_drewN ?_ _ | refine Below.drew ?_)) hb1
  have HK : Hid (w1.heap[w.heap.size]? = some (.cells #[.int .i64 ra, .int .i64 rf, .int .i64 rB, .int .i64 rC, .int .i64 rD, .int .i64 rE, .int .i64 rH, .int .i64 rL, .int .i64 sp, .int .i64 pc, .bool ime, .bool hal, .string rom, .int .i64 kind, .int .i64 bank, .string ram, .int .i64 rb, .bool on, .int .i64 mode, .string work, .string high, .slice po L.length cap, .int .i64 cyc] 47)) := by
    have h := hb1.block w.heap.size (by simp; omega)
    rw [Below.heap_alloc _ _ _ (by simp)] at h
    exact h.trans (heap_alloc_last w _)
  have HS : Hid (w1.heap[w.heap.size + 1]? = some (.cells #[.int .i64 0, .int .i64 0] 59)) := by
    have h := hb1.block (w.heap.size + 1) (by simp)
    have h2 := heap_alloc_last (w.alloc (.cells #[.int .i64 ra, .int .i64 rf, .int .i64 rB, .int .i64 rC, .int .i64 rD, .int .i64 rE, .int .i64 rH, .int .i64 rL, .int .i64 sp, .int .i64 pc, .bool ime, .bool hal, .string rom, .int .i64 kind, .int .i64 bank, .string ram, .int .i64 rb, .bool on, .int .i64 mode, .string work, .string high, .slice po L.length cap, .int .i64 cyc] 47)) (.cells #[.int .i64 0, .int .i64 0] 59)
    simp only [World.size_alloc] at h2
    exact h.trans h2
  clear hb1 H0 c1
  cases b
  · have q0 := cel HS.out 0 _ rfl
    have q1 := cel HS.out 1 _ rfl
    have f0 := frozen_of_row w1 (w.heap.size + 1) 0 _ _ HS.out
    have f1 := frozen_of_row w1 (w.heap.size + 1) 1 _ _ HS.out
    go_wp2
    exact bodyPost_ret (v := .agg #[.int .i64 (-1), .int .i64 (-1)]) (results_cell_row Try.results39 _ _ (w.heap.size + 1) _ #[.int .i64 (-1), .int .i64 (-1)] (0, 0) _ rfl ((heap_setCell_same _ _ 1 _ _ (.int .i64 (-1)) (heap_setCell_same _ _ 0 _ _ (.int .i64 (-1)) HS.out)).trans rfl) Try.underlying59 rfl HJ.out) rfl ⟨rfl, (HB.out.setCell (by simp) _).setCell (by simp) _⟩
  go_upto_region 3 with fail
  refine wp_region_list ?_
  refine wpList_load_row rfl 47 _ rfl w.heap.size rfl _ _ (0, 0) _ HK.out Try.underlying47 rfl HI.out ?_
  go_wp2_with fail
  refine Calls.mono (HP.out trivial _) ?_
  rintro e w2 ⟨rfl, hb2⟩
  have HB2 : Hid (Below w.heap.size w w2) := after HB.out hb2
  have HS2 : Hid (w2.heap[w.heap.size + 1]? = some (.cells #[.int .i64 0, .int .i64 0] 59)) := by
    have hl : w.heap.size + 1 < w1.heap.size := (Array.getElem?_eq_some_iff.1 HS.out).1
    exact (hb2.block _ hl).trans HS.out
  clear hb2 HS HB
  have q0 := cel HS2.out 0 _ rfl
  have q1 := cel HS2.out 1 _ rfl
  have f0 := frozen_of_row w2 (w.heap.size + 1) 0 _ _ HS2.out
  have f1 := frozen_of_row w2 (w.heap.size + 1) 1 _ _ HS2.out
  go_wp2
  exact bodyPost_ret (v := .agg #[.int .i64 v, .int .i64 pc]) (results_cell_row Try.results39 _ _ (w.heap.size + 1) _ #[.int .i64 v, .int .i64 pc] (0, 0) _ rfl ((heap_setCell_same _ _ 1 _ _ (.int .i64 pc) (heap_setCell_same _ _ 0 _ _ (.int .i64 v) HS2.out)).trans rfl) Try.underlying59 rfl HJ.out) rfl ⟨rfl, (HB2.out.setCell (by simp) _).setCell (by simp) _⟩
end Go.Proofs.Ytjipfhioobebiaa.MachA
