/-
  Contracts of ours for impl.ReadIns, and both as one.
-/
import Derived.Test.YtnfonccimaikgaaGreatDoorReadI
namespace Go.Proofs.YtnfonccimaikgaaGreatDoor.ReadJ
open Go.ChangeShapes Go.WideShapes Go.ChangeAt Go.RowKit
open HolI LenX InsX ReadI
set_option linter.unusedVariables false
set_option maxRecDepth 20000

theorem rest_ix (s : ByteArray) (a k : Int) (h0 : 0 ≤ a) (hk : 0 ≤ k) (h : a + k < s.size) : byteAt (s.extract a.toNat s.size) k = byteAt s (a + k) := by
  have hz : (s.extract a.toNat s.size).size = s.size - a.toNat := by simp
  unfold byteAt
  rw [dif_pos (by omega), dif_pos (by omega)]
  congr 2
  simp only [ByteArray.getElem_extract]
  congr 1
  omega
theorem slice_rest (s : ByteArray) (a : Int) (h0 : 0 ≤ a) (h1 : a ≤ s.size) (w : World) : (Instr.slice 9 (.string s) (some (.int .i64 a)) none none).run Tryz.prog w = .ok (.string (s.extract a.toNat s.size)) w :=
  run_slice_string_l w (t := 9) (s := s) Tryz.underlying9 .i64 a h0 h1
set_option maxHeartbeats 1000000 in
theorem impl_out (s : ByteArray) (a : Int) (w : World) (h : a < 0 ∨ s.size ≤ a) :
    Calls Tryz.prog 40 #[.string s, .int .i64 a] w fun e w' => e = Tup zeroI 0 ∧ Below w.heap.size w w' := by
  by_cases h0 : a < 0
  · go_enter Tryz.func40, Tryz.ntmps40
    go_wp2
    exact bodyPost_ret (v := .tuple #[.agg #[.int .i64 0, .bool false, .int .i64 0], .int .i64 0]) (by simp [results, Tryz.results40, go_sem]) rfl ⟨rfl, (Below.refl _ _).alloc (Nat.le_refl _) _⟩
  · have hw : (s.size : Int) ≤ a := by omega
    go_enter Tryz.func40, Tryz.ntmps40
    go_wp2
    exact bodyPost_ret (v := .tuple #[.agg #[.int .i64 0, .bool false, .int .i64 0], .int .i64 0]) (by simp [results, Tryz.results40, go_sem]) rfl ⟨rfl, (Below.refl _ _).alloc (Nat.le_refl _) _⟩
set_option maxHeartbeats 1000000 in
theorem impl_cb (s : ByteArray) (a : Int) (w : World) (hs : s.size ≤ 1048576) (h0 : 0 ≤ a) (h1 : a < s.size) (hc : byteAt s a = 203) :
    Calls Tryz.prog 40 #[.string s, .int .i64 a] w fun e w' => e = Tup (readI s a) (readN s a) ∧ Below w.heap.size w w' := by
  have e1 : readI s a = (if s.size - a < 2 then zeroI else .agg #[.int .i64 (byteAt s (a + 1)), .bool true, .int .i64 0]) := by unfold readI; rw [if_neg (by omega), if_pos hc]
  have e2 : readN s a = (if s.size - a < 2 then 0 else 2) := by unfold readN; rw [if_neg (by omega), if_pos hc]
  rw [e1, e2]
  clear e1 e2
  have sl := slice_rest s a h0 (by omega)
  have hz : ((s.extract a.toNat s.size).size : Int) = s.size - a := by simp; omega
  have x0 := ix (s.extract a.toNat s.size) 0 (by omega) (by omega)
  rw [rest_ix s a 0 h0 (by omega) (by omega), Int.add_zero, hc] at x0
  by_cases h2 : (s.size : Int) - a < 2
  · rw [if_pos h2, if_pos h2]
    generalize s.extract a.toNat s.size = R at sl hz x0
    rw [← hz] at h2
    have hz1 : (0 : Int) < (R.size : Int) := by omega
    clear hz hc
    go_enter Tryz.func40, Tryz.ntmps40
    go_wp2
    exact bodyPost_ret (v := .tuple #[.agg #[.int .i64 0, .bool false, .int .i64 0], .int .i64 0]) (by simp [results, Tryz.results40, go_sem]) rfl ⟨rfl, (Below.refl _ _).alloc (Nat.le_refl _) _⟩
  · rw [if_neg h2, if_neg h2]
    have x1 := ix (s.extract a.toNat s.size) 1 (by omega) (by omega)
    rw [rest_ix s a 1 h0 (by omega) (by omega)] at x1
    have hy := byteAt_bd s (a + 1)
    generalize byteAt s (a + 1) = Y at x1 hy
    generalize s.extract a.toNat s.size = R at sl hz x0 x1
    rw [← hz] at h2
    have hz1 : (0 : Int) < (R.size : Int) := by omega
    have hz2 : (1 : Int) < (R.size : Int) := by omega
    have hw : IntKind.i64.wrap Y = Y := by rw [IntKind.wrap_i64]; omega
    have hw' : wrap64 Y = Y := by unfold wrap64; omega
    clear hz hc
    go_enter Tryz.func40, Tryz.ntmps40
    go_wp2
    exact bodyPost_ret (v := .tuple #[.agg #[.int .i64 Y, .bool true, .int .i64 0], .int .i64 2]) (by simp [results, Tryz.results40, go_sem]) rfl ⟨rfl, (Below.refl _ _).alloc (Nat.le_refl _) _⟩
set_option maxHeartbeats 1000000 in
theorem impl_n (s : ByteArray) (a n : Int) (w : World) (hm : MaxL w) (hs : s.size ≤ 1048576) (h0 : 0 ≤ a) (h1 : a < s.size) (hc : ¬ byteAt s a = 203) (hn : lenC (byteAt s a) = n) (hcs : n = 0 ∨ n = 1 ∨ n = 2 ∨ n = 3) :
    Calls Tryz.prog 40 #[.string s, .int .i64 a] w fun e w' => e = Tup (readI s a) (readN s a) ∧ Below w.heap.size w w' := by
  have e1 : readI s a = (if n = 0 ∨ s.size - a < n then zeroI else .agg #[.int .i64 (byteAt s a), .bool false, .int .i64 (immV s a n)]) := by unfold readI; rw [if_neg (by omega), if_neg hc, hn]
  have e2 : readN s a = (if n = 0 ∨ s.size - a < n then 0 else n) := by unfold readN; rw [if_neg (by omega), if_neg hc, hn]
  rw [e1, e2]
  clear e1 e2
  have HM : Hid (MaxL w) := hm
  have sl := slice_rest s a h0 (by omega)
  have hz : ((s.extract a.toNat s.size).size : Int) = s.size - a := by simp; omega
  have x0 := ix (s.extract a.toNat s.size) 0 (by omega) (by omega)
  rw [rest_ix s a 0 h0 (by omega) (by omega), Int.add_zero] at x0
  have bd := byteAt_bd s a
  have cl := fun w hm => implLength_any (byteAt s a) false w hm
  have hd : lenV (none? (byteAt s a) false) false (hole (byteAt s a) false) = n := hn
  rw [hd] at cl
  clear hd hn hm
  have hy1 := byteAt_bd s (a + 1)
  have hy2 := byteAt_bd s (a + 2)
  by_cases hq : n = 0 ∨ (s.size : Int) - a < n
  · rw [if_pos hq, if_pos hq]
    generalize byteAt s a = X at x0 cl hc bd
    generalize s.extract a.toNat s.size = R at sl hz x0
    rw [← hz] at hq
    have hz1 : (0 : Int) < (R.size : Int) := by omega
    have hw : IntKind.i64.wrap X = X := by rw [IntKind.wrap_i64]; omega
    have hw' : wrap64 X = X := by unfold wrap64; omega
    clear hz
    go_enter Tryz.func40, Tryz.ntmps40
    go_wp2_with fail
    refine (cl _ (HM.out.below ((Below.refl _ _).alloc (Nat.le_refl _) _))).mono ?_
    rintro e w2 ⟨rfl, b2⟩
    have B2 : Hid (Below _ _ w2) := b2
    have r0 := box b2 0 _ rfl
    have r1 := box b2 1 _ rfl
    have r2 := box b2 2 _ rfl
    have f0 := fro b2 0
    have f1 := fro b2 1
    have f2 := fro b2 2
    clear b2
    go_wp2
    all_goals exact bodyPost_ret (v := .tuple #[.agg #[.int .i64 0, .bool false, .int .i64 0], .int .i64 0]) (by simp [results, Tryz.results40, go_sem, r0, r1, r2]) rfl ⟨rfl, ((((unbox B2.out).setCell (p := ⟨w.heap.size, 0, none⟩) (Nat.le_refl _) _).setCell (p := ⟨w.heap.size, 1, none⟩) (Nat.le_refl _) _).setCell (p := ⟨w.heap.size, 2, none⟩) (Nat.le_refl _) _)⟩
  · rw [if_neg hq, if_neg hq]
    have g1 : ¬ n = 0 := fun h => hq (.inl h)
    have g2 : ¬ ((s.extract a.toNat s.size).size : Int) < n := fun h => hq (.inr (by omega))
    have hn3 : n = 1 ∨ n = 2 ∨ n = 3 := by rcases hcs with h | h | h | h <;> omega
    clear hcs hq
    have hw : IntKind.i64.wrap (byteAt s a) = byteAt s a := by rw [IntKind.wrap_i64]; omega
    have hw' : wrap64 (byteAt s a) = byteAt s a := by unfold wrap64; omega
    rcases hn3 with rfl | rfl | rfl
    · have ei : immV s a 1 = 0 := rfl
      rw [ei]
      clear ei
      generalize byteAt s a = X at x0 cl hc bd hw hw'
      generalize s.extract a.toNat s.size = R at sl hz x0 g2
      have hz1 : (0 : Int) < (R.size : Int) := by omega
      clear hz
      go_enter Tryz.func40, Tryz.ntmps40
      go_wp2_with fail
      refine (cl _ (HM.out.below ((Below.refl _ _).alloc (Nat.le_refl _) _))).mono ?_
      rintro e w2 ⟨rfl, b2⟩
      have B2 : Hid (Below _ _ w2) := b2
      have r0 := box b2 0 _ rfl
      have r1 := box b2 1 _ rfl
      have r2 := box b2 2 _ rfl
      have f0 := fro b2 0
      have f1 := fro b2 1
      have f2 := fro b2 2
      clear b2
      go_wp2
      refine wp_loop_rounds 1 ?_
      rw [rounds_succ]
      go_wp2
      exact bodyPost_ret (v := .tuple #[.agg #[.int .i64 X, .bool false, .int .i64 0], .int .i64 1]) (by simp [results, Tryz.results40, go_sem, r0, r1, r2]) rfl ⟨rfl, ((((unbox B2.out).setCell (p := ⟨w.heap.size, 0, none⟩) (Nat.le_refl _) _).setCell (p := ⟨w.heap.size, 1, none⟩) (Nat.le_refl _) _).setCell (p := ⟨w.heap.size, 2, none⟩) (Nat.le_refl _) _)⟩
    · have ei : immV s a 2 = byteAt s (a + 1) := rfl
      rw [ei]
      clear ei
      have x1 := ix (s.extract a.toNat s.size) 1 (by omega) (by omega)
      rw [rest_ix s a 1 h0 (by omega) (by omega)] at x1
      generalize byteAt s a = X at x0 cl hc bd hw hw'
      generalize byteAt s (a + 1) = Y at x1 hy1
      generalize s.extract a.toNat s.size = R at sl hz x0 x1 g2
      have hz1 : (0 : Int) < (R.size : Int) := by omega
      have hz2 : (1 : Int) < (R.size : Int) := by omega
      have hv : IntKind.i64.wrap Y = Y := by rw [IntKind.wrap_i64]; omega
      have hv' : wrap64 Y = Y := by unfold wrap64; omega
      clear hz
      go_enter Tryz.func40, Tryz.ntmps40
      go_wp2_with fail
      refine (cl _ (HM.out.below ((Below.refl _ _).alloc (Nat.le_refl _) _))).mono ?_
      rintro e w2 ⟨rfl, b2⟩
      have B2 : Hid (Below _ _ w2) := b2
      have r0 := box b2 0 _ rfl
      have r1 := box b2 1 _ rfl
      have r2 := box b2 2 _ rfl
      have f0 := fro b2 0
      have f1 := fro b2 1
      have f2 := fro b2 2
      clear b2
      go_wp2
      refine wp_loop_rounds 2 ?_
      rw [rounds_succ]
      go_wp2
      rw [rounds_succ]
      go_wp2
      exact bodyPost_ret (v := .tuple #[.agg #[.int .i64 X, .bool false, .int .i64 Y], .int .i64 2]) (by simp [results, Tryz.results40, go_sem, r0, r1, r2]) rfl ⟨rfl, ((((unbox B2.out).setCell (p := ⟨w.heap.size, 0, none⟩) (Nat.le_refl _) _).setCell (p := ⟨w.heap.size, 1, none⟩) (Nat.le_refl _) _).setCell (p := ⟨w.heap.size, 2, none⟩) (Nat.le_refl _) _)⟩
    · have ei : immV s a 3 = byteAt s (a + 1) + 256 * byteAt s (a + 2) := rfl
      rw [ei]
      clear ei
      have x1 := ix (s.extract a.toNat s.size) 1 (by omega) (by omega)
      rw [rest_ix s a 1 h0 (by omega) (by omega)] at x1
      have x2 := ix (s.extract a.toNat s.size) 2 (by omega) (by omega)
      rw [rest_ix s a 2 h0 (by omega) (by omega)] at x2
      generalize byteAt s a = X at x0 cl hc bd hw hw'
      generalize byteAt s (a + 1) = Y at x1 hy1
      generalize byteAt s (a + 2) = Z at x2 hy2
      generalize s.extract a.toNat s.size = R at sl hz x0 x1 x2 g2
      have hz1 : (0 : Int) < (R.size : Int) := by omega
      have hz2 : (1 : Int) < (R.size : Int) := by omega
      have hz3 : (2 : Int) < (R.size : Int) := by omega
      have hv : IntKind.i64.wrap Y = Y := by rw [IntKind.wrap_i64]; omega
      have hv' : wrap64 Y = Y := by unfold wrap64; omega
      have hu : IntKind.i64.wrap Z = Z := by rw [IntKind.wrap_i64]; omega
      have hu' : wrap64 Z = Z := by unfold wrap64; omega
      have ha : wrap64 (Z * 256) = Z * 256 := by unfold wrap64; omega
      have hb : wrap64 (Z * 256 + Y) = Z * 256 + Y := by unfold wrap64; omega
      have ha' : IntKind.i64.wrap (Z * 256) = Z * 256 := by rw [IntKind.wrap_i64]; omega
      have hb' : IntKind.i64.wrap (Z * 256 + Y) = Z * 256 + Y := by rw [IntKind.wrap_i64]; omega
      have HE : Hid (Y + 256 * Z = Z * 256 + Y) := by show Y + 256 * Z = Z * 256 + Y; omega
      clear hz
      go_enter Tryz.func40, Tryz.ntmps40
      go_wp2_with fail
      refine (cl _ (HM.out.below ((Below.refl _ _).alloc (Nat.le_refl _) _))).mono ?_
      rintro e w2 ⟨rfl, b2⟩
      have B2 : Hid (Below _ _ w2) := b2
      have r0 := box b2 0 _ rfl
      have r1 := box b2 1 _ rfl
      have r2 := box b2 2 _ rfl
      have f0 := fro b2 0
      have f1 := fro b2 1
      have f2 := fro b2 2
      clear b2
      go_wp2
      refine wp_loop_rounds 3 ?_
      rw [rounds_succ]
      go_wp2
      rw [rounds_succ]
      go_wp2
      rw [rounds_succ]
      go_wp2
      exact bodyPost_ret (v := .tuple #[.agg #[.int .i64 X, .bool false, .int .i64 (Z * 256 + Y)], .int .i64 3]) (by simp [results, Tryz.results40, go_sem, r0, r1, r2]) rfl ⟨by rw [HE.out]; rfl, ((((unbox B2.out).setCell (p := ⟨w.heap.size, 0, none⟩) (Nat.le_refl _) _).setCell (p := ⟨w.heap.size, 1, none⟩) (Nat.le_refl _) _).setCell (p := ⟨w.heap.size, 2, none⟩) (Nat.le_refl _) _)⟩
theorem implRead_any (s : ByteArray) (a : Int) (w : World) (hm : MaxL w) (hs : s.size ≤ 1048576) :
    Calls Tryz.prog 40 #[.string s, .int .i64 a] w fun e w' => e = Tup (readI s a) (readN s a) ∧ Below w.heap.size w w' := by
  by_cases h : a < 0 ∨ s.size ≤ a
  · have e1 : readI s a = zeroI := by unfold readI; rw [if_pos h]
    have e2 : readN s a = 0 := by unfold readN; rw [if_pos h]
    rw [e1, e2]
    exact impl_out s a w h
  · by_cases hc : byteAt s a = 203
    · exact impl_cb s a w hs (by omega) (by omega) hc
    · exact impl_n s a _ w hm hs (by omega) (by omega) hc rfl (lenC_cases _)
theorem readI_agg (s : ByteArray) (a : Int) : ∃ (c : Int) (b : Bool) (m : Int), readI s a = .agg #[.int .i64 c, .bool b, .int .i64 m] := by
  unfold readI zeroI
  split
  · exact ⟨_, _, _, rfl⟩
  split
  · split
    · exact ⟨_, _, _, rfl⟩
    · exact ⟨_, _, _, rfl⟩
  split
  · exact ⟨_, _, _, rfl⟩
  · exact ⟨_, _, _, rfl⟩
end Go.Proofs.YtnfonccimaikgaaGreatDoor.ReadJ
