/-
  Contracts of ours for both ReadIns: what stands at a place of a text.
-/
import Derived.Test.YtnfonccimaikgaaGreatDoorInsX
import Derived.Deep.QuietTactic
import Derived.Deep.DeepFit
import Derived.BigQuiet
namespace Go.Proofs.YtnfonccimaikgaaGreatDoor.ReadI
open Go.ChangeShapes Go.WideShapes Go.ChangeAt Go.RowKit
open HolI LenX InsX
set_option linter.unusedVariables false
set_option maxRecDepth 20000

def byteAt (s : ByteArray) (i : Int) : Int := if h : i.toNat < s.size then ((s[i.toNat]'h).toNat : Int) else 0
theorem byteAt_eq {s : ByteArray} {i : Int} (h : i.toNat < s.size) : ((s[i.toNat]'h).toNat : Int) = byteAt s i := by unfold byteAt; rw [dif_pos h]
theorem byteAt_bd (s : ByteArray) (i : Int) : 0 ≤ byteAt s i ∧ byteAt s i ≤ 255 := by
  unfold byteAt
  split
  · rename_i h
    have := (s[i.toNat]'h).toNat_lt
    omega
  · omega
/-- A byte of a text, as the walk reads it. -/
theorem ix (s : ByteArray) (i : Int) (h0 : 0 ≤ i) (h1 : i < s.size) (w : World) : (Instr.index 9 (.string s) (.int .i64 i)).run Tryz.prog w = .ok (.int .u8 (byteAt s i)) w := by
  rw [run_index_string w 9 s .i64 i Tryz.underlying9, dif_pos ⟨h0, h1⟩, byteAt_eq (by omega)]
theorem l3At_any (s : ByteArray) (i : Int) (h0 : 0 ≤ i) (h1 : i < s.size) (w : World) :
    Calls Tryz.prog 32 #[.string s, .int .i64 i] w fun e w' => e = .returned (.int .i64 (byteAt s i)) ∧ w' = w := by
  have x := ix s i h0 h1
  have b := byteAt_bd s i
  generalize byteAt s i = B at x b
  have hb0 := b.1
  have hb1 := b.2
  have hw : IntKind.i64.wrap B = B := by rw [IntKind.wrap_i64]; omega
  go_enter Tryz.func32, Tryz.ntmps32
  go_wp2
  go_ret
  exact ⟨rfl, rfl⟩
def lenC (c : Int) : Int := lenV (none? c false) false (hole c false)
def zeroI : Value := .agg #[.int .i64 0, .bool false, .int .i64 0]
def immV (s : ByteArray) (a n : Int) : Int := if n = 1 then 0 else if n = 2 then byteAt s (a + 1) else byteAt s (a + 1) + 256 * byteAt s (a + 2)
def readI (s : ByteArray) (a : Int) : Value :=
  if a < 0 ∨ s.size ≤ a then zeroI
  else if byteAt s a = 203 then (if s.size - a < 2 then zeroI else .agg #[.int .i64 (byteAt s (a + 1)), .bool true, .int .i64 0])
  else if lenC (byteAt s a) = 0 ∨ s.size - a < lenC (byteAt s a) then zeroI else .agg #[.int .i64 (byteAt s a), .bool false, .int .i64 (immV s a (lenC (byteAt s a)))]
def readN (s : ByteArray) (a : Int) : Int :=
  if a < 0 ∨ s.size ≤ a then 0
  else if byteAt s a = 203 then (if s.size - a < 2 then 0 else 2)
  else if lenC (byteAt s a) = 0 ∨ s.size - a < lenC (byteAt s a) then 0 else lenC (byteAt s a)
theorem lenC_cases (c : Int) : lenC c = 0 ∨ lenC c = 1 ∨ lenC c = 2 ∨ lenC c = 3 := by
  unfold lenC lenV
  split
  · exact .inl rfl
  rw [if_neg (by decide)]
  split
  · exact .inr (.inl rfl)
  split
  · exact .inr (.inr (.inr rfl))
  · exact .inr (.inr (.inl rfl))
def Tup (v : Value) (n : Int) : Ending := .returned (.tuple #[v, .int .i64 n])
theorem fro {w w' : World} {vs : Array Value} {T : TypeId} (h : Below (w.alloc (.cells vs T)).heap.size (w.alloc (.cells vs T)) w') (i : Nat) : w'.frozen? ⟨w.heap.size, i, none⟩ = false := by
  rw [h.frozen (p := ⟨w.heap.size, i, none⟩) (by simp)]
  exact World.frozen?_alloc_new w vs T i
theorem box2 {w w' : World} {o : Obj} {vs : Array Value} {T : TypeId} (h : Below ((w.alloc o).alloc (.cells vs T)).heap.size ((w.alloc o).alloc (.cells vs T)) w') (i : Nat) (v : Value) (hv : vs[i]? = some v) : w'.cell? ⟨w.heap.size + 1, i, none⟩ = some v := by
  have := box (w := w.alloc o) h i v hv
  rwa [World.size_alloc] at this
theorem fro2 {w w' : World} {o : Obj} {vs : Array Value} {T : TypeId} (h : Below ((w.alloc o).alloc (.cells vs T)).heap.size ((w.alloc o).alloc (.cells vs T)) w') (i : Nat) : w'.frozen? ⟨w.heap.size + 1, i, none⟩ = false := by
  have := fro (w := w.alloc o) h i
  rwa [World.size_alloc] at this
theorem first2 {w w' : World} {o : Obj} {vs : Array Value} {T : TypeId} (h : Below ((w.alloc (.cells vs T)).alloc o).heap.size ((w.alloc (.cells vs T)).alloc o) w') : Below (w.alloc (.cells vs T)).heap.size (w.alloc (.cells vs T)) w' := unbox h
set_option maxHeartbeats 1000000 in
theorem spec_out (s : ByteArray) (a : Int) (w : World) (hs : s.size ≤ 1048576) (hb : a ≤ 9223372036854775807) (h : a < 0 ∨ s.size ≤ a) :
    Calls Tryz.prog 22 #[.string s, .int .i64 a] w fun e w' => e = Tup zeroI 0 ∧ Below w.heap.size w w' := by
  by_cases h0 : a < 0
  · go_enter Tryz.func22, Tryz.ntmps22
    go_wp2
    exact bodyPost_ret (v := .tuple #[.agg #[.int .i64 0, .bool false, .int .i64 0], .int .i64 0]) (by simp [results, Tryz.results22, go_sem]) rfl ⟨rfl, (Below.refl _ _).alloc (Nat.le_refl _) _⟩
  · have hw : (s.size : Int) - a < 1 := by omega
    · have hk : wrap64 ((s.size : Int) - a) = (s.size : Int) - a := by unfold wrap64; omega
      go_enter Tryz.func22, Tryz.ntmps22
      go_wp2
      exact bodyPost_ret (v := .tuple #[.agg #[.int .i64 0, .bool false, .int .i64 0], .int .i64 0]) (by simp [results, Tryz.results22, go_sem]) rfl ⟨rfl, (Below.refl _ _).alloc (Nat.le_refl _) _⟩
set_option maxHeartbeats 1000000 in
theorem spec_cb (s : ByteArray) (a : Int) (w : World) (hs : s.size ≤ 1048576) (h0 : 0 ≤ a) (h1 : a < s.size) (hc : byteAt s a = 203) :
    Calls Tryz.prog 22 #[.string s, .int .i64 a] w fun e w' => e = Tup (readI s a) (readN s a) ∧ Below w.heap.size w w' := by
  have e1 : readI s a = (if s.size - a < 2 then zeroI else .agg #[.int .i64 (byteAt s (a + 1)), .bool true, .int .i64 0]) := by unfold readI; rw [if_neg (by omega), if_pos hc]
  have e2 : readN s a = (if s.size - a < 2 then 0 else 2) := by unfold readN; rw [if_neg (by omega), if_pos hc]
  rw [e1, e2]
  clear e1 e2
  have hk : wrap64 ((s.size : Int) - a) = (s.size : Int) - a := by unfold wrap64; omega
  have hk1 : ¬ (s.size : Int) - a < 1 := by omega
  have c := fun w => l3At_any s a h0 h1 w
  rw [hc] at c
  clear hc
  by_cases h2 : (s.size : Int) - a < 2
  · rw [if_pos h2, if_pos h2]
    go_enter Tryz.func22, Tryz.ntmps22
    go_wp2_with (go_at_call 32; refine (c _).mono ?_; rintro e w' ⟨rfl, hw⟩; subst hw)
    exact bodyPost_ret (v := .tuple #[.agg #[.int .i64 0, .bool false, .int .i64 0], .int .i64 0]) (by simp [results, Tryz.results22, go_sem]) rfl ⟨rfl, ((Below.refl _ _).alloc (Nat.le_refl _) _).alloc (by simp) _⟩
  · rw [if_neg h2, if_neg h2]
    have c2 := fun w => l3At_any s (a + 1) (by omega) (by omega) w
    have hka : wrap64 (a + 1) = a + 1 := by unfold wrap64; omega
    generalize byteAt s (a + 1) = Y at c2
    go_enter Tryz.func22, Tryz.ntmps22
    go_wp2_with first | (go_at_call 32; go_fit (c _); rintro e w' ⟨rfl, hw⟩; subst hw) | (go_at_call 32; go_fit (c2 _); rintro e w' ⟨rfl, hw⟩; subst hw)
    exact bodyPost_ret (v := .tuple #[.agg #[.int .i64 Y, .bool true, .int .i64 0], .int .i64 2]) (by simp [results, Tryz.results22, go_sem]) rfl ⟨rfl, ((Below.refl _ _).alloc (Nat.le_refl _) _).alloc (by simp) _⟩
set_option maxHeartbeats 1000000 in
theorem spec_n (s : ByteArray) (a n : Int) (w : World) (hs : s.size ≤ 1048576) (h0 : 0 ≤ a) (h1 : a < s.size) (hc : ¬ byteAt s a = 203) (hn : lenC (byteAt s a) = n) (hcs : n = 0 ∨ n = 1 ∨ n = 2 ∨ n = 3) :
    Calls Tryz.prog 22 #[.string s, .int .i64 a] w fun e w' => e = Tup (readI s a) (readN s a) ∧ Below w.heap.size w w' := by
  have e1 : readI s a = (if n = 0 ∨ s.size - a < n then zeroI else .agg #[.int .i64 (byteAt s a), .bool false, .int .i64 (immV s a n)]) := by unfold readI; rw [if_neg (by omega), if_neg hc, hn]
  have e2 : readN s a = (if n = 0 ∨ s.size - a < n then 0 else n) := by unfold readN; rw [if_neg (by omega), if_neg hc, hn]
  rw [e1, e2]
  clear e1 e2
  have hk : wrap64 ((s.size : Int) - a) = (s.size : Int) - a := by unfold wrap64; omega
  have hk1 : ¬ (s.size : Int) - a < 1 := by omega
  have c := fun w => l3At_any s a h0 h1 w
  have bd := byteAt_bd s a
  have cl := fun w => length_any (byteAt s a) false w bd.1 bd.2
  have hd : lenV (decide ((Tmpl.tmplS (byteAt s a) false).size = 0)) false (hole (byteAt s a) false) = n := by
    rw [← hn]; unfold lenC none?
    rw [show Signed.inB (byteAt s a) 0 255 = true from decide_eq_true bd, beqN]
    simp
  rw [hd] at cl
  clear hd hn bd
  have hy1 := byteAt_bd s (a + 1)
  have hy2 := byteAt_bd s (a + 2)
  by_cases hq : n = 0 ∨ (s.size : Int) - a < n
  · rw [if_pos hq, if_pos hq]
    generalize byteAt s a = X at c cl hc
    go_enter Tryz.func22, Tryz.ntmps22
    go_wp2_with first | (go_at_call 32; go_fit (c _); rintro e w' ⟨rfl, hw⟩; subst hw) | fail
    refine (cl _).mono ?_
    rintro e w2 ⟨rfl, b2⟩
    have B2 : Hid (Below _ _ w2) := b2
    have r0 := box (first2 b2) 0 _ rfl
    have r1 := box (first2 b2) 1 _ rfl
    have r2 := box (first2 b2) 2 _ rfl
    have f0 := fro (first2 b2) 0
    have f1 := fro (first2 b2) 1
    have f2 := fro (first2 b2) 2
    clear b2
    go_wp2
    all_goals
      exact bodyPost_ret (v := .tuple #[.agg #[.int .i64 0, .bool false, .int .i64 0], .int .i64 0]) (by simp [results, Tryz.results22, go_sem, r0, r1, r2]) rfl ⟨rfl, ((((unbox (first2 B2.out)).setCell (p := ⟨w.heap.size, 0, none⟩) (Nat.le_refl _) _).setCell (p := ⟨w.heap.size, 1, none⟩) (Nat.le_refl _) _).setCell (p := ⟨w.heap.size, 2, none⟩) (Nat.le_refl _) _)⟩
  · rw [if_neg hq, if_neg hq]
    have g1 : ¬ n = 0 := fun h => hq (.inl h)
    have g2 : ¬ (s.size : Int) - a < n := fun h => hq (.inr h)
    have hn3 : n = 1 ∨ n = 2 ∨ n = 3 := by rcases hcs with h | h | h | h <;> omega
    clear hcs hq
    have hka : wrap64 (a + 1) = a + 1 := by unfold wrap64; omega
    have hkb : wrap64 (a + 2) = a + 2 := by unfold wrap64; omega
    rcases hn3 with rfl | rfl | rfl
    · have ei : immV s a 1 = 0 := rfl
      rw [ei]
      generalize byteAt s a = X at c cl hc
      go_enter Tryz.func22, Tryz.ntmps22
      go_wp2_with first | (go_at_call 32; go_fit (c _); rintro e w' ⟨rfl, hw⟩; subst hw) | fail
      refine (cl _).mono ?_
      rintro e w2 ⟨rfl, b2⟩
      have B2 : Hid (Below _ _ w2) := b2
      have r0 := box (first2 b2) 0 _ rfl
      have r1 := box (first2 b2) 1 _ rfl
      have r2 := box (first2 b2) 2 _ rfl
      have f0 := fro (first2 b2) 0
      have f1 := fro (first2 b2) 1
      have f2 := fro (first2 b2) 2
      have i0 := box2 b2 0 _ rfl
      have i1 := box2 b2 1 _ rfl
      have i2 := box2 b2 2 _ rfl
      have j2 := fro2 b2 2
      clear b2
      go_wp2
      exact bodyPost_ret (v := .tuple #[.agg #[.int .i64 X, .bool false, .int .i64 0], .int .i64 1]) (by simp [results, Tryz.results22, go_sem, r0, r1, r2]) rfl ⟨rfl, ((((unbox (first2 B2.out)).setCell (p := ⟨w.heap.size, 0, none⟩) (Nat.le_refl _) _).setCell (p := ⟨w.heap.size, 1, none⟩) (Nat.le_refl _) _).setCell (p := ⟨w.heap.size, 2, none⟩) (Nat.le_refl _) _)⟩
    · have ei : immV s a 2 = byteAt s (a + 1) := rfl
      rw [ei]
      have c2 := fun w => l3At_any s (a + 1) (by omega) (by omega) w
      generalize byteAt s a = X at c cl hc
      generalize byteAt s (a + 1) = Y at c2 hy1
      go_enter Tryz.func22, Tryz.ntmps22
      go_wp2_with first | (go_at_call 32; go_fit (c _); rintro e w' ⟨rfl, hw⟩; subst hw) | fail
      refine (cl _).mono ?_
      rintro e w2 ⟨rfl, b2⟩
      have B2 : Hid (Below _ _ w2) := b2
      have r0 := box (first2 b2) 0 _ rfl
      have r1 := box (first2 b2) 1 _ rfl
      have r2 := box (first2 b2) 2 _ rfl
      have f0 := fro (first2 b2) 0
      have f1 := fro (first2 b2) 1
      have f2 := fro (first2 b2) 2
      have i0 := box2 b2 0 _ rfl
      have i1 := box2 b2 1 _ rfl
      have i2 := box2 b2 2 _ rfl
      have j2 := fro2 b2 2
      clear b2
      go_wp2_with (go_at_call 32; go_fit (c2 _); rintro e w' ⟨rfl, hw⟩; subst hw)
      exact bodyPost_ret (v := .tuple #[.agg #[.int .i64 X, .bool false, .int .i64 Y], .int .i64 2]) (by simp [results, Tryz.results22, go_sem, r0, r1, r2]) rfl ⟨rfl, (((((unbox (first2 B2.out)).setCell (p := ⟨w.heap.size + 1, 2, none⟩) (Nat.le_succ _) _).setCell (p := ⟨w.heap.size, 0, none⟩) (Nat.le_refl _) _).setCell (p := ⟨w.heap.size, 1, none⟩) (Nat.le_refl _) _).setCell (p := ⟨w.heap.size, 2, none⟩) (Nat.le_refl _) _)⟩
    · have ei : immV s a 3 = byteAt s (a + 1) + 256 * byteAt s (a + 2) := rfl
      rw [ei]
      have c2 := fun w => l3At_any s (a + 1) (by omega) (by omega) w
      have c3 := fun w => l3At_any s (a + 2) (by omega) (by omega) w
      clear ei
      generalize byteAt s a = X at c cl hc
      generalize byteAt s (a + 1) = Y at c2 hy1
      generalize byteAt s (a + 2) = Z at c3 hy2
      have kz0 : IntKind.i64.wrap (a + 2) = a + 2 := by rw [IntKind.wrap_i64]; omega
      have kz1 : IntKind.i64.wrap (256 * Z) = 256 * Z := by rw [IntKind.wrap_i64]; omega
      have kz2 : IntKind.i64.wrap (Y + 256 * Z) = Y + 256 * Z := by rw [IntKind.wrap_i64]; omega
      have hz1 : wrap64 (256 * Z) = 256 * Z := by unfold wrap64; omega
      have hz2 : wrap64 (Y + 256 * Z) = Y + 256 * Z := by unfold wrap64; omega
      go_enter Tryz.func22, Tryz.ntmps22
      go_wp2_with first | (go_at_call 32; go_fit (c _); rintro e w' ⟨rfl, hw⟩; subst hw) | fail
      refine (cl _).mono ?_
      rintro e w2 ⟨rfl, b2⟩
      have B2 : Hid (Below _ _ w2) := b2
      have r0 := box (first2 b2) 0 _ rfl
      have r1 := box (first2 b2) 1 _ rfl
      have r2 := box (first2 b2) 2 _ rfl
      have f0 := fro (first2 b2) 0
      have f1 := fro (first2 b2) 1
      have f2 := fro (first2 b2) 2
      have i0 := box2 b2 0 _ rfl
      have i1 := box2 b2 1 _ rfl
      have i2 := box2 b2 2 _ rfl
      have j2 := fro2 b2 2
      clear b2
      go_wp2_with first | (go_at_call 32; go_fit (c2 _); rintro e w' ⟨rfl, hw⟩; subst hw) | (go_at_call 32; go_fit (c3 _); rintro e w' ⟨rfl, hw⟩; subst hw)
      go_region_with (go_at_call 32; go_fit (c3 _); rintro e w' ⟨rfl, hw⟩; subst hw)
      all_goals go_wp2
      all_goals exact bodyPost_ret (v := .tuple #[.agg #[.int .i64 X, .bool false, .int .i64 (Y + 256 * Z)], .int .i64 3]) (by simp [results, Tryz.results22, go_sem, r0, r1, r2]) rfl ⟨rfl, Below.drew ((((((unbox (first2 B2.out)).setCell (p := ⟨w.heap.size + 1, 2, none⟩) (Nat.le_succ _) _).setCell (p := ⟨w.heap.size + 1, 2, none⟩) (Nat.le_succ _) _).setCell (p := ⟨w.heap.size, 0, none⟩) (Nat.le_refl _) _).setCell (p := ⟨w.heap.size, 1, none⟩) (Nat.le_refl _) _).setCell (p := ⟨w.heap.size, 2, none⟩) (Nat.le_refl _) _)⟩
theorem specRead_any (s : ByteArray) (a : Int) (w : World) (hs : s.size ≤ 1048576) (hb : a ≤ 9223372036854775807) :
    Calls Tryz.prog 22 #[.string s, .int .i64 a] w fun e w' => e = Tup (readI s a) (readN s a) ∧ Below w.heap.size w w' := by
  by_cases h : a < 0 ∨ s.size ≤ a
  · have e1 : readI s a = zeroI := by unfold readI; rw [if_pos h]
    have e2 : readN s a = 0 := by unfold readN; rw [if_pos h]
    rw [e1, e2]
    exact spec_out s a w hs hb h
  · by_cases hc : byteAt s a = 203
    · exact spec_cb s a w hs (by omega) (by omega) hc
    · exact spec_n s a _ w hs (by omega) (by omega) hc rfl (lenC_cases _)
end Go.Proofs.YtnfonccimaikgaaGreatDoor.ReadI
