/-
  What the draws of roms can answer (spec's plain and rom): a text of at most 1024 bytes; and nothing old is written.
-/
import Derived.Test.YtpnaohonadoofaaDoorDrawI
import Derived.Test.YtpnaohonadoofaaDoorFixa
import Derived.Deep.Cut
namespace Go.Proofs.YtpnaohonadoofaaDoor.DrawP
open Go.ChangeShapes Go.WideShapes Go.ChangeAt Go.RowKit
open Rdr (Rd Post)
open HolI DrawI Fixa
set_option linter.unusedVariables false
set_option maxRecDepth 20000

/-- An instruction is answered. -/
def Ins3 (e : Ending) : Prop := ∃ (c : Int) (b : Bool) (m : Int), e = .returned (.agg #[.int .i64 c, .bool b, .int .i64 m])
set_option maxHeartbeats 2000000 in
theorem plain_any (rb : Nat) (w : World) (h : Rd w rb) :
    Calls Tryd.prog 38 #[.pointer (some ⟨rb, 0, none⟩)] w fun e w' => Ins3 e ∧ Post w rb w' := by
  have H : Hid (Rd w rb) := h
  clear h
  go_enter Tryd.func38, Tryd.ntmps38
  go_wp2_with fail
  refine (ins_any _ _ ((Post.refl H.out).alloc _).1).mono ?_
  rintro e w1 ⟨⟨c, b, m, c0, c1, hm, rfl⟩, p1⟩
  have hlt := H.out.lt
  have BR : Hid (Box w1 w.heap.size 0 false 0) := (Box.new w 0 false 0 _).post p1 (Nat.ne_of_gt hlt)
  have PW : Hid (Post w rb w1) := ((Post.refl H.out).alloc _).trans p1
  have HN : Hid (rb < w.heap.size ∧ rb ≠ w1.heap.size ∧ w.heap.size < w1.heap.size) := ⟨hlt, by have := BR.out.lt; omega, BR.out.lt⟩
  have m1 : m ≤ 9223372036854775807 := by unfold I64 at hm; simp [Lit.wf] at hm; omega
  clear hlt p1 hm
  go_upto_region 2 with fail
  have BI : Hid (Box (w1.alloc (.cells #[.int .i64 c, .bool b, .int .i64 m] 54)) w1.heap.size c b m) := Box.new _ _ _ _ _
  have BR : Hid (Box (w1.alloc (.cells #[.int .i64 c, .bool b, .int .i64 m] 54)) w.heap.size 0 false 0) := BR.out.alloc _
  have PW : Hid (Post w rb (w1.alloc (.cells #[.int .i64 c, .bool b, .int .i64 m] 54))) := PW.out.alloc _
  generalize w1.alloc (.cells #[.int .i64 c, .bool b, .int .i64 m] 54) = w2 at BI BR PW ⊢
  generalize w1.heap.size = ib at BI HN ⊢
  obtain ⟨i0, i1, i2, iff⟩ := BI.out
  obtain ⟨r0, r1, r2, rf⟩ := BR.out
  have if0 := iff 0
  have if1 := iff 1
  have if2 := iff 2
  have rf0 := rf 0
  have rf1 := rf 1
  have rf2 := rf 2
  clear iff rf
  cases b with
  | true =>
    go_wp2
    exact bodyPost_ret (v := .agg #[.int .i64 c, .bool true, .int .i64 m]) (by simp [results, Tryd.results38, go_sem, r0, r1, r2]) rfl ⟨⟨_, _, _, rfl⟩, postSet (postSet (postSet PW.out HN.out.1 (p := ⟨w.heap.size, 0, none⟩) (Nat.le_refl _) _) HN.out.1 (p := ⟨w.heap.size, 1, none⟩) (Nat.le_refl _) _) HN.out.1 (p := ⟨w.heap.size, 2, none⟩) (Nat.le_refl _) _⟩
  | false =>
    go_wp2_with fail
    clear i0 i1 i2 if0 if1 if2 r0 r1 r2 rf0 rf1 rf2
    refine (Rdr.once_any _ _ _ PW.out.1 (by decide) (by decide)).mono ?_
    rintro e w3 ⟨⟨q, rfl⟩, p3⟩
    have BI : Hid (Box w3 ib c false m) := BI.out.post p3 (Ne.symm HN.out.2.1)
    have BR : Hid (Box w3 w.heap.size 0 false 0) := BR.out.post p3 (Nat.ne_of_gt HN.out.1)
    have PW : Hid (Post w rb w3) := PW.out.trans p3
    clear p3
    obtain ⟨i0, i1, i2, iff⟩ := BI.out
    obtain ⟨r0, r1, r2, rf⟩ := BR.out
    have if0 := iff 0
    have if1 := iff 1
    have if2 := iff 2
    have rf0 := rf 0
    have rf1 := rf 1
    have rf2 := rf 2
    clear iff rf
    cases q with
    | true =>
      go_wp2
      exact bodyPost_ret (v := .agg #[.int .i64 c, .bool false, .int .i64 m]) (by simp [results, Tryd.results38, go_sem, r0, r1, r2]) rfl ⟨⟨_, _, _, rfl⟩, postSet (postSet (postSet PW.out HN.out.1 (p := ⟨w.heap.size, 0, none⟩) (Nat.le_refl _) _) HN.out.1 (p := ⟨w.heap.size, 1, none⟩) (Nat.le_refl _) _) HN.out.1 (p := ⟨w.heap.size, 2, none⟩) (Nat.le_refl _) _⟩
    | false =>
      go_wp2_with fail
      clear i0 i1 i2 if0 if1 if2 r0 r1 r2 rf0 rf1 rf2
      refine (Rdr.below_any _ _ _ PW.out.1 (by decide) (by decide)).mono ?_
      rintro e w4 ⟨⟨y, y0, y1, rfl⟩, p4⟩
      have BI : Hid (Box w4 ib c false m) := BI.out.post p4 (Ne.symm HN.out.2.1)
      have BR : Hid (Box w4 w.heap.size 0 false 0) := BR.out.post p4 (Nat.ne_of_gt HN.out.1)
      have PW : Hid (Post w rb w4) := PW.out.trans p4
      clear p4
      obtain ⟨i0, i1, i2, iff⟩ := BI.out
      obtain ⟨r0, r1, r2, rf⟩ := BR.out
      have if0 := iff 0
      have if1 := iff 1
      have if2 := iff 2
      have rf0 := rf 0
      have rf1 := rf 1
      have rf2 := rf 2
      clear iff rf
      rcases (show y = 0 ∨ y = 1 ∨ y = 2 ∨ y = 3 ∨ y = 4 ∨ 5 ≤ y from by omega) with rfl | rfl | rfl | rfl | rfl | hy
      · go_wp2_with fail
        clear i0 i1 i2 if0 if1 if2 r0 r1 r2 rf0 rf1 rf2
        refine (Rdr.byte_any _ _ PW.out.1).mono ?_
        rintro e w5 ⟨⟨x, x0, x1, rfl⟩, p5⟩
        have BI : Hid (Box w5 ib c false m) := BI.out.post p5 (Ne.symm HN.out.2.1)
        have BR : Hid (Box w5 w.heap.size 0 false 0) := BR.out.post p5 (Nat.ne_of_gt HN.out.1)
        have PW : Hid (Post w rb w5) := PW.out.trans p5
        clear p5
        obtain ⟨i0, i1, i2, iff⟩ := BI.out
        obtain ⟨r0, r1, r2, rf⟩ := BR.out
        have if0 := iff 0
        have if1 := iff 1
        have if2 := iff 2
        have rf0 := rf 0
        have rf1 := rf 1
        have rf2 := rf 2
        clear iff rf
        go_wp2
        exact bodyPost_ret (v := .agg #[.int .i64 62, .bool false, .int .i64 x]) (by simp [results, Tryd.results38, go_sem, r0, r1, r2]) rfl ⟨⟨_, _, _, rfl⟩, postSet (postSet (postSet PW.out HN.out.1 (p := ⟨w.heap.size, 0, none⟩) (Nat.le_refl _) _) HN.out.1 (p := ⟨w.heap.size, 1, none⟩) (Nat.le_refl _) _) HN.out.1 (p := ⟨w.heap.size, 2, none⟩) (Nat.le_refl _) _⟩
      · go_wp2_with fail
        clear i0 i1 i2 if0 if1 if2 r0 r1 r2 rf0 rf1 rf2
        refine (Rdr.below_any _ _ _ (PW.out.alloc _).1 (by decide) (by decide)).mono ?_
        rintro e w5 ⟨⟨q, q0, q1, rfl⟩, p5⟩
        obtain ⟨z, hc⟩ : ∃ z : Int, w5.cell? ⟨w4.heap.size, q.toNat, none⟩ = some (.int .i64 z) := by
          have hl := PW.out.1.lt
          have e : ∀ i : Nat, w5.cell? ⟨w4.heap.size, i, none⟩ = #[Value.int .i64 49152, .int .i64 65408, .int .i64 256, .int .i64 128, .int .i64 40960][i]? := fun i =>
            (World.cell?_of_block (a := ⟨w4.heap.size, i, none⟩) (p5.2.block _ (by simp) (fun e => by have : w4.heap.size = rb := Option.some.inj e; omega))).trans (World.cell?_alloc_new _ _ _ _)
          rcases (show q = 0 ∨ q = 1 ∨ q = 2 ∨ q = 3 ∨ q = 4 from by omega) with rfl | rfl | rfl | rfl | rfl
          · exact ⟨_, e 0⟩
          · exact ⟨_, e 1⟩
          · exact ⟨_, e 2⟩
          · exact ⟨_, e 3⟩
          · exact ⟨_, e 4⟩
        have BI : Hid (Box w5 ib c false m) := (BI.out.alloc _).post p5 (Ne.symm HN.out.2.1)
        have BR : Hid (Box w5 w.heap.size 0 false 0) := (BR.out.alloc _).post p5 (Nat.ne_of_gt HN.out.1)
        have PW : Hid (Post w rb w5) := (PW.out.alloc _).trans p5
        clear p5
        obtain ⟨i0, i1, i2, iff⟩ := BI.out
        obtain ⟨r0, r1, r2, rf⟩ := BR.out
        have if0 := iff 0
        have if1 := iff 1
        have if2 := iff 2
        have rf0 := rf 0
        have rf1 := rf 1
        have rf2 := rf 2
        clear iff rf
        go_wp2
        exact bodyPost_ret (v := .agg #[.int .i64 33, .bool false, .int .i64 z]) (by simp [results, Tryd.results38, go_sem, r0, r1, r2]) rfl ⟨⟨_, _, _, rfl⟩, postSet (postSet (postSet PW.out HN.out.1 (p := ⟨w.heap.size, 0, none⟩) (Nat.le_refl _) _) HN.out.1 (p := ⟨w.heap.size, 1, none⟩) (Nat.le_refl _) _) HN.out.1 (p := ⟨w.heap.size, 2, none⟩) (Nat.le_refl _) _⟩
      · go_wp2
        exact bodyPost_ret (v := .agg #[.int .i64 119, .bool false, .int .i64 0]) (by simp [results, Tryd.results38, go_sem, r0, r1, r2]) rfl ⟨⟨_, _, _, rfl⟩, postSet (postSet (postSet PW.out HN.out.1 (p := ⟨w.heap.size, 0, none⟩) (Nat.le_refl _) _) HN.out.1 (p := ⟨w.heap.size, 1, none⟩) (Nat.le_refl _) _) HN.out.1 (p := ⟨w.heap.size, 2, none⟩) (Nat.le_refl _) _⟩
      · go_wp2
        exact bodyPost_ret (v := .agg #[.int .i64 224, .bool false, .int .i64 1]) (by simp [results, Tryd.results38, go_sem, r0, r1, r2]) rfl ⟨⟨_, _, _, rfl⟩, postSet (postSet (postSet PW.out HN.out.1 (p := ⟨w.heap.size, 0, none⟩) (Nat.le_refl _) _) HN.out.1 (p := ⟨w.heap.size, 1, none⟩) (Nat.le_refl _) _) HN.out.1 (p := ⟨w.heap.size, 2, none⟩) (Nat.le_refl _) _⟩
      · go_wp2_with fail
        clear i0 i1 i2 if0 if1 if2 r0 r1 r2 rf0 rf1 rf2
        refine (Rdr.below_any _ _ _ (PW.out.alloc _).1 (by decide) (by decide)).mono ?_
        rintro e w5 ⟨⟨q, q0, q1, rfl⟩, p5⟩
        obtain ⟨z, hc⟩ : ∃ z : Int, w5.cell? ⟨w4.heap.size, q.toNat, none⟩ = some (.int .i64 z) := by
          have hl := PW.out.1.lt
          have e : ∀ i : Nat, w5.cell? ⟨w4.heap.size, i, none⟩ = #[Value.int .i64 49152, .int .i64 65281, .int .i64 130, .int .i64 10, .int .i64 300, .int .i64 40961][i]? := fun i =>
            (World.cell?_of_block (a := ⟨w4.heap.size, i, none⟩) (p5.2.block _ (by simp) (fun e => by have : w4.heap.size = rb := Option.some.inj e; omega))).trans (World.cell?_alloc_new _ _ _ _)
          rcases (show q = 0 ∨ q = 1 ∨ q = 2 ∨ q = 3 ∨ q = 4 ∨ q = 5 from by omega) with rfl | rfl | rfl | rfl | rfl | rfl
          · exact ⟨_, e 0⟩
          · exact ⟨_, e 1⟩
          · exact ⟨_, e 2⟩
          · exact ⟨_, e 3⟩
          · exact ⟨_, e 4⟩
          · exact ⟨_, e 5⟩
        have BI : Hid (Box w5 ib c false m) := (BI.out.alloc _).post p5 (Ne.symm HN.out.2.1)
        have BR : Hid (Box w5 w.heap.size 0 false 0) := (BR.out.alloc _).post p5 (Nat.ne_of_gt HN.out.1)
        have PW : Hid (Post w rb w5) := (PW.out.alloc _).trans p5
        clear p5
        obtain ⟨i0, i1, i2, iff⟩ := BI.out
        obtain ⟨r0, r1, r2, rf⟩ := BR.out
        have if0 := iff 0
        have if1 := iff 1
        have if2 := iff 2
        have rf0 := rf 0
        have rf1 := rf 1
        have rf2 := rf 2
        clear iff rf
        go_wp2
        exact bodyPost_ret (v := .agg #[.int .i64 234, .bool false, .int .i64 z]) (by simp [results, Tryd.results38, go_sem, r0, r1, r2]) rfl ⟨⟨_, _, _, rfl⟩, postSet (postSet (postSet PW.out HN.out.1 (p := ⟨w.heap.size, 0, none⟩) (Nat.le_refl _) _) HN.out.1 (p := ⟨w.heap.size, 1, none⟩) (Nat.le_refl _) _) HN.out.1 (p := ⟨w.heap.size, 2, none⟩) (Nat.le_refl _) _⟩
      · have hne : ¬ ib = w.heap.size := Nat.ne_of_gt HN.out.2.2
        have hne2 : ¬ w.heap.size = ib := Nat.ne_of_lt HN.out.2.2
        by_cases h1 : 192 ≤ c
        · by_cases h2 : 511 < m
          · have h2d : decide (511 < m) = true := decide_eq_true h2
            go_upto_region 17 with fail
            clear i0 i1 i2 if0 if1 if2 r0 r1 r2 rf0 rf1 rf2
            obtain ⟨z, hz⟩ : ∃ z : Int, z = m % 40 := ⟨_, rfl⟩
            have BR : Hid (Box (w4.setCell ⟨ib, 2, none⟩ (.int .i64 (m % 40))) w.heap.size 0 false 0) := BR.out.other (Nat.ne_of_lt HN.out.2.2) _
            have BI : Hid (Box (w4.setCell ⟨ib, 2, none⟩ (.int .i64 (m % 40))) ib c false (m % 40)) := BI.out.put _
            have PW : Hid (Post w rb (w4.setCell ⟨ib, 2, none⟩ (.int .i64 (m % 40)))) := postSet PW.out HN.out.1 (p := ⟨ib, 2, none⟩) (Nat.le_of_lt HN.out.2.2) _
            generalize w4.setCell ⟨ib, 2, none⟩ (.int .i64 (m % 40)) = w6 at BR BI PW ⊢
            obtain ⟨i0, i1, i2, iff⟩ := BI.out
            obtain ⟨r0, r1, r2, rf⟩ := BR.out
            have if0 := iff 0
            have if1 := iff 1
            have if2 := iff 2
            have rf0 := rf 0
            have rf1 := rf 1
            have rf2 := rf 2
            clear iff rf
            go_wp2
            exact bodyPost_ret (v := .agg #[.int .i64 c, .bool false, .int .i64 (m % 40)]) (by simp [results, Tryd.results38, go_sem, r0, r1, r2]) rfl ⟨⟨_, _, _, rfl⟩, postSet (postSet (postSet PW.out HN.out.1 (p := ⟨w.heap.size, 0, none⟩) (Nat.le_refl _) _) HN.out.1 (p := ⟨w.heap.size, 1, none⟩) (Nat.le_refl _) _) HN.out.1 (p := ⟨w.heap.size, 2, none⟩) (Nat.le_refl _) _⟩
          · have h2d : decide (511 < m) = false := decide_eq_false h2
            go_wp2
            exact bodyPost_ret (v := .agg #[.int .i64 c, .bool false, .int .i64 m]) (by simp [results, Tryd.results38, go_sem, r0, r1, r2]) rfl ⟨⟨_, _, _, rfl⟩, postSet (postSet (postSet PW.out HN.out.1 (p := ⟨w.heap.size, 0, none⟩) (Nat.le_refl _) _) HN.out.1 (p := ⟨w.heap.size, 1, none⟩) (Nat.le_refl _) _) HN.out.1 (p := ⟨w.heap.size, 2, none⟩) (Nat.le_refl _) _⟩
        · go_wp2
          exact bodyPost_ret (v := .agg #[.int .i64 c, .bool false, .int .i64 m]) (by simp [results, Tryd.results38, go_sem, r0, r1, r2]) rfl ⟨⟨_, _, _, rfl⟩, postSet (postSet (postSet PW.out HN.out.1 (p := ⟨w.heap.size, 0, none⟩) (Nat.le_refl _) _) HN.out.1 (p := ⟨w.heap.size, 1, none⟩) (Nat.le_refl _) _) HN.out.1 (p := ⟨w.heap.size, 2, none⟩) (Nat.le_refl _) _⟩
theorem Row.post {w w' : World} {rb B : Nat} {l : List UInt8} (h : Row w B l) (p : Post w rb w') (hne : B ≠ rb) : Row w' B l := h.kept (p.2.block B h.lt (fun e => hne (Option.some.inj e)))
theorem post_of_copy {w w1 w2 : World} {rb B : Nat} (h : Post w rb w1) (hr : rb < B) (hw : w.heap.size ≤ B) (b : ∀ (Q : Nat) (w0 : World), Q ≤ B → Below Q w0 w1 → Below Q w0 w2) : Post w rb w2 := by
  have b1 := b B w1 (Nat.le_refl _) (Below.refl _ _)
  exact ⟨h.1.kept fun k hk => b1.block k (by omega), ⟨b1.os.trans h.2.os, b1.tape.trans h.2.tape, b1.output.trans h.2.output, Nat.le_trans h.2.size b1.size, fun k hk hne => (b1.block k (by omega)).trans (h.2.block k hk hne)⟩⟩
/-- A row, sliced. -/
theorem slice_lh (B N : Nat) (a c : Nat) (h1 : a ≤ c) (h2 : c ≤ N) (h3 : a < N) (w : World) : (Instr.slice 22 (.slice (some ⟨B, 0, none⟩) N N) (some (.int .i64 (a : Int))) (some (.int .i64 (c : Int))) none).run Tryd.prog w = .ok (.slice (some ⟨B, a, none⟩) (c - a) (N - a)) w := by
  have hz := hsz w
  rw [run_slice_lh (P := Tryd.prog) (w := w) 22 (some ⟨B, 0, none⟩) N N Tryd.underlying22 .i64 .i64 (a : Int) (c : Int) (by omega) (by omega) (by omega)]
  have hz' : (sizeOf (Tryd.prog.elem 22)).run Tryd.prog w = .ok 1 w := hz
  rw [hz']
  have e : (⟨B, 0, none⟩ : Addr).add a = ⟨B, a, none⟩ := by unfold Addr.add; split <;> simp_all
  simp [Result.andThen, sliced, e]
  omega
theorem slice_l (B N : Nat) (a : Nat) (h3 : a < N) (w : World) : (Instr.slice 22 (.slice (some ⟨B, 0, none⟩) N N) (some (.int .i64 (a : Int))) none none).run Tryd.prog w = .ok (.slice (some ⟨B, a, none⟩) (N - a) (N - a)) w := by
  have hz := hsz w
  rw [run_slice_l (P := Tryd.prog) (w := w) 22 (some ⟨B, 0, none⟩) N N Tryd.underlying22 .i64 (a : Int) (by omega) (by omega)]
  have hz' : (sizeOf (Tryd.prog.elem 22)).run Tryd.prog w = .ok 1 w := hz
  rw [hz']
  have e : (⟨B, 0, none⟩ : Addr).add a = ⟨B, a, none⟩ := by unfold Addr.add; split <;> simp_all
  simp [Result.andThen, sliced, e]
  omega
theorem add_at (B j : Nat) : (⟨B, 1, none⟩ : Addr).add j = ⟨B, j + 1, none⟩ := by
  have e0 : (⟨B, 1, none⟩ : Addr).add j = ⟨B, 1 + j, none⟩ := by unfold Addr.add; split <;> simp_all
  rw [e0, Nat.add_comm]
/-- The text of a row without its first byte. -/
theorem str_tail {w : World} {B : Nat} {l : List UInt8} (h : Row w B l) (n cap : Nat) (hn : l.length = n + 1) : (convert 22 9 (.slice (some ⟨B, 1, none⟩) n cap)).run Tryd.prog w = .ok (.string ⟨l.tail.toArray⟩) w := by
  have hl : l.tail.length = n := by simp; omega
  subst hl
  exact run_convert_bytes_back (P := Tryd.prog) w 22 9 5 ⟨B, 1, none⟩ cap l.tail Tryd.underlying22 Tryd.underlying5 Tryd.underlying9 (fun j hj => by
    have ea := add_at B j
    have hj' : j + 1 < l.length := by omega
    rw [ea, cell_at h (j + 1) hj']
    simp)
set_option maxHeartbeats 2000000 in
theorem rom_any (rb : Nat) (w : World) (h : Rd w rb) :
    Calls Tryd.prog 18 #[.pointer (some ⟨rb, 0, none⟩)] w fun e w' => (∃ s : ByteArray, s.size ≤ 1024 ∧ e = .returned (.string s)) ∧ Post w rb w' := by
  have H : Hid (Rd w rb) := h
  have hlt := h.lt
  clear h
  go_enter Tryd.func18, Tryd.ntmps18
  go_wp2_with fail
  refine (Rdr.below_any _ _ _ H.out (by decide) (by decide)).mono ?_
  rintro e w1 ⟨⟨x, x0, x1, rfl⟩, p1⟩
  obtain ⟨n, hn⟩ : ∃ n : Nat, (n : Int) = 2 + x := ⟨(2 + x).toNat, by omega⟩
  have n0 : 2 ≤ n := by omega
  have n1 : n ≤ 4 := by omega
  obtain ⟨o, hm⟩ := made (n * 256) (by omega)
  have hm1 : ∀ u : World, (Instr.makeSlice 22 (.int .i64 ((2 + x) * 256)) (.int .i64 ((2 + x) * 256))).run Tryd.prog u = .ok (.slice (some ⟨u.heap.size, 0, none⟩) (n * 256) (n * 256)) (u.alloc o) := fun u => by
    have := (hm u).1
    rwa [show ((n * 256 : Nat) : Int) = (2 + x) * 256 by omega] at this
  have R1 : Hid (Row (w1.alloc o) w1.heap.size (List.replicate (n * 256) 0)) := (hm w1).2
  have PW : Hid (Post w rb (w1.alloc o)) := p1.alloc _
  have HB : Hid (rb < w1.heap.size ∧ w.heap.size ≤ w1.heap.size) := ⟨Nat.lt_of_lt_of_le hlt p1.2.size, p1.2.size⟩
  clear hm p1
  go_upto_region 3 with fail
  generalize w1.alloc o = w2 at R1 PW ⊢
  generalize w1.heap.size = B at R1 HB ⊢
  clear hm1
  go_wp2_with fail
  go_loopw [5] (fun k wr => ∃ (k' : Nat) (l : List UInt8), k' ≤ n ∧ k = .int .i64 k' ∧ Hid (l.length = n * 256) ∧ Hid (Row wr B l) ∧ Hid (Post w rb wr)) (fun k _ => n - (intOf k).toNat)
  case atStart => exact ⟨0, _, Nat.zero_le _, rfl, by show _ = _; simp, R1, PW⟩
  case round =>
  clear R1 PW
  obtain ⟨k, l, hk, rfl, LL, RR, PW⟩ := hrel
  by_cases hkn : k < n
  · have hkx : (k : Int) < 2 + x := by omega
    go_wp2_with fail
    refine (Rdr.below_any _ _ _ PW.out.1 (by decide) (by decide)).mono ?_
    rintro e w3 ⟨⟨y, y0, y1, rfl⟩, p3⟩
    have RR : Hid (Row w3 B l) := Row.post RR.out p3 (by have := HB.out.1; omega)
    have PW : Hid (Post w rb w3) := PW.out.trans p3
    clear p3
    go_wp2_with fail
    go_loopw [6, 7] (fun at_ i wr => ∃ (a' i' : Nat) (l : List UInt8), i' ≤ 16 ∧ k * 256 ≤ a' ∧ a' + 3 * i' ≤ k * 256 + 48 ∧ at_ = .int .i64 a' ∧ i = .int .i64 i' ∧ Hid (l.length = n * 256) ∧ Hid (Row wr B l) ∧ Hid (Post w rb wr)) (fun _ i _ => (intOf i).toNat)
    case atStart => exact ⟨k * 256, (1 + y).toNat, l, by omega, Nat.le_refl _, by omega, by first | rfl | (congr 1; omega), by first | rfl | (congr 1; omega), LL, RR, PW⟩
    case round =>
    clear LL RR PW
    obtain ⟨a, i, l, hi, ha0, ha1, rfl, rfl, LL, RR, PW⟩ := hrel
    by_cases hi0 : 0 < i
    · have hi0' : (0 : Int) < (i : Int) := by omega
      go_wp2_with fail
      refine (plain_any _ _ PW.out.1).mono ?_
      rintro e w4 ⟨⟨c, b, m, rfl⟩, p4⟩
      have RR : Hid (Row w4 B l) := Row.post RR.out p4 (by have := HB.out.1; omega)
      have PW : Hid (Post w rb w4) := PW.out.trans p4
      clear p4
      go_wp2_with fail
      refine (bytes_any _ _ _ _).mono ?_
      rintro e w5 ⟨⟨s, hs, rfl⟩, b5⟩
      have RR : Hid (Row w5 B l) := RR.out.below b5
      have PW : Hid (Post w rb w5) := PW.out.trans (postB PW.out.1 b5)
      clear b5
      have sl := fun w => slice_lh B (n * 256) a ((k + 1) * 256) (by omega) (by omega) (by omega) w
      rw [show (((k + 1) * 256 : Nat) : Int) = ((k : Int) + 1) * 256 by omega] at sl
      obtain ⟨w6, hc, r6, b6⟩ := copy_at RR.out a ((k + 1) * 256 - a) (n * 256 - a) s (by omega) (by have := LL.out; omega)
      have R6 : Hid (Row w6 B (over l a s.data.toList)) := r6
      have L6 : Hid ((over l a s.data.toList).length = n * 256) := by
        show _ = _
        rw [over_length _ _ _ (by have := LL.out; have : s.data.toList.length = s.size := Array.length_toList; omega)]
        exact LL.out
      have P6 : Hid (Post w rb w6) := post_of_copy PW.out HB.out.1 HB.out.2 b6
      clear r6 b6 RR PW LL
      go_wp2_with fail
      go_roundw
      case rel => exact ⟨a + s.size, i - 1, _, by omega, by omega, by omega, by first | rfl | (congr 1; omega), by first | rfl | (congr 1; omega), L6, R6, P6⟩
      case measure => simp [intOf]; omega
    · have hi0' : ¬ (0 : Int) < (i : Int) := by omega
      go_wp2_with fail
      go_roundw
      case rel => exact ⟨k + 1, l, by omega, by go_num, LL, RR, PW⟩
      case measure => simp [intOf]; omega
  have hkx : ¬ (k : Int) < 2 + x := by omega
  go_wp2_with fail
  refine (Rdr.once_any _ _ _ PW.out.1 (by decide) (by decide)).mono ?_
  rintro e w7 ⟨⟨q, rfl⟩, p7⟩
  have RR : Hid (Row w7 B l) := Row.post RR.out p7 (by have := HB.out.1; omega)
  have PW : Hid (Post w rb w7) := PW.out.trans p7
  clear p7
  cases q with
  | true =>
    have sl := fun w => slice_l B (n * 256) 1 (by omega) w
    have sc := str_tail RR.out (n * 256 - 1) (n * 256 - 1) (by have := LL.out; omega)
    have HS : Hid ((⟨l.tail.toArray⟩ : ByteArray).size ≤ 1024) := by show l.tail.toArray.size ≤ 1024; have := LL.out; simp; omega
    generalize (⟨l.tail.toArray⟩ : ByteArray) = S at sc HS
    go_wp2
    go_ret
    exact ⟨⟨S, HS.out, rfl⟩, PW.out⟩
  | false =>
    have sc := str_at RR.out (n * 256) (n * 256) LL.out
    have HS : Hid ((⟨l.toArray⟩ : ByteArray).size ≤ 1024) := by show l.toArray.size ≤ 1024; have := LL.out; simp; omega
    generalize (⟨l.toArray⟩ : ByteArray) = S at sc HS
    go_wp2
    go_ret
    exact ⟨⟨S, HS.out, rfl⟩, PW.out⟩
end Go.Proofs.YtpnaohonadoofaaDoor.DrawP
