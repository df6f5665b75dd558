/-
  A contract of ours for impl.Applied, at every two texts.
-/
import Derived.Test.YtbfjalpkdgepnaaAppj
namespace Go.Proofs.Ytbfjalpkdgepnaa.Appk
open Go.ChangeShapes Go.WideShapes Go.ChangeAt Go.RowKit Go.Deep Go.Shelf
open Appn Appp Apps Appi Appj
set_option linter.unusedVariables false
set_option linter.unusedSimpArgs false
set_option maxRecDepth 100000
attribute [local go_sem] Oper.semAt_some

theorem all_lt (d : ByteArray) : allOf d < 16777217 := by
  have h1 := num_lt (d.extract (d.size - 3) d.size).data.toList
  have h2 : (d.extract (d.size - 3) d.size).data.toList.length ≤ 3 := by rw [Array.length_toList]; show (d.extract (d.size - 3) d.size).size ≤ 3; rw [ByteArray.size_extract]; omega
  have h3 := pow_le h2
  unfold allOf
  omega
/-- What diffParts tells, of every text. -/
def PartsU (a d : ByteArray) (e : Ending) : Prop := ∃ (P : ByteArray) (n : Nat) (ok : Bool), e = .returned (.tuple #[.string P, .int .i64 (n : Nat), .bool ok]) ∧ n < 16777217 ∧ (Appp.Form a d ↔ a.size ≤ 20000 ∧ ok = true ∧ n ≤ 20000) ∧ (ok = true → P = mid d ∧ n = allOf d)
theorem parts_u (a d : ByteArray) (w : World) (hd : d.size ≤ 1048576) :
    Calls Try.prog 20 #[.string d] w fun e w' => PartsU a d e ∧ ∃ n, w' = w.drewN n := by
  by_cases h : 10 ≤ d.size ∧ d.size ≤ 80000
  · refine (parts_any d w h.1 h.2).mono ?_
    rintro e w' ⟨⟨P, ok, rfl, h1, h2⟩, hn⟩
    refine ⟨⟨P, allOf d, ok, rfl, all_lt d, ?_, fun ho => ⟨h2 (h1.1 ho), rfl⟩⟩, hn⟩
    rw [h1]
    exact ⟨fun hh => ⟨hh.1, ⟨hh.2.2.2.1, hh.2.2.2.2.1⟩, hh.2.2.2.2.2⟩, fun hh => ⟨hh.1, h.1, h.2, hh.2.1.1, hh.2.1.2, hh.2.2⟩⟩
  · refine (parts_small d w h hd).mono ?_
    rintro e w' ⟨rfl, hn⟩
    refine ⟨⟨⟨#[]⟩, 0, false, rfl, by decide, ?_, fun ho => by cases ho⟩, hn⟩
    exact ⟨fun hh => absurd ⟨hh.2.1, hh.2.2.1⟩ h, fun hh => by cases hh.2.1⟩
theorem grow_refl (w : World) (r : Option Nat) : w.grownBy w r := ⟨rfl, rfl, rfl, Nat.le_refl _, fun _ _ _ => rfl⟩
theorem grow_trans {w u v : World} {r : Option Nat} (h : w.grownBy u r) (k : u.grownBy v r) : w.grownBy v r :=
  ⟨k.os.trans h.os, k.tape.trans h.tape, k.output.trans h.output, Nat.le_trans h.size k.size, fun j hj hr => (k.block j (Nat.lt_of_lt_of_le hj h.size) hr).trans (h.block j hj hr)⟩
theorem grow_cell (w : World) (b i : Nat) (v : Value) : w.grownBy (w.setCell ⟨b, i, none⟩ v) (some b) :=
  ⟨rfl, rfl, rfl, by simp [World.setCell], fun k _ hk => Below.heap_setCell _ _ _ _ (fun e => hk (by simp [e]))⟩
theorem grow_cells (b : Nat) : ∀ (vs : List Value) (o : Nat) (w : World), w.grownBy (w.setCells b o vs) (some b)
  | [], _, w => grow_refl w _
  | v :: vs, o, w => grow_trans (grow_cell w b o v) (grow_cells b vs (o + 1) _)
theorem size_cells (b : Nat) : ∀ (vs : List Value) (o : Nat) (w : World), (w.setCells b o vs).heap.size = w.heap.size
  | [], _, w => rfl
  | v :: vs, o, w => (size_cells b vs (o + 1) _).trans (by simp [World.setCell])
open Rowb (Row over cellsOf cell_at free_at cells_at hsz)
theorem copy_at2 {w : World} {B : Nat} {l : List UInt8} (h : Row w B l) (o len cap : Nat) (s : ByteArray) (hle : s.size ≤ len) (hf : o + s.size ≤ l.length) :
    ∃ w', (∀ ty, (Builtin.copy_ #[25, 9] ty #[.slice (some ⟨B, o, none⟩) len cap, .string s]).run Try.prog w = .ok (goInt s.size) w') ∧ Row w' B (over l o s.data.toList) ∧ w.grownBy w' (some B) ∧ w'.heap.size = w.heap.size := by
  have hl : s.data.toList.length = s.size := Array.length_toList
  refine ⟨w.setCells B o (cellsOf s.data.toList), fun ty => ?_, cells_at _ _ _ _ h (by omega), grow_cells _ _ _ _, size_cells _ _ _ _⟩
  exact run_copy_string w 25 9 ty 5 B o len cap s Try.underlying25 hsz hle (fun j hj => by rw [cell_at h (o + j) (by omega)]; rfl) (fun j hj => free_at h _)
theorem copy_min2 {w : World} {B : Nat} {l : List UInt8} (h : Row w B l) (s : ByteArray) (n cap : Nat) (hn : l.length = n) :
    ∃ (w' : World) (m : Nat), (∀ ty, (Builtin.copy_ #[25, 9] ty #[.slice (some ⟨B, 0, none⟩) n cap, .string s]).run Try.prog w = .ok (goInt m) w') ∧ Row w' B (over l 0 (s.data.toList.take n)) ∧ w.grownBy w' (some B) ∧ w'.heap.size = w.heap.size := by
  have hl : s.data.toList.length = s.size := Array.length_toList
  by_cases hle : s.size ≤ n
  · obtain ⟨w', h1, h2, h3⟩ := copy_at2 h 0 n cap s hle (by omega)
    rw [List.take_of_length_le (by omega)]
    exact ⟨w', _, h1, h2, h3⟩
  · have e : (s.data.toList.map fun x => Value.int .u8 (x.toNat : Int)).take n = cellsOf (s.data.toList.take n) := by unfold cellsOf; rw [List.map_take]
    refine ⟨w.setCells B 0 (cellsOf (s.data.toList.take n)), n, fun ty => ?_, cells_at _ _ _ _ h (by rw [List.length_take]; omega), grow_cells _ _ _ _, size_cells _ _ _ _⟩
    rw [← e]
    exact Appc.run_copy_cut w 25 9 ty 5 B 0 n cap s Try.underlying25 hsz (by omega) (fun j hj => by rw [Nat.zero_add, cell_at h j (by omega)]; rfl) (fun j hj => free_at h _)
theorem row_own {β : Type} (B : Nat) (f : β → List UInt8) : Own (fun s W => Row W B (f s)) := fun s X Y row hs hg hrow =>
  hs.kept (hg.block B hs.lt (fun e' => by obtain ⟨o, ho, hc⟩ := hrow B e'.symm; rw [show X.heap[B]? = _ from hs] at ho; cases ho; cases hc))
/-- The state behind so many pieces. -/
def st (A : Nat) (a : ByteArray) (pre : List Part) : Option S := fold A (Appp.start A a, 0) (pre.map told)
def so (A : Nat) (a : ByteArray) (pre : List Part) : List UInt8 := ((st A a pre).getD ([], 0)).1
def lst (A : Nat) (a : ByteArray) (pre : List Part) : Nat := ((st A a pre).getD ([], 0)).2
structure Good (A : Nat) (a : ByteArray) (pre : List Part) : Prop where
  got : st A a pre = some (so A a pre, lst A a pre)
  len : (so A a pre).length = A
  last : lst A a pre ≤ A
theorem good_nil (A : Nat) (a : ByteArray) : Good A a [] ∧ so A a [] = Appp.start A a ∧ lst A a [] = 0 := ⟨⟨rfl, start_len _ _, Nat.zero_le _⟩, rfl, rfl⟩
theorem good_next {A : Nat} {a : ByteArray} {pre : List Part} (x : Part) (h : Good A a pre) (hb : ¬ bad A (so A a pre, lst A a pre) (told x)) :
    Good A a (pre ++ [x]) ∧ so A a (pre ++ [x]) = over (so A a pre) x.1.1 (L x.1.2) ∧ lst A a (pre ++ [x]) = x.1.1 + x.1.2.size := by
  have hb' : ¬ (A < x.1.1 + (L x.1.2).length) := fun hh => hb (.inr (.inr hh))
  have e : st A a (pre ++ [x]) = some (over (so A a pre) x.1.1 (L x.1.2), x.1.1 + (L x.1.2).length) := by
    have := fold_snoc (told x) h.got
    unfold st
    rw [List.map_append]
    refine this.trans ?_
    unfold Appp.step; rw [if_neg hb]
    rfl
  have e1 : so A a (pre ++ [x]) = over (so A a pre) x.1.1 (L x.1.2) := by unfold so at *; rw [e]; rfl
  have e2 : lst A a (pre ++ [x]) = x.1.1 + (L x.1.2).length := by unfold lst at *; rw [e]; rfl
  refine ⟨⟨?_, ?_, ?_⟩, e1, by rw [e2, L_len]⟩
  · rw [e1, e2]; exact e
  · rw [e1, Rowb.over_length _ _ _ (by rw [h.len]; omega)]; exact h.len
  · rw [e2]; omega
theorem good_bad {A : Nat} {a : ByteArray} {pre : List Part} (x : Part) (h : Good A a pre) (hb : bad A (so A a pre, lst A a pre) (told x)) (rest : List (Nat × List UInt8)) : fold A (Appp.start A a, 0) ((pre ++ [x]).map told ++ rest) = none := by
  rw [List.map_append, List.append_assoc]
  exact fold_bad h.got hb rest
abbrev tO : TypeId := 25
def Inv (A : Nat) (a : ByteArray) (w : World) (pre : List Part) (W : World) : Prop :=
  ((Row W (w.heap.size + 1 + 1 + 1) (so A a pre) ∧ (Boxed W (w.heap.size + 1 + 1 + 1 + 1) tO (.slice (some ⟨w.heap.size + 1 + 1 + 1, 0, none⟩) A A) ∧ (Boxed W (w.heap.size + 1 + 1 + 1 + 1 + 1) 3 (.int .i64 (lst A a pre : Nat)) ∧ Boxed W (w.heap.size + 1 + 1) 3 (.int .i64 (A : Nat))))) ∧ Below w.heap.size w W) ∧ (Boxed W w.heap.size 9 (.string ⟨#[]⟩) ∧ Boxed W (w.heap.size + 1) 4 (.bool false)) ∧ Good A a pre
def Lft (A : Nat) (a : ByteArray) (w : World) (c : Code) (pre : List Part) (W : World) : Prop :=
  Below w.heap.size w W ∧ (Boxed W w.heap.size 9 (.string ⟨#[]⟩) ∧ Boxed W (w.heap.size + 1) 4 (.bool false)) ∧ (c = .ret ∧ ∀ rest, fold A (Appp.start A a, 0) (pre.map told ++ rest) = none)
theorem inv_own (A : Nat) (a : ByteArray) (w : World) (B : Nat) (hB : w.heap.size ≤ B) : OwnFrom B (Inv A a w) :=
  OwnFrom.and (OwnFrom.and (OwnFrom.and (Own.from (row_own _ (so A a)) _) (OwnFrom.and (Own.from (boxed_own _ _ (fun _ => _)) _) (OwnFrom.and (Own.from (boxed_own _ _ (fun pre => .int .i64 (lst A a pre : Nat))) _) (Own.from (boxed_own _ _ (fun _ => _)) _)))) (ownFrom_below (Nat.le_refl _) hB))
    (OwnFrom.and (OwnFrom.and (Own.from (boxed_own _ _ (fun _ => _)) _) (Own.from (boxed_own _ _ (fun _ => _)) _)) (ownFrom_pure _ _))
theorem lft_own (A : Nat) (a : ByteArray) (w : World) (B : Nat) (hB : w.heap.size ≤ B) (c : Code) : OwnFrom B (Lft A a w c) :=
  OwnFrom.and (ownFrom_below (Nat.le_refl _) hB) (OwnFrom.and (OwnFrom.and (Own.from (boxed_own _ _ (fun _ => _)) _) (Own.from (boxed_own _ _ (fun _ => _)) _)) (ownFrom_pure _ _))
set_option maxHeartbeats 2000000 in
theorem applied_in (a d : ByteArray) (w : World) (ha : a.size ≤ 1048576) (hd : d.size ≤ 1048576) :
    CallsIn Fence.wide 6 Try.prog 10 #[.string a, .string d] w fun e w' => e = .returned (.tuple #[.string (outV a d), .bool (outB a d)]) ∧ Below w.heap.size w w' := by
  have cd := fun w => parts_u a d w hd
  obtain ⟨W1, hW1⟩ : ∃ W1, (w.alloc (.cells #[.string ⟨#[]⟩] 9)).alloc (.cells #[.bool false] 4) = W1 := ⟨_, rfl⟩
  have b0 : Boxed W1 w.heap.size 9 (.string ⟨#[]⟩) := by rw [← hW1]; exact (Boxed.new w 9 _).alloc _
  have b1 : Boxed W1 (w.heap.size + 1) 4 (.bool false) := by rw [← hW1]; have := Boxed.new (w.alloc (.cells #[.string ⟨#[]⟩] 9)) 4 (.bool false); rwa [World.size_alloc] at this
  have z1 : W1.heap.size = w.heap.size + 1 + 1 := by rw [← hW1]; simp
  have hB1 : Below w.heap.size w W1 := by rw [← hW1]; exact ((Below.refl _ w).alloc (Nat.le_refl _) _).alloc (by simp) _
  have B0 : Hid (Boxed W1 w.heap.size 9 (.string ⟨#[]⟩)) := b0
  have B1 : Hid (Boxed W1 (w.heap.size + 1) 4 (.bool false)) := b1
  have HB1 : Hid (Below w.heap.size w W1) := hB1
  clear b0 b1 hB1
  by_cases hf : Appp.Form a d
  · have HF : Hid (Appp.Form a d) := hf
    have ha2 : a.size ≤ 20000 := hf.1
    have d1 : decide ((20000 : Int) < (a.size : Int)) = false := decide_eq_false (by omega)
    refine callsIn_of_wp_marks Try.func10 rfl trivial ?_ rfl
    simp only [Try.ntmps10, List.size_toArray, List.length_cons, List.length_nil, Nat.reduceAdd, Nat.reduceSub, Array.replicate_succ, Array.replicate_zero, List.push_toArray, List.append_toArray, List.nil_append, List.cons_append]
    gi_wp2_with fail
    refine ⟨trivial, ?_⟩
    gi_at_call 20
    refine (callsIn_wide.2 (cd _)).mono ?_
    rintro e w1 ⟨⟨P, A, ok, rfl, hA, hform, hmid⟩, k1, hk1⟩
    obtain ⟨_, rfl, hA2⟩ := hform.1 HF.out
    obtain ⟨hP, hAA⟩ := hmid rfl
    have HP : Hid (P = mid d) := hP
    have HAA : Hid (A = allOf d) := hAA
    have b0 : Boxed w1 w.heap.size 9 (.string ⟨#[]⟩) := by rw [hk1]; exact B0.out.kept (grow_drewN _ _) (by simp)
    have b1 : Boxed w1 (w.heap.size + 1) 4 (.bool false) := by rw [hk1]; exact B1.out.kept (grow_drewN _ _) (by simp)
    have z2 : w1.heap.size = w.heap.size + 1 + 1 := by rw [hk1]; exact z1
    have hB2 : Below w.heap.size w w1 := by rw [hk1]; exact HB1.out.grown (grow_drewN _ _) HB1.out.size (fun k e => by cases e)
    have B0 : Hid (Boxed w1 w.heap.size 9 (.string ⟨#[]⟩)) := b0
    have B1 : Hid (Boxed w1 (w.heap.size + 1) 4 (.bool false)) := b1
    have HB1 : Hid (Below w.heap.size w w1) := hB2
    clear b0 b1 hB2 hP hAA hmid hform hk1 z1
    have d6 : decide ((20000 : Int) < (A : Int)) = false := decide_eq_false (by omega)
    obtain ⟨o, ho⟩ := Rowb.made A (by omega)
    have hmk := fun u => (ho u).1
    obtain ⟨W2, hW2⟩ : ∃ W2, ((w1.alloc (.cells #[.int .i64 (A : Nat)] 3)).alloc o).alloc (.cells #[.slice (some ⟨w.heap.size + 1 + 1 + 1, 0, none⟩) A A] tO) = W2 := ⟨_, rfl⟩
    have y2 : W2.heap.size = w.heap.size + 1 + 1 + 1 + 1 + 1 := by rw [← hW2]; simp [z2]
    have q0 : Boxed W2 w.heap.size 9 (.string ⟨#[]⟩) := by rw [← hW2]; exact ((B0.out.alloc _).alloc _).alloc _
    have q1 : Boxed W2 (w.heap.size + 1) 4 (.bool false) := by rw [← hW2]; exact ((B1.out.alloc _).alloc _).alloc _
    have q2 : Boxed W2 (w.heap.size + 1 + 1) 3 (.int .i64 (A : Nat)) := by
      rw [← hW2]; have := Boxed.new w1 3 (.int .i64 (A : Nat)); rw [z2] at this; exact (this.alloc _).alloc _
    have q3 : Row W2 (w.heap.size + 1 + 1 + 1) (List.replicate A 0) := by
      have := (ho (w1.alloc (.cells #[.int .i64 (A : Nat)] 3))).2
      rw [World.size_alloc, z2] at this
      rw [← hW2]; exact this.kept ((World.grownBy_alloc _ _ none).block _ this.lt (by simp))
    have q4 : Boxed W2 (w.heap.size + 1 + 1 + 1 + 1) tO (.slice (some ⟨w.heap.size + 1 + 1 + 1, 0, none⟩) A A) := by
      have := Boxed.new ((w1.alloc (.cells #[.int .i64 (A : Nat)] 3)).alloc o) tO (.slice (some ⟨w.heap.size + 1 + 1 + 1, 0, none⟩) A A)
      rw [World.size_alloc, World.size_alloc, z2] at this
      rw [← hW2]; exact this
    have hb2 : Below w.heap.size w W2 := by rw [← hW2]; exact ((HB1.out.alloc (by omega) _).alloc (by simp; omega) _).alloc (by simp; omega) _
    obtain ⟨W3, m3, hc3, r3, g3, y3⟩ := copy_min2 q3 a A A (by simp)
    have r0 := q0.kept g3 (fun e => by have := Option.some.inj e; omega)
    have r1 := q1.kept g3 (fun e => by have := Option.some.inj e; omega)
    have r2 := q2.kept g3 (fun e => by have := Option.some.inj e; omega)
    have r4 := q4.kept g3 (fun e => by have := Option.some.inj e; omega)
    rw [y2] at y3
    have c4 := q4.cell
    have hb3 : Below w.heap.size w W3 := hb2.grown g3 hb2.size (fun k e => by cases e; omega)
    have R0 : Hid (Boxed W3 w.heap.size 9 (.string ⟨#[]⟩)) := r0
    have R1 : Hid (Boxed W3 (w.heap.size + 1) 4 (.bool false)) := r1
    have R2 : Hid (Boxed W3 (w.heap.size + 1 + 1) 3 (.int .i64 (A : Nat))) := r2
    have R3 : Hid (Row W3 (w.heap.size + 1 + 1 + 1) (Appp.start A a)) := r3
    have R4 : Hid (Boxed W3 (w.heap.size + 1 + 1 + 1 + 1) tO (.slice (some ⟨w.heap.size + 1 + 1 + 1, 0, none⟩) A A)) := r4
    have HB3 : Hid (Below w.heap.size w W3) := hb3
    have b5 := Boxed.new W3 3 (.int .i64 0)
    have b6 := Boxed.new (W3.alloc (.cells #[.int .i64 0] 3)) 9 (.string P)
    rw [World.size_alloc] at b6
    rw [y3] at b5 b6
    have B6 : Hid (Boxed ((W3.alloc (.cells #[.int .i64 0] 3)).alloc (.cells #[.string P] 9)) (w.heap.size + 1 + 1 + 1 + 1 + 1 + 1) 9 (.string P)) := b6
    have HPS : Hid (P.size ≤ 1048576) := by
      show _ ≤ _
      rw [HP.out]; unfold mid; rw [ByteArray.size_extract]; omega
    have I0 : Hid (Inv A a w [] ((W3.alloc (.cells #[.int .i64 0] 3)).alloc (.cells #[.string P] 9))) := by
      refine ⟨⟨⟨?_, (r4.alloc _).alloc _, ?_, (r2.alloc _).alloc _⟩, (hb3.alloc (by omega) _).alloc (by simp; omega) _⟩, ⟨(r0.alloc _).alloc _, (r1.alloc _).alloc _⟩, (good_nil A a).1⟩
      · rw [(good_nil A a).2.1]
        have e1 := R3.out.kept ((World.grownBy_alloc W3 (.cells #[.int .i64 0] 3) none).block _ R3.out.lt (by simp))
        exact e1.kept ((World.grownBy_alloc _ _ none).block _ e1.lt (by simp))
      · rw [(good_nil A a).2.2]; exact b5.alloc _
    clear r0 r1 r2 r3 r4 q0 q1 q2 q3 q4 hb2 hb3 g3 ho y2 b5 b6
    gi_wp2_with (refine ⟨trivial, ?_⟩; gi_at_call 21; refine (runs_in _ _).mono ?_; rintro e w' ⟨rfl, rfl⟩)
    refine wpIn_rangeFunc_ownG rfl (by omega) (gf := 32) (lb := #[.pointer (some ⟨w.heap.size + 1 + 1 + 1 + 1 + 1 + 1, 0, none⟩)]) rfl trivial (enters_of Try.func32 (by kernel_rfl) rfl)
      (runs_stops 5 (by omega) (w.heap.size + 1 + 1 + 1 + 1 + 1 + 1) P HPS.out _ B6.out.cell B6.out.lt) (fun _ _ => trivial) (fun _ _ _ _ _ _ _ _ => trivial) (Below.refl _ _) (fun _ => rfl)
      (Inv A a w) (Lft A a w) (inv_own A a w _ (by simp; omega)) (lft_own A a w _ (by simp; omega)) I0.out
      (fun x => { tmps := #[.string a, .string d, undef, undef, .pointer (some ⟨w.heap.size, 0, none⟩), .pointer (some ⟨w.heap.size + 1, 0, none⟩), .string P, .pointer (some ⟨w.heap.size + 1 + 1, 0, none⟩), .bool true, .pointer (some ⟨w.heap.size + 1 + 1 + 1 + 1, 0, none⟩), .pointer (some ⟨w.heap.size + 1 + 1 + 1 + 1 + 1, 0, none⟩), .int .i64 x.1.1, .string x.1.2, .tuple #[.string P, .int .i64 (A : Nat), .bool true], .string d, .tuple #[.string P, .int .i64 (A : Nat), .bool true], .string P, .int .i64 (A : Nat), .bool true, .string a, .int .i64 a.size, .bool false, .bool false, .bool true, .bool false, .bool false, .bool false, .int .i64 (A : Nat), .bool false, .bool false, .int .i64 (A : Nat), .slice (some ⟨w.heap.size + 1 + 1 + 1, 0, none⟩) A A, .slice (some ⟨w.heap.size + 1 + 1 + 1, 0, none⟩) A A, .string a, .int .i64 (m3 : Nat), .string P, .func (.func 32) #[] #[.pointer (some ⟨w.heap.size + 1 + 1 + 1 + 1 + 1 + 1, 0, none⟩)], .int .i64 x.1.1, .string x.1.2, undef, undef, undef, undef, undef, undef, undef, undef, undef, undef, undef, undef, undef, undef, undef, undef, undef, undef, undef, undef, undef, undef, undef, undef], defers := [] }) ?assign ?body ?done ?stop
    case assign =>
      intro l x W K hK
      unfold encs
      gi_wp2
      exact hK
    case body =>
      clear c4 hc3 hmk hW2 hW1 cd
      rintro l pre x W ⟨⟨⟨hrow, q4, q5, q2⟩, hB⟩, ⟨q0, q1⟩, hgood⟩ hlt
      have HNEXT : Hid (¬ bad A (so A a pre, lst A a pre) (told x) → Good A a (pre ++ [x]) ∧ so A a (pre ++ [x]) = over (so A a pre) x.1.1 (L x.1.2) ∧ lst A a (pre ++ [x]) = x.1.1 + x.1.2.size) := fun h => good_next x hgood h
      have HBAD : Hid (bad A (so A a pre, lst A a pre) (told x) → ∀ rest, fold A (Appp.start A a, 0) ((pre ++ [x]).map told ++ rest) = none) := fun h rest => good_bad x hgood h rest
      have hlen := hgood.len
      have hlast := hgood.last
      obtain ⟨⟨g, v⟩, hx8, hm8⟩ := x
      dsimp only at hx8 hm8 HNEXT
      dsimp only
      have TB : Hid (bad A (so A a pre, lst A a pre) (told (⟨(g, v), hx8, hm8⟩ : Part)) ↔ v.size = 0 ∨ g < lst A a pre ∨ A < g + v.size) := by
        have e0 : L v = [] ↔ v.size = 0 := by rw [← List.length_eq_zero_iff, L_len]
        show (L v = [] ∨ g < lst A a pre ∨ A < g + (L v).length) ↔ _
        rw [e0, L_len]
      have pc4 := q4.cell
      have pc5 := q5.cell
      have pc2 := q2.cell
      have f0 := q0.frozen
      have f1 := q1.frozen
      have p0 := q0.cell
      have p1 := q1.cell
      have f5 := q5.frozen
      have Q0 : Hid (Boxed W (w.heap.size) 9 (.string ⟨#[]⟩)) := q0
      have Q1 : Hid (Boxed W (w.heap.size + 1) 4 (.bool false)) := q1
      have Q2 : Hid (Boxed W (w.heap.size + 1 + 1) 3 (.int .i64 (A : Nat))) := q2
      have Q3 : Hid (Row W (w.heap.size + 1 + 1 + 1) (so A a pre)) := hrow
      have Q4 : Hid (Boxed W (w.heap.size + 1 + 1 + 1 + 1) tO (.slice (some ⟨w.heap.size + 1 + 1 + 1, 0, none⟩) A A)) := q4
      have Q5 : Hid (Boxed W (w.heap.size + 1 + 1 + 1 + 1 + 1) 3 (.int .i64 (lst A a pre : Nat))) := q5
      have HB : Hid (Below w.heap.size w W) := hB
      have HLEN : Hid ((so A a pre).length = A) := hlen
      have LS : ∃ t : Nat, t = lst A a pre := ⟨_, rfl⟩
      obtain ⟨t, ht⟩ := LS
      rw [← ht] at pc5 hlast
      have TB : Hid (bad A (so A a pre, lst A a pre) (told (⟨(g, v), hx8, hm8⟩ : Part)) ↔ v.size = 0 ∨ g < t ∨ A < g + v.size) := by rw [ht]; exact TB
      have HT : Hid (t = lst A a pre) := ht
      obtain ⟨z, hz⟩ : ∃ z : Nat, z = g + v.size := ⟨_, rfl⟩
      have HZ : Hid (z = g + v.size) := hz
      have ez : (g : Int) + (v.size : Int) = (z : Int) := by omega
      have hz8 : z ≤ 16900000 := by omega
      have ezw : IntKind.i64.wrap (z : Int) = (z : Int) := by rw [IntKind.wrap_i64]; omega
      clear q0 q1 q2 q4 q5 hrow hB hgood ht hz hlen
      by_cases hbad : v.size = 0 ∨ g < t ∨ A < g + v.size
      · have HL : Hid (∀ rest, fold A (Appp.start A a, 0) ((pre ++ [(⟨(g, v), hx8, hm8⟩ : Part)]).map told ++ rest) = none) := HBAD.out (TB.out.2 hbad)
        clear HBAD HNEXT TB
        by_cases c1 : v.size = 0
        · have y1 := empty_yes c1
          clear hbad
          gi_wp2
          exact ⟨((KeepsOthers.setCell _ _ _).trans (KeepsOthers.setCell _ _ _)).from _, (HB.out.setCell (p := ⟨w.heap.size, 0, none⟩) (Nat.le_refl _) _).setCell (p := ⟨w.heap.size + 1, 0, none⟩) (by simp) _, ⟨(Q0.out.set _).other (by omega) _, (Q1.out.other (by omega) _).set _⟩, rfl, HL.out⟩
        · have y1 := empty_no c1
          by_cases c2 : g < t
          · have d2 : (g : Int) < (t : Int) := by omega
            have d2' : decide ((g : Int) < (t : Int)) = true := decide_eq_true d2
            clear hbad
            gi_wp2
            exact ⟨((KeepsOthers.setCell _ _ _).trans (KeepsOthers.setCell _ _ _)).from _, (HB.out.setCell (p := ⟨w.heap.size, 0, none⟩) (Nat.le_refl _) _).setCell (p := ⟨w.heap.size + 1, 0, none⟩) (by simp) _, ⟨(Q0.out.set _).other (by omega) _, (Q1.out.other (by omega) _).set _⟩, rfl, HL.out⟩
          · have d2 : ¬ (g : Int) < (t : Int) := by omega
            have d2' : decide ((g : Int) < (t : Int)) = false := decide_eq_false d2
            have d3 : (A : Int) < (z : Int) := by have := HZ.out; omega
            have d3' : decide ((A : Int) < (z : Int)) = true := decide_eq_true d3
            clear hbad
            gi_wp2
            exact ⟨((KeepsOthers.setCell _ _ _).trans (KeepsOthers.setCell _ _ _)).from _, (HB.out.setCell (p := ⟨w.heap.size, 0, none⟩) (Nat.le_refl _) _).setCell (p := ⟨w.heap.size + 1, 0, none⟩) (by simp) _, ⟨(Q0.out.set _).other (by omega) _, (Q1.out.other (by omega) _).set _⟩, rfl, HL.out⟩
      · have hn := HNEXT.out (fun hh => hbad (TB.out.1 hh))
        have GD : Hid (Good A a (pre ++ [(⟨(g, v), hx8, hm8⟩ : Part)])) := hn.1
        have SO : Hid (so A a (pre ++ [(⟨(g, v), hx8, hm8⟩ : Part)]) = over (so A a pre) g (L v)) := hn.2.1
        have LST : Hid (lst A a (pre ++ [(⟨(g, v), hx8, hm8⟩ : Part)]) = z) := hn.2.2.trans HZ.out.symm
        have y1 : v.toList.isEmpty = false := empty_no (fun hh => hbad (.inl hh))
        have d2 : ¬ (g : Int) < (t : Int) := fun hh => hbad (.inr (.inl (by omega)))
        have d2' : decide ((g : Int) < (t : Int)) = false := decide_eq_false d2
        have hzA : ¬ A < z := fun hh => hbad (.inr (.inr (by rw [← HZ.out]; exact hh)))
        have d3 : ¬ (A : Int) < (z : Int) := by omega
        have d3' : decide ((A : Int) < (z : Int)) = false := decide_eq_false d3
        have g0 : (0 : Int) ≤ (g : Int) := by omega
        have hv0 : v.size ≠ 0 := fun hh => hbad (.inl hh)
        have gA1 : g < A := by have := HZ.out; omega
        have gA2 : ¬ A = g := by omega
        have gA3 : ¬ g = A := by omega
        have gA4 : ¬ A - g = 0 := by omega
        have gA5 : ¬ A ≤ g := by omega
        have gA6 : ¬ (A : Int) = (g : Int) := by omega
        have gA7 : ¬ (g : Int) = (A : Int) := by omega
        have gA : (g : Int) ≤ (A : Int) := by have := HZ.out; omega
        obtain ⟨W4, hc4, r4, g4, z4⟩ := copy_at2 Q3.out g (A - g) (A - g) v (by have := HZ.out; omega) (by rw [HLEN.out]; have := HZ.out; omega)
        have k0 := Q0.out.kept g4 (fun e => by have := Option.some.inj e; omega)
        have k1 := Q1.out.kept g4 (fun e => by have := Option.some.inj e; omega)
        have k2 := Q2.out.kept g4 (fun e => by have := Option.some.inj e; omega)
        have k4 := Q4.out.kept g4 (fun e => by have := Option.some.inj e; omega)
        have k5 := Q5.out.kept g4 (fun e => by have := Option.some.inj e; omega)
        have kb := HB.out.grown g4 HB.out.size (fun k e => by cases e; omega)
        have KO : Hid (KeepsOthers W W4) := KeepsOthers.of_grownBy g4 (fun j o ej hj => by cases ej; rw [show W.heap[w.heap.size + 1 + 1 + 1]? = _ from Q3.out] at hj; cases hj; rfl)
        have ff5 := k5.frozen
        have cc5 := k5.cell
        have K0 : Hid (Boxed W4 (w.heap.size) 9 (.string ⟨#[]⟩)) := k0
        have K1 : Hid (Boxed W4 (w.heap.size + 1) 4 (.bool false)) := k1
        have K2 : Hid (Boxed W4 (w.heap.size + 1 + 1) 3 (.int .i64 (A : Nat))) := k2
        have K3 : Hid (Row W4 (w.heap.size + 1 + 1 + 1) (over (so A a pre) g (L v))) := r4
        have K4 : Hid (Boxed W4 (w.heap.size + 1 + 1 + 1 + 1) tO (.slice (some ⟨w.heap.size + 1 + 1 + 1, 0, none⟩) A A)) := k4
        have K5 : Hid (Boxed W4 (w.heap.size + 1 + 1 + 1 + 1 + 1) 3 (.int .i64 (lst A a pre : Nat))) := k5
        have KB : Hid (Below w.heap.size w W4) := kb
        clear HNEXT HBAD TB hn hbad k0 k1 k2 r4 k4 k5 kb g4
        gi_wp2
        refine ⟨(KO.out.trans (KeepsOthers.setCell _ _ _)).from _, trivial, ⟨⟨?_, K4.out.other (by omega) _, ?_, K2.out.other (by omega) _⟩, KB.out.setCell (p := ⟨w.heap.size + 1 + 1 + 1 + 1 + 1, 0, none⟩) (by simp; omega) _⟩, ⟨K0.out.other (by omega) _, K1.out.other (by omega) _⟩, GD.out⟩
        · rw [SO.out]; exact K3.out.kept ((grow_cell _ _ 0 _).block _ K3.out.lt (by simp))
        · rw [LST.out]; exact K5.out.set _
    case done =>
      clear c4 hc3 hmk hW2 hW1 cd
      rintro D' ys W hD hS ⟨⟨⟨hrow, q4, q5, q2⟩, hB⟩, ⟨q0, q1⟩, hgood⟩ hK
      have hc := q4.cell
      have hcv := Rowb.str_at hrow A A hgood.len
      have HE : Hid (outV a d = ⟨(so A a ys).toArray⟩ ∧ outB a d = true) := by
        have hg := hgood.got
        unfold st at hg
        rw [hS, HP.out, HAA.out] at hg
        have := yes_fold HF.out hg
        rw [← HAA.out] at this
        exact this
      have f0 := q0.frozen
      have f1 := q1.frozen
      have p0 := q0.cell
      have p1 := q1.cell
      dsimp only
      gi_wp2
      have hK' := ((KeepsOthers.setCell W ⟨w.heap.size, 0, none⟩ (.string ⟨(so A a ys).toArray⟩)).trans (KeepsOthers.setCell _ ⟨w.heap.size + 1, 0, none⟩ (.bool true))).same D' _ hK rfl
      have r0 := ((q0.set (.string ⟨(so A a ys).toArray⟩)).other (B' := w.heap.size + 1) (by omega) (.bool true)).cell
      have r1 := ((q1.other (B' := w.heap.size) (by omega) (.string ⟨(so A a ys).toArray⟩)).set (.bool true)).cell
      have r0 := cell_kept r0 (grownBy_putObj' _ D' (.deferred none)) (fun r e => by cases e; exact ⟨_, hK', rfl⟩)
      have r1 := cell_kept r1 (grownBy_putObj' _ D' (.deferred none)) (fun r e => by cases e; exact ⟨_, hK', rfl⟩)
      refine ⟨by simp, .inl ⟨_, _, rfl, run_takeDeferred hK', ?_⟩⟩
      refine ⟨.tuple #[.string ⟨(so A a ys).toArray⟩, .bool true], ?_, ret_two' HE.out, ((hB.setCell (p := ⟨w.heap.size, 0, none⟩) (Nat.le_refl _) _).setCell (p := ⟨w.heap.size + 1, 0, none⟩) (by simp) _).trans (belowK_b (w := w) (Nat.le_refl _) _ D' _ _ (by simp at hD; omega) hK' rfl rfl)⟩
      simp [results, Try.results10, go_sem, r0, r1]
    case stop =>
      clear c4 hc3 hmk hW2 hW1 cd
      rintro D' c pre W hD ⟨rest, hS⟩ ⟨hB, ⟨q0, q1⟩, rfl, hno⟩ hK
      have HE : Hid (outV a d = ⟨#[]⟩ ∧ outB a d = false) := by
        have hg := hno rest
        rw [hS, HP.out, HAA.out] at hg
        exact no_fold HF.out hg
      gi_wp2
      have r0 := cell_kept q0.cell (grownBy_putObj' _ D' (.deferred none)) (fun r e => by cases e; exact ⟨_, hK, rfl⟩)
      have r1 := cell_kept q1.cell (grownBy_putObj' _ D' (.deferred none)) (fun r e => by cases e; exact ⟨_, hK, rfl⟩)
      refine ⟨by simp, .inl ⟨_, _, rfl, run_takeDeferred hK, ?_⟩⟩
      refine ⟨.tuple #[.string ⟨#[]⟩, .bool false], ?_, ret_two' HE.out, hB.trans (belowK_b (w := w) (Nat.le_refl _) _ D' _ _ (by simp at hD; omega) hK rfl rfl)⟩
      simp [results, Try.results10, go_sem, r0, r1]
  · have HE : Hid (outV a d = ⟨#[]⟩ ∧ outB a d = false) := no_form hf
    refine callsIn_wide.2 ?_
    go_enter Try.func10, Try.ntmps10
    go_wp2_with fail
    go_at_call 20
    refine (cd _).mono ?_
    rintro e w1 ⟨⟨P, A, ok, rfl, hA, hform, hmid⟩, k1, hk1⟩
    have b0 : Boxed w1 w.heap.size 9 (.string ⟨#[]⟩) := by rw [hk1]; exact B0.out.kept (grow_drewN _ _) (by simp)
    have b1 : Boxed w1 (w.heap.size + 1) 4 (.bool false) := by rw [hk1]; exact B1.out.kept (grow_drewN _ _) (by simp)
    have z2 : w1.heap.size = w.heap.size + 1 + 1 := by rw [hk1]; exact z1
    have hB2 : Below w.heap.size w w1 := by rw [hk1]; exact HB1.out.grown (grow_drewN _ _) HB1.out.size (fun k e => by cases e)
    obtain ⟨W2, hW2⟩ : ∃ W2, w1.alloc (.cells #[.int .i64 (A : Nat)] 3) = W2 := ⟨_, rfl⟩
    have q0 : Boxed W2 w.heap.size 9 (.string ⟨#[]⟩) := by rw [← hW2]; exact b0.alloc _
    have q1 : Boxed W2 (w.heap.size + 1) 4 (.bool false) := by rw [← hW2]; exact b1.alloc _
    have q2 : Boxed W2 (w.heap.size + 1 + 1) 3 (.int .i64 (A : Nat)) := by rw [← hW2]; have := Boxed.new w1 3 (.int .i64 (A : Nat)); rw [z2] at this; exact this
    have hb2 : Below w.heap.size w W2 := by rw [← hW2]; exact hB2.alloc (by omega) _
    have f0 := q0.frozen
    have f1 := q1.frozen
    have p0 := q0.cell
    have p1 := q1.cell
    have p2 := q2.cell
    have r0 := ((q0.set (.string ⟨#[]⟩)).other (B' := w.heap.size + 1) (by omega) (.bool false)).cell
    have r1 := ((q1.other (B' := w.heap.size) (by omega) (.string ⟨#[]⟩)).set (.bool false)).cell
    have HNF : Hid (¬ (a.size ≤ 20000 ∧ ok = true ∧ A ≤ 20000)) := fun h => hf (hform.2 h)
    have BEL : Hid (Below w.heap.size w ((W2.setCell ⟨w.heap.size, 0, none⟩ (.string ⟨#[]⟩)).setCell ⟨w.heap.size + 1, 0, none⟩ (.bool false))) := (hb2.setCell (p := ⟨w.heap.size, 0, none⟩) (Nat.le_refl _) _).setCell (p := ⟨w.heap.size + 1, 0, none⟩) (by simp) _
    clear hform hmid hk1 z1 b0 b1 hB2 q0 q1 q2 hb2 cd hf B0 B1 HB1
    by_cases c1 : 20000 < a.size
    · have d1 : decide ((20000 : Int) < (a.size : Int)) = true := decide_eq_true (by omega)
      go_wp2
      exact bodyPost_ret (v := .tuple #[.string ⟨#[]⟩, .bool false]) (by simp [results, Try.results10, go_sem, r0, r1]) rfl ⟨ret_two' HE.out, BEL.out⟩
    · have d1 : decide ((20000 : Int) < (a.size : Int)) = false := decide_eq_false (by omega)
      cases ok with
      | false =>
        go_wp2
        exact bodyPost_ret (v := .tuple #[.string ⟨#[]⟩, .bool false]) (by simp [results, Try.results10, go_sem, r0, r1]) rfl ⟨ret_two' HE.out, BEL.out⟩
      | true =>
        have hA3 : 20000 < A := Nat.lt_of_not_le (fun h => HNF.out ⟨by omega, rfl, h⟩)
        have d6 : decide ((20000 : Int) < (A : Int)) = true := decide_eq_true (by omega)
        have d6' : (20000 : Int) < (A : Int) := by omega
        go_wp2
        exact bodyPost_ret (v := .tuple #[.string ⟨#[]⟩, .bool false]) (by simp [results, Try.results10, go_sem, r0, r1]) rfl ⟨ret_two' HE.out, BEL.out⟩
end Go.Proofs.Ytbfjalpkdgepnaa.Appk
