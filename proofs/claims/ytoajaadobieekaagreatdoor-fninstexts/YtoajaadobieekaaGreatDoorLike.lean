/-
  A contract of ours for impl.insLike: whether a text is an instruction's of one code, and which.
-/
import Derived.Test.YtoajaadobieekaaGreatDoorFits
namespace Go.Proofs.YtoajaadobieekaaGreatDoor.Like
open Go.ChangeShapes Go.WideShapes Go.ChangeAt Go.RowKit
open Signed (inB l1In_any)
open HoleX (n8 n16 e8 holeT holeP)
open HolI LenX InsX Texi Fits
set_option linter.unusedVariables false
set_option maxRecDepth 20000

theorem fro {w w' : World} {vs : Array Value} {T : TypeId} (h : Below (w.alloc (.cells vs T)).heap.size (w.alloc (.cells vs T)) w') (i : Nat) : w'.frozen? ⟨w.heap.size, i, none⟩ = false := by
  rw [h.frozen (p := ⟨w.heap.size, i, none⟩) (by simp)]
  exact World.frozen?_alloc_new w vs T i
theorem box2 {w w' : World} {o : Obj} {vs : Array Value} {T : TypeId} (h : Below ((w.alloc o).alloc (.cells vs T)).heap.size ((w.alloc o).alloc (.cells vs T)) w') (i : Nat) (v : Value) (hv : vs[i]? = some v) : w'.cell? ⟨w.heap.size + 1, i, none⟩ = some v := by
  have := box (w := w.alloc o) h i v hv
  rwa [World.size_alloc] at this
theorem fro2 {w w' : World} {o : Obj} {vs : Array Value} {T : TypeId} (h : Below ((w.alloc o).alloc (.cells vs T)).heap.size ((w.alloc o).alloc (.cells vs T)) w') (i : Nat) : w'.frozen? ⟨w.heap.size + 1, i, none⟩ = false := by
  have := fro (w := w.alloc o) h i
  rwa [World.size_alloc] at this
theorem first2 {w w' : World} {o : Obj} {vs : Array Value} {T : TypeId} (h : Below ((w.alloc (.cells vs T)).alloc o).heap.size ((w.alloc (.cells vs T)).alloc o) w') : Below (w.alloc (.cells vs T)).heap.size (w.alloc (.cells vs T)) w' := unbox h
theorem two {w : World} {o p : Obj} : Below w.heap.size w ((w.alloc o).alloc p) := ((Below.refl _ _).alloc (Nat.le_refl _) _).alloc (by simp) _
/-- What stands ahead of a template's hole, and behind it. -/
def ahead (code : Int) (cb : Bool) : ByteArray := (Tmpl.tmplS code cb).extract 0 (holeP (Tmpl.tmplS code cb)).toNat
def behind (code : Int) (cb : Bool) : ByteArray := (Tmpl.tmplS code cb).extract ((holeP (Tmpl.tmplS code cb)).toNat + (hole code cb).size) (Tmpl.tmplS code cb).size
def valI (s : ByteArray) (code : Int) (cb : Bool) : Int := if (hole code cb).size = 0 then 0 else if stands s (ahead code cb) (behind code cb) = true then hv (inner s (ahead code cb) (behind code cb)) else 0
def flagI (s : ByteArray) (code : Int) (cb : Bool) : Bool := if (hole code cb).size = 0 then s.toList == (Tmpl.tmplS code cb).toList else stands s (ahead code cb) (behind code cb) && (textV code cb (hv (inner s (ahead code cb) (behind code cb)))).toList == s.toList
theorem inner_le (s A Z : ByteArray) (hs : s.size ≤ 1048576) : (inner s A Z).size ≤ 1048576 := by
  unfold inner
  have h1 := Lib.trimSuffix_le (Lib.trimPrefix s.data.toList A.data.toList) Z.data.toList
  have h2 := Lib.trimPrefix_le s.data.toList A.data.toList
  have h3 : s.data.toList.length = s.size := Array.length_toList
  show (Lib.trimSuffix (Lib.trimPrefix s.data.toList A.data.toList) Z.data.toList).toArray.size ≤ _
  rw [List.size_toArray]
  omega
theorem cut_all : ∀ (c : Fin 256) (b : Bool), holeI (Tmpl.tmplS (c.val : Int) b) = hole (c.val : Int) b ∧ (¬ (hole (c.val : Int) b).size = 0 → (⟨(Lib.cut (Tmpl.tmplS (c.val : Int) b).data.toList (hole (c.val : Int) b).data.toList).1.toArray⟩ : ByteArray) = ahead (c.val : Int) b ∧ (⟨(Lib.cut (Tmpl.tmplS (c.val : Int) b).data.toList (hole (c.val : Int) b).data.toList).2.1.toArray⟩ : ByteArray) = behind (c.val : Int) b) := by decide +kernel
theorem cut_at (code : Int) (cb : Bool) (h0 : 0 ≤ code) (h1 : code ≤ 255) : holeI (Tmpl.tmplS code cb) = hole code cb ∧ (¬ (hole code cb).size = 0 → (⟨(Lib.cut (Tmpl.tmplS code cb).data.toList (hole code cb).data.toList).1.toArray⟩ : ByteArray) = ahead code cb ∧ (⟨(Lib.cut (Tmpl.tmplS code cb).data.toList (hole code cb).data.toList).2.1.toArray⟩ : ByteArray) = behind code cb) := by
  have := cut_all ⟨code.toNat, by omega⟩ cb
  rwa [show ((⟨code.toNat, by omega⟩ : Fin 256).val : Int) = code by show ((code.toNat : Nat) : Int) = code; omega] at this
set_option maxHeartbeats 1000000 in
theorem like_any (s : ByteArray) (code : Int) (cb : Bool) (w : World) (hT : PartN.Tables w) (hP : Pow w) (hm : MaxL w) (hs : s.size ≤ 1048576) (h0 : 0 ≤ code) (h1 : code ≤ 255) :
    Calls Tryz.prog 17 #[.string s, .int .i64 code, .bool cb] w fun e w' => e = .returned (.tuple #[.agg #[.int .i64 code, .bool cb, .int .i64 (valI s code cb)], .bool (flagI s code cb)]) ∧ Below w.heap.size w w' := by
  have HX : Hid (PartN.Tables w ∧ Pow w ∧ MaxL w) := ⟨hT, hP, hm⟩
  clear hT hP hm
  have ct := fun w hT => TmplI.implTemplate_any code cb w hT
  have ht : TmplI.tmpl code cb = Tmpl.tmplS code cb := by unfold TmplI.tmpl; rw [if_pos (show inB code 0 255 = true from decide_eq_true ⟨h0, h1⟩)]
  rw [ht] at ct
  have hz := Leng.tmpl_le code cb h0 h1
  obtain ⟨a1, a2⟩ := cut_at code cb h0 h1
  have ch := fun w hm => holeOf_any (Tmpl.tmplS code cb) w (by omega) hm
  rw [a1] at ch
  by_cases hh : (hole code cb).size = 0
  · have ev : valI s code cb = 0 := by unfold valI; rw [if_pos hh]
    have ef : flagI s code cb = (s.toList == (Tmpl.tmplS code cb).toList) := by unfold flagI; rw [if_pos hh]
    rw [ev, ef]
    have he := Leng.empty_yes hh
    clear ev ef a1 a2 ht hh
    generalize hole code cb = G at ch he
    generalize Tmpl.tmplS code cb = T at ct ch hz ⊢
    go_enter Tryz.func17, Tryz.ntmps17
    go_wp2_with fail
    refine (ct _ (HX.out.1.below two)).mono ?_
    rintro e w1 ⟨rfl, b1⟩
    have BK : Hid (Below _ _ w1) := b1
    clear b1 ct
    go_wp2_with fail
    refine (ch _ (HX.out.2.2.below (unbox (first2 BK.out)))).mono ?_
    rintro e w2 ⟨rfl, b2⟩
    have BK : Hid (Below _ _ w2) := after BK.out b2
    clear b2 ch
    have r0 := box (first2 BK.out) 0 _ rfl
    have r1 := box (first2 BK.out) 1 _ rfl
    have r2 := box (first2 BK.out) 2 _ rfl
    have f0 := fro (first2 BK.out) 0
    have f1 := fro (first2 BK.out) 1
    have f2 := fro (first2 BK.out) 2
    have i0 := box2 BK.out 0 _ rfl
    have i1 := box2 BK.out 1 _ rfl
    have i2 := box2 BK.out 2 _ rfl
    have j2 := fro2 BK.out 2
    go_wp2
    all_goals exact bodyPost_ret (v := .tuple #[.agg #[.int .i64 code, .bool cb, .int .i64 0], .bool (s.toList == T.toList)]) (by simp [results, Tryz.results17, go_sem, r0, r1, r2]) rfl ⟨rfl, ((((unbox (first2 BK.out)).setCell (p := ⟨w.heap.size, 0, none⟩) (Nat.le_refl _) _).setCell (p := ⟨w.heap.size, 1, none⟩) (Nat.le_refl _) _).setCell (p := ⟨w.heap.size, 2, none⟩) (Nat.le_refl _) _)⟩
  · obtain ⟨a3, a4⟩ := a2 hh
    have he := Leng.empty_no hh
    have chi := fun w hm => inHole_any s (Tmpl.tmplS code cb) (hole code cb) (ahead code cb) (behind code cb) w hm hs hz a3 a4
    by_cases hst : stands s (ahead code cb) (behind code cb) = true
    · have ev : valI s code cb = hv (inner s (ahead code cb) (behind code cb)) := by unfold valI; rw [if_neg hh, if_pos hst]
      have ef : flagI s code cb = ((textV code cb (hv (inner s (ahead code cb) (behind code cb)))).toList == s.toList) := by unfold flagI; rw [if_neg hh, hst]; rfl
      rw [ev, ef]
      rw [hst] at chi
      have hin : (inner s (ahead code cb) (behind code cb)).size ≤ 1048576 := inner_le s _ _ hs
      have cv := fun w hT => holeValue_any (inner s (ahead code cb) (behind code cb)) w hT hin
      generalize inner s (ahead code cb) (behind code cb) = I at chi cv ⊢
      generalize hv I = V at cv ⊢
      have cx := fun w hT hP hm => Texj.implText_any code cb V w hT hP hm
      generalize textV code cb V = X at cx ⊢
      clear ev ef a1 a2 a3 a4 ht hh hst hin
      generalize hole code cb = G at ch he chi
      generalize Tmpl.tmplS code cb = T at ct ch hz chi
      go_enter Tryz.func17, Tryz.ntmps17
      go_wp2_with fail
      refine (ct _ (HX.out.1.below two)).mono ?_
      rintro e w1 ⟨rfl, b1⟩
      have BK : Hid (Below _ _ w1) := b1
      clear b1 ct
      go_wp2_with fail
      refine (ch _ (HX.out.2.2.below (unbox (first2 BK.out)))).mono ?_
      rintro e w2 ⟨rfl, b2⟩
      have BK : Hid (Below _ _ w2) := after BK.out b2
      clear b2 ch
      go_wp2_with fail
      refine (chi _ (HX.out.2.2.below (unbox (first2 BK.out)))).mono ?_
      rintro e w3 ⟨rfl, b3⟩
      have BK : Hid (Below _ _ w3) := after BK.out b3
      clear b3 chi
      have r0 := box (first2 BK.out) 0 _ rfl
      have r1 := box (first2 BK.out) 1 _ rfl
      have r2 := box (first2 BK.out) 2 _ rfl
      have f0 := fro (first2 BK.out) 0
      have f1 := fro (first2 BK.out) 1
      have f2 := fro (first2 BK.out) 2
      have i0 := box2 BK.out 0 _ rfl
      have i1 := box2 BK.out 1 _ rfl
      have i2 := box2 BK.out 2 _ rfl
      have j2 := fro2 BK.out 2
      go_wp2_with first | (go_at_call 49; refine (cv _ (HX.out.1.below (unbox (first2 BK.out)))).mono ?_; rintro e w' ⟨rfl, hw⟩; have hw := hw.symm; subst hw) | fail
      have BS : Hid (Below w.heap.size w (w3.setCell ⟨w.heap.size + 1, 2, none⟩ (.int .i64 V))) := (unbox (first2 BK.out)).setCell (p := ⟨w.heap.size + 1, 2, none⟩) (Nat.le_succ _) _
      have hsz : w.heap.size + 1 < (w3.setCell ⟨w.heap.size + 1, 2, none⟩ (.int .i64 V)).heap.size := by
        have := BK.out.size
        simp [World.setCell] at this ⊢
        omega
      have HC : Hid (∀ w4, Below (w3.setCell ⟨w.heap.size + 1, 2, none⟩ (.int .i64 V)).heap.size (w3.setCell ⟨w.heap.size + 1, 2, none⟩ (.int .i64 V)) w4 → (w4.cell? ⟨w.heap.size + 1, 0, none⟩ = some (.int .i64 code) ∧ w4.cell? ⟨w.heap.size + 1, 1, none⟩ = some (.bool cb) ∧ w4.cell? ⟨w.heap.size + 1, 2, none⟩ = some (.int .i64 V) ∧ w4.cell? ⟨w.heap.size, 0, none⟩ = some (.int .i64 0) ∧ w4.cell? ⟨w.heap.size, 1, none⟩ = some (.bool false) ∧ w4.cell? ⟨w.heap.size, 2, none⟩ = some (.int .i64 0) ∧ w4.frozen? ⟨w.heap.size, 0, none⟩ = false ∧ w4.frozen? ⟨w.heap.size, 1, none⟩ = false ∧ w4.frozen? ⟨w.heap.size, 2, none⟩ = false)) := fun w4 b4 => by
        refine ⟨?_, ?_, ?_, ?_, ?_, ?_, ?_, ?_, ?_⟩
        · rw [b4.cell (p := ⟨w.heap.size + 1, 0, none⟩) hsz, World.cell?_setCell_other _ _ _ _ (by simp)]; exact i0
        · rw [b4.cell (p := ⟨w.heap.size + 1, 1, none⟩) hsz, World.cell?_setCell_other _ _ _ _ (by simp)]; exact i1
        · rw [b4.cell (p := ⟨w.heap.size + 1, 2, none⟩) hsz]; exact World.cell?_setCell_same _ _ _ i2
        · rw [b4.cell (p := ⟨w.heap.size, 0, none⟩) (Nat.lt_of_succ_lt hsz), World.cell?_setCell_other _ _ _ _ (by simp)]; exact r0
        · rw [b4.cell (p := ⟨w.heap.size, 1, none⟩) (Nat.lt_of_succ_lt hsz), World.cell?_setCell_other _ _ _ _ (by simp)]; exact r1
        · rw [b4.cell (p := ⟨w.heap.size, 2, none⟩) (Nat.lt_of_succ_lt hsz), World.cell?_setCell_other _ _ _ _ (by simp)]; exact r2
        · rw [b4.frozen (p := ⟨w.heap.size, 0, none⟩) (Nat.lt_of_succ_lt hsz), World.frozen?_setCell]; exact f0
        · rw [b4.frozen (p := ⟨w.heap.size, 1, none⟩) (Nat.lt_of_succ_lt hsz), World.frozen?_setCell]; exact f1
        · rw [b4.frozen (p := ⟨w.heap.size, 2, none⟩) (Nat.lt_of_succ_lt hsz), World.frozen?_setCell]; exact f2
      clear hsz
      go_region_with (first
        | (go_at_call 6; refine (cx _ (HX.out.1.below BS.out.drew) (HX.out.2.1.below BS.out.drew) (HX.out.2.2.below BS.out.drew)).mono ?_; rintro e w4 ⟨rfl, b4⟩; obtain ⟨m0, m1, m2, s0, s1, s2, t0, t1, t2⟩ := HC.out w4 (TmplI.undrew b4); have BL : Hid (Below w.heap.size w w4) := after BS.out (TmplI.undrew b4); clear b4)
        | fail)
      all_goals
        clear HC cx cv BS i0 i1 i2 j2 r0 r1 r2 f0 f1 f2
        go_wp2
        exact bodyPost_ret (v := .tuple #[.agg #[.int .i64 code, .bool cb, .int .i64 V], .bool (X.toList == s.toList)]) (by simp [results, Tryz.results17, go_sem, s0, s1, s2]) rfl ⟨rfl, ((BL.out.setCell (p := ⟨w.heap.size, 0, none⟩) (Nat.le_refl _) _).setCell (p := ⟨w.heap.size, 1, none⟩) (Nat.le_refl _) _).setCell (p := ⟨w.heap.size, 2, none⟩) (Nat.le_refl _) _⟩
    · have ev : valI s code cb = 0 := by unfold valI; rw [if_neg hh, if_neg hst]
      have ef : flagI s code cb = false := by unfold flagI; rw [if_neg hh]; simp [hst]
      rw [ev, ef]
      rw [show stands s (ahead code cb) (behind code cb) = false by simpa using hst] at chi
      generalize inner s (ahead code cb) (behind code cb) = I at chi
      clear ev ef a1 a2 a3 a4 ht hh hst
      generalize hole code cb = G at ch he chi
      generalize Tmpl.tmplS code cb = T at ct ch hz chi ⊢
      go_enter Tryz.func17, Tryz.ntmps17
      go_wp2_with fail
      refine (ct _ (HX.out.1.below two)).mono ?_
      rintro e w1 ⟨rfl, b1⟩
      have BK : Hid (Below _ _ w1) := b1
      clear b1 ct
      go_wp2_with fail
      refine (ch _ (HX.out.2.2.below (unbox (first2 BK.out)))).mono ?_
      rintro e w2 ⟨rfl, b2⟩
      have BK : Hid (Below _ _ w2) := after BK.out b2
      clear b2 ch
      go_wp2_with fail
      refine (chi _ (HX.out.2.2.below (unbox (first2 BK.out)))).mono ?_
      rintro e w3 ⟨rfl, b3⟩
      have BK : Hid (Below _ _ w3) := after BK.out b3
      clear b3 chi
      have r0 := box (first2 BK.out) 0 _ rfl
      have r1 := box (first2 BK.out) 1 _ rfl
      have r2 := box (first2 BK.out) 2 _ rfl
      have f0 := fro (first2 BK.out) 0
      have f1 := fro (first2 BK.out) 1
      have f2 := fro (first2 BK.out) 2
      have i0 := box2 BK.out 0 _ rfl
      have i1 := box2 BK.out 1 _ rfl
      have i2 := box2 BK.out 2 _ rfl
      have j2 := fro2 BK.out 2
      go_wp2
      all_goals exact bodyPost_ret (v := .tuple #[.agg #[.int .i64 code, .bool cb, .int .i64 0], .bool false]) (by simp [results, Tryz.results17, go_sem, r0, r1, r2]) rfl ⟨rfl, ((((unbox (first2 BK.out)).setCell (p := ⟨w.heap.size, 0, none⟩) (Nat.le_refl _) _).setCell (p := ⟨w.heap.size, 1, none⟩) (Nat.le_refl _) _).setCell (p := ⟨w.heap.size, 2, none⟩) (Nat.le_refl _) _)⟩
end Go.Proofs.YtoajaadobieekaaGreatDoor.Like
