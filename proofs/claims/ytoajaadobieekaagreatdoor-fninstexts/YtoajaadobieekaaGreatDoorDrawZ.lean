/-
  What the draws of texts of instructions can answer (chapter 3); and nothing old is written.
-/
import Derived.Test.YtoajaadobieekaaGreatDoorDrawI
import Derived.Test.YtoajaadobieekaaGreatDoorDraw
import Derived.Test.YtoajaadobieekaaGreatDoorTwin
import Derived.Test.YtoajaadobieekaaGreatDoorTexj
namespace Go.Proofs.YtoajaadobieekaaGreatDoor.DrawZ
open Go.ChangeShapes Go.WideShapes Go.ChangeAt Go.RowKit
open Rdr (Rd Post)
open HoleX (n8 n16 e8 holeT holeP)
open HolI LenX InsX DrawI
set_option linter.unusedVariables false
set_option maxRecDepth 20000

theorem drawInsText_any (a : Option Addr) (len cap : Nat) (zs : List Int) (w : World) (h : Rdr.IsRow .u8 w a len cap zs) :
    Calls Tryz.prog 5 #[.slice a len cap] w fun e w' => (∃ (c : Int) (b : Bool) (m : Int), 0 ≤ c ∧ c ≤ 255 ∧ I64 m ∧ e = .returned (.agg #[.int .i64 c, .bool b, .int .i64 m])) ∧ Below w.heap.size w w' := by
  have H : Hid (Rdr.IsRow .u8 w a len cap zs) := h
  clear h
  go_enter Tryz.func5, Tryz.ntmps5
  go_wp2_with fail
  refine (drawInsOk_any _ _ _ _ _ (H.out.below ((Below.refl _ _).alloc (Nat.le_refl _) _))).mono ?_
  rintro e w2 ⟨⟨c, b, m, c0, c1, hm, rfl⟩, b2⟩
  have BR : Hid (Box w2 w.heap.size 0 false 0) := (Box.new w 0 false 0 _).below b2
  have HC : Hid (0 ≤ c ∧ c ≤ 255 ∧ I64 m) := ⟨c0, c1, hm⟩
  have B2 : Hid (Below w.heap.size w w2) := unbox b2
  clear c0 c1 hm b2
  obtain ⟨r0, r1, r2, rf⟩ := BR.out
  have rf0 := rf 0
  have rf1 := rf 1
  have rf2 := rf 2
  clear rf
  go_wp2
  exact bodyPost_ret (v := .agg #[.int .i64 c, .bool b, .int .i64 m]) (by simp [results, Tryz.results5, go_sem, r0, r1, r2]) rfl ⟨⟨c, b, m, HC.out.1, HC.out.2.1, HC.out.2.2, rfl⟩, ((B2.out.setCell (p := ⟨w.heap.size, 0, none⟩) (Nat.le_refl _) _).setCell (p := ⟨w.heap.size, 1, none⟩) (Nat.le_refl _) _).setCell (p := ⟨w.heap.size, 2, none⟩) (Nat.le_refl _) _⟩
theorem text_small (c : Int) (b : Bool) (m : Int) (h0 : 0 ≤ c) (h1 : c ≤ 255) : (Texi.textV c b m).size ≤ 20 := by
  cases ho : okV c b m with
  | false => unfold Texi.textV; rw [if_pos ho]; show (0 : Nat) ≤ 20; omega
  | true =>
    obtain ⟨k, hk, rfl, rfl⟩ := Twin.at_num (c := c) b h0 h1
    exact Twin.text_le hk ho
set_option maxHeartbeats 1000000 in
theorem drawReadInsText_any (a : Option Addr) (len cap : Nat) (zs : List Int) (w : World) (h : Rdr.IsRow .u8 w a len cap zs) :
    Calls Tryz.prog 10 #[.slice a len cap] w fun e w' => (∃ t : ByteArray, t.size ≤ 21 ∧ e = .returned (.string t)) ∧ Below w.heap.size w w' := by
  have H : Hid (Rdr.IsRow .u8 w a len cap zs) := h
  clear h
  go_enter Tryz.func10, Tryz.ntmps10
  go_wp2_with fail
  refine (Rdr.open_any _ _ _ _ _ H.out).mono ?_
  rintro e w1 ⟨rfl, hr, hb⟩
  have HR : Hid (Rd w1 w.heap.size) := hr
  have B1 : Hid (Below w.heap.size w w1) := hb
  have hlt := hr.lt
  clear hr hb
  generalize hB : w.heap.size = rb at HR B1 hlt ⊢
  go_wp2_with fail
  refine (ins_any _ _ HR.out).mono ?_
  rintro e w2 ⟨⟨c, b, m, c0, c1, hm, rfl⟩, p2⟩
  have HP : Hid (Post w1 rb w2) := p2
  have hz := text_small c b m c0 c1
  have cs := fun w => Texj.specText_any c b m w
  generalize Texi.textV c b m = T at hz cs
  clear p2 hm c0 c1
  go_wp2_with fail
  refine (cs _).mono ?_
  rintro e w3 ⟨rfl, b3⟩
  have HP : Hid (Post w1 rb w3) := HP.out.trans (postB HP.out.1 b3)
  clear b3
  go_wp2_with fail
  refine (Rdr.once_any _ _ _ HP.out.1 (by decide) (by decide)).mono ?_
  rintro e w4 ⟨⟨q, rfl⟩, p4⟩
  have HP : Hid (Post w1 rb w4) := HP.out.trans p4
  clear p4
  cases q
  · go_wp2
    go_ret
    exact ⟨⟨T, by omega, rfl⟩, by rw [hB]; exact B1.out.trans (HP.out.below (Nat.le_refl _) (Nat.le_of_lt hlt))⟩
  · go_wp2_with fail
    refine (Draw.hurt_any _ _ _ HP.out.1 (by omega)).mono ?_
    rintro e w5 ⟨⟨t, ht, rfl⟩, p5⟩
    have HP : Hid (Post w1 rb w5) := HP.out.trans p5
    clear p5
    go_wp2
    go_ret
    exact ⟨⟨t, by omega, rfl⟩, by rw [hB]; exact B1.out.trans (HP.out.below (Nat.le_refl _) (Nat.le_of_lt hlt))⟩
end Go.Proofs.YtoajaadobieekaaGreatDoor.DrawZ
