/-
  What the draws of chapter 4 can answer (spec's DrawAlu, DrawStepped8, DrawTurned, DrawDaa, DrawAddWords, DrawAddSigned): numbers of 64 bits, and nothing old is written.
-/
import Derived.Test.YtmdaieopnapbgaaRd
import Derived.OwnWalk
namespace Go.Proofs.Ytmdaieopnapbgaa.DrawR
open Go.ChangeShapes Go.WideShapes Go.ChangeAt Go.RowKit
open Rdr (Rd Post)

theorem flags_any (rb : Nat) (w : World) (h : Rd w rb) :
    Calls Try.prog 36 #[.pointer (some ⟨rb, 0, none⟩)] w fun e w' => (∃ x : Int, 0 ≤ x ∧ x ≤ 255 ∧ e = .returned (.int .i64 x)) ∧ Post w rb w' := by
  have H : Hid (Rd w rb) := h
  clear h
  go_enter Try.func36, Try.ntmps36
  go_wp2_with (go_at_call 34; refine (Rdr.below_any _ _ _ H.out (by decide) (by decide)).mono ?_; rintro e w' ⟨⟨x, x0, x1, rfl⟩, hp⟩)
  go_ret
  exact ⟨⟨16 * x, by omega, by omega, rfl⟩, hp⟩

theorem results_tmp4 {fn : Func} {t u v x : Tmp} (h : fn.results = #[.tmp t, .tmp u, .tmp v, .tmp x]) (tmps : Array Value) (P : Program) (w : World) :
    (results fn tmps).run P w = .ok (.tuple #[tmps.getD t undef, tmps.getD u undef, tmps.getD v undef, tmps.getD x undef]) w := by
  simp [results, h]
def I64 (x : Int) : Prop := (Lit.int .i64 x).wf = true
theorem I64.small {x : Int} (h0 : 0 ≤ x) (h1 : x ≤ 65535) : I64 x := Rdr.wf_small (by omega) (by omega)
theorem drawAlu_any (a : Option Addr) (len cap : Nat) (zs : List Int) (w : World) (h : Rdr.IsRow .u8 w a len cap zs) :
    Calls Try.prog 12 #[.slice a len cap] w fun e w' => (∃ x y z u : Int, I64 x ∧ I64 y ∧ I64 z ∧ I64 u ∧ e = .returned (.tuple #[.int .i64 x, .int .i64 y, .int .i64 z, .int .i64 u])) ∧ Below w.heap.size w w' := by
  have H : Hid (Rdr.IsRow .u8 w a len cap zs) := h
  clear h
  go_enter Try.func12, Try.ntmps12
  go_wp2_with fail
  refine (Rdr.open_any _ _ _ _ _ H.out).mono ?_
  rintro e w1 ⟨rfl, hr, hb⟩
  go_wp2_with fail
  refine (Rdr.once_any _ _ _ hr (by decide) (by decide)).mono ?_
  rintro e w2 ⟨⟨x, rfl⟩, hp⟩
  have hz := hb.size
  cases x with
  | true =>
    go_wp2_with fail
    refine (Rdr.off_any _ _ _ _ hp.1 (by decide) (by decide) (by decide)).mono ?_
    rintro e w3 ⟨⟨x, hx, rfl⟩, hp1⟩
    go_wp2_with fail
    refine (Rdr.off_any _ _ _ _ hp1.1 (by decide) (by decide) (by decide)).mono ?_
    rintro e w4 ⟨⟨y, hy, rfl⟩, hp2⟩
    go_wp2_with fail
    refine (Rdr.off_any _ _ _ _ hp2.1 (by decide) (by decide) (by decide)).mono ?_
    rintro e w5 ⟨⟨z, hzz, rfl⟩, hp3⟩
    go_wp2_with fail
    refine (Rdr.off_any _ _ _ _ hp3.1 (by decide) (by decide) (by decide)).mono ?_
    rintro e w6 ⟨⟨u, hu, rfl⟩, hp4⟩
    go_wp2
    try simp only [Exit.inBlock, Exit.then]
    refine bodyPost_ret (results_tmp4 rfl _ _ _) rfl ?_
    exact ⟨⟨x, y, z, u, hx, hy, hzz, hu, rfl⟩, hb.trans (((((hp.trans hp1).trans hp2).trans hp3).trans hp4).below (Nat.le_refl _) hz)⟩
  | false =>
    go_wp2_with fail
    refine (Rdr.below_any _ _ _ hp.1 (by decide) (by decide)).mono ?_
    rintro e w3 ⟨⟨x, x0, x1, rfl⟩, hp1⟩
    go_wp2_with fail
    refine (Rdr.byte_any _ _ hp1.1).mono ?_
    rintro e w4 ⟨⟨y, y0, y1, rfl⟩, hp2⟩
    go_wp2_with fail
    refine (Rdr.byte_any _ _ hp2.1).mono ?_
    rintro e w5 ⟨⟨z, z0, z1, rfl⟩, hp3⟩
    go_wp2_with fail
    refine (flags_any _ _ hp3.1).mono ?_
    rintro e w6 ⟨⟨u, u0, u1, rfl⟩, hp4⟩
    go_wp2
    try simp only [Exit.inBlock, Exit.then]
    refine bodyPost_ret (results_tmp4 rfl _ _ _) rfl ?_
    exact ⟨⟨x, y, z, u, .small x0 (by omega), .small y0 (by omega), .small z0 (by omega), .small u0 (by omega), rfl⟩, hb.trans (((((hp.trans hp1).trans hp2).trans hp3).trans hp4).below (Nat.le_refl _) hz)⟩
theorem drawTurned_any (a : Option Addr) (len cap : Nat) (zs : List Int) (w : World) (h : Rdr.IsRow .u8 w a len cap zs) :
    Calls Try.prog 18 #[.slice a len cap] w fun e w' => (∃ x y z : Int, I64 x ∧ I64 y ∧ I64 z ∧ e = .returned (.tuple #[.int .i64 x, .int .i64 y, .int .i64 z])) ∧ Below w.heap.size w w' := by
  have H : Hid (Rdr.IsRow .u8 w a len cap zs) := h
  clear h
  go_enter Try.func18, Try.ntmps18
  go_wp2_with fail
  refine (Rdr.open_any _ _ _ _ _ H.out).mono ?_
  rintro e w1 ⟨rfl, hr, hb⟩
  go_wp2_with fail
  refine (Rdr.once_any _ _ _ hr (by decide) (by decide)).mono ?_
  rintro e w2 ⟨⟨x, rfl⟩, hp⟩
  have hz := hb.size
  cases x with
  | true =>
    go_wp2_with fail
    refine (Rdr.off_any _ _ _ _ hp.1 (by decide) (by decide) (by decide)).mono ?_
    rintro e w3 ⟨⟨x, hx, rfl⟩, hp1⟩
    go_wp2_with fail
    refine (Rdr.off_any _ _ _ _ hp1.1 (by decide) (by decide) (by decide)).mono ?_
    rintro e w4 ⟨⟨y, hy, rfl⟩, hp2⟩
    go_wp2_with fail
    refine (Rdr.off_any _ _ _ _ hp2.1 (by decide) (by decide) (by decide)).mono ?_
    rintro e w5 ⟨⟨z, hzz, rfl⟩, hp3⟩
    go_wp2
    go_ret3
    exact ⟨⟨x, y, z, hx, hy, hzz, rfl⟩, hb.trans ((((hp.trans hp1).trans hp2).trans hp3).below (Nat.le_refl _) hz)⟩
  | false =>
    go_wp2_with fail
    refine (Rdr.below_any _ _ _ hp.1 (by decide) (by decide)).mono ?_
    rintro e w3 ⟨⟨x, x0, x1, rfl⟩, hp1⟩
    go_wp2_with fail
    refine (Rdr.byte_any _ _ hp1.1).mono ?_
    rintro e w4 ⟨⟨y, y0, y1, rfl⟩, hp2⟩
    go_wp2_with fail
    refine (flags_any _ _ hp2.1).mono ?_
    rintro e w5 ⟨⟨z, z0, z1, rfl⟩, hp3⟩
    go_wp2
    go_ret3
    exact ⟨⟨x, y, z, .small x0 (by omega), .small y0 (by omega), .small z0 (by omega), rfl⟩, hb.trans ((((hp.trans hp1).trans hp2).trans hp3).below (Nat.le_refl _) hz)⟩
theorem drawStepped8_any (a : Option Addr) (len cap : Nat) (zs : List Int) (w : World) (h : Rdr.IsRow .u8 w a len cap zs) :
    Calls Try.prog 15 #[.slice a len cap] w fun e w' => (∃ (x y : Int) (z : Bool), I64 x ∧ I64 y ∧ e = .returned (.tuple #[.int .i64 x, .int .i64 y, .bool z])) ∧ Below w.heap.size w w' := by
  have H : Hid (Rdr.IsRow .u8 w a len cap zs) := h
  clear h
  go_enter Try.func15, Try.ntmps15
  go_wp2_with fail
  refine (Rdr.open_any _ _ _ _ _ H.out).mono ?_
  rintro e w1 ⟨rfl, hr, hb⟩
  have hz := hb.size
  go_wp2_with fail
  refine (Rdr.byte_any _ _ hr).mono ?_
  rintro e w2 ⟨⟨x, x0, x1, rfl⟩, hp⟩
  go_wp2_with fail
  refine (Rdr.once_any _ _ _ hp.1 (by decide) (by decide)).mono ?_
  rintro e w3 ⟨⟨q, rfl⟩, hp1⟩
  cases q with
  | true =>
    go_wp2_with fail
    refine (Rdr.off_any _ _ _ _ hp1.1 (by decide) (by decide) (by decide)).mono ?_
    rintro e w4 ⟨⟨y, hy, rfl⟩, hp2⟩
    go_wp2_with fail
    refine (flags_any _ _ hp2.1).mono ?_
    rintro e w5 ⟨⟨z, z0, z1, rfl⟩, hp3⟩
    go_wp2_with fail
    refine (Rdr.once_any _ _ _ hp3.1 (by decide) (by decide)).mono ?_
    rintro e w6 ⟨⟨u, rfl⟩, hp4⟩
    go_wp2
    go_ret3
    exact ⟨⟨y, z, u, hy, .small z0 (by omega), rfl⟩, hb.trans (((((hp.trans hp1).trans hp2).trans hp3).trans hp4).below (Nat.le_refl _) hz)⟩
  | false =>
    go_wp2_with fail
    refine (flags_any _ _ hp1.1).mono ?_
    rintro e w5 ⟨⟨z, z0, z1, rfl⟩, hp3⟩
    go_wp2_with fail
    refine (Rdr.once_any _ _ _ hp3.1 (by decide) (by decide)).mono ?_
    rintro e w6 ⟨⟨u, rfl⟩, hp4⟩
    go_wp2
    go_ret3
    exact ⟨⟨x, z, u, .small x0 (by omega), .small z0 (by omega), rfl⟩, hb.trans ((((hp.trans hp1).trans hp3).trans hp4).below (Nat.le_refl _) hz)⟩
theorem drawDaa_any (a : Option Addr) (len cap : Nat) (zs : List Int) (w : World) (h : Rdr.IsRow .u8 w a len cap zs) :
    Calls Try.prog 21 #[.slice a len cap] w fun e w' => (∃ x y : Int, I64 x ∧ I64 y ∧ e = .returned (.tuple #[.int .i64 x, .int .i64 y])) ∧ Below w.heap.size w w' := by
  have H : Hid (Rdr.IsRow .u8 w a len cap zs) := h
  clear h
  go_enter Try.func21, Try.ntmps21
  go_wp2_with fail
  refine (Rdr.open_any _ _ _ _ _ H.out).mono ?_
  rintro e w1 ⟨rfl, hr, hb⟩
  have hz := hb.size
  go_wp2_with fail
  refine (Rdr.byte_any _ _ hr).mono ?_
  rintro e w2 ⟨⟨x, x0, x1, rfl⟩, hp⟩
  go_wp2_with fail
  refine (Rdr.once_any _ _ _ hp.1 (by decide) (by decide)).mono ?_
  rintro e w3 ⟨⟨q, rfl⟩, hp1⟩
  cases q with
  | true =>
    go_wp2_with fail
    refine (Rdr.off_any _ _ _ _ hp1.1 (by decide) (by decide) (by decide)).mono ?_
    rintro e w4 ⟨⟨y, hy, rfl⟩, hp2⟩
    go_wp2_with fail
    refine (flags_any _ _ hp2.1).mono ?_
    rintro e w5 ⟨⟨z, z0, z1, rfl⟩, hp3⟩
    go_wp2
    go_ret2
    exact ⟨⟨y, z, hy, .small z0 (by omega), rfl⟩, hb.trans ((((hp.trans hp1).trans hp2).trans hp3).below (Nat.le_refl _) hz)⟩
  | false =>
    go_wp2_with fail
    refine (flags_any _ _ hp1.1).mono ?_
    rintro e w5 ⟨⟨z, z0, z1, rfl⟩, hp3⟩
    go_wp2
    go_ret2
    exact ⟨⟨x, z, .small x0 (by omega), .small z0 (by omega), rfl⟩, hb.trans (((hp.trans hp1).trans hp3).below (Nat.le_refl _) hz)⟩
theorem drawAddSigned_any (a : Option Addr) (len cap : Nat) (zs : List Int) (w : World) (h : Rdr.IsRow .u8 w a len cap zs) :
    Calls Try.prog 27 #[.slice a len cap] w fun e w' => (∃ x y : Int, I64 x ∧ I64 y ∧ e = .returned (.tuple #[.int .i64 x, .int .i64 y])) ∧ Below w.heap.size w w' := by
  have H : Hid (Rdr.IsRow .u8 w a len cap zs) := h
  clear h
  go_enter Try.func27, Try.ntmps27
  go_wp2_with fail
  refine (Rdr.open_any _ _ _ _ _ H.out).mono ?_
  rintro e w1 ⟨rfl, hr, hb⟩
  have hz := hb.size
  go_wp2_with fail
  refine (Rdr.off_any _ _ _ _ hr (by decide) (by decide) (by decide)).mono ?_
  rintro e w2 ⟨⟨x, hx, rfl⟩, hp⟩
  go_wp2_with fail
  refine (Rdr.once_any _ _ _ hp.1 (by decide) (by decide)).mono ?_
  rintro e w3 ⟨⟨q, rfl⟩, hp1⟩
  cases q with
  | false =>
    go_wp2_with fail
    refine (Rdr.below_any _ _ _ hp1.1 (by decide) (by decide)).mono ?_
    rintro e w4 ⟨⟨y, y0, y1, rfl⟩, hp2⟩
    go_wp2_with fail
    refine (Rdr.byte_any _ _ hp2.1).mono ?_
    rintro e w5 ⟨⟨z, z0, z1, rfl⟩, hp3⟩
    go_wp2
    go_ret2
    exact ⟨⟨y, z, .small y0 (by omega), .small z0 (by omega), rfl⟩, hb.trans ((((hp.trans hp1).trans hp2).trans hp3).below (Nat.le_refl _) hz)⟩
  | true =>
    go_wp2_with fail
    refine (Rdr.byte_any _ _ hp1.1).mono ?_
    rintro e w5 ⟨⟨z, z0, z1, rfl⟩, hp3⟩
    go_wp2
    go_ret2
    exact ⟨⟨x, z, hx, .small z0 (by omega), rfl⟩, hb.trans (((hp.trans hp1).trans hp3).below (Nat.le_refl _) hz)⟩
theorem drawAddWords_any (a : Option Addr) (len cap : Nat) (zs : List Int) (w : World) (h : Rdr.IsRow .u8 w a len cap zs) :
    Calls Try.prog 24 #[.slice a len cap] w fun e w' => (∃ x y z : Int, I64 x ∧ I64 y ∧ I64 z ∧ e = .returned (.tuple #[.int .i64 x, .int .i64 y, .int .i64 z])) ∧ Below w.heap.size w w' := by
  have H : Hid (Rdr.IsRow .u8 w a len cap zs) := h
  clear h
  go_enter Try.func24, Try.ntmps24
  go_wp2_with fail
  refine (Rdr.open_any _ _ _ _ _ H.out).mono ?_
  rintro e w1 ⟨rfl, hr, hb⟩
  have hz := hb.size
  go_wp2_with fail
  refine (Rdr.off_any _ _ _ _ hr (by decide) (by decide) (by decide)).mono ?_
  rintro e w2 ⟨⟨x, hx, rfl⟩, hp⟩
  go_wp2_with fail
  refine (Rdr.once_any _ _ _ hp.1 (by decide) (by decide)).mono ?_
  rintro e w3 ⟨⟨q, rfl⟩, hp1⟩
  cases q with
  | false =>
    go_wp2_with fail
    refine (Rdr.below_any _ _ _ hp1.1 (by decide) (by decide)).mono ?_
    rintro e w4 ⟨⟨y, y0, y1, rfl⟩, hp2⟩
    go_wp2_with fail
    refine (Rdr.below_any _ _ _ hp2.1 (by decide) (by decide)).mono ?_
    rintro e w5 ⟨⟨z, z0, z1, rfl⟩, hp3⟩
    go_wp2_with fail
    refine (Rdr.below_any _ _ _ (hp3.alloc _).1 (by decide) (by decide)).mono ?_
    rintro e w6 ⟨⟨i, i0, i1, rfl⟩, hp4⟩
    have hc : ∃ u : Int, I64 u ∧ w6.cell? ⟨w5.heap.size, i.toNat, none⟩ = some (.int .i64 u) := by
      have hl := hp3.1.lt
      have e : ∀ j : Nat, w6.cell? ⟨w5.heap.size, j, none⟩ = #[Value.int .i64 0, .int .i64 1, .int .i64 4095, .int .i64 4096, .int .i64 65535, .int .i64 32768, .int .i64 z][j]? := fun j =>
        (World.cell?_of_block (a := ⟨w5.heap.size, j, none⟩) (hp4.2.block _ (by simp) (fun e => by have : w5.heap.size = w.heap.size := Option.some.inj e; omega))).trans (World.cell?_alloc_new _ _ _ _)
      have hi : i = 0 ∨ i = 1 ∨ i = 2 ∨ i = 3 ∨ i = 4 ∨ i = 5 ∨ i = 6 := by omega
      rcases hi with rfl | rfl | rfl | rfl | rfl | rfl | rfl
      · exact ⟨_, .small (by decide) (by decide), e 0⟩
      · exact ⟨_, .small (by decide) (by decide), e 1⟩
      · exact ⟨_, .small (by decide) (by decide), e 2⟩
      · exact ⟨_, .small (by decide) (by decide), e 3⟩
      · exact ⟨_, .small (by decide) (by decide), e 4⟩
      · exact ⟨_, .small (by decide) (by decide), e 5⟩
      · exact ⟨_, .small z0 (by omega), e 6⟩
    obtain ⟨u, hu, hc⟩ := hc
    go_wp2_with fail
    refine (flags_any _ _ hp4.1).mono ?_
    rintro e w7 ⟨⟨g, g0, g1, rfl⟩, hp5⟩
    go_wp2
    go_ret3
    exact ⟨⟨y, u, g, .small y0 (by omega), hu, .small g0 (by omega), rfl⟩, hb.trans ((((((hp.trans hp1).trans hp2).trans (hp3.alloc _)).trans hp4).trans hp5).below (Nat.le_refl _) hz)⟩
  | true =>
    go_wp2_with fail
    refine (Rdr.below_any _ _ _ hp1.1 (by decide) (by decide)).mono ?_
    rintro e w5 ⟨⟨z, z0, z1, rfl⟩, hp3⟩
    go_wp2_with fail
    refine (Rdr.below_any _ _ _ (hp3.alloc _).1 (by decide) (by decide)).mono ?_
    rintro e w6 ⟨⟨i, i0, i1, rfl⟩, hp4⟩
    have hc : ∃ u : Int, I64 u ∧ w6.cell? ⟨w5.heap.size, i.toNat, none⟩ = some (.int .i64 u) := by
      have hl := hp3.1.lt
      have e : ∀ j : Nat, w6.cell? ⟨w5.heap.size, j, none⟩ = #[Value.int .i64 0, .int .i64 1, .int .i64 4095, .int .i64 4096, .int .i64 65535, .int .i64 32768, .int .i64 z][j]? := fun j =>
        (World.cell?_of_block (a := ⟨w5.heap.size, j, none⟩) (hp4.2.block _ (by simp) (fun e => by have : w5.heap.size = w.heap.size := Option.some.inj e; omega))).trans (World.cell?_alloc_new _ _ _ _)
      have hi : i = 0 ∨ i = 1 ∨ i = 2 ∨ i = 3 ∨ i = 4 ∨ i = 5 ∨ i = 6 := by omega
      rcases hi with rfl | rfl | rfl | rfl | rfl | rfl | rfl
      · exact ⟨_, .small (by decide) (by decide), e 0⟩
      · exact ⟨_, .small (by decide) (by decide), e 1⟩
      · exact ⟨_, .small (by decide) (by decide), e 2⟩
      · exact ⟨_, .small (by decide) (by decide), e 3⟩
      · exact ⟨_, .small (by decide) (by decide), e 4⟩
      · exact ⟨_, .small (by decide) (by decide), e 5⟩
      · exact ⟨_, .small z0 (by omega), e 6⟩
    obtain ⟨u, hu, hc⟩ := hc
    go_wp2_with fail
    refine (flags_any _ _ hp4.1).mono ?_
    rintro e w7 ⟨⟨g, g0, g1, rfl⟩, hp5⟩
    go_wp2
    go_ret3
    exact ⟨⟨x, u, g, hx, hu, .small g0 (by omega), rfl⟩, hb.trans (((((hp.trans hp1).trans (hp3.alloc _)).trans hp4).trans hp5).below (Nat.le_refl _) hz)⟩

end Go.Proofs.Ytmdaieopnapbgaa.DrawR
