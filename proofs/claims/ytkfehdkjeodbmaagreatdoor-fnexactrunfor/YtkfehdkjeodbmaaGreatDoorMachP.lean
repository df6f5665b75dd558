/-
  A machine that came in, opened.
-/
import Derived.Test.YtkfehdkjeodbmaaGreatDoorMachT
import Derived.RegionTactic
namespace Go.Proofs.YtkfehdkjeodbmaaGreatDoor.MachP
set_option maxRecDepth 20000
open Go.ChangeShapes Go.WideShapes Go.ChangeAt Go.RowKit Go.Deep
set_option linter.unusedVariables false
open CartL Outs

theorem cellsU : Tryz.prog.cellsOf 23 = 12 := by kernel_rfl
theorem cellsM : Tryz.prog.cellsOf 28 = 23 := by kernel_rfl
theorem cellsO : Tryz.prog.cellsOf 26 = 1 := by kernel_rfl
theorem fieldsU : ∃ f0 f1 f2 f3 f4 f5 f6 f7 f8 f9 f10 f11 : Field, Tryz.prog.underlying 23 = some (.struct #[f0, f1, f2, f3, f4, f5, f6, f7, f8, f9, f10, f11]) ∧ (f0.type = 2 ∧ f0.offset = 0) ∧ (f1.type = 2 ∧ f1.offset = 1) ∧ (f2.type = 2 ∧ f2.offset = 2) ∧ (f3.type = 2 ∧ f3.offset = 3) ∧ (f4.type = 2 ∧ f4.offset = 4) ∧ (f5.type = 2 ∧ f5.offset = 5) ∧ (f6.type = 2 ∧ f6.offset = 6) ∧ (f7.type = 2 ∧ f7.offset = 7) ∧ (f8.type = 2 ∧ f8.offset = 8) ∧ (f9.type = 2 ∧ f9.offset = 9) ∧ (f10.type = 4 ∧ f10.offset = 10) ∧ (f11.type = 4 ∧ f11.offset = 11) :=
  ⟨_, _, _, _, _, _, _, _, _, _, _, _, Tryz.underlying23, ⟨rfl, rfl⟩, ⟨rfl, rfl⟩, ⟨rfl, rfl⟩, ⟨rfl, rfl⟩, ⟨rfl, rfl⟩, ⟨rfl, rfl⟩, ⟨rfl, rfl⟩, ⟨rfl, rfl⟩, ⟨rfl, rfl⟩, ⟨rfl, rfl⟩, ⟨rfl, rfl⟩, ⟨rfl, rfl⟩⟩
theorem cpu_of {H : Type} {enc : TypeId × Value → H} {w : World} {base : Nat} {spare : Nat → Bool} {held : Bool} {fuel : Nat} {cs : List Value} {x : DataW H × List MemPlace}
    (h : DataW.trod enc Tryz.prog w base spare held fuel 23 cs = some x) :
    ∃ (ra rf rB rC rD rE rH rL sp pc : Int) (ime hal : Bool), cs = [.int .i64 ra, .int .i64 rf, .int .i64 rB, .int .i64 rC, .int .i64 rD, .int .i64 rE, .int .i64 rH, .int .i64 rL, .int .i64 sp, .int .i64 pc, .bool ime, .bool hal] := by
  obtain ⟨f0, f1, f2, f3, f4, f5, f6, f7, f8, f9, f10, f11, hf, ⟨t0, o0⟩, ⟨t1, o1⟩, ⟨t2, o2⟩, ⟨t3, o3⟩, ⟨t4, o4⟩, ⟨t5, o5⟩, ⟨t6, o6⟩, ⟨t7, o7⟩, ⟨t8, o8⟩, ⟨t9, o9⟩, ⟨t10, o10⟩, ⟨t11, o11⟩⟩ := fieldsU
  obtain ⟨xs, n, _, _, hl, hlen, g⟩ := DataW.trod_struct hf h
  rw [cellsU] at hl
  match cs, hl, xs, hlen with
  | [v0, v1, v2, v3, v4, v5, v6, v7, v8, v9, v10, v11], _, [y0, y1, y2, y3, y4, y5, y6, y7, y8, y9, y10, y11], _ =>
    have g0 := g 0 f0 rfl
    have g1 := g 1 f1 rfl
    have g2 := g 2 f2 rfl
    have g3 := g 3 f3 rfl
    have g4 := g 4 f4 rfl
    have g5 := g 5 f5 rfl
    have g6 := g 6 f6 rfl
    have g7 := g 7 f7 rfl
    have g8 := g 8 f8 rfl
    have g9 := g 9 f9 rfl
    have g10 := g 10 f10 rfl
    have g11 := g 11 f11 rfl
    rw [t0, o0, CartL.cells2] at g0
    rw [t1, o1, CartL.cells2] at g1
    rw [t2, o2, CartL.cells2] at g2
    rw [t3, o3, CartL.cells2] at g3
    rw [t4, o4, CartL.cells2] at g4
    rw [t5, o5, CartL.cells2] at g5
    rw [t6, o6, CartL.cells2] at g6
    rw [t7, o7, CartL.cells2] at g7
    rw [t8, o8, CartL.cells2] at g8
    rw [t9, o9, CartL.cells2] at g9
    rw [t10, o10, CartL.cells4] at g10
    rw [t11, o11, CartL.cells4] at g11
    obtain ⟨n0, e0, _⟩ := DataW.trod_int Tryz.underlying2 g0
    obtain ⟨n1, e1, _⟩ := DataW.trod_int Tryz.underlying2 g1
    obtain ⟨n2, e2, _⟩ := DataW.trod_int Tryz.underlying2 g2
    obtain ⟨n3, e3, _⟩ := DataW.trod_int Tryz.underlying2 g3
    obtain ⟨n4, e4, _⟩ := DataW.trod_int Tryz.underlying2 g4
    obtain ⟨n5, e5, _⟩ := DataW.trod_int Tryz.underlying2 g5
    obtain ⟨n6, e6, _⟩ := DataW.trod_int Tryz.underlying2 g6
    obtain ⟨n7, e7, _⟩ := DataW.trod_int Tryz.underlying2 g7
    obtain ⟨n8, e8, _⟩ := DataW.trod_int Tryz.underlying2 g8
    obtain ⟨n9, e9, _⟩ := DataW.trod_int Tryz.underlying2 g9
    obtain ⟨b10, e10, _⟩ := DataW.trod_bool Tryz.underlying4 g10
    obtain ⟨b11, e11, _⟩ := DataW.trod_bool Tryz.underlying4 g11
    simp at e0 e1 e2 e3 e4 e5 e6 e7 e8 e9 e10 e11
    subst e0 e1 e2 e3 e4 e5 e6 e7 e8 e9 e10 e11
    exact ⟨n0, n1, n2, n3, n4, n5, n6, n7, n8, n9, b10, b11, rfl⟩
theorem fieldsM : ∃ f0 f1 f2 f3 f4 f5 : Field, Tryz.prog.underlying 28 = some (.struct #[f0, f1, f2, f3, f4, f5]) ∧ (f0.type = 23 ∧ f0.offset = 0) ∧ (f1.type = 25 ∧ f1.offset = 12) ∧ (f2.type = 9 ∧ f2.offset = 19) ∧ (f3.type = 9 ∧ f3.offset = 20) ∧ (f4.type = 26 ∧ f4.offset = 21) ∧ (f5.type = 2 ∧ f5.offset = 22) :=
  ⟨_, _, _, _, _, _, Tryz.underlying28, ⟨rfl, rfl⟩, ⟨rfl, rfl⟩, ⟨rfl, rfl⟩, ⟨rfl, rfl⟩, ⟨rfl, rfl⟩, ⟨rfl, rfl⟩⟩
theorem machine_of {H : Type} {enc : TypeId × Value → H} {w : World} {base : Nat} {spare : Nat → Bool} {held : Bool} {fuel : Nat} {cs : List Value} {x : DataW H × List MemPlace}
    (h : DataW.trod enc Tryz.prog w base spare held fuel 28 cs = some x) :
    ∃ (ra rf rB rC rD rE rH rL sp pc : Int) (ime hal : Bool) (rom : ByteArray) (kind bank : Int) (ram : ByteArray) (rb : Int) (on : Bool) (mode : Int) (work high : ByteArray) (po : Option Addr) (L : List Int) (cap : Nat) (cyc : Int),
      cs = [.int .i64 ra, .int .i64 rf, .int .i64 rB, .int .i64 rC, .int .i64 rD, .int .i64 rE, .int .i64 rH, .int .i64 rL, .int .i64 sp, .int .i64 pc, .bool ime, .bool hal, .string rom, .int .i64 kind, .int .i64 bank, .string ram, .int .i64 rb, .bool on, .int .i64 mode, .string work, .string high, .slice po L.length cap, .int .i64 cyc] ∧
      rom.size ≤ maxLen ∧ ram.size ≤ maxLen ∧ work.size ≤ maxLen ∧ high.size ≤ maxLen ∧ L.length ≤ maxLen ∧ Row w po L := by
  obtain ⟨f0, f1, f2, f3, f4, f5, hf, ⟨t0, o0⟩, ⟨t1, o1⟩, ⟨t2, o2⟩, ⟨t3, o3⟩, ⟨t4, o4⟩, ⟨t5, o5⟩⟩ := fieldsM
  obtain ⟨xs, n, _, _, hl, hlen, g⟩ := DataW.trod_struct hf h
  rw [cellsM] at hl
  match cs, hl, xs, hlen with
  | [v0, v1, v2, v3, v4, v5, v6, v7, v8, v9, v10, v11, v12, v13, v14, v15, v16, v17, v18, v19, v20, v21, v22], _, [y0, y1, y2, y3, y4, y5], _ =>
    have g0 := g 0 f0 rfl
    have g1 := g 1 f1 rfl
    have g2 := g 2 f2 rfl
    have g3 := g 3 f3 rfl
    have g4 := g 4 f4 rfl
    have g5 := g 5 f5 rfl
    rw [t0, o0, cellsU] at g0
    rw [t1, o1, cellsC] at g1
    rw [t2, o2, CartL.cells9] at g2
    rw [t3, o3, CartL.cells9] at g3
    rw [t4, o4, cellsO] at g4
    rw [t5, o5, CartL.cells2] at g5
    obtain ⟨ra, rf, rB, rC, rD, rE, rH, rL, sp, pc, ime, hal, e0⟩ := cpu_of g0
    obtain ⟨rom, kind, bank, ram, rb, on, mode, e1, z1, z2⟩ := cart_of g1
    obtain ⟨work, e2, _, z3⟩ := DataW.trod_string Tryz.underlying9 g2
    obtain ⟨high, e3, _, z4⟩ := DataW.trod_string Tryz.underlying9 g3
    obtain ⟨po, len, cap, L, e4, hL, z5, hr⟩ := row_of g4
    obtain ⟨cyc, e5, _⟩ := DataW.trod_int Tryz.underlying2 g5
    simp at e0 e1 e2 e3 e4 e5
    obtain ⟨rfl, rfl, rfl, rfl, rfl, rfl, rfl, rfl, rfl, rfl, rfl, rfl⟩ := e0
    obtain ⟨rfl, rfl, rfl, rfl, rfl, rfl, rfl⟩ := e1
    subst e2 e3 e4 e5 hL
    exact ⟨ra, rf, rB, rC, rD, rE, rH, rL, sp, pc, ime, hal, rom, kind, bank, ram, rb, on, mode, work, high, po, L, cap, cyc, rfl, z1, z2, z3, z4, z5, hr⟩
theorem any_cons {P : Program} {ops : Array Oper} {Q : Exit → Act → World → Prop} {md : Region.Mode} {fuel : Nat} {listed : Array Bool} {a : Act} {w : World} {i : Nat} {o : Oper} {rs : List Nat} (ho : ops[i]? = some o) (hg : o.guard = none)
    (h : ∀ K' : Act → World → Prop, (∀ a w, wpAny P md ops Q fuel (listed.setIfInBounds i true) a w → K' a w) → Oper.wp P o a w K' Q) (hs : AllReady P md ops Q fuel listed a w rs) : AllReady P md ops Q fuel listed a w (i :: rs) :=
  AllReady.cons ho (fun K hK => by simp only [Region.wanted, hg, if_true]; exact h K hK) hs
end Go.Proofs.YtkfehdkjeodbmaaGreatDoor.MachP
