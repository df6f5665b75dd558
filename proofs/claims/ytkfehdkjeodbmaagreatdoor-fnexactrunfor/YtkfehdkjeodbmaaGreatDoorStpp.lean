/-
  What an instruction does to a machine, told of numbers alone.
-/
import Derived.Test.YtkfehdkjeodbmaaGreatDoorBusx
import Derived.Test.YtkfehdkjeodbmaaGreatDoorReckD
import Derived.Test.YtkfehdkjeodbmaaGreatDoorTurnS
namespace Go.Proofs.YtkfehdkjeodbmaaGreatDoor.Stpp
open Go.ChangeShapes Go.WideShapes Go.ChangeAt Go.RowKit
set_option linter.unusedVariables false
set_option linter.unusedSimpArgs false
open Signed (inB sgn)
open Reck ReckS ReckM ReckD TurnS
open Busw (M wrM Rt)
def rd (m : M) (a : Int) : Int := MachB.busV m.rom m.kind m.bank m.ram m.rb m.on m.mode m.work m.high a
theorem rd_bd (m : M) (a : Int) : 0 ≤ rd m a ∧ rd m a ≤ 255 := by
  unfold rd MachB.busV
  split
  · exact CartR.byteAt_bd _ _
  · split
    · exact CartR.byteAt_bd _ _
    · exact CartR.rdV_bd _ _ _ _ _ _
/-- A machine that works, and whether something could not be told. -/
structure S where
  m : M
  full : Bool
def wr (s : S) (a v : Int) : S := match wrM s.m (a % 65536) v with | some m' => ⟨m', s.full⟩ | none => ⟨s.m, true⟩
def hl (m : M) : Int := 256 * m.rH + m.rL
def reg (m : M) (n : Int) : Int := if n = 0 then m.rB else if n = 1 then m.rC else if n = 2 then m.rD else if n = 3 then m.rE else if n = 4 then m.rH else if n = 5 then m.rL else m.ra
def setR (m : M) (n v : Int) : M := if n = 0 then { m with rB := v } else if n = 1 then { m with rC := v } else if n = 2 then { m with rD := v } else if n = 3 then { m with rE := v } else if n = 4 then { m with rH := v } else if n = 5 then { m with rL := v } else { m with ra := v }
def get (m : M) (n : Int) : Int := if n = 6 then rd m (hl m) else reg m n
def put (s : S) (n v : Int) : S := if n = 6 then wr s (hl s.m) v else ⟨setR s.m n v, s.full⟩
def pr (m : M) (p : Int) : Int := if p = 0 then 256 * m.rB + m.rC else if p = 1 then 256 * m.rD + m.rE else if p = 2 then 256 * m.rH + m.rL else m.sp
def setP (m : M) (p v : Int) : M := if p = 0 then { m with rB := v / 256, rC := v % 256 } else if p = 1 then { m with rD := v / 256, rE := v % 256 } else if p = 2 then { m with rH := v / 256, rL := v % 256 } else { m with sp := v }
def prQ (m : M) (p : Int) : Int := if p = 3 then 256 * m.ra + m.rf else pr m p
def setQ (m : M) (p v : Int) : M := if p = 3 then { m with ra := v / 256, rf := v % 256 / 16 * 16 } else setP m p v
def push (s : S) (v : Int) : S := ⟨{ (wr (wr s (s.m.sp + 65535) (v / 256)) (s.m.sp + 65534) (v % 256)).m with sp := (s.m.sp + 65534) % 65536 }, (wr (wr s (s.m.sp + 65535) (v / 256)) (s.m.sp + 65534) (v % 256)).full⟩
def popV (m : M) : Int := rd m m.sp + 256 * rd m ((m.sp + 1) % 65536)
def popM (m : M) : M := { m with sp := (m.sp + 2) % 65536 }
def cond (m : M) (k : Int) : Bool := decide (m.rf / (if 1 < k then 16 else 128) % 2 = k % 2)
def bitV (y : Int) : Int := if y = 0 then 1 else if y = 1 then 2 else if y = 2 then 4 else if y = 3 then 8 else if y = 4 then 16 else if y = 5 then 32 else if y = 6 then 64 else 128
/-- Its flags. -/
def F (s : S) (f : Int) : S := ⟨{ s.m with rf := f }, s.full⟩
def AF (s : S) (p : Int × Int) : S := ⟨{ s.m with ra := p.1, rf := p.2 }, s.full⟩
def cbE (code : Int) (s : S) : S :=
  if code / 64 = 0 then F (put s (code % 8) (trnR (code / 8 % 8) (get s.m (code % 8)) s.m.rf).1) (trnR (code / 8 % 8) (get s.m (code % 8)) s.m.rf).2
  else if code / 64 = 1 then F s (fl (decide (bits .and .i64 (get s.m (code % 8)) (bitV (code / 8 % 8)) = 0)) false true (cB s.m.rf))
  else if code / 64 = 2 then put s (code % 8) (bits .andNot .i64 (get s.m (code % 8)) (bitV (code / 8 % 8)))
  else put s (code % 8) (bits .or .i64 (get s.m (code % 8)) (bitV (code / 8 % 8)))
def oddE (y : Int) (s : S) : S :=
  if y = 4 then AF s (daaR s.m.ra s.m.rf)
  else if y = 5 then AF s (255 - s.m.ra, fl (zB s.m.rf) true true (cB s.m.rf))
  else if y = 6 then F s (fl (zB s.m.rf) false false true)
  else if y = 7 then F s (fl (zB s.m.rf) false false (!cB s.m.rf))
  else AF s ((trnR y s.m.ra s.m.rf).1, fl false false false (cB (trnR y s.m.ra s.m.rf).2))
def spE (imm : Int) (s : S) : S := wr (wr s imm (s.m.sp % 256)) (imm + 1) (s.m.sp / 256)
def jrE (imm : Int) (s : S) : S := ⟨{ s.m with pc := (s.m.pc + sgn imm + 65536) % 65536 }, s.full⟩
def addE (p : Int) (s : S) : S := ⟨{ setP s.m 2 (awR (hl s.m) (pr s.m p) s.m.rf).1 with rf := (awR (hl s.m) (pr s.m p) s.m.rf).2 }, s.full⟩
def placeOf (m : M) (p : Int) : Int := pr m (if p < 2 then p else 2)
def stepHl (m : M) (p : Int) : M := if 1 < p then setP m 2 ((hl m + (if p = 2 then 1 else 65535)) % 65536) else m
def stE (p : Int) (s : S) : S := ⟨stepHl (wr s (placeOf s.m p) s.m.ra).m p, (wr s (placeOf s.m p) s.m.ra).full⟩
def ldE (p : Int) (s : S) : S := ⟨stepHl { s.m with ra := rd s.m (placeOf s.m p) } p, s.full⟩
def lowE (code imm : Int) (s : S) : S × Bool :=
  if code % 8 = 0 then (if code / 8 = 1 then (spE imm s, false) else if code / 8 = 3 ∨ (3 < code / 8 ∧ cond s.m (code / 8 - 4) = true) then (jrE imm s, true) else (s, false))
  else if code % 8 = 1 then (if code / 8 % 2 = 0 then (⟨setP s.m (code / 8 / 2) imm, s.full⟩, false) else (addE (code / 8 / 2) s, false))
  else if code % 8 = 2 then (if code / 8 % 2 = 0 then (stE (code / 8 / 2) s, false) else (ldE (code / 8 / 2) s, false))
  else if code % 8 = 3 then (⟨setP s.m (code / 8 / 2) ((pr s.m (code / 8 / 2) + (if code / 8 % 2 = 0 then 1 else 65535)) % 65536), s.full⟩, false)
  else if code % 8 = 4 then (F (put s (code / 8) (st8R (get s.m (code / 8)) s.m.rf false).1) (st8R (get s.m (code / 8)) s.m.rf false).2, false)
  else if code % 8 = 5 then (F (put s (code / 8) (st8R (get s.m (code / 8)) s.m.rf true).1) (st8R (get s.m (code / 8)) s.m.rf true).2, false)
  else if code % 8 = 6 then (put s (code / 8) imm, false)
  else (oddE (code / 8) s, false)
def retE (i : Bool) (s : S) : S := ⟨{ popM s.m with pc := popV s.m, ime := s.m.ime || i }, s.full⟩
def A (s : S) (v : Int) : S := ⟨{ s.m with ra := v }, s.full⟩
def callE (at_ : Int) (s : S) : S := ⟨{ (push s s.m.pc).m with pc := at_ }, (push s s.m.pc).full⟩
def topE (code imm : Int) (s : S) : S × Bool :=
  if (code % 8 = 0 ∧ code / 8 % 8 < 4 ∧ cond s.m (code / 8 % 8) = true) ∨ code = 201 ∨ code = 217 then (retE (decide (code = 217)) s, true)
  else if code = 224 then (wr s (65280 + imm) s.m.ra, false)
  else if code = 226 then (wr s (65280 + s.m.rC) s.m.ra, false)
  else if code = 240 then (A s (rd s.m (65280 + imm)), false)
  else if code = 242 then (A s (rd s.m (65280 + s.m.rC)), false)
  else if code = 234 then (wr s imm s.m.ra, false)
  else if code = 250 then (A s (rd s.m imm), false)
  else if code = 232 then (⟨{ s.m with sp := (asR s.m.sp imm).1, rf := (asR s.m.sp imm).2 }, s.full⟩, false)
  else if code = 248 then (⟨{ setP s.m 2 (asR s.m.sp imm).1 with rf := (asR s.m.sp imm).2 }, s.full⟩, false)
  else if code = 249 then (⟨{ s.m with sp := hl s.m }, s.full⟩, false)
  else if code = 233 then (⟨{ s.m with pc := hl s.m }, s.full⟩, false)
  else if code % 8 = 1 ∧ code / 8 % 8 % 2 = 0 then (⟨setQ (popM s.m) (code / 8 % 8 / 2) (popV s.m), s.full⟩, false)
  else if code % 8 = 5 ∧ code / 8 % 8 % 2 = 0 then (push s (prQ s.m (code / 8 % 8 / 2)), false)
  else if (code % 8 = 2 ∧ code / 8 % 8 < 4 ∧ cond s.m (code / 8 % 8) = true) ∨ code = 195 then (⟨{ s.m with pc := imm }, s.full⟩, true)
  else if code = 243 ∨ code = 251 then (⟨{ s.m with ime := decide (code = 251) }, s.full⟩, false)
  else if (code % 8 = 4 ∧ cond s.m (code / 8 % 8) = true) ∨ code = 205 then (callE imm s, true)
  else if code % 8 = 6 then (AF s (aluR (code / 8 % 8) s.m.ra imm s.m.rf), false)
  else if code % 8 = 7 then (callE (8 * (code / 8 % 8)) s, false)
  else (s, false)
/-- What an instruction does, Pc behind it; whether it went elsewhere. -/
def sem (code : Int) (cb : Bool) (imm : Int) (s : S) : S × Bool :=
  if cb = true then (cbE code s, false)
  else if code < 64 then lowE code imm s
  else if code = 118 then (⟨{ s.m with hal := true }, s.full⟩, false)
  else if code < 128 then (put s (code / 8 % 8) (get s.m (code % 8)), false)
  else if code < 192 then (AF s (aluR (code / 8 % 8) s.m.ra (get s.m (code % 8)) s.m.rf), false)
  else topE code imm s
/-- The registers of one, the memory of the other. -/
def withCpu (m c : M) : M := { m with ra := c.ra, rf := c.rf, rB := c.rB, rC := c.rC, rD := c.rD, rE := c.rE, rH := c.rH, rL := c.rL, sp := c.sp, pc := c.pc, ime := c.ime, hal := c.hal, cyc := c.cyc }
theorem wrM_cpu (m c : M) (a v : Int) : wrM (withCpu m c) a v = (wrM m a v).map (fun m' => withCpu m' c) := by
  unfold wrM
  by_cases h1 : inB a 49152 49407 = true
  · rw [if_pos h1, if_pos h1]; rfl
  rw [if_neg h1, if_neg h1]
  by_cases h2 : inB a 65408 65534 = true
  · rw [if_pos h2, if_pos h2]; rfl
  rw [if_neg h2, if_neg h2]
  by_cases h3 : a = 65281
  · rw [if_pos h3, if_pos h3]
    by_cases h4 : 100 ≤ m.out.length
    · have h5 : 100 ≤ (withCpu m c).out.length := h4
      rw [if_pos h4, if_pos h5]; rfl
    · have h5 : ¬ 100 ≤ (withCpu m c).out.length := h4
      rw [if_neg h4, if_neg h5]; rfl
  · rw [if_neg h3, if_neg h3]; rfl
theorem withCpu_self (m : M) : withCpu m m = m := rfl
theorem wrM_same {m m' : M} {a v : Int} (h : wrM m a v = some m') : withCpu m' m = m' := by
  have h2 := wrM_cpu m m a v
  rw [withCpu_self, h] at h2
  exact (Option.some.inj h2).symm
theorem wr_cpu (m c : M) (f : Bool) (a v : Int) : wr ⟨withCpu m c, f⟩ a v = ⟨withCpu (wr ⟨m, f⟩ a v).m c, (wr ⟨m, f⟩ a v).full⟩ := by
  unfold wr
  have h := wrM_cpu m c (a % 65536) v
  simp only []
  rw [h]
  cases wrM m (a % 65536) v <;> rfl
theorem wr_same (s : S) (a v : Int) : withCpu (wr s a v).m s.m = (wr s a v).m := by
  unfold wr
  cases h : wrM s.m (a % 65536) v with
  | none => rfl
  | some m' => exact wrM_same h
end Go.Proofs.YtkfehdkjeodbmaaGreatDoor.Stpp
