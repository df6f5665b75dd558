/-
  Contracts of ours for both ReadLine.
-/
import Derived.Test.YtcjipfjbbdbbgaaDoorSlims
import Derived.Test.YtcjipfjbbdbbgaaDoorLino
namespace Go.Proofs.YtcjipfjbbdbbgaaDoor.Readl
open Go.ChangeShapes Go.WideShapes Go.ChangeAt Go.RowKit Go.Deep
set_option linter.unusedVariables false
open Names (ret_bool empty_yes empty_no nameB implName_any specName_any)
open Trims Slims Cuts Lino
open Lines (grow)

/-- What is said, the label, the rest, the op, the args of a line that is read. -/
def saidT (s : ByteArray) : ByteArray := trimS (cutA s 59)
def labB (t : ByteArray) : Bool := cutF t 58 && nameB (trimS (cutA t 58))
def labelT (t : ByteArray) : ByteArray := if labB t = true then trimS (cutA t 58) else ⟨#[]⟩
def restT (t : ByteArray) : ByteArray := if labB t = true then trimS (cutB t 58) else t
def lT (s : ByteArray) : ByteArray := labelT (saidT s)
def oT (s : ByteArray) : ByteArray := cutA (restT (saidT s)) 32
def aT (s : ByteArray) : ByteArray := slimS (cutB (restT (saidT s)) 32)
theorem cutB_le (s : ByteArray) (c : Int) : (cutB s c).size ≤ s.size := by
  unfold cutB; split
  · rw [ByteArray.size_extract]; omega
  · exact Nat.zero_le _
theorem said_le (s : ByteArray) : (saidT s).size ≤ s.size := Nat.le_trans (trimS_le _) (cutA_le _ _)
theorem label_le (t : ByteArray) : (labelT t).size ≤ t.size := by
  unfold labelT; split
  · exact Nat.le_trans (trimS_le _) (cutA_le _ _)
  · exact Nat.zero_le _
theorem rest_le (t : ByteArray) : (restT t).size ≤ t.size := by
  unfold restT; split
  · exact Nat.le_trans (trimS_le _) (cutB_le _ _)
  · exact Nat.le_refl _

set_option maxHeartbeats 1000000 in
theorem labelAhead_any (t : ByteArray) (w : World) (ht : t.size ≤ 1000) :
    Calls Tryd.prog 23 #[.string t] w fun e w' => e = .returned (.tuple #[.string (labelT t), .string (restT t)]) ∧ Below w.heap.size w w' := by
  have cp := fun w => parted_any t 58 w (by omega)
  have hA := cutA_le t 58
  have hB := cutB_le t 58
  have HL : Hid (labB t = (cutF t 58 && nameB (trimS (cutA t 58)))) := rfl
  have HT : Hid (labB t = true → labelT t = trimS (cutA t 58) ∧ restT t = trimS (cutB t 58)) := fun h => by unfold labelT restT; rw [if_pos h, if_pos h]; exact ⟨rfl, rfl⟩
  have HU : Hid (labB t = false → labelT t = ⟨#[]⟩ ∧ restT t = t) := fun h => by unfold labelT restT; rw [h]; exact ⟨rfl, rfl⟩
  generalize cutA t 58 = A at cp hA HL HT
  generalize cutB t 58 = B at cp hB HT
  have cu := fun w => unblanked_any A w (by omega)
  have cv := fun w => unblanked_any B w (by omega)
  have hX := trimS_le A
  generalize trimS A = X at cu HL HT hX
  generalize trimS B = Y at cv HT
  have cn := fun w => implName_any X w (by unfold maxLen; omega)
  generalize nameB X = f at cn HL
  generalize cutF t 58 = c at cp HL
  generalize labelT t = P at HT HU ⊢
  generalize restT t = Q at HT HU ⊢
  generalize labB t = b at HL HT HU
  have hb := HL.out
  clear HL
  go_enter Tryd.func23, Tryd.ntmps23
  go_wp2_with fail
  refine (cp _).mono ?_
  rintro e w1 ⟨rfl, n1, hw1⟩
  have B1 : Hid (Below w.heap.size w w1) := by rw [hw1]; exact below_drewN (Below.refl _ _) _
  clear hw1 cp
  go_wp2_with fail
  refine (cu _).mono ?_
  rintro e w2 ⟨rfl, b2⟩
  have B2 : Hid (Below w.heap.size w w2) := B1.out.trans (b2.mono B1.out.size)
  clear b2 B1 cu
  cases c with
  | false =>
    have HQ := (show Hid _ from HU.out (by rw [hb]; rfl))
    clear HT HU hb cn cv
    go_wp2
    go_ret2
    exact ⟨by rw [HQ.out.1, HQ.out.2]; rfl, B2.out⟩
  | true =>
    cases f with
    | false =>
      have HQ := (show Hid _ from HU.out (by rw [hb]; rfl))
      clear HT HU hb cv
      go_wp2_with (go_at_call 16; refine (cn _).mono ?_; rintro e w' ⟨rfl, rfl⟩)
      go_ret2
      exact ⟨by rw [HQ.out.1, HQ.out.2]; rfl, B2.out⟩
    | true =>
      have HQ := (show Hid _ from HT.out (by rw [hb]; rfl))
      clear HT HU hb
      go_wp2_with (first | (go_at_call 16; refine (cn _).mono ?_; rintro e w' ⟨rfl, hw'⟩; have hw' := hw'.symm; subst hw') | fail)
      refine (cv _).mono ?_
      rintro e w3 ⟨rfl, b3⟩
      have B3 : Hid (Below w.heap.size w w3) := B2.out.trans (b3.mono B2.out.size)
      clear b3 B2
      go_wp2
      go_ret2
      exact ⟨by rw [HQ.out.1, HQ.out.2]; rfl, B3.out⟩

open Classical in
noncomputable def readB (s : ByteArray) : Bool := if s.size ≤ 240 ∧ lineB (lT s) (oT s) (aT s) = true then true else false
noncomputable def readV (s : ByteArray) : Value := if readB s = true then .tuple #[.agg #[.string (lT s), .string (oT s), .string (aT s)], .bool true] else .tuple #[.agg #[.string ⟨#[]⟩, .string ⟨#[]⟩, .string ⟨#[]⟩], .bool false]
theorem read_yes {s : ByteArray} (h : s.size ≤ 240) (h1 : lineB (lT s) (oT s) (aT s) = true) : readV s = .tuple #[.agg #[.string (lT s), .string (oT s), .string (aT s)], .bool true] := by unfold readV readB; rw [if_pos (c := (_ ∧ _)) ⟨h, h1⟩, if_pos rfl]
theorem read_no {s : ByteArray} (h : ¬ (s.size ≤ 240 ∧ lineB (lT s) (oT s) (aT s) = true)) : readV s = .tuple #[.agg #[.string ⟨#[]⟩, .string ⟨#[]⟩, .string ⟨#[]⟩], .bool false] := by unfold readV readB; rw [if_neg h, if_neg (by decide)]
theorem keep3 {w w1 : World} (B : Nat) (C : Array Value) (T : TypeId) (hB : B = w.heap.size) (hb : Below (w.alloc (.cells C T)).heap.size (w.alloc (.cells C T)) w1) (i : Nat) : w1.cell? ⟨B, i, none⟩ = C[i]? ∧ w1.frozen? ⟨B, i, none⟩ = false := by
  subst hB
  exact ⟨(hb.cell (p := ⟨w.heap.size, i, none⟩) (by simp)).trans (World.cell?_alloc_new _ _ _ _), (hb.frozen (p := ⟨w.heap.size, i, none⟩) (by simp)).trans (World.frozen?_alloc_at _ _ _ _ rfl)⟩
theorem retv {v u : Value} (h : u = v) : Ending.returned v = .returned u := by rw [h]
theorem below3 {a b : World} {B : Nat} (h : Below B a b) (p q r : Nat) (hp : B ≤ p) (x y z : Value) (i j k : Nat) : Below B a (((b.setCell ⟨p, i, none⟩ x).setCell ⟨p, j, none⟩ y).setCell ⟨p, k, none⟩ z) :=
  ((h.setCell (p := ⟨p, i, none⟩) hp x).setCell (p := ⟨p, j, none⟩) hp y).setCell (p := ⟨p, k, none⟩) hp z

set_option maxHeartbeats 2000000 in
theorem implRead_any (s : ByteArray) (w : World) (hs : s.size ≤ 1048576) :
    Calls Tryd.prog 10 #[.string s] w fun e w' => e = .returned (readV s) ∧ Below w.heap.size w w' := by
  by_cases hbig : 240 < s.size
  · have HV := (show Hid _ from read_no (s := s) (by omega))
    go_enter Tryd.func10, Tryd.ntmps10
    go_wp2
    exact bodyPost_ret (v := .tuple #[.agg #[.string ⟨#[]⟩, .string ⟨#[]⟩, .string ⟨#[]⟩], .bool false]) (by simp [results, Tryd.results10, go_sem]) rfl ⟨retv HV.out, grow (Below.refl _ _) _⟩
  have h240 : s.size ≤ 240 := by omega
  have HY := (show Hid _ from (fun h => read_yes (s := s) h240 h))
  have HX : Hid (lineB (lT s) (oT s) (aT s) = false → readV s = .tuple #[.agg #[.string ⟨#[]⟩, .string ⟨#[]⟩, .string ⟨#[]⟩], .bool false]) := fun h => read_no (by rw [h]; simp)
  have z1 := cutA_le s 59
  have z2 := said_le s
  have z3 := label_le (saidT s)
  have z4 := rest_le (saidT s)
  have z5 := cutA_le (restT (saidT s)) 32
  have z6 := cutB_le (restT (saidT s)) 32
  have z7 := slimS_le (cutB (restT (saidT s)) 32)
  have c1 := fun w => parted_any s 59 w (by omega)
  have c2 := fun w => unblanked_any (cutA s 59) w (by omega)
  have c3 := fun w => labelAhead_any (saidT s) w (by omega)
  have c4 := fun w => parted_any (restT (saidT s)) 32 w (by omega)
  have c5 := fun w => squeezed_any (cutB (restT (saidT s)) 32) w (by omega)
  have c6 := fun w => implOk_any (lT s) (oT s) (aT s) w (by unfold lT; omega) (by unfold oT; omega) (by unfold aT; omega)
  rw [show trimS (cutA s 59) = saidT s from rfl] at c2
  rw [show cutA (restT (saidT s)) 32 = oT s from rfl] at c4
  rw [show slimS (cutB (restT (saidT s)) 32) = aT s from rfl] at c5
  rw [show labelT (saidT s) = lT s from rfl] at c3
  clear z1 z2 z3 z4 z5 z6 z7
  generalize readV s = V at HY HX ⊢
  generalize lT s = l at *
  generalize oT s = o at *
  generalize aT s = a at *
  generalize cutB (restT (saidT s)) 32 = x5 at *
  generalize cutF (restT (saidT s)) 32 = f5 at *
  generalize restT (saidT s) = x4 at *
  generalize saidT s = x3 at *
  generalize cutA s 59 = x2 at *
  generalize cutB s 59 = x1 at *
  generalize cutF s 59 = f1 at *
  generalize lineB l o a = f at *
  go_enter Tryd.func10, Tryd.ntmps10
  go_wp2_with fail
  refine (c1 _).mono ?_
  rintro e w1 ⟨rfl, n1, hw1⟩
  have B1 : Hid (Below (w.alloc (.cells #[.string ⟨#[]⟩, .string ⟨#[]⟩, .string ⟨#[]⟩] 25)).heap.size (w.alloc (.cells #[.string ⟨#[]⟩, .string ⟨#[]⟩, .string ⟨#[]⟩] 25)) w1) := by rw [hw1]; exact below_drewN (Below.refl _ _) _
  clear hw1 c1
  go_wp2_with fail
  refine (c2 _).mono ?_
  rintro e w2 ⟨rfl, b2⟩
  have B2 : Hid (Below (w.alloc (.cells #[.string ⟨#[]⟩, .string ⟨#[]⟩, .string ⟨#[]⟩] 25)).heap.size (w.alloc (.cells #[.string ⟨#[]⟩, .string ⟨#[]⟩, .string ⟨#[]⟩] 25)) w2) := B1.out.trans (b2.mono B1.out.size)
  clear b2 B1 c2
  go_wp2_with fail
  refine (c3 _).mono ?_
  rintro e w3 ⟨rfl, b3⟩
  have B3 : Hid (Below (w.alloc (.cells #[.string ⟨#[]⟩, .string ⟨#[]⟩, .string ⟨#[]⟩] 25)).heap.size (w.alloc (.cells #[.string ⟨#[]⟩, .string ⟨#[]⟩, .string ⟨#[]⟩] 25)) w3) := B2.out.trans (b3.mono B2.out.size)
  clear b3 B2 c3
  go_wp2_with fail
  refine (c4 _).mono ?_
  rintro e w4 ⟨rfl, n4, hw4⟩
  have B4 : Hid (Below (w.alloc (.cells #[.string ⟨#[]⟩, .string ⟨#[]⟩, .string ⟨#[]⟩] 25)).heap.size (w.alloc (.cells #[.string ⟨#[]⟩, .string ⟨#[]⟩, .string ⟨#[]⟩] 25)) w4) := by rw [hw4]; exact below_drewN B3.out _
  clear hw4 c4 B3
  go_wp2_with fail
  refine (c5 _).mono ?_
  rintro e w5 ⟨rfl, b5⟩
  have B5 : Hid (Below (w.alloc (.cells #[.string ⟨#[]⟩, .string ⟨#[]⟩, .string ⟨#[]⟩] 25)).heap.size (w.alloc (.cells #[.string ⟨#[]⟩, .string ⟨#[]⟩, .string ⟨#[]⟩] 25)) w5) := B4.out.trans (b5.mono B4.out.size)
  clear b5 B4 c5
  go_wp2_with fail
  refine (c6 _).mono ?_
  rintro e w6 ⟨rfl, b6⟩
  have hz5 : w.heap.size < w5.heap.size := by have := B5.out.size; simp at this; omega
  have B6 : Hid (Below (w.alloc (.cells #[.string ⟨#[]⟩, .string ⟨#[]⟩, .string ⟨#[]⟩] 25)).heap.size (w.alloc (.cells #[.string ⟨#[]⟩, .string ⟨#[]⟩, .string ⟨#[]⟩] 25)) w6) := (grow B5.out _).trans (b6.mono (by have := B5.out.size; simp at this; simp; omega))
  have BW : Hid (Below w.heap.size w w6) := (grow (Below.refl _ _) _).trans (B6.out.mono (by simp))
  obtain ⟨p0, q0⟩ := keep3 w.heap.size #[.string ⟨#[]⟩, .string ⟨#[]⟩, .string ⟨#[]⟩] 25 rfl B6.out 0
  obtain ⟨p1, q1⟩ := keep3 w.heap.size #[.string ⟨#[]⟩, .string ⟨#[]⟩, .string ⟨#[]⟩] 25 rfl B6.out 1
  obtain ⟨p2, q2⟩ := keep3 w.heap.size #[.string ⟨#[]⟩, .string ⟨#[]⟩, .string ⟨#[]⟩] 25 rfl B6.out 2
  have p0' : w6.cell? ⟨w.heap.size, 0, none⟩ = some (.string ⟨#[]⟩) := p0
  have p1' : w6.cell? ⟨w.heap.size, 1, none⟩ = some (.string ⟨#[]⟩) := p1
  have p2' : w6.cell? ⟨w.heap.size, 2, none⟩ = some (.string ⟨#[]⟩) := p2
  obtain ⟨r0, _⟩ := keep3 w5.heap.size #[.string l, .string o, .string a] 25 rfl b6 0
  obtain ⟨r1, _⟩ := keep3 w5.heap.size #[.string l, .string o, .string a] 25 rfl b6 1
  obtain ⟨r2, _⟩ := keep3 w5.heap.size #[.string l, .string o, .string a] 25 rfl b6 2
  have r0' : w6.cell? ⟨w5.heap.size, 0, none⟩ = some (.string l) := r0
  have r1' : w6.cell? ⟨w5.heap.size, 1, none⟩ = some (.string o) := r1
  have r2' : w6.cell? ⟨w5.heap.size, 2, none⟩ = some (.string a) := r2
  clear p0 p1 p2 r0 r1 r2 b6 B5 B6 c6
  cases f with
  | true =>
    have HV := (show Hid _ from HY.out rfl)
    clear HY HX
    go_wp2
    exact bodyPost_ret (v := .tuple #[.agg #[.string l, .string o, .string a], .bool true]) (by simp [results, Tryd.results10, go_sem, p0', p1', p2']) rfl ⟨retv HV.out, below3 BW.out _ 0 0 (Nat.le_refl _) _ _ _ _ _ _⟩
  | false =>
    have HV := (show Hid _ from HX.out rfl)
    clear HY HX
    go_wp2
    exact bodyPost_ret (v := .tuple #[.agg #[.string ⟨#[]⟩, .string ⟨#[]⟩, .string ⟨#[]⟩], .bool false]) (by simp [results, Tryd.results10, go_sem, p0', p1', p2']) rfl ⟨retv HV.out, below3 BW.out _ 0 0 (Nat.le_refl _) _ _ _ _ _ _⟩


/-- Three texts side by side, not frozen. -/
def Box (w : World) (b : Nat) (x y z : ByteArray) : Prop := (w.cell? ⟨b, 0, none⟩ = some (.string x) ∧ w.frozen? ⟨b, 0, none⟩ = false) ∧ (w.cell? ⟨b, 1, none⟩ = some (.string y) ∧ w.frozen? ⟨b, 1, none⟩ = false) ∧ (w.cell? ⟨b, 2, none⟩ = some (.string z) ∧ w.frozen? ⟨b, 2, none⟩ = false)
theorem Box.lt {w : World} {b : Nat} {x y z : ByteArray} (h : Box w b x y z) : b < w.heap.size := World.block_lt_of_cell? w ⟨b, 0, none⟩ h.1.1
theorem Box.below {w w' : World} {b : Nat} {x y z : ByteArray} (h : Box w b x y z) (hb : Below w.heap.size w w') : Box w' b x y z := by
  have e : ∀ i, w'.cell? ⟨b, i, none⟩ = w.cell? ⟨b, i, none⟩ ∧ w'.frozen? ⟨b, i, none⟩ = w.frozen? ⟨b, i, none⟩ := fun i => ⟨hb.cell (p := ⟨b, i, none⟩) h.lt, hb.frozen (p := ⟨b, i, none⟩) h.lt⟩
  unfold Box; rw [(e 0).1, (e 0).2, (e 1).1, (e 1).2, (e 2).1, (e 2).2]; exact h
theorem Box.new (w : World) (x y z : ByteArray) (T : TypeId) : Box (w.alloc (.cells #[.string x, .string y, .string z] T)) w.heap.size x y z := by
  have e : ∀ i, (w.alloc (.cells #[.string x, .string y, .string z] T)).cell? ⟨w.heap.size, i, none⟩ = (#[.string x, .string y, .string z] : Array Value)[i]? := fun i => World.cell?_alloc_new _ _ _ _
  exact ⟨⟨e 0, World.frozen?_alloc_at _ _ _ _ rfl⟩, ⟨e 1, World.frozen?_alloc_at _ _ _ _ rfl⟩, ⟨e 2, World.frozen?_alloc_at _ _ _ _ rfl⟩⟩
theorem Box.set0 {w : World} {b : Nat} {x y z : ByteArray} (h : Box w b x y z) (v : ByteArray) : Box (w.setCell ⟨b, 0, none⟩ (.string v)) b v y z := by
  unfold Box; simp only [World.frozen?_setCell]
  exact ⟨⟨World.cell?_setCell_same _ _ _ h.1.1, h.1.2⟩, ⟨(World.cell?_setCell_other _ _ _ _ (by simp)).trans h.2.1.1, h.2.1.2⟩, ⟨(World.cell?_setCell_other _ _ _ _ (by simp)).trans h.2.2.1, h.2.2.2⟩⟩
theorem Box.set1 {w : World} {b : Nat} {x y z : ByteArray} (h : Box w b x y z) (v : ByteArray) : Box (w.setCell ⟨b, 1, none⟩ (.string v)) b x v z := by
  unfold Box; simp only [World.frozen?_setCell]
  exact ⟨⟨(World.cell?_setCell_other _ _ _ _ (by simp)).trans h.1.1, h.1.2⟩, ⟨World.cell?_setCell_same _ _ _ h.2.1.1, h.2.1.2⟩, ⟨(World.cell?_setCell_other _ _ _ _ (by simp)).trans h.2.2.1, h.2.2.2⟩⟩
theorem Box.set2 {w : World} {b : Nat} {x y z : ByteArray} (h : Box w b x y z) (v : ByteArray) : Box (w.setCell ⟨b, 2, none⟩ (.string v)) b x y v := by
  unfold Box; simp only [World.frozen?_setCell]
  exact ⟨⟨(World.cell?_setCell_other _ _ _ _ (by simp)).trans h.1.1, h.1.2⟩, ⟨(World.cell?_setCell_other _ _ _ _ (by simp)).trans h.2.1.1, h.2.1.2⟩, ⟨World.cell?_setCell_same _ _ _ h.2.2.1, h.2.2.2⟩⟩
theorem Box.other {w : World} {b : Nat} {x y z : ByteArray} (h : Box w b x y z) (c i : Nat) (hne : c ≠ b) (v : Value) : Box (w.setCell ⟨c, i, none⟩ v) b x y z := by
  have e : ∀ j, (⟨c, i, none⟩ : Addr) ≠ ⟨b, j, none⟩ := fun j hh => hne (by have := congrArg Addr.block hh; exact this)
  unfold Box; simp only [World.frozen?_setCell]
  exact ⟨⟨(World.cell?_setCell_other _ _ _ _ (e 0)).trans h.1.1, h.1.2⟩, ⟨(World.cell?_setCell_other _ _ _ _ (e 1)).trans h.2.1.1, h.2.1.2⟩, ⟨(World.cell?_setCell_other _ _ _ _ (e 2)).trans h.2.2.1, h.2.2.2⟩⟩
theorem lab_yes {t : ByteArray} (h : labB t = true) : labelT t = trimS (cutA t 58) ∧ restT t = trimS (cutB t 58) := by unfold labelT restT; rw [if_pos h, if_pos h]; exact ⟨rfl, rfl⟩
theorem lab_no {t : ByteArray} (h : labB t = false) : labelT t = ⟨#[]⟩ ∧ restT t = t := by unfold labelT restT; rw [h]; exact ⟨rfl, rfl⟩
set_option maxHeartbeats 2000000 in
theorem specRead_any (s : ByteArray) (w : World) (hs : s.size ≤ 1048576) :
    Calls Tryd.prog 12 #[.string s] w fun e w' => e = .returned (readV s) ∧ Below w.heap.size w w' := by
  by_cases hbig : 240 < s.size
  · have HV := (show Hid _ from read_no (s := s) (by omega))
    go_enter Tryd.func12, Tryd.ntmps12
    go_wp2
    exact bodyPost_ret (v := .tuple #[.agg #[.string ⟨#[]⟩, .string ⟨#[]⟩, .string ⟨#[]⟩], .bool false]) (by simp [results, Tryd.results12, go_sem]) rfl ⟨retv HV.out, grow (Below.refl _ _) _⟩
  have h240 : s.size ≤ 240 := by omega
  have HY := (show Hid _ from (fun h => read_yes (s := s) h240 h))
  have HX : Hid (lineB (lT s) (oT s) (aT s) = false → readV s = .tuple #[.agg #[.string ⟨#[]⟩, .string ⟨#[]⟩, .string ⟨#[]⟩], .bool false]) := fun h => read_no (by rw [h]; simp)
  have z1 := cutA_le s 59
  have z2 := said_le s
  have z3 := label_le (saidT s)
  have z4 := rest_le (saidT s)
  have z5 := cutA_le (restT (saidT s)) 32
  have z6 := cutB_le (restT (saidT s)) 32
  have z7 := slimS_le (cutB (restT (saidT s)) 32)
  have z8 := cutA_le (saidT s) 58
  have z9 := cutB_le (saidT s) 58
  have z10 := trimS_le (cutA (saidT s) 58)
  have c1 := fun w => l1Cut_any s 59 w (by omega)
  have c2 := fun w => l7Trim_any (cutA s 59) w (by omega)
  have c3 := fun w => l1Cut_any (saidT s) 58 w (by omega)
  have c3a := fun w => l7Trim_any (cutA (saidT s) 58) w (by omega)
  have c3b := fun w => l7Trim_any (cutB (saidT s) 58) w (by omega)
  have c3c := fun w => specName_any (trimS (cutA (saidT s) 58)) w (by unfold maxLen; omega)
  have c4 := fun w => l1Cut_any (restT (saidT s)) 32 w (by omega)
  have c5 := fun w => l7Slim_any (cutB (restT (saidT s)) 32) w (by omega)
  have c6 := fun w => specOk_any (lT s) (oT s) (aT s) w (by unfold lT; omega) (by unfold oT; omega) (by unfold aT; omega)
  have HL : Hid (labB (saidT s) = (cutF (saidT s) 58 && nameB (trimS (cutA (saidT s) 58)))) := rfl
  have HT := (show Hid _ from (lab_yes (t := saidT s)))
  have HU := (show Hid _ from (lab_no (t := saidT s)))
  rw [show trimS (cutA s 59) = saidT s from rfl] at c2
  rw [show cutA (restT (saidT s)) 32 = oT s from rfl] at c4
  rw [show slimS (cutB (restT (saidT s)) 32) = aT s from rfl] at c5
  rw [show labelT (saidT s) = lT s from rfl] at HT HU
  clear z1 z2 z3 z4 z5 z6 z7 z8 z9 z10
  generalize readV s = V at HY HX ⊢
  generalize lT s = l at *
  generalize oT s = o at *
  generalize aT s = a at *
  generalize cutB (restT (saidT s)) 32 = x5 at *
  generalize cutF (restT (saidT s)) 32 = f5 at *
  generalize restT (saidT s) = x4 at *
  generalize labB (saidT s) = lb at *
  generalize trimS (cutA (saidT s) 58) = y1 at *
  generalize trimS (cutB (saidT s) 58) = y2 at *
  generalize cutA (saidT s) 58 = y3 at *
  generalize cutB (saidT s) 58 = y4 at *
  generalize cutF (saidT s) 58 = f3 at *
  generalize saidT s = x3 at *
  generalize cutA s 59 = x2 at *
  generalize cutB s 59 = x1 at *
  generalize cutF s 59 = f1 at *
  generalize nameB y1 = nb at *
  generalize lineB l o a = f at *
  have hlb := HL.out
  clear HL
  have two : (f3 = true ∧ nb = true ∧ Hid (l = y1) ∧ Hid (x4 = y2)) ∨ ((f3 = false ∨ (f3 = true ∧ nb = false)) ∧ Hid (l = ⟨#[]⟩) ∧ Hid (x4 = x3)) := by
    cases f3 with
    | false => exact .inr ⟨.inl rfl, (HU.out (by rw [hlb]; rfl)).1, (HU.out (by rw [hlb]; rfl)).2⟩
    | true =>
      cases nb with
      | false => exact .inr ⟨.inr ⟨rfl, rfl⟩, (HU.out (by rw [hlb]; rfl)).1, (HU.out (by rw [hlb]; rfl)).2⟩
      | true => exact .inl ⟨rfl, rfl, (HT.out (by rw [hlb]; rfl)).1, (HT.out (by rw [hlb]; rfl)).2⟩
  clear hlb HT HU
  have fin : ∀ r : Bool, f = r → Hid (V = if r = true then .tuple #[.agg #[.string l, .string o, .string a], .bool true] else .tuple #[.agg #[.string ⟨#[]⟩, .string ⟨#[]⟩, .string ⟨#[]⟩], .bool false]) := fun r hr => by
    cases r with
    | true => exact HY.out hr
    | false => exact HX.out hr
  clear HY HX
  go_enter Tryd.func12, Tryd.ntmps12
  go_wp2_with fail
  refine (c1 _).mono ?_
  rintro e w1 ⟨rfl, n1, hw1⟩
  have Y1 : Hid (Box w1 w.heap.size ⟨#[]⟩ ⟨#[]⟩ ⟨#[]⟩) := by rw [hw1]; exact (Box.new w _ _ _ _).below (below_drewN (Below.refl _ _) _)
  have B1 : Hid (Below w.heap.size w w1) := by rw [hw1]; exact below_drewN (grow (Below.refl _ _) _) _
  have hlt1 := Y1.out.lt
  clear hw1 c1
  go_wp2_with fail
  refine (c2 _).mono ?_
  rintro e w2 ⟨rfl, hw2⟩
  have hw2 := hw2.symm
  subst hw2
  clear c2
  go_wp2_with fail
  refine (c3 _).mono ?_
  rintro e w3 ⟨rfl, n3, hw3⟩
  have X3 : Hid (Box w3 w1.heap.size ⟨#[]⟩ ⟨#[]⟩ ⟨#[]⟩) := by rw [hw3]; exact (Box.new w1 _ _ _ _).below (below_drewN (Below.refl _ _) _)
  have Y3 : Hid (Box w3 w.heap.size ⟨#[]⟩ ⟨#[]⟩ ⟨#[]⟩) := by rw [hw3]; exact (Y1.out.below (grow (Below.refl _ _) _)).below (below_drewN (Below.refl _ _) _)
  have B3 : Hid (Below w.heap.size w w3) := by rw [hw3]; exact below_drewN (grow B1.out _) _
  clear hw3 c3 Y1 B1
  rcases two with ⟨rfl, rfl, hl, hx⟩ | ⟨hno, hl, hx⟩
  · have e1 := hl.out
    have e2 := hx.out
    subst e1 e2
    clear hl hx
    obtain ⟨⟨ba, bd⟩, ⟨bb, be⟩, ⟨bc, bf⟩⟩ := X3.out
    go_wp2_with (first | (go_at_call 19; refine (c3c _).mono ?_; rintro e w' ⟨rfl, hw'⟩; have hw' := hw'.symm; subst hw') | (go_at_call_of 30 y3; refine (c3a _).mono ?_; rintro e w' ⟨rfl, hw'⟩; have hw' := hw'.symm; subst hw') | (go_at_call_of 30 y4; refine (c3b _).mono ?_; rintro e w' ⟨rfl, hw'⟩; have hw' := hw'.symm; subst hw') | fail)
    refine (c4 _).mono ?_
    rintro e w4 ⟨rfl, n4, hw4⟩
    have X4 : Hid (Box w4 w1.heap.size l ⟨#[]⟩ ⟨#[]⟩) := by rw [hw4]; exact (X3.out.set0 l).below (below_drewN (Below.refl _ _) _)
    have Y4 : Hid (Box w4 w.heap.size ⟨#[]⟩ ⟨#[]⟩ ⟨#[]⟩) := by rw [hw4]; exact (Y3.out.other _ _ (by omega) _).below (below_drewN (Below.refl _ _) _)
    have B4 : Hid (Below w.heap.size w w4) := by rw [hw4]; exact below_drewN (B3.out.setCell (p := ⟨w1.heap.size, 0, none⟩) (by show w.heap.size ≤ w1.heap.size; omega) _) _
    clear hw4 ba bb bc bd be bf X3 Y3 B3 c3a c3b c3c c4
    obtain ⟨⟨ba, bd⟩, ⟨bb, be⟩, ⟨bc, bf⟩⟩ := X4.out
    go_wp2_with fail
    refine (c5 _).mono ?_
    rintro e w5 ⟨rfl, hw5⟩
    have X5 : Hid (Box w5 w1.heap.size l o ⟨#[]⟩) := by rw [hw5]; exact X4.out.set1 o
    have Y5 : Hid (Box w5 w.heap.size ⟨#[]⟩ ⟨#[]⟩ ⟨#[]⟩) := by rw [hw5]; exact Y4.out.other _ _ (by omega) _
    have B5 : Hid (Below w.heap.size w w5) := by rw [hw5]; exact B4.out.setCell (p := ⟨w1.heap.size, 1, none⟩) (by show w.heap.size ≤ w1.heap.size; omega) _
    clear hw5 ba bb bc bd be bf X4 Y4 B4
    obtain ⟨⟨ba, bd⟩, ⟨bb, be⟩, ⟨bc, bf⟩⟩ := X5.out
    go_wp2_with fail
    refine (c6 _).mono ?_
    rintro e w6 ⟨rfl, b6⟩
    have X6 : Hid (Box w6 w1.heap.size l o a) := (X5.out.set2 a).below b6
    have Y6 : Hid (Box w6 w.heap.size ⟨#[]⟩ ⟨#[]⟩ ⟨#[]⟩) := (Y5.out.other _ _ (by omega) _).below b6
    have B6 : Hid (Below w.heap.size w w6) := (B5.out.setCell (p := ⟨w1.heap.size, 2, none⟩) (by show w.heap.size ≤ w1.heap.size; omega) _).trans (b6.mono (B5.out.setCell (p := ⟨w1.heap.size, 2, none⟩) (by show w.heap.size ≤ w1.heap.size; omega) _).size)
    clear b6 ba bb bc bd be bf X5 Y5 B5
    obtain ⟨⟨ba, bd⟩, ⟨bb, be⟩, ⟨bc, bf⟩⟩ := X6.out
    obtain ⟨⟨ra, rd⟩, ⟨rb, re⟩, ⟨rc, rf⟩⟩ := Y6.out
    clear X6 Y6
    cases f with
    | true =>
      have HV := (show Hid _ from fin true rfl)
      clear fin
      go_wp2
      exact bodyPost_ret (v := .tuple #[.agg #[.string l, .string o, .string a], .bool true]) (by simp [results, Tryd.results12, go_sem, ra, rb, rc]) rfl ⟨retv (by rw [HV.out]; rfl), below3 B6.out _ 0 0 (Nat.le_refl _) _ _ _ _ _ _⟩
    | false =>
      have HV := (show Hid _ from fin false rfl)
      clear fin
      go_wp2
      exact bodyPost_ret (v := .tuple #[.agg #[.string ⟨#[]⟩, .string ⟨#[]⟩, .string ⟨#[]⟩], .bool false]) (by simp [results, Tryd.results12, go_sem, ra, rb, rc]) rfl ⟨retv (by rw [HV.out]; rfl), below3 B6.out _ 0 0 (Nat.le_refl _) _ _ _ _ _ _⟩
  · have e1 := hl.out
    have e2 := hx.out
    subst e1 e2
    clear hl hx
    rcases hno with rfl | ⟨rfl, rfl⟩
    all_goals
      go_wp2_with (first | (go_at_call 19; refine (c3c _).mono ?_; rintro e w' ⟨rfl, hw'⟩; have hw' := hw'.symm; subst hw') | (go_at_call_of 30 y3; refine (c3a _).mono ?_; rintro e w' ⟨rfl, hw'⟩; have hw' := hw'.symm; subst hw') | fail)
      refine (c4 _).mono ?_
      rintro e w4 ⟨rfl, n4, hw4⟩
      have X4 : Hid (Box w4 w1.heap.size ⟨#[]⟩ ⟨#[]⟩ ⟨#[]⟩) := by rw [hw4]; exact X3.out.below (below_drewN (Below.refl _ _) _)
      have Y4 : Hid (Box w4 w.heap.size ⟨#[]⟩ ⟨#[]⟩ ⟨#[]⟩) := by rw [hw4]; exact Y3.out.below (below_drewN (Below.refl _ _) _)
      have B4 : Hid (Below w.heap.size w w4) := by rw [hw4]; exact below_drewN B3.out _
      clear hw4 X3 Y3 B3 c3a c3b c3c c4
      obtain ⟨⟨ba, bd⟩, ⟨bb, be⟩, ⟨bc, bf⟩⟩ := X4.out
      go_wp2_with fail
      refine (c5 _).mono ?_
      rintro e w5 ⟨rfl, hw5⟩
      have X5 : Hid (Box w5 w1.heap.size ⟨#[]⟩ o ⟨#[]⟩) := by rw [hw5]; exact X4.out.set1 o
      have Y5 : Hid (Box w5 w.heap.size ⟨#[]⟩ ⟨#[]⟩ ⟨#[]⟩) := by rw [hw5]; exact Y4.out.other _ _ (by omega) _
      have B5 : Hid (Below w.heap.size w w5) := by rw [hw5]; exact B4.out.setCell (p := ⟨w1.heap.size, 1, none⟩) (by show w.heap.size ≤ w1.heap.size; omega) _
      clear hw5 ba bb bc bd be bf X4 Y4 B4
      obtain ⟨⟨ba, bd⟩, ⟨bb, be⟩, ⟨bc, bf⟩⟩ := X5.out
      go_wp2_with fail
      refine (c6 _).mono ?_
      rintro e w6 ⟨rfl, b6⟩
      have X6 : Hid (Box w6 w1.heap.size ⟨#[]⟩ o a) := (X5.out.set2 a).below b6
      have Y6 : Hid (Box w6 w.heap.size ⟨#[]⟩ ⟨#[]⟩ ⟨#[]⟩) := (Y5.out.other _ _ (by omega) _).below b6
      have B6 : Hid (Below w.heap.size w w6) := (B5.out.setCell (p := ⟨w1.heap.size, 2, none⟩) (by show w.heap.size ≤ w1.heap.size; omega) _).trans (b6.mono (B5.out.setCell (p := ⟨w1.heap.size, 2, none⟩) (by show w.heap.size ≤ w1.heap.size; omega) _).size)
      clear b6 ba bb bc bd be bf X5 Y5 B5
      obtain ⟨⟨ba, bd⟩, ⟨bb, be⟩, ⟨bc, bf⟩⟩ := X6.out
      obtain ⟨⟨ra, rd⟩, ⟨rb, re⟩, ⟨rc, rf⟩⟩ := Y6.out
      clear X6 Y6
      cases f with
      | true =>
        have HV := (show Hid _ from fin true rfl)
        clear fin
        go_wp2
        exact bodyPost_ret (v := .tuple #[.agg #[.string ⟨#[]⟩, .string o, .string a], .bool true]) (by simp [results, Tryd.results12, go_sem, ra, rb, rc]) rfl ⟨retv (by rw [HV.out]; rfl), below3 B6.out _ 0 0 (Nat.le_refl _) _ _ _ _ _ _⟩
      | false =>
        have HV := (show Hid _ from fin false rfl)
        clear fin
        go_wp2
        exact bodyPost_ret (v := .tuple #[.agg #[.string ⟨#[]⟩, .string ⟨#[]⟩, .string ⟨#[]⟩], .bool false]) (by simp [results, Tryd.results12, go_sem, ra, rb, rc]) rfl ⟨retv (by rw [HV.out]; rfl), below3 B6.out _ 0 0 (Nat.le_refl _) _ _ _ _ _ _⟩
end Go.Proofs.YtcjipfjbbdbbgaaDoor.Readl
