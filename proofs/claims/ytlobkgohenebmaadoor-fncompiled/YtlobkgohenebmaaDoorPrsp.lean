/-
  Pure: how an expression in a source is read: values, ops and how tightly they bind, over a list of bytes. k: how many values may stand in one another.
-/
import Derived.Test.YtlobkgohenebmaaDoorNums
import Derived.Test.YtlobkgohenebmaaDoorNames
import Derived.Test.YtlobkgohenebmaaDoorStepx
namespace Go.Proofs.YtlobkgohenebmaaDoor.Prsp
open Go.RowKit
set_option linter.unusedVariables false
set_option linter.unusedSimpArgs false

abbrev St := List UInt8 × List Stepx.Node
def runB (c : Int) : Bool := decide (((97 ≤ c ∧ c ≤ 122) ∨ c = 95 ∨ c = 46) ∨ (48 ≤ c ∧ c ≤ 57) ∨ (65 ≤ c ∧ c ≤ 70))
def hd (l : List UInt8) : Int := ((l.headD 0).toNat : Int)
def isW (c : UInt8) : Bool := runB (c.toNat : Int)
def bs (l : List UInt8) : ByteArray := ⟨l.toArray⟩
def E0 : ByteArray := ⟨#[]⟩
def put (x : Stepx.Node) (s : St) : Option St := if s.2.length < 30 then some (s.1, s.2 ++ [x]) else none
def close (s : St) : Option St := if hd s.1 = 41 then some (s.1.tail, s.2) else none
def wd (l : List UInt8) : List UInt8 := l.takeWhile isW
def af (l : List UInt8) : List UInt8 := l.dropWhile isW
def leafF (t : ByteArray) (s : St) : Option St := match Nums.num t with
  | some n => put (1, n, E0) s
  | none => if Names.nameB t = true then put (2, 0, t) s else none
def bankF (s : St) : Option St := if Names.nameB (bs (wd s.1)) = true then (put (3, 0, bs (wd s.1)) (af s.1, s.2)).bind close else none
def brF (l : St → Option St) (s : St) : Option St := (l (s.1.tail, s.2)).bind close
def high : List UInt8 := [104, 105, 103, 104]
def low : List UInt8 := [108, 111, 119]
def bank : List UInt8 := [98, 97, 110, 107]
def signed (l : List UInt8) : Bool := decide (hd l = 36 ∨ hd l = 37)
def opens (l : List UInt8) (t : List UInt8) : Bool := decide (hd (af l) = 40 ∧ wd l = t)
def wordF (l : St → Option St) (s : St) : Option St :=
  if signed s.1 = true then leafF (bs (s.1.take 1 ++ wd s.1.tail)) (af s.1.tail, s.2)
  else if opens s.1 high = true then (brF l (af s.1, s.2)).bind (put (6, 0, E0))
  else if opens s.1 low = true then (brF l (af s.1, s.2)).bind (put (7, 0, E0))
  else if opens s.1 bank = true then bankF ((af s.1).tail, s.2)
  else leafF (bs (wd s.1)) (af s.1, s.2)
def valueF (v l : St → Option St) (s : St) : Option St :=
  if hd s.1 = 45 then (v (s.1.tail, s.2)).bind (put (4, 0, E0))
  else if hd s.1 = 126 then (v (s.1.tail, s.2)).bind (put (5, 0, E0))
  else if hd s.1 = 40 then brF l s
  else wordF l s
/-- The op that stands ahead; 0: none. -/
def opK (l : List UInt8) : Int :=
  if l.take 2 = [60, 60] then 16 else if l.take 2 = [62, 62] then 17
  else if hd l = 42 then 10 else if hd l = 47 then 11 else if hd l = 37 then 12 else if hd l = 43 then 8 else if hd l = 45 then 9
  else if hd l = 38 then 13 else if hd l = 94 then 14 else if hd l = 124 then 15 else 0
def tgt (k : Int) : Int := if k = 16 ∨ k = 17 then 4 else if 10 ≤ k ∧ k ≤ 12 then 6 else if k = 8 ∨ k = 9 then 5 else if k = 13 then 3 else if k = 14 then 2 else if k = 15 then 1 else 0
def opL (k : Int) : Nat := if 16 ≤ k then 2 else 1
def stepF (lev : Int → St → Option St) (s : St) : Option St := (lev (tgt (opK s.1) + 1) (s.1.drop (opL (opK s.1)), s.2)).bind (put (opK s.1, 0, E0))
def loopF (lev : Int → St → Option St) (least : Int) (s : St) : Option St :=
  if tgt (opK s.1) < least then some s else
  match stepF lev s with
  | none => none
  | some s' => if h : s'.1.length < s.1.length then loopF lev least s' else none
termination_by s.1.length
def both : Nat → (St → Option St) × (Int → St → Option St)
  | 0 => (fun _ => none, fun _ _ => none)
  | k + 1 => (valueF (both k).1 ((both k).2 1), fun least s => (valueF (both k).1 ((both k).2 1) s).bind (loopF (both k).2 least))
def val (k : Nat) : St → Option St := (both k).1
def lev (k : Nat) : Int → St → Option St := (both k).2
theorem val_succ (k : Nat) (s : St) : val (k + 1) s = valueF (val k) (lev k 1) s := rfl
theorem lev_succ (k : Nat) (least : Int) (s : St) : lev (k + 1) least s = (val (k + 1) s).bind (loopF (lev k) least) := rfl
theorem val_zero (s : St) : val 0 s = none := rfl
theorem lev_zero (least : Int) (s : St) : lev 0 least s = none := rfl
theorem loop_stop {f : Int → St → Option St} {least : Int} {s : St} (h : tgt (opK s.1) < least) : loopF f least s = some s := by rw [loopF, if_pos h]
theorem loop_go {f : Int → St → Option St} {least : Int} {s s' : St} (h : ¬ tgt (opK s.1) < least) (hs : stepF f s = some s') (hl : s'.1.length < s.1.length) : loopF f least s = loopF f least s' := by
  rw [loopF, if_neg h, hs]; simp only [dif_pos hl]
theorem loop_none {f : Int → St → Option St} {least : Int} {s : St} (h : ¬ tgt (opK s.1) < least) (hs : stepF f s = none) : loopF f least s = none := by
  rw [loopF, if_neg h, hs]
/-- What a text is read as. -/
def comp (k : Nat) (l : List UInt8) : Option (List Stepx.Node) := match lev k 1 (l, []) with
  | some ([], L) => some L
  | _ => none

/- Where lists are drops of one text. -/
theorem hd_in (s : ByteArray) (k : Nat) (h : k < s.size) : hd (s.data.toList.drop k) = (s[k].toNat : Int) := by rw [Nums.drop_at s k h]; rfl
theorem hd_end (s : ByteArray) (k : Nat) (h : s.size ≤ k) : hd (s.data.toList.drop k) = 0 := by rw [Nums.drop_end s k h]; rfl
theorem tl (s : ByteArray) (k : Nat) : (s.data.toList.drop k).tail = s.data.toList.drop (k + 1) := by rw [List.tail_drop]
theorem hd_lt (s : ByteArray) (k : Nat) (h : hd (s.data.toList.drop k) ≠ 0) : k < s.size := by
  rcases Nat.lt_or_ge k s.size with h' | h'
  · exact h'
  · exact absurd (hd_end s k h') h
theorem af_step (s : ByteArray) (k : Nat) (h : k < s.size) (hw : isW s[k] = true) : af (s.data.toList.drop k) = af (s.data.toList.drop (k + 1)) := by
  rw [Nums.drop_at s k h]; unfold af; rw [List.dropWhile_cons, if_pos hw]
theorem af_stop (s : ByteArray) (k : Nat) (h : k < s.size) (hw : isW s[k] = false) : af (s.data.toList.drop k) = s.data.toList.drop k := by
  rw [Nums.drop_at s k h]; unfold af; rw [List.dropWhile_cons, if_neg (by rw [hw]; decide)]
theorem af_end (s : ByteArray) (k : Nat) (h : s.size ≤ k) : af (s.data.toList.drop k) = s.data.toList.drop k := by rw [Nums.drop_end s k h]; rfl
theorem wd_af (l : List UInt8) : wd l ++ af l = l := List.takeWhile_append_dropWhile
theorem wd_take {s : ByteArray} {k j : Nat} (hk : k ≤ j) (hj : j ≤ s.size) (h : af (s.data.toList.drop k) = s.data.toList.drop j) : wd (s.data.toList.drop k) = (s.data.toList.drop k).take (j - k) := by
  have e := wd_af (s.data.toList.drop k)
  rw [h] at e
  have hl : (wd (s.data.toList.drop k)).length = j - k := by
    have := congrArg List.length e
    simp only [List.length_append, List.length_drop] at this
    have e2 : s.data.toList.length = s.size := rfl
    omega
  have t := List.take_left' (l₂ := s.data.toList.drop j) hl
  rw [e] at t
  exact t.symm
theorem bs_extract (s : ByteArray) (k j : Nat) : bs ((s.data.toList.drop k).take (j - k)) = s.extract k j := by
  refine ByteArray.ext (Array.ext' ?_)
  rw [ByteArray.data_extract, Array.toList_extract, List.extract_eq_take_drop]
  rfl
theorem bs_wd {s : ByteArray} {k j : Nat} (hk : k ≤ j) (hj : j ≤ s.size) (h : af (s.data.toList.drop k) = s.data.toList.drop j) : bs (wd (s.data.toList.drop k)) = s.extract k j := by
  rw [wd_take hk hj h, bs_extract]
theorem drop_inj {s : ByteArray} {k j : Nat} (hk : k ≤ s.size) (hj : j ≤ s.size) (h : s.data.toList.drop k = s.data.toList.drop j) : k = j := by
  have := congrArg List.length h
  simp only [List.length_drop] at this
  have e2 : s.data.toList.length = s.size := rfl
  omega
theorem drop_len (s : ByteArray) (k : Nat) : (s.data.toList.drop k).length = s.size - k := by rw [List.length_drop]; rfl
theorem bs_inj {l m : List UInt8} (h : bs l = bs m) : l = m := by
  have := congrArg (fun x => x.data.toList) h
  simpa [bs] using this
theorem bs_list (s : ByteArray) : bs s.data.toList = s := rfl
end Go.Proofs.YtlobkgohenebmaaDoor.Prsp
