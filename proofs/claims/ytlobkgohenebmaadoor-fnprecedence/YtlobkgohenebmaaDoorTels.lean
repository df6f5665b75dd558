/-
  Contracts of ours for laws.dec and laws.told; what the four texts tell, pure.
-/
import Derived.Test.YtlobkgohenebmaaDoorPrec
import Derived.Test.YtlobkgohenebmaaDoorEvat
import Derived.Test.YtlobkgohenebmaaDoorXimh
import Derived.Test.YtlobkgohenebmaaDoorRd
import Derived.Laws.BytesArg
namespace Go.Proofs.YtlobkgohenebmaaDoor.Tels
open Go.ChangeShapes Go.WideShapes Go.ChangeAt Go.RowKit Go.Deep
open Prsp Prsl Prec
open Evai (ev evV rkV)
open Reke (f2 v2 zero)
set_option linter.unusedVariables false
set_option linter.unusedSimpArgs false
set_option maxRecDepth 20000

/-- A number's decimal digits, ahead of a text. -/
def dec (n : Int) (t : ByteArray) : ByteArray := if n < 10 then strOfNums [48 + n] ++ t else dec (n / 10) (strOfNums [48 + n % 10] ++ t)
termination_by n.toNat
decreasing_by omega
theorem dec_small {n : Int} {t : ByteArray} (h : n < 10) : dec n t = strOfNums [48 + n] ++ t := by rw [dec, if_pos h]
theorem dec_great {n : Int} {t : ByteArray} (h : ¬ n < 10) : dec n t = dec (n / 10) (strOfNums [48 + n % 10] ++ t) := by rw [dec, if_neg h]
theorem one_size (x : Int) : (strOfNums [x]).size = 1 := strOfNums_size _
theorem cat_size (x : Int) (t : ByteArray) : (strOfNums [x] ++ t).size = t.size + 1 := by rw [ByteArray.size_append, one_size]; omega
set_option maxHeartbeats 400000 in
theorem dec_any (n : Int) (w : World) (h0 : 0 ≤ n) (h1 : n ≤ 1000000000) :
    Calls Tryd.prog 7 #[.int .i64 n] w fun e w' => e = .returned (.string (dec n ⟨#[]⟩)) ∧ Below w.heap.size w w' := by
  have hcv : ∀ (u : World) (x : Int), (convert 22 9 (.slice (some ⟨u.heap.size, 0, none⟩) 1 1)).run Tryd.prog (u.alloc (.cells #[.int .u8 x] 5)) = .ok (.string (strOfNums [x])) (u.alloc (.cells #[.int .u8 x] 5)) := fun u x =>
    run_convert_bytes_arg _ 22 5 Tryd.underlying22 Tryd.underlying5 u.heap.size 0 1 1 [x] rfl (fun i hi => by
      rw [Nat.zero_add, World.cell?_alloc_new]
      match i, hi with
      | 0, _ => rfl) 9 Tryd.underlying9
  have hsz := one_size
  obtain ⟨r, hr⟩ : ∃ r, r = dec n ⟨#[]⟩ := ⟨_, rfl⟩
  rw [← hr]
  go_enter Tryd.func7, Tryd.ntmps7
  go_wp2
  go_loopw [0, 3] (fun v t wr => ∃ (m : Int) (s : ByteArray), 0 ≤ m ∧ (s.size : Int) + m ≤ n ∧ v = .int .i64 m ∧ t = .string s ∧ Hid (r = dec m s) ∧ Hid (Below w.heap.size w wr)) (fun v _ _ => (intOf v).toNat)
  case atStart => exact ⟨n, ⟨#[]⟩, h0, by show ((0 : Nat) : Int) + n ≤ n; omega, rfl, rfl, hr, Below.refl _ _⟩
  case round =>
    clear hr
    obtain ⟨m, s, hm0, hm1, rfl, rfl, hr, hb⟩ := hrel
    by_cases hlt : 10 ≤ m
    · have HR : Hid (r = dec (m / 10) (strOfNums [48 + m % 10] ++ s)) := by have := hr.out; rw [dec_great (by omega)] at this; exact this
      clear hr
      go_wp2
      go_roundw
      case rel => exact ⟨m / 10, strOfNums [48 + m % 10] ++ s, by omega, by rw [cat_size]; omega, rfl, rfl, HR, hb.out.alloc hb.out.size _⟩
      case measure => simp [intOf]; omega
    · have HR : Hid (r = strOfNums [48 + m] ++ s) := by have := hr.out; rw [dec_small (by omega)] at this; exact this
      clear hr
      go_wp2
      go_ret
      exact ⟨by rw [HR.out]; rfl, hb.out.alloc hb.out.size _⟩

def three (n : Nat) : ByteArray := if n < 10 then strOfNums [48 + (n : Int)] ++ ⟨#[]⟩ else if n < 100 then strOfNums [48 + (n : Int) / 10] ++ (strOfNums [48 + (n : Int) % 10] ++ ⟨#[]⟩)
  else strOfNums [48 + (n : Int) / 10 / 10] ++ (strOfNums [48 + (n : Int) / 10 % 10] ++ (strOfNums [48 + (n : Int) % 10] ++ ⟨#[]⟩))
theorem three_all : ∀ n : Fin 257, (three n.val).data = (bs (D n.val)).data := by decide +kernel
theorem dec_D (n : Nat) (h : n ≤ 256) : dec (n : Int) ⟨#[]⟩ = bs (D n) := by
  have e : three n = bs (D n) := ByteArray.ext (three_all ⟨n, by omega⟩)
  rw [← e]
  unfold three
  by_cases h1 : n < 10
  · rw [if_pos h1, dec_small (by omega)]
  · rw [if_neg h1, dec_great (by omega)]
    by_cases h2 : n < 100
    · rw [if_pos h2, dec_small (by omega)]
    · rw [if_neg h2, dec_great (by omega), dec_small (by omega)]
theorem decD_any (n : Nat) (h : n ≤ 256) (w : World) : Calls Tryd.prog 7 #[.int .i64 (n : Int)] w fun e w' => e = .returned (.string (bs (D n))) ∧ Below w.heap.size w w' := by
  have := dec_any (n : Int) w (by omega) (by omega)
  rw [dec_D n h] at this
  exact this

/- What the four expressions tell. -/
theorem ev_num (st : List Int) (n : Nat) (r : List Stepx.Node) : ev [] st (nm n :: r) = ev [] (st ++ [(n : Int)]) r := by
  have h1 : Evai.low st 1 = st.length := by unfold Evai.low; rw [show Stepx.takes 1 = 0 from by decide]; simp
  show (if _ then _ else _) = _
  simp only [h1]
  have h2 : ∀ T, rkV [] (nm n) T = ((n : Int), 0) := fun T => by unfold rkV; rw [if_pos rfl]
  simp only [h2, if_true, List.take_length]
theorem ev_op (st : List Int) (x y o : Int) (r : List Stepx.Node) (ho : 8 ≤ o) (hz : zero o y = false) : ev [] (st ++ [x, y]) (op o :: r) = ev [] (st ++ [f2 o x y]) r := by
  have h1 : Evai.low (st ++ [x, y]) o = st.length := by unfold Evai.low; rw [show Stepx.takes o = 2 from by unfold Stepx.takes; rw [if_neg (by omega), if_neg (by omega)]]; simp
  have h3 : (st ++ [x, y]).drop st.length = [x, y] := List.drop_left
  have h4 : (st ++ [x, y]).take st.length = st := List.take_left
  show (if _ then _ else _) = _
  simp only [h1, h3, h4]
  have h2 : rkV [] (op o) [x, y] = (f2 o x y, 0) := by
    unfold rkV
    rw [if_neg (by show ¬ o = 1; omega), if_neg (by show ¬ (o = 2 ∨ o = 3); omega), if_neg (by show ¬ o ≤ 7; omega)]
    show v2 o x y = _
    unfold v2
    rw [hz, if_neg (by decide)]
  rw [h2, if_pos rfl]
theorem ev_end (x : Int) : ev [] [x] [] = (x, 0) := rfl
theorem right {k : Nat} {l : List UInt8} {L : List Stepx.Node} (h : comp k l = some L) : evV L [] = ev [] [] L := by
  unfold evV
  rw [if_pos ⟨(comp_right h).1, by simp⟩]
theorem wrap_in {x : Int} (h : -2147483648 ≤ x ∧ x ≤ 2147483647) : wrap32 x = x := by unfold wrap32; omega
theorem mul_in {b c : Nat} (hb : b ≤ 256) (hc : c ≤ 256) : (0 : Int) ≤ (b : Int) * (c : Int) ∧ (b : Int) * (c : Int) ≤ 65536 := by
  have h := Nat.mul_le_mul hb hc
  have e : (b : Int) * (c : Int) = ((b * c : Nat) : Int) := by simp
  rw [e]; omega
theorem f2_8 {x y : Int} (h : -2147483648 ≤ x + y ∧ x + y ≤ 2147483647) : f2 8 x y = x + y := by unfold f2; rw [if_pos rfl]; exact wrap_in h
theorem f2_9 {x y : Int} (h : -2147483648 ≤ x - y ∧ x - y ≤ 2147483647) : f2 9 x y = x - y := by unfold f2; rw [if_neg (by decide), if_pos rfl]; exact wrap_in h
theorem f2_10 {x y : Int} (h : -2147483648 ≤ x * y ∧ x * y ≤ 2147483647) : f2 10 x y = x * y := by unfold f2; rw [if_neg (by decide), if_neg (by decide), if_pos rfl]; exact wrap_in h
theorem f2_11 {x y : Int} (h : -2147483648 ≤ x.tdiv y ∧ x.tdiv y ≤ 2147483647) : f2 11 x y = x.tdiv y := by unfold f2; rw [if_neg (by decide), if_neg (by decide), if_neg (by decide), if_pos rfl]; exact wrap_in h
theorem zero_no {o y : Int} (h : o ≠ 11 ∧ o ≠ 12) : zero o y = false := by unfold zero; exact decide_eq_false (fun q => by rcases q.1 with e | e; exact h.1 e; exact h.2 e)
theorem zero_nz {o y : Int} (h : y ≠ 0) : zero o y = false := by unfold zero; exact decide_eq_false (fun q => h q.2)
theorem ev_2 (x y o : Int) (r : List Stepx.Node) (ho : 8 ≤ o) (hz : zero o y = false) : ev [] [x, y] (op o :: r) = ev [] [f2 o x y] r := ev_op [] x y o r ho hz
theorem ev_3 (z x y o : Int) (r : List Stepx.Node) (ho : 8 ≤ o) (hz : zero o y = false) : ev [] [z, x, y] (op o :: r) = ev [] [z, f2 o x y] r := ev_op [z] x y o r ho hz
theorem ev_n0 (n : Nat) (r : List Stepx.Node) : ev [] [] (nm n :: r) = ev [] [(n : Int)] r := ev_num [] n r
theorem ev_n1 (x : Int) (n : Nat) (r : List Stepx.Node) : ev [] [x] (nm n :: r) = ev [] [x, (n : Int)] r := ev_num [x] n r
theorem ev_n2 (x y : Int) (n : Nat) (r : List Stepx.Node) : ev [] [x, y] (nm n :: r) = ev [] [x, y, (n : Int)] r := ev_num [x, y] n r
theorem ev_one {a b c : Nat} (ha : a ≤ 256) (hb : b ≤ 256) (hc : c ≤ 256) : evV [nm a, nm b, nm c, op 10, op 8] [] = ((a : Int) + (b : Int) * (c : Int), 0) := by
  have hm := mul_in hb hc
  rw [right (Prec.one 28 a b c ha hb hc), ev_n0, ev_n1, ev_n2, ev_3 _ _ _ _ _ (by decide) (zero_no (by decide)), ev_2 _ _ _ _ (by decide) (zero_no (by decide)), ev_end]
  generalize hp : (b : Int) * (c : Int) = p at *
  rw [f2_10 (by rw [hp]; omega), hp, f2_8 (by omega)]
theorem ev_two {a b c : Nat} (ha : a ≤ 256) (hb : b ≤ 256) (hc : c ≤ 256) : evV [nm a, nm b, op 9, nm c, op 9] [] = ((a : Int) - (b : Int) - (c : Int), 0) := by
  rw [right (Prec.two 28 a b c ha hb hc), ev_n0, ev_n1, ev_2 _ _ _ _ (by decide) (zero_no (by decide)), ev_n1, ev_2 _ _ _ _ (by decide) (zero_no (by decide)), ev_end]
  rw [f2_9 (x := (a : Int)) (by omega), f2_9 (by omega)]
theorem div_in {x c : Int} (h0 : 0 ≤ x) (h1 : x ≤ 512) (hc : 1 ≤ c) : -2147483648 ≤ x.tdiv c ∧ x.tdiv c ≤ 2147483647 := by
  rw [Int.tdiv_eq_ediv_of_nonneg h0]
  have := Int.ediv_nonneg h0 (show (0 : Int) ≤ c by omega)
  have := Int.ediv_le_self c h0
  omega
theorem ev_three {a b c : Nat} (ha : a ≤ 256) (hb : b ≤ 256) (hc : c ≤ 256) (h1 : 1 ≤ c) : evV [nm a, nm b, op 8, nm c, op 11] [] = (((a : Int) + (b : Int)).tdiv (c : Int), 0) := by
  rw [right (Prec.three 27 a b c ha hb hc), ev_n0, ev_n1, ev_2 _ _ _ _ (by decide) (zero_no (by decide)), ev_n1, ev_2 _ _ _ _ (by decide) (zero_nz (by omega)), ev_end]
  rw [f2_8 (by omega), f2_11 (div_in (by omega) (by omega) (by omega))]
theorem ev_four {a b c : Nat} (ha : a ≤ 256) (hb : b ≤ 256) (hc : c ≤ 256) : evV [nm a, nm b, nm c, op 13, op 15] [] = (f2 15 a (f2 13 b c), 0) := by
  rw [right (Prec.four 28 a b c ha hb hc), ev_n0, ev_n1, ev_n2, ev_3 _ _ _ _ _ (by decide) (zero_no (by decide)), ev_2 _ _ _ _ (by decide) (zero_no (by decide)), ev_end]
theorem and_or {a b c : Int} (ha : 0 ≤ a ∧ a ≤ 256) (hb : 0 ≤ b ∧ b ≤ 256) (hc : 0 ≤ c ∧ c ≤ 256) : f2 15 a (f2 13 b c) = bits .or .i64 a (bits .and .i64 b c) := by
  have h1 : f2 13 b c = bits .and .i32 b c := by unfold f2; simp
  have h2 : ∀ y, f2 15 a y = bits .or .i32 a y := fun y => by unfold f2; simp
  have hi : Reke.In (bits .and .i32 b c) := Reke.in_and b c
  rw [h2, h1, Arith.and64 (by omega) (by omega) (by omega) (by omega), Arith.or64 (by omega) (by omega) hi.1 hi.2]
end Go.Proofs.YtlobkgohenebmaaDoor.Tels
