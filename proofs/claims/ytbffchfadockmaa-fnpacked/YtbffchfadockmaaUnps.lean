/-
  A contract of ours for spec.Unpacked, at every text.
-/
import Derived.Test.YtbffchfadockmaaPaki
import Derived.Test.YtbffchfadockmaaObuf
import Derived.OwnWalk
namespace Go.Proofs.Ytbffchfadockmaa.Unps
open Go.ChangeShapes Go.WideShapes Go.ChangeAt Go.RowKit Go.Deep
open Pakp Paks Paki Obuf
set_option linter.unusedVariables false
set_option maxRecDepth 20000
abbrev tO : TypeId := 25
noncomputable def outV (s : ByteArray) : ByteArray := ⟨(unpV (D s 0)).toArray⟩
noncomputable def outB (s : ByteArray) : Bool := unpB (D s 0)
theorem no_end {s : ByteArray} (h : ¬ ((D s 0).length ≤ 40000 ∧ fine (PartsOf (D s 0)))) : outV s = ⟨#[]⟩ ∧ outB s = false := by
  unfold outV outB; rw [(unp_no h).1, (unp_no h).2]; exact ⟨rfl, rfl⟩
/-- What has come, and what is to come. -/
structure Come (s : ByteArray) (k : Nat) (p : List (List UInt8 × Nat)) : Prop where
  all : p ++ PartsOf (D s k) = PartsOf (D s 0)
  good : ∀ x ∈ p, bad x = false
  small : (sumUp p).length ≤ 20000
theorem D_cons {s : ByteArray} {k : Nat} (h : k < s.size) : D s k = s[k] :: D s (k + 1) := by
  have h1 := D_head h
  have h2 := D_drop s k 1
  cases hd : D s k with
  | nil => exact absurd hd (D_ne h)
  | cons x xs =>
    rw [hd] at h1 h2
    simp at h1 h2
    rw [h1, h2]
theorem ahead_D {s : ByteArray} {k : Nat} (h : k < s.size) : Pakp.ahead (D s k) = aheadC s[k] (D s (k + 1)) := by rw [D_cons h]; rfl
theorem Come.bad_end {s : ByteArray} {k : Nat} {p : List (List UInt8 × Nat)} (h : Come s k p) (hk : k < s.size) (hb : (Pakp.ahead (D s k)).1 = []) : outV s = ⟨#[]⟩ ∧ outB s = false := by
  refine no_end fun hf => ?_
  have := h.all
  rw [PartsOf_cons (D_ne hk)] at this
  have h2 := hf.2
  rw [← this] at h2
  exact not_fine_bad (x := ((Pakp.ahead (D s k)).1, (Pakp.ahead (D s k)).2.1)) (by unfold bad; rw [hb]; rfl) h2
theorem Come.long_end {s : ByteArray} {k : Nat} {p : List (List UInt8 × Nat)} (h : Come s k p) (hk : k < s.size) (hl : 20000 < (sumUp p ++ rep ((Pakp.ahead (D s k)).1, (Pakp.ahead (D s k)).2.1)).length) : outV s = ⟨#[]⟩ ∧ outB s = false := by
  refine no_end fun hf => ?_
  have := h.all
  rw [PartsOf_cons (D_ne hk)] at this
  have h2 := hf.2
  rw [← this] at h2
  exact not_fine_long (x := ((Pakp.ahead (D s k)).1, (Pakp.ahead (D s k)).2.1)) (by rw [sumUp_snoc]; exact hl) h2
theorem Come.next {s : ByteArray} {k j : Nat} {p : List (List UInt8 × Nat)} (h : Come s k p) (hk : k < s.size) (hb : (Pakp.ahead (D s k)).1 ≠ []) (hj : (Pakp.ahead (D s k)).2.2 = D s j) (hl : ¬ 20000 < (sumUp p ++ rep ((Pakp.ahead (D s k)).1, (Pakp.ahead (D s k)).2.1)).length) : Come s j (p ++ [((Pakp.ahead (D s k)).1, (Pakp.ahead (D s k)).2.1)]) := by
  refine ⟨?_, fun x hx => ?_, by rw [sumUp_snoc]; omega⟩
  · have := h.all
    rw [PartsOf_cons (D_ne hk), hj] at this
    rw [← this]; simp
  · rcases List.mem_append.1 hx with hx | hx
    · exact h.good x hx
    · rw [List.mem_singleton.1 hx]
      unfold bad
      cases h' : (Pakp.ahead (D s k)).1 with
      | nil => exact absurd h' hb
      | cons => rfl
theorem Come.fin {s : ByteArray} {k : Nat} {p : List (List UInt8 × Nat)} (h : Come s k p) (hk : ¬ k < s.size) (hs : s.size ≤ 40000) : outV s = ⟨(sumUp p).toArray⟩ ∧ outB s = true := by
  have e : D s k = [] := List.eq_nil_of_length_eq_zero (by rw [D_len]; omega)
  have ha := h.all
  rw [e, PartsOf_nil, List.append_nil] at ha
  have hf : fine (PartsOf (D s 0)) := by rw [← ha]; exact ⟨h.good, h.small⟩
  have := unp_yes (l := D s 0) (by rw [D_len]; omega) hf
  unfold outV outB
  rw [this.1, this.2, ha]; exact ⟨rfl, rfl⟩
theorem start (s : ByteArray) : Come s 0 [] := ⟨rfl, fun _ h => (by cases h), Nat.zero_le _⟩
theorem rep_one (l : List UInt8) : rep (l, 1) = l := by simp [rep]
theorem rep_many (b : UInt8) (n : Nat) : rep ([b], n) = List.replicate n b := by
  unfold rep
  induction n with
  | zero => rfl
  | succ n ih => simp only [List.replicate_succ, List.flatten_cons]; simp only at ih; rw [ih]; rfl
/-- Behind a code above 128. -/
theorem a_great {s : ByteArray} {k : Nat} (h : k + 1 < s.size) (hc : 128 < s[k].toNat) : Pakp.ahead (D s k) = ([s[k + 1]], 257 - s[k].toNat, D s (k + 2)) := by
  rw [ahead_D (by omega)]
  unfold aheadC
  rw [if_neg (by omega), if_pos hc, if_neg (by rw [D_len]; omega), D_cons h]
  rfl
theorem a_none {s : ByteArray} {k : Nat} (h : k < s.size) (hc : s[k].toNat = 128 ∨ s.size ≤ k + 1) : (Pakp.ahead (D s k)).1 = [] := by
  rw [ahead_D h]
  unfold aheadC
  have hl := D_len s (k + 1)
  by_cases h8 : s[k].toNat = 128
  · rw [if_pos h8]
  · rw [if_neg h8]
    split
    · rw [if_pos (by omega)]
    · rw [if_pos (by omega)]
theorem a_short {s : ByteArray} {k : Nat} (h : k < s.size) (hc : s[k].toNat < 128) (hl : s.size < k + 2 + s[k].toNat) : (Pakp.ahead (D s k)).1 = [] := by
  rw [ahead_D h]
  unfold aheadC
  rw [if_neg (by omega), if_neg (by omega), if_pos (by rw [D_len]; omega)]
theorem a_small {s : ByteArray} {k : Nat} (h : k < s.size) (hc : s[k].toNat < 128) (hl : ¬ s.size < k + 2 + s[k].toNat) : Pakp.ahead (D s k) = ((s.extract (k + 1) (k + 2 + s[k].toNat)).data.toList, 1, D s (k + 2 + s[k].toNat)) := by
  rw [ahead_D h]
  unfold aheadC
  rw [if_neg (by omega), if_neg (by omega), if_neg (by rw [D_len]; omega), D_drop]
  have := ext_list s (k + 1) (s[k].toNat + 1) (by omega)
  rw [show k + 1 + (s[k].toNat + 1) = k + 2 + s[k].toNat by omega] at this
  rw [this, show k + 1 + (s[k].toNat + 1) = k + 2 + s[k].toNat by omega]
theorem ret_two' {s : ByteArray} {b : ByteArray} {q : Bool} (h : outV s = b ∧ outB s = q) : Ending.returned (.tuple #[.string b, .bool q]) = .returned (.tuple #[.string (outV s), .bool (outB s)]) := by rw [h.1, h.2]
def St (w W : World) (v : Value) (l : List UInt8) : Prop := W.ownsRow w.heap.size 5 1 v l.length (Lib.byteCells l) ∧ Below w.heap.size w W
theorem St.new (w : World) : St w (w.alloc (.cells #[] 5)) (.slice (some ⟨w.heap.size, 0, none⟩) 0 0) [] := ⟨World.ownsRow_lit w #[] 0 (Nat.le_refl _) (Nat.zero_le _) rfl, (Below.refl _ _).alloc (Nat.le_refl _) _⟩
theorem St.push {w W w1 : World} {v v' : Value} {l : List UInt8} {b : UInt8} {n : Nat} {o : Obj} (h : St w W v l) (hn : n = l.length) (hown : w1.ownsRow w.heap.size 5 1 v' (n + 1) (Lib.byteCells l ++ [.int .u8 b.toNat])) (hg : (W.alloc o).grownBy w1 v.ownBlock) : St w w1 v' (l ++ [b]) := by
  subst hn
  have e : Lib.byteCells (l ++ [b]) = Lib.byteCells l ++ [.int .u8 b.toNat] := by simp [Lib.byteCells]
  refine ⟨by rw [List.length_append, e]; exact hown, (h.2.alloc h.2.size o).grown hg (by have := h.2.size; simp; omega) (fun k hk => (h.1.lt k hk).1)⟩
theorem St.text {w W w1 : World} {v v' : Value} {l : List UInt8} {s : ByteArray} {n : Nat} (h : St w W v l) (hn : n = l.length) (hown : w1.ownsRow w.heap.size 5 1 v' (n + s.size) (Lib.byteCells l ++ Lib.strCells s)) (hg : W.grownBy w1 v.ownBlock) : St w w1 v' (l ++ s.data.toList) := by
  subst hn
  have e : Lib.byteCells (l ++ s.data.toList) = Lib.byteCells l ++ Lib.strCells s := by simp [Lib.byteCells, Lib.strCells]
  have e2 : s.data.toList.length = s.size := Array.length_toList ..
  refine ⟨by rw [List.length_append, e, e2]; exact hown, h.2.grown hg h.2.size (fun k hk => (h.1.lt k hk).1)⟩
theorem St.row {w W : World} {v : Value} {l : List UInt8} {n : Nat} (h : St w W v l) (hn : n = l.length) : W.ownsRow w.heap.size 5 1 v n (Lib.byteCells l) := by subst hn; exact h.1
set_option maxHeartbeats 2000000 in
theorem specUnpacked_any (s : ByteArray) (w : World) (hs : s.size ≤ 1048576) :
    Calls Try.prog 9 #[.string s] w fun e w' => e = .returned (.tuple #[.string (outV s), .bool (outB s)]) ∧ Below w.heap.size w w' := by
  by_cases hbig : 40000 < s.size
  · have e1 : Hid (outV s = ⟨#[]⟩ ∧ outB s = false) := no_end (fun h => by have := h.1; rw [D_len] at this; omega)
    go_enter Try.func9, Try.ntmps9
    go_wp2
    go_ret2
    exact ⟨ret_two' e1.out, Below.refl _ _⟩
  have HS : Hid (s.size ≤ 40000) := by show _ ≤ _; omega
  have S0 : Hid (St w (w.alloc (.cells #[] 5)) (.slice (some ⟨w.heap.size, 0, none⟩) 0 0) []) := St.new w
  obtain ⟨i0, hi, hz0, hz1, hz2⟩ := info_parts info5
  go_enter Try.func9, Try.ntmps9
  go_wp2
  go_loopw [4, 5] (fun v i wr => ∃ (k : Nat) (p : List (List UInt8 × Nat)) (a : Option Addr) (n c : Nat), k ≤ s.size ∧ i = .int .i64 k ∧ v = .slice a n c ∧ n ≤ 20000 ∧ Hid (n = (sumUp p).length) ∧ Hid (Come s k p) ∧ Hid (St w wr (.slice a n c) (sumUp p))) (fun _ i _ => s.size - (intOf i).toNat)
  case atStart => exact ⟨0, [], _, _, _, Nat.zero_le _, rfl, rfl, Nat.zero_le _, rfl, start s, S0.out⟩
  case round =>
    clear S0
    obtain ⟨k, p, a, n, c, hk, rfl, rfl, hn, HN, hcome, hst⟩ := hrel
    by_cases hlt : k < s.size
    · have k0 : (0 : Int) ≤ (k : Int) := by omega
      have k1 : (k : Int) < (s.size : Int) := by omega
      have hb5 : s[k].toNat < 256 := s[k].toNat_lt
      obtain ⟨q, hq⟩ : ∃ q : Nat, q = s[k].toNat := ⟨_, rfl⟩
      have HQ : Hid (q = s[k].toNat) := hq
      have hq5 : q < 256 := by omega
      obtain ⟨j, hj⟩ : ∃ j : Nat, j = k + 1 := ⟨_, rfl⟩
      have HJ : Hid (j = k + 1) := hj
      have ej : (k : Int) + 1 = (j : Int) := by omega
      have ejw : IntKind.i64.wrap (j : Int) = (j : Int) := by rw [IntKind.wrap_i64]; omega
      have e3 : (s[k].toNat : Int) = (q : Int) := by omega
      have NONE : Hid (q = 128 ∨ s.size ≤ j → outV s = ⟨#[]⟩ ∧ outB s = false) := fun h => hcome.out.bad_end hlt (a_none hlt (by omega))
      have SHORT : Hid (q < 128 → s.size < j + 1 + q → outV s = ⟨#[]⟩ ∧ outB s = false) := fun h1 h2 => hcome.out.bad_end hlt (a_short hlt (by omega) (by omega))
      have GREAT : Hid (∀ h : j < s.size, 128 < q → Pakp.ahead (D s k) = ([s[j]], 257 - q, D s (j + 1))) := fun h1 h2 => by
        have := a_great (s := s) (k := k) (by omega) (by omega)
        simp only [← hj, ← hq] at this
        rw [this, show k + 2 = j + 1 by omega]
      have SMALL : Hid (q < 128 → ¬ s.size < j + 1 + q → Pakp.ahead (D s k) = ((s.extract j (j + 1 + q)).data.toList, 1, D s (j + 1 + q))) := fun h1 h2 => by
        have := a_small (s := s) (k := k) hlt (by omega) (by omega)
        simp only [← hj, ← hq] at this
        rw [this, show k + 2 + q = j + 1 + q by omega]
      clear hj hq hb5
      by_cases c1 : q = 128
      · have d1 : ((q : Int) == 128) = true := by simp; omega
        have d1' : (q : Int) = 128 := by omega
        have HE := NONE.out (.inl c1)
        have HE : Hid (outV s = ⟨#[]⟩ ∧ outB s = false) := HE
        clear NONE SHORT GREAT SMALL
        go_wp2
        go_ret2
        exact ⟨ret_two' HE.out, hst.out.2⟩
      have d1 : ((q : Int) == 128) = false := by simp; omega
      have d1' : ¬ (q : Int) = 128 := by omega
      by_cases c2 : s.size ≤ j
      · have HE := NONE.out (.inr c2)
        have HE : Hid (outV s = ⟨#[]⟩ ∧ outB s = false) := HE
        have d2 : decide ((s.size : Int) ≤ (j : Int)) = true := decide_eq_true (by omega)
        clear NONE SHORT GREAT SMALL
        go_wp2
        go_ret2
        exact ⟨ret_two' HE.out, hst.out.2⟩
      have d2 : decide ((s.size : Int) ≤ (j : Int)) = false := decide_eq_false (by omega)
      by_cases c3 : 128 < q
      · have EG : Hid (Pakp.ahead (D s k) = ([s[j]], 257 - q, D s (j + 1))) := GREAT.out (by omega) c3
        have d3 : (128 : Int) < (q : Int) := by omega
        clear NONE SHORT GREAT SMALL
        have LG : Hid (20000 < (sumUp p ++ List.replicate (257 - q) s[j]).length → outV s = ⟨#[]⟩ ∧ outB s = false) := fun h => hcome.out.long_end hlt (by rw [EG.out, rep_many]; exact h)
        have NX : Hid (¬ 20000 < (sumUp p ++ List.replicate (257 - q) s[j]).length → Come s (j + 1) (p ++ [([s[j]], 257 - q)]) ∧ sumUp (p ++ [([s[j]], 257 - q)]) = sumUp p ++ List.replicate (257 - q) s[j]) := fun h => by
          have := hcome.out.next (j := j + 1) hlt (by rw [EG.out]; simp) (by rw [EG.out]) (by rw [EG.out, rep_many]; exact h)
          rw [EG.out] at this
          exact ⟨this, by rw [sumUp_snoc, rep_many]⟩
        have j0 : (0 : Int) ≤ (j : Int) := by omega
        have j1 : (j : Int) < (s.size : Int) := by omega
        have hj1 : j < s.size := by omega
        clear EG hcome
        obtain ⟨b, hb⟩ : ∃ b, b = s[j] := ⟨_, rfl⟩
        have eb : (s[j].toNat : Int) = (b.toNat : Int) := by rw [hb]
        rw [← hb] at LG NX
        clear hb
        go_wp2_with fail
        go_loopw [4, 7] (fun v i wr => ∃ (m : Nat) (a : Option Addr) (n' c : Nat), m ≤ 257 - q ∧ i = .int .i64 m ∧ v = .slice a n' c ∧ n' ≤ 30000 ∧ Hid (n' = n + m) ∧ Hid (St w wr (.slice a n' c) (sumUp p ++ List.replicate m b))) (fun _ i _ => 300 - (intOf i).toNat)
        case atStart => exact ⟨0, a, n, c, by omega, rfl, rfl, by omega, rfl, by show St _ _ _ _; simpa using hst.out⟩
        case round =>
          clear hst
          obtain ⟨m, a, n', c, hm, rfl, rfl, hn3, hn', hst⟩ := hrel
          have HL : Hid (n' = (sumUp p ++ List.replicate m b).length) := by show _ = _; rw [List.length_append, List.length_replicate, hn'.out, HN.out]
          by_cases c5 : m < 257 - q
          · have d5 : (m : Int) < 257 - (q : Int) := by omega
            have hrow := hst.out.row HL.out
            have hbs := hst.out.2.size
            go_wp2_with (at_builtin; refine wpList_append_own _ rfl _ _ tO rfl w.heap.size 5 i0 (.int .u8 0) 1 1 Try.underlying25 hi hz0 hz1 hz2 rfl (by decide) _ _ _ rfl (hrow.alloc _) ⟨wr.heap.size, 0, none⟩ 1 1 [.int .u8 b.toNat] rfl rfl ?c1 ?c2 ?c3 ?c4 ?c5 ?_)
            case c1 =>
              intro j u hj
              match j, hj with
              | 0, hj => simp at hj; subst hj; simp [Addr.add]
            case c2 => intro u hu; simp at hu; subst hu; rfl
            case c3 => unfold maxLen; omega
            case c4 => omega
            case c5 => simp; omega
            intro v' w1 hown' hgrow _
            obtain ⟨g', cap', rfl⟩ := ownsRow_succ hown'
            have ST : Hid (St w w1 (.slice (some ⟨g', 0, none⟩) (n' + 1) cap') (sumUp p ++ List.replicate (m + 1) b)) := by
              have := hst.out.push HL.out hown' hgrow
              rw [List.append_assoc, ← List.replicate_succ'] at this
              exact this
            clear hown' hgrow hrow
            go_wp2
            go_roundw
            case rel => exact ⟨m + 1, _, _, _, by omega, by go_num, rfl, by have := hn'.out; omega, by have := hn'.out; show _ = _; omega, ST.out⟩
            case measure => simp [intOf]; omega
          · have d5 : ¬ (m : Int) < 257 - (q : Int) := by omega
            have em : m = 257 - q := by omega
            rw [em] at hst HL
            by_cases c6 : 20000 < n'
            · have HE : Hid (outV s = ⟨#[]⟩ ∧ outB s = false) := LG.out (by rw [← HL.out]; exact c6)
              clear LG NX
              go_wp2
              go_ret2
              exact ⟨ret_two' HE.out, hst.out.2⟩
            · obtain ⟨hc2, hs2⟩ := NX.out (by rw [← HL.out]; exact c6)
              have HC : Hid (Come s (j + 1) (p ++ [([b], 257 - q)])) := hc2
              have H2 : Hid (sumUp (p ++ [([b], 257 - q)]) = sumUp p ++ List.replicate (257 - q) b) := hs2
              have HJ2 : Hid ((k : Int) + 2 = ((j + 1 : Nat) : Int)) := by show _ = _; omega
              clear LG NX hc2 hs2
              go_wp2
              go_roundw
              case rel => exact ⟨j + 1, _, _, _, _, by omega, by rw [HJ2.out], rfl, by omega, by show _ = _; rw [H2.out]; exact HL.out, HC.out, by show St _ _ _ _; rw [H2.out]; exact hst.out⟩
              case measure => simp [intOf]; omega
      · have d3 : ¬ (128 : Int) < (q : Int) := by omega
        by_cases c4 : s.size < j + 1 + q
        · have HE : Hid (outV s = ⟨#[]⟩ ∧ outB s = false) := SHORT.out (by omega) c4
          clear NONE SHORT GREAT SMALL
          go_wp2
          go_ret2
          exact ⟨ret_two' HE.out, hst.out.2⟩
        · have EG : Hid (Pakp.ahead (D s k) = ((s.extract j (j + 1 + q)).data.toList, 1, D s (j + 1 + q))) := SMALL.out (by omega) c4
          clear NONE SHORT GREAT SMALL
          obtain ⟨x, hx⟩ : ∃ x : Nat, x = j + 1 + q := ⟨_, rfl⟩
          have HX : Hid (x = j + 1 + q) := hx
          have ex : (k : Int) + 2 + (q : Int) = (x : Int) := by omega
          have d4 : ¬ (s.size : Int) < (x : Int) := by omega
          have x0 : (j : Int) ≤ (x : Int) := by omega
          have x1 : (x : Int) ≤ (s.size : Int) := by omega
          have x2 : j < x := by omega
          rw [← hx] at EG
          have zx : (s.extract j x).size = x - j := by rw [ByteArray.size_extract]; omega
          have LG : Hid (20000 < (sumUp p ++ (s.extract j x).data.toList).length → outV s = ⟨#[]⟩ ∧ outB s = false) := fun h => hcome.out.long_end hlt (by rw [EG.out, rep_one]; exact h)
          have NE : (s.extract j x).data.toList ≠ [] := fun h => by
            have := congrArg List.length h
            rw [Array.length_toList] at this
            have e2 : (s.extract j x).data.size = (s.extract j x).size := rfl
            rw [e2, zx] at this; simp at this; omega
          have NX : Hid (¬ 20000 < (sumUp p ++ (s.extract j x).data.toList).length → Come s x (p ++ [((s.extract j x).data.toList, 1)]) ∧ sumUp (p ++ [((s.extract j x).data.toList, 1)]) = sumUp p ++ (s.extract j x).data.toList) := fun h => by
            have := hcome.out.next (j := x) hlt (by rw [EG.out]; exact NE) (by rw [EG.out]) (by rw [EG.out, rep_one]; exact h)
            rw [EG.out] at this
            exact ⟨this, by rw [sumUp_snoc, rep_one]⟩
          have zl : (sumUp p ++ (s.extract j x).data.toList).length = n + (s.extract j x).size := by rw [List.length_append, HN.out, Array.length_toList]; rfl
          have ZL : Hid ((sumUp p ++ (s.extract j x).data.toList).length = n + (s.extract j x).size) := zl
          clear EG hcome hx zl NE
          have zx5 : (s.extract j x).size ≤ 300 := by rw [zx]; have := HX.out; omega
          clear zx
          obtain ⟨t, ht⟩ : ∃ t, s.extract j x = t := ⟨_, rfl⟩
          rw [ht] at LG NX ZL zx5
          have hrow := hst.out.row HN.out
          have hbs := hst.out.2.size
          go_wp2_with (at_builtin; refine Lib.wpList_append_own_string _ rfl _ _ tO 9 rfl w.heap.size 5 i0 Try.underlying25 Try.underlying9 hi hz0 hz1 hz2 _ _ _ rfl hrow t rfl ?c3 ?c4 ?c5 ?_)
          case c3 => unfold maxLen; omega
          case c4 => omega
          intro v' w1 hown' hgrow _
          have ST : Hid (St w w1 v' (sumUp p ++ t.data.toList)) := hst.out.text HN.out hown' hgrow
          obtain ⟨ga, cap', rfl⟩ : ∃ ga cap', v' = .slice ga (n + t.size) cap' := by
            rcases hown'.2 with ⟨h, h0⟩ | ⟨g, cap, cur, hv, _⟩
            · exact ⟨none, 0, by rw [h, h0]⟩
            · exact ⟨_, _, hv⟩
          clear hown' hgrow hrow
          by_cases c6 : 20000 < n + t.size
          · have HE : Hid (outV s = ⟨#[]⟩ ∧ outB s = false) := LG.out (by rw [ZL.out]; exact c6)
            clear LG NX
            go_wp2
            go_ret2
            exact ⟨ret_two' HE.out, ST.out.2⟩
          · obtain ⟨hc2, hs2⟩ := NX.out (by rw [ZL.out]; exact c6)
            have HC : Hid (Come s x (p ++ [(t.data.toList, 1)])) := hc2
            have H2 : Hid (sumUp (p ++ [(t.data.toList, 1)]) = sumUp p ++ t.data.toList) := hs2
            clear LG NX hc2 hs2
            go_wp2
            go_roundw
            case rel => exact ⟨x, _, _, _, _, by omega, rfl, rfl, by omega, by show _ = _; rw [H2.out, ZL.out], HC.out, by show St _ _ _ _; rw [H2.out]; exact ST.out⟩
            case measure => have := HJ.out; simp [intOf]; omega
    · have HE : Hid (outV s = ⟨(sumUp p).toArray⟩ ∧ outB s = true) := hcome.out.fin hlt HS.out
      have hcv := str_own hst.out.1
      go_wp2
      go_ret2
      exact ⟨ret_two' HE.out, hst.out.2⟩
end Go.Proofs.Ytbffchfadockmaa.Unps
