/-
  Contracts of ours for spec.ExprText.
-/
import Derived.Test.YtplkglgaobdpiaaGreatDoorExtx
import Derived.Test.YtplkglgaobdpiaaGreatDoorSpecx
namespace Go.Proofs.YtplkglgaobdpiaaGreatDoor.Exts
open Go.ChangeShapes Go.WideShapes Go.ChangeAt Go.RowKit
open Go.Proofs.YtplkglgaobdpiaaGreatDoor.Stepx (Nodes takes run exprB)
open Go.Proofs.YtplkglgaobdpiaaGreatDoor.Steps (nodeB stepV)
open Optx Extx
set_option linter.unusedVariables false
set_option maxRecDepth 20000
def dec (n : Int) (t : ByteArray) : ByteArray := if n < 10 then strOfNums [48 + n] ++ t else dec (n / 10) (strOfNums [48 + n % 10] ++ t)
termination_by n.toNat
decreasing_by omega
theorem dec_small {n : Int} {t : ByteArray} (h : n < 10) : dec n t = strOfNums [48 + n] ++ t := by rw [dec, if_pos h]
theorem dec_great {n : Int} {t : ByteArray} (h : ¬ n < 10) : dec n t = dec (n / 10) (strOfNums [48 + n % 10] ++ t) := by rw [dec, if_neg h]
theorem one_size (x : Int) : (strOfNums [x]).size = 1 := strOfNums_size _
theorem cat_size (x : Int) (t : ByteArray) : (strOfNums [x] ++ t).size = t.size + 1 := by rw [ByteArray.size_append, one_size]; omega
set_option maxHeartbeats 400000 in
theorem l1Dec_any (n : Int) (w : World) (h0 : 0 ≤ n) (h1 : n ≤ 4000000000) :
    Calls Tryz.prog 70 #[.int .i64 n] w fun e w' => e = .returned (.string (dec n ⟨#[]⟩)) ∧ Below w.heap.size w w' := by
  have hcv : ∀ (u : World) (x : Int), (convert 41 9 (.slice (some ⟨u.heap.size, 0, none⟩) 1 1)).run Tryz.prog (u.alloc (.cells #[.int .u8 x] 5)) = .ok (.string (strOfNums [x])) (u.alloc (.cells #[.int .u8 x] 5)) := fun u x =>
    run_convert_bytes_arg _ 41 5 Tryz.underlying41 Tryz.underlying5 u.heap.size 0 1 1 [x] rfl (fun i hi => by
      rw [Nat.zero_add, World.cell?_alloc_new]
      match i, hi with
      | 0, _ => rfl) 9 Tryz.underlying9
  have hsz := one_size
  obtain ⟨r, hr⟩ : ∃ r, r = dec n ⟨#[]⟩ := ⟨_, rfl⟩
  rw [← hr]
  go_enter Tryz.func70, Tryz.ntmps70
  go_wp2
  go_loopw [0, 3] (fun v t wr => ∃ (m : Int) (s : ByteArray), 0 ≤ m ∧ (s.size : Int) + m ≤ n ∧ v = .int .i64 m ∧ t = .string s ∧ Hid (r = dec m s) ∧ Hid (Below w.heap.size w wr)) (fun v _ _ => (intOf v).toNat)
  case atStart => exact ⟨n, ⟨#[]⟩, h0, by show ((0 : Nat) : Int) + n ≤ n; omega, rfl, rfl, hr, Below.refl _ _⟩
  case round =>
    clear hr
    obtain ⟨m, s, hm0, hm1, rfl, rfl, hr, hb⟩ := hrel
    by_cases hlt : 10 ≤ m
    · have HR : Hid (r = dec (m / 10) (strOfNums [48 + m % 10] ++ s)) := by have := hr.out; rw [dec_great (by omega)] at this; exact this
      clear hr
      go_wp2
      go_roundw
      case rel => exact ⟨m / 10, strOfNums [48 + m % 10] ++ s, by omega, by rw [cat_size]; omega, rfl, rfl, HR, hb.out.alloc hb.out.size _⟩
      case measure => simp [intOf]; omega
    · have HR : Hid (r = strOfNums [48 + m] ++ s) := by have := hr.out; rw [dec_small (by omega)] at this; exact this
      clear hr
      go_wp2
      go_ret
      exact ⟨by rw [HR.out]; rfl, hb.out.alloc hb.out.size _⟩
theorem dec_digits : ∀ (k u : Nat) (t : ByteArray), u ≤ k → (dec (u : Int) t).data.toList = Lib.decDigits u ++ t.data.toList
  | k, u, t, hk => by
    by_cases h : u < 10
    · rw [dec_small (by omega), Lib.decDigits, dif_pos h, ByteArray.data_append, Array.toList_append, strOfNums_data]
      have e : ((48 : Int) + (u : Int)).toNat = 48 + u := by omega
      show [UInt8.ofNat ((48 : Int) + (u : Int)).toNat] ++ _ = _
      rw [e]
    · match k, hk with
      | 0, hk => omega
      | k + 1, hk =>
        rw [dec_great (by omega), Lib.decDigits, dif_neg h]
        have e0 : (u : Int) / 10 = ((u / 10 : Nat) : Int) := by omega
        rw [e0, dec_digits k (u / 10) _ (by omega), ByteArray.data_append, Array.toList_append, strOfNums_data, List.append_assoc]
        have e : ((48 : Int) + (u : Int) % 10).toNat = 48 + u % 10 := by omega
        show _ ++ ([UInt8.ofNat ((48 : Int) + (u : Int) % 10).toNat] ++ _) = _
        rw [e]
theorem dec_w {n : Int} (h0 : 0 ≤ n) : dec n ⟨#[]⟩ = decW n := by
  obtain ⟨u, rfl⟩ : ∃ u : Nat, n = (u : Int) := ⟨n.toNat, by omega⟩
  apply ByteArray.ext
  apply Array.toList_inj.1
  rw [dec_digits u u _ (Nat.le_refl _)]
  unfold decW Lib.itoa
  rw [if_neg (by omega)]
  simp
def wordsA : Array Value := #[.string ⟨#[]⟩, .string ⟨#[]⟩, .string ⟨#[]⟩, .string ⟨#[]⟩, .string ⟨#[110, 101, 103]⟩, .string ⟨#[110, 111, 116]⟩, .string ⟨#[104, 105, 103, 104]⟩, .string ⟨#[108, 111, 119]⟩, .string ⟨#[43]⟩, .string ⟨#[45]⟩, .string ⟨#[42]⟩, .string ⟨#[47]⟩, .string ⟨#[37]⟩, .string ⟨#[38]⟩, .string ⟨#[94]⟩, .string ⟨#[124]⟩, .string ⟨#[60, 60]⟩, .string ⟨#[62, 62]⟩]
theorem l2Words_any (w : World) : Calls Tryz.prog 116 #[] w fun e w' => e = .returned (.slice (some ⟨w.heap.size, 0, none⟩) 18 18) ∧ w' = w.alloc (.cells wordsA 9) := by
  go_enter Tryz.func116, Tryz.ntmps116
  go_wp2
  go_ret
  exact ⟨rfl, rfl⟩
theorem words_at {kd : Int} (h4 : 4 ≤ kd) (h17 : kd ≤ 17) (w : World) : (w.alloc (.cells wordsA 9)).cell? ⟨w.heap.size, kd.toNat, none⟩ = some (.string (opW kd)) := by
  rw [World.cell?_alloc_new]
  have : kd = 4 ∨ kd = 5 ∨ kd = 6 ∨ kd = 7 ∨ kd = 8 ∨ kd = 9 ∨ kd = 10 ∨ kd = 11 ∨ kd = 12 ∨ kd = 13 ∨ kd = 14 ∨ kd = 15 ∨ kd = 16 ∨ kd = 17 := by omega
  rcases this with rfl | rfl | rfl | rfl | rfl | rfl | rfl | rfl | rfl | rfl | rfl | rfl | rfl | rfl <;> rfl
theorem join_snoc : ∀ (X : List (List UInt8)) (x : List UInt8), X ≠ [] → Lib.join (X ++ [x]) [32] = Lib.join X [32] ++ 32 :: x
  | [], _, h => absurd rfl h
  | [y], x, _ => by unfold Lib.join; simp [List.intercalate]
  | y :: z :: X, x, _ => by
    have ih := join_snoc (z :: X) x (by simp)
    have e : ∀ (a b : List UInt8) (R : List (List UInt8)), Lib.join (a :: b :: R) [32] = a ++ 32 :: Lib.join (b :: R) [32] := fun a b R => by unfold Lib.join; simp [List.intercalate]
    rw [show (y :: z :: X) ++ [x] = y :: z :: (X ++ [x]) from rfl, e, e, show z :: (X ++ [x]) = (z :: X) ++ [x] from rfl, ih]
    simp
def part (L : List Stepx.Node) (k : Nat) : List UInt8 := Lib.join (((words L).take k).map (·.data.toList)) [32]
theorem part_step {L : List Stepx.Node} {k : Nat} (h : k < L.length) : part L (k + 1) = (if k = 0 then [] else part L k ++ [32]) ++ (wordB L[k]).data.toList := by
  have hk2 : k < (words L).length := by unfold words; rw [List.length_map]; exact h
  have hw := words_get hk2 h
  unfold part
  rw [List.take_succ_eq_append_getElem hk2, List.map_append, hw]
  by_cases h0 : k = 0
  · subst h0
    rw [if_pos rfl]
    simp [Lib.join_one]
  · rw [if_neg h0]
    show Lib.join (_ ++ [(wordB L[k]).data.toList]) [32] = _
    rw [join_snoc _ _ (by
      intro e
      have := congrArg List.length e
      rw [List.length_map, List.length_take, Nat.min_eq_left (Nat.le_of_lt hk2)] at this
      exact h0 this)]
    simp
theorem grow {a b : World} (h : Below a.heap.size a b) (o : Obj) : Below a.heap.size a (b.alloc o) := h.alloc h.size o
set_option maxHeartbeats 2000000 in
theorem specText_any (a : Option Addr) (cap : Nat) (L : List Stepx.Node) (w : World) (hN : Nodes w a L) (hlen : L.length ≤ 1048576) :
    Calls Tryz.prog 72 #[.slice a L.length cap] w fun e w' => e = .returned (.string (exprT L)) ∧ Below w.heap.size w w' := by
  have cs := Specx.exprOk_any a cap L w hN hlen
  cases hx : exprB L with
  | false =>
    have e1 : exprT L = ⟨#[]⟩ := by unfold exprT; rw [hx]; rfl
    rw [e1]
    rw [hx] at cs
    clear hN
    generalize L.length = len at *
    go_enter Tryz.func72, Tryz.ntmps72
    go_wp2_with fail
    refine cs.mono ?_
    rintro e w1 ⟨rfl, b1⟩
    have B1 : Hid (Below w.heap.size w w1) := b1
    clear b1 cs
    go_wp2
    go_ret
    exact ⟨rfl, B1.out⟩
  | true =>
    have e1 : exprT L = ⟨(part L L.length).toArray⟩ := by
      unfold exprT part; rw [if_pos hx]
      rw [show (words L).take L.length = words L by
        have : (words L).length = L.length := by unfold words; rw [List.length_map]
        rw [← this]; exact List.take_length]
    rw [e1]
    rw [hx] at cs
    have hrun : run 0 L = some 1 := by
      have := hx
      unfold exprB at this
      simp at this
      exact this.2
    have hl30 : L.length ≤ 30 := by
      have := hx
      unfold exprB at this
      simp at this
      exact this.1
    have HOK : Hid (∀ x ∈ L, NodeOk x) := nodes_ok hrun
    obtain ⟨b, off, rfl, hb, hc⟩ : ∃ b off, a = some ⟨b, off, none⟩ ∧ b < w.heap.size ∧ ∀ i (h : i < L.length), w.cell? ⟨b, off + i * 3, none⟩ = some (.int .i64 L[i].1) ∧ w.cell? ⟨b, off + i * 3 + 1, none⟩ = some (.int .i64 L[i].2.1) ∧ w.cell? ⟨b, off + i * 3 + 2, none⟩ = some (.string L[i].2.2) ∧ L[i].2.2.size ≤ maxLen := by
      rcases hN with h | h
      · exfalso; rw [h] at hrun; cases hrun
      · exact h
    have HC : Hid (∀ i (h : i < L.length), w.cell? ⟨b, off + i * 3, none⟩ = some (.int .i64 L[i].1) ∧ w.cell? ⟨b, off + i * 3 + 1, none⟩ = some (.int .i64 L[i].2.1) ∧ w.cell? ⟨b, off + i * 3 + 2, none⟩ = some (.string L[i].2.2) ∧ L[i].2.2.size ≤ maxLen) := hc
    obtain ⟨R, hR⟩ : ∃ R : ByteArray, R = ⟨(part L L.length).toArray⟩ := ⟨_, rfl⟩
    have HR : Hid (R = ⟨(part L L.length).toArray⟩) := hR
    rw [← hR]
    clear hR e1 hc hrun hx
    obtain ⟨len, hl⟩ : ∃ len, len = L.length := ⟨_, rfl⟩
    have HL : Hid (len = L.length) := hl
    rw [← hl] at hl30 cs ⊢
    clear hl hlen
    go_enter Tryz.func72, Tryz.ntmps72
    go_wp2_with fail
    refine cs.mono ?_
    rintro e w1 ⟨rfl, b1⟩
    have B1 : Hid (Below w.heap.size w w1) := b1
    clear b1 cs
    have HZ : Hid (∀ i, part L i = part L i) := fun _ => rfl
    go_wp2_with fail
    go_loopw [3, 4] (fun x i wr => ∃ (k : Nat) (sb : ByteArray), k ≤ len ∧ i = .int .i64 k ∧ x = .string sb ∧ Hid (sb.data.toList = part L k) ∧ sb.size ≤ 22 * k ∧ Hid (Below w.heap.size w wr)) (fun _ i _ => len - (intOf i).toNat)
    case atStart => exact ⟨0, ⟨#[]⟩, Nat.zero_le _, rfl, rfl, rfl, Nat.zero_le _, B1.out⟩
    case round =>
      clear HZ
      obtain ⟨k, sb, hk, rfl, rfl, hst, hss, hbel⟩ := hrel
      by_cases hlt : k < len
      · have hkL : k < L.length := by have := HL.out; omega
        obtain ⟨c0, c1, c2⟩ : wr.cell? ⟨b, off + k * 3, none⟩ = some (.int .i64 L[k].1) ∧ wr.cell? ⟨b, off + k * 3 + 1, none⟩ = some (.int .i64 L[k].2.1) ∧ wr.cell? ⟨b, off + k * 3 + 2, none⟩ = some (.string L[k].2.2) := by
          obtain ⟨d0, d1, d2, d3⟩ := HC.out k hkL
          exact ⟨(hbel.out.cell (p := ⟨b, _, none⟩) hb).trans d0, (hbel.out.cell (p := ⟨b, _, none⟩) hb).trans d1, (hbel.out.cell (p := ⟨b, _, none⟩) hb).trans d2⟩
        have HP0 : Hid (part L (k + 1) = (if k = 0 then [] else part L k ++ [32]) ++ (wordB L[k]).data.toList) := part_step hkL
        have hok := HOK.out _ (List.getElem_mem hkL)
        have hwl := word_len hok
        have k0 : (0 : Int) ≤ (k : Int) := by omega
        have k1 : (k : Int) < (len : Int) := by omega
        obtain ⟨kd, n, s, hnode⟩ : ∃ kd n s, L[k] = (kd, n, s) := ⟨_, _, _, rfl⟩
        rw [hnode] at c0 c1 c2 HP0 hok hwl
        simp only at c0 c1 c2
        have hnb : nodeB kd n s = true := hok
        clear hnode hok
        by_cases hk0 : ¬ 0 < k
        · have g0 : decide ((0 : Int) < (k : Int)) = false := decide_eq_false (by omega)
          have HP : Hid (part L (k + 1) = part L k ++ (wordB (kd, n, s)).data.toList) := by
            show _ = _
            have e : part L k = [] := by have : k = 0 := (by omega); subst this; rfl
            have := HP0.out; rw [if_pos (by omega)] at this; rw [this, e]
          clear HP0
          rcases kinds_of hnb with rfl | rfl | rfl | ⟨k4, k7⟩ | ⟨k8, k17⟩
          · have hw := word_of hnb
            have cd := fun W => l1Dec_any n W hw.1 (by omega)
            rw [dec_w hw.1] at cd
            have hwd : wordB (1, n, s) = decW n := rfl
            rw [hwd] at HP hwl
            generalize decW n = wd at cd HP hwl
            clear hwd hw
            go_wp2_with fail
            refine (cd _).mono ?_
            rintro e w3 ⟨rfl, b3⟩
            have B3 : Hid (Below w.heap.size w w3) := hbel.out.trans (b3.mono hbel.out.size)
            clear b3 cd
            go_wp2_with fail
            go_roundw
            case rel => exact ⟨k + 1, _, by omega, by go_num, rfl, by show _ = _; rw [HP.out]; simp [ByteArray.data_append, hst.out], by simp only [ByteArray.size_append]; have e1 : (⟨#[32]⟩ : ByteArray).size = 1 := rfl; have e2 : (⟨#[35]⟩ : ByteArray).size = 1 := rfl; omega, B3.out⟩
            case measure => simp [intOf]; omega
          · have hwd : wordB (2, n, s) = s := rfl
            rw [hwd] at HP hwl
            clear hwd
            go_wp2_with fail
            go_roundw
            case rel => exact ⟨k + 1, _, by omega, by go_num, rfl, by show _ = _; rw [HP.out]; simp [ByteArray.data_append, hst.out], by simp only [ByteArray.size_append]; have e1 : (⟨#[32]⟩ : ByteArray).size = 1 := rfl; have e2 : (⟨#[35]⟩ : ByteArray).size = 1 := rfl; omega, hbel.out⟩
            case measure => simp [intOf]; omega
          · have hsz := name_of hnb (.inr rfl)
            have hwd : wordB (3, n, s) = ⟨#[35]⟩ ++ s := rfl
            rw [hwd] at HP hwl
            clear hwd
            go_wp2_with fail
            go_roundw
            case rel => exact ⟨k + 1, _, by omega, by go_num, rfl, by show _ = _; rw [HP.out]; simp [ByteArray.data_append, hst.out], by simp only [ByteArray.size_append]; have e1 : (⟨#[32]⟩ : ByteArray).size = 1 := rfl; have e2 : (⟨#[35]⟩ : ByteArray).size = 1 := rfl; omega, hbel.out⟩
            case measure => simp [intOf]; omega
          · have hwd : wordB (kd, n, s) = opW kd := word_op (by omega)
            rw [hwd] at HP hwl
            clear hwd
            have hwa := fun W => words_at (kd := kd) (by omega) (by omega) W
            obtain ⟨j, rfl⟩ : ∃ j : Nat, kd = (j : Int) := ⟨kd.toNat, by omega⟩
            simp only [Int.toNat_natCast] at hwa
            generalize opW (j : Int) = wd at HP hwl hwa
            have j0 : (0 : Int) ≤ (j : Int) := by omega
            have j1 : (j : Int) < 18 := by omega
            have q1 : ((j : Int) == 1) = false := by simp; omega
            have q2 : ((j : Int) == 2) = false := by simp; omega
            have q3 : ((j : Int) == 3) = false := by simp; omega
            have hcw : ∀ o, (wr.alloc o).cell? ⟨b, off + k * 3, none⟩ = some (.int .i64 (j : Int)) := fun o => (World.cell?_of_block (a := ⟨b, _, none⟩) (Below.heap_alloc _ _ _ (Nat.lt_of_lt_of_le hb hbel.out.size))).trans c0
            clear hnb
            go_wp2_with fail
            go_region_with (go_at_call 116; refine (l2Words_any _).mono ?_; rintro e w3 ⟨rfl, rfl⟩; have hw3 := hwa wr; have hwd := hwa wr.drew)
            all_goals
              go_wp2_with fail
              go_roundw
              case rel => exact ⟨k + 1, _, by omega, by go_num, rfl, by show _ = _; rw [HP.out]; simp [ByteArray.data_append, hst.out], by simp only [ByteArray.size_append]; have e1 : (⟨#[32]⟩ : ByteArray).size = 1 := rfl; have e2 : (⟨#[35]⟩ : ByteArray).size = 1 := rfl; omega, (grow hbel.out _).drew⟩
              case measure => simp [intOf]; omega
          · have hwd : wordB (kd, n, s) = opW kd := word_op (by omega)
            rw [hwd] at HP hwl
            clear hwd
            have hwa := fun W => words_at (kd := kd) (by omega) (by omega) W
            obtain ⟨j, rfl⟩ : ∃ j : Nat, kd = (j : Int) := ⟨kd.toNat, by omega⟩
            simp only [Int.toNat_natCast] at hwa
            generalize opW (j : Int) = wd at HP hwl hwa
            have j0 : (0 : Int) ≤ (j : Int) := by omega
            have j1 : (j : Int) < 18 := by omega
            have q1 : ((j : Int) == 1) = false := by simp; omega
            have q2 : ((j : Int) == 2) = false := by simp; omega
            have q3 : ((j : Int) == 3) = false := by simp; omega
            have hcw : ∀ o, (wr.alloc o).cell? ⟨b, off + k * 3, none⟩ = some (.int .i64 (j : Int)) := fun o => (World.cell?_of_block (a := ⟨b, _, none⟩) (Below.heap_alloc _ _ _ (Nat.lt_of_lt_of_le hb hbel.out.size))).trans c0
            clear hnb
            go_wp2_with fail
            go_region_with (go_at_call 116; refine (l2Words_any _).mono ?_; rintro e w3 ⟨rfl, rfl⟩; have hw3 := hwa wr; have hwd := hwa wr.drew)
            all_goals
              go_wp2_with fail
              go_roundw
              case rel => exact ⟨k + 1, _, by omega, by go_num, rfl, by show _ = _; rw [HP.out]; simp [ByteArray.data_append, hst.out], by simp only [ByteArray.size_append]; have e1 : (⟨#[32]⟩ : ByteArray).size = 1 := rfl; have e2 : (⟨#[35]⟩ : ByteArray).size = 1 := rfl; omega, (grow hbel.out _).drew⟩
              case measure => simp [intOf]; omega
        · have hk0 := Decidable.of_not_not hk0
          have g0 : decide ((0 : Int) < (k : Int)) = true := decide_eq_true (by omega)
          have HP : Hid (part L (k + 1) = part L k ++ [32] ++ (wordB (kd, n, s)).data.toList) := by have := HP0.out; rw [if_neg (by omega)] at this; exact this
          clear HP0
          rcases kinds_of hnb with rfl | rfl | rfl | ⟨k4, k7⟩ | ⟨k8, k17⟩
          · have hw := word_of hnb
            have cd := fun W => l1Dec_any n W hw.1 (by omega)
            rw [dec_w hw.1] at cd
            have hwd : wordB (1, n, s) = decW n := rfl
            rw [hwd] at HP hwl
            generalize decW n = wd at cd HP hwl
            clear hwd hw
            go_wp2_with fail
            refine (cd _).mono ?_
            rintro e w3 ⟨rfl, b3⟩
            have B3 : Hid (Below w.heap.size w w3) := hbel.out.trans (b3.mono hbel.out.size)
            clear b3 cd
            go_wp2_with fail
            go_roundw
            case rel => exact ⟨k + 1, _, by omega, by go_num, rfl, by show _ = _; rw [HP.out]; simp [ByteArray.data_append, hst.out], by simp only [ByteArray.size_append]; have e1 : (⟨#[32]⟩ : ByteArray).size = 1 := rfl; have e2 : (⟨#[35]⟩ : ByteArray).size = 1 := rfl; omega, B3.out⟩
            case measure => simp [intOf]; omega
          · have hwd : wordB (2, n, s) = s := rfl
            rw [hwd] at HP hwl
            clear hwd
            go_wp2_with fail
            go_roundw
            case rel => exact ⟨k + 1, _, by omega, by go_num, rfl, by show _ = _; rw [HP.out]; simp [ByteArray.data_append, hst.out], by simp only [ByteArray.size_append]; have e1 : (⟨#[32]⟩ : ByteArray).size = 1 := rfl; have e2 : (⟨#[35]⟩ : ByteArray).size = 1 := rfl; omega, hbel.out⟩
            case measure => simp [intOf]; omega
          · have hsz := name_of hnb (.inr rfl)
            have hwd : wordB (3, n, s) = ⟨#[35]⟩ ++ s := rfl
            rw [hwd] at HP hwl
            clear hwd
            go_wp2_with fail
            go_roundw
            case rel => exact ⟨k + 1, _, by omega, by go_num, rfl, by show _ = _; rw [HP.out]; simp [ByteArray.data_append, hst.out], by simp only [ByteArray.size_append]; have e1 : (⟨#[32]⟩ : ByteArray).size = 1 := rfl; have e2 : (⟨#[35]⟩ : ByteArray).size = 1 := rfl; omega, hbel.out⟩
            case measure => simp [intOf]; omega
          · have hwd : wordB (kd, n, s) = opW kd := word_op (by omega)
            rw [hwd] at HP hwl
            clear hwd
            have hwa := fun W => words_at (kd := kd) (by omega) (by omega) W
            obtain ⟨j, rfl⟩ : ∃ j : Nat, kd = (j : Int) := ⟨kd.toNat, by omega⟩
            simp only [Int.toNat_natCast] at hwa
            generalize opW (j : Int) = wd at HP hwl hwa
            have j0 : (0 : Int) ≤ (j : Int) := by omega
            have j1 : (j : Int) < 18 := by omega
            have q1 : ((j : Int) == 1) = false := by simp; omega
            have q2 : ((j : Int) == 2) = false := by simp; omega
            have q3 : ((j : Int) == 3) = false := by simp; omega
            have hcw : ∀ o, (wr.alloc o).cell? ⟨b, off + k * 3, none⟩ = some (.int .i64 (j : Int)) := fun o => (World.cell?_of_block (a := ⟨b, _, none⟩) (Below.heap_alloc _ _ _ (Nat.lt_of_lt_of_le hb hbel.out.size))).trans c0
            clear hnb
            go_wp2_with fail
            go_region_with (go_at_call 116; refine (l2Words_any _).mono ?_; rintro e w3 ⟨rfl, rfl⟩; have hw3 := hwa wr; have hwd := hwa wr.drew)
            all_goals
              go_wp2_with fail
              go_roundw
              case rel => exact ⟨k + 1, _, by omega, by go_num, rfl, by show _ = _; rw [HP.out]; simp [ByteArray.data_append, hst.out], by simp only [ByteArray.size_append]; have e1 : (⟨#[32]⟩ : ByteArray).size = 1 := rfl; have e2 : (⟨#[35]⟩ : ByteArray).size = 1 := rfl; omega, (grow hbel.out _).drew⟩
              case measure => simp [intOf]; omega
          · have hwd : wordB (kd, n, s) = opW kd := word_op (by omega)
            rw [hwd] at HP hwl
            clear hwd
            have hwa := fun W => words_at (kd := kd) (by omega) (by omega) W
            obtain ⟨j, rfl⟩ : ∃ j : Nat, kd = (j : Int) := ⟨kd.toNat, by omega⟩
            simp only [Int.toNat_natCast] at hwa
            generalize opW (j : Int) = wd at HP hwl hwa
            have j0 : (0 : Int) ≤ (j : Int) := by omega
            have j1 : (j : Int) < 18 := by omega
            have q1 : ((j : Int) == 1) = false := by simp; omega
            have q2 : ((j : Int) == 2) = false := by simp; omega
            have q3 : ((j : Int) == 3) = false := by simp; omega
            have hcw : ∀ o, (wr.alloc o).cell? ⟨b, off + k * 3, none⟩ = some (.int .i64 (j : Int)) := fun o => (World.cell?_of_block (a := ⟨b, _, none⟩) (Below.heap_alloc _ _ _ (Nat.lt_of_lt_of_le hb hbel.out.size))).trans c0
            clear hnb
            go_wp2_with fail
            go_region_with (go_at_call 116; refine (l2Words_any _).mono ?_; rintro e w3 ⟨rfl, rfl⟩; have hw3 := hwa wr; have hwd := hwa wr.drew)
            all_goals
              go_wp2_with fail
              go_roundw
              case rel => exact ⟨k + 1, _, by omega, by go_num, rfl, by show _ = _; rw [HP.out]; simp [ByteArray.data_append, hst.out], by simp only [ByteArray.size_append]; have e1 : (⟨#[32]⟩ : ByteArray).size = 1 := rfl; have e2 : (⟨#[35]⟩ : ByteArray).size = 1 := rfl; omega, (grow hbel.out _).drew⟩
              case measure => simp [intOf]; omega
      · have e : k = len := by omega
        subst e
        have HE : Hid (R = sb) := by
          show _ = _
          rw [HR.out, ← HL.out, ← hst.out]
        go_wp2
        go_ret
        exact ⟨by rw [HE.out]; rfl, hbel.out⟩
end Go.Proofs.YtplkglgaobdpiaaGreatDoor.Exts
