/-
  Contracts of ours for texts without blanks beside commas: spec.l7Slim, impl.squeezed.
-/
import Derived.Test.YtcjipfjbbdbbgaaDoorTrims
namespace Go.Proofs.YtcjipfjbbdbbgaaDoor.Slims
open Go.ChangeShapes Go.WideShapes Go.ChangeAt Go.RowKit Go.Deep
set_option linter.unusedVariables false
open Names (ret_bool empty_yes empty_no)
open Slim Trims
open Fill (infoB owned_string cells_one cells_cat slice_one)

theorem take_one {s : ByteArray} {k : Nat} (h : k < s.size) : s.data.toList.take (k + 1) = s.data.toList.take k ++ [s[k]] := by
  rw [List.take_succ_eq_append_getElem (by rw [size_list]; exact h)]; rfl
theorem drop_one {s : ByteArray} {k : Nat} (h : k < s.size) : s.data.toList.drop k = s[k] :: s.data.toList.drop (k + 1) := by
  rw [List.drop_eq_getElem_cons (by rw [size_list]; exact h)]; rfl
theorem list_one {s : ByteArray} {k : Nat} (h : k < s.size) : (s.extract k (k + 1)).data.toList = [s[k]] := by
  have hh : k < s.data.size := h
  rw [ByteArray.data_extract]
  apply List.ext_getElem
  · simp; omega
  · intro i h1 h2
    simp at h2
    subst h2
    simp
    rfl
theorem list_cat (a b : ByteArray) : (a ++ b).data.toList = a.data.toList ++ b.data.toList := by rw [ByteArray.data_append, Array.toList_append]
theorem list_nil {o : ByteArray} (h : o.size = 0) : o.data.toList = [] := List.eq_nil_of_length_eq_zero (by rw [size_list]; exact h)
theorem list_ne {o : ByteArray} (h : 0 < o.size) : o.data.toList ≠ [] := fun e => by have := size_list o; rw [e] at this; simp at this; omega
theorem lst_of {o : ByteArray} (h : 0 < o.size) (hq : o.size - 1 < o.size) : lst o.data.toList = o[o.size - 1] := by rw [list_last h hq, lst_snoc]

set_option maxHeartbeats 1000000 in
theorem l7Slim_any (s : ByteArray) (w : World) (hs : s.size ≤ 1000) :
    Calls Tryd.prog 31 #[.string s] w fun e w' => e = .returned (.string (slimS s)) ∧ w' = w := by
  have ct := fun (o : ByteArray) (h : o.size ≤ 1000) w => l7Trim_any o w (by omega)
  have CT := (show Hid _ from ct)
  clear ct
  go_enter Tryd.func31, Tryd.ntmps31
  go_wp2
  go_loop [3, 4] (fun v i => ∃ (k : Nat) (o : ByteArray), k ≤ s.size ∧ o.size ≤ k ∧ i = .int .i64 k ∧ v = .string o ∧ Hid (o.data.toList = (s.data.toList.take k).foldl one [])) (fun _ i => s.size - (intOf i).toNat)
  case atStart => exact ⟨0, ⟨#[]⟩, Nat.zero_le _, Nat.le_refl _, rfl, rfl, rfl⟩
  case round =>
    obtain ⟨k, o, hk, ho, rfl, rfl, hr⟩ := hrel
    by_cases hlt : k < s.size
    · have hsl := slice_one s k hlt
      have hone : (s.extract k (k + 1)).size = 1 := by rw [ByteArray.size_extract]; omega
      have hb := UInt8.toNat_lt s[k]
      have HN : Hid ((s.data.toList.take (k + 1)).foldl one [] = one o.data.toList s[k]) := (show (s.data.toList.take (k + 1)).foldl one [] = one o.data.toList s[k] from by rw [take_one hlt, List.foldl_append, hr.out]; rfl)
      have push : Hid ((¬ (s[k] = 32 ∧ o.data.toList ≠ [] ∧ (lst o.data.toList = 32 ∨ lst o.data.toList = 44))) → (¬ (s[k] = 44 ∧ o.data.toList ≠ [] ∧ lst o.data.toList = 32)) → (o ++ s.extract k (k + 1)).data.toList = (s.data.toList.take (k + 1)).foldl one []) := fun h1 h2 => by
        rw [HN.out, list_cat, list_one hlt]; unfold one; rw [if_neg h1, if_neg h2]
      have stay : Hid ((s[k] = 32 ∧ o.data.toList ≠ [] ∧ (lst o.data.toList = 32 ∨ lst o.data.toList = 44)) → o.data.toList = (s.data.toList.take (k + 1)).foldl one []) := fun h1 => by
        rw [HN.out]; unfold one; rw [if_pos h1]
      by_cases hp : 0 < o.size
      · have hq : o.size - 1 < o.size := by omega
        have hw1 : ((o.size : Int) - 1).toNat = o.size - 1 := by omega
        have i0 : (0 : Int) ≤ (o.size : Int) - 1 := by omega
        have i1 : (o.size : Int) - 1 < (o.size : Int) := by omega
        have hl := lst_of hp hq
        have hne := list_ne hp
        have se := slice_e o hp
        have hcut : (o.extract 0 (o.size - 1)).size = o.size - 1 := by rw [ByteArray.size_extract]; omega
        by_cases hc : (s[k].toNat : Int) = 32
        · by_cases h1 : (o[o.size - 1].toNat : Int) = 32
          · have HR := (show Hid (o.data.toList = (s.data.toList.take (k + 1)).foldl one []) from stay.out ⟨b32 hc, hne, .inl (by rw [hl]; exact b32 h1)⟩)
            clear push stay HN hr hl hne
            go_wp2
            go_round
            case rel => exact ⟨k + 1, o, by omega, by omega, by go_num, rfl, HR.out⟩
            case measure => simp [intOf]; omega
          by_cases h2 : (o[o.size - 1].toNat : Int) = 44
          · have HR := (show Hid (o.data.toList = (s.data.toList.take (k + 1)).foldl one []) from stay.out ⟨b32 hc, hne, .inr (by rw [hl]; exact b44 h2)⟩)
            clear push stay HN hr hl hne
            go_wp2
            go_round
            case rel => exact ⟨k + 1, o, by omega, by omega, by go_num, rfl, HR.out⟩
            case measure => simp [intOf]; omega
          · have HR := (show Hid ((o ++ s.extract k (k + 1)).data.toList = (s.data.toList.take (k + 1)).foldl one []) from push.out (by rintro ⟨_, _, h | h⟩; exact n32 h1 (hl ▸ h); exact n44 h2 (hl ▸ h)) (by rintro ⟨h, _⟩; rw [b32 hc] at h; revert h; decide))
            have q2 : ((o[o.size - 1].toNat : Int) == 44) = false := by simpa using h2
            clear push stay HN hr hl hne
            go_wp2
            go_round
            case rel => exact ⟨k + 1, _, by omega, by rw [ByteArray.size_append, hone]; omega, by go_num, rfl, HR.out⟩
            case measure => simp [intOf]; omega
        by_cases hd : (s[k].toNat : Int) = 44
        · by_cases h1 : (o[o.size - 1].toNat : Int) = 32
          · have HR : Hid ((o.extract 0 (o.size - 1) ++ s.extract k (k + 1)).data.toList = (s.data.toList.take (k + 1)).foldl one []) := (show _ = _ from by
              rw [HN.out, list_cat, list_one hlt]; unfold one
              rw [if_neg (by rintro ⟨h, _⟩; exact n32 hc h), if_pos ⟨b44 hd, hne, by rw [hl]; exact b32 h1⟩]
              congr 1
              conv => rhs; rw [list_last hp hq, List.dropLast_concat])
            clear push stay HN hr hl hne
            go_wp2
            go_round
            case rel => exact ⟨k + 1, _, by omega, by rw [ByteArray.size_append, hone, hcut]; omega, by go_num, rfl, HR.out⟩
            case measure => simp [intOf]; omega
          · have HR := (show Hid ((o ++ s.extract k (k + 1)).data.toList = (s.data.toList.take (k + 1)).foldl one []) from push.out (by rintro ⟨h, _⟩; exact n32 hc h) (by rintro ⟨_, _, h⟩; exact n32 h1 (hl ▸ h)))
            have q1 : ((o[o.size - 1].toNat : Int) == 32) = false := by simpa using h1
            clear push stay HN hr hl hne
            go_wp2
            go_round
            case rel => exact ⟨k + 1, _, by omega, by rw [ByteArray.size_append, hone]; omega, by go_num, rfl, HR.out⟩
            case measure => simp [intOf]; omega
        · have HR := (show Hid ((o ++ s.extract k (k + 1)).data.toList = (s.data.toList.take (k + 1)).foldl one []) from push.out (by rintro ⟨h, _⟩; exact n32 hc h) (by rintro ⟨h, _⟩; exact n44 hd h))
          clear push stay HN hr hl hne
          go_wp2
          go_round
          case rel => exact ⟨k + 1, _, by omega, by rw [ByteArray.size_append, hone]; omega, by go_num, rfl, HR.out⟩
          case measure => simp [intOf]; omega
      · have hz : o.size = 0 := by omega
        have hnil := list_nil hz
        have HR := (show Hid ((o ++ s.extract k (k + 1)).data.toList = (s.data.toList.take (k + 1)).foldl one []) from push.out (by rintro ⟨_, h, _⟩; exact h hnil) (by rintro ⟨_, h, _⟩; exact h hnil))
        have d0 : decide (0 < (o.size : Int)) = false := decide_eq_false (by omega)
        clear push stay HN hr hnil hz
        by_cases hc : (s[k].toNat : Int) = 32
        · go_wp2
          go_round
          case rel => exact ⟨k + 1, _, by omega, by rw [ByteArray.size_append, hone]; omega, by go_num, rfl, HR.out⟩
          case measure => simp [intOf]; omega
        by_cases hd : (s[k].toNat : Int) = 44
        · go_wp2
          go_round
          case rel => exact ⟨k + 1, _, by omega, by rw [ByteArray.size_append, hone]; omega, by go_num, rfl, HR.out⟩
          case measure => simp [intOf]; omega
        · go_wp2
          go_round
          case rel => exact ⟨k + 1, _, by omega, by rw [ByteArray.size_append, hone]; omega, by go_num, rfl, HR.out⟩
          case measure => simp [intOf]; omega
    · have HE : Hid (trimS o = slimS s) := (show trimS o = slimS s from by
        have := hr.out
        rw [List.take_of_length_le (by rw [size_list]; omega)] at this
        unfold trimS slimS
        rw [this, slim_eq])
      have c1 := fun w => CT.out o (by omega) w
      clear hr CT
      go_wp2_with (go_at_call 30; refine (c1 _).mono ?_; rintro e w' ⟨rfl, rfl⟩)
      go_ret
      exact ⟨ret_str HE.out.symm, rfl⟩

def JS (R : ByteArray) (w : World) (a' : Act) (w' : World) : Prop := ∃ v : Value, w'.ownsRow w.heap.size 5 1 v R.size (Lib.strCells R) ∧ Below w.heap.size w w' ∧ ∃ u0 u1 u2 u4 u5 u6 u7 u8 u9 u10 u11 u12 u13 u14 u15 u16 u17 u18 u19 u20 u21 u22 u23 u24 u25 u26 u27 u28 u29 u30 u31 u32 u33 u34 u35 u36 u37 u38 u39 u40 u41 u42 u43 u44 u45 u46 u47 u48 u49 u50 u51 u52 u53 : Value, a' = { tmps := #[u0, u1, u2, v, u4, u5, u6, u7, u8, u9, u10, u11, u12, u13, u14, u15, u16, u17, u18, u19, u20, u21, u22, u23, u24, u25, u26, u27, u28, u29, u30, u31, u32, u33, u34, u35, u36, u37, u38, u39, u40, u41, u42, u43, u44, u45, u46, u47, u48, u49, u50, u51, u52, u53], defers := [] }

theorem sq_32 (r A : List UInt8) (p : Bool) : sq (32 :: r) A p = sq r A true := by rw [sq, if_pos rfl]
theorem of_lists {R o : ByteArray} (h : R.data.toList = o.data.toList) : R = o := by rw [← mk_list R, h, mk_list]

set_option maxHeartbeats 4000000 in
theorem squeezed_any (s : ByteArray) (w : World) (hs : s.size ≤ 1000) :
    Calls Tryd.prog 25 #[.string s] w fun e w' => e = .returned (.string (slimS s)) ∧ Below w.heap.size w w' := by
  obtain ⟨i0, hi, hz0, hz1, hz2⟩ := info_parts infoB
  obtain ⟨R, hR⟩ : ∃ R, R = slimS s := ⟨_, rfl⟩
  have HR : Hid (R.data.toList = sq s.data.toList [] false) := (show R.data.toList = sq s.data.toList [] false from by rw [hR]; simp [slimS])
  have hRz : R.size ≤ 2000 := by rw [hR]; have := slimS_le s; omega
  rw [← hR]
  clear hR
  go_enter Tryd.func25, Tryd.ntmps25
  go_wp2
  refine wp_scope_jumps 1 (JS R w) (fun _ _ => 0) rfl ?_ (by
    rintro a' w' ⟨v, hown, hbel, u0, u1, u2, u4, u5, u6, u7, u8, u9, u10, u11, u12, u13, u14, u15, u16, u17, u18, u19, u20, u21, u22, u23, u24, u25, u26, u27, u28, u29, u30, u31, u32, u33, u34, u35, u36, u37, u38, u39, u40, u41, u42, u43, u44, u45, u46, u47, u48, u49, u50, u51, u52, u53, rfl⟩
    obtain ⟨x, cap, rfl, _, hcv⟩ := owned_string hown
    have B : Hid (Below w.heap.size w w') := hbel
    clear hown hbel HR
    go_wp2
    simp only [Exit.jump]
    go_ret
    exact ⟨rfl, B.out⟩)
  go_wp2
  go_step3
  go_wp2
  go_loopw [3, 4] (fun v i wr => ∃ (k : Nat) (o : ByteArray), k ≤ s.size ∧ o.size ≤ 2 * k ∧ i = .int .i64 k ∧ Hid (wr.ownsRow w.heap.size 5 1 v o.size (Lib.strCells o)) ∧ Hid (R.data.toList = sq (s.data.toList.drop k) o.data.toList false) ∧ Hid (Below w.heap.size w wr)) (fun _ i _ => s.size - (intOf i).toNat)
  case atStart => exact ⟨0, ⟨#[]⟩, Nat.zero_le _, Nat.le_refl _, rfl, World.ownsRow_nil _ _ _ _, HR.out, Below.refl _ _⟩
  case round =>
    clear HR
    obtain ⟨k, o, hk, ho, rfl, hown, hr, hbel⟩ := hrel
    by_cases hlt : k < s.size
    · have hb := UInt8.toNat_lt s[k]
      by_cases hc : (s[k].toNat : Int) = 32
      · have HB : Hid (R.data.toList = sq (s.data.toList.drop k) o.data.toList true) := (show _ = _ from by
          have := hr.out
          rw [drop_one hlt, b32 hc, sq_32] at this
          rw [drop_one hlt, b32 hc, sq_32]; exact this)
        have HC : Hid ((s[k].toNat : Int) = 32) := hc
        have b1 : ((s[k].toNat : Int) == 32) = true := by simpa using hc
        have b2 : ((s[k].toNat : Int) != 32) = false := by simpa using hc
        clear hc hr
        go_wp2
        go_loop [4] (fun i => ∃ (m : Nat), k ≤ m ∧ m < s.size ∧ i = .int .i64 m ∧ Hid (R.data.toList = sq (s.data.toList.drop m) o.data.toList true)) (fun i => s.size - (intOf i).toNat)
        case atStart => exact ⟨k, Nat.le_refl _, hlt, rfl, HB.out⟩
        case round =>
          clear HB b1 b2
          obtain ⟨m, hkm, hm, rfl, hr⟩ := hrel
          have hbm := UInt8.toNat_lt s[m]
          by_cases hcm : (s[m].toNat : Int) = 32
          · have HN : Hid (R.data.toList = sq (s.data.toList.drop (m + 1)) o.data.toList true) := (show _ = _ from by
              have := hr.out
              rw [drop_one hm, b32 hcm, sq_32] at this
              exact this)
            clear hr
            by_cases hend : m + 1 = s.size
            · have hE : o = R := by
                have := HN.out
                rw [List.drop_eq_nil_of_le (by rw [size_list]; omega), sq] at this
                exact (of_lists this).symm
              have e1 : (m : Int) + 1 = (s.size : Int) := by omega
              subst hE
              clear HN HC
              go_wp2
              go_step3
              exact (show 1 = 1 ∧ JS o w _ _ from ⟨rfl, _, hown.out, hbel.out, _, _, _, _, _, _, _, _, _, _, _, _, _, _, _, _, _, _, _, _, _, _, _, _, _, _, _, _, _, _, _, _, _, _, _, _, _, _, _, _, _, _, _, _, _, _, _, _, _, _, _, _, _, rfl⟩)
            · have e1 : ¬ (m : Int) + 1 = (s.size : Int) := by omega
              clear HC
              go_wp2
              go_round
              case rel => exact ⟨m + 1, by omega, by omega, by go_num, HN.out⟩
              case measure => simp [intOf]; omega
          · have hlt' : k < m := by
              rcases Nat.lt_or_ge k m with h | h
              · exact h
              · exfalso
                have e : k = m := by omega
                subst e
                exact hcm HC.out
            have q32 : ((s[m].toNat : Int) == 32) = false := by simpa using hcm
            have HS : Hid (∀ A : List UInt8, sq (s.data.toList.drop m) A false = sq (s.data.toList.drop (m + 1)) (A ++ [s[m]]) false) := fun A => by
              rw [drop_one hm, sq, if_neg (n32 hcm), if_neg (by rintro ⟨_, h, _⟩; cases h)]
            have HM : Hid ((s[m] ≠ 44 ∧ o.data.toList ≠ [] ∧ lst o.data.toList ≠ 44) → R.data.toList = sq (s.data.toList.drop m) (o ++ ⟨#[32]⟩).data.toList false) := fun h => by
              have := hr.out
              rw [drop_one hm, sq, if_neg (n32 hcm), if_pos ⟨h.1, rfl, h.2.1, h.2.2⟩] at this
              rw [this, HS.out, list_cat]
              congr 1
              simp
            have HQ : Hid (¬ (s[m] ≠ 44 ∧ o.data.toList ≠ [] ∧ lst o.data.toList ≠ 44) → R.data.toList = sq (s.data.toList.drop m) o.data.toList false) := fun h => by
              have := hr.out
              rw [drop_one hm, sq, if_neg (n32 hcm), if_neg (fun hh => h ⟨hh.1, hh.2.2.1, hh.2.2.2⟩)] at this
              rw [this, HS.out]
            clear hr HC HS
            by_cases hd : (s[m].toNat : Int) = 44
            · have HG := (show Hid (R.data.toList = sq (s.data.toList.drop m) o.data.toList false) from HQ.out (fun h => h.1 (b44 hd)))
              clear HM HQ
              go_wp2
              go_roundw
              case rel => exact ⟨m, o, by omega, by omega, rfl, hown.out, HG.out, hbel.out⟩
              case measure => simp [intOf]; omega
            have d44 : ((s[m].toNat : Int) != 44) = true := by simpa using hd
            by_cases hp : 0 < o.size
            · have hq : o.size - 1 < o.size := by omega
              have hl := lst_of hp hq
              have hne := list_ne hp
              have own1 := hown.out
              obtain ⟨g, cap, cur, rfl, hbg, hg, hnc, hcm', hcs, htake⟩ : ∃ g cap cur, u3 = .slice (some ⟨g, 0, none⟩) o.size cap ∧ w.heap.size ≤ g ∧ wr.heap[g]? = some (.cells cur 5 (0, 0)) ∧ o.size ≤ cap ∧ cap ≤ maxLen ∧ cur.size = cap * 1 ∧ cur.toList.take (o.size * 1) = Lib.strCells o := by
                rcases own1.2 with ⟨_, h⟩ | h
                · omega
                · exact h
              have c0 : wr.cell? ⟨g, o.size - 1, none⟩ = some (.int .u8 (o[o.size - 1].toNat : Int)) := by
                rw [own1.cellAt (o.size - 1) (by omega)]
                unfold Lib.strCells
                rw [List.getElem?_map, List.getElem?_eq_getElem (by rw [size_list]; exact hq)]
                rfl
              have hw1 : ((o.size : Int) - 1).toNat = o.size - 1 := by omega
              have j0 : (0 : Int) ≤ (o.size : Int) - 1 := by omega
              have j1 : (o.size : Int) - 1 < (o.size : Int) := by omega
              clear own1 hbg hg hnc hcm' hcs htake
              by_cases h4 : (o[o.size - 1].toNat : Int) = 44
              · have HG := (show Hid (R.data.toList = sq (s.data.toList.drop m) o.data.toList false) from HQ.out (fun h => h.2.2 (by rw [hl]; exact b44 h4)))
                clear HM HQ hl hne
                go_wp2
                go_roundw
                case rel => exact ⟨m, o, by omega, by omega, rfl, hown.out, HG.out, hbel.out⟩
                case measure => simp [intOf]; omega
              · have HG := (show Hid (R.data.toList = sq (s.data.toList.drop m) (o ++ ⟨#[32]⟩).data.toList false) from HM.out ⟨n44 hd, hne, by rw [hl]; exact n44 h4⟩)
                have q4 : ((o[o.size - 1].toNat : Int) != 44) = true := by simpa using h4
                have hlt2 := hown.out.lt
                have s32 : (o ++ (⟨#[32]⟩ : ByteArray)).size = o.size + 1 := by rw [ByteArray.size_append]; rfl
                have HC2 : Hid (Lib.strCells (⟨#[32]⟩ : ByteArray) = [.int .u8 32]) := rfl
                clear HM HQ hl hne
                go_wp2_with (first | (at_builtin; refine wpList_append_own _ rfl (.tmp 49) (.tmp 50) 22 rfl w.heap.size 5 i0 (.int .u8 0) 1 1 Tryd.underlying22 hi hz0 hz1 hz2 rfl (by decide) _ _ _ rfl (hown.out.alloc _) ⟨wr.heap.size, 0, none⟩ 1 1 [.int .u8 32] rfl rfl (cell_one_new _ _ _) (by intro u hu; simp at hu; subst hu; rfl) (by unfold maxLen; omega) (by omega) (by have := hbel.out.size; simp; omega) ?_; intro v' w2 hown' hgrow _) | go_in)
                go_wp2
                go_roundw
                case rel => exact ⟨m, o ++ (⟨#[32]⟩ : ByteArray), by omega, by rw [s32]; omega, rfl, by rw [s32, cells_cat, HC2.out]; exact hown', HG.out, (hbel.out.alloc hbel.out.size _).grown hgrow (by have := hbel.out.size; simp; omega) (fun j hj => (hlt2 j hj).1)⟩
                case measure => simp [intOf]; omega
            · have hz : o.size = 0 := by omega
              have HG := (show Hid (R.data.toList = sq (s.data.toList.drop m) o.data.toList false) from HQ.out (fun h => h.2.1 (list_nil hz)))
              have d0 : decide (0 < (o.size : Int)) = false := decide_eq_false (by omega)
              obtain ⟨x, cap, rfl, _, _⟩ := owned_string hown.out
              clear HM HQ
              go_wp2
              go_roundw
              case rel => exact ⟨m, o, by omega, by omega, rfl, hown.out, HG.out, hbel.out⟩
              case measure => simp [intOf]; omega
      · have HN : Hid (R.data.toList = sq (s.data.toList.drop (k + 1)) (o ++ s.extract k (k + 1)).data.toList false) := (show _ = _ from by
          have := hr.out
          rw [drop_one hlt, sq, if_neg (n32 hc), if_neg (by rintro ⟨_, h, _⟩; cases h)] at this
          rw [list_cat, list_one hlt]; exact this)
        have HC := (show Hid _ from cells_one hlt)
        have hone : (s.extract k (k + 1)).size = 1 := by rw [ByteArray.size_extract]; omega
        clear hr
        have hlt2 := hown.out.lt
        go_wp2_with (first | (at_builtin; refine wpList_append_own _ rfl (.tmp 13) (.tmp 17) 22 rfl w.heap.size 5 i0 (.int .u8 0) 1 1 Tryd.underlying22 hi hz0 hz1 hz2 rfl (by decide) _ _ _ rfl (hown.out.alloc _) ⟨wr.heap.size, 0, none⟩ 1 1 [.int .u8 (s[k].toNat : Int)] rfl rfl (cell_one_new _ _ _) (by intro u hu; simp at hu; subst hu; rfl) (by unfold maxLen; omega) (by omega) (by have := hbel.out.size; simp; omega) ?_; intro v' w2 hown' hgrow _) | go_in)
        go_wp2
        go_roundw
        case rel => exact ⟨k + 1, o ++ s.extract k (k + 1), by omega, by rw [ByteArray.size_append]; omega, by go_num, by rw [ByteArray.size_append, cells_cat, HC.out, hone]; exact hown', HN.out, (hbel.out.alloc hbel.out.size _).grown hgrow (by have := hbel.out.size; simp; omega) (fun j hj => (hlt2 j hj).1)⟩
        case measure => simp [intOf]; omega
    · have hE : o = R := by
        have := hr.out
        rw [List.drop_eq_nil_of_le (by rw [size_list]; omega), sq] at this
        exact (of_lists this).symm
      subst hE
      obtain ⟨x, cap, rfl, _, hcv⟩ := owned_string hown.out
      clear hown hr
      go_wp2
      go_step3
      go_wp2
      simp only [Exit.jump]
      go_ret
      exact ⟨rfl, hbel.out⟩
end Go.Proofs.YtcjipfjbbdbbgaaDoor.Slims
