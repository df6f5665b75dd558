/-
  That both sides' flags of an instruction's text are one at every code, and their values where the flag is true.
-/
import Derived.Test.YtoajaadobieekaaGreatDoorRinsu
import Derived.Test.YtoajaadobieekaaGreatDoorHexn
namespace Go.Proofs.YtoajaadobieekaaGreatDoor.Same
open Go.ChangeShapes Go.WideShapes Go.ChangeAt Go.RowKit
open Signed (inB)
open HoleX (n8 n16 e8 holeT holeP)
open HolI LenX InsX Texi Fits Like Rinst Fitz Rinsu
set_option linter.unusedVariables false
set_option maxRecDepth 20000

theorem two_all : ∀ c : Fin 256, (im (newV n8 (c.val : Int)) = (c.val : Int) ∧ hv (newV n8 (c.val : Int)) = (c.val : Int) ∧ 0 < (newV n8 (c.val : Int)).size) ∧ (im (newV e8 (c.val : Int)) = (c.val : Int) ∧ hv (newV e8 (c.val : Int)) = (c.val : Int) ∧ 0 < (newV e8 (c.val : Int)).size) := by decide +kernel
theorem two_at {v : Int} (h0 : 0 ≤ v) (h1 : v ≤ 255) : (im (newV n8 v) = v ∧ hv (newV n8 v) = v ∧ 0 < (newV n8 v).size) ∧ (im (newV e8 v) = v ∧ hv (newV e8 v) = v ∧ 0 < (newV e8 v).size) := by
  have := two_all ⟨v.toNat, by omega⟩
  rwa [show ((⟨v.toNat, by omega⟩ : Fin 256).val : Int) = v by show ((v.toNat : Nat) : Int) = v; omega] at this
theorem dollar (l : List Int) : Lib.hasPrefix (strOfNums (36 :: l)).data.toList minus.data.toList = false := by
  rw [strOfNums_data, List.map_cons]
  rfl
theorem dollar0 (l : List Int) : ((strOfNums (36 :: l)).data.getD 0 0).toNat = 36 := rfl
theorem four_at {v : Int} (h0 : 0 ≤ v) (h1 : v ≤ 65535) : im (newV n16 v) = v ∧ hv (newV n16 v) = v ∧ 0 < (newV n16 v).size := by
  have hg : (1 : Int) ≤ 4 ∧ (4 : Int) ≤ 4 ∧ 0 ≤ v ∧ v ≤ 65535 ∧ v / Hex.pw 4 = 0 := ⟨by decide, by decide, h0, h1, by unfold Hex.pw; show v / (16 ^ 4) = 0; omega⟩
  have e : newV n16 v = Hex.hexS v 4 := rfl
  obtain ⟨e1, e2⟩ := Hexn.num_hex hg
  rw [e]
  have hd : Hex.hexS v 4 = strOfNums (36 :: Hex.digs v (4 : Int).toNat) := Hex.hexS_yes hg
  refine ⟨?_, ?_, by omega⟩
  · unfold im
    rw [if_neg (fun h => by rw [hd, dollar0] at h; exact absurd h.2 (by decide)), e1]
    rfl
  · have hp : Lib.hasPrefix (Hex.hexS v 4).data.toList minus.data.toList = false := by rw [hd]; exact dollar _
    have ht : (⟨(Lib.trimPrefix (Hex.hexS v 4).data.toList minus.data.toList).toArray⟩ : ByteArray) = Hex.hexS v 4 := by
      unfold Lib.trimPrefix
      rw [if_neg (by rw [hp]; decide)]
    unfold hv
    rw [ht, e1, if_neg (by rw [hp]; decide)]
    rfl
theorem ok_hole {code : Int} {cb : Bool} {v : Int} (ho : okV code cb v = true) (hh : ¬ (hole code cb).size = 0) : im (newV (hole code cb) v) = v ∧ hv (newV (hole code cb) v) = v ∧ 0 < (newV (hole code cb) v).size := by
  unfold okV at ho
  split at ho
  · cases ho
  rcases hole_cases code cb with h | h | h | h
  · rw [h] at ho ⊢
    rw [if_neg (by decide)] at ho
    have := of_decide_eq_true ho
    exact (two_at this.1 this.2).1
  · rw [h] at ho ⊢
    rw [if_pos (by decide)] at ho
    have := of_decide_eq_true ho
    exact four_at this.1 this.2
  · rw [h] at ho ⊢
    rw [if_neg (by decide)] at ho
    have := of_decide_eq_true ho
    exact (two_at this.1 this.2).2
  · rw [h] at hh
    exact absurd rfl hh
theorem ext_of {X Y : ByteArray} (h : X.data.toList = Y.data.toList) : X = Y := by
  apply ByteArray.ext
  exact Array.ext' h
theorem ex_of (X : ByteArray) (i j : Nat) : (X.extract i j).data.toList = (X.data.toList.drop i).take (j - i) := by
  simp only [ByteArray.data_extract, Array.toList_extract, List.extract_eq_take_drop]
theorem len_of (X : ByteArray) : X.data.toList.length = X.size := Array.length_toList
theorem around {s A N Z : ByteArray} (h : s = A ++ N ++ Z) : stands s A Z = true ∧ inner s A Z = N ∧ s.size = A.size + N.size + Z.size ∧ s.extract 0 A.size = A ∧ s.extract (s.size - Z.size) s.size = Z ∧ s.extract A.size (s.size - Z.size) = N := by
  have hl : s.data.toList = A.data.toList ++ (N.data.toList ++ Z.data.toList) := by
    rw [h]; simp only [ByteArray.data_append, Array.toList_append, List.append_assoc]
  have hz : s.size = A.size + N.size + Z.size := by
    rw [← len_of s, hl, List.length_append, List.length_append, len_of, len_of, len_of]; omega
  have hp : Lib.hasPrefix s.data.toList A.data.toList = true := by
    unfold Lib.hasPrefix
    rw [hl, List.isPrefixOf_iff_prefix]
    exact List.prefix_append _ _
  have ht : Lib.trimPrefix s.data.toList A.data.toList = N.data.toList ++ Z.data.toList := by
    unfold Lib.trimPrefix
    rw [if_pos hp, hl, List.drop_left]
  have hq : Lib.hasSuffix (N.data.toList ++ Z.data.toList) Z.data.toList = true := by
    unfold Lib.hasSuffix
    rw [List.isSuffixOf_iff_suffix]
    exact List.suffix_append _ _
  have hu : Lib.trimSuffix (N.data.toList ++ Z.data.toList) Z.data.toList = N.data.toList := by
    unfold Lib.trimSuffix
    rw [if_pos hq, List.length_append, Nat.add_sub_cancel, List.take_left]
  refine ⟨?_, ?_, hz, ?_, ?_, ?_⟩
  · unfold stands
    rw [ht, hp, hq]; rfl
  · unfold inner
    rw [ht, hu]
  · apply ext_of
    rw [ex_of, hl, List.drop_zero, Nat.sub_zero, ← len_of A, List.take_left]
  · apply ext_of
    rw [ex_of, hl, hz, show A.size + N.size + Z.size - Z.size = A.size + N.size by omega, ← List.append_assoc]
    rw [show A.size + N.size = (A.data.toList ++ N.data.toList).length by rw [List.length_append, len_of, len_of], List.drop_left]
    exact List.take_of_length_le (by rw [len_of, List.length_append, len_of, len_of]; omega)
  · apply ext_of
    rw [ex_of, hl, hz, show A.size + N.size + Z.size - Z.size - A.size = N.size by omega, ← len_of A, List.drop_left, ← len_of N, List.take_left]
theorem eq_of_lists {X Y : ByteArray} (h : (X.toList == Y.toList) = true) : X = Y := by
  have := eq_of_beq h
  rw [ByteArray.toList_eq, ByteArray.toList_eq] at this
  exact ext_of this
theorem lists_self (X : ByteArray) : (X.toList == X.toList) = true := beq_self_eq_true _
theorem sign_all : ∀ (c : Fin 256) (b : Bool), ((hole (c.val : Int) b).size = 0 → holeP (Tmpl.tmplS (c.val : Int) b) < 0) ∧ (¬ (hole (c.val : Int) b).size = 0 → 0 ≤ holeP (Tmpl.tmplS (c.val : Int) b) ∧ ¬ (Tmpl.tmplS (c.val : Int) b).size = 0) := by decide +kernel
theorem sign_at (code : Int) (cb : Bool) (h0 : 0 ≤ code) (h1 : code ≤ 255) : ((hole code cb).size = 0 → holeP (Tmpl.tmplS code cb) < 0) ∧ (¬ (hole code cb).size = 0 → 0 ≤ holeP (Tmpl.tmplS code cb) ∧ ¬ (Tmpl.tmplS code cb).size = 0) := by
  have := sign_all ⟨code.toNat, by omega⟩ cb
  rwa [show ((⟨code.toNat, by omega⟩ : Fin 256).val : Int) = code by show ((code.toNat : Nat) : Int) = code; omega] at this
theorem key {s : ByteArray} {code : Int} {cb : Bool} {v : Int} (hs : ¬ s.size = 0) (h0 : 0 ≤ code) (h1 : code ≤ 255) (hh : ¬ (hole code cb).size = 0) (hx : textV code cb v = s) : flagI s code cb = true ∧ valI s code cb = v ∧ flagS s code cb = true ∧ valS s code cb = v := by
  have ho : okV code cb v = true := by
    cases hb : okV code cb v with
    | true => rfl
    | false =>
      exfalso
      apply hs
      rw [← hx]
      unfold textV
      rw [if_pos hb]
      rfl
  obtain ⟨hp, hT⟩ := (sign_at code cb h0 h1).2 hh
  have hpp := hp_at code cb h0 h1 hp
  obtain ⟨k1, k2, k3⟩ := ok_hole ho hh
  have hs1 : s = Like.ahead code cb ++ newV (hole code cb) v ++ behind code cb := by
    rw [← hx]
    unfold textV
    rw [if_neg (by rw [ho]; decide), if_neg hh]
    rfl
  obtain ⟨a1, a2, a3, a4, a5, a6⟩ := around hs1
  have hA : (Like.ahead code cb).size = (holeP (Tmpl.tmplS code cb)).toNat := by
    unfold Like.ahead
    rw [ByteArray.size_extract]
    omega
  have hZ : tailT (Tmpl.tmplS code cb) = behind code cb := rfl
  have hf : fits s (Tmpl.tmplS code cb) = true := by
    unfold fits
    rw [hZ, if_neg (by omega), if_neg (by omega), ← hA, a4, a5, if_neg (by
      rw [hA]
      rw [show (Tmpl.tmplS code cb).extract 0 (holeP (Tmpl.tmplS code cb)).toNat = Like.ahead code cb from rfl, lists_self]
      decide)]
    exact lists_self _
  have hft : fitT s (Tmpl.tmplS code cb) = newV (hole code cb) v := by
    unfold fitT
    rw [if_neg (by omega), if_pos hf, hZ, ← hA, a6]
  have hvI : hv (inner s (Like.ahead code cb) (behind code cb)) = v := by rw [a2, k2]
  have hvS : valS s code cb = v := by
    unfold valS
    rw [hft, if_neg (by omega), k1]
  refine ⟨?_, ?_, ?_, hvS⟩
  · unfold flagI
    rw [if_neg hh, a1, hvI, hx]
    exact lists_self _
  · unfold valI
    rw [if_neg hh, if_pos a1, hvI]
  · unfold flagS
    rw [if_neg (fun h => hT h.2), if_neg (by rw [hf]; decide), hvS, hx]
    exact lists_self _
theorem same (s : ByteArray) (code : Int) (cb : Bool) (hs : ¬ s.size = 0) (h0 : 0 ≤ code) (h1 : code ≤ 255) : flagI s code cb = flagS s code cb ∧ (flagI s code cb = true → valI s code cb = valS s code cb) := by
  by_cases hh : (hole code cb).size = 0
  · have hn := (sign_at code cb h0 h1).1 hh
    have eI : flagI s code cb = (s.toList == (Tmpl.tmplS code cb).toList) := by unfold flagI; rw [if_pos hh]
    have vI : valI s code cb = 0 := by unfold valI; rw [if_pos hh]
    have eF : fits s (Tmpl.tmplS code cb) = (s.toList == (Tmpl.tmplS code cb).toList) := by unfold fits; rw [if_pos hn]
    have eT : fitT s (Tmpl.tmplS code cb) = ⟨#[]⟩ := by unfold fitT; rw [if_pos hn]
    have vS : valS s code cb = 0 := by unfold valS; rw [eT]; rfl
    refine ⟨?_, fun _ => by rw [vI, vS]⟩
    rw [eI]
    cases hb : s.toList == (Tmpl.tmplS code cb).toList with
    | false =>
      unfold flagS
      rw [eF, hb]
      split <;> rfl
    | true =>
      have he := eq_of_lists hb
      have hT : ¬ (Tmpl.tmplS code cb).size = 0 := by rw [← he]; exact hs
      have ho : okV code cb 0 = true := by
        unfold okV
        rw [if_neg (by unfold none?; rw [show inB code 0 255 = true from decide_eq_true ⟨h0, h1⟩]; simpa using hT), if_pos hh]
        rfl
      have hx : textV code cb 0 = s := by
        unfold textV
        rw [if_neg (by rw [ho]; decide), if_pos hh, he]
      unfold flagS
      rw [if_neg (fun h => hT h.2), eF, hb, if_neg (by decide), vS, hx]
      exact (lists_self _).symm
  · rcases Bool.eq_false_or_eq_true (flagI s code cb) with hI | hI
    · have hx : textV code cb (hv (inner s (Like.ahead code cb) (behind code cb))) = s := by
        unfold flagI at hI
        rw [if_neg hh, Bool.and_eq_true] at hI
        exact eq_of_lists hI.2
      obtain ⟨b1, b2, b3, b4⟩ := key hs h0 h1 hh hx
      exact ⟨hI.trans b3.symm, fun _ => b2.trans b4.symm⟩
    · refine ⟨?_, fun h => absurd (hI.symm.trans h) (by decide)⟩
      rcases Bool.eq_false_or_eq_true (flagS s code cb) with hS | hS
      · exfalso
        have hx : textV code cb (valS s code cb) = s := by
          unfold flagS at hS
          split at hS
          · cases hS
          split at hS
          · cases hS
          exact eq_of_lists hS
        exact absurd (hI.symm.trans (key hs h0 h1 hh hx).1) (by decide)
      · exact hI.trans hS.symm
theorem firstK_congr {f g : Nat → Bool} (h : ∀ k, f k = g k) : firstK f 512 0 = firstK g 512 0 := by rw [show f = g from funext h]
theorem firstK_true {f : Nat → Bool} : ∀ (n k : Nat) {m : Nat}, firstK f n k = some m → f m = true
  | 0, _, _, h => by cases h
  | n + 1, k, m, h => by
    unfold firstK at h
    split at h
    · rename_i hk
      cases h
      exact hk
    · exact firstK_true n (k + 1) h
theorem code_bd (k : Nat) : 0 ≤ codeK k ∧ codeK k ≤ 255 := by unfold codeK; omega
theorem out_same (s : ByteArray) (hs : ¬ s.size = 0) : outI s (firstK (kI s) 512 0) = outS s (firstK (kS s) 512 0) := by
  have e : ∀ k, kI s k = kS s k := fun k => (same s (codeK k) (cbK k) hs (code_bd k).1 (code_bd k).2).1
  rw [← firstK_congr e]
  cases h : firstK (kI s) 512 0 with
  | none => rfl
  | some k =>
    rw [outI_some, outS_some, (same s (codeK k) (cbK k) hs (code_bd k).1 (code_bd k).2).2 (firstK_true _ _ h)]
end Go.Proofs.YtoajaadobieekaaGreatDoor.Same
