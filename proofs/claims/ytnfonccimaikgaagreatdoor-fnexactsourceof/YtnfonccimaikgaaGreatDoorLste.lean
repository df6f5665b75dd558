/-
  Pure: the lines of a source, and its text.
-/
import Derived.Test.YtnfonccimaikgaaGreatDoorLstd
namespace Go.Proofs.YtnfonccimaikgaaGreatDoor.Lste
open Go.ChangeShapes Go.WideShapes Go.ChangeAt Go.RowKit Go.Deep
open Signed (inB sgn)
open HolI LenX InsX Texi ReadI Lstp Lsta Lstb Lstc Lstd
set_option linter.unusedVariables false
set_option maxRecDepth 20000

theorem put_size (T h new : ByteArray) (p : Int) : (put T h new p).size ≤ 2 * T.size + new.size := by
  unfold put
  rw [ByteArray.size_append, ByteArray.size_append, ByteArray.size_extract, ByteArray.size_extract]
  omega
theorem new_le (h : ByteArray) (m : Int) : (newV h m).size ≤ 5 := by
  have h2 := hex_size m 2 (by omega)
  have h4 := hex_size m 4 (by omega)
  have hd := (dec_ne_at (sgn_bd m).1 (sgn_bd m).2).2
  unfold newV
  split
  · omega
  split
  · exact hd
  · omega
theorem text_le (c : Int) (b : Bool) (m : Int) (h0 : 0 ≤ c) (h1 : c ≤ 255) : (textV c b m).size ≤ 85 := by
  have ht := Leng.tmpl_le c b h0 h1
  unfold textV
  split
  · decide
  split
  · omega
  · have := put_size (Tmpl.tmplS c b) (hole c b) (newV (hole c b) m) (HoleX.holeP (Tmpl.tmplS c b))
    have := new_le (hole c b) m
    omega
theorem jr_le (c : Int) (b : Bool) (t : Int) (h0 : 0 ≤ c) (h1 : c ≤ 255) : (jrV c b t).size ≤ 85 := by
  have ht := Leng.tmpl_le c b h0 h1
  have h4 := hex_size t 4 (by omega)
  unfold jrV
  split
  · have := put_size (Tmpl.tmplS c b) ⟨#[101, 56]⟩ (Hex.hexS t 4) (HoleX.holeP (Tmpl.tmplS c b))
    omega
  · decide
theorem line_le (s : ByteArray) (base : Int) (a : Nat) (h : a ≤ s.size) (hs : s.size ≤ 256) : (lineAt s base a).1.size ≤ 85 := by
  have hz := zer_le s a h
  have hb := readP_bd s a
  have h2 := hex_size (byteAt s a) 2 (by omega)
  unfold lineAt
  split
  · have := dec_le (n := (zer s a : Int)) (by omega) (by omega)
    show (dsB ++ _).size ≤ 85
    rw [ByteArray.size_append]
    have : dsB.size = 3 := rfl
    omega
  split
  · show (insV s base a).size ≤ 85
    unfold insV lineV
    split
    · exact jr_le _ _ _ hb.1 hb.2
    · exact text_le _ _ _ hb.1 hb.2
  · show (dbB ++ _).size ≤ 85
    rw [ByteArray.size_append]
    have : dbB.size = 3 := rfl
    omega
theorem list_le (s : ByteArray) (base : Int) (hs : s.size ≤ 256) (a : Nat) : ∀ x ∈ listL s base a, x.size ≤ 85 := by
  induction hn : s.size - a using Nat.strongRecOn generalizing a with
  | _ n ih =>
    by_cases h : a < s.size
    · have hb := lineAt_bd s base a h
      rw [list_step h]
      intro x hx
      rcases List.mem_cons.1 hx with rfl | hx
      · exact line_le s base a (by omega) hs
      · exact ih _ (by omega) (a + (lineAt s base a).2) rfl x hx
    · rw [list_end h]; intro x hx; cases hx
/-- The line of a section. -/
def secL (k : Nat) : ByteArray := if k = 0 then ⟨#[115, 101, 99, 116, 105, 111, 110, 32, 98, 97, 110, 107, 48, 44, 114, 111, 109, 48, 44, 48]⟩
  else (⟨#[115, 101, 99, 116, 105, 111, 110, 32, 98, 97, 110, 107]⟩ : ByteArray) ++ Deci.dec (k : Int) ⟨#[]⟩ ++ ⟨#[44, 114, 111, 109, 120, 44, 50, 53, 54, 44]⟩ ++ Deci.dec (k : Int) ⟨#[]⟩
theorem sec_le (k : Nat) (h : k ≤ 256) : (secL k).size ≤ 85 := by
  have := dec_le (n := (k : Int)) (by omega) (by omega)
  unfold secL
  split
  · decide
  · rw [ByteArray.size_append, ByteArray.size_append, ByteArray.size_append]
    have h1 : (⟨#[115, 101, 99, 116, 105, 111, 110, 32, 98, 97, 110, 107]⟩ : ByteArray).size = 12 := rfl
    have h2 : (⟨#[44, 114, 111, 109, 120, 44, 50, 53, 54, 44]⟩ : ByteArray).size = 10 := rfl
    omega
/-- All lines of the first banks. -/
def allL (rom : ByteArray) : Nat → List ByteArray
  | 0 => []
  | k + 1 => allL rom k ++ (secL k :: outL rom (k : Int))
theorem out_le (rom : ByteArray) (bank : Int) : ∀ x ∈ outL rom bank, x.size ≤ 85 := by
  cases h : okL rom bank
  · rw [out_no h]; intro x hx; cases hx
  · obtain ⟨_, _, _, _, h0, _, h1⟩ := ok_rom h
    rw [out_yes h]
    exact list_le _ _ (by rw [bank_size h0 h1]; omega) _
theorem all_le (rom : ByteArray) : ∀ k : Nat, k ≤ 256 → ∀ x ∈ allL rom k, x.size ≤ 85
  | 0, _ => fun x hx => by cases hx
  | k + 1, h => fun x hx => by
    rcases List.mem_append.1 hx with hx | hx
    · exact all_le rom k (by omega) x hx
    · rcases List.mem_cons.1 hx with rfl | hx
      · exact sec_le k (by omega)
      · exact out_le rom k x hx
theorem all_len (rom : ByteArray) : ∀ k : Nat, (allL rom k).length ≤ 257 * k
  | 0 => Nat.le_refl _
  | k + 1 => by
    have := all_len rom k
    have := out_len (rom := rom) (bank := (k : Int))
    show (allL rom k ++ (secL k :: outL rom (k : Int))).length ≤ _
    rw [List.length_append, List.length_cons]
    omega
/-- Lines, each with its end. -/
def cat (L : List ByteArray) : ByteArray := L.foldl (fun s x => s ++ x ++ ⟨#[10]⟩) ⟨#[]⟩
theorem cat_snoc (L : List ByteArray) (x : ByteArray) : cat (L ++ [x]) = cat L ++ x ++ ⟨#[10]⟩ := by unfold cat; rw [List.foldl_append]; rfl
theorem cat_size (L : List ByteArray) (h : ∀ x ∈ L, x.size ≤ 85) : (cat L).size ≤ 86 * L.length := by
  have key : ∀ (L : List ByteArray) (s : ByteArray), (∀ x ∈ L, x.size ≤ 85) → (L.foldl (fun s x => s ++ x ++ ⟨#[10]⟩) s).size ≤ s.size + 86 * L.length := by
    intro L
    induction L with
    | nil => intro s _; exact Nat.le_refl _
    | cons x L ih =>
      intro s hL
      have i := ih (s ++ x ++ ⟨#[10]⟩) (fun y hy => hL y (List.mem_cons_of_mem _ hy))
      have j := hL x List.mem_cons_self
      rw [ByteArray.size_append, ByteArray.size_append] at i
      have h1 : (⟨#[10]⟩ : ByteArray).size = 1 := rfl
      rw [List.foldl_cons, List.length_cons]
      omega
  have := key L ⟨#[]⟩ h
  have h0 : (⟨#[]⟩ : ByteArray).size = 0 := rfl
  unfold cat
  omega
theorem cat_data (L : List ByteArray) : (cat L).data.toList = L.flatMap fun x => x.data.toList ++ [10] := by
  have key : ∀ (L : List ByteArray) (s : ByteArray), (L.foldl (fun s x => s ++ x ++ ⟨#[10]⟩) s).data.toList = s.data.toList ++ L.flatMap fun x => x.data.toList ++ [10] := by
    intro L
    induction L with
    | nil => intro s; simp
    | cons x L ih =>
      intro s
      rw [List.foldl_cons, ih, List.flatMap_cons]
      simp [ByteArray.data_append, List.append_assoc]
  have := key L ⟨#[]⟩
  simpa [cat] using this
theorem join_cons {x : List UInt8} {X : List (List UInt8)} (h : X ≠ []) : Lib.join (x :: X) [10] = x ++ 10 :: Lib.join X [10] := by
  cases X with
  | nil => exact absurd rfl h
  | cons y X => unfold Lib.join; simp [List.intercalate, List.intersperse]
theorem join_nl : ∀ L : List ByteArray, L ≠ [] → Lib.join (L.map (·.data.toList)) [10] ++ [10] = L.flatMap fun x => x.data.toList ++ [10]
  | [], h => absurd rfl h
  | [x], _ => by rw [List.map_cons, List.map_nil, Lib.join_one]; simp
  | x :: y :: L, _ => by
    rw [List.map_cons, join_cons (by simp), List.append_assoc, List.cons_append, join_nl (y :: L) (by simp), List.flatMap_cons]
    simp
theorem join_cat (L : List ByteArray) (h : L ≠ []) : (⟨(Lib.join (L.map (·.data.toList)) [10]).toArray⟩ : ByteArray) ++ ⟨#[10]⟩ = cat L := by
  apply ByteArray.ext
  apply Array.ext'
  rw [cat_data, ← join_nl L h, ByteArray.data_append]
  simp
/-- Is the rom one that has a source? -/
def okS (rom : ByteArray) : Bool := romB rom.size && decide (rom.size / 256 ≤ 12)
def fitS (rom : ByteArray) : Bool := decide ((allL rom (rom.size / 256)).length ≤ 1500 ∧ (cat (allL rom (rom.size / 256))).size ≤ 40000)
def srcV (rom : ByteArray) : ByteArray := if okS rom = true ∧ fitS rom = true then cat (allL rom (rom.size / 256)) else ⟨#[]⟩
def srcB (rom : ByteArray) : Bool := okS rom && fitS rom
theorem okS_of {rom : ByteArray} (h : okS rom = true) : romB rom.size = true ∧ rom.size % 256 = 0 ∧ 512 ≤ rom.size ∧ rom.size ≤ 3072 + 255 ∧ 2 ≤ rom.size / 256 ∧ rom.size / 256 ≤ 12 := by
  unfold okS at h
  rw [Bool.and_eq_true] at h
  have h1 := of_decide_eq_true h.1
  have h2 := of_decide_eq_true h.2
  exact ⟨h.1, h1.1, h1.2.1, by omega, by omega, h2⟩
theorem okL_of {rom : ByteArray} (h : okS rom = true) (k : Nat) (hk : k < rom.size / 256) : okL rom (k : Int) = true := by
  have := okS_of h
  unfold okL
  rw [this.1, Bool.true_and]
  exact decide_eq_true ⟨by omega, by omega⟩
theorem out_ne {rom : ByteArray} {k : Int} (h : okL rom k = true) : outL rom k ≠ [] := by
  obtain ⟨_, _, _, _, h0, _, h1⟩ := ok_rom h
  rw [out_yes h, list_step (by rw [bank_size h0 h1]; omega)]
  simp
end Go.Proofs.YtnfonccimaikgaaGreatDoor.Lste
