/- For every row of bytes the law FnArgs answers true: of the text that is drawn of it impl.ArgsOf tells what spec.ArgsOf tells, and its pieces with commas between are the text; the bytes read afterwards as they read before; no condition. -/
import Derived.Test.YtcjipfjbbdbbgaaRows
import Derived.WalkKit
import Derived.ProofKit
import Derived.OpenShut
import Derived.ShutString
import Derived.ChangeOld
import Derived.Below
import Derived.Test.YtcjipfjbbdbbgaaDrawT
namespace Go.Proofs.Ytcjipfjbbdbbgaa.fnArgs
open Go.ChangeShapes Go.WideShapes Go.ChangeAt Go.RowKit
open Go.ChangeMaps (open_string shut_string)
set_option linter.unusedVariables false

theorem own : ownKnob Try.prog.godebug = none := by kernel_rfl
theorem laidOut : laidOutB Try.prog = true := by kernel_rfl

/-- WHAT THE WALK IS TOLD OF A SLICE OF INTEGERS THAT CAME IN: it is nil; or it leads to a row of 'cap' cells, the numbers 'zs' (the first 'len' are its elements, the rest its spare room), each fitting its kind. -/
def IsRow (k : IntKind) (w : World) (a : Option Addr) (len cap : Nat) (zs : List Int) : Prop :=
  (a = none ∧ len = 0 ∧ cap = 0 ∧ zs = []) ∨
  ∃ x, a = some x ∧ len ≤ cap ∧ cap ≤ maxLen ∧ zs.length = cap ∧ (∀ i, i < zs.length → w.cell? (x.add i) = some (.int k (zs.getD i 0))) ∧ ∀ n ∈ zs, (Lit.int k n).wf = true

def acc : ByteArray → List ByteArray → ByteArray
  | t, [] => t
  | t, x :: r => acc (t ++ ⟨#[44]⟩ ++ x) r
theorem acc_le : ∀ (r : List ByteArray) (t : ByteArray), t.size ≤ (acc t r).size
  | [], t => Nat.le_refl _
  | x :: r, t => by
    have h := acc_le r (t ++ ⟨#[44]⟩ ++ x)
    rw [ByteArray.size_append, ByteArray.size_append] at h
    show t.size ≤ (acc (t ++ ⟨#[44]⟩ ++ x) r).size
    omega
theorem cutI_at (s : ByteArray) (c : Int) (k : Nat) (h : Cuts.cutI s c k < s.size) : (Fill.numAt s (Cuts.cutI s c k) : Int) = c := by
  induction hn : s.size - k using Nat.strongRecOn generalizing k with
  | _ n ih =>
    rw [Cuts.cutI] at h ⊢
    split at h
    · rename_i hk
      rw [if_pos hk]
      split at h
      · rename_i hc
        rw [if_pos hc]; exact hc
      · rename_i hc
        rw [if_neg hc]
        exact ih _ (by omega) _ h rfl
    · exact absurd h (Nat.lt_irrefl _)
theorem cut_cat {s : ByteArray} (h : Cuts.cutF s 44 = true) : Cuts.cutA s 44 ++ ⟨#[44]⟩ ++ Cuts.cutB s 44 = s := by
  have hlt : Cuts.cutI s 44 0 < s.size := of_decide_eq_true (show decide _ = true from h)
  have hc := cutI_at s 44 0 hlt
  unfold Cuts.cutA Cuts.cutB
  rw [if_pos h, if_pos h]
  generalize Cuts.cutI s 44 0 = k at hlt hc
  rw [Fill.numAt_of hlt] at hc
  have e : (⟨#[44]⟩ : ByteArray) = s.extract k (k + 1) := by
    have hb : s[k] = 44 := by
      apply UInt8.toNat_inj.1
      have : s[k].toNat = 44 := by omega
      rw [this]; rfl
    apply ByteArray.ext
    rw [ByteArray.data_extract]
    have hh : k < s.data.size := hlt
    apply Array.ext
    · simp; omega
    · intro i h1 h2
      have : i = 0 := by simp at h1; omega
      subst this
      simp
      exact hb.symm
  rw [e, ByteArray.append_assoc, ByteArray.extract_append_extract, show min k (k + 1) = k by omega, show max (k + 1) s.size = s.size by omega, ByteArray.extract_append_extract, show min 0 k = 0 by omega, show max k s.size = s.size by omega]
  exact ByteArray.extract_zero_size
theorem acc_pieces (y : ByteArray) : ∀ t : ByteArray, acc t (Argl.pieces y) = t ++ ⟨#[44]⟩ ++ y := by
  induction hn : y.size using Nat.strongRecOn generalizing y with
  | _ n ih =>
    intro t
    rw [Argl.pieces]
    split
    · rename_i h
      show acc (t ++ ⟨#[44]⟩ ++ Cuts.cutA y 44) (Argl.pieces (Cuts.cutB y 44)) = _
      rw [ih _ (by have := Cuts.cutB_lt h; omega) _ rfl]
      have e := cut_cat h
      conv => rhs; rw [← e]
      simp only [ByteArray.append_assoc]
    · rename_i h
      show acc (t ++ ⟨#[44]⟩ ++ Cuts.cutA y 44) [] = _
      unfold Cuts.cutA
      rw [if_neg h]
      rfl
theorem pieces_acc (s : ByteArray) : ∃ x r, Argl.pieces s = x :: r ∧ acc x r = s := by
  rw [Argl.pieces]
  split
  · rename_i h
    exact ⟨_, _, rfl, (acc_pieces _ _).trans (cut_cat h)⟩
  · rename_i h
    refine ⟨_, [], rfl, ?_⟩
    unfold Cuts.cutA
    rw [if_neg h]
    rfl
theorem args_acc (s : ByteArray) : Argl.argsL s = [] ∨ ∃ x r, Argl.argsL s = x :: r ∧ acc x r = s := by
  unfold Argl.argsL
  split
  · exact .inr (pieces_acc s)
  · exact .inl rfl
theorem texts_own {w : World} {base cap : Nat} {a : Option Addr} {L : List ByteArray} (h : w.ownsRow base 9 1 (.slice a L.length cap) L.length (L.map Value.string)) : Txts.Texts w a L := by
  obtain ⟨a', cap', hv, T, _⟩ := Txts.owned_texts h
  have e : a = a' := by injection hv
  rw [e]; exact T
theorem toRow {k : IntKind} {w : World} {a : Option Addr} {len cap : Nat} {zs : List Int} (h : IsRow k w a len cap zs) : Rdr.IsRow k w a len cap zs := h
/-! ### STEP 1: THE WALK: the Go text returns true, AND WRITES NOTHING THAT WAS THERE: 'Below w.heap.size w w'' (Derived/Below.lean: '.refl', '.alloc', '.drew', '.setCell' at a new block, '.trans'). Open each 'IsRow' by 'rcases' AHEAD of 'go_enter'; part every test ahead of the walk. -/
theorem walk (a0 : Option Addr) (len0 cap0 : Nat) (z0 : List Int) (w : World) (w0 : IsRow .u8 w a0 len0 cap0 z0) :
    Calls Try.prog 3 #[.slice a0 len0 cap0] w fun e w' => e = .returned (.bool true) ∧ Below w.heap.size w w' := by
  have H : Hid (Rdr.IsRow .u8 w a0 len0 cap0 z0) := toRow w0
  clear w0
  have cb := Rdr.big_any a0 len0 cap0 w H.out.len
  by_cases hbig : Rdr.bigB len0 = true
  · rw [hbig] at cb
    go_enter Try.func3, Try.ntmps3
    go_wp2_with (go_at_call 5; refine cb.mono ?_; rintro e w' ⟨rfl, rfl⟩)
    go_ret
    exact ⟨rfl, Below.refl _ _⟩
  have hbig : Rdr.bigB len0 = false := by simpa using hbig
  rw [hbig] at cb
  go_enter Try.func3, Try.ntmps3
  go_wp2_with fail
  refine cb.mono ?_
  rintro e w' ⟨rfl, hw'⟩
  have hw' := hw'.symm
  subst hw'
  clear cb
  go_wp2_with fail
  refine (DrawT.drawArgs_any _ _ _ _ _ H.out).mono ?_
  rintro e w1 ⟨⟨s, hs, rfl⟩, hB1⟩
  have B1 : Hid (Below w.heap.size w w1) := hB1
  clear hB1 H
  have ci := fun w => Argl.implArgs_any s w (by omega)
  have cs := fun w => Argl.specArgs_any s w (by omega)
  have hlen := Argl.args_len s
  have HA := (show Hid _ from args_acc s)
  generalize Argl.argsL s = L at ci cs hlen HA
  go_wp2_with fail
  refine (ci _).mono ?_
  rintro e w2 ⟨v2, rfl, own2, b2⟩
  obtain ⟨x2, cap2, rfl, _, _⟩ := Txts.owned_texts own2
  have O2 := (show Hid _ from own2)
  have B2 := (show Hid _ from B1.out.trans (b2.mono B1.out.size))
  clear own2 b2 B1 ci
  go_wp2_with fail
  refine (cs _).mono ?_
  rintro e w3 ⟨v3, rfl, own3, b3⟩
  obtain ⟨x3, cap3, rfl, T3, _⟩ := Txts.owned_texts own3
  have O3 := (show Hid _ from Argl.own_below O2.out b3)
  have B3 := (show Hid _ from B2.out.trans (b3.mono B2.out.size))
  have T3' := (show Hid _ from T3)
  clear own3 b3 O2 B2 T3
  go_wp2_with fail
  refine (Txts.sameTexts_any _ _ _ _ L _ (texts_own O3.out) T3'.out (by omega)).mono ?_
  rintro e w4 ⟨rfl, n4, hw4⟩
  have b4 : Hid (Below w3.heap.size w3 w4) := by rw [hw4]; exact below_drewN (Below.refl _ _) _
  have O4 := (show Hid _ from Argl.own_below O3.out b4.out)
  have B4 := (show Hid _ from B3.out.trans (b4.out.mono B3.out.size))
  clear hw4 b4 O3 B3 T3'
  rcases HA.out with hL | ⟨x, r, hL, hacc⟩
  · subst hL
    clear HA
    go_wp2_with fail
    refine (cs _).mono ?_
    rintro e w5 ⟨v5, rfl, own5, b5⟩
    obtain ⟨x5, cap5, rfl, T5, _⟩ := Txts.owned_texts own5
    have B5 := (show Hid _ from B4.out.trans (b5.mono B4.out.size))
    clear own5 b5 B4
    go_wp2_with fail
    refine (Txts.sameTexts_any _ _ _ _ [] _ (.inl rfl) (.inl rfl) (by simp)).mono ?_
    rintro e w6 ⟨rfl, n6, hw6⟩
    have B6 : Hid (Below w.heap.size w w6) := by rw [hw6]; exact below_drewN B5.out _
    clear hw6 B5
    go_wp2
    go_ret
    exact ⟨rfl, B6.out⟩
  · have T4 := texts_own O4.out
    have hp : 0 < L.length := by rw [hL]; simp
    rcases T4 with h0 | ⟨b, off, rfl, hb, hc⟩
    · rw [h0] at hp; exact absurd hp (by simp)
    have HC := (show Hid _ from hc)
    have c0 : w4.cell? ⟨b, off, none⟩ = some (.string x) := by
      have := hc 0 hp
      rw [Nat.add_zero] at this
      rw [this]
      congr 2
      simp [hL]
    have HE : Hid (acc x (L.drop 1) = s) := (show acc x (L.drop 1) = s from by rw [hL]; exact hacc)
    obtain ⟨len, hl⟩ : ∃ len, len = L.length := ⟨_, rfl⟩
    have HL := (show Hid _ from hl)
    rw [← hl] at hp hlen ⊢
    have n0 : ((len : Int) == 0) = false := by simp; omega
    clear hL hacc HA O4 cs hc hl
    go_wp2
    go_loop [5, 6] (fun t i => ∃ (k : Nat) (t' : ByteArray), 1 ≤ k ∧ k ≤ len ∧ i = .int .i64 k ∧ t = .string t' ∧ Hid (acc t' (L.drop k) = s)) (fun _ i => len - (intOf i).toNat)
    case atStart => exact ⟨1, x, Nat.le_refl _, hp, rfl, rfl, HE.out⟩
    case round =>
      clear HE c0
      obtain ⟨k, t, hk1, hk, rfl, rfl, hr⟩ := hrel
      by_cases hlt : k < len
      · have hkL : k < L.length := by have := HL.out; omega
        have c1 : w4.cell? ⟨b, off + k, none⟩ = some (.string L[k]) := HC.out k hkL
        have hr' : acc (t ++ ⟨#[44]⟩ ++ L[k]) (L.drop (k + 1)) = s := by
          have := hr.out
          rw [List.drop_eq_getElem_cons hkL] at this
          exact this
        have hz := acc_le (L.drop (k + 1)) (t ++ ⟨#[44]⟩ ++ L[k])
        rw [hr', ByteArray.size_append, ByteArray.size_append] at hz
        have HR := (show Hid _ from hr')
        generalize L[k] = y at c1 hz HR
        have hz1 : t.size + 1 + y.size ≤ s.size := hz
        have q1 : (t ++ (⟨#[44]⟩ : ByteArray)).size = t.size + 1 := by rw [ByteArray.size_append]; rfl
        clear hr hr' hz HC
        go_wp2
        go_round
        case rel => exact ⟨k + 1, _, by omega, by omega, by go_num, rfl, HR.out⟩
        case measure => simp [intOf]; omega
      · have e : t = s := by
          have := hr.out
          rw [List.drop_eq_nil_of_le (by have := HL.out; omega)] at this
          exact this
        subst e
        clear hr HC
        go_wp2
        go_ret
        exact ⟨rfl, B4.out⟩

/-! ### THE ROW's STEP: WRITTEN OUT: LEAVE IT -/
set_option maxRecDepth 100000 in
theorem lifted (os : Os) (started : os.Started) (H : Type) (enc : TypeId × Value → H) :
    ReturnsInHanded {} Try.checked os 3 .any (Rows.fnArgsSpec.pre6 enc Try.prog Try.f3 Rows.fnArgsRow.domain false) (Rows.fnArgsSpec.post enc Try.prog Try.f3 false true false false) := by
  refine returnsInHanded_of_change (C := Try.checked) own started (by kernel_rfl) Try.func3
    (ChangeSpec.witness6 (enc := enc) (C := Try.checked) false ⟨#[], #[.slice none 0 0], []⟩ 8 (by kernel_rfl) (by kernel_rfl) (by kernel_rfl) (by kernel_rfl)) ?_
  intro W base args ds gs before hval0 hW hcnd _
  have hval : ∀ (j : Nat) t v, Try.f3.params[j]? = some t → args[j]? = some v → Value.okWide Try.prog W .any base t v := hval0
  have hW' := hW
  obtain ⟨p, q, hA0, hV, rfl, hfz, hnd⟩ := hW
  have hA : DataW.TrodAll enc Try.prog W 0 (fun _ => true) true Try.f3.params.toList args.toList ds p := hA0
  rw [Try.params3] at hA hval
  obtain ⟨v0, vs0, d0, ds0, p0, q0, hargs, rfl, rfl, h0, r0⟩ := trodAll_cons hA
  obtain ⟨rfl, rfl, rfl⟩ := trodAll_nil r0
  obtain rfl : args = #[v0] := by cases args; simp_all
  obtain ⟨rfl, rfl⟩ := trodVars_none hV
  obtain ⟨a0, len0, cap0, rfl⟩ := okWide_slice Try.underlying22 (hval 0 22 v0 rfl rfl)
  have k0 := h0
  have lt0 : ∀ x ∈ p0, x.block < W.heap.size := by obtain ⟨m, hm⟩ := k0; exact DataW.trod_lt m _ _ _ hm
  obtain ⟨z0, w0⟩ : ∃ zs, IsRow .u8 W a0 len0 cap0 zs := by
    obtain ⟨fuel, hf⟩ := h0
    rcases open_ints Try.underlying22 Try.underlying5 (by kernel_rfl) hf with ⟨hcs, _⟩ | ⟨x, l, c, zs, hcs, _, hl, hm, hz, _, hcell, hwz⟩
    · simp [Value.cells] at hcs
      obtain ⟨rfl, rfl, rfl⟩ := hcs
      exact ⟨[], .inl ⟨rfl, rfl, rfl, rfl⟩⟩
    · simp [Value.cells] at hcs
      obtain ⟨rfl, rfl, rfl⟩ := hcs
      exact ⟨zs, .inr ⟨_, rfl, hl, hm, by simpa using hz, hcell, hwz⟩⟩
  clear hA0 hval0
  refine (walk a0 len0 cap0 z0 W w0).mono fun e W' ⟨he, bel⟩ => ?_
  subst he
  exact ⟨_, rfl, _, _, _, [], _, [], hW', trodAll_mk1 (shut_bool Try.underlying4 _), (trodAll_cons_mk (Below.trod laidOut (by kernel_rfl) (of_decide_eq_true (by kernel_rfl)) k0 bel lt0) trodAll_mk0), rfl, bel.frame _, fun h => by cases h⟩

theorem over : Rows.fnArgsRow.holds Try.pinned (OpenSpec.ofChange Rows.fnArgsSpec) :=
  OpenClaim.holds_of_wide 3 Try.f3 rfl rfl rfl rfl rfl rfl rfl ⟨rfl, rfl, rfl, rfl, rfl⟩ rfl rfl rfl rfl rfl (by kernel_rfl) Try.func3 (by kernel_rfl)
    (of_decide_eq_true (by kernel_rfl)) (by unfold Func.isWrapper; first | (rw [if_pos (by decide +kernel)]; kernel_rfl) | (rw [if_neg (by decide +kernel)]; exact ⟨rfl, rfl⟩))
    (fun os started H enc _ => lifted os started H enc)

/-- ████ THE STATEMENT ████ -/
theorem proved : Rows.FnArgsSaid := over
end Go.Proofs.Ytcjipfjbbdbbgaa.fnArgs
namespace Go.Proofs.Ytcjipfjbbdbbgaa
theorem fnArgs_holds : Rows.FnArgsSaid := fnArgs.proved
end Go.Proofs.Ytcjipfjbbdbbgaa
