/- For every slice of bytes the law FnNamesIn answers true, that is, of an expression drawn from them impl.NamesIn tells what spec.NamesIn tells, and these names rise and stand in the expression; no condition. -/
import Derived.Test.YtfgabgihdcokdaaRows
import Derived.WalkKit
import Derived.ProofKit
import Derived.OpenShut
import Derived.ShutString
import Derived.ChangeOld
import Derived.Below
import Derived.Test.YtfgabgihdcokdaaCmpf
import Derived.Test.YtfgabgihdcokdaaNams
import Derived.Test.YtfgabgihdcokdaaTxts
namespace Go.Proofs.Ytfgabgihdcokdaa.fnNamesIn
open Go.ChangeShapes Go.WideShapes Go.ChangeAt Go.RowKit
open Go.ChangeMaps (open_string shut_string)
set_option linter.unusedVariables false

theorem own : ownKnob Try.prog.godebug = none := by kernel_rfl
theorem laidOut : laidOutB Try.prog = true := by kernel_rfl
/-- What the walk is told of a slice of bytes that came in: it is nil; or it leads to a row of cells, the numbers zs, each fitting its kind. -/
def IsRow (k : IntKind) (w : World) (a : Option Addr) (len cap : Nat) (zs : List Int) : Prop :=
  (a = none ∧ len = 0 ∧ cap = 0 ∧ zs = []) ∨
  ∃ x, a = some x ∧ len ≤ cap ∧ cap ≤ maxLen ∧ zs.length = cap ∧ (∀ i, i < zs.length → w.cell? (x.add i) = some (.int k (zs.getD i 0))) ∧ ∀ n ∈ zs, (Lit.int k n).wf = true
open Go.Proofs.Ytfgabgihdcokdaa.Stepx (Nodes)
open Namq (cells)
def txt (l : List Namp.T) : List ByteArray := l.map fun t => ⟨t.toArray⟩
theorem txt_len (l : List Namp.T) : (txt l).length = l.length := List.length_map ..
theorem cells_txt (l : List Namp.T) : cells l = (txt l).map Value.string := by unfold cells txt; rw [List.map_map]; rfl
theorem texts_put {w : World} {g : Nat} {R : List Namp.T} (h1 : g < w.heap.size) (h2 : ∀ k (h : k < R.length), w.cell? ⟨g, k, none⟩ = some (Namq.cell R[k])) : Txts.Texts w (some ⟨g, 0, none⟩) (txt R) :=
  .inr ⟨g, 0, rfl, h1, fun i hi => by
    have hi' : i < R.length := by rwa [txt_len] at hi
    rw [Nat.zero_add, h2 i hi']
    have e : (txt R)[i] = (⟨R[i].toArray⟩ : ByteArray) := by simp [txt]
    rw [e]; rfl⟩
theorem drewB (w : World) (n : Nat) : Below w.heap.size w (w.drewN n) := ⟨rfl, rfl, rfl, Nat.le_refl _, fun _ _ => rfl⟩
theorem owned_at {w : World} {base n : Nat} {v : Value} {R : List Namp.T} (h : w.ownsRow base 9 1 v n (cells R)) : ∃ a cap, v = .slice a (txt R).length cap ∧ Txts.Texts w a (txt R) := by
  rw [cells_txt] at h
  obtain ⟨a, cap, h1, h2, _⟩ := Txts.owned_texts h
  exact ⟨a, cap, h1, h2⟩
theorem out_len (L : List Stepx.Node) : (Namr.outN L).length ≤ 30 := by
  unfold Namr.outN
  split
  · rename_i h
    have h30 : L.length ≤ 30 := by
      unfold Stepx.exprB at h
      exact of_decide_eq_true (Bool.and_eq_true_iff.1 h).1
    rw [← Namp.sorted_put]
    refine Nat.le_trans (Lib.compact_length_le _) ?_
    rw [List.length_mergeSort]
    unfold Namr.namesT
    refine Nat.le_trans (List.length_filter_le _ _) ?_
    rw [List.length_map]; exact h30
  · exact Nat.zero_le _
theorem toRow {k : IntKind} {w : World} {a : Option Addr} {len cap : Nat} {zs : List Int} (h : IsRow k w a len cap zs) : Rdr.IsRow k w a len cap zs := h
theorem out_rise (L : List Stepx.Node) : Namp.Rise (Namr.outN L) ∧ ∀ x ∈ Namr.outN L, ∃ k, ∃ h : k < L.length, L[k].2.2.data.toList = x := by
  unfold Namr.outN
  split
  · obtain ⟨h1, h2⟩ := Namp.fold_put (Namr.namesT L) [] List.Pairwise.nil
    refine ⟨h1, fun x hx => ?_⟩
    rcases (h2 x).1 hx with h | h
    · unfold Namr.namesT at h
      obtain ⟨y, hy, e⟩ := List.mem_map.1 (List.mem_filter.1 h).1
      obtain ⟨k, hk, e2⟩ := List.getElem_of_mem hy
      exact ⟨k, hk, by rw [e2]; exact e⟩
    · cases h
  · exact ⟨List.Pairwise.nil, fun x hx => by cases hx⟩
theorem rise_at {R : List Namp.T} (hr : Namp.Rise R) (j i : Nat) (h : i < R.length) (h' : j < R.length) (hij : j < i) : R[j] < R[i] := List.pairwise_iff_getElem.1 hr j i h' h hij

set_option maxHeartbeats 2000000 in
theorem walk (w : World) (a0 : Option Addr) (len0 cap0 : Nat) (z0 : List Int) (w0 : IsRow .u8 w a0 len0 cap0 z0) :
    Calls Try.prog 4 #[.slice a0 len0 cap0] w fun e w' => e = .returned (.bool true) ∧ Below w.heap.size w w' := by
  have H : Hid (Rdr.IsRow .u8 w a0 len0 cap0 z0) := toRow w0
  clear w0
  have cb := Rdr.big_any a0 len0 cap0 w H.out.len
  by_cases hbig : Rdr.bigB len0 = true
  · rw [hbig] at cb
    go_enter Try.func4, Try.ntmps4
    go_wp2_with (go_at_call 5; refine cb.mono ?_; rintro e w' ⟨rfl, rfl⟩)
    go_ret
    exact ⟨rfl, Below.refl _ _⟩
  have hbig : Rdr.bigB len0 = false := by simpa using hbig
  rw [hbig] at cb
  go_enter Try.func4, Try.ntmps4
  go_wp2_with fail
  refine cb.mono ?_
  rintro e w' ⟨rfl, rfl⟩
  go_wp2_with fail
  refine (Cmpf.drawNamesIn_any _ _ _ _ _ H.out).mono ?_
  rintro e w2 ⟨⟨a2, cap2, L, rfl, ho2, hl, hn⟩, hb2⟩
  have N2 : Hid (Nodes w2 a2 L) := Nodm.nodes_own ho2 (fun x hx => Nat.le_trans (hn x hx).1 (by decide))
  have B2 : Hid (Below w'.heap.size w' w2) := hb2
  clear ho2 hb2 hn H cb
  have ci := fun w hN => Nams.implNames_any a2 cap2 L w hN (by omega)
  have cs := fun w hN => Namr.specNames_any a2 cap2 L w hN (by omega)
  have h30 := out_len L
  have RI : Hid (Namp.Rise (Namr.outN L) ∧ ∀ x ∈ Namr.outN L, ∃ k, ∃ h : k < L.length, L[k].2.2.data.toList = x) := out_rise L
  have TL := txt_len (Namr.outN L)
  have ce := fun a a' cap cap' w h h' => Txts.sameTexts_any a a' cap cap' (txt (Namr.outN L)) w h h' (by rw [txt_len]; omega)
  generalize Namr.outN L = R at *
  have ow := fun w base n v h => @owned_at w base n v R h
  rw [TL] at ce
  simp only [TL] at ow
  go_wp2_with fail
  refine (ci _ N2.out).mono ?_
  rintro e w3 ⟨v3, rfl, o3, b3⟩
  obtain ⟨a3, c3, rfl, t3⟩ := ow _ _ _ _ o3
  have T3 : Hid (Txts.Texts w3 a3 (txt R)) := t3
  have B3 : Hid (Below w'.heap.size w' w3) := B2.out.trans (b3.mono B2.out.size)
  have N3 : Hid (Nodes w3 a2 L) := Mirror.Nodes.below N2.out b3
  clear t3 o3 b3 B2 N2 ci
  go_wp2_with fail
  refine (cs _ N3.out).mono ?_
  rintro e w4 ⟨g, c4, rfl, p1, p2, p3, p4, b4⟩
  have S4 : Hid (Txts.Texts w4 (some ⟨g, 0, none⟩) (txt R)) := texts_put p1 p4
  have B4 : Hid (Below w'.heap.size w' w4) := B3.out.trans (b4.mono B3.out.size)
  have N4 : Hid (Nodes w4 a2 L) := Mirror.Nodes.below N3.out b4
  have T4 : Hid (Txts.Texts w4 a3 (txt R)) := T3.out.below b4
  clear p1 p2 p3 p4 b4 B3 N3 T3 cs
  go_wp2_with fail
  refine (ce _ _ _ _ _ T4.out S4.out).mono ?_
  rintro e w5 ⟨rfl, n5, hw5⟩
  have b5 : Below w4.heap.size w4 w5 := by rw [hw5]; exact drewB _ _
  clear hw5
  have B5 : Hid (Below w'.heap.size w' w5) := B4.out.trans (b5.mono B4.out.size)
  have N5 : Hid (Nodes w5 a2 L) := Mirror.Nodes.below N4.out b5
  have T5 : Hid (Txts.Texts w5 a3 (txt R)) := T4.out.below b5
  clear b5 B4 N4 T4 S4 ce ow
  have TL' : Hid ((txt R).length = R.length) := TL
  clear TL
  by_cases hR : R.length = 0
  · have HR : Hid (R.length = 0) := hR
    rw [hR]
    clear hR
    go_wp2_with fail
    go_loopw [5] (fun v wr => v = .int .i64 0 ∧ wr = w5) (fun _ _ => 0)
    case atStart => exact ⟨rfl, rfl⟩
    case round =>
      obtain ⟨rfl, rfl⟩ := hrel
      go_wp2_with fail
      go_ret
      exact ⟨rfl, B5.out⟩
  have hne : ∃ b off, a3 = some ⟨b, off, none⟩ ∧ b < w5.heap.size ∧ ∀ i (h : i < R.length), w5.cell? ⟨b, off + i, none⟩ = some (.string ⟨R[i].toArray⟩) := by
    rcases T5.out with h | ⟨b, off, e, hb, hc⟩
    · have := congrArg List.length h; rw [TL'.out] at this; exact absurd this hR
    · refine ⟨b, off, e, hb, fun i hi => ?_⟩
      have := hc i (by rw [TL'.out]; exact hi)
      rw [this]; simp [txt]
  obtain ⟨b3, o3, rfl, hb3, hc3⟩ := hne
  have C3 : Hid (∀ (W : World), Below w5.heap.size w5 W → ∀ i (h : i < R.length), W.cell? ⟨b3, o3 + i, none⟩ = some (.string ⟨R[i].toArray⟩)) := fun W hW i hi => (hW.cell (p := ⟨b3, _, none⟩) hb3).trans (hc3 i hi)
  clear hc3 T5
  go_wp2_with fail
  go_loopw [5] (fun v wr => ∃ i : Nat, v = .int .i64 (i : Int) ∧ i ≤ R.length ∧ Hid (Below w5.heap.size w5 wr)) (fun v _ => R.length - (intOf v).toNat)
  case atStart => exact ⟨0, rfl, Nat.zero_le _, Below.refl _ _⟩
  case round =>
    obtain ⟨i, rfl, hi, hbr⟩ := hrel
    by_cases hlt : i < R.length
    · obtain ⟨x, hx⟩ : ∃ x : ByteArray, x = ⟨R[i].toArray⟩ := ⟨_, rfl⟩
      have CX : Hid (∀ (W : World), Below w5.heap.size w5 W → W.cell? ⟨b3, o3 + i, none⟩ = some (.string x)) := fun W hW => by rw [hx]; exact C3.out W hW i hlt
      obtain ⟨q, hq, eq⟩ := RI.out.2 R[i] (List.getElem_mem hlt)
      have EQ : Hid (L[q].2.2 = x) := by rw [hx]; exact ByteArray.ext (Array.ext' eq)
      obtain ⟨b2, o2, rfl, hb2, hc2⟩ : ∃ b off, a2 = some ⟨b, off, none⟩ ∧ b < w5.heap.size ∧ ∀ k (h : k < L.length), w5.cell? ⟨b, off + k * 3 + 2, none⟩ = some (.string L[k].2.2) := by
        rcases N5.out with h | ⟨b, off, e, hb, hc⟩
        · rw [h] at hq; exact absurd hq (Nat.not_lt_zero _)
        · exact ⟨b, off, e, hb, fun k hk => (hc k hk).2.2.1⟩
      have C2 : Hid (∀ (W : World), Below w5.heap.size w5 W → ∀ k (h : k < L.length), W.cell? ⟨b2, o2 + k * 3 + 2, none⟩ = some (.string L[k].2.2)) := fun W hW k hk => (hW.cell (p := ⟨b2, _, none⟩) hb2).trans (hc2 k hk)
      have LT : Hid (∀ j, i = j + 1 → ∃ y : ByteArray, Op.bytesLess y.toList x.toList = true ∧ ∀ (W : World), Below w5.heap.size w5 W → W.cell? ⟨b3, o3 + j, none⟩ = some (.string y)) := fun j hj => by
        refine ⟨⟨R[j].toArray⟩, ?_, fun W hW => C3.out W hW j (by omega)⟩
        have hp : R[j] < R[i] := rise_at RI.out.1 j i hlt (by omega) (by omega)
        rw [hx, Go.Proofs.bytesLess_eq, ByteArray.toList_eq, ByteArray.toList_eq]
        exact decide_eq_true hp
      clear hc2 hx eq
      go_wp2_with fail
      go_loopw [6, 7] (fun f v wr => ∃ (fb : Bool) (k : Nat), f = .bool fb ∧ v = .int .i64 (k : Int) ∧ k ≤ L.length ∧ Hid (q < k → fb = true) ∧ Hid (Below w5.heap.size w5 wr)) (fun _ v _ => L.length - (intOf v).toNat)
      case atStart => exact ⟨false, 0, rfl, rfl, Nat.zero_le _, fun h => absurd h (Nat.not_lt_zero _), hbr.out⟩
      case round =>
        obtain ⟨fb, k, rfl, rfl, hk, hf, hbr⟩ := hrel
        by_cases hkl : k < L.length
        · have c2 := C2.out _ hbr.out k hkl
          have c3 := CX.out _ hbr.out
          cases fb with
          | true =>
            go_wp2_with fail
            go_quiet (fail)
            go_wp2
            go_roundw
            case rel => exact ⟨true, k + 1, rfl, by go_num, by omega, fun _ => rfl, below_drewN hbr.out _⟩
            case measure => simp [intOf]; omega
          | false =>
            have FE : Hid (q = k → (L[k].2.2.toList == x.toList) = true) := fun e => by subst e; rw [EQ.out]; simp
            obtain ⟨r, hr⟩ : ∃ r, r = (L[k].2.2.toList == x.toList) := ⟨_, rfl⟩
            have FR : Hid (q < k + 1 → r = true) := fun h => by
              rcases Nat.lt_succ_iff_lt_or_eq.1 h with h | h
              · exact absurd (hf.out h) (by decide)
              · rw [hr]; exact FE.out h
            have hr' : (L[k].2.2.toList == x.toList) = r := hr.symm
            clear hr
            go_wp2_with fail
            go_quiet (fail)
            go_wp2
            go_roundw
            case rel => exact ⟨r, k + 1, rfl, by go_num, by omega, FR.out, below_drewN hbr.out _⟩
            case measure => simp [intOf]; omega
        · have ft : fb = true := hf.out (by omega)
          subst ft
          have c3 := CX.out _ hbr.out
          rcases Nat.eq_zero_or_pos i with h0 | h0
          · subst h0
            go_wp2_with fail
            go_quiet (fail)
            go_wp2
            go_roundw
            case rel => exact ⟨1, rfl, by omega, below_drewN hbr.out _⟩
            case measure => simp [intOf]; omega
          · obtain ⟨j, hj⟩ : ∃ j, i = j + 1 := ⟨i - 1, by omega⟩
            obtain ⟨y, hy, hcy⟩ := LT.out j hj
            have c4 := hcy _ hbr.out
            have hy' : (!Op.bytesLess y.toList x.toList) = false := by rw [hy]; rfl
            have j1 : (i : Int) - 1 = (j : Int) := by omega
            have j2 : IntKind.i64.wrap (j : Int) = (j : Int) := by rw [IntKind.wrap_i64]; omega
            have j3 : (0 : Int) ≤ (j : Int) := by omega
            have j4 : (j : Int) < (R.length : Int) := by omega
            have j5 : j < R.length := by omega
            have j6 : decide ((0 : Int) < (i : Int)) = true := decide_eq_true (by omega)
            have j7 : decide (0 < i) = true := decide_eq_true h0
            clear hj h0 hcy
            go_wp2_with fail
            go_quiet (fail)
            go_wp2
            go_roundw
            case rel => exact ⟨i + 1, by go_num, by omega, below_drewN hbr.out _⟩
            case measure => simp [intOf]; omega
    · have _hk := 0
      go_wp2_with fail
      go_ret
      exact ⟨rfl, B5.out.trans (hbr.out.mono B5.out.size)⟩

set_option maxRecDepth 100000 in
theorem lifted (os : Os) (started : os.Started) (H : Type) (enc : TypeId × Value → H) :
    ReturnsInHanded {} Try.checked os 4 .any (Rows.fnNamesInSpec.pre6 enc Try.prog Try.f4 Rows.fnNamesInRow.domain false) (Rows.fnNamesInSpec.post enc Try.prog Try.f4 false true false false) := by
  refine returnsInHanded_of_change (C := Try.checked) own started (by kernel_rfl) Try.func4
    (ChangeSpec.witness6 (enc := enc) (C := Try.checked) false ⟨#[], #[.slice none 0 0], []⟩ 8 (by kernel_rfl) (by kernel_rfl) (by kernel_rfl) (by kernel_rfl)) ?_
  intro W base args ds gs before hval0 hW hcnd _
  have hval : ∀ (j : Nat) t v, Try.f4.params[j]? = some t → args[j]? = some v → Value.okWide Try.prog W .any base t v := hval0
  have hW' := hW
  obtain ⟨p, q, hA0, hV, rfl, hfz, hnd⟩ := hW
  have hA : DataW.TrodAll enc Try.prog W 0 (fun _ => true) true Try.f4.params.toList args.toList ds p := hA0
  rw [Try.params4] at hA hval
  obtain ⟨v0, vs0, d0, ds0, p0, q0, hargs, rfl, rfl, h0, r0⟩ := trodAll_cons hA
  obtain ⟨rfl, rfl, rfl⟩ := trodAll_nil r0
  obtain rfl : args = #[v0] := by cases args; simp_all
  obtain ⟨rfl, rfl⟩ := trodVars_none hV
  obtain ⟨a0, len0, cap0, rfl⟩ := okWide_slice Try.underlying22 (hval 0 22 v0 rfl rfl)
  have k0 := h0
  have lt0 : ∀ x ∈ p0, x.block < W.heap.size := by obtain ⟨m, hm⟩ := k0; exact DataW.trod_lt m _ _ _ hm
  obtain ⟨z0, w0⟩ : ∃ zs, IsRow .u8 W a0 len0 cap0 zs := by
    obtain ⟨fuel, hf⟩ := h0
    rcases open_ints Try.underlying22 Try.underlying5 (by kernel_rfl) hf with ⟨hcs, _⟩ | ⟨x, l, c, zs, hcs, _, hl, hm, hz, _, hcell, hwz⟩
    · simp [Value.cells] at hcs
      obtain ⟨rfl, rfl, rfl⟩ := hcs
      exact ⟨[], .inl ⟨rfl, rfl, rfl, rfl⟩⟩
    · simp [Value.cells] at hcs
      obtain ⟨rfl, rfl, rfl⟩ := hcs
      exact ⟨zs, .inr ⟨_, rfl, hl, hm, by simpa using hz, hcell, hwz⟩⟩
  clear hA0 hval0
  refine (walk W a0 len0 cap0 z0 w0).mono fun e W' ⟨he, bel⟩ => ?_
  subst he
  exact ⟨_, rfl, _, _, _, [], _, [], hW', trodAll_mk1 (shut_bool Try.underlying4 _), (trodAll_cons_mk (Below.trod laidOut (by kernel_rfl) (of_decide_eq_true (by kernel_rfl)) k0 bel lt0) trodAll_mk0), rfl, bel.frame _, fun h => by cases h⟩

theorem over : Rows.fnNamesInRow.holds Try.pinned (OpenSpec.ofChange Rows.fnNamesInSpec) :=
  OpenClaim.holds_of_wide 4 Try.f4 rfl rfl rfl rfl rfl rfl rfl ⟨rfl, rfl, rfl, rfl, rfl⟩ rfl rfl rfl rfl rfl (by kernel_rfl) Try.func4 (by kernel_rfl)
    (of_decide_eq_true (by kernel_rfl)) (by unfold Func.isWrapper; first | (rw [if_pos (by decide +kernel)]; kernel_rfl) | (rw [if_neg (by decide +kernel)]; exact ⟨rfl, rfl⟩))
    (fun os started H enc _ => lifted os started H enc)
end Go.Proofs.Ytfgabgihdcokdaa.fnNamesIn
namespace Go.Proofs.Ytfgabgihdcokdaa
theorem fnNamesIn_holds : Rows.FnNamesInSaid := fnNamesIn.over
end Go.Proofs.Ytfgabgihdcokdaa
