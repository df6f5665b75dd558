/- For every list of nodes the law FnExactNamesIn answers true, that is, impl.NamesIn answers as spec.NamesIn does and writes into no node; its answer owns its memory: it stands when the nodes are written over, and behind another call; no condition. -/
import Derived.Test.YtnlcfppgpbfmiaaRows
import Derived.WalkKit
import Derived.ProofKit
import Derived.OpenShut
import Derived.ShutString
import Derived.ChangeOld
import Derived.Below
import Derived.Test.YtnlcfppgpbfmiaaNams
import Derived.Test.YtnlcfppgpbfmiaaNodo
import Derived.Test.YtnlcfppgpbfmiaaTxts
import Derived.Test.YtnlcfppgpbfmiaaMarks
namespace Go.Proofs.Ytnlcfppgpbfmiaa.fnExactNamesIn
open Go.ChangeShapes Go.WideShapes Go.ChangeAt Go.RowKit
open Go.ChangeMaps (open_string shut_string)
set_option linter.unusedVariables false

theorem own : ownKnob Try.prog.godebug = none := by kernel_rfl
theorem laidOut : laidOutB Try.prog = true := by kernel_rfl
open Go.Proofs.Ytnlcfppgpbfmiaa.Stepx (Nodes)
open Namq (cells)
def txt (l : List Namp.T) : List ByteArray := l.map fun t => ⟨t.toArray⟩
theorem txt_len (l : List Namp.T) : (txt l).length = l.length := List.length_map ..
theorem cells_txt (l : List Namp.T) : cells l = (txt l).map Value.string := by unfold cells txt; rw [List.map_map]; rfl
theorem texts_put {w : World} {g : Nat} {R : List Namp.T} (h1 : g < w.heap.size) (h2 : ∀ k (h : k < R.length), w.cell? ⟨g, k, none⟩ = some (Namq.cell R[k])) : Txts.Texts w (some ⟨g, 0, none⟩) (txt R) :=
  .inr ⟨g, 0, rfl, h1, fun i hi => by
    have hi' : i < R.length := by rwa [txt_len] at hi
    rw [Nat.zero_add, h2 i hi']
    have e : (txt R)[i] = (⟨R[i].toArray⟩ : ByteArray) := by simp [txt]
    rw [e]; rfl⟩
theorem drewB (w : World) (n : Nat) : Below w.heap.size w (w.drewN n) := ⟨rfl, rfl, rfl, Nat.le_refl _, fun _ _ => rfl⟩
theorem nodes_own2 {w : World} {base : Nat} {a : Option Addr} {n cap : Nat} {L : List Stepx.Node} (h : Nodm.Own w base (.slice a n cap) L) (hz : ∀ i (h : i < L.length), L[i].2.2.size ≤ maxLen) : Nodes w a L := by
  rcases h.2 with ⟨hv, h0⟩ | ⟨g, c, cur, hv, hb, hg, hn, hm, hs, ht⟩
  · exact .inl (List.length_eq_zero_iff.1 h0)
  · cases hv
    have hl := (h.lt g rfl).2
    refine .inr ⟨g, 0, rfl, hl, fun i hi => ?_⟩
    have hc := h.cellAt
    obtain ⟨a1, a2, a3⟩ := Nodm.cells_at L i hi
    rw [Nat.zero_add]
    exact ⟨(hc (i * 3) (by omega)).trans a1, (hc (i * 3 + 1) (by omega)).trans a2, (hc (i * 3 + 2) (by omega)).trans a3, hz i hi⟩
theorem owned_at {w : World} {base n : Nat} {v : Value} {R : List Namp.T} (h : w.ownsRow base 9 1 v n (cells R)) : ∃ a cap, v = .slice a (txt R).length cap ∧ Txts.Texts w a (txt R) := by
  rw [cells_txt] at h
  obtain ⟨a, cap, h1, h2, _⟩ := Txts.owned_texts h
  exact ⟨a, cap, h1, h2⟩
theorem out_len (L : List Stepx.Node) : (Namr.outN L).length ≤ 30 := by
  unfold Namr.outN
  split
  · rename_i h
    have h30 : L.length ≤ 30 := by
      unfold Stepx.exprB at h
      exact of_decide_eq_true (Bool.and_eq_true_iff.1 h).1
    rw [← Namp.sorted_put]
    refine Nat.le_trans (Lib.compact_length_le _) ?_
    rw [List.length_mergeSort]
    unfold Namr.namesT
    refine Nat.le_trans (List.length_filter_le _ _) ?_
    rw [List.length_map]; exact h30
  · exact Nat.zero_le _

set_option maxHeartbeats 2000000 in
theorem walk (w : World) (a0 : Option Addr) (cap0 : Nat) (L0 : List Stepx.Node) (w0 : Stepx.Nodes w a0 L0) (l0 : L0.length ≤ maxLen) :
    Calls Try.prog 4 #[.slice a0 L0.length cap0] w fun e w' => e = .returned (.bool true) ∧ Below w.heap.size w w' := by
  have H : Hid (Nodes w a0 L0) := w0
  have HZ : Hid (∀ i (h : i < L0.length), L0[i].2.2.size ≤ maxLen) := fun i h => by
    rcases w0 with e | ⟨b, off, _, _, hc⟩
    · rw [e] at h; exact absurd h (by simp)
    · exact (hc i h).2.2.2
  clear w0
  go_enter Try.func4, Try.ntmps4
  go_wp2_with fail
  refine (Mirror.szENodeS_any _ _ _ _ H.out l0).mono ?_
  rintro e w1 ⟨⟨x, rfl, hx⟩, hb1⟩
  rcases hx with hx | ⟨hx, hlen⟩
  · go_wp2
    go_ret
    exact ⟨rfl, hb1⟩
  have B1 : Hid (Below w.heap.size w w1) := hb1
  clear hb1 l0
  have to := fun w h => Nodo.toENodeS_own a0 cap0 L0 w h hlen
  have cs := fun a cap w hN => Namr.specNames_any a cap L0 w hN hlen
  have ci := fun a cap w hN => Nams.implNames_any a cap L0 w hN hlen
  have h30 := out_len L0
  have NO : Hid (∀ (W : World) base, W.ownsRow base 48 3 (.slice (some ⟨base, 0, none⟩) L0.length L0.length) L0.length (Nodm.cellsOf L0) → Nodes W (some ⟨base, 0, none⟩) L0) := fun W base h => nodes_own2 h HZ.out
  have ce := fun a a' cap cap' w h h' => Txts.eqStringS_any a a' cap cap' (txt (Namr.outN L0)) w h h' (by rw [txt_len]; omega)
  have mk := fun v w base h => Nodm.markENodeS_any v L0.length L0 base w h rfl (by omega)
  have en := fun a a' cap cap' w h h' => Mirror.eqENodeS_any a a' cap cap' L0 w h h' hlen
  have TL := txt_len (Namr.outN L0)
  generalize Namr.outN L0 = R at *
  have ow := fun w base n v h => @owned_at w base n v R h
  rw [TL] at ce
  simp only [TL] at ow
  go_wp2_with fail
  refine (to _ (Mirror.Nodes.below H.out B1.out)).mono ?_
  rintro e w2 ⟨rfl, o2, b2⟩
  have N2 : Hid (Nodes w2 (some ⟨w1.heap.size, 0, none⟩) L0) := NO.out _ _ o2
  have B2 : Hid (Below w.heap.size w w2) := B1.out.trans (b2.mono B1.out.size)
  clear o2 b2 B1
  go_wp2_with fail
  refine (cs _ _ _ N2.out).mono ?_
  rintro e w3 ⟨g, c3, rfl, p1, p2, p3, p4, b3⟩
  have S3 : Hid (Txts.Texts w3 (some ⟨g, 0, none⟩) (txt R)) := texts_put p1 p4
  have B3 : Hid (Below w.heap.size w w3) := B2.out.trans (b3.mono B2.out.size)
  clear p1 p2 p3 p4 b3 N2 B2 cs
  go_wp2_with fail
  refine (to _ (Mirror.Nodes.below H.out B3.out)).mono ?_
  rintro e w4 ⟨rfl, o4, b4⟩
  have O4 : Hid (w4.ownsRow w3.heap.size 48 3 (.slice (some ⟨w3.heap.size, 0, none⟩) L0.length L0.length) L0.length (Nodm.cellsOf L0)) := o4
  have C4 : Hid (Below w3.heap.size w3 w4) := b4
  clear o4 b4
  go_wp2_with fail
  refine (ci _ _ _ (NO.out _ _ O4.out)).mono ?_
  rintro e w5 ⟨v5, rfl, o5, b5⟩
  obtain ⟨a5, c5, rfl, t5⟩ := ow _ _ _ _ o5
  have T5 : Hid (Txts.Texts w5 a5 (txt R)) := t5
  have O5 : Hid (w5.ownsRow w4.heap.size 9 1 (.slice a5 R.length c5) R.length (cells R)) := o5
  have X5 : Hid (w5.ownsRow w3.heap.size 48 3 (.slice (some ⟨w3.heap.size, 0, none⟩) L0.length L0.length) L0.length (Nodm.cellsOf L0)) := Nodm.own_belowG O4.out b5
  have C5 : Hid (Below w3.heap.size w3 w5) := C4.out.trans (b5.mono C4.out.size)
  have S45 : Hid (w3.heap.size < w4.heap.size) := (O4.out.lt w3.heap.size rfl).2
  clear o5 t5 b5 O4 C4
  go_wp2_with fail
  refine (ce _ _ _ _ _ T5.out (S3.out.below C5.out)).mono ?_
  rintro e w6 ⟨rfl, n6, hw6⟩
  have b6 : Below w5.heap.size w5 w6 := by rw [hw6]; exact drewB _ _
  clear hw6
  have O6 : Hid (w6.ownsRow w4.heap.size 9 1 (.slice a5 R.length c5) R.length (cells R)) := Marks.own_below O5.out b6
  have X6 : Hid (w6.ownsRow w3.heap.size 48 3 (.slice (some ⟨w3.heap.size, 0, none⟩) L0.length L0.length) L0.length (Nodm.cellsOf L0)) := Nodm.own_belowG X5.out b6
  have C6 : Hid (Below w3.heap.size w3 w6) := C5.out.trans (b6.mono C5.out.size)
  have B6 : Hid (Below w.heap.size w w6) := B3.out.trans (C6.out.mono B3.out.size)
  clear b6 O5 X5 C5 T5
  go_wp2_with fail
  refine (to _ (Mirror.Nodes.below H.out B6.out)).mono ?_
  rintro e w7 ⟨rfl, o7, b7⟩
  have N7 : Hid (Nodes w7 (some ⟨w6.heap.size, 0, none⟩) L0) := NO.out _ _ o7
  have O7 : Hid (w7.ownsRow w4.heap.size 9 1 (.slice a5 R.length c5) R.length (cells R)) := Marks.own_below O6.out b7
  have X7 : Hid (w7.ownsRow w3.heap.size 48 3 (.slice (some ⟨w3.heap.size, 0, none⟩) L0.length L0.length) L0.length (Nodm.cellsOf L0)) := Nodm.own_belowG X6.out b7
  have C7 : Hid (Below w3.heap.size w3 w7) := C6.out.trans (b7.mono C6.out.size)
  clear o7 b7 O6 X6 C6 B6
  go_wp2_with fail
  refine (en _ _ _ _ _ (NO.out _ _ X7.out) N7.out).mono ?_
  rintro e w8 ⟨rfl, b8⟩
  have O8 : Hid (w8.ownsRow w4.heap.size 9 1 (.slice a5 R.length c5) R.length (cells R)) := Marks.own_below O7.out b8
  have X8 : Hid (w8.ownsRow w3.heap.size 48 3 (.slice (some ⟨w3.heap.size, 0, none⟩) L0.length L0.length) L0.length (Nodm.cellsOf L0)) := Nodm.own_belowG X7.out b8
  have C8 : Hid (Below w3.heap.size w3 w8) := C7.out.trans (b8.mono C7.out.size)
  clear b8 O7 X7 C7 N7
  go_wp2_with fail
  refine (mk _ _ _ X8.out).mono ?_
  rintro e w9 ⟨rfl, _, g9⟩
  have O9 : Hid (w9.ownsRow w4.heap.size 9 1 (.slice a5 R.length c5) R.length (cells R)) := O8.out.kept g9 (.inr (fun e => by
    have h2 := (O8.out.lt w3.heap.size e).1
    have := S45.out
    omega))
  have C9 : Hid (Below w3.heap.size w3 w9) := C8.out.grown g9 C8.out.size (fun k hk => (X8.out.lt k hk).1)
  clear g9 O8 X8 C8 mk
  obtain ⟨a9, c9, e9, t9⟩ := ow _ _ _ _ O9.out
  cases e9
  have T9 : Hid (Txts.Texts w9 a5 (txt R)) := t9
  clear t9
  go_wp2_with fail
  refine (ce _ _ _ _ _ T9.out (S3.out.below C9.out)).mono ?_
  rintro e w10 ⟨rfl, n10, hw10⟩
  have b10 : Below w9.heap.size w9 w10 := by rw [hw10]; exact drewB _ _
  clear hw10
  have O10 : Hid (w10.ownsRow w4.heap.size 9 1 (.slice a5 R.length c5) R.length (cells R)) := Marks.own_below O9.out b10
  have C10 : Hid (Below w3.heap.size w3 w10) := C9.out.trans (b10.mono C9.out.size)
  clear b10 O9 C9 T9
  go_wp2_with fail
  refine (Marks.markStringS_any _ R.length _ _ _ O10.out (by omega)).mono ?_
  rintro e w11 ⟨rfl, o11, g11⟩
  have O11 : Hid (w11.ownsRow w4.heap.size 9 1 (.slice a5 R.length c5) R.length (Marks.markRow 1 R.length)) := o11
  have C11 : Hid (Below w3.heap.size w3 w11) := C10.out.grown g11 C10.out.size (fun k hk => Nat.le_trans (Nat.le_of_lt S45.out) (O10.out.lt k hk).1)
  clear o11 g11 O10 C10
  go_wp2_with fail
  refine (Marks.heldStringS_any _ R.length _ _ O11.out (by omega)).mono ?_
  rintro e w12 ⟨rfl, b12⟩
  have O12 : Hid (w12.ownsRow w4.heap.size 9 1 (.slice a5 R.length c5) R.length (Marks.markRow 1 R.length)) := Marks.own_below O11.out b12
  have C12 : Hid (Below w3.heap.size w3 w12) := C11.out.trans (b12.mono C11.out.size)
  have B12 : Hid (Below w.heap.size w w12) := B3.out.trans (C12.out.mono B3.out.size)
  clear b12 O11 C11
  go_wp2_with fail
  refine (to _ (Mirror.Nodes.below H.out B12.out)).mono ?_
  rintro e w13 ⟨rfl, o13, b13⟩
  have N13 : Hid (Nodes w13 (some ⟨w12.heap.size, 0, none⟩) L0) := NO.out _ _ o13
  have O13 : Hid (w13.ownsRow w4.heap.size 9 1 (.slice a5 R.length c5) R.length (Marks.markRow 1 R.length)) := Marks.own_below O12.out b13
  have C13 : Hid (Below w3.heap.size w3 w13) := C12.out.trans (b13.mono C12.out.size)
  clear o13 b13 O12 C12 B12
  go_wp2_with fail
  refine (ci _ _ _ N13.out).mono ?_
  rintro e w14 ⟨v14, rfl, o14, b14⟩
  obtain ⟨a14, c14, rfl, t14⟩ := ow _ _ _ _ o14
  have T14 : Hid (Txts.Texts w14 a14 (txt R)) := t14
  have O14 : Hid (w14.ownsRow w4.heap.size 9 1 (.slice a5 R.length c5) R.length (Marks.markRow 1 R.length)) := Marks.own_below O13.out b14
  have C14 : Hid (Below w3.heap.size w3 w14) := C13.out.trans (b14.mono C13.out.size)
  clear o14 t14 b14 O13 C13 N13
  go_wp2_with fail
  refine (ce _ _ _ _ _ T14.out (S3.out.below C14.out)).mono ?_
  rintro e w15 ⟨rfl, n15, hw15⟩
  have b15 : Below w14.heap.size w14 w15 := by rw [hw15]; exact drewB _ _
  clear hw15
  have O15 : Hid (w15.ownsRow w4.heap.size 9 1 (.slice a5 R.length c5) R.length (Marks.markRow 1 R.length)) := Marks.own_below O14.out b15
  have C15 : Hid (Below w3.heap.size w3 w15) := C14.out.trans (b15.mono C14.out.size)
  clear b15 O14 C14 T14
  go_wp2_with fail
  refine (Marks.heldStringS_any _ R.length _ _ O15.out (by omega)).mono ?_
  rintro e w16 ⟨rfl, b16⟩
  have B16 : Hid (Below w.heap.size w w16) := B3.out.trans ((C15.out.trans (b16.mono C15.out.size)).mono B3.out.size)
  clear b16 O15 C15
  go_wp2
  go_ret
  exact ⟨rfl, B16.out⟩

set_option maxRecDepth 100000 in
theorem lifted (os : Os) (started : os.Started) (H : Type) (enc : TypeId × Value → H) :
    ReturnsInHanded {} Try.checked os 4 .any (Rows.fnExactNamesInSpec.pre6 enc Try.prog Try.f4 Rows.fnExactNamesInRow.domain false) (Rows.fnExactNamesInSpec.post enc Try.prog Try.f4 false true false false) := by
  refine returnsInHanded_of_change (C := Try.checked) own started (by kernel_rfl) Try.func4
    (ChangeSpec.witness6 (enc := enc) (C := Try.checked) false ⟨#[], #[.slice none 0 0], []⟩ 8 (by kernel_rfl) (by kernel_rfl) (by kernel_rfl) (by kernel_rfl)) ?_
  intro W base args ds gs before hval0 hW hcnd _
  have hval : ∀ (j : Nat) t v, Try.f4.params[j]? = some t → args[j]? = some v → Value.okWide Try.prog W .any base t v := hval0
  have hW' := hW
  obtain ⟨p, q, hA0, hV, rfl, hfz, hnd⟩ := hW
  have hA : DataW.TrodAll enc Try.prog W 0 (fun _ => true) true Try.f4.params.toList args.toList ds p := hA0
  rw [Try.params4] at hA hval
  obtain ⟨v0, vs0, d0, ds0, p0, q0, hargs, rfl, rfl, h0, r0⟩ := trodAll_cons hA
  obtain ⟨rfl, rfl, rfl⟩ := trodAll_nil r0
  obtain rfl : args = #[v0] := by cases args; simp_all
  obtain ⟨rfl, rfl⟩ := trodVars_none hV
  obtain ⟨a0, len0, cap0, rfl⟩ := okWide_slice Try.underlying22 (hval 0 22 v0 rfl rfl)
  have k0 := h0
  have lt0 : ∀ x ∈ p0, x.block < W.heap.size := by obtain ⟨m, hm⟩ := k0; exact DataW.trod_lt m _ _ _ hm
  obtain ⟨L0, e0, l0, w0⟩ : ∃ L : List Stepx.Node, L.length = len0 ∧ L.length ≤ maxLen ∧ Stepx.Nodes W a0 L := by
    obtain ⟨fuel, hf⟩ := h0
    obtain ⟨a, len, cap, L, hcs, h1, h2, h3⟩ := Mirror.nodes_of hf
    simp [Value.cells] at hcs
    obtain ⟨rfl, rfl, rfl⟩ := hcs
    exact ⟨L, h1, by rw [h1]; exact h2, h3⟩
  subst e0
  clear hA0 hval0
  refine (walk W a0 cap0 L0 w0 l0).mono fun e W' ⟨he, bel⟩ => ?_
  subst he
  exact ⟨_, rfl, _, _, _, [], _, [], hW', trodAll_mk1 (shut_bool Try.underlying4 _), (trodAll_cons_mk (Below.trod laidOut (by kernel_rfl) (of_decide_eq_true (by kernel_rfl)) k0 bel lt0) trodAll_mk0), rfl, bel.frame _, fun h => by cases h⟩

theorem over : Rows.fnExactNamesInRow.holds Try.pinned (OpenSpec.ofChange Rows.fnExactNamesInSpec) :=
  OpenClaim.holds_of_wide 4 Try.f4 rfl rfl rfl rfl rfl rfl rfl ⟨rfl, rfl, rfl, rfl, rfl⟩ rfl rfl rfl rfl rfl (by kernel_rfl) Try.func4 (by kernel_rfl)
    (of_decide_eq_true (by kernel_rfl)) (by unfold Func.isWrapper; first | (rw [if_pos (by decide +kernel)]; kernel_rfl) | (rw [if_neg (by decide +kernel)]; exact ⟨rfl, rfl⟩))
    (fun os started H enc _ => lifted os started H enc)
end Go.Proofs.Ytnlcfppgpbfmiaa.fnExactNamesIn
namespace Go.Proofs.Ytnlcfppgpbfmiaa
theorem fnExactNamesIn_holds : Rows.FnExactNamesInSaid := fnExactNamesIn.over
end Go.Proofs.Ytnlcfppgpbfmiaa
