/- For every slice of bytes the law FnEval answers true, that is, of an expression and symbols drawn from them impl.EvalExpr tells what spec.EvalExpr tells; it tells something only where all names are there, the same with one symbol more, and a number of 32 bits; no condition. -/
import Derived.Test.YtfgabgihdcokdaaRows
import Derived.WalkKit
import Derived.ProofKit
import Derived.OpenShut
import Derived.ShutString
import Derived.ChangeOld
import Derived.Below
import Derived.Test.YtfgabgihdcokdaaDrawV
import Derived.Test.YtfgabgihdcokdaaNams
import Derived.Test.YtfgabgihdcokdaaTxts
import Derived.Test.YtfgabgihdcokdaaEvat
import Derived.Test.YtfgabgihdcokdaaEvap
namespace Go.Proofs.Ytfgabgihdcokdaa.fnEval
open Go.ChangeShapes Go.WideShapes Go.ChangeAt Go.RowKit
open Go.ChangeMaps (open_string shut_string)
set_option linter.unusedVariables false

theorem own : ownKnob Try.prog.godebug = none := by kernel_rfl
theorem laidOut : laidOutB Try.prog = true := by kernel_rfl
/-- What the walk is told of a slice of bytes that came in: it is nil; or it leads to a row of cells, the numbers zs, each fitting its kind. -/
def IsRow (k : IntKind) (w : World) (a : Option Addr) (len cap : Nat) (zs : List Int) : Prop :=
  (a = none ∧ len = 0 ∧ cap = 0 ∧ zs = []) ∨
  ∃ x, a = some x ∧ len ≤ cap ∧ cap ≤ maxLen ∧ zs.length = cap ∧ (∀ i, i < zs.length → w.cell? (x.add i) = some (.int k (zs.getD i 0))) ∧ ∀ n ∈ zs, (Lit.int k n).wf = true
set_option maxRecDepth 20000
open Go.Proofs.Ytfgabgihdcokdaa.Stepx (Nodes)
open Namq (cells)
def txt (l : List Namp.T) : List ByteArray := l.map fun t => ⟨t.toArray⟩
theorem txt_len (l : List Namp.T) : (txt l).length = l.length := List.length_map ..
theorem cells_txt (l : List Namp.T) : cells l = (txt l).map Value.string := by unfold cells txt; rw [List.map_map]; rfl
theorem texts_put {w : World} {g : Nat} {R : List Namp.T} (h1 : g < w.heap.size) (h2 : ∀ k (h : k < R.length), w.cell? ⟨g, k, none⟩ = some (Namq.cell R[k])) : Txts.Texts w (some ⟨g, 0, none⟩) (txt R) :=
  .inr ⟨g, 0, rfl, h1, fun i hi => by
    have hi' : i < R.length := by rwa [txt_len] at hi
    rw [Nat.zero_add, h2 i hi']
    have e : (txt R)[i] = (⟨R[i].toArray⟩ : ByteArray) := by simp [txt]
    rw [e]; rfl⟩
theorem drewB (w : World) (n : Nat) : Below w.heap.size w (w.drewN n) := ⟨rfl, rfl, rfl, Nat.le_refl _, fun _ _ => rfl⟩
theorem owned_at {w : World} {base n : Nat} {v : Value} {R : List Namp.T} (h : w.ownsRow base 9 1 v n (cells R)) : ∃ a cap, v = .slice a (txt R).length cap ∧ Txts.Texts w a (txt R) := by
  rw [cells_txt] at h
  obtain ⟨a, cap, h1, h2, _⟩ := Txts.owned_texts h
  exact ⟨a, cap, h1, h2⟩
theorem out_len (L : List Stepx.Node) : (Namr.outN L).length ≤ 30 := by
  unfold Namr.outN
  split
  · rename_i h
    have h30 : L.length ≤ 30 := by
      unfold Stepx.exprB at h
      exact of_decide_eq_true (Bool.and_eq_true_iff.1 h).1
    rw [← Namp.sorted_put]
    refine Nat.le_trans (Lib.compact_length_le _) ?_
    rw [List.length_mergeSort]
    unfold Namr.namesT
    refine Nat.le_trans (List.length_filter_le _ _) ?_
    rw [List.length_map]; exact h30
  · exact Nat.zero_le _
theorem toRow {k : IntKind} {w : World} {a : Option Addr} {len cap : Nat} {zs : List Int} (h : IsRow k w a len cap zs) : Rdr.IsRow k w a len cap zs := h
open Symr (Sym Syms)
theorem out_mem {L : List Stepx.Node} (h : Stepx.exprB L = true) (x : Namp.T) : x ∈ Namr.outN L ↔ ∃ y ∈ L, y.2.2.data.toList = x ∧ x ≠ [] := by
  unfold Namr.outN
  rw [if_pos h]
  obtain ⟨_, h2⟩ := Namp.fold_put (Namr.namesT L) [] List.Pairwise.nil
  rw [h2 x]
  unfold Namr.namesT
  constructor
  · intro hx
    rcases hx with hx | hx
    · obtain ⟨h3, h4⟩ := List.mem_filter.1 hx
      obtain ⟨y, hy, e⟩ := List.mem_map.1 h3
      exact ⟨y, hy, e, by intro e0; rw [e0] at h4; simp at h4⟩
    · cases hx
  · rintro ⟨y, hy, e, hne⟩
    exact .inl (List.mem_filter.2 ⟨List.mem_map.2 ⟨y, hy, e⟩, by cases x with | nil => exact absurd rfl hne | cons a l => rfl⟩)
/-- Whether a name is among the first symbols. -/
def anyK (Y : List Sym) (k : Nat) (x : ByteArray) : Bool := (Y.take k).any fun y => y.1.toList == x.toList
theorem any_step {Y : List Sym} {k : Nat} {x : ByteArray} (h : k < Y.length) : anyK Y (k + 1) x = (anyK Y k x || (Y[k].1.toList == x.toList)) := by
  unfold anyK
  rw [List.take_add_one, List.getElem?_eq_getElem h, List.any_append]
  simp
def tx (t : Namp.T) : ByteArray := ⟨t.toArray⟩
def allK (R : List Namp.T) (Y : List Sym) (i : Nat) : Bool := (R.take i).all fun t => anyK Y Y.length (tx t)
theorem all_step {R : List Namp.T} {Y : List Sym} {i : Nat} (h : i < R.length) : allK R Y (i + 1) = (allK R Y i && anyK Y Y.length (tx R[i])) := by
  unfold allK
  rw [List.take_add_one, List.getElem?_eq_getElem h, List.all_append]
  simp
theorem find_any : ∀ (Y : List Sym) (s : ByteArray), Symn.find Y s ≠ none ↔ anyK Y Y.length s = true
  | [], s => by simp [Symn.find, anyK]
  | y :: Y, s => by
    have ih := find_any Y s
    unfold anyK at ih ⊢
    rw [List.take_length] at ih ⊢
    rw [List.any_cons]
    show (if Symn.same y.1 s = true then some y else Symn.find Y s) ≠ none ↔ _
    unfold Symn.same
    cases h : (y.1.toList == s.toList) with
    | true => simp
    | false => simp only [Bool.false_or, Bool.false_eq_true, if_false]; exact ih
theorem nodes_ok : ∀ {L : List Stepx.Node} {v r : Int}, Stepx.run v L = some r → ∀ x ∈ L, Steps.nodeB x.1 x.2.1 x.2.2 = true
  | [], _, _, _, x, hx => by cases hx
  | y :: L, v, r, h, x, hx => by
    rw [Stepx.run] at h
    split at h
    · rename_i hc
      rcases List.mem_cons.1 hx with rfl | hx
      · exact hc.1
      · exact nodes_ok h x hx
    · cases h
theorem all_iff {L : List Stepx.Node} {Y : List Sym} (h : Stepx.exprB L = true) : (∀ x ∈ L, 1 ≤ x.1) ∧ (∀ x ∈ L, Steps.nodeB x.1 x.2.1 x.2.2 = true) ∧ ((Evai.ev Y [] L).2 = 0 → allK (Namr.outN L) Y (Namr.outN L).length = true) ∧ ((Evai.ev Y [] L).2 = 2 → allK (Namr.outN L) Y (Namr.outN L).length = false) := by
  have hok : ∀ x ∈ L, Steps.nodeB x.1 x.2.1 x.2.2 = true := by
    unfold Stepx.exprB at h
    exact nodes_ok (eq_of_beq (Bool.and_eq_true_iff.1 h).2)
  have hk : ∀ x ∈ L, 1 ≤ x.1 := fun x hx => by
    have := hok x hx
    unfold Steps.nodeB at this
    split at this
    · omega
    · split at this
      · omega
      · split at this
        · omega
        · cases this
  have hnm : ∀ x ∈ L, (Evap.named x → x.2.2.data.toList ≠ []) ∧ (x.2.2.data.toList ≠ [] → Evap.named x) := fun x hx => by
    have hb := hok x hx
    unfold Steps.nodeB at hb
    have he : ∀ s : ByteArray, s.toList.isEmpty = true ↔ s.data.toList = [] := fun s => by rw [ByteArray.toList_eq]; exact List.isEmpty_iff
    unfold Evap.named
    split at hb
    · rename_i k1
      have := (he _).1 (Bool.and_eq_true_iff.1 hb).2
      exact ⟨fun h => by omega, fun h => absurd this h⟩
    · split at hb
      · rename_i k1 k2
        refine ⟨fun _ e => ?_, fun _ => k2⟩
        have hn := (Bool.and_eq_true_iff.1 hb).2
        obtain ⟨h1, _⟩ := of_decide_eq_true (show decide _ = true from hn)
        have : x.2.2.size = 0 := by show x.2.2.data.toList.length = 0; rw [e]; rfl
        omega
      · split at hb
        · rename_i k1 k2 k3
          have := (he _).1 (Bool.and_eq_true_iff.1 hb).2
          exact ⟨fun h => absurd h k2, fun h => absurd this h⟩
        · cases hb
  obtain ⟨e0, e2⟩ := Evap.ev_names (Y := Y) L [] hk
  refine ⟨hk, hok, fun h0 => ?_, fun h2 => ?_⟩
  · unfold allK
    rw [List.take_length, List.all_eq_true]
    intro t ht
    obtain ⟨y, hy, e, hne⟩ := (out_mem h t).1 ht
    have := e0 h0 y hy ((hnm y hy).2 (by rw [e]; exact hne))
    have e' : tx t = y.2.2 := by unfold tx; rw [← e]
    rw [e']
    exact (find_any _ _).1 this
  · obtain ⟨y, hy, hn, hf⟩ := e2 h2
    rw [← Bool.not_eq_true]
    intro hall
    unfold allK at hall
    rw [List.take_length, List.all_eq_true] at hall
    have := hall y.2.2.data.toList ((out_mem h _).2 ⟨y, hy, rfl, (hnm y hy).1 hn⟩)
    have e' : tx y.2.2.data.toList = y.2.2 := by unfold tx; rfl
    rw [e'] at this
    exact (find_any _ _).2 this hf
theorem ev_facts {L : List Stepx.Node} {Y : List Sym} (hy : Y.length ≤ 4) (hp : ∀ x ∈ L, Cmpf.Plain x.2.2) (h1 : (Evai.evV L Y).2 ≠ 1) :
    Evai.evV L (Y ++ [(⟨#[122, 122]⟩, 0, 9)]) = Evai.evV L Y ∧ ((Evai.evV L Y).2 = 0 → allK (Namr.outN L) Y (Namr.outN L).length = true) ∧ ((Evai.evV L Y).2 = 2 → allK (Namr.outN L) Y (Namr.outN L).length = false) ∧ -2147483648 ≤ (Evai.evV L Y).1 ∧ (Evai.evV L Y).1 ≤ 2147483647 := by
  have hx : Stepx.exprB L = true := by
    cases h : Stepx.exprB L with
    | true => rfl
    | false => exact absurd (by unfold Evai.evV; rw [if_neg (by rw [h]; simp)]) h1
  have e1 : Evai.evV L Y = Evai.ev Y [] L := by unfold Evai.evV; rw [if_pos ⟨hx, by omega⟩]
  have e2 : Evai.evV L (Y ++ [(⟨#[122, 122]⟩, 0, 9)]) = Evai.ev (Y ++ [(⟨#[122, 122]⟩, 0, 9)]) [] L := by unfold Evai.evV; rw [if_pos ⟨hx, by rw [List.length_append]; show Y.length + 1 ≤ 200; omega⟩]
  obtain ⟨_, hok, a0, a2⟩ := all_iff (Y := Y) hx
  rw [e1, e2]
  refine ⟨Evap.ev_more L [] fun x hx => ?_, a0, a2, Evap.ev_rng L [] hok (fun z hz => by cases hz)⟩
  unfold Symn.same
  cases h : ((⟨#[122, 122]⟩ : ByteArray).toList == x.2.2.toList) with
  | false => rfl
  | true => exact absurd (Cmpa.eq_list.1 h).symm (hp x hx).2.2.2.2
theorem one_cells (Y : List Sym) : ∀ u ∈ DrawS.cellsOf Y, u.oneCell' = true := by
  intro u hu
  unfold DrawS.cellsOf at hu
  obtain ⟨y, hy, h⟩ := List.mem_flatMap.1 hu
  simp at h
  rcases h with rfl | rfl | rfl <;> rfl
theorem add_at (g j : Nat) : (⟨g, 0, none⟩ : Addr).add j = ⟨g, j, none⟩ := by unfold Addr.add; split <;> simp_all

set_option maxHeartbeats 2000000 in
theorem walk (w : World) (a0 : Option Addr) (len0 cap0 : Nat) (z0 : List Int) (w0 : IsRow .u8 w a0 len0 cap0 z0) :
    Calls Try.prog 3 #[.slice a0 len0 cap0] w fun e w' => e = .returned (.bool true) ∧ Below w.heap.size w w' := by
  have H : Hid (Rdr.IsRow .u8 w a0 len0 cap0 z0) := toRow w0
  clear w0
  have cb := Rdr.big_any a0 len0 cap0 w H.out.len
  by_cases hbig : Rdr.bigB len0 = true
  · rw [hbig] at cb
    go_enter Try.func3, Try.ntmps3
    go_wp2_with (go_at_call 5; refine cb.mono ?_; rintro e w' ⟨rfl, rfl⟩)
    go_ret
    exact ⟨rfl, Below.refl _ _⟩
  have hbig : Rdr.bigB len0 = false := by simpa using hbig
  rw [hbig] at cb
  obtain ⟨i0, hi, hz0, hz1, hz2⟩ := info_parts Symr.infoY
  go_enter Try.func3, Try.ntmps3
  go_wp2_with fail
  refine cb.mono ?_
  rintro e w' ⟨rfl, rfl⟩
  go_wp2_with fail
  refine (DrawV.drawEval_any _ _ _ _ _ H.out).mono ?_
  rintro e w2 ⟨⟨a2, cap2, L, Y, g2, c2, rfl, ho2, hl, hn, hyl, oy2, hz⟩, hb2⟩
  have N2 : Hid (Nodes w2 a2 L) := Nodm.nodes_own ho2 (fun x hx => Nat.le_trans (hn x hx).1 (by decide))
  have Y2 : Hid (Syms w2 (some ⟨g2, 0, none⟩) Y) := DrawS.syms_own (n := Y.length) oy2 hz
  have O2 : Hid (DrawS.Own w2 w'.heap.size (.slice (some ⟨g2, 0, none⟩) Y.length c2) Y) := oy2
  have B2 : Hid (Below w'.heap.size w' w2) := hb2
  have ZY : Hid (∀ y ∈ Y, y.1.size ≤ 1048576) := hz
  have FA : Hid ((Evai.evV L Y).2 ≠ 1 → Evai.evV L (Y ++ [(⟨#[122, 122]⟩, 0, 9)]) = Evai.evV L Y ∧ ((Evai.evV L Y).2 = 0 → allK (Namr.outN L) Y (Namr.outN L).length = true) ∧ ((Evai.evV L Y).2 = 2 → allK (Namr.outN L) Y (Namr.outN L).length = false) ∧ -2147483648 ≤ (Evai.evV L Y).1 ∧ (Evai.evV L Y).1 ≤ 2147483647) := fun h => ev_facts hyl (fun x hx => (hn x hx).2) h
  clear ho2 hb2 hn H cb oy2 hz
  have ei := fun w hN hY => Evai.implEval_any a2 cap2 L (some ⟨g2, 0, none⟩) c2 Y w hN (by omega) hY (by omega)
  have es := fun w hN hY => Evat.specEval_any a2 cap2 L (some ⟨g2, 0, none⟩) c2 Y w hN (by omega) hY (by omega)
  have ez := fun ya yc w hN hY => Evai.implEval_any a2 cap2 L ya yc (Y ++ [(⟨#[122, 122]⟩, 0, 9)]) w hN (by omega) hY (by rw [List.length_append]; show Y.length + 1 ≤ _; omega)
  have ci := fun w hN => Nams.implNames_any a2 cap2 L w hN (by omega)
  have h30 := out_len L
  have TL := txt_len (Namr.outN L)
  obtain ⟨n, hn⟩ : ∃ n, n = (Evai.evV L Y).1 := ⟨_, rfl⟩
  obtain ⟨c, hc⟩ : ∃ c, c = (Evai.evV L Y).2 := ⟨_, rfl⟩
  have EZ : Hid (c ≠ 1 → (Evai.evV L (Y ++ [(⟨#[122, 122]⟩, 0, 9)])).1 = n ∧ (Evai.evV L (Y ++ [(⟨#[122, 122]⟩, 0, 9)])).2 = c) := fun h => by
    rw [hn, hc, (FA.out (by rw [← hc]; exact h)).1]; exact ⟨rfl, rfl⟩
  rw [← hn, ← hc] at FA ei es
  have F2 : Hid (c ≠ 1 → (c = 0 → allK (Namr.outN L) Y (Namr.outN L).length = true) ∧ (c = 2 → allK (Namr.outN L) Y (Namr.outN L).length = false) ∧ -2147483648 ≤ n ∧ n ≤ 2147483647) := fun h => (FA.out h).2
  clear hn hc FA
  generalize Namr.outN L = R at *
  have ow := fun w base n v h => @owned_at w base n v R h
  simp only [TL] at ow
  have TL' : Hid ((txt R).length = R.length) := TL
  clear TL
  go_wp2_with fail
  refine (ei _ N2.out Y2.out).mono ?_
  rintro e w3 ⟨rfl, b3⟩
  have B3 : Hid (Below w2.heap.size w2 w3) := b3
  clear b3 ei
  go_wp2_with fail
  refine (es _ (Mirror.Nodes.below N2.out B3.out) (Y2.out.below B3.out)).mono ?_
  rintro e w4 ⟨rfl, b4⟩
  have B4 : Hid (Below w2.heap.size w2 w4) := B3.out.trans (b4.mono B3.out.size)
  clear b4 es B3
  have n1 : (n == n) = true := by simp
  have n2 : (n != n) = false := by simp
  have c1 : (c == c) = true := by simp
  have c2' : (c != c) = false := by simp
  by_cases hc1 : c = 1
  · have d1 : (c == 1) = true := by simp [hc1]
    clear hc1
    go_wp2_with fail
    go_ret
    exact ⟨rfl, B2.out.trans (B4.out.mono B2.out.size)⟩
  have d1 : (c == 1) = false := by simp [hc1]
  have EZ' := EZ.out hc1
  have F3 : Hid ((c = 0 → allK R Y R.length = true) ∧ (c = 2 → allK R Y R.length = false)) := ⟨(F2.out hc1).1, (F2.out hc1).2.1⟩
  have nlo : -2147483648 ≤ n := (F2.out hc1).2.2.1
  have nhi : n ≤ 2147483647 := (F2.out hc1).2.2.2
  have EZ1 : Hid ((Evai.evV L (Y ++ [(⟨#[122, 122]⟩, 0, 9)])).1 = n ∧ (Evai.evV L (Y ++ [(⟨#[122, 122]⟩, 0, 9)])).2 = c) := EZ'
  clear EZ EZ' F2
  have HC1 : Hid (¬ c = 1) := hc1
  clear hc1
  go_wp2_with fail
  refine (ci _ (Mirror.Nodes.below N2.out B4.out)).mono ?_
  rintro e w5 ⟨v5, rfl, o5, b5⟩
  obtain ⟨a5, c5, rfl, t5⟩ := ow _ _ _ _ o5
  have T5 : Hid (Txts.Texts w5 a5 (txt R)) := t5
  have B5 : Hid (Below w2.heap.size w2 w5) := B4.out.trans (b5.mono B4.out.size)
  clear t5 o5 b5 B4 ci ow
  go_wp2_with fail
  go_loopw [10, 11] (fun f v wr => ∃ (i : Nat), f = .bool (allK R Y i) ∧ v = .int .i64 (i : Int) ∧ i ≤ R.length ∧ Hid (Below w5.heap.size w5 wr)) (fun _ v _ => R.length - (intOf v).toNat)
  case atStart => exact ⟨0, by unfold allK; simp, rfl, Nat.zero_le _, Below.refl _ _⟩
  case round =>
    obtain ⟨i, rfl, rfl, hi', hbr⟩ := hrel
    by_cases hlt : i < R.length
    · have AS : Hid (allK R Y (i + 1) = (allK R Y i && anyK Y Y.length (tx R[i]))) := all_step hlt
      obtain ⟨b3, o3, rfl, hb3, hc3⟩ : ∃ b off, a5 = some ⟨b, off, none⟩ ∧ b < w5.heap.size ∧ ∀ i (h : i < R.length), w5.cell? ⟨b, off + i, none⟩ = some (.string (tx R[i])) := by
        rcases T5.out with h | ⟨b, off, e, hb, hc⟩
        · have e := congrArg List.length h; rw [TL'.out] at e; exact absurd hlt (by rw [e]; exact Nat.not_lt_zero _)
        · refine ⟨b, off, e, hb, fun i hi => ?_⟩
          have := hc i (by rw [TL'.out]; exact hi)
          rw [this]; simp [txt, tx]
      have CX : Hid (∀ (W : World), Below w5.heap.size w5 W → W.cell? ⟨b3, o3 + i, none⟩ = some (.string (tx R[i]))) := fun W hW => (hW.cell (p := ⟨b3, _, none⟩) hb3).trans (hc3 i hlt)
      clear hc3
      generalize tx R[i] = x at *
      have CY : Hid (∀ (W : World), Below w5.heap.size w5 W → ∀ k (h : k < Y.length), W.cell? ⟨g2, k * 3, none⟩ = some (.string Y[k].1)) := fun W hW k hk => by
        have hY := (Y2.out.below B5.out).below hW
        rcases hY with h | ⟨b, off, e, hb, hc⟩
        · rw [h] at hk; exact absurd hk (Nat.not_lt_zero _)
        · cases e
          have := (hc k hk).1
          rwa [Nat.zero_add] at this
      obtain ⟨ab, hab⟩ : ∃ ab, ab = allK R Y i := ⟨_, rfl⟩
      rw [← hab] at AS ⊢
      clear hab
      go_wp2_with fail
      go_loopw [12, 13] (fun f v wr => ∃ (k : Nat), f = .bool (anyK Y k x) ∧ v = .int .i64 (k : Int) ∧ k ≤ Y.length ∧ Hid (Below w5.heap.size w5 wr)) (fun _ v _ => Y.length - (intOf v).toNat)
      case atStart => exact ⟨0, by unfold anyK; simp, rfl, Nat.zero_le _, hbr.out⟩
      case round =>
        obtain ⟨k, rfl, rfl, hk, hbr⟩ := hrel
        by_cases hkl : k < Y.length
        · have c2x := CY.out _ hbr.out k hkl
          have c3x := CX.out _ hbr.out
          have ST : Hid (anyK Y (k + 1) x = (anyK Y k x || (Y[k].1.toList == x.toList))) := any_step hkl
          obtain ⟨fb, hfb⟩ : ∃ fb, fb = anyK Y k x := ⟨_, rfl⟩
          rw [← hfb] at ST ⊢
          clear hfb
          generalize Y[k].1 = nm at *
          cases fb with
          | true =>
            go_wp2_with fail
            go_quiet (fail)
            go_wp2
            go_roundw
            case rel => exact ⟨k + 1, by rw [ST.out]; rfl, by go_num, by omega, below_drewN hbr.out _⟩
            case measure => simp [intOf]; omega
          | false =>
            obtain ⟨r, hr⟩ : ∃ r, (nm.toList == x.toList) = r := ⟨_, rfl⟩
            rw [hr, Bool.false_or] at ST
            go_wp2_with fail
            go_quiet (fail)
            go_wp2
            go_roundw
            case rel => exact ⟨k + 1, by rw [ST.out], by go_num, by omega, below_drewN hbr.out _⟩
            case measure => simp [intOf]; omega
        · have ek : k = Y.length := by omega
          subst ek
          obtain ⟨fb, hfb⟩ : ∃ fb, fb = anyK Y Y.length x := ⟨_, rfl⟩
          rw [← hfb] at AS ⊢
          clear hfb
          cases ab with
          | true =>
            rw [Bool.true_and] at AS
            go_wp2_with fail
            go_roundw
            case rel => exact ⟨i + 1, by rw [AS.out], by go_num, by omega, hbr.out⟩
            case measure => simp [intOf]; omega
          | false =>
            rw [Bool.false_and] at AS
            go_wp2_with fail
            go_roundw
            case rel => exact ⟨i + 1, by rw [AS.out], by go_num, by omega, hbr.out⟩
            case measure => simp [intOf]; omega
    · have ei' : i = R.length := by omega
      subst ei'
      obtain ⟨ab, hab⟩ : ∃ ab, ab = allK R Y R.length := ⟨_, rfl⟩
      rw [← hab] at F3 ⊢
      clear hab
      have BR : Hid (Below w2.heap.size w2 wr) := B5.out.trans (hbr.out.mono B5.out.size)
      have OY : Hid (∀ (W : World), Below w2.heap.size w2 W → DrawS.Own W w'.heap.size (.slice (some ⟨g2, 0, none⟩) Y.length c2) Y) := fun W hW => O2.out.kept (row := none) ⟨hW.os, hW.tape, hW.output, hW.size, fun k hk _ => hW.block k hk⟩ (.inr (by simp [Value.ownBlock]))
      have OB : Hid (DrawS.Own (wr.alloc (.cells #[] 33)) wr.heap.size (.slice (some ⟨wr.heap.size, 0, none⟩) 0 0) []) := World.ownsRow_lit wr #[] 0 (Nat.le_refl _) (Nat.zero_le _) rfl
      have BA : Hid (Below w2.heap.size w2 (wr.alloc (.cells #[] 33))) := BR.out.alloc BR.out.size _
      go_wp2_with (first
        | (at_builtin; refine wpList_append_own _ rfl (.tmp 88) (.tmp 89) 25 rfl wr.heap.size 33 i0 (.agg #[.string ⟨#[]⟩, .int .i64 0, .int .i64 0]) 3 32 Try.underlying25 hi hz0 hz1 hz2 rfl (by decide) (.slice (some ⟨wr.heap.size, 0, none⟩) 0 0) 0 (DrawS.cellsOf []) rfl OB.out ⟨g2, 0, none⟩ Y.length c2 (DrawS.cellsOf Y) rfl (DrawS.cells_len Y) ?p1 ?p2 ?p3 ?p4 ?p5 ?_)
        | fail)
      case p1 =>
        intro j u hj
        rw [add_at]
        have hjl : j < Y.length * 3 := by
          have := (List.getElem?_eq_some_iff.1 hj).1
          rwa [DrawS.cells_len] at this
        exact ((OY.out _ BA.out).cellAt j hjl).trans hj
      case p2 => exact one_cells Y
      case p3 => unfold maxLen; omega
      case p4 => omega
      case p5 => simp
      intro v6 w6 o6 g6 nv6
      have B6 : Hid (Below w2.heap.size w2 w6) := BA.out.grown g6 BA.out.size (fun k hk => by
        have e : wr.heap.size = k := by simpa [Value.ownBlock] using hk
        have := BR.out.size
        omega)
      obtain ⟨x6, y6, rfl⟩ : ∃ a c, v6 = .slice a Y.length c := by
        rcases o6.2 with ⟨rfl, h0⟩ | ⟨g, c, cur, rfl, _⟩
        · exact ⟨none, 0, by rw [show Y.length = 0 by omega]⟩
        · exact ⟨_, _, rfl⟩
      have O6 : Hid (∀ o, (w6.alloc o).ownsRow wr.heap.size 33 3 (.slice x6 Y.length y6) Y.length (DrawS.cellsOf Y)) := fun o => by
        exact o6.alloc o
      have S6 : Hid (wr.heap.size ≤ w6.heap.size) := by have := g6.size; simp at this; show _ ≤ _; omega
      clear o6 g6 nv6 OB OY BA
      have LZ : (Y ++ [((⟨#[122, 122]⟩, 0, 9) : Sym)]).length = Y.length + 1 := by rw [List.length_append]; rfl
      rw [EZ1.out.1, EZ1.out.2, LZ] at ez
      have SZ : Hid (wr.heap.size ≤ w6.heap.size) := S6.out
      go_wp2_with (first
        | (at_builtin; refine wpList_append_own _ rfl (.tmp 90) (.tmp 92) 25 rfl wr.heap.size 33 i0 (.agg #[.string ⟨#[]⟩, .int .i64 0, .int .i64 0]) 3 32 Try.underlying25 hi hz0 hz1 hz2 rfl (by decide) (.slice x6 Y.length y6) Y.length (DrawS.cellsOf Y) rfl (O6.out _) ⟨w6.heap.size, 0, none⟩ 1 1 [.string ⟨#[122, 122]⟩, .int .i64 0, .int .i64 9] rfl rfl (DrawS.new3 _ _ _ _ _) (DrawS.one3 _ _ _) ?q3 ?q4 ?q5 ?_)
        | fail)
      case q3 => unfold maxLen; omega
      case q4 => omega
      case q5 => have := S6.out; simp; omega
      intro v7 w7 o7 g7 _
      have B7 : Hid (Below w2.heap.size w2 w7) := (B6.out.alloc B6.out.size _).grown g7 (B6.out.alloc B6.out.size _).size (fun k hk => by
        have := ((O6.out (.cells #[] 33)).lt k hk).1
        have := BR.out.size
        omega)
      have O7 : DrawS.Own w7 wr.heap.size v7 (Y ++ [(⟨#[122, 122]⟩, 0, 9)]) := by
        show World.ownsRow _ _ _ _ _ _ _
        rw [LZ, DrawS.cells_snoc]; exact o7
      obtain ⟨x7, y7, rfl⟩ := DrawS.slice_of o7
      have Y7 : Hid (Syms w7 (some ⟨x7, 0, none⟩) (Y ++ [(⟨#[122, 122]⟩, 0, 9)])) := DrawS.syms_own (n := Y.length + 1) O7 (fun y hy => by
        rcases List.mem_append.1 hy with h | h
        · exact ZY.out y h
        · rw [List.mem_singleton.1 h]; decide)
      clear o7 g7 O7 O6
      go_wp2_with fail
      refine (ez _ _ _ (Mirror.Nodes.below N2.out B7.out) Y7.out).mono ?_
      rintro e w8 ⟨rfl, b8⟩
      have B8 : Hid (Below w'.heap.size w' w8) := B2.out.trans ((B7.out.trans (b8.mono B7.out.size)).mono B2.out.size)
      clear b8 ez
      have l1 : decide (-2147483648 ≤ n) = true := decide_eq_true nlo
      have l2 : decide (n ≤ 2147483647) = true := decide_eq_true nhi
      by_cases k2 : c = 2
      · have ea : ab = false := F3.out.2 k2
        subst ea
        have m1 : (c != 2) = false := by simp [k2]
        have m2 : (c == 2) = true := by simp [k2]
        have m3 : (c != 0) = true := by simp [k2]
        have m4 : (c == 0) = false := by simp [k2]
        have K2 : Hid (c = 2) := k2
        clear k2
        go_wp2_with fail
        go_ret
        exact ⟨rfl, B8.out⟩
      have m1 : (c != 2) = true := by simp [k2]
      have m2 : (c == 2) = false := by simp [k2]
      by_cases k0 : c = 0
      · have ea : ab = true := F3.out.1 k0
        subst ea
        have m3 : (c != 0) = false := by simp [k0]
        have m4 : (c == 0) = true := by simp [k0]
        have K0 : Hid (c = 0) := k0
        clear k0
        go_wp2_with fail
        go_ret
        exact ⟨rfl, B8.out⟩
      · have m3 : (c != 0) = true := by simp [k0]
        have m4 : (c == 0) = false := by simp [k0]
        go_wp2_with fail
        go_ret
        exact ⟨rfl, B8.out⟩

set_option maxRecDepth 100000 in
theorem lifted (os : Os) (started : os.Started) (H : Type) (enc : TypeId × Value → H) :
    ReturnsInHanded {} Try.checked os 3 .any (Rows.fnEvalSpec.pre6 enc Try.prog Try.f3 Rows.fnEvalRow.domain false) (Rows.fnEvalSpec.post enc Try.prog Try.f3 false true false false) := by
  refine returnsInHanded_of_change (C := Try.checked) own started (by kernel_rfl) Try.func3
    (ChangeSpec.witness6 (enc := enc) (C := Try.checked) false ⟨#[], #[.slice none 0 0], []⟩ 8 (by kernel_rfl) (by kernel_rfl) (by kernel_rfl) (by kernel_rfl)) ?_
  intro W base args ds gs before hval0 hW hcnd _
  have hval : ∀ (j : Nat) t v, Try.f3.params[j]? = some t → args[j]? = some v → Value.okWide Try.prog W .any base t v := hval0
  have hW' := hW
  obtain ⟨p, q, hA0, hV, rfl, hfz, hnd⟩ := hW
  have hA : DataW.TrodAll enc Try.prog W 0 (fun _ => true) true Try.f3.params.toList args.toList ds p := hA0
  rw [Try.params3] at hA hval
  obtain ⟨v0, vs0, d0, ds0, p0, q0, hargs, rfl, rfl, h0, r0⟩ := trodAll_cons hA
  obtain ⟨rfl, rfl, rfl⟩ := trodAll_nil r0
  obtain rfl : args = #[v0] := by cases args; simp_all
  obtain ⟨rfl, rfl⟩ := trodVars_none hV
  obtain ⟨a0, len0, cap0, rfl⟩ := okWide_slice Try.underlying22 (hval 0 22 v0 rfl rfl)
  have k0 := h0
  have lt0 : ∀ x ∈ p0, x.block < W.heap.size := by obtain ⟨m, hm⟩ := k0; exact DataW.trod_lt m _ _ _ hm
  obtain ⟨z0, w0⟩ : ∃ zs, IsRow .u8 W a0 len0 cap0 zs := by
    obtain ⟨fuel, hf⟩ := h0
    rcases open_ints Try.underlying22 Try.underlying5 (by kernel_rfl) hf with ⟨hcs, _⟩ | ⟨x, l, c, zs, hcs, _, hl, hm, hz, _, hcell, hwz⟩
    · simp [Value.cells] at hcs
      obtain ⟨rfl, rfl, rfl⟩ := hcs
      exact ⟨[], .inl ⟨rfl, rfl, rfl, rfl⟩⟩
    · simp [Value.cells] at hcs
      obtain ⟨rfl, rfl, rfl⟩ := hcs
      exact ⟨zs, .inr ⟨_, rfl, hl, hm, by simpa using hz, hcell, hwz⟩⟩
  clear hA0 hval0
  refine (walk W a0 len0 cap0 z0 w0).mono fun e W' ⟨he, bel⟩ => ?_
  subst he
  exact ⟨_, rfl, _, _, _, [], _, [], hW', trodAll_mk1 (shut_bool Try.underlying4 _), (trodAll_cons_mk (Below.trod laidOut (by kernel_rfl) (of_decide_eq_true (by kernel_rfl)) k0 bel lt0) trodAll_mk0), rfl, bel.frame _, fun h => by cases h⟩

theorem over : Rows.fnEvalRow.holds Try.pinned (OpenSpec.ofChange Rows.fnEvalSpec) :=
  OpenClaim.holds_of_wide 3 Try.f3 rfl rfl rfl rfl rfl rfl rfl ⟨rfl, rfl, rfl, rfl, rfl⟩ rfl rfl rfl rfl rfl (by kernel_rfl) Try.func3 (by kernel_rfl)
    (of_decide_eq_true (by kernel_rfl)) (by unfold Func.isWrapper; first | (rw [if_pos (by decide +kernel)]; kernel_rfl) | (rw [if_neg (by decide +kernel)]; exact ⟨rfl, rfl⟩))
    (fun os started H enc _ => lifted os started H enc)
end Go.Proofs.Ytfgabgihdcokdaa.fnEval
namespace Go.Proofs.Ytfgabgihdcokdaa
theorem fnEval_holds : Rows.FnEvalSaid := fnEval.over
end Go.Proofs.Ytfgabgihdcokdaa
