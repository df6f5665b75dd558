/-
  Contracts of ours for both ReadExpr.
-/
import Derived.Test.YtfgabgihdcokdaaDoorWorr
import Derived.Laws.OwnMore
namespace Go.Proofs.YtfgabgihdcokdaaDoor.Wors
open Go.ChangeShapes Go.WideShapes Go.ChangeAt Go.RowKit Go.Deep
open Optx Extx Exts Nodi Worr Nodm
open Stepx (Nodes exprB)
set_option linter.unusedVariables false
set_option maxRecDepth 20000
theorem infoN : (Tryd.prog.info? 38).map (fun i => (i.zero, i.size, i.bytes)) = some (some (.agg #[.int .i64 0, .int .i64 0, .string ⟨#[]⟩]), 3, 32) := by kernel_rfl
def lst (o : Option (List Stepx.Node)) : List Stepx.Node := o.getD []
/-- What a call of ReadExpr leaves. -/
def Left (w w' : World) (e : Ending) (o : Option (List Stepx.Node)) : Prop :=
  ∃ ao cap, e = .returned (.tuple #[.slice ao (lst o).length cap, .bool o.isSome]) ∧ Nodm.Own w' w.heap.size (.slice ao (lst o).length cap) (lst o) ∧ (∀ x ∈ lst o, x.2.2.size ≤ 1048576) ∧ (lst o).length ≤ 801 ∧ Below w.heap.size w w'
theorem left_none {w w' : World} {o : Option (List Stepx.Node)} (h : o = none) (hb : Below w.heap.size w w') : Left w w' (.returned (.tuple #[.slice none 0 0, .bool false])) o := by
  subst h
  exact ⟨none, 0, rfl, World.ownsRow_nil _ _ _ _, (fun x hx => by cases hx), Nat.zero_le _, hb⟩
theorem left_some {w w' : World} {o : Option (List Stepx.Node)} {l : List Stepx.Node} {ao : Option Addr} {cap : Nat} (h : o = some l) (ho : Nodm.Own w' w.heap.size (.slice ao l.length cap) l) (hz : ∀ x ∈ l, x.2.2.size ≤ 1048576) (hl : l.length ≤ 801) (hb : Below w.heap.size w w') : Left w w' (.returned (.tuple #[.slice ao l.length cap, .bool true])) o := by
  subst h
  exact ⟨ao, cap, rfl, ho, hz, hl, hb⟩
def outI (s : ByteArray) : Option (List Stepx.Node) := if exprB ((W s).map nodeI) = true then some ((W s).map nodeI) else none
def outS (s : ByteArray) : Option (List Stepx.Node) := if s.size = 0 ∨ ¬ exprT (((W s).take 31).map nodeS) = s then none else some (((W s).take 31).map nodeS)
theorem eq_list {a b : ByteArray} : (a.toList == b.toList) = true ↔ a = b := by
  rw [ByteArray.toList_eq, ByteArray.toList_eq]
  constructor
  · intro h
    exact ByteArray.ext (Array.toList_inj.1 (eq_of_beq h))
  · rintro rfl; simp
theorem nodeI_sz (x : ByteArray) : (nodeI x).2.2.size ≤ x.size := by
  unfold nodeI
  split
  · exact Nat.zero_le _
  split
  · exact Nat.zero_le _
  split
  · show (x.extract 1 x.size).size ≤ _; rw [ByteArray.size_extract]; omega
  · exact Nat.le_refl _
theorem nodeS_sz (x : ByteArray) : (nodeS x).2.2.size ≤ x.size := by
  unfold nodeS
  split
  · exact Nat.zero_le _
  split
  · exact Nat.zero_le _
  split
  · show (x.extract 1 x.size).size ≤ _; rw [ByteArray.size_extract]; omega
  · exact Nat.le_refl _
theorem W_le : ∀ (n : Nat) (s : ByteArray), s.size ≤ n → ∀ x ∈ W s, x.size ≤ s.size
  | 0, s, hn, x, hx => by
    cases hf : F s with
    | false => rw [W_no hf, List.mem_singleton] at hx; rw [hx]; exact A_le s
    | true => have := B_lt hf; omega
  | n + 1, s, hn, x, hx => by
    cases hf : F s with
    | false => rw [W_no hf, List.mem_singleton] at hx; rw [hx]; exact A_le s
    | true =>
      have hb := B_lt hf
      rw [W_on hf, List.mem_cons] at hx
      rcases hx with rfl | hx
      · exact A_le s
      · have := W_le n (B s) (by omega) x hx
        omega
theorem stepW {Ws rest : List ByteArray} {k : Nat} {x : ByteArray} (h : Ws.drop k = x :: rest) : Ws.take (k + 1) = Ws.take k ++ [x] ∧ Ws.drop (k + 1) = rest := by
  have h0 : Ws[k]? = some x := by
    have : (Ws.drop k)[0]? = some x := by rw [h]; rfl
    rwa [List.getElem?_drop, Nat.add_zero] at this
  refine ⟨?_, ?_⟩
  · rw [List.take_add_one, h0]; rfl
  · rw [← List.tail_drop, h]; rfl
/-- Where the specification's loop stands: nodes so far, what is left, whether there is more. -/
def At (s : ByteArray) (l : List Stepx.Node) (r : ByteArray) (f : Bool) : Prop := l = ((W s).take l.length).map nodeS ∧ (f = true → (W s).drop l.length = W r) ∧ (f = false → (W s).length ≤ l.length)
theorem At.start (s : ByteArray) : At s [] s true := ⟨rfl, fun _ => rfl, fun h => by cases h⟩
theorem At.step {s r : ByteArray} {l : List Stepx.Node} (h : At s l r true) : At s (l ++ [nodeS (A r)]) (B r) (F r) := by
  obtain ⟨h1, h2, _⟩ := h
  have h2 := h2 rfl
  have hx : ∃ rest, W r = A r :: rest ∧ (F r = true → rest = W (B r)) ∧ (F r = false → rest = []) := by
    cases hf : F r with
    | true => exact ⟨_, W_on hf, fun _ => rfl, fun h => by cases h⟩
    | false => exact ⟨_, W_no hf, (fun h => by cases h), fun _ => rfl⟩
  obtain ⟨rest, hw, ht, hf⟩ := hx
  rw [hw] at h2
  obtain ⟨t1, t2⟩ := stepW h2
  unfold At
  rw [List.length_append, List.length_singleton]
  refine ⟨?_, fun h => by rw [t2, ht h], fun h => ?_⟩
  · rw [t1, List.map_append, ← h1]; rfl
  · rw [hf h] at t2
    have := congrArg List.length t2
    rw [List.length_drop, List.length_nil] at this
    omega
theorem At.fin {s r : ByteArray} {l : List Stepx.Node} {f : Bool} (h : At s l r f) (h31 : l.length ≤ 31) (he : f = false ∨ 31 ≤ l.length) : l = ((W s).take 31).map nodeS := by
  obtain ⟨h1, _, h3⟩ := h
  rcases he with he | he
  · have hl := h3 he
    have e : (W s).take 31 = (W s).take l.length := by rw [List.take_of_length_le hl, List.take_of_length_le (by omega)]
    rw [e]; exact h1
  · have e : l.length = 31 := by omega
    rw [e] at h1; exact h1
def slen : Value → Nat
  | .slice _ n _ => n
  | _ => 0
theorem drewN_refl (w : World) : ∀ k : Nat, Below w.heap.size w (w.drewN k)
  | 0 => Below.refl _ _
  | k + 1 => (drewN_refl w k).drew
set_option maxHeartbeats 2000000 in
theorem specRead_any (s : ByteArray) (w : World) (hs : s.size ≤ 1048576) :
    Calls Tryd.prog 15 #[.string s] w fun e w' => Left w w' e (outS s) := by
  obtain ⟨i0, hi, hz0, hz1, hz2⟩ := info_parts infoN
  have OW0 : Hid (Nodm.Own (w.alloc (.cells #[] 38)) w.heap.size (.slice (some ⟨w.heap.size, 0, none⟩) 0 0) []) := World.ownsRow_lit w #[] 0 (Nat.le_refl _) (Nat.zero_le _) rfl
  go_enter Tryd.func15, Tryd.ntmps15
  go_wp2_with fail
  go_loopw [4, 5, 6] (fun x y z wr => ∃ (l : List Stepx.Node) (r : ByteArray) (f : Bool) (ao : Option Addr) (cap : Nat), r.size ≤ s.size ∧ l.length ≤ 31 ∧ x = .slice ao l.length cap ∧ y = .string r ∧ z = .bool f ∧ Hid (Nodm.Own wr w.heap.size (.slice ao l.length cap) l) ∧ Hid (∀ x ∈ l, x.2.2.size ≤ 1048576) ∧ Hid (At s l r f) ∧ Hid (Below w.heap.size w wr)) (fun x _ _ _ => 31 - slen x)
  case atStart => exact ⟨[], s, true, _, 0, Nat.le_refl _, Nat.zero_le _, rfl, rfl, rfl, OW0.out, (fun x hx => by cases hx), At.start s, (Below.refl _ _).alloc (Nat.le_refl _) _⟩
  case round =>
    clear OW0
    obtain ⟨l, r, f, ao, cap, hr, hl, rfl, rfl, rfl, hown, hsm, hAt, hbel⟩ := hrel
    cases f with
    | false =>
      have EL : l = ((W s).take 31).map nodeS := hAt.out.fin hl (.inl rfl)
      have ct := fun w hN => specText_any ao cap l w hN (by omega)
      obtain ⟨R, hR⟩ : ∃ R, R = exprT l := ⟨_, rfl⟩
      have OUT : Hid ((¬ s.size = 0 ∧ R = s → outS s = some l) ∧ (s.size = 0 ∨ ¬ R = s → outS s = none)) := by
        refine ⟨fun h => ?_, fun h => ?_⟩
        · unfold outS
          rw [← EL, ← hR, if_neg (fun h' => h'.elim h.1 (fun h2 => h2 h.2))]
        · unfold outS
          rw [← EL, ← hR, if_pos h]
      rw [← hR] at ct
      clear hR EL
      by_cases hz : s.size = 0
      · have e0 : s.toList.isEmpty = true := Nums.empty_yes hz
        have hf := left_none (w := w) (o := outS s) (OUT.out.2 (.inl hz)) hbel.out
        have HF : Hid _ := hf
        clear hf ct hown hsm hAt OUT
        go_wp2_with fail
        go_ret2
        exact HF.out
      · have e0 : s.toList.isEmpty = false := Nums.empty_no hz
        by_cases hq : R = s
        · have _hk := 0
          have q1 : (R.toList == s.toList) = true := eq_list.2 hq
          have q2 : (R.toList != s.toList) = false := by rw [bne, q1]; rfl
          have HO2 : Hid (outS s = some l) := OUT.out.1 ⟨hz, hq⟩
          clear hq hAt OUT
          go_wp2_with (go_at_call 10; refine (ct _ (nodes_own hown.out hsm.out)).mono ?_; rintro e w1 ⟨rfl, b1⟩; have B1 : Hid (Below w.heap.size w w1 ∧ Nodm.Own w1 w.heap.size (.slice ao l.length cap) l) := ⟨hbel.out.trans (b1.mono hbel.out.size), Nodm.own_below hown.out b1⟩; clear b1)
          go_ret2
          exact left_some (ao := ao) (cap := cap) HO2.out B1.out.2 hsm.out (by omega) B1.out.1
        · have _hk := 0
          have q1 : (R.toList == s.toList) = false := by
            cases hb : (R.toList == s.toList)
            · rfl
            · exact absurd (eq_list.1 hb) hq
          have q2 : (R.toList != s.toList) = true := by rw [bne, q1]; rfl
          have HO2 : Hid (outS s = none) := OUT.out.2 (.inr hq)
          clear hq hAt OUT
          go_wp2_with (go_at_call 10; refine (ct _ (nodes_own hown.out hsm.out)).mono ?_; rintro e w1 ⟨rfl, b1⟩; have B1 : Hid (Below w.heap.size w w1 ∧ Nodm.Own w1 w.heap.size (.slice ao l.length cap) l) := ⟨hbel.out.trans (b1.mono hbel.out.size), Nodm.own_below hown.out b1⟩; clear b1)
          go_ret2
          exact left_none HO2.out B1.out.1
    | true =>
      by_cases h30 : 30 < l.length
      · have _hk := 0
        have EL : l = ((W s).take 31).map nodeS := hAt.out.fin hl (.inr (by omega))
        have ct := fun w hN => specText_any ao cap l w hN (by omega)
        obtain ⟨R, hR⟩ : ∃ R, R = exprT l := ⟨_, rfl⟩
        have OUT : Hid ((¬ s.size = 0 ∧ R = s → outS s = some l) ∧ (s.size = 0 ∨ ¬ R = s → outS s = none)) := by
          refine ⟨fun h => ?_, fun h => ?_⟩
          · unfold outS
            rw [← EL, ← hR, if_neg (fun h' => h'.elim h.1 (fun h2 => h2 h.2))]
          · unfold outS
            rw [← EL, ← hR, if_pos h]
        rw [← hR] at ct
        clear hR EL
        by_cases hz : s.size = 0
        · have e0 : s.toList.isEmpty = true := Nums.empty_yes hz
          have hf := left_none (w := w) (o := outS s) (OUT.out.2 (.inl hz)) hbel.out
          have HF : Hid _ := hf
          clear hf ct hown hsm hAt OUT
          go_wp2_with fail
          go_ret2
          exact HF.out
        · have e0 : s.toList.isEmpty = false := Nums.empty_no hz
          by_cases hq : R = s
          · have _hk := 0
            have q1 : (R.toList == s.toList) = true := eq_list.2 hq
            have q2 : (R.toList != s.toList) = false := by rw [bne, q1]; rfl
            have HO2 : Hid (outS s = some l) := OUT.out.1 ⟨hz, hq⟩
            clear hq hAt OUT
            go_wp2_with (go_at_call 10; refine (ct _ (nodes_own hown.out hsm.out)).mono ?_; rintro e w1 ⟨rfl, b1⟩; have B1 : Hid (Below w.heap.size w w1 ∧ Nodm.Own w1 w.heap.size (.slice ao l.length cap) l) := ⟨hbel.out.trans (b1.mono hbel.out.size), Nodm.own_below hown.out b1⟩; clear b1)
            go_ret2
            exact left_some (ao := ao) (cap := cap) HO2.out B1.out.2 hsm.out (by omega) B1.out.1
          · have _hk := 0
            have q1 : (R.toList == s.toList) = false := by
              cases hb : (R.toList == s.toList)
              · rfl
              · exact absurd (eq_list.1 hb) hq
            have q2 : (R.toList != s.toList) = true := by rw [bne, q1]; rfl
            have HO2 : Hid (outS s = none) := OUT.out.2 (.inr hq)
            clear hq hAt OUT
            go_wp2_with (go_at_call 10; refine (ct _ (nodes_own hown.out hsm.out)).mono ?_; rintro e w1 ⟨rfl, b1⟩; have B1 : Hid (Below w.heap.size w w1 ∧ Nodm.Own w1 w.heap.size (.slice ao l.length cap) l) := ⟨hbel.out.trans (b1.mono hbel.out.size), Nodm.own_below hown.out b1⟩; clear b1)
            go_ret2
            exact left_none HO2.out B1.out.1
      · have cc := l1Cut_any r wr (by omega)
        have za := A_le r
        have zb := B_le r
        have HS : Hid (At s (l ++ [nodeS (A r)]) (B r) (F r)) := hAt.out.step
        have cn := fun W => Nodj.l2Word_any (A r) W (by omega)
        have zn := nodeS_sz (A r)
        clear hAt
        generalize nodeS (A r) = N at *
        generalize A r = X at *
        generalize B r = Y at *
        generalize F r = ff at *
        obtain ⟨nk, nn, ns⟩ := N
        unfold nodeV at cn
        dsimp only at cn zn
        obtain ⟨len, hlen⟩ : ∃ len, len = l.length := ⟨_, rfl⟩
        have HL : Hid (len = l.length) := hlen
        rw [← hlen] at hl h30 hown ⊢
        clear hlen
        have own1 : Hid (∀ W o, Below wr.heap.size wr W → (W.alloc o).ownsRow w.heap.size 38 3 (.slice ao len cap) len (cellsOf l)) := fun W o hb => by
          have h := hown.out
          rw [HL.out] at h ⊢
          exact (Nodm.own_below h hb).alloc o
        go_wp2_with (first | (go_at_call 35; refine cc.mono ?_; rintro e w1 ⟨rfl, n1, rfl⟩) | (go_at_call 36; refine (cn _).mono ?_; rintro e w2 ⟨rfl, b2⟩; have B2 : Hid (Below wr.heap.size wr w2) := (drewN_refl wr n1).trans (b2.mono (drewN_refl wr n1).size); clear b2) | (at_builtin; refine wpList_append_own _ rfl _ _ 24 rfl w.heap.size 38 i0 (.agg #[.int .i64 0, .int .i64 0, .string ⟨#[]⟩]) 3 32 Tryd.underlying24 hi hz0 hz1 hz2 rfl (by decide) (.slice ao len cap) len (cellsOf l) rfl (own1.out _ _ B2.out) ⟨w2.heap.size, 0, none⟩ 1 1 [.int .i64 nk, .int .i64 nn, .string ns] rfl rfl ?c1 ?c2 ?c3 ?c4 ?c5 ?_) | fail)
        case c1 =>
          intro j u hj
          match j, hj with
          | 0, hj => simp at hj; subst hj; show World.cell? _ ⟨w2.heap.size, 0, none⟩ = _; rw [World.cell?_alloc_new]; rfl
          | 1, hj => simp at hj; subst hj; show World.cell? _ ⟨w2.heap.size, 1, none⟩ = _; rw [World.cell?_alloc_new]; rfl
          | 2, hj => simp at hj; subst hj; show World.cell? _ ⟨w2.heap.size, 2, none⟩ = _; rw [World.cell?_alloc_new]; rfl
        case c2 => intro u hu; simp at hu; rcases hu with rfl | rfl | rfl <;> rfl
        case c3 => unfold maxLen; omega
        case c4 => omega
        case c5 => simp; have := hbel.out.size; have := B2.out.size; omega
        intro v' w3 hown' hgrow _
        have e1 : (l ++ [(nk, nn, ns)]).length = len + 1 := by rw [List.length_append, ← HL.out]; rfl
        have OW : Hid (Nodm.Own w3 w.heap.size v' (l ++ [(nk, nn, ns)])) := by
          show World.ownsRow _ _ _ _ _ _ _
          rw [e1, cells_snoc]; exact hown'
        have BB : Below w.heap.size w w2 := hbel.out.trans (B2.out.mono hbel.out.size)
        have BW : Hid (Below w.heap.size w w3) := (BB.alloc BB.size _).grown hgrow (by have := BB.size; simp; omega) (fun k hk => ((own1.out w2 (.cells #[] 0) B2.out).lt k hk).1)
        have SM : Hid (∀ x ∈ l ++ [(nk, nn, ns)], x.2.2.size ≤ 1048576) := fun x hx => by
          rcases List.mem_append.1 hx with hx | hx
          · exact hsm.out x hx
          · rw [List.mem_singleton.1 hx]
            show ns.size ≤ _
            omega
        have E1 : Hid ((l ++ [(nk, nn, ns)]).length = len + 1) := e1
        obtain ⟨ao', cap', rfl⟩ : ∃ ao' cap', v' = .slice ao' (len + 1) cap' := by
          rcases hown'.2 with ⟨_, h⟩ | ⟨g, c, cur, hv, _⟩
          · omega
          · exact ⟨_, _, hv⟩
        clear hown' hgrow own1 hown hbel hsm cn cc e1 BB
        go_wp2_with fail
        go_roundw
        case rel => exact ⟨l ++ [(nk, nn, ns)], Y, ff, ao', cap', by omega, by rw [E1.out]; omega, by rw [E1.out], rfl, rfl, by rw [E1.out]; exact OW.out, SM.out, HS.out, BW.out⟩
        case measure => show 31 - (len + 1) < 31 - len; omega
end Go.Proofs.YtfgabgihdcokdaaDoor.Wors
