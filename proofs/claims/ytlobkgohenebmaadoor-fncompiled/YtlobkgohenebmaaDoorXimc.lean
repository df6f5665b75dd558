/-
  Contracts of ours for the program's reader of expressions (impl.exprParser): put, name, opAt.
-/
import Derived.Test.YtlobkgohenebmaaDoorXimb
import Derived.Test.YtlobkgohenebmaaDoorQtail
import Derived.Maps.AppendAt
namespace Go.Proofs.YtlobkgohenebmaaDoor.Ximc
open Go.ChangeShapes Go.WideShapes Go.ChangeAt Go.RowKit Go.Deep
open Nodm (cellsOf cells_snoc Own)
open Prsp Xima Ximb
set_option linter.unusedVariables false
set_option maxRecDepth 20000

theorem PI.out2 {w w3 : World} {pb k : Nat} {s : ByteArray} {a : Option Addr} {cap : Nat} {L : List Stepx.Node} {v' : Value} {x : Stepx.Node} {o1 o2 : Obj}
    (c0 : w.cell? ⟨pb, 0, none⟩ = some (.string s)) (c1 : w.cell? ⟨pb, 1, none⟩ = some (.int .i64 k)) (c2 : w.cell? ⟨pb, 2, none⟩ = some (.slice a L.length cap))
    (cf : ∀ i, w.frozen? ⟨pb, i, none⟩ = false) (hk : k ≤ s.size) (hs : s.size ≤ 200) (hl : L.length < 30) (ho : Own w (pb + 1) (.slice a L.length cap) L)
    (hown : w3.ownsRow (pb + 1) 36 3 v' (L.length + 1) (cellsOf L ++ [.int .i64 x.1, .int .i64 x.2.1, .string x.2.2])) (hgr : (((w.alloc o1).alloc o2).drew).grownBy w3 (Value.slice a L.length cap).ownBlock) (hat : v'.ownBlock = (Value.slice a L.length cap).ownBlock ∨ v'.ownBlock = some (((w.alloc o1).alloc o2).drew).heap.size) :
    PI (w3.setCell ⟨pb, 2, none⟩ v') pb s k (L ++ [x]) ∧ BK pb w (w3.setCell ⟨pb, 2, none⟩ v') ∧ (∀ i, w3.cell? ⟨pb, i, none⟩ = w.cell? ⟨pb, i, none⟩) ∧ w3.frozen? ⟨pb, 2, none⟩ = false := by
  have hlt : pb < w.heap.size := World.block_lt_of_cell? w ⟨pb, 0, none⟩ c0
  obtain ⟨W, hW⟩ : ∃ W, W = (w.alloc o1).drew := ⟨_, rfl⟩
  have hb : Below w.heap.size w W := by rw [hW]; exact ((Below.refl _ _).alloc (Nat.le_refl _) _).drew
  have e : ∀ i, W.cell? ⟨pb, i, none⟩ = w.cell? ⟨pb, i, none⟩ := fun i => hb.cell (p := ⟨pb, i, none⟩) hlt
  have hg2 : (W.alloc o2).grownBy w3 (Value.slice a L.length cap).ownBlock := by rw [hW]; exact hgr
  obtain ⟨h1, h2, h3, h4⟩ := Xima.PI.out_ (w := W) (x := x) (o := o2) ((e 0).trans c0) ((e 1).trans c1) ((e 2).trans c2) (fun i => (World.frozen?_of_block (a := ⟨pb, i, none⟩) (hb.block pb hlt)).trans (cf i)) hk hs hl (Nodm.own_below ho hb) hown hg2 (by rw [hW]; exact hat)
  exact ⟨h1, (BK.of hlt hb).trans h2, fun i => (h3 i).trans (e i), h4⟩
theorem new3 (W : World) (a b c : Value) (t : TypeId) : ∀ j u, ([a, b, c] : List Value)[j]? = some u → (W.alloc (.cells #[a, b, c] t)).drew.cell? ((⟨W.heap.size, 0, none⟩ : Addr).add j) = some u := fun j u hu => by
  match j, hu with
  | 0, hu => cases hu; rw [Addr.add_lit]; show World.cell? (W.alloc _) ⟨W.heap.size, 0, none⟩ = _; rw [World.cell?_alloc_new]; rfl
  | 1, hu => cases hu; rw [Addr.add_lit]; show World.cell? (W.alloc _) ⟨W.heap.size, 1, none⟩ = _; rw [World.cell?_alloc_new]; rfl
  | 2, hu => cases hu; rw [Addr.add_lit]; show World.cell? (W.alloc _) ⟨W.heap.size, 2, none⟩ = _; rw [World.cell?_alloc_new]; rfl
  | j + 3, hu => simp at hu
theorem step_append_own {P : Program} {ops : Array Oper} {o : Oper} {a : Act} {w : World} {K : Act → World → Prop} {Q : Exit → Act → World → Prop} {E : Prop} (hg : o.guard = none) (s x : Operand) (t : TypeId)
    (ho : o.op = .call { callee := .builtin .append, args := #[s, x], argTypes := #[t, t] })
    (base : Nat) (e : TypeId) (i : TypeInfo) (z : Value) (size bytes : Nat) (ht : P.underlying t = some (.slice e)) (hi : P.info? e = some i) (hz : i.zero = some z)
    (hsize : i.size = size) (hby : i.bytes = bytes) (hzs : z.cells.size = size) (hsz : 0 < size)
    (v : Value) (n : Nat) (xs : List Value) (hs : a.eval s = v) (hown : w.ownsRow base e size v n xs)
    (ad : Addr) (m c : Nat) (news : List Value) (hx : a.eval x = .slice (some ad) m c) (hl : news.length = m * size) (hnews : ∀ j u, news[j]? = some u → w.cell? (ad.add j) = some u) (h1 : ∀ u ∈ news, u.oneCell' = true)
    (h63 : n + m ≤ maxLen) (hbytes : (n + m) * bytes ≤ 140737488355328) (hbase : base ≤ w.heap.size)
    (h : ∀ v' w', w'.ownsRow base e size v' (n + m) (xs ++ news) → w.grownBy w' v.ownBlock → (v' = .slice none 0 0 ↔ v = .slice none 0 0 ∧ m = 0) → (v'.ownBlock = v.ownBlock ∨ v'.ownBlock = some w.heap.size) → K (a.put o.dst v') w') :
    if Region.wanted o (yielded ops a.tmps) = true then Oper.wp P o a w K Q else E := by
  have hw : Region.wanted o (yielded ops a.tmps) = true := by simp [Region.wanted, hg]
  rw [if_pos hw]
  obtain ⟨v', w', hr, h2, h3, h4, h5⟩ := run_append_own_at (P := P) w base t o.type e i z size bytes ht hi hz hsize hby hzs hsz v n xs hown ad m c news hl hnews h1 h63 hbytes hbase
  unfold Oper.wp execOp
  simp only [ho, resolve, invoke, builtin, Sem.run_bind, Sem.run_pure, Result.andThen_ok, List.map_toArray, List.map_cons, List.map_nil, hs, hx, hr]
  exact h v' w' h2 h3 h4 h5

set_option maxHeartbeats 4000000 in
theorem put_any (pb k : Nat) (s : ByteArray) (L : List Stepx.Node) (w : World) (h : PI w pb s k L) (kd n : Int) (t : ByteArray) :
    Calls Tryd.prog 40 #[.pointer (some ⟨pb, 0, none⟩), .agg #[.int .i64 kd, .int .i64 n, .string t]] w (RI pb s k (put (kd, n, t) (s.data.toList.drop k, L)) w) := by
  have H : Hid (PI w pb s k L) := h
  have hlt := h.lt
  obtain ⟨a, cap, c0, c1, c2, cf, hk, hs, hl30, ho⟩ := h
  have g2 : ∀ o, (w.alloc o).cell? ⟨pb, 2, none⟩ = some (.slice a L.length cap) := fun o => (((Below.refl w.heap.size w).alloc (Nat.le_refl _) o).cell (p := ⟨pb, 2, none⟩) hlt).trans c2
  by_cases h30 : L.length < 30
  · obtain ⟨i0, hi, hz0, hz1, hz2⟩ := info_parts infoN
    have hR : put (kd, n, t) (s.data.toList.drop k, L) = some (s.data.toList.drop k, L ++ [(kd, n, t)]) := by unfold Prsp.put; rw [if_pos h30]
    rw [hR]
    clear hR
    have FIN : Hid (∀ (w3 : World) (v' : Value) (o1 o2 : Obj), (v'.ownBlock = (Value.slice a L.length cap).ownBlock ∨ v'.ownBlock = some (((w.alloc o1).alloc o2).drew).heap.size) → w3.ownsRow (pb + 1) 36 3 v' (L.length + 1) (cellsOf L ++ [.int .i64 kd, .int .i64 n, .string t]) → (((w.alloc o1).alloc o2).drew).grownBy w3 (Value.slice a L.length cap).ownBlock → PI (w3.setCell ⟨pb, 2, none⟩ v') pb s k (L ++ [(kd, n, t)]) ∧ BK pb w (w3.setCell ⟨pb, 2, none⟩ v') ∧ (∀ i, w3.cell? ⟨pb, i, none⟩ = w.cell? ⟨pb, i, none⟩) ∧ w3.frozen? ⟨pb, 2, none⟩ = false) := fun w3 v' o1 o2 hat hw hgr => PI.out2 (x := (kd, n, t)) (o1 := o1) (o2 := o2) c0 c1 c2 cf hk hs h30 ho hw hgr hat
    have OWN : Hid (∀ o1 o2, (((w.alloc o1).alloc o2).drew).ownsRow (pb + 1) 36 3 (.slice a L.length cap) L.length (cellsOf L)) := fun o1 o2 => Nodm.own_below ho ((((Below.refl w.heap.size w).alloc (Nat.le_refl _) o1).alloc (by simp) o2).drew)
    have C2 : Hid (w.cell? ⟨pb, 2, none⟩ = some (.slice a L.length cap)) := c2
    have ne : ((L.length : Int) == 30) = false := by simp; omega
    have ne2 : decide ((L.length : Int) = 30) = false := by simp; omega
    have hl63 : L.length + 1 ≤ maxLen := by unfold maxLen; omega
    generalize L.length = len at *
    clear ho c0 c1 c2 cf
    go_enter Tryd.func40, Tryd.ntmps40
    go_wp2_with fail
    go_region_law (first
      | (refine step_append_own rfl (.tmp 15) (.tmp 17) 27 rfl (pb + 1) 36 i0 (.agg #[.int .i64 0, .int .i64 0, .string ⟨#[]⟩]) 3 32 Tryd.underlying27 hi hz0 hz1 hz2 rfl (by decide) (.slice a len cap) len (cellsOf L) rfl (OWN.out _ _) ⟨w.heap.size + 1, 0, none⟩ 1 1 [.int .i64 kd, .int .i64 n, .string t] rfl rfl ?c1 (by intro u hu; simp at hu; rcases hu with rfl | rfl | rfl <;> rfl) hl63 (by omega) (by simp; omega) ?_
         (case c1 => exact (by have := new3 (w.alloc (.cells #[.int .i64 kd, .int .i64 n, .string t] 36)) (.int .i64 kd) (.int .i64 n) (.string t) 36; simpa using this))
         intro v' w3 hown' hgrow _ hat
         obtain ⟨a', cap', rfl⟩ : ∃ a' cap', v' = .slice a' (len + 1) cap' := (by
           rcases hown'.2 with ⟨rfl, h0⟩ | ⟨g, c, cur, rfl, _⟩
           · omega
           · exact ⟨_, _, rfl⟩)
         obtain ⟨p3, b3, dd, f2⟩ := FIN.out w3 _ _ _ hat hown' hgrow
         have d2 := (dd 2).trans C2.out
         clear dd
         have P3 : Hid (PI (w3.setCell ⟨pb, 2, none⟩ (.slice a' (len + 1) cap')) pb s k (L ++ [(kd, n, t)]) ∧ BK pb w (w3.setCell ⟨pb, 2, none⟩ (.slice a' (len + 1) cap'))) := ⟨p3, b3⟩
         clear p3 b3 hown' hgrow hat)
      | fail)
    all_goals go_wp2
    all_goals first | go_end0 | refine bodyPost_ret (results_none rfl _ _ _) rfl ?_
    all_goals exact RI.some (Nat.le_refl k) P3.out.1 P3.out.2
  · have hR : put (kd, n, t) (s.data.toList.drop k, L) = none := by unfold Prsp.put; rw [if_neg h30]
    rw [hR]
    have e30 : L.length = 30 := by omega
    have b0 : ∀ o, Below pb w (w.alloc o) := fun o => (Below.refl pb w).alloc (Nat.le_of_lt hlt) o
    have B0 : Hid (∀ o, Below pb w (w.alloc o)) := b0
    rw [e30] at c2 g2
    clear ho c0 c1 cf hR b0 H
    go_enter Tryd.func40, Tryd.ntmps40
    go_wp2
    exact ⟨rfl, RI.pan (B0.out _)⟩

set_option maxHeartbeats 1000000 in
theorem name_any (pb k : Nat) (s : ByteArray) (L : List Stepx.Node) (w : World) (h : PI w pb s k L) (kd : Int) (t : ByteArray) (ht : t.size ≤ 1000) :
    Calls Tryd.prog 64 #[.pointer (some ⟨pb, 0, none⟩), .int .i64 kd, .string t] w (RI pb s k (if Names.nameB t = true then put (kd, 0, t) (s.data.toList.drop k, L) else none) w) := by
  have H : Hid (PI w pb s k L) := h
  have cn := fun W => Names.implName_any t W (by unfold maxLen; omega)
  clear h
  cases hn : Names.nameB t with
  | true =>
    rw [hn] at cn
    rw [if_pos rfl]
    clear hn
    go_enter Tryd.func64, Tryd.ntmps64
    go_wp2_with fail
    refine (cn _).mono ?_
    rintro e w1 ⟨rfl, hw⟩
    have hw := hw.symm
    subst hw
    go_wp2_with fail
    refine (put_any pb k s L _ H.out kd 0 t).mono ?_
    intro e w1 hr
    cases hp : put (kd, 0, t) (s.data.toList.drop k, L) with
    | none =>
      rw [hp] at hr
      obtain ⟨⟨u, pv, rfl⟩, hb⟩ := hr
      exact ⟨rfl, RI.pan hb⟩
    | some st =>
      rw [hp] at hr
      obtain ⟨rfl, hj, hb⟩ := hr
      have HJ : Hid (RI pb s k (put (kd, 0, t) (s.data.toList.drop k, L)) w (.returned (.tuple #[])) w1) := (show RI _ _ _ _ _ _ _ from by rw [hp]; exact ⟨rfl, hj, hb⟩)
      clear hj hb hp
      go_wp2_with fail
      first | go_end0 | refine bodyPost_ret (results_none rfl _ _ _) rfl ?_
      exact HJ.out
  | false =>
    rw [hn] at cn
    rw [if_neg (by decide)]
    clear hn H
    go_enter Tryd.func64, Tryd.ntmps64
    go_wp2_with fail
    refine (cn _).mono ?_
    rintro e w1 ⟨rfl, hw⟩
    have hw := hw.symm
    subst hw
    go_wp2
    exact ⟨rfl, RI.pan (Below.refl _ _)⟩
end Go.Proofs.YtlobkgohenebmaaDoor.Ximc
