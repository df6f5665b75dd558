/-
  Contracts of ours for the specification's reader of expressions: level; spec.Compiled: what it leaves is a right expression, whose names stand in the text.
-/
import Derived.Test.YtfgabgihdcokdaaCmpc
namespace Go.Proofs.Ytfgabgihdcokdaa.Cmpd
open Go.ChangeShapes Go.WideShapes Go.ChangeAt Go.RowKit Go.Deep
open Cmpa Cmpb Cmpc
set_option linter.unusedVariables false
set_option maxRecDepth 20000

set_option maxHeartbeats 4000000 in
theorem level_deep (pb k : Nat) (s : ByteArray) (bad : Bool) (least : Int) (w : World) (h : PS w pb s k bad) :
    Calls Try.prog 41 #[.pointer (some ⟨pb, 0, none⟩), .int .i64 least, .int .i64 31] w (Q pb s k w) := by
  go_enter Try.func41, Try.ntmps41
  go_wp2_with fail
  refine (value_deep pb k s bad _ h).mono ?_
  clear h
  rintro e w1 ⟨rfl, p1, b1⟩
  have P1 : Hid (PS w1 pb s k true ∧ Below pb w w1) := ⟨p1, b1⟩
  have c3 := PS.c3 p1
  clear p1 b1
  go_wp2_with fail
  go_loopw [] (fun wr => Hid (PS wr pb s k true ∧ Below pb w wr)) (fun wr => 0)
  case atStart => exact P1
  case round =>
    clear c3
    have c3 := PS.c3 hrel.out.1
    go_wp2_with fail
    first | go_end0 | refine bodyPost_ret (results_none rfl _ _ _) rfl ?_
    exact Q.of (Nat.le_refl _) hrel.out.1 hrel.out.2

set_option maxHeartbeats 4000000 in
theorem level_step (pb k deep : Nat) (s : ByteArray) (bad : Bool) (least : Int) (w : World) (h : PS w pb s k bad) (hd1 : 1 ≤ deep) (hd : deep ≤ 30) (hle0 : 1 ≤ least) (hle : least ≤ 7)
    (hv : ∀ k bad w, PS w pb s k bad → Calls Try.prog 61 #[.pointer (some ⟨pb, 0, none⟩), .int .i64 (deep : Int)] w (Q pb s k w))
    (hl : ∀ k bad w (least : Int), 1 ≤ least → least ≤ 7 → PS w pb s k bad → Calls Try.prog 41 #[.pointer (some ⟨pb, 0, none⟩), .int .i64 least, .int .i64 ((deep : Int) + 1)] w (Q pb s k w)) :
    Calls Try.prog 41 #[.pointer (some ⟨pb, 0, none⟩), .int .i64 least, .int .i64 (deep : Int)] w (Q pb s k w) := by
  have hs := h.sz.2
  go_enter Try.func41, Try.ntmps41
  go_wp2_with fail
  refine (hv k bad _ h).mono ?_
  clear h hv
  rintro e w1 ⟨rfl, ⟨k1, b1, q1, p1⟩, be1⟩
  have P1 : Hid (PS w1 pb s k1 b1 ∧ Below pb w w1) := ⟨p1, be1⟩
  have c3 := PS.c3 p1
  clear p1 be1
  go_wp2_with fail
  go_loopw [] (fun wr => ∃ k2 b2, k ≤ k2 ∧ Hid (PS wr pb s k2 b2 ∧ Below pb w wr)) (fun wr => s.size - Cmpa.atOf wr pb)
  case atStart => exact ⟨k1, b1, q1, P1⟩
  case round =>
    obtain ⟨k2, b2, q2, P2⟩ := hrel
    clear c3 P1
    have c3 := PS.c3 P2.out.1
    have hat := P2.out.1.atOf
    cases b2 with
    | true =>
      go_wp2_with fail
      first | go_end0 | refine bodyPost_ret (results_none rfl _ _ _) rfl ?_
      exact Q.of q2 P2.out.1 P2.out.2
    | false =>
      go_wp2_with fail
      refine (op_any pb k2 s false _ P2.out.1).mono ?_
      rintro e w3 ⟨⟨z, hz, rfl⟩, p3, be3⟩
      have P3 : Hid (PS w3 pb s k2 false ∧ Below pb w w3) := ⟨p3, P2.out.2.trans be3⟩
      clear p3 be3 c3
      rcases hz with rfl | ⟨z0, z1, hfit⟩
      · go_wp2_with fail
        first | go_end0 | refine bodyPost_ret (results_none rfl _ _ _) rfl ?_
        exact Q.of q2 P3.out.1 P3.out.2
      · have zn : ¬ z = 0 := by omega
        have zb : (z == 0) = false := by simp [zn]
        have zd : decide (z = 0) = false := decide_eq_false zn
        have hop : 1 ≤ opLen z := by unfold opLen; split <;> omega
        have c1 := PS.c1 P3.out.1
        have f1 := PS.fz P3.out.1 1
        have hlt := P3.out.1.lt
        obtain ⟨t, ht, hw⟩ : ∃ t : ByteArray, t.size = opLen z ∧ wordsA[z.toNat]? = some (.string t) := ⟨_, by have := tab_at z.toNat (by omega) (by omega); rwa [show ((z.toNat : Nat) : Int) = z by omega] at this, words_at z.toNat (by omega)⟩
        rw [← ht] at hfit hop
        have hls := P3.out.1.sz.1
        go_wp2_with fail
        refine (l2Level_any z _).mono ?_
        rintro e w4 ⟨⟨y, y0, y1, rfl⟩, hw4⟩
        have hw4 := hw4.symm
        subst hw4
        by_cases hy : y < least
        · have d1 : decide (y < least) = true := decide_eq_true hy
          go_wp2_with fail
          first | go_end0 | refine bodyPost_ret (results_none rfl _ _ _) rfl ?_
          exact Q.of q2 P3.out.1 P3.out.2
        · have d1 : decide (y < least) = false := decide_eq_false hy
          have i1 : IntKind.i64.wrap ((k2 : Int) + (t.size : Int)) = (k2 : Int) + (t.size : Int) := by rw [IntKind.wrap_i64]; omega
          have hz2 : z < 18 := by omega
          have hz3 : (0 : Int) ≤ z := by omega
          have FIN : Hid (PS (((w3.setCell ⟨pb, 1, none⟩ (.int .i64 ((k2 : Int) + (t.size : Int)))).alloc (.cells wordsA 9)).drew) pb s (k2 + t.size) false ∧ Below pb w (((w3.setCell ⟨pb, 1, none⟩ (.int .i64 ((k2 : Int) + (t.size : Int)))).alloc (.cells wordsA 9)).drew)) := by
            have h1 := P3.out.1.atz hfit (show ((k2 : Int) + (t.size : Int)) = ((k2 + t.size : Nat) : Int) by omega)
            have hb : Below (w3.setCell ⟨pb, 1, none⟩ (.int .i64 ((k2 : Int) + (t.size : Int)))).heap.size (w3.setCell ⟨pb, 1, none⟩ (.int .i64 ((k2 : Int) + (t.size : Int)))) (((w3.setCell ⟨pb, 1, none⟩ (.int .i64 ((k2 : Int) + (t.size : Int)))).alloc (.cells wordsA 9)).drew) := ((Below.refl _ _).alloc (Nat.le_refl _) _).drew
            exact ⟨h1.kept hb, (P3.out.2.trans below_set).trans (hb.mono (Nat.le_of_lt h1.lt))⟩
          clear ht
          go_wp2_with fail
          go_region_with (first | (go_at_call 64; refine (words_any _).mono ?_; rintro e w5 ⟨rfl, rfl⟩) | fail)
          all_goals
            go_wp2_with fail
            refine (l2Level_any z _).mono ?_
            rintro e w6 ⟨⟨y2, u0, u1, rfl⟩, rfl⟩
            have hy7 : IntKind.i64.wrap (y2 + 1) = y2 + 1 := by rw [IntKind.wrap_i64]; omega
            go_wp2_with fail
            refine (hl (k2 + t.size) false _ (y2 + 1) (by omega) (by omega) FIN.out.1).mono ?_
            rintro e w7 ⟨rfl, ⟨k7, b7, q7, p7⟩, be7⟩
            have P7 : Hid (PS w7 pb s k7 b7 ∧ Below pb w w7) := ⟨p7, FIN.out.2.trans be7⟩
            clear p7 be7
            go_wp2_with fail
            refine (put_any pb k7 s b7 _ P7.out.1 z 0 ⟨#[]⟩ (good0 s _ _)).mono ?_
            rintro e w8 ⟨rfl, ⟨d8, p8, _⟩, be8⟩
            have P8 : Hid (PS w8 pb s k7 d8 ∧ Below pb w w8) := ⟨p8, P7.out.2.trans be8⟩
            clear p8 be8
            go_wp2_with fail
            go_roundw
            case rel => exact ⟨k7, d8, by omega, P8⟩
            case measure => rw [hat, P8.out.1.atOf]; omega

/-- Both, by how deep they stand. -/
theorem both (pb : Nat) (s : ByteArray) : ∀ (n deep : Nat), 1 ≤ deep → deep ≤ 31 → 31 ≤ deep + n →
    (∀ k bad w, PS w pb s k bad → Calls Try.prog 61 #[.pointer (some ⟨pb, 0, none⟩), .int .i64 (deep : Int)] w (Q pb s k w)) ∧
    (∀ k bad w (least : Int), 1 ≤ least → least ≤ 7 → PS w pb s k bad → Calls Try.prog 41 #[.pointer (some ⟨pb, 0, none⟩), .int .i64 least, .int .i64 (deep : Int)] w (Q pb s k w))
  | n, deep, h1, h2, h3 => by
    by_cases hd : deep = 31
    · subst hd
      refine ⟨fun k bad w h => (value_deep pb k s bad w h).mono ?_, fun k bad w least _ _ h => level_deep pb k s bad least w h⟩
      rintro e w' ⟨rfl, p, b⟩
      exact Q.of (Nat.le_refl _) p b
    · match n, h3 with
      | 0, h3 => omega
      | n + 1, h3 =>
        have ih := both pb s n (deep + 1) (by omega) (by omega) (by omega)
        have e : (((deep + 1 : Nat)) : Int) = (deep : Int) + 1 := by omega
        rw [e] at ih
        have hv := fun k bad w h => value_step pb k deep s bad w h h1 (by omega) ih.1 (fun k bad w h => ih.2 k bad w 1 (by decide) (by decide) h)
        exact ⟨hv, fun k bad w least l0 l1 h => level_step pb k deep s bad least w h h1 (by omega) l0 l1 hv (fun k bad w least l0 l1 h => ih.2 k bad w least l0 l1 h)⟩

open Stepx (exprB)
/-- What spec.Compiled leaves. -/
def Made (w : World) (s : ByteArray) (e : Ending) (w' : World) : Prop :=
  (e = .returned (.tuple #[.slice none 0 0, .bool false]) ∨ ∃ (a : Option Addr) (cap : Nat) (L : List Stepx.Node), e = .returned (.tuple #[.slice a L.length cap, .bool true]) ∧ Nodm.Own w' w.heap.size (.slice a L.length cap) L ∧ L.length ≤ 30 ∧ exprB L = true ∧ ∀ x ∈ L, Cmpa.Good s x) ∧ Below w.heap.size w w'
theorem own_low {w : World} {b b' : Nat} {v : Value} {L : List Stepx.Node} (h : Nodm.Own w b v L) (hb : b' ≤ b) : Nodm.Own w b' v L := by
  refine ⟨h.1, ?_⟩
  rcases h.2 with h' | ⟨g, c, cur, rfl, hg, rest⟩
  · exact .inl h'
  · exact .inr ⟨g, c, cur, rfl, Nat.le_trans hb hg, rest⟩
set_option maxHeartbeats 2000000 in
theorem compiled_any (s : ByteArray) (w : World) (hs : s.size ≤ 1048576) : Calls Try.prog 25 #[.string s] w (Made w s) := by
  by_cases h2 : 200 < s.size
  · go_enter Try.func25, Try.ntmps25
    go_wp2_with fail
    go_ret2
    exact ⟨.inl rfl, Below.refl _ _⟩
  · have P0 : Hid (PS (w.alloc (.cells #[.string s, .int .i64 0, .slice none 0 0, .bool false] 89)) w.heap.size s 0 false) := by
      refine ⟨none, 0, [], ?_, ?_, ?_, ?_, fun i => ?_, Nat.zero_le _, by omega, by decide, (fun x hx => by cases hx), World.ownsRow_nil _ _ _ _⟩
      · rw [World.cell?_alloc_new]; rfl
      · rw [World.cell?_alloc_new]; rfl
      · rw [World.cell?_alloc_new]; rfl
      · rw [World.cell?_alloc_new]; rfl
      · simp
    have cl := (both w.heap.size s 30 1 (by decide) (by decide) (by decide)).2
    go_enter Try.func25, Try.ntmps25
    go_wp2_with fail
    rw [show ((1 : Nat) : Int) = 1 from rfl] at cl
    refine (cl 0 false _ 1 (by decide) (by decide) P0.out).mono ?_
    rintro e w1 ⟨rfl, ⟨k1, b1, _, p1⟩, be1⟩
    have B1 : Hid (Below w.heap.size w w1) := ((Below.refl _ _).alloc (Nat.le_refl _) _).trans be1
    obtain ⟨a, cap, L, c0, c1, c2, c3, cf, hk, hs', hl30, hg, ho⟩ := p1
    have G : Hid (∀ x ∈ L, Cmpa.Good s x) := hg
    have O : Hid (Nodm.Own w1 w.heap.size (.slice a L.length cap) L) := own_low ho (Nat.le_succ _)
    have N : Hid (Stepx.Nodes w1 a L) := Nodm.nodes_own ho (fun x hx => Nat.le_trans (hg x hx).1 (by decide))
    clear hg ho cl P0 be1 cf c0
    have ce := fun w hN => Specx.exprOk_any a cap L w hN (by omega)
    cases b1 with
    | true =>
      go_wp2_with fail
      go_ret2
      exact ⟨.inl rfl, B1.out⟩
    | false =>
      by_cases hk1 : (k1 : Int) = (s.size : Int)
      · have d1 : ((k1 : Int) == (s.size : Int)) = true := by simp [hk1]
        have d2 : ((k1 : Int) != (s.size : Int)) = false := by simp [hk1]
        have d3 : decide ((k1 : Int) = (s.size : Int)) = true := decide_eq_true hk1
        have HK : Hid ((k1 : Int) = (s.size : Int)) := hk1
        clear hk1
        cases hx : exprB L with
        | true =>
          rw [hx] at ce
          have HX : Hid (exprB L = true) := hx
          clear hx
          go_wp2_with (go_at_call 18; refine (ce _ N.out).mono ?_; rintro e w2 ⟨rfl, b2⟩; have B2 : Hid (Below w.heap.size w w2) := B1.out.trans (b2.mono B1.out.size); have O2 : Hid (Nodm.Own w2 w.heap.size (.slice a L.length cap) L) := Nodm.own_below O.out b2; have c2b : w2.cell? ⟨w.heap.size, 2, none⟩ = some (.slice a L.length cap) := (b2.cell (p := ⟨w.heap.size, 2, none⟩) (World.block_lt_of_cell? w1 ⟨w.heap.size, 2, none⟩ c2)).trans c2; clear b2)
          go_ret2
          exact ⟨.inr ⟨a, cap, L, rfl, O2.out, hl30, HX.out, G.out⟩, B2.out⟩
        | false =>
          rw [hx] at ce
          clear hx
          go_wp2_with (go_at_call 18; refine (ce _ N.out).mono ?_; rintro e w2 ⟨rfl, b2⟩; have B2 : Hid (Below w.heap.size w w2) := B1.out.trans (b2.mono B1.out.size); clear b2)
          go_ret2
          exact ⟨.inl rfl, B2.out⟩
      · have d1 : ((k1 : Int) == (s.size : Int)) = false := by simp [hk1]
        have d2 : ((k1 : Int) != (s.size : Int)) = true := by simp [hk1]
        have d3 : decide ((k1 : Int) = (s.size : Int)) = false := decide_eq_false hk1
        clear ce
        go_wp2_with fail
        go_ret2
        exact ⟨.inl rfl, B1.out⟩
end Go.Proofs.Ytfgabgihdcokdaa.Cmpd
