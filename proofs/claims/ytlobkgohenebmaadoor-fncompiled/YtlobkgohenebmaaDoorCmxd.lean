/-
  Contracts of ours for the specification's reader of expressions (l2P), told exactly: level; spec.Compiled.
-/
import Derived.Test.YtlobkgohenebmaaDoorCmxc
namespace Go.Proofs.YtlobkgohenebmaaDoor.Cmxd
open Go.ChangeShapes Go.WideShapes Go.ChangeAt Go.RowKit Go.Deep
open Prsp Prsl Xima Cmxa Cmxb Cmxc
set_option linter.unusedVariables false
set_option linter.unusedSimpArgs false
set_option maxRecDepth 20000

def VS (pb : Nat) (s : ByteArray) (deep : Int) (f : St → Option St) : Prop := ∀ k L w, PX w pb s k (some (s.data.toList.drop k, L)) → Calls Tryd.prog 26 #[.pointer (some ⟨pb, 0, none⟩), .int .i64 deep] w (QX pb s k (f (s.data.toList.drop k, L)) w)
def LS (pb : Nat) (s : ByteArray) (deep : Int) (f : Int → St → Option St) : Prop := ∀ least k L w, 1 ≤ least → least ≤ 7 → PX w pb s k (some (s.data.toList.drop k, L)) → Calls Tryd.prog 15 #[.pointer (some ⟨pb, 0, none⟩), .int .i64 least, .int .i64 deep] w (QX pb s k (f least (s.data.toList.drop k, L)) w)

set_option maxHeartbeats 4000000 in
theorem level_zero (pb k : Nat) (s : ByteArray) (least : Int) (X : Option St) (w : World) (h : PX w pb s k X) :
    Calls Tryd.prog 15 #[.pointer (some ⟨pb, 0, none⟩), .int .i64 least, .int .i64 31] w (QX pb s k none w) := by
  go_enter Tryd.func15, Tryd.ntmps15
  go_wp2_with fail
  refine (value_zero pb k s X _ h).mono ?_
  clear h
  rintro e w1 ⟨rfl, ⟨j, hj, p1⟩, b1⟩
  have P1 : Hid (PX w1 pb s j none ∧ Below pb w w1) := ⟨p1, b1⟩
  have c3 := p1.c3
  simp only [Option.isNone_none] at c3
  clear p1 b1
  go_wp2_with fail
  go_loopw [] (fun wr => Hid (PX wr pb s j none ∧ Below pb w wr)) (fun wr => 0)
  case atStart => exact P1
  case round =>
    clear c3
    have c3 := hrel.out.1.c3
    simp only [Option.isNone_none] at c3
    go_wp2_with fail
    first | go_end0 | refine bodyPost_ret (results_none rfl _ _ _) rfl ?_
    exact QX.of rfl hj hrel.out.1 hrel.out.2
theorem opLen_eq (k : Int) : opLen k = opL k := rfl
theorem step_s {f : Int → St → Option St} {s : ByteArray} {j z : Nat} {L : List Stepx.Node} {o : Int} (ho : o = opK (s.data.toList.drop j)) (hz : z = opL o) :
    stepF f (s.data.toList.drop j, L) = (f (tgt o + 1) (s.data.toList.drop (j + z), L)).bind (put (o, 0, E0)) := by
  unfold stepF
  show (f (tgt (opK (s.data.toList.drop j)) + 1) ((s.data.toList.drop j).drop (opL (opK (s.data.toList.drop j))), L)).bind (put (opK (s.data.toList.drop j), 0, E0)) = _
  rw [← ho, ← hz, List.drop_drop]

set_option maxHeartbeats 8000000 in
theorem level_step (pb n deep : Nat) (s : ByteArray) (hd1 : 1 ≤ deep) (hd : deep ≤ 30) (hv : VS pb s (deep : Int) (val (n + 1))) (hl : LS pb s ((deep : Int) + 1) (lev n)) : LS pb s (deep : Int) (lev (n + 1)) := by
  intro least k L w hle0 hle h
  have hs := h.sz.2
  obtain ⟨R, hR⟩ : ∃ R, R = (val (n + 1) (s.data.toList.drop k, L)).bind (loopF (lev n) least) := ⟨_, rfl⟩
  have HR : Hid (R = (val (n + 1) (s.data.toList.drop k, L)).bind (loopF (lev n) least)) := hR
  rw [lev_succ, ← hR]
  clear hR
  go_enter Tryd.func15, Tryd.ntmps15
  go_wp2_with fail
  refine (hv k L _ h).mono ?_
  clear h hv
  rintro e w1 ⟨rfl, ⟨k1, q1, p1⟩, be1⟩
  obtain ⟨X1, hX1⟩ : ∃ X, X = val (n + 1) (s.data.toList.drop k, L) := ⟨_, rfl⟩
  rw [← hX1] at p1 HR
  have P1 : Hid (PX w1 pb s k1 X1 ∧ Below pb w w1 ∧ R = X1.bind (loopF (lev n) least)) := ⟨p1, be1, HR.out⟩
  have c3 := p1.c3
  clear p1 be1 hX1 HR
  go_wp2_with fail
  go_loopw [] (fun wr => ∃ k2 X2, k ≤ k2 ∧ Hid (PX wr pb s k2 X2 ∧ Below pb w wr ∧ R = X2.bind (loopF (lev n) least))) (fun wr => s.size - Cmxa.atOf wr pb)
  case atStart => exact ⟨k1, X1, q1, P1⟩
  case round =>
    obtain ⟨k2, X2, q2, P2⟩ := hrel
    clear c3 P1
    have hat := P2.out.1.atOf
    cases X2 with
    | none =>
      have c3 := P2.out.1.c3
      simp only [Option.isNone_none] at c3
      go_wp2_with fail
      first | go_end0 | refine bodyPost_ret (results_none rfl _ _ _) rfl ?_
      exact QX.of P2.out.2.2 q2 P2.out.1 P2.out.2.1
    | some st2 =>
      have c3 := P2.out.1.c3
      simp only [Option.isNone_some] at c3
      obtain ⟨l2, L2⟩ := st2
      have hl2 := congrArg Prod.fst P2.out.1.st
      simp only [] at hl2
      subst hl2
      have RQ : Hid (R = loopF (lev n) least (s.data.toList.drop k2, L2)) := P2.out.2.2
      obtain ⟨z, hz⟩ : ∃ z, z = opK (s.data.toList.drop k2) := ⟨_, rfl⟩
      have HZ : Hid (z = opK (s.data.toList.drop k2)) := hz
      have hzb := op_bd (s.data.toList.drop k2)
      have co := fun W hW => op_any pb k2 s L2 W hW
      rw [← hz] at hzb co
      clear hz
      go_wp2_with fail
      refine (co _ P2.out.1).mono ?_
      rintro e w3 ⟨rfl, p3, be3⟩
      have P3 : Hid (PX w3 pb s k2 (some (s.data.toList.drop k2, L2)) ∧ Below pb w w3) := ⟨p3, P2.out.2.1.trans be3⟩
      clear p3 be3 c3 co P2
      rcases hzb with hz0 | ⟨z0, z1⟩
      · have RS : Hid (R = some (s.data.toList.drop k2, L2)) := RQ.out.trans (loop_stop (show tgt (opK (s.data.toList.drop k2)) < least from by rw [← HZ.out, hz0, show tgt 0 = 0 from by decide]; omega))
        clear RQ
        subst hz0
        go_wp2_with fail
        first | go_end0 | refine bodyPost_ret (results_none rfl _ _ _) rfl ?_
        exact QX.of RS.out q2 P3.out.1 P3.out.2
      · have zn : ¬ z = 0 := by omega
        have zb : (z == 0) = false := by simp [zn]
        have zd : decide (z = 0) = false := decide_eq_false zn
        have hop : 1 ≤ opLen z := by unfold opLen; split <;> omega
        have hfit : k2 + opLen z ≤ s.size := by
          have := Prsm.op_len (l := s.data.toList.drop k2) (by rw [← HZ.out]; exact z0)
          rw [← HZ.out, drop_len] at this
          rw [opLen_eq]
          have := (opL_bd z).1
          omega
        have c1 := P3.out.1.c1
        have f1 := P3.out.1.fz 1
        have hlt := P3.out.1.lt
        obtain ⟨t, ht, hw⟩ : ∃ t : ByteArray, t.size = opLen z ∧ wordsA[z.toNat]? = some (.string t) := ⟨_, by have := tab_at z.toNat (by omega) (by omega); rwa [show ((z.toNat : Nat) : Int) = z by omega] at this, words_at z.toNat (by omega)⟩
        have HZL : Hid (t.size = opL z) := ht
        rw [← ht] at hfit hop
        have hls := P3.out.1.sz.1
        obtain ⟨y, hy⟩ : ∃ y, y = tgt z := ⟨_, rfl⟩
        have HY : Hid (y = tgt z) := hy
        have hyb := tight_bd ⟨z0, z1⟩
        have cl := fun W => level_any z ⟨z0, z1⟩ W
        rw [← hy] at cl hyb
        clear hy
        go_wp2_with fail
        refine (cl _).mono ?_
        rintro e w4 ⟨rfl, hw4⟩
        have hw4 := hw4.symm
        subst hw4
        by_cases hyl : y < least
        · have d1 : decide (y < least) = true := decide_eq_true hyl
          have RS : Hid (R = some (s.data.toList.drop k2, L2)) := RQ.out.trans (loop_stop (show tgt (opK (s.data.toList.drop k2)) < least from by rw [← HZ.out, ← HY.out]; exact hyl))
          clear RQ
          go_wp2_with fail
          first | go_end0 | refine bodyPost_ret (results_none rfl _ _ _) rfl ?_
          exact QX.of RS.out q2 P3.out.1 P3.out.2
        · have d1 : decide (y < least) = false := decide_eq_false hyl
          have NT : ∀ (Lx : List Stepx.Node), ¬ tgt (opK (s.data.toList.drop k2, Lx).1) < least := fun _ => by show ¬ tgt (opK (s.data.toList.drop k2)) < least; rw [← HZ.out, ← HY.out]; exact hyl
          have ST : Hid (stepF (lev n) (s.data.toList.drop k2, L2) = (lev n (y + 1) (s.data.toList.drop (k2 + t.size), L2)).bind (put (z, 0, E0))) := (show _ = _ from by rw [HY.out]; exact step_s HZ.out HZL.out)
          have NT : Hid (∀ (Lx : List Stepx.Node), ¬ tgt (opK (s.data.toList.drop k2, Lx).1) < least) := NT
          have i1 : IntKind.i64.wrap ((k2 : Int) + (t.size : Int)) = (k2 : Int) + (t.size : Int) := by rw [IntKind.wrap_i64]; omega
          have hz2 : z < 18 := by omega
          have hz3 : (0 : Int) ≤ z := by omega
          have FIN : Hid (PX (((w3.setCell ⟨pb, 1, none⟩ (.int .i64 ((k2 : Int) + (t.size : Int)))).alloc (.cells wordsA 9)).drew) pb s (k2 + t.size) (some (s.data.toList.drop (k2 + t.size), L2)) ∧ Below pb w (((w3.setCell ⟨pb, 1, none⟩ (.int .i64 ((k2 : Int) + (t.size : Int)))).alloc (.cells wordsA 9)).drew)) := by
            have h1 := P3.out.1.at_ hfit (show ((k2 : Int) + (t.size : Int)) = ((k2 + t.size : Nat) : Int) by omega)
            have hb : Below (w3.setCell ⟨pb, 1, none⟩ (.int .i64 ((k2 : Int) + (t.size : Int)))).heap.size (w3.setCell ⟨pb, 1, none⟩ (.int .i64 ((k2 : Int) + (t.size : Int)))) (((w3.setCell ⟨pb, 1, none⟩ (.int .i64 ((k2 : Int) + (t.size : Int)))).alloc (.cells wordsA 9)).drew) := ((Below.refl _ _).alloc (Nat.le_refl _) _).drew
            exact ⟨h1.kept hb, (P3.out.2.trans below_set).trans (hb.mono (Nat.le_of_lt h1.lt))⟩
          have hy7 : IntKind.i64.wrap (y + 1) = y + 1 := by rw [IntKind.wrap_i64]; omega
          clear ht hyl HZ HY HZL P3
          go_wp2_with fail
          go_region_with (first | (go_at_call 29; refine (words_any _).mono ?_; rintro e w5 ⟨rfl, rfl⟩) | fail)
          all_goals
            go_wp2_with fail
            refine (cl _).mono ?_
            rintro e w6 ⟨rfl, rfl⟩
            go_wp2_with fail
            refine (hl (y + 1) (k2 + t.size) L2 _ (by omega) (by omega) FIN.out.1).mono ?_
            rintro e w7 ⟨rfl, ⟨k7, q7, p7⟩, be7⟩
            obtain ⟨X7, hX7⟩ : ∃ X, X = lev n (y + 1) (s.data.toList.drop (k2 + t.size), L2) := ⟨_, rfl⟩
            rw [← hX7] at p7 ST
            have P7 : Hid (PX w7 pb s k7 X7 ∧ Below pb w w7) := ⟨p7, FIN.out.2.trans be7⟩
            clear p7 be7 hX7
            go_wp2_with fail
            refine (put_any pb k7 s X7 _ P7.out.1 z 0 E0).mono ?_
            rintro e w8 ⟨rfl, p8, be8⟩
            have P8 : Hid (PX w8 pb s k7 (X7.bind (put (z, 0, E0))) ∧ Below pb w w8 ∧ R = (X7.bind (put (z, 0, E0))).bind (loopF (lev n) least)) := ⟨p8, P7.out.2.trans be8, by
              rw [RQ.out]
              cases hx : X7.bind (put (z, 0, E0)) with
              | none => exact loop_none (s := (s.data.toList.drop k2, L2)) (by show ¬ tgt (opK (s.data.toList.drop k2)) < least; have := NT.out L2; omega) (by rw [ST.out]; exact hx)
              | some st8 =>
                have h8 := p8
                rw [hx] at h8
                have e8 := congrArg Prod.fst h8.st
                simp only [] at e8
                exact loop_go (s := (s.data.toList.drop k2, L2)) (s' := st8) (by show ¬ tgt (opK (s.data.toList.drop k2)) < least; have := NT.out L2; omega) (by rw [ST.out]; exact hx) (by rw [e8]; show (s.data.toList.drop k7).length < (s.data.toList.drop k2).length; rw [drop_len, drop_len]; omega)⟩
            clear p8 be8
            go_wp2_with fail
            go_roundw
            case rel => exact ⟨k7, X7.bind (put (z, 0, E0)), by omega, P8⟩
            case measure => rw [hat, P8.out.1.atOf]; omega

/-- At every depth. -/
theorem both_any (pb : Nat) (s : ByteArray) : ∀ n : Nat, n ≤ 30 → VS pb s (31 - (n : Int)) (val n) ∧ LS pb s (31 - (n : Int)) (lev n)
  | 0, _ => ⟨fun k L w h => by rw [val_zero]; exact value_zero pb k s _ w h, fun least k L w _ _ h => by rw [lev_zero]; exact level_zero pb k s least _ w h⟩
  | n + 1, h => by
    obtain ⟨hv, hl⟩ := both_any pb s n (by omega)
    have e : ((30 - n : Nat) : Int) + 1 = 31 - (n : Int) := by omega
    have e2 : 31 - ((n + 1 : Nat) : Int) = ((30 - n : Nat) : Int) := by omega
    rw [← e] at hv hl
    rw [e2]
    have v : VS pb s ((30 - n : Nat) : Int) (val (n + 1)) := fun k L w h => value_step pb k (30 - n) n s L w h (by omega) (by omega) hv (fun k L w h => hl 1 k L w (by decide) (by decide) h)
    exact ⟨v, level_step pb n (30 - n) s (by omega) (by omega) v hl⟩

open Stepx (exprB)
/-- What Compiled tells. -/
def outC (X : Option (List Stepx.Node)) (w : World) (e : Ending) (w' : World) : Prop :=
  (match X with
    | none => e = .returned (.tuple #[.slice none 0 0, .bool false])
    | some L => ∃ (a : Option Addr) (cap : Nat), e = .returned (.tuple #[.slice a L.length cap, .bool true]) ∧ Nodm.Own w' w.heap.size (.slice a L.length cap) L ∧ L.length ≤ 30 ∧ exprB L = true ∧ ∀ x ∈ L, x.2.2.size ≤ 16) ∧ Below w.heap.size w w'
/-- What a text is compiled to, when so many values may stand in one another. -/
def compV (n : Nat) (s : ByteArray) : Option (List Stepx.Node) := if 200 < s.size then none else comp n s.data.toList
theorem own_low {w : World} {b b' : Nat} {v : Value} {L : List Stepx.Node} (h : Nodm.Own w b v L) (hb : b' ≤ b) : Nodm.Own w b' v L := by
  refine ⟨h.1, ?_⟩
  rcases h.2 with h' | ⟨g, c, cur, rfl, hg, rest⟩
  · exact .inl h'
  · exact .inr ⟨g, c, cur, rfl, Nat.le_trans hb hg, rest⟩
theorem outC.no {w w' : World} (hb : Below w.heap.size w w') : outC none w (.returned (.tuple #[.slice none 0 0, .bool false])) w' := ⟨rfl, hb⟩
set_option maxHeartbeats 4000000 in
theorem compiled_any (s : ByteArray) (w : World) (hs : s.size ≤ 1048576) : Calls Tryd.prog 8 #[.string s] w (outC (compV 30 s) w) := by
  by_cases h2 : 200 < s.size
  · have HN : Hid (compV 30 s = none) := if_pos h2
    go_enter Tryd.func8, Tryd.ntmps8
    go_wp2_with fail
    go_ret2
    rw [HN.out]
    exact outC.no (Below.refl _ _)
  · have P0 : Hid (PX (w.alloc (.cells #[.string s, .int .i64 0, .slice none 0 0, .bool false] 39)) w.heap.size s 0 (some (s.data.toList.drop 0, []))) := by
      refine ⟨none, 0, [], ?_, ?_, ?_, ?_, fun i => ?_, Nat.zero_le _, by omega, by decide, (fun st h => (Option.some.inj h).symm), World.ownsRow_nil _ _ _ _⟩
      · rw [World.cell?_alloc_new]; rfl
      · rw [World.cell?_alloc_new]; rfl
      · rw [World.cell?_alloc_new]; rfl
      · rw [World.cell?_alloc_new]; rfl
      · simp
    have HV : Hid (compV 30 s = comp 30 s.data.toList) := if_neg h2
    have cl := (both_any w.heap.size s 30 (by decide)).2 1 0 [] (w.alloc (.cells #[.string s, .int .i64 0, .slice none 0 0, .bool false] 39)) (by decide) (by decide) P0.out
    rw [show (31 : Int) - ((30 : Nat) : Int) = 1 from rfl] at cl
    obtain ⟨X, hX⟩ : ∃ X, X = lev 30 1 (s.data.toList.drop 0, ([] : List Stepx.Node)) := ⟨_, rfl⟩
    have HX0 : Hid (X = lev 30 1 (s.data.toList, ([] : List Stepx.Node))) := (show X = _ from by rw [hX, List.drop_zero])
    rw [← hX] at cl
    clear hX P0
    go_enter Tryd.func8, Tryd.ntmps8
    go_wp2_with fail
    refine cl.mono ?_
    rintro e w1 ⟨rfl, ⟨k1, _, p1⟩, be1⟩
    have B1 : Hid (Below w.heap.size w w1) := ((Below.refl _ _).alloc (Nat.le_refl _) _).trans be1
    clear be1 cl
    cases X with
    | none =>
      have HN : Hid (compV 30 s = none) := (show compV 30 s = none from by rw [HV.out]; unfold comp; rw [← HX0.out])
      have c3 := p1.c3
      simp only [Option.isNone_none] at c3
      clear p1 HX0 HV
      go_wp2_with fail
      go_ret2
      rw [HN.out]
      exact outC.no B1.out
    | some st =>
      obtain ⟨l1, L⟩ := st
      have hl1 := congrArg Prod.fst p1.st
      simp only [] at hl1
      subst hl1
      have hk1s := p1.sz.1
      obtain ⟨a, cap, L', c0, c1, c2, c3, cf, hk, hs', hl30, hg, ho⟩ := p1
      have hLL : L = L' := (Prod.mk.inj (hg _ rfl)).2
      subst hLL
      simp only [Option.isNone_some] at c3
      clear hg cf c0
      have O : Hid (Nodm.Own w1 w.heap.size (.slice a L.length cap) L) := own_low ho (Nat.le_succ _)
      by_cases hk1 : (k1 : Int) = (s.size : Int)
      · have d1 : ((k1 : Int) == (s.size : Int)) = true := by simp [hk1]
        have d2 : ((k1 : Int) != (s.size : Int)) = false := by simp [hk1]
        have d3 : decide ((k1 : Int) = (s.size : Int)) = true := decide_eq_true hk1
        have HK : Hid ((k1 : Int) = (s.size : Int)) := hk1
        have HC : Hid (comp 30 s.data.toList = some L) := (show _ = _ from by unfold comp; rw [← HX0.out, Nums.drop_end s k1 (by omega)])
        clear hk1
        obtain ⟨x1, x2, x3⟩ := comp_right HC.out
        have G : Hid (∀ x ∈ L, x.2.2.size ≤ 16) := x3
        have N : Hid (Stepx.Nodes w1 a L) := Nodm.nodes_own ho (fun x hx => Nat.le_trans (x3 x hx) (by decide))
        have ce := fun w hN => Specx.exprOk_any a cap L w hN (by omega)
        rw [x1] at ce
        have HX : Hid (exprB L = true) := x1
        have HQ : Hid (compV 30 s = some L) := HV.out.trans HC.out
        clear x1 x3 HC HX0 HV ho
        go_wp2_with (go_at_call 16; refine (ce _ N.out).mono ?_; rintro e w2 ⟨rfl, b2⟩; have B2 : Hid (Below w.heap.size w w2) := B1.out.trans (b2.mono B1.out.size); have O2 : Hid (Nodm.Own w2 w.heap.size (.slice a L.length cap) L) := Nodm.own_below O.out b2; have c2b : w2.cell? ⟨w.heap.size, 2, none⟩ = some (.slice a L.length cap) := (b2.cell (p := ⟨w.heap.size, 2, none⟩) (World.block_lt_of_cell? w1 ⟨w.heap.size, 2, none⟩ c2)).trans c2; clear b2)
        go_ret2
        rw [HQ.out]
        exact ⟨⟨a, cap, rfl, O2.out, hl30, HX.out, G.out⟩, B2.out⟩
      · have d1 : ((k1 : Int) == (s.size : Int)) = false := by simp [hk1]
        have d2 : ((k1 : Int) != (s.size : Int)) = true := by simp [hk1]
        have d3 : decide ((k1 : Int) = (s.size : Int)) = false := decide_eq_false hk1
        have HN : Hid (compV 30 s = none) := (show compV 30 s = none from by
          rw [HV.out]; unfold comp; rw [← HX0.out]
          rw [Nums.drop_at s k1 (by omega)])
        clear HX0 HV ho
        go_wp2_with fail
        go_ret2
        rw [HN.out]
        exact outC.no B1.out
end Go.Proofs.YtlobkgohenebmaaDoor.Cmxd
