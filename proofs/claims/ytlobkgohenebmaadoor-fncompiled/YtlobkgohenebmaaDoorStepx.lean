/-
  A contract of ours for impl.stepsOf: the steps of nodes, and whether they leave one value.
-/
import Derived.Test.YtlobkgohenebmaaDoorSteps
import Derived.LoopN
import Derived.Maps.AppendAt
namespace Go.Proofs.YtlobkgohenebmaaDoor.Stepx
open Go.ChangeShapes Go.WideShapes Go.ChangeAt Go.RowKit
open Names (nameB)
set_option maxRecDepth 20000
open Go.Proofs.YtlobkgohenebmaaDoor.Steps (nodeB stepV stepOf_any)

abbrev Node := Int × Int × ByteArray
/-- A row of nodes in memory: three cells each. -/
def Nodes (w : World) (a : Option Addr) (L : List Node) : Prop :=
  L = [] ∨ ∃ b off, a = some ⟨b, off, none⟩ ∧ b < w.heap.size ∧ ∀ i (h : i < L.length), w.cell? ⟨b, off + i * 3, none⟩ = some (.int .i64 L[i].1) ∧ w.cell? ⟨b, off + i * 3 + 1, none⟩ = some (.int .i64 L[i].2.1) ∧ w.cell? ⟨b, off + i * 3 + 2, none⟩ = some (.string L[i].2.2) ∧ L[i].2.2.size ≤ maxLen
def takes (k : Int) : Int := if k ≤ 3 then 0 else if k ≤ 7 then 1 else 2
/-- How many values nodes leave, behind v; none: one is not right, or takes more than there are. -/
def run : Int → List Node → Option Int
  | v, [] => some v
  | v, x :: r => if nodeB x.1 x.2.1 x.2.2 = true ∧ takes x.1 ≤ v then run (v + (1 - takes x.1)) r else none
def exprB (L : List Node) : Bool := decide (L.length ≤ 30) && (run 0 L == some 1)

/-- The steps lie in a row of the call's own. -/
def StepsRow (w w' : World) (b : Bool) (v : Value) (L : List Node) : Prop := b = true → w'.ownsRow w.heap.size 55 1 v L.length (L.map fun x => stepV x.1 x.2.1 x.2.2)
theorem info : (Tryd.prog.info? 55).map (fun i => (i.zero, i.size, i.bytes)) = some (some .nilIface, 1, 16) := by kernel_rfl
theorem m1 (n : Int) (w : World) : (method 223 85 (.agg #[.int .i64 n]) "loop.example/g00460/impl.takes").run Tryd.prog w = .ok (87, .agg #[.int .i64 n]) w := by kernel_rfl
theorem m2 (s : ByteArray) (w : World) : (method 223 87 (.agg #[.string s]) "loop.example/g00460/impl.takes").run Tryd.prog w = .ok (88, .agg #[.string s]) w := by kernel_rfl
theorem m3 (s : ByteArray) (w : World) : (method 223 90 (.agg #[.string s]) "loop.example/g00460/impl.takes").run Tryd.prog w = .ok (89, .agg #[.string s]) w := by kernel_rfl
theorem m4 (n : Int) (w : World) : (method 223 92 (.agg #[.int .i64 n]) "loop.example/g00460/impl.takes").run Tryd.prog w = .ok (90, .agg #[.int .i64 n]) w := by kernel_rfl
theorem m5 (n : Int) (w : World) : (method 223 94 (.agg #[.int .i64 n]) "loop.example/g00460/impl.takes").run Tryd.prog w = .ok (91, .agg #[.int .i64 n]) w := by kernel_rfl

theorem new3 (w : World) (o1 o2 : Obj) (v : Value) (t : TypeId) : ∀ j u, [v][j]? = some u → (((w.alloc o1).alloc o2).alloc (.cells #[v] t)).cell? ((⟨w.heap.size + 1 + 1, 0, none⟩ : Addr).add j) = some u := by
  have h := cell_one_new ((w.alloc o1).alloc o2) v t
  simpa using h

set_option maxHeartbeats 4000000 in
theorem stepsOf_any (a : Option Addr) (cap : Nat) (L : List Node) (w : World) (hN : Nodes w a L) (hlen : L.length ≤ 1048576) :
    Calls Tryd.prog 24 #[.slice a L.length cap] w fun e w' => (∃ v, e = .returned (.tuple #[v, .bool (exprB L)]) ∧ StepsRow w w' (exprB L) v L) ∧ Below w.heap.size w w' := by
  obtain ⟨i0, hi, hz0, hz1, hz2⟩ := info_parts info
  by_cases h30 : 30 < L.length
  · have hx : exprB L = false := by unfold exprB; rw [decide_eq_false (by omega)]; rfl
    rw [hx]
    clear hN
    go_enter Tryd.func24, Tryd.ntmps24
    go_wp2
    go_ret2
    exact ⟨⟨_, rfl, fun h => by cases h⟩, Below.refl _ _⟩
  have hx : exprB L = (run 0 L == some 1) := by unfold exprB; rw [decide_eq_true (by omega)]; rfl
  rw [hx]
  clear hx
  have m1' := m1
  have m2' := m2
  have m3' := m3
  have m4' := m4
  have m5' := m5
  obtain ⟨r, hr⟩ : ∃ r, r = run 0 L := ⟨_, rfl⟩
  rw [← hr]
  obtain ⟨len, hl⟩ : ∃ len, len = L.length := ⟨_, rfl⟩
  have HL : Hid (len = L.length) := hl
  rw [← hl] at h30 hlen ⊢
  clear hl
  go_enter Tryd.func24, Tryd.ntmps24
  go_wp2
  go_loopw [4, 5, 15] (fun st vs i wr => ∃ (k : Nat) (v : Int), k ≤ len ∧ i = .int .i64 k ∧ vs = .int .i64 v ∧ 0 ≤ v ∧ v ≤ k ∧ Hid (r = run v (L.drop k)) ∧ Hid (wr.ownsRow w.heap.size 55 1 st k ((L.take k).map fun x => stepV x.1 x.2.1 x.2.2)) ∧ Hid (Below w.heap.size w wr))
    (fun _ _ i _ => len - (intOf i).toNat)
  case atStart => exact ⟨0, 0, Nat.zero_le _, rfl, rfl, by decide, by decide, hr, World.ownsRow_nil _ _ _ _, Below.refl _ _⟩
  case round =>
    clear hr
    obtain ⟨k, v, hk, rfl, rfl, hv0, hv1, hrun, hown, hbel⟩ := hrel
    by_cases hlt : k < len
    · have hkL : k < L.length := by have := HL.out; omega
      rcases hN with hnil | ⟨b, off, rfl, hb, hc⟩
      · exfalso; rw [hnil] at hkL; exact absurd hkL (by simp)
      obtain ⟨c0, c1, c2, hsz⟩ : wr.cell? ⟨b, off + k * 3, none⟩ = some (.int .i64 L[k].1) ∧ wr.cell? ⟨b, off + k * 3 + 1, none⟩ = some (.int .i64 L[k].2.1) ∧ wr.cell? ⟨b, off + k * 3 + 2, none⟩ = some (.string L[k].2.2) ∧ L[k].2.2.size ≤ maxLen := by
        obtain ⟨d0, d1, d2, d3⟩ := hc k hkL
        exact ⟨(hbel.out.cell (p := ⟨b, _, none⟩) hb).trans d0, (hbel.out.cell (p := ⟨b, _, none⟩) hb).trans d1, (hbel.out.cell (p := ⟨b, _, none⟩) hb).trans d2, d3⟩
      have HD : Hid (r = run v (L[k] :: L.drop (k + 1))) := by have := hrun.out; rw [List.drop_eq_getElem_cons hkL] at this; exact this
      have HTk : Hid ((L.take (k + 1)).map (fun x => stepV x.1 x.2.1 x.2.2) = (L.take k).map (fun x => stepV x.1 x.2.1 x.2.2) ++ [stepV L[k].1 L[k].2.1 L[k].2.2]) := by
        show _ = _
        rw [List.take_succ_eq_append_getElem hkL, List.map_append]; rfl
      clear hc hrun
      have hbr : b < wr.heap.size := Nat.lt_of_lt_of_le hb hbel.out.size
      obtain ⟨kd, n, s, hnode⟩ : ∃ kd n s, L[k] = (kd, n, s) := ⟨_, _, _, rfl⟩
      rw [hnode] at c0 c1 c2 hsz HD HTk
      simp only at c0 c1 c2 hsz HTk
      clear hnode
      have HD : Hid (r = if nodeB kd n s = true ∧ takes kd ≤ v then run (v + (1 - takes kd)) (L.drop (k + 1)) else none) := HD
      have cs := fun W => stepOf_any kd n s W hsz
      cases hn : nodeB kd n s with
      | false =>
        rw [hn] at cs
        have HR : Hid (r = none) := by have := HD.out; rw [if_neg (by rw [hn]; simp)] at this; exact this
        clear HD HTk hn m1' m2' m3' m4' m5'
        go_wp2_with fail
        refine (cs _).mono ?_
        rintro e w1 ⟨rfl, hb1⟩
        go_wp2
        go_ret2
        exact ⟨⟨_, by rw [HR.out]; rfl, fun h => by rw [HR.out] at h; cases h⟩, (hbel.out.alloc hbel.out.size _).trans (hb1.mono (by have := hbel.out.size; simp; omega))⟩
      | true =>
        rw [hn] at cs
        have hkk : kd = 1 ∨ kd = 2 ∨ kd = 3 ∨ (4 ≤ kd ∧ kd ≤ 7) ∨ (8 ≤ kd ∧ kd ≤ 17) := by
          unfold nodeB at hn
          by_cases e1 : kd = 1
          · exact .inl e1
          rw [if_neg e1] at hn
          by_cases e2 : kd = 2 ∨ kd = 3
          · omega
          rw [if_neg e2] at hn
          by_cases e3 : 4 ≤ kd ∧ kd ≤ 17
          · omega
          rw [if_neg e3] at hn; cases hn
        rcases hkk with rfl | rfl | rfl | ⟨k4, k7⟩ | ⟨k8, k17⟩
        · have ht : takes 1 = 0 := rfl
          have sv : stepV 1 n s = .iface 85 (.agg #[.int .i64 n]) := by unfold stepV; rw [if_pos rfl]
          rw [sv] at cs HTk
          have HR : Hid (r = run (v + 1) (L.drop (k + 1))) := by have := HD.out; rw [ht, if_pos ⟨hn, hv0⟩] at this; exact this
          clear HD hn ht sv
          go_wp2_with fail
          refine (cs _).mono ?_
          rintro e w1 ⟨rfl, hb1⟩
          have own1 : Hid (w1.ownsRow w.heap.size 55 1 u4 k ((L.take k).map fun x => stepV x.1 x.2.1 x.2.2)) := (hown.out.alloc _).kept (row := none) ⟨hb1.os, hb1.tape, hb1.output, hb1.size, fun k hk _ => hb1.block k hk⟩ (by cases hv : Value.ownBlock u4 <;> simp)
          have bel1 : Hid (Below w.heap.size w w1) := (hbel.out.alloc hbel.out.size _).trans (hb1.mono (by have := hbel.out.size; simp; omega))
          clear hown hbel hb1
          go_wp2_with (first | (at_builtin; refine wpList_append_own _ rfl (.tmp 37) (.tmp 39) 50 rfl w.heap.size 55 i0 .nilIface 1 16 Tryd.underlying50 hi hz0 hz1 hz2 rfl (by decide) _ _ _ rfl (((own1.out.alloc _).alloc _).alloc _) ⟨w1.heap.size + 1 + 1, 0, none⟩ 1 1 [.iface 85 (.agg #[.int .i64 n])] rfl rfl (new3 _ _ _ _ _) (by intro u hu; simp at hu; subst hu; rfl) (by unfold maxLen; omega) (by omega) (by have := bel1.out.size; simp; omega) ?_; intro v' w2 hown' hgrow _) | go_in)
          have hlt2 := own1.out.lt
          go_wp2
          go_roundw
          case rel => exact ⟨k + 1, _, by omega, by go_num, rfl, by omega, by omega, HR, by rw [HTk.out]; exact hown', (((bel1.out.alloc bel1.out.size _).alloc (by have := bel1.out.size; simp; omega) _).alloc (by have := bel1.out.size; simp; omega) _).grown hgrow (by have := bel1.out.size; simp; omega) (fun j hj => (hlt2 j hj).1)⟩
          case measure => simp [intOf]; omega
        · have ht : takes 2 = 0 := rfl
          have sv : stepV 2 n s = .iface 87 (.agg #[.string s]) := by unfold stepV; rw [if_neg (by decide), if_pos rfl]
          rw [sv] at cs HTk
          have HR : Hid (r = run (v + 1) (L.drop (k + 1))) := by have := HD.out; rw [ht, if_pos ⟨hn, hv0⟩] at this; exact this
          clear HD hn ht sv
          go_wp2_with fail
          refine (cs _).mono ?_
          rintro e w1 ⟨rfl, hb1⟩
          have own1 : Hid (w1.ownsRow w.heap.size 55 1 u4 k ((L.take k).map fun x => stepV x.1 x.2.1 x.2.2)) := (hown.out.alloc _).kept (row := none) ⟨hb1.os, hb1.tape, hb1.output, hb1.size, fun k hk _ => hb1.block k hk⟩ (by cases hv : Value.ownBlock u4 <;> simp)
          have bel1 : Hid (Below w.heap.size w w1) := (hbel.out.alloc hbel.out.size _).trans (hb1.mono (by have := hbel.out.size; simp; omega))
          clear hown hbel hb1
          go_wp2_with (first | (at_builtin; refine wpList_append_own _ rfl (.tmp 37) (.tmp 39) 50 rfl w.heap.size 55 i0 .nilIface 1 16 Tryd.underlying50 hi hz0 hz1 hz2 rfl (by decide) _ _ _ rfl (((own1.out.alloc _).alloc _).alloc _) ⟨w1.heap.size + 1 + 1, 0, none⟩ 1 1 [.iface 87 (.agg #[.string s])] rfl rfl (new3 _ _ _ _ _) (by intro u hu; simp at hu; subst hu; rfl) (by unfold maxLen; omega) (by omega) (by have := bel1.out.size; simp; omega) ?_; intro v' w2 hown' hgrow _) | go_in)
          have hlt2 := own1.out.lt
          go_wp2
          go_roundw
          case rel => exact ⟨k + 1, _, by omega, by go_num, rfl, by omega, by omega, HR, by rw [HTk.out]; exact hown', (((bel1.out.alloc bel1.out.size _).alloc (by have := bel1.out.size; simp; omega) _).alloc (by have := bel1.out.size; simp; omega) _).grown hgrow (by have := bel1.out.size; simp; omega) (fun j hj => (hlt2 j hj).1)⟩
          case measure => simp [intOf]; omega
        · have ht : takes 3 = 0 := rfl
          have sv : stepV 3 n s = .iface 90 (.agg #[.string s]) := by unfold stepV; rw [if_neg (by decide), if_neg (by decide), if_pos rfl]
          rw [sv] at cs HTk
          have HR : Hid (r = run (v + 1) (L.drop (k + 1))) := by have := HD.out; rw [ht, if_pos ⟨hn, hv0⟩] at this; exact this
          clear HD hn ht sv
          go_wp2_with fail
          refine (cs _).mono ?_
          rintro e w1 ⟨rfl, hb1⟩
          have own1 : Hid (w1.ownsRow w.heap.size 55 1 u4 k ((L.take k).map fun x => stepV x.1 x.2.1 x.2.2)) := (hown.out.alloc _).kept (row := none) ⟨hb1.os, hb1.tape, hb1.output, hb1.size, fun k hk _ => hb1.block k hk⟩ (by cases hv : Value.ownBlock u4 <;> simp)
          have bel1 : Hid (Below w.heap.size w w1) := (hbel.out.alloc hbel.out.size _).trans (hb1.mono (by have := hbel.out.size; simp; omega))
          clear hown hbel hb1
          go_wp2_with (first | (at_builtin; refine wpList_append_own _ rfl (.tmp 37) (.tmp 39) 50 rfl w.heap.size 55 i0 .nilIface 1 16 Tryd.underlying50 hi hz0 hz1 hz2 rfl (by decide) _ _ _ rfl (((own1.out.alloc _).alloc _).alloc _) ⟨w1.heap.size + 1 + 1, 0, none⟩ 1 1 [.iface 90 (.agg #[.string s])] rfl rfl (new3 _ _ _ _ _) (by intro u hu; simp at hu; subst hu; rfl) (by unfold maxLen; omega) (by omega) (by have := bel1.out.size; simp; omega) ?_; intro v' w2 hown' hgrow _) | go_in)
          have hlt2 := own1.out.lt
          go_wp2
          go_roundw
          case rel => exact ⟨k + 1, _, by omega, by go_num, rfl, by omega, by omega, HR, by rw [HTk.out]; exact hown', (((bel1.out.alloc bel1.out.size _).alloc (by have := bel1.out.size; simp; omega) _).alloc (by have := bel1.out.size; simp; omega) _).grown hgrow (by have := bel1.out.size; simp; omega) (fun j hj => (hlt2 j hj).1)⟩
          case measure => simp [intOf]; omega
        · have ht : takes kd = 1 := by unfold takes; rw [if_neg (by omega), if_pos k7]
          have sv : stepV kd n s = .iface 92 (.agg #[.int .i64 kd]) := by unfold stepV; rw [if_neg (by omega), if_neg (by omega), if_neg (by omega), if_pos ⟨k4, k7⟩]
          rw [sv] at cs HTk
          by_cases hov : v < 1
          · have HR : Hid (r = none) := by have := HD.out; rw [ht, if_neg (by omega)] at this; exact this
            clear HD hn ht sv HTk
            go_wp2_with fail
            refine (cs _).mono ?_
            rintro e w1 ⟨rfl, hb1⟩
            have own1 : Hid (w1.ownsRow w.heap.size 55 1 u4 k ((L.take k).map fun x => stepV x.1 x.2.1 x.2.2)) := (hown.out.alloc _).kept (row := none) ⟨hb1.os, hb1.tape, hb1.output, hb1.size, fun k hk _ => hb1.block k hk⟩ (by cases hv : Value.ownBlock u4 <;> simp)
            have bel1 : Hid (Below w.heap.size w w1) := (hbel.out.alloc hbel.out.size _).trans (hb1.mono (by have := hbel.out.size; simp; omega))
            clear hown hbel hb1
            go_wp2
            go_ret2
            exact ⟨⟨_, by rw [HR.out]; rfl, fun h => by rw [HR.out] at h; cases h⟩, bel1.out.alloc bel1.out.size _⟩
          · have HR : Hid (r = run (v + (1 - 1)) (L.drop (k + 1))) := by have := HD.out; rw [ht, if_pos ⟨hn, by omega⟩] at this; exact this
            have HR : Hid (r = run v (L.drop (k + 1))) := by have := HR.out; rw [show v + (1 - 1) = v by omega] at this; exact this
            clear HD hn ht sv
            go_wp2_with fail
            refine (cs _).mono ?_
            rintro e w1 ⟨rfl, hb1⟩
            have own1 : Hid (w1.ownsRow w.heap.size 55 1 u4 k ((L.take k).map fun x => stepV x.1 x.2.1 x.2.2)) := (hown.out.alloc _).kept (row := none) ⟨hb1.os, hb1.tape, hb1.output, hb1.size, fun k hk _ => hb1.block k hk⟩ (by cases hv : Value.ownBlock u4 <;> simp)
            have bel1 : Hid (Below w.heap.size w w1) := (hbel.out.alloc hbel.out.size _).trans (hb1.mono (by have := hbel.out.size; simp; omega))
            clear hown hbel hb1
            go_wp2_with (first | (at_builtin; refine wpList_append_own _ rfl (.tmp 37) (.tmp 39) 50 rfl w.heap.size 55 i0 .nilIface 1 16 Tryd.underlying50 hi hz0 hz1 hz2 rfl (by decide) _ _ _ rfl (((own1.out.alloc _).alloc _).alloc _) ⟨w1.heap.size + 1 + 1, 0, none⟩ 1 1 [.iface 92 (.agg #[.int .i64 kd])] rfl rfl (new3 _ _ _ _ _) (by intro u hu; simp at hu; subst hu; rfl) (by unfold maxLen; omega) (by omega) (by have := bel1.out.size; simp; omega) ?_; intro v' w2 hown' hgrow _) | go_in)
            have hlt2 := own1.out.lt
            go_wp2
            go_roundw
            case rel => exact ⟨k + 1, _, by omega, by go_num, rfl, by omega, by omega, HR, by rw [HTk.out]; exact hown', (((bel1.out.alloc bel1.out.size _).alloc (by have := bel1.out.size; simp; omega) _).alloc (by have := bel1.out.size; simp; omega) _).grown hgrow (by have := bel1.out.size; simp; omega) (fun j hj => (hlt2 j hj).1)⟩
            case measure => simp [intOf]; omega
        · have ht : takes kd = 2 := by unfold takes; rw [if_neg (by omega), if_neg (by omega)]
          have sv : stepV kd n s = .iface 94 (.agg #[.int .i64 kd]) := by unfold stepV; rw [if_neg (by omega), if_neg (by omega), if_neg (by omega), if_neg (by omega), if_pos ⟨k8, k17⟩]
          rw [sv] at cs HTk
          by_cases hov : v < 2
          · have HR : Hid (r = none) := by have := HD.out; rw [ht, if_neg (by omega)] at this; exact this
            clear HD hn ht sv HTk
            go_wp2_with fail
            refine (cs _).mono ?_
            rintro e w1 ⟨rfl, hb1⟩
            have own1 : Hid (w1.ownsRow w.heap.size 55 1 u4 k ((L.take k).map fun x => stepV x.1 x.2.1 x.2.2)) := (hown.out.alloc _).kept (row := none) ⟨hb1.os, hb1.tape, hb1.output, hb1.size, fun k hk _ => hb1.block k hk⟩ (by cases hv : Value.ownBlock u4 <;> simp)
            have bel1 : Hid (Below w.heap.size w w1) := (hbel.out.alloc hbel.out.size _).trans (hb1.mono (by have := hbel.out.size; simp; omega))
            clear hown hbel hb1
            go_wp2
            go_ret2
            exact ⟨⟨_, by rw [HR.out]; rfl, fun h => by rw [HR.out] at h; cases h⟩, bel1.out.alloc bel1.out.size _⟩
          · have HR : Hid (r = run (v + (1 - 2)) (L.drop (k + 1))) := by have := HD.out; rw [ht, if_pos ⟨hn, by omega⟩] at this; exact this
            have HR : Hid (r = run (v + -1) (L.drop (k + 1))) := by have := HR.out; rw [show v + (1 - 2) = v + -1 by omega] at this; exact this
            clear HD hn ht sv
            go_wp2_with fail
            refine (cs _).mono ?_
            rintro e w1 ⟨rfl, hb1⟩
            have own1 : Hid (w1.ownsRow w.heap.size 55 1 u4 k ((L.take k).map fun x => stepV x.1 x.2.1 x.2.2)) := (hown.out.alloc _).kept (row := none) ⟨hb1.os, hb1.tape, hb1.output, hb1.size, fun k hk _ => hb1.block k hk⟩ (by cases hv : Value.ownBlock u4 <;> simp)
            have bel1 : Hid (Below w.heap.size w w1) := (hbel.out.alloc hbel.out.size _).trans (hb1.mono (by have := hbel.out.size; simp; omega))
            clear hown hbel hb1
            go_wp2_with (first | (at_builtin; refine wpList_append_own _ rfl (.tmp 37) (.tmp 39) 50 rfl w.heap.size 55 i0 .nilIface 1 16 Tryd.underlying50 hi hz0 hz1 hz2 rfl (by decide) _ _ _ rfl (((own1.out.alloc _).alloc _).alloc _) ⟨w1.heap.size + 1 + 1, 0, none⟩ 1 1 [.iface 94 (.agg #[.int .i64 kd])] rfl rfl (new3 _ _ _ _ _) (by intro u hu; simp at hu; subst hu; rfl) (by unfold maxLen; omega) (by omega) (by have := bel1.out.size; simp; omega) ?_; intro v' w2 hown' hgrow _) | go_in)
            have hlt2 := own1.out.lt
            go_wp2
            go_roundw
            case rel => exact ⟨k + 1, _, by omega, by go_num, rfl, by omega, by omega, HR, by rw [HTk.out]; exact hown', (((bel1.out.alloc bel1.out.size _).alloc (by have := bel1.out.size; simp; omega) _).alloc (by have := bel1.out.size; simp; omega) _).grown hgrow (by have := bel1.out.size; simp; omega) (fun j hj => (hlt2 j hj).1)⟩
            case measure => simp [intOf]; omega
    · have HR : Hid (r = some v) := by
        have := hrun.out
        rw [List.drop_eq_nil_of_le (by have := HL.out; omega)] at this
        exact this
      have HTL : Hid ((L.take len).map (fun x => stepV x.1 x.2.1 x.2.2) = L.map fun x => stepV x.1 x.2.1 x.2.2) := by show _ = _; rw [HL.out, List.take_length]
      clear hrun hN
      go_wp2
      go_ret2
      exact ⟨⟨_, by rw [HR.out]; rfl, fun _ => by have e : k = len := (by omega); rw [e] at hown; rw [← HTL.out, ← HL.out]; exact hown.out⟩, hbel.out⟩

end Go.Proofs.YtlobkgohenebmaaDoor.Stepx
