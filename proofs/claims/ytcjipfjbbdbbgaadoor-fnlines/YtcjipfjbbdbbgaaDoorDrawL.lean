/-
  Contracts of ours for what makes drawn lines: the reader's args, spec.DrawLineOk.
-/
import Derived.Test.YtcjipfjbbdbbgaaDoorDrawT
import Derived.Test.YtcjipfjbbdbbgaaDoorRounb
import Derived.Deep.DeepCutAuto
namespace Go.Proofs.YtcjipfjbbdbbgaaDoor.DrawL
open Go.ChangeShapes Go.WideShapes Go.ChangeAt Go.RowKit Go.Deep
set_option linter.unusedVariables false
open Rdr (Rd Post IsRow)
open Names (empty_yes empty_no)
open Readl (Box)
open Slims (list_cat)

/-- A short text without a colon. -/
def Nc (k : Nat) (t : ByteArray) : Prop := t.size ≤ k ∧ (58 : UInt8) ∉ t.data.toList
theorem Nc.cat {a b : Nat} {s t : ByteArray} (hs : Nc a s) (ht : Nc b t) : Nc (a + b) (s ++ t) := by
  refine ⟨by rw [ByteArray.size_append]; have := hs.1; have := ht.1; omega, ?_⟩
  rw [list_cat, List.mem_append]
  exact fun h => h.elim hs.2 ht.2
theorem Nc.mono {a b : Nat} {s : ByteArray} (h : Nc a s) (hab : a ≤ b) : Nc b s := ⟨Nat.le_trans h.1 hab, h.2⟩
theorem nc_nil : Nc 0 ⟨#[]⟩ := ⟨Nat.le_refl _, List.not_mem_nil⟩
theorem row_prop {P : ByteArray → Prop} {W w1 w2 : World} {rb : Nat} {T : TypeId} {C : List ByteArray} (hp : Post W rb w2) (hW : W.heap = (w1.alloc (.cells (C.map Value.string).toArray T)).heap) (hl : rb < w1.heap.size) (hP : ∀ t ∈ C, P t) {y : Int} (y0 : 0 ≤ y) (y1 : y < C.length) :
    ∃ t : ByteArray, P t ∧ w2.cell? ⟨w1.heap.size, y.toNat, none⟩ = some (.string t) := by
  have h : y.toNat < C.length := by omega
  refine ⟨C[y.toNat], hP _ (List.getElem_mem h), (Draw.row_cell hp hW hl y.toNat).trans ?_⟩
  simp [h]
theorem get_prop {P : ByteArray → Prop} {C : List ByteArray} (hP : ∀ t ∈ C, P t) {y : Int} (y0 : 0 ≤ y) (y1 : y < C.length) : ∃ t : ByteArray, P t ∧ ∀ h, (C.map Value.string)[y.toNat]'h = .string t := by
  have h : y.toNat < C.length := by omega
  exact ⟨C[y.toNat], hP _ (List.getElem_mem h), fun h => by simp⟩
theorem Post.re {W W' w2 : World} {rb : Nat} (h : Post W rb w2) (e1 : W'.heap = W.heap) (e2 : W'.os = W.os) (e3 : W'.tape = W.tape) (e4 : W'.output = W.output) : Post W' rb w2 :=
  ⟨h.1, ⟨h.2.os.trans e2.symm, h.2.tape.trans e3.symm, h.2.output.trans e4.symm, by rw [e1]; exact h.2.size, fun k hk hne => by rw [e1]; exact h.2.block k (by rw [e1] at hk; exact hk) hne⟩⟩
theorem Box.post {w w' : World} {rb b : Nat} {x y z : ByteArray} (h : Box w b x y z) (hp : Post w rb w') (hne : b ≠ rb) : Box w' b x y z := by
  have hb : w'.heap[b]? = w.heap[b]? := hp.2.block b h.lt (fun e => hne (Option.some.inj e))
  have e : ∀ i, w'.cell? ⟨b, i, none⟩ = w.cell? ⟨b, i, none⟩ ∧ w'.frozen? ⟨b, i, none⟩ = w.frozen? ⟨b, i, none⟩ := fun i => ⟨World.cell?_of_block (a := ⟨b, i, none⟩) hb, World.frozen?_of_block (a := ⟨b, i, none⟩) hb⟩
  unfold Readl.Box; rw [(e 0).1, (e 0).2, (e 1).1, (e 1).2, (e 2).1, (e 2).2]; exact h
theorem post_set {a w : World} {rb : Nat} (h : Post a rb w) (b i : Nat) (v : Value) (hb : a.heap.size ≤ b) (hl : rb < a.heap.size) : Post a rb (w.setCell ⟨b, i, none⟩ v) := by
  have hg := Rdr.grown_set w b i v
  refine ⟨h.1.kept fun k hk => hg.block k (Nat.lt_of_le_of_lt hk h.1.lt) (fun e => by have : k = b := Option.some.inj e; omega), ⟨h.2.os, h.2.tape, h.2.output, Nat.le_trans h.2.size hg.size, fun k hk hne => ?_⟩⟩
  exact (hg.block k (Nat.lt_of_lt_of_le hk h.2.size) (fun e => by have : k = b := Option.some.inj e; omega)).trans (h.2.block k hk hne)

theorem tabA_nc : ∀ t ∈ DrawT.tabA, Nc 5 t := by unfold DrawT.tabA Nc; decide
set_option maxHeartbeats 1000000 in
theorem args_any (rb : Nat) (w : World) (h : Rd w rb) :
    Calls Tryd.prog 32 #[.pointer (some ⟨rb, 0, none⟩)] w fun e w' => (∃ t : ByteArray, Nc 12 t ∧ e = .returned (.string t)) ∧ Post w rb w' := by
  have H : Hid (Rd w rb) := h
  clear h
  go_enter Tryd.func32, Tryd.ntmps32
  go_wp2_with fail
  refine (Rdr.below_any _ _ _ H.out (by decide) (by decide)).mono ?_
  rintro e w1 ⟨⟨x, x0, x1, rfl⟩, hp⟩
  have HP : Hid (Post w rb w1) := hp
  clear hp H
  go_wp2
  go_loopw [3, 4] (fun s i wr => ∃ (t : ByteArray) (m : Nat), m ≤ 2 ∧ Hid (Nc (6 * (2 - m)) t) ∧ t.size ≤ 12 ∧ s = .string t ∧ i = .int .i64 m ∧ Hid (Post w rb wr)) (fun _ i _ => (intOf i).toNat)
  case atStart => exact ⟨⟨#[]⟩, x.toNat, by omega, nc_nil.mono (Nat.zero_le _), Nat.zero_le _, rfl, by rw [show ((x.toNat : Nat) : Int) = x by omega], HP.out⟩
  case round =>
    obtain ⟨t, m, hm1, hn, ht, rfl, rfl, hp⟩ := hrel
    clear HP
    by_cases hlt : 0 < m
    · by_cases h0 : t.size = 0
      · have he := empty_yes h0
        go_wp2_with fail
        refine (Rdr.below_any _ _ _ (hp.out.alloc _).1 (by decide) (by decide)).mono ?_
        rintro e w2 ⟨⟨y, y0, y1, rfl⟩, hp'⟩
        obtain ⟨z, hz, hc⟩ := row_prop (C := DrawT.tabA) hp' rfl hp.out.1.lt tabA_nc y0 y1
        have HQ : Hid (Post w rb w2) := (hp.out.alloc _).trans hp'
        have HN : Hid (Nc (6 * (2 - (m - 1))) (t ++ z)) := (hn.out.cat hz).mono (by omega)
        have hz1 := hz.1
        have hs1 : (t ++ z).size ≤ 12 := Nat.le_trans HN.out.1 (by omega)
        clear hp hp' hn hz
        go_wp2
        go_roundw
        case rel => exact ⟨t ++ z, m - 1, by omega, HN.out, hs1, rfl, by rw [show (((m - 1 : Nat) : Int)) = (m : Int) - 1 by omega], HQ.out⟩
        case measure => simp [intOf]; omega
      · have he := empty_no h0
        have q1 : (t ++ (⟨#[44]⟩ : ByteArray)).size = t.size + 1 := by rw [ByteArray.size_append]; rfl
        have n44 : Nc 1 (⟨#[44]⟩ : ByteArray) := by unfold Nc; decide
        go_wp2_with fail
        refine (Rdr.below_any _ _ _ (hp.out.alloc _).1 (by decide) (by decide)).mono ?_
        rintro e w2 ⟨⟨y, y0, y1, rfl⟩, hp'⟩
        obtain ⟨z, hz, hc⟩ := row_prop (C := DrawT.tabA) hp' rfl hp.out.1.lt tabA_nc y0 y1
        have HQ : Hid (Post w rb w2) := (hp.out.alloc _).trans hp'
        have HN : Hid (Nc (6 * (2 - (m - 1))) (t ++ (⟨#[44]⟩ : ByteArray) ++ z)) := ((hn.out.cat n44).cat hz).mono (by omega)
        have hz1 := hz.1
        have hs1 : (t ++ (⟨#[44]⟩ : ByteArray) ++ z).size ≤ 12 := Nat.le_trans HN.out.1 (by omega)
        clear hp hp' hn hz n44
        go_wp2
        go_roundw
        case rel => exact ⟨t ++ (⟨#[44]⟩ : ByteArray) ++ z, m - 1, by omega, HN.out, hs1, rfl, by rw [show (((m - 1 : Nat) : Int)) = (m : Int) - 1 by omega], HQ.out⟩
        case measure => simp [intOf]; omega
    · go_wp2
      go_ret
      exact ⟨⟨t, hn.out.mono (by omega), rfl⟩, hp.out⟩

def tabO : List ByteArray := [⟨#[108, 100]⟩, ⟨#[]⟩, ⟨#[100, 98]⟩, ⟨#[115, 101, 99, 116, 105, 111, 110]⟩, ⟨#[76, 100]⟩, ⟨#[97, 98, 99, 100, 101, 102, 103, 104, 105, 106, 107]⟩]
theorem tabO_nc : ∀ t ∈ tabO, Nc 11 t := by unfold tabO Nc; decide
/-- A drawn line in its box. -/
def Made (k : Nat) (w0 w : World) (rb b : Nat) : Prop := ∃ l o a : ByteArray, Nc 11 l ∧ Nc 11 o ∧ Nc k a ∧ Box w b l o a ∧ Post w0 rb w ∧ w0.heap.size ≤ b
theorem box_store {w : World} {b : Nat} (h : Box w b ⟨#[]⟩ ⟨#[]⟩ ⟨#[]⟩) (x y z : ByteArray) : Box (((w.setCell ⟨b, 0, none⟩ (.string x)).setCell ⟨b, 1, none⟩ (.string y)).setCell ⟨b, 2, none⟩ (.string z)) b x y z := ((h.set0 x).set1 y).set2 z
theorem over {W w2 : World} {rb : Nat} (hp : Post W rb w2) : (∀ b o, ¬ b = rb → b < W.heap.size → w2.cell? ⟨b, o, none⟩ = W.cell? ⟨b, o, none⟩) ∧ (∀ b o, ¬ b = rb → b < W.heap.size → w2.frozen? ⟨b, o, none⟩ = W.frozen? ⟨b, o, none⟩) :=
  ⟨fun b o hn hl => World.cell?_of_block (a := ⟨b, o, none⟩) (hp.2.block b hl (fun e => hn (Option.some.inj e))), fun b o hn hl => World.frozen?_of_block (a := ⟨b, o, none⟩) (hp.2.block b hl (fun e => hn (Option.some.inj e)))⟩
theorem get6 {y : Int} (y0 : 0 ≤ y) (y1 : y < 6) : ∃ t : ByteArray, Nc 11 t ∧ (∀ h, ([Value.string ⟨#[108, 100]⟩, .string ⟨#[]⟩, .string ⟨#[100, 98]⟩, .string ⟨#[115, 101, 99, 116, 105, 111, 110]⟩, .string ⟨#[76, 100]⟩, .string ⟨#[97, 98, 99, 100, 101, 102, 103, 104, 105, 106, 107]⟩] : List Value)[y.toNat]'h = .string t) ∧ ([Value.string ⟨#[108, 100]⟩, .string ⟨#[]⟩, .string ⟨#[100, 98]⟩, .string ⟨#[115, 101, 99, 116, 105, 111, 110]⟩, .string ⟨#[76, 100]⟩, .string ⟨#[97, 98, 99, 100, 101, 102, 103, 104, 105, 106, 107]⟩] : List Value)[y.toNat]? = some (.string t) ∧ (#[Value.string ⟨#[108, 100]⟩, .string ⟨#[]⟩, .string ⟨#[100, 98]⟩, .string ⟨#[115, 101, 99, 116, 105, 111, 110]⟩, .string ⟨#[76, 100]⟩, .string ⟨#[97, 98, 99, 100, 101, 102, 103, 104, 105, 106, 107]⟩] : Array Value)[y.toNat]? = some (.string t) := by
  obtain ⟨t, ht, hg⟩ := get_prop (C := tabO) tabO_nc y0 y1
  have hl : y.toNat < 6 := by omega
  have hg' : ∀ h, ([Value.string ⟨#[108, 100]⟩, .string ⟨#[]⟩, .string ⟨#[100, 98]⟩, .string ⟨#[115, 101, 99, 116, 105, 111, 110]⟩, .string ⟨#[76, 100]⟩, .string ⟨#[97, 98, 99, 100, 101, 102, 103, 104, 105, 106, 107]⟩] : List Value)[y.toNat]'h = .string t := hg
  have h2 : ([Value.string ⟨#[108, 100]⟩, .string ⟨#[]⟩, .string ⟨#[100, 98]⟩, .string ⟨#[115, 101, 99, 116, 105, 111, 110]⟩, .string ⟨#[76, 100]⟩, .string ⟨#[97, 98, 99, 100, 101, 102, 103, 104, 105, 106, 107]⟩] : List Value)[y.toNat]? = some (.string t) := by rw [List.getElem?_eq_getElem (by simpa using hl), hg']
  exact ⟨t, ht, hg', h2, by rw [List.getElem?_toArray]; exact h2⟩

def tabX : List ByteArray := [⟨#[32]⟩, ⟨#[59]⟩, ⟨#[44, 32, 98]⟩, ⟨#[32, 32, 99]⟩]
theorem tabX_nc : ∀ t ∈ tabX, Nc 3 t := by unfold tabX Nc; decide
theorem get4 {y : Int} (y0 : 0 ≤ y) (y1 : y < 4) : ∃ t : ByteArray, Nc 3 t ∧ (∀ h, ([Value.string ⟨#[32]⟩, .string ⟨#[59]⟩, .string ⟨#[44, 32, 98]⟩, .string ⟨#[32, 32, 99]⟩] : List Value)[y.toNat]'h = .string t) ∧ ([Value.string ⟨#[32]⟩, .string ⟨#[59]⟩, .string ⟨#[44, 32, 98]⟩, .string ⟨#[32, 32, 99]⟩] : List Value)[y.toNat]? = some (.string t) ∧ (#[Value.string ⟨#[32]⟩, .string ⟨#[59]⟩, .string ⟨#[44, 32, 98]⟩, .string ⟨#[32, 32, 99]⟩] : Array Value)[y.toNat]? = some (.string t) := by
  obtain ⟨t, ht, hg⟩ := get_prop (C := tabX) tabX_nc y0 y1
  have hl : y.toNat < 4 := by omega
  have hg' : ∀ h, ([Value.string ⟨#[32]⟩, .string ⟨#[59]⟩, .string ⟨#[44, 32, 98]⟩, .string ⟨#[32, 32, 99]⟩] : List Value)[y.toNat]'h = .string t := hg
  have h2 : ([Value.string ⟨#[32]⟩, .string ⟨#[59]⟩, .string ⟨#[44, 32, 98]⟩, .string ⟨#[32, 32, 99]⟩] : List Value)[y.toNat]? = some (.string t) := by rw [List.getElem?_eq_getElem (by simpa using hl), hg']
  exact ⟨t, ht, hg', h2, by rw [List.getElem?_toArray]; exact h2⟩

set_option maxHeartbeats 100000000 in
theorem drawLine_any (a : Option Addr) (len cap : Nat) (zs : List Int) (w : World) (h : IsRow .u8 w a len cap zs) :
    Calls Tryd.prog 13 #[.slice a len cap] w fun e w' => (∃ l o x : ByteArray, Nc 11 l ∧ Nc 11 o ∧ Nc 30 x ∧ e = .returned (.agg #[.string l, .string o, .string x])) ∧ Below w.heap.size w w' := by
  have hW : IsRow .u8 (w.alloc (.cells #[.string ⟨#[]⟩, .string ⟨#[]⟩, .string ⟨#[]⟩] 25)) a len cap zs := h.below (Lines.grow (Below.refl _ _) _)
  have co := Rdr.open_any a len cap zs _ hW
  clear h hW
  go_enter Tryd.func13, Tryd.ntmps13
  go_wp2_with fail
  refine co.mono ?_
  rintro e w1 ⟨rfl, hr1, hb1⟩
  clear co
  have hr2 : Rd w1 (w.heap.size + 1) := by simpa using hr1
  have hl1 := hr2.lt
  have P1 : Hid (Post w1 (w.heap.size + 1) w1) := Post.refl hr2
  have B1 : Hid (Below w.heap.size w w1) := (Lines.grow (Below.refl _ _) _).trans (hb1.mono (by simp))
  have Y1 : Hid (Box w1 w.heap.size ⟨#[]⟩ ⟨#[]⟩ ⟨#[]⟩) := (Readl.Box.new w _ _ _ _).below hb1
  clear hr1 hb1 hr2
  have n1 : ¬ w1.heap.size = w.heap.size + 1 := by omega
  have n2 : ¬ w1.heap.size = w.heap.size := by omega
  go_upto_region 2 with fail
  go_cut [4] (fun p wx => ∃ b : Nat, p = .pointer (some ⟨b, 0, none⟩) ∧ Hid (Made 20 w1 wx (w.heap.size + 1) b))
  case first =>
    go_region_with (first
      | (go_at_call 27; refine (Rdr.below_any _ _ _ ?rd (by decide) (by decide)).mono ?_; (case rd => first | exact P1.out.1 | exact (P1.out.alloc _).1 | exact ((P1.out.alloc _).alloc _).1 | exact P1.out.1.kept (fun _ _ => rfl) | exact (P1.out.alloc _).1.kept (fun _ _ => rfl) | exact ((P1.out.alloc _).alloc _).1.kept (fun _ _ => rfl)); rintro e w2 ⟨⟨y, y0, y1, rfl⟩, hp2⟩; obtain ⟨t, ht, hg1, hg2, hg3⟩ := get6 y0 y1; obtain ⟨k2, f2⟩ := over hp2; have z2 := hp2.2.size; (try simp at z2); (try simp at k2); (try simp at f2); (try (have z2a : w1.heap.size < w2.heap.size := by omega)); (try (have z2b : w1.heap.size + 1 < w2.heap.size := by omega)); have n3 : ¬ w2.heap.size = w.heap.size + 1 := (by omega); have n4 : ¬ w2.heap.size = w.heap.size := (by omega); have ht1 := ht.1; have HT : Hid (Nc 11 t) := ht; clear ht; have H2 : Hid (Post _ _ w2) := hp2; clear hp2)
      | (go_at_call 32; refine (args_any _ _ ?rd).mono ?_; (case rd => first | exact H2.out.1 | exact (H2.out.alloc _).1 | exact ((H2.out.alloc _).alloc _).1 | exact H2.out.1.kept (fun _ _ => rfl) | exact (H2.out.alloc _).1.kept (fun _ _ => rfl) | exact ((H2.out.alloc _).alloc _).1.kept (fun _ _ => rfl)); rintro e w3 ⟨⟨u, hu, rfl⟩, hp3⟩; obtain ⟨k3, f3⟩ := over hp3; have z3 := hp3.2.size; (try simp at z3); (try simp at k3); (try simp at f3); (try (have z3a : w2.heap.size < w3.heap.size := by omega)); (try (have z3b : w2.heap.size + 1 < w3.heap.size := by omega)); (try (have z3c : w1.heap.size < w3.heap.size := by omega)); (try (have z3d : w1.heap.size + 1 < w3.heap.size := by omega)); have H3 : Hid (Post _ _ w3) := hp3; clear hp3)
      | fail)
    all_goals
      have P2 : Hid (Post w1 (w.heap.size + 1) w2) := by first | exact Post.re H2.out rfl rfl rfl rfl | exact (P1.out.alloc _).trans (Post.re H2.out rfl rfl rfl rfl) | exact ((P1.out.alloc _).alloc _).trans (Post.re H2.out rfl rfl rfl rfl)
      have P3 : Hid (Post w1 (w.heap.size + 1) w3) := by first | exact P2.out.trans (Post.re H3.out rfl rfl rfl rfl) | exact (P2.out.alloc _).trans (Post.re H3.out rfl rfl rfl rfl) | exact ((P2.out.alloc _).alloc _).trans (Post.re H3.out rfl rfl rfl rfl)
      go_wp2_with fail
      go_meet
      refine ⟨_, rfl, ?_⟩
      refine ⟨⟨#[]⟩, t, u, nc_nil.mono (by decide), HT.out, hu.mono (by decide), ?bx, ?ps, ?le⟩
      case bx =>
        first
          | with_reducible exact Readl.Box.new _ _ _ _ _
          | with_reducible exact (Readl.Box.new _ _ _ _ _).below (Lines.grow (Below.refl _ _) _)
          | ((with_reducible refine box_store ?_ _ _ _); refine ⟨⟨?_, ?_⟩, ⟨?_, ?_⟩, ⟨?_, ?_⟩⟩ <;> first | (go_simp; done) | (simp [*]; done))
          | ((with_reducible refine Readl.Box.below (box_store ?_ _ _ _) (Lines.grow (Below.refl _ _) _)); refine ⟨⟨?_, ?_⟩, ⟨?_, ?_⟩, ⟨?_, ?_⟩⟩ <;> first | (go_simp; done) | (simp [*]; done))
          | (have hx := Readl.Box.new (w3.alloc (.cells #[.string ⟨#[108, 100]⟩, .string ⟨#[]⟩, .string ⟨#[100, 98]⟩, .string ⟨#[115, 101, 99, 116, 105, 111, 110]⟩, .string ⟨#[76, 100]⟩, .string ⟨#[97, 98, 99, 100, 101, 102, 103, 104, 105, 106, 107]⟩] 9)) ⟨#[]⟩ t u 25; simpa using hx)
      case ps =>
        first
          | with_reducible exact P3.out.alloc _
          | with_reducible exact (P3.out.alloc _).alloc _
          | with_reducible exact post_set (post_set (post_set P3.out _ _ _ (by omega) hl1) _ _ _ (by omega) hl1) _ _ _ (by omega) hl1
          | with_reducible exact (post_set (post_set (post_set P3.out _ _ _ (by omega) hl1) _ _ _ (by omega) hl1) _ _ _ (by omega) hl1).alloc _
      case le => first | omega | (have := P3.out.2.size; omega) | (have := P3.out.2.size; have := P2.out.2.size; omega)
  case rest =>
    obtain ⟨b, rfl, hm⟩ := hcut
    clear n1 n2 P1
    obtain ⟨l, o, x, hl, ho, hx, hbox, hpost, hle⟩ := hm.out
    have HL := (show Hid (Nc 11 l) from hl)
    have HO := (show Hid (Nc 11 o) from ho)
    have HX := (show Hid (Nc 20 x) from hx)
    have X1 : Hid (Box wc b l o x) := hbox
    have P1 : Hid (Post w1 (w.heap.size + 1) wc) := hpost
    clear hm hl ho hx hbox hpost
    go_wp2_with fail
    refine (Rdr.once_any _ _ _ P1.out.1 (by decide) (by decide)).mono ?_
    rintro e w2 ⟨⟨q, rfl⟩, hp2⟩
    have X2 : Hid (Box w2 b l o x) := Box.post X1.out hp2 (by omega)
    have P2 : Hid (Post w1 (w.heap.size + 1) w2) := P1.out.trans hp2
    clear hp2 X1 P1
    go_upto_if 16 with fail
    go_cut [] (fun wx => Hid (Made 20 w1 wx (w.heap.size + 1) b))
    case first =>
      cases q with
      | false =>
        go_wp2_with fail
        go_meet
        exact ⟨l, o, x, HL.out, HO.out, HX.out, X2.out, P2.out, hle⟩
      | true =>
        go_wp2_with fail
        refine (Rdr.below_any _ _ _ (P2.out.alloc _).1 (by decide) (by decide)).mono ?_
        rintro e w3 ⟨⟨y, y0, y1, rfl⟩, hp3⟩
        obtain ⟨z, hz, hc⟩ := row_prop (C := [⟨#[120]⟩, ⟨#[46, 121]⟩, ⟨#[108, 111, 111, 112]⟩, ⟨#[49]⟩]) (P := Nc 11) hp3 rfl P2.out.1.lt (by unfold Nc; decide) y0 y1
        have HZ := (show Hid (Nc 11 z) from hz)
        have X3 : Hid (Box w3 b l o x) := Box.post (X2.out.below (Lines.grow (Below.refl _ _) _)) hp3 (by omega)
        have P3 : Hid (Post w1 (w.heap.size + 1) w3) := (P2.out.alloc _).trans hp3
        clear hp3 X2 P2 hz
        obtain ⟨⟨ba, bd⟩, ⟨bb, be⟩, ⟨bc, bf⟩⟩ := X3.out
        go_wp2_with fail
        go_meet
        exact ⟨z, o, x, HZ.out, HO.out, HX.out, X3.out.set0 z, post_set P3.out _ _ _ hle hl1, hle⟩
    case rest =>
    have hm2 := hcut
    clear hcut HL HO HX X2 P2
    go_upto_region 5 with fail
    go_cut [30] (fun v wx => ∃ q : Bool, v = .bool q ∧ Hid (Made 20 w1 wx (w.heap.size + 1) b))
    case first =>
      obtain ⟨l, o, x, hl, ho, hx, hbox, hpost, _⟩ := hm2.out
      have HL := (show Hid (Nc 11 l) from hl)
      have HO := (show Hid (Nc 11 o) from ho)
      have HX := (show Hid (Nc 20 x) from hx)
      have X1 : Hid (Box wc b l o x) := hbox
      have P1 : Hid (Post w1 (w.heap.size + 1) wc) := hpost
      clear hm2 hl ho hx hbox hpost
      obtain ⟨⟨ba, bd⟩, ⟨bb, be⟩, ⟨bc, bf⟩⟩ := X1.out
      by_cases h0 : o.size = 0
      · have he := empty_yes h0
        go_wp2_with fail
        refine (Rdr.once_any _ _ _ P1.out.1 (by decide) (by decide)).mono ?_
        rintro e w2 ⟨⟨q, rfl⟩, hp2⟩
        have X2 : Hid (Box w2 b l o x) := Box.post X1.out hp2 (by omega)
        have P2 : Hid (Post w1 (w.heap.size + 1) w2) := P1.out.trans hp2
        clear hp2 X1 P1 ba bb bc bd be bf
        go_wp2_with fail
        go_meet
        exact ⟨_, rfl, l, o, x, HL.out, HO.out, HX.out, X2.out, P2.out, hle⟩
      · have he := empty_no h0
        go_wp2_with fail
        go_meet
        exact ⟨_, rfl, l, o, x, HL.out, HO.out, HX.out, X1.out, P1.out, hle⟩
    case rest =>
    obtain ⟨q, rfl, hm3⟩ := hcut
    clear hm2
    go_upto_if 30 with fail
    go_cut [] (fun wx => Hid (Made 20 w1 wx (w.heap.size + 1) b))
    case first =>
      obtain ⟨l, o, x, hl, ho, hx, hbox, hpost, _⟩ := hm3.out
      have HL := (show Hid (Nc 11 l) from hl)
      have HO := (show Hid (Nc 11 o) from ho)
      have HX := (show Hid (Nc 20 x) from hx)
      have X2 : Hid (Box wc b l o x) := hbox
      have P2 : Hid (Post w1 (w.heap.size + 1) wc) := hpost
      clear hm3 hl ho hx hbox hpost
      obtain ⟨⟨ba, bd⟩, ⟨bb, be⟩, ⟨bc, bf⟩⟩ := X2.out
      cases q with
      | false =>
        go_wp2_with fail
        go_meet
        exact ⟨l, o, x, HL.out, HO.out, HX.out, X2.out, P2.out, hle⟩
      | true =>
        go_wp2_with fail
        go_meet
        exact ⟨l, o, ⟨#[]⟩, HL.out, HO.out, nc_nil.mono (by decide), X2.out.set2 _, post_set P2.out _ _ _ hle hl1, hle⟩
    case rest =>
    obtain ⟨l, o, x, hl, ho, hx, hbox, hpost, _⟩ := hcut.out
    have HL := (show Hid (Nc 11 l) from hl)
    have HO := (show Hid (Nc 11 o) from ho)
    have HX := (show Hid (Nc 20 x) from hx)
    have hxz := hx.1
    have X1 : Hid (Box wc b l o x) := hbox
    have P1 : Hid (Post w1 (w.heap.size + 1) wc) := hpost
    clear hcut hm3 hl ho hx hbox hpost
    go_wp2_with fail
    refine (Rdr.once_any _ _ _ P1.out.1 (by decide) (by decide)).mono ?_
    rintro e w2 ⟨⟨q2, rfl⟩, hp2⟩
    have X2 : Hid (Box w2 b l o x) := Box.post X1.out hp2 (by omega)
    have P2 : Hid (Post w1 (w.heap.size + 1) w2) := P1.out.trans hp2
    clear hp2 X1 P1
    go_upto_if 33 with fail
    go_cut [] (fun wx => Hid (Made 30 w1 wx (w.heap.size + 1) b))
    case first =>
      cases q2 with
      | false =>
        go_wp2_with fail
        go_meet
        exact ⟨l, o, x, HL.out, HO.out, HX.out.mono (by decide), X2.out, P2.out, hle⟩
      | true =>
        obtain ⟨⟨ba, bd⟩, ⟨bb, be⟩, ⟨bc, bf⟩⟩ := X2.out
        have hb2 := X2.out.lt
        have hr2 := P2.out.1.lt
        have m1 : ¬ b = w.heap.size + 1 := by omega
        have m2 : ¬ w2.heap.size = w.heap.size + 1 := by omega
        have m3 : ¬ w2.heap.size = b := by omega
        have m4 : b < w2.heap.size + 1 := by omega
        go_wp2_with fail
        go_region_with (first
          | (go_at_call 27; refine (Rdr.below_any _ _ _ ?rd (by decide) (by decide)).mono ?_; (case rd => first | exact P2.out.1 | exact (P2.out.alloc _).1 | exact P2.out.1.kept (fun _ _ => rfl) | exact (P2.out.alloc _).1.kept (fun _ _ => rfl)); rintro e w3 ⟨⟨y, y0, y1, rfl⟩, hp3⟩; obtain ⟨t, ht, hg1, hg2, hg3⟩ := get4 y0 y1; obtain ⟨k3, f3⟩ := over hp3; have z3 := hp3.2.size; (try simp at z3); (try simp at k3); (try simp at f3); (try (have z3a : w2.heap.size < w3.heap.size := by omega)); have z3b : b < w3.heap.size := (by omega); have ht1 := ht.1; have qq : ¬ 9223372036854775807 < x.size + t.size := (by omega); have HT : Hid (Nc 3 t) := ht; clear ht; have H3 : Hid (Post _ _ w3) := hp3; clear hp3)
          | fail)
        all_goals
          have P3 : Hid (Post w1 (w.heap.size + 1) w3) := by first | exact P2.out.trans (Post.re H3.out rfl rfl rfl rfl) | exact (P2.out.alloc _).trans (Post.re H3.out rfl rfl rfl rfl)
          have X3 : Hid (Box w3 b l o x) := by first | exact Box.post X2.out (Post.re H3.out rfl rfl rfl rfl) m1 | exact Box.post (X2.out.below (Lines.grow (Below.refl _ _) _)) (Post.re H3.out rfl rfl rfl rfl) m1
          go_wp2_with fail
          go_meet
          refine ⟨l, o, x ++ t, HL.out, HO.out, (HX.out.cat HT.out).mono (by decide), ?bx, ?ps, hle⟩
          case bx => first | exact X3.out.set2 _ | exact (X3.out.set2 _).below (Lines.grow (Below.refl _ _) _) | exact (X3.out.below (Lines.grow (Below.refl _ _) _)).set2 _
          case ps => first | exact post_set P3.out _ _ _ hle hl1 | exact (post_set P3.out _ _ _ hle hl1).alloc _ | exact post_set (P3.out.alloc _) _ _ _ hle hl1
    case rest =>
    clear HL HO HX X2 P2
    obtain ⟨l, o, x, hl, ho, hx, hbox, hpost, _⟩ := hcut.out
    have HR : Hid (Nc 11 l ∧ Nc 11 o ∧ Nc 30 x) := ⟨hl, ho, hx⟩
    have X1 : Hid (Box wc b l o x) := hbox
    have Y2 : Hid (Box wc w.heap.size ⟨#[]⟩ ⟨#[]⟩ ⟨#[]⟩) := Box.post Y1.out hpost (by omega)
    have B2 : Hid (Below w.heap.size w wc) := B1.out.trans (hpost.below (Nat.le_succ _) (Nat.le_of_lt hl1))
    clear hcut hl ho hx hbox hpost
    obtain ⟨⟨ba, bd⟩, ⟨bb, be⟩, ⟨bc, bf⟩⟩ := X1.out
    obtain ⟨⟨ra, rd⟩, ⟨rb, re⟩, ⟨rc, rf⟩⟩ := Y2.out
    clear X1 Y2
    go_wp2_with fail
    exact bodyPost_ret (v := .agg #[.string l, .string o, .string x]) (by simp [results, Tryd.results13, go_sem, ra, rb, rc]) rfl ⟨⟨l, o, x, HR.out.1, HR.out.2.1, HR.out.2.2, rfl⟩, Readl.below3 B2.out _ 0 0 (Nat.le_refl _) _ _ _ _ _ _⟩
end Go.Proofs.YtcjipfjbbdbbgaaDoor.DrawL
