/-
  What the draws of chapter 12 can answer; and nothing old is written.
-/
import Derived.Test.YtpnaohonadoofaaDoorDrawP
import Derived.Deep.Cut
import Derived.Deep.DeepCutAuto
namespace Go.Proofs.YtpnaohonadoofaaDoor.DrawQ
open Go.ChangeShapes Go.WideShapes Go.ChangeAt Go.RowKit
open Rdr (Rd Post)
open DrawI DrawP
set_option linter.unusedVariables false
set_option maxRecDepth 20000

theorem any_cons {P : Program} {ops : Array Oper} {Q : Exit → Act → World → Prop} {md : Region.Mode} {fuel : Nat} {listed : Array Bool} {a : Act} {w : World} {i : Nat} {o : Oper} {rs : List Nat} (ho : ops[i]? = some o) (hg : Region.wanted o (yielded ops a.tmps) = true)
    (h : ∀ K' : Act → World → Prop, (∀ a w, wpAny P md ops Q fuel (listed.setIfInBounds i true) a w → K' a w) → Oper.wp P o a w K' Q) (hs : AllReady P md ops Q fuel listed a w rs) : AllReady P md ops Q fuel listed a w (i :: rs) :=
  AllReady.cons ho (fun K hK => by simp only [hg, if_true]; exact h K hK) hs
/-- The block B is the row of the five titles. -/
def RowT (w : World) (B : Nat) : Prop := w.heap[B]? = some (.cells #[Value.string ⟨#[]⟩, Value.string ⟨#[71, 65, 77, 69]⟩, Value.string ⟨#[49, 50, 51, 52, 53, 54, 55, 56, 57, 48, 49, 50, 51, 52, 53]⟩, Value.string ⟨#[49, 50, 51, 52, 53, 54, 55, 56, 57, 48, 49, 50, 51, 52, 53, 54]⟩, Value.string ⟨#[10]⟩] 9)
theorem RowT.new (w : World) : RowT (w.alloc (.cells #[Value.string ⟨#[]⟩, Value.string ⟨#[71, 65, 77, 69]⟩, Value.string ⟨#[49, 50, 51, 52, 53, 54, 55, 56, 57, 48, 49, 50, 51, 52, 53]⟩, Value.string ⟨#[49, 50, 51, 52, 53, 54, 55, 56, 57, 48, 49, 50, 51, 52, 53, 54]⟩, Value.string ⟨#[10]⟩] 9)) w.heap.size := heap_alloc_new _ _
theorem RowT.post {w w' : World} {rb B : Nat} (h : RowT w B) (p : Post w rb w') (hne : B ≠ rb) : RowT w' B := (p.2.block B (lt_of_block h) (fun e => hne (Option.some.inj e))).trans h
theorem RowT.at {w : World} {B : Nat} (h : RowT w B) (q : Int) (q0 : 0 ≤ q) (q1 : q < 5) : ∃ T : ByteArray, T.size ≤ 16 ∧ w.cell? ⟨B, q.toNat, none⟩ = some (.string T) := by
  have e : ∀ i : Nat, w.cell? ⟨B, i, none⟩ = (#[Value.string ⟨#[]⟩, Value.string ⟨#[71, 65, 77, 69]⟩, Value.string ⟨#[49, 50, 51, 52, 53, 54, 55, 56, 57, 48, 49, 50, 51, 52, 53]⟩, Value.string ⟨#[49, 50, 51, 52, 53, 54, 55, 56, 57, 48, 49, 50, 51, 52, 53, 54]⟩, Value.string ⟨#[10]⟩])[i]? := fun i => by
    unfold RowT at h
    unfold World.cell?
    simp only [h]
    rfl
  rcases (show q = 0 ∨ q = 1 ∨ q = 2 ∨ q = 3 ∨ q = 4 from by omega) with rfl | rfl | rfl | rfl | rfl
  · exact ⟨_, by decide, e 0⟩
  · exact ⟨_, by decide, e 1⟩
  · exact ⟨_, by decide, e 2⟩
  · exact ⟨_, by decide, e 3⟩
  · exact ⟨_, by decide, e 4⟩
def Three (e : Ending) : Prop := ∃ (s t : ByteArray) (k : Int), s.size ≤ 1024 ∧ t.size ≤ 16 ∧ e = .returned (.tuple #[.string s, .string t, .int .i64 k])
set_option maxHeartbeats 2000000 in
theorem drawFixed_any (a : Option Addr) (len cap : Nat) (zs : List Int) (w : World) (h : Rdr.IsRow .u8 w a len cap zs) :
    Calls Tryd.prog 6 #[.slice a len cap] w fun e w' => Three e ∧ Below w.heap.size w w' := by
  have H : Hid (Rdr.IsRow .u8 w a len cap zs) := h
  clear h
  go_enter Tryd.func6, Tryd.ntmps6
  go_wp2_with fail
  refine (Rdr.open_any _ _ _ _ _ H.out).mono ?_
  rintro e w1 ⟨rfl, hr, hb⟩
  have HR : Hid (Rd w1 w.heap.size) := hr
  have B1 : Hid (Below w.heap.size w w1) := hb
  have hlt := hr.lt
  clear hr hb
  generalize hB : w.heap.size = rb at HR B1 hlt ⊢
  go_wp2_with fail
  refine (rom_any _ _ HR.out).mono ?_
  rintro e w2 ⟨⟨s, hs, rfl⟩, p2⟩
  have HP : Hid (Post w1 rb w2) := p2
  clear p2
  go_wp2_with fail
  refine (Rdr.once_any _ _ _ HP.out.1 (by decide) (by decide)).mono ?_
  rintro e w3 ⟨⟨x, rfl⟩, p3⟩
  have HP : Hid (Post w1 rb w3) := HP.out.trans p3
  clear p3
  obtain ⟨n, hn⟩ : ∃ n : Nat, n = s.size / 256 * 256 / 2 := ⟨_, rfl⟩
  have hn1 : n ≤ s.size := by omega
  have sl : ∀ w, (Instr.slice 9 (.string s) none (some (.int .i64 ((s.size : Int) / 256 * 256 / 2))) none).run Tryd.prog w = .ok (.string (s.extract 0 n)) w := fun w => by
    have := run_slice_string_h (P := Tryd.prog) (w := w) (t := 9) (s := s) Tryd.underlying9 .i64 (n : Int) (by omega) (by omega)
    rw [show (n : Int) = (s.size : Int) / 256 * 256 / 2 by omega] at this
    rw [show ((s.size : Int) / 256 * 256 / 2).toNat = n by omega] at this
    exact this
  have hsn : (s.extract 0 n).size ≤ 1024 := by simp; omega
  cases x with
  | true =>
    generalize s.extract 0 n = s2 at sl hsn
    go_upto_region 5 with fail
    clear sl hn hn1
    refine wp_region_any (by kernel_rfl) ?_
    try (change wpAny _ _ _ _ _ _ _ (World.drew _))
    have HP : Hid (Post w1 rb w3.drew) := HP.out.trans (Post.of HP.out.1 rfl rfl rfl rfl)
    generalize w3.drew = w4 at HP ⊢
    refine wpAny_take (i := 0) (v := ?vq1) rfl (by kernel_rfl) (by kernel_rfl) (by kernel_rfl) (fun _ _ _ h => h) (Or.inl ⟨by rfl, ?hyq1⟩) ?restq1
    case hyq1 => (intro w; go_simp; try with_reducible rfl)
    refine wpAny_take (i := 2) (v := ?vq2) rfl (by kernel_rfl) (by kernel_rfl) (by kernel_rfl) (fun _ _ _ h => h) (Or.inl ⟨by rfl, ?hyq2⟩) ?restq2
    case hyq2 => (intro w; go_simp; try with_reducible rfl)
    refine wpAny_take (i := 6) (v := ?vq3) rfl (by kernel_rfl) (by kernel_rfl) (by kernel_rfl) (fun _ _ _ h => h) (Or.inl ⟨by rfl, ?hyq3⟩) ?restq3
    case hyq3 => (intro w; go_simp; try with_reducible rfl)
    refine wpAny_ready (rs := [1, 3]) (by kernel_rfl) (by simp) ?_
    refine any_cons rfl (by rfl) (fun K hK => ?_) (any_cons rfl (by rfl) (fun K hK => ?_) AllReady.nil)
    · have HL : Hid (rb < w4.heap.size) := HP.out.1.lt
      go_simp
      have RB : Hid (RowT (w4.alloc (.cells #[Value.string ⟨#[]⟩, Value.string ⟨#[71, 65, 77, 69]⟩, Value.string ⟨#[49, 50, 51, 52, 53, 54, 55, 56, 57, 48, 49, 50, 51, 52, 53]⟩, Value.string ⟨#[49, 50, 51, 52, 53, 54, 55, 56, 57, 48, 49, 50, 51, 52, 53, 54]⟩, Value.string ⟨#[10]⟩] 9)) w4.heap.size) := RowT.new _
      have HP : Hid (Post w1 rb (w4.alloc (.cells #[Value.string ⟨#[]⟩, Value.string ⟨#[71, 65, 77, 69]⟩, Value.string ⟨#[49, 50, 51, 52, 53, 54, 55, 56, 57, 48, 49, 50, 51, 52, 53]⟩, Value.string ⟨#[49, 50, 51, 52, 53, 54, 55, 56, 57, 48, 49, 50, 51, 52, 53, 54]⟩, Value.string ⟨#[10]⟩] 9))) := HP.out.alloc _
      have HN : Hid (w4.heap.size ≠ rb) := by have := HL.out; show _ ≠ _; omega
      refine hK _ _ ?_
      clear hK
      generalize w4.alloc (.cells #[Value.string ⟨#[]⟩, Value.string ⟨#[71, 65, 77, 69]⟩, Value.string ⟨#[49, 50, 51, 52, 53, 54, 55, 56, 57, 48, 49, 50, 51, 52, 53]⟩, Value.string ⟨#[49, 50, 51, 52, 53, 54, 55, 56, 57, 48, 49, 50, 51, 52, 53, 54]⟩, Value.string ⟨#[10]⟩] 9) = v1 at RB HP ⊢
      generalize w4.heap.size = rowb at RB HN ⊢
      refine wpAny_ready (rs := [3]) (by kernel_rfl) (by simp) ?_
      refine any_cons rfl (by rfl) (fun K hK => ?_) AllReady.nil
      go_wp2_with fail
      refine (Rdr.below_any _ _ _ HP.out.1 (by decide) (by decide)).mono ?_
      rintro e v13 ⟨⟨q, q0, q1, rfl⟩, pq⟩
      have RB : Hid (RowT v13 rowb) := RB.out.post pq HN.out
      have HP : Hid (Post w1 rb v13) := HP.out.trans pq
      clear pq
      refine hK _ _ ?_
      clear hK
      obtain ⟨T, hT, ht⟩ := RB.out.at q q0 q1
      have HT : Hid (T.size ≤ 16) := hT
      clear hT
      refine wpAny_take (i := 4) (v := ?vq4) rfl (by kernel_rfl) (by kernel_rfl) (by kernel_rfl) (fun _ _ _ h => h) (Or.inl ⟨by rfl, ?hyq4⟩) ?restq4
      case hyq4 => (intro w; go_simp; try with_reducible rfl)
      refine wpAny_ready (rs := [5, 7]) (by kernel_rfl) (by simp) ?_
      refine any_cons rfl (by rfl) (fun K hK => ?_) (any_cons rfl (by rfl) (fun K hK => ?_) AllReady.nil)
      · go_simp
        refine hK _ _ ?_
        clear hK
        refine wpAny_ready (rs := [7]) (by kernel_rfl) (by simp) ?_
        refine any_cons rfl (by rfl) (fun K hK => ?_) AllReady.nil
        go_wp2_with fail
        refine (Rdr.off_any _ _ _ _ HP.out.1 (by decide) (by decide) (by decide)).mono ?_
        rintro e v1357 ⟨⟨kk, hkk, rfl⟩, pq⟩
        have RB : Hid (RowT v1357 rowb) := RB.out.post pq HN.out
        have HP : Hid (Post w1 rb v1357) := HP.out.trans pq
        clear pq
        refine hK _ _ ?_
        clear hK
        refine wpAny_take (i := 8) (v := ?vq5) rfl (by kernel_rfl) (by kernel_rfl) (by kernel_rfl) (fun _ _ _ h => h) (Or.inl ⟨by rfl, ?hyq5⟩) ?restq5
        case hyq5 => (intro w; go_simp; try with_reducible rfl)
        refine wpAny_take (i := 9) (v := ?vq6) rfl (by kernel_rfl) (by kernel_rfl) (by kernel_rfl) (fun _ _ _ h => h) (Or.inl ⟨by rfl, ?hyq6⟩) ?restq6
        case hyq6 => (intro w; go_simp; try with_reducible rfl)
        refine wpAny_take (i := 10) (v := ?vq7) rfl (by kernel_rfl) (by kernel_rfl) (by kernel_rfl) (fun _ _ _ h => h) (Or.inl ⟨by rfl, ?hyq7⟩) ?restq7
        case hyq7 => (intro w; go_simp; try with_reducible rfl)
        refine wpAny_done (by kernel_rfl) ?_ _
        go_wp2
        go_ret3
        exact ⟨⟨_, _, _, by omega, HT.out, rfl⟩, by rw [hB]; exact B1.out.trans (HP.out.below (Nat.le_refl _) (Nat.le_of_lt hlt))⟩
      · go_wp2_with fail
        refine (Rdr.off_any _ _ _ _ HP.out.1 (by decide) (by decide) (by decide)).mono ?_
        rintro e v137 ⟨⟨kk, hkk, rfl⟩, pq⟩
        have RB : Hid (RowT v137 rowb) := RB.out.post pq HN.out
        have HP : Hid (Post w1 rb v137) := HP.out.trans pq
        clear pq
        refine hK _ _ ?_
        clear hK
        refine wpAny_take (i := 8) (v := ?vq8) rfl (by kernel_rfl) (by kernel_rfl) (by kernel_rfl) (fun _ _ _ h => h) (Or.inl ⟨by rfl, ?hyq8⟩) ?restq8
        case hyq8 => (intro w; go_simp; try with_reducible rfl)
        clear ht HT
        obtain ⟨T, hT, ht⟩ := RB.out.at q q0 q1
        have HT : Hid (T.size ≤ 16) := hT
        clear hT
        refine wpAny_ready (rs := [5]) (by kernel_rfl) (by simp) ?_
        refine any_cons rfl (by rfl) (fun K hK => ?_) AllReady.nil
        go_simp
        refine hK _ _ ?_
        clear hK
        refine wpAny_take (i := 9) (v := ?vq9) rfl (by kernel_rfl) (by kernel_rfl) (by kernel_rfl) (fun _ _ _ h => h) (Or.inl ⟨by rfl, ?hyq9⟩) ?restq9
        case hyq9 => (intro w; go_simp; try with_reducible rfl)
        refine wpAny_take (i := 10) (v := ?vq10) rfl (by kernel_rfl) (by kernel_rfl) (by kernel_rfl) (fun _ _ _ h => h) (Or.inl ⟨by rfl, ?hyq10⟩) ?restq10
        case hyq10 => (intro w; go_simp; try with_reducible rfl)
        refine wpAny_done (by kernel_rfl) ?_ _
        go_wp2
        go_ret3
        exact ⟨⟨_, _, _, by omega, HT.out, rfl⟩, by rw [hB]; exact B1.out.trans (HP.out.below (Nat.le_refl _) (Nat.le_of_lt hlt))⟩
    · go_wp2_with fail
      refine (Rdr.below_any _ _ _ HP.out.1 (by decide) (by decide)).mono ?_
      rintro e v3 ⟨⟨q, q0, q1, rfl⟩, pq⟩
      have HP : Hid (Post w1 rb v3) := HP.out.trans pq
      clear pq
      refine hK _ _ ?_
      clear hK
      refine wpAny_ready (rs := [1, 7]) (by kernel_rfl) (by simp) ?_
      refine any_cons rfl (by rfl) (fun K hK => ?_) (any_cons rfl (by rfl) (fun K hK => ?_) AllReady.nil)
      · have HL : Hid (rb < v3.heap.size) := HP.out.1.lt
        go_simp
        have RB : Hid (RowT (v3.alloc (.cells #[Value.string ⟨#[]⟩, Value.string ⟨#[71, 65, 77, 69]⟩, Value.string ⟨#[49, 50, 51, 52, 53, 54, 55, 56, 57, 48, 49, 50, 51, 52, 53]⟩, Value.string ⟨#[49, 50, 51, 52, 53, 54, 55, 56, 57, 48, 49, 50, 51, 52, 53, 54]⟩, Value.string ⟨#[10]⟩] 9)) v3.heap.size) := RowT.new _
        have HP : Hid (Post w1 rb (v3.alloc (.cells #[Value.string ⟨#[]⟩, Value.string ⟨#[71, 65, 77, 69]⟩, Value.string ⟨#[49, 50, 51, 52, 53, 54, 55, 56, 57, 48, 49, 50, 51, 52, 53]⟩, Value.string ⟨#[49, 50, 51, 52, 53, 54, 55, 56, 57, 48, 49, 50, 51, 52, 53, 54]⟩, Value.string ⟨#[10]⟩] 9))) := HP.out.alloc _
        have HN : Hid (v3.heap.size ≠ rb) := by have := HL.out; show _ ≠ _; omega
        refine hK _ _ ?_
        clear hK
        generalize v3.alloc (.cells #[Value.string ⟨#[]⟩, Value.string ⟨#[71, 65, 77, 69]⟩, Value.string ⟨#[49, 50, 51, 52, 53, 54, 55, 56, 57, 48, 49, 50, 51, 52, 53]⟩, Value.string ⟨#[49, 50, 51, 52, 53, 54, 55, 56, 57, 48, 49, 50, 51, 52, 53, 54]⟩, Value.string ⟨#[10]⟩] 9) = v31 at RB HP ⊢
        generalize v3.heap.size = rowb at RB HN ⊢
        obtain ⟨T, hT, ht⟩ := RB.out.at q q0 q1
        have HT : Hid (T.size ≤ 16) := hT
        clear hT
        refine wpAny_take (i := 4) (v := ?vq17) rfl (by kernel_rfl) (by kernel_rfl) (by kernel_rfl) (fun _ _ _ h => h) (Or.inl ⟨by rfl, ?hyq17⟩) ?restq17
        case hyq17 => (intro w; go_simp; try with_reducible rfl)
        refine wpAny_ready (rs := [5, 7]) (by kernel_rfl) (by simp) ?_
        refine any_cons rfl (by rfl) (fun K hK => ?_) (any_cons rfl (by rfl) (fun K hK => ?_) AllReady.nil)
        · go_simp
          refine hK _ _ ?_
          clear hK
          refine wpAny_ready (rs := [7]) (by kernel_rfl) (by simp) ?_
          refine any_cons rfl (by rfl) (fun K hK => ?_) AllReady.nil
          go_wp2_with fail
          refine (Rdr.off_any _ _ _ _ HP.out.1 (by decide) (by decide) (by decide)).mono ?_
          rintro e v3157 ⟨⟨kk, hkk, rfl⟩, pq⟩
          have RB : Hid (RowT v3157 rowb) := RB.out.post pq HN.out
          have HP : Hid (Post w1 rb v3157) := HP.out.trans pq
          clear pq
          refine hK _ _ ?_
          clear hK
          refine wpAny_take (i := 8) (v := ?vq11) rfl (by kernel_rfl) (by kernel_rfl) (by kernel_rfl) (fun _ _ _ h => h) (Or.inl ⟨by rfl, ?hyq11⟩) ?restq11
          case hyq11 => (intro w; go_simp; try with_reducible rfl)
          refine wpAny_take (i := 9) (v := ?vq12) rfl (by kernel_rfl) (by kernel_rfl) (by kernel_rfl) (fun _ _ _ h => h) (Or.inl ⟨by rfl, ?hyq12⟩) ?restq12
          case hyq12 => (intro w; go_simp; try with_reducible rfl)
          refine wpAny_take (i := 10) (v := ?vq13) rfl (by kernel_rfl) (by kernel_rfl) (by kernel_rfl) (fun _ _ _ h => h) (Or.inl ⟨by rfl, ?hyq13⟩) ?restq13
          case hyq13 => (intro w; go_simp; try with_reducible rfl)
          refine wpAny_done (by kernel_rfl) ?_ _
          go_wp2
          go_ret3
          exact ⟨⟨_, _, _, by omega, HT.out, rfl⟩, by rw [hB]; exact B1.out.trans (HP.out.below (Nat.le_refl _) (Nat.le_of_lt hlt))⟩
        · go_wp2_with fail
          refine (Rdr.off_any _ _ _ _ HP.out.1 (by decide) (by decide) (by decide)).mono ?_
          rintro e v317 ⟨⟨kk, hkk, rfl⟩, pq⟩
          have RB : Hid (RowT v317 rowb) := RB.out.post pq HN.out
          have HP : Hid (Post w1 rb v317) := HP.out.trans pq
          clear pq
          refine hK _ _ ?_
          clear hK
          refine wpAny_take (i := 8) (v := ?vq14) rfl (by kernel_rfl) (by kernel_rfl) (by kernel_rfl) (fun _ _ _ h => h) (Or.inl ⟨by rfl, ?hyq14⟩) ?restq14
          case hyq14 => (intro w; go_simp; try with_reducible rfl)
          clear ht HT
          obtain ⟨T, hT, ht⟩ := RB.out.at q q0 q1
          have HT : Hid (T.size ≤ 16) := hT
          clear hT
          refine wpAny_ready (rs := [5]) (by kernel_rfl) (by simp) ?_
          refine any_cons rfl (by rfl) (fun K hK => ?_) AllReady.nil
          go_simp
          refine hK _ _ ?_
          clear hK
          refine wpAny_take (i := 9) (v := ?vq15) rfl (by kernel_rfl) (by kernel_rfl) (by kernel_rfl) (fun _ _ _ h => h) (Or.inl ⟨by rfl, ?hyq15⟩) ?restq15
          case hyq15 => (intro w; go_simp; try with_reducible rfl)
          refine wpAny_take (i := 10) (v := ?vq16) rfl (by kernel_rfl) (by kernel_rfl) (by kernel_rfl) (fun _ _ _ h => h) (Or.inl ⟨by rfl, ?hyq16⟩) ?restq16
          case hyq16 => (intro w; go_simp; try with_reducible rfl)
          refine wpAny_done (by kernel_rfl) ?_ _
          go_wp2
          go_ret3
          exact ⟨⟨_, _, _, by omega, HT.out, rfl⟩, by rw [hB]; exact B1.out.trans (HP.out.below (Nat.le_refl _) (Nat.le_of_lt hlt))⟩
      · go_wp2_with fail
        refine (Rdr.off_any _ _ _ _ HP.out.1 (by decide) (by decide) (by decide)).mono ?_
        rintro e v37 ⟨⟨kk, hkk, rfl⟩, pq⟩
        have HP : Hid (Post w1 rb v37) := HP.out.trans pq
        clear pq
        refine hK _ _ ?_
        clear hK
        refine wpAny_take (i := 8) (v := ?vq18) rfl (by kernel_rfl) (by kernel_rfl) (by kernel_rfl) (fun _ _ _ h => h) (Or.inl ⟨by rfl, ?hyq18⟩) ?restq18
        case hyq18 => (intro w; go_simp; try with_reducible rfl)
        refine wpAny_ready (rs := [1]) (by kernel_rfl) (by simp) ?_
        refine any_cons rfl (by rfl) (fun K hK => ?_) AllReady.nil
        have HL : Hid (rb < v37.heap.size) := HP.out.1.lt
        go_simp
        have RB : Hid (RowT (v37.alloc (.cells #[Value.string ⟨#[]⟩, Value.string ⟨#[71, 65, 77, 69]⟩, Value.string ⟨#[49, 50, 51, 52, 53, 54, 55, 56, 57, 48, 49, 50, 51, 52, 53]⟩, Value.string ⟨#[49, 50, 51, 52, 53, 54, 55, 56, 57, 48, 49, 50, 51, 52, 53, 54]⟩, Value.string ⟨#[10]⟩] 9)) v37.heap.size) := RowT.new _
        have HP : Hid (Post w1 rb (v37.alloc (.cells #[Value.string ⟨#[]⟩, Value.string ⟨#[71, 65, 77, 69]⟩, Value.string ⟨#[49, 50, 51, 52, 53, 54, 55, 56, 57, 48, 49, 50, 51, 52, 53]⟩, Value.string ⟨#[49, 50, 51, 52, 53, 54, 55, 56, 57, 48, 49, 50, 51, 52, 53, 54]⟩, Value.string ⟨#[10]⟩] 9))) := HP.out.alloc _
        have HN : Hid (v37.heap.size ≠ rb) := by have := HL.out; show _ ≠ _; omega
        refine hK _ _ ?_
        clear hK
        generalize v37.alloc (.cells #[Value.string ⟨#[]⟩, Value.string ⟨#[71, 65, 77, 69]⟩, Value.string ⟨#[49, 50, 51, 52, 53, 54, 55, 56, 57, 48, 49, 50, 51, 52, 53]⟩, Value.string ⟨#[49, 50, 51, 52, 53, 54, 55, 56, 57, 48, 49, 50, 51, 52, 53, 54]⟩, Value.string ⟨#[10]⟩] 9) = v371 at RB HP ⊢
        generalize v37.heap.size = rowb at RB HN ⊢
        obtain ⟨T, hT, ht⟩ := RB.out.at q q0 q1
        have HT : Hid (T.size ≤ 16) := hT
        clear hT
        refine wpAny_take (i := 4) (v := ?vq21) rfl (by kernel_rfl) (by kernel_rfl) (by kernel_rfl) (fun _ _ _ h => h) (Or.inl ⟨by rfl, ?hyq21⟩) ?restq21
        case hyq21 => (intro w; go_simp; try with_reducible rfl)
        refine wpAny_ready (rs := [5]) (by kernel_rfl) (by simp) ?_
        refine any_cons rfl (by rfl) (fun K hK => ?_) AllReady.nil
        go_simp
        refine hK _ _ ?_
        clear hK
        refine wpAny_take (i := 9) (v := ?vq19) rfl (by kernel_rfl) (by kernel_rfl) (by kernel_rfl) (fun _ _ _ h => h) (Or.inl ⟨by rfl, ?hyq19⟩) ?restq19
        case hyq19 => (intro w; go_simp; try with_reducible rfl)
        refine wpAny_take (i := 10) (v := ?vq20) rfl (by kernel_rfl) (by kernel_rfl) (by kernel_rfl) (fun _ _ _ h => h) (Or.inl ⟨by rfl, ?hyq20⟩) ?restq20
        case hyq20 => (intro w; go_simp; try with_reducible rfl)
        refine wpAny_done (by kernel_rfl) ?_ _
        go_wp2
        go_ret3
        exact ⟨⟨_, _, _, by omega, HT.out, rfl⟩, by rw [hB]; exact B1.out.trans (HP.out.below (Nat.le_refl _) (Nat.le_of_lt hlt))⟩
  | false =>
    clear hsn sl hn hn1
    go_upto_region 5 with fail
    refine wp_region_any (by kernel_rfl) ?_
    try (change wpAny _ _ _ _ _ _ _ (World.drew _))
    have HP : Hid (Post w1 rb w3.drew) := HP.out.trans (Post.of HP.out.1 rfl rfl rfl rfl)
    generalize w3.drew = w4 at HP ⊢
    refine wpAny_take (i := 0) (v := ?vq22) rfl (by kernel_rfl) (by kernel_rfl) (by kernel_rfl) (fun _ _ _ h => h) (Or.inl ⟨by rfl, ?hyq22⟩) ?restq22
    case hyq22 => (intro w; go_simp; try with_reducible rfl)
    refine wpAny_take (i := 2) (v := ?vq23) rfl (by kernel_rfl) (by kernel_rfl) (by kernel_rfl) (fun _ _ _ h => h) (Or.inl ⟨by rfl, ?hyq23⟩) ?restq23
    case hyq23 => (intro w; go_simp; try with_reducible rfl)
    refine wpAny_take (i := 6) (v := ?vq24) rfl (by kernel_rfl) (by kernel_rfl) (by kernel_rfl) (fun _ _ _ h => h) (Or.inl ⟨by rfl, ?hyq24⟩) ?restq24
    case hyq24 => (intro w; go_simp; try with_reducible rfl)
    refine wpAny_ready (rs := [1, 3]) (by kernel_rfl) (by simp) ?_
    refine any_cons rfl (by rfl) (fun K hK => ?_) (any_cons rfl (by rfl) (fun K hK => ?_) AllReady.nil)
    · have HL : Hid (rb < w4.heap.size) := HP.out.1.lt
      go_simp
      have RB : Hid (RowT (w4.alloc (.cells #[Value.string ⟨#[]⟩, Value.string ⟨#[71, 65, 77, 69]⟩, Value.string ⟨#[49, 50, 51, 52, 53, 54, 55, 56, 57, 48, 49, 50, 51, 52, 53]⟩, Value.string ⟨#[49, 50, 51, 52, 53, 54, 55, 56, 57, 48, 49, 50, 51, 52, 53, 54]⟩, Value.string ⟨#[10]⟩] 9)) w4.heap.size) := RowT.new _
      have HP : Hid (Post w1 rb (w4.alloc (.cells #[Value.string ⟨#[]⟩, Value.string ⟨#[71, 65, 77, 69]⟩, Value.string ⟨#[49, 50, 51, 52, 53, 54, 55, 56, 57, 48, 49, 50, 51, 52, 53]⟩, Value.string ⟨#[49, 50, 51, 52, 53, 54, 55, 56, 57, 48, 49, 50, 51, 52, 53, 54]⟩, Value.string ⟨#[10]⟩] 9))) := HP.out.alloc _
      have HN : Hid (w4.heap.size ≠ rb) := by have := HL.out; show _ ≠ _; omega
      refine hK _ _ ?_
      clear hK
      generalize w4.alloc (.cells #[Value.string ⟨#[]⟩, Value.string ⟨#[71, 65, 77, 69]⟩, Value.string ⟨#[49, 50, 51, 52, 53, 54, 55, 56, 57, 48, 49, 50, 51, 52, 53]⟩, Value.string ⟨#[49, 50, 51, 52, 53, 54, 55, 56, 57, 48, 49, 50, 51, 52, 53, 54]⟩, Value.string ⟨#[10]⟩] 9) = v1 at RB HP ⊢
      generalize w4.heap.size = rowb at RB HN ⊢
      refine wpAny_ready (rs := [3]) (by kernel_rfl) (by simp) ?_
      refine any_cons rfl (by rfl) (fun K hK => ?_) AllReady.nil
      go_wp2_with fail
      refine (Rdr.below_any _ _ _ HP.out.1 (by decide) (by decide)).mono ?_
      rintro e v13 ⟨⟨q, q0, q1, rfl⟩, pq⟩
      have RB : Hid (RowT v13 rowb) := RB.out.post pq HN.out
      have HP : Hid (Post w1 rb v13) := HP.out.trans pq
      clear pq
      refine hK _ _ ?_
      clear hK
      obtain ⟨T, hT, ht⟩ := RB.out.at q q0 q1
      have HT : Hid (T.size ≤ 16) := hT
      clear hT
      refine wpAny_take (i := 4) (v := ?vq25) rfl (by kernel_rfl) (by kernel_rfl) (by kernel_rfl) (fun _ _ _ h => h) (Or.inl ⟨by rfl, ?hyq25⟩) ?restq25
      case hyq25 => (intro w; go_simp; try with_reducible rfl)
      refine wpAny_ready (rs := [5, 7]) (by kernel_rfl) (by simp) ?_
      refine any_cons rfl (by rfl) (fun K hK => ?_) (any_cons rfl (by rfl) (fun K hK => ?_) AllReady.nil)
      · go_simp
        refine hK _ _ ?_
        clear hK
        refine wpAny_ready (rs := [7]) (by kernel_rfl) (by simp) ?_
        refine any_cons rfl (by rfl) (fun K hK => ?_) AllReady.nil
        go_wp2_with fail
        refine (Rdr.off_any _ _ _ _ HP.out.1 (by decide) (by decide) (by decide)).mono ?_
        rintro e v1357 ⟨⟨kk, hkk, rfl⟩, pq⟩
        have RB : Hid (RowT v1357 rowb) := RB.out.post pq HN.out
        have HP : Hid (Post w1 rb v1357) := HP.out.trans pq
        clear pq
        refine hK _ _ ?_
        clear hK
        refine wpAny_take (i := 8) (v := ?vq26) rfl (by kernel_rfl) (by kernel_rfl) (by kernel_rfl) (fun _ _ _ h => h) (Or.inl ⟨by rfl, ?hyq26⟩) ?restq26
        case hyq26 => (intro w; go_simp; try with_reducible rfl)
        refine wpAny_take (i := 9) (v := ?vq27) rfl (by kernel_rfl) (by kernel_rfl) (by kernel_rfl) (fun _ _ _ h => h) (Or.inl ⟨by rfl, ?hyq27⟩) ?restq27
        case hyq27 => (intro w; go_simp; try with_reducible rfl)
        refine wpAny_take (i := 10) (v := ?vq28) rfl (by kernel_rfl) (by kernel_rfl) (by kernel_rfl) (fun _ _ _ h => h) (Or.inl ⟨by rfl, ?hyq28⟩) ?restq28
        case hyq28 => (intro w; go_simp; try with_reducible rfl)
        refine wpAny_done (by kernel_rfl) ?_ _
        go_wp2
        go_ret3
        exact ⟨⟨_, _, _, by omega, HT.out, rfl⟩, by rw [hB]; exact B1.out.trans (HP.out.below (Nat.le_refl _) (Nat.le_of_lt hlt))⟩
      · go_wp2_with fail
        refine (Rdr.off_any _ _ _ _ HP.out.1 (by decide) (by decide) (by decide)).mono ?_
        rintro e v137 ⟨⟨kk, hkk, rfl⟩, pq⟩
        have RB : Hid (RowT v137 rowb) := RB.out.post pq HN.out
        have HP : Hid (Post w1 rb v137) := HP.out.trans pq
        clear pq
        refine hK _ _ ?_
        clear hK
        refine wpAny_take (i := 8) (v := ?vq29) rfl (by kernel_rfl) (by kernel_rfl) (by kernel_rfl) (fun _ _ _ h => h) (Or.inl ⟨by rfl, ?hyq29⟩) ?restq29
        case hyq29 => (intro w; go_simp; try with_reducible rfl)
        clear ht HT
        obtain ⟨T, hT, ht⟩ := RB.out.at q q0 q1
        have HT : Hid (T.size ≤ 16) := hT
        clear hT
        refine wpAny_ready (rs := [5]) (by kernel_rfl) (by simp) ?_
        refine any_cons rfl (by rfl) (fun K hK => ?_) AllReady.nil
        go_simp
        refine hK _ _ ?_
        clear hK
        refine wpAny_take (i := 9) (v := ?vq30) rfl (by kernel_rfl) (by kernel_rfl) (by kernel_rfl) (fun _ _ _ h => h) (Or.inl ⟨by rfl, ?hyq30⟩) ?restq30
        case hyq30 => (intro w; go_simp; try with_reducible rfl)
        refine wpAny_take (i := 10) (v := ?vq31) rfl (by kernel_rfl) (by kernel_rfl) (by kernel_rfl) (fun _ _ _ h => h) (Or.inl ⟨by rfl, ?hyq31⟩) ?restq31
        case hyq31 => (intro w; go_simp; try with_reducible rfl)
        refine wpAny_done (by kernel_rfl) ?_ _
        go_wp2
        go_ret3
        exact ⟨⟨_, _, _, by omega, HT.out, rfl⟩, by rw [hB]; exact B1.out.trans (HP.out.below (Nat.le_refl _) (Nat.le_of_lt hlt))⟩
    · go_wp2_with fail
      refine (Rdr.below_any _ _ _ HP.out.1 (by decide) (by decide)).mono ?_
      rintro e v3 ⟨⟨q, q0, q1, rfl⟩, pq⟩
      have HP : Hid (Post w1 rb v3) := HP.out.trans pq
      clear pq
      refine hK _ _ ?_
      clear hK
      refine wpAny_ready (rs := [1, 7]) (by kernel_rfl) (by simp) ?_
      refine any_cons rfl (by rfl) (fun K hK => ?_) (any_cons rfl (by rfl) (fun K hK => ?_) AllReady.nil)
      · have HL : Hid (rb < v3.heap.size) := HP.out.1.lt
        go_simp
        have RB : Hid (RowT (v3.alloc (.cells #[Value.string ⟨#[]⟩, Value.string ⟨#[71, 65, 77, 69]⟩, Value.string ⟨#[49, 50, 51, 52, 53, 54, 55, 56, 57, 48, 49, 50, 51, 52, 53]⟩, Value.string ⟨#[49, 50, 51, 52, 53, 54, 55, 56, 57, 48, 49, 50, 51, 52, 53, 54]⟩, Value.string ⟨#[10]⟩] 9)) v3.heap.size) := RowT.new _
        have HP : Hid (Post w1 rb (v3.alloc (.cells #[Value.string ⟨#[]⟩, Value.string ⟨#[71, 65, 77, 69]⟩, Value.string ⟨#[49, 50, 51, 52, 53, 54, 55, 56, 57, 48, 49, 50, 51, 52, 53]⟩, Value.string ⟨#[49, 50, 51, 52, 53, 54, 55, 56, 57, 48, 49, 50, 51, 52, 53, 54]⟩, Value.string ⟨#[10]⟩] 9))) := HP.out.alloc _
        have HN : Hid (v3.heap.size ≠ rb) := by have := HL.out; show _ ≠ _; omega
        refine hK _ _ ?_
        clear hK
        generalize v3.alloc (.cells #[Value.string ⟨#[]⟩, Value.string ⟨#[71, 65, 77, 69]⟩, Value.string ⟨#[49, 50, 51, 52, 53, 54, 55, 56, 57, 48, 49, 50, 51, 52, 53]⟩, Value.string ⟨#[49, 50, 51, 52, 53, 54, 55, 56, 57, 48, 49, 50, 51, 52, 53, 54]⟩, Value.string ⟨#[10]⟩] 9) = v31 at RB HP ⊢
        generalize v3.heap.size = rowb at RB HN ⊢
        obtain ⟨T, hT, ht⟩ := RB.out.at q q0 q1
        have HT : Hid (T.size ≤ 16) := hT
        clear hT
        refine wpAny_take (i := 4) (v := ?vq38) rfl (by kernel_rfl) (by kernel_rfl) (by kernel_rfl) (fun _ _ _ h => h) (Or.inl ⟨by rfl, ?hyq38⟩) ?restq38
        case hyq38 => (intro w; go_simp; try with_reducible rfl)
        refine wpAny_ready (rs := [5, 7]) (by kernel_rfl) (by simp) ?_
        refine any_cons rfl (by rfl) (fun K hK => ?_) (any_cons rfl (by rfl) (fun K hK => ?_) AllReady.nil)
        · go_simp
          refine hK _ _ ?_
          clear hK
          refine wpAny_ready (rs := [7]) (by kernel_rfl) (by simp) ?_
          refine any_cons rfl (by rfl) (fun K hK => ?_) AllReady.nil
          go_wp2_with fail
          refine (Rdr.off_any _ _ _ _ HP.out.1 (by decide) (by decide) (by decide)).mono ?_
          rintro e v3157 ⟨⟨kk, hkk, rfl⟩, pq⟩
          have RB : Hid (RowT v3157 rowb) := RB.out.post pq HN.out
          have HP : Hid (Post w1 rb v3157) := HP.out.trans pq
          clear pq
          refine hK _ _ ?_
          clear hK
          refine wpAny_take (i := 8) (v := ?vq32) rfl (by kernel_rfl) (by kernel_rfl) (by kernel_rfl) (fun _ _ _ h => h) (Or.inl ⟨by rfl, ?hyq32⟩) ?restq32
          case hyq32 => (intro w; go_simp; try with_reducible rfl)
          refine wpAny_take (i := 9) (v := ?vq33) rfl (by kernel_rfl) (by kernel_rfl) (by kernel_rfl) (fun _ _ _ h => h) (Or.inl ⟨by rfl, ?hyq33⟩) ?restq33
          case hyq33 => (intro w; go_simp; try with_reducible rfl)
          refine wpAny_take (i := 10) (v := ?vq34) rfl (by kernel_rfl) (by kernel_rfl) (by kernel_rfl) (fun _ _ _ h => h) (Or.inl ⟨by rfl, ?hyq34⟩) ?restq34
          case hyq34 => (intro w; go_simp; try with_reducible rfl)
          refine wpAny_done (by kernel_rfl) ?_ _
          go_wp2
          go_ret3
          exact ⟨⟨_, _, _, by omega, HT.out, rfl⟩, by rw [hB]; exact B1.out.trans (HP.out.below (Nat.le_refl _) (Nat.le_of_lt hlt))⟩
        · go_wp2_with fail
          refine (Rdr.off_any _ _ _ _ HP.out.1 (by decide) (by decide) (by decide)).mono ?_
          rintro e v317 ⟨⟨kk, hkk, rfl⟩, pq⟩
          have RB : Hid (RowT v317 rowb) := RB.out.post pq HN.out
          have HP : Hid (Post w1 rb v317) := HP.out.trans pq
          clear pq
          refine hK _ _ ?_
          clear hK
          refine wpAny_take (i := 8) (v := ?vq35) rfl (by kernel_rfl) (by kernel_rfl) (by kernel_rfl) (fun _ _ _ h => h) (Or.inl ⟨by rfl, ?hyq35⟩) ?restq35
          case hyq35 => (intro w; go_simp; try with_reducible rfl)
          clear ht HT
          obtain ⟨T, hT, ht⟩ := RB.out.at q q0 q1
          have HT : Hid (T.size ≤ 16) := hT
          clear hT
          refine wpAny_ready (rs := [5]) (by kernel_rfl) (by simp) ?_
          refine any_cons rfl (by rfl) (fun K hK => ?_) AllReady.nil
          go_simp
          refine hK _ _ ?_
          clear hK
          refine wpAny_take (i := 9) (v := ?vq36) rfl (by kernel_rfl) (by kernel_rfl) (by kernel_rfl) (fun _ _ _ h => h) (Or.inl ⟨by rfl, ?hyq36⟩) ?restq36
          case hyq36 => (intro w; go_simp; try with_reducible rfl)
          refine wpAny_take (i := 10) (v := ?vq37) rfl (by kernel_rfl) (by kernel_rfl) (by kernel_rfl) (fun _ _ _ h => h) (Or.inl ⟨by rfl, ?hyq37⟩) ?restq37
          case hyq37 => (intro w; go_simp; try with_reducible rfl)
          refine wpAny_done (by kernel_rfl) ?_ _
          go_wp2
          go_ret3
          exact ⟨⟨_, _, _, by omega, HT.out, rfl⟩, by rw [hB]; exact B1.out.trans (HP.out.below (Nat.le_refl _) (Nat.le_of_lt hlt))⟩
      · go_wp2_with fail
        refine (Rdr.off_any _ _ _ _ HP.out.1 (by decide) (by decide) (by decide)).mono ?_
        rintro e v37 ⟨⟨kk, hkk, rfl⟩, pq⟩
        have HP : Hid (Post w1 rb v37) := HP.out.trans pq
        clear pq
        refine hK _ _ ?_
        clear hK
        refine wpAny_take (i := 8) (v := ?vq39) rfl (by kernel_rfl) (by kernel_rfl) (by kernel_rfl) (fun _ _ _ h => h) (Or.inl ⟨by rfl, ?hyq39⟩) ?restq39
        case hyq39 => (intro w; go_simp; try with_reducible rfl)
        refine wpAny_ready (rs := [1]) (by kernel_rfl) (by simp) ?_
        refine any_cons rfl (by rfl) (fun K hK => ?_) AllReady.nil
        have HL : Hid (rb < v37.heap.size) := HP.out.1.lt
        go_simp
        have RB : Hid (RowT (v37.alloc (.cells #[Value.string ⟨#[]⟩, Value.string ⟨#[71, 65, 77, 69]⟩, Value.string ⟨#[49, 50, 51, 52, 53, 54, 55, 56, 57, 48, 49, 50, 51, 52, 53]⟩, Value.string ⟨#[49, 50, 51, 52, 53, 54, 55, 56, 57, 48, 49, 50, 51, 52, 53, 54]⟩, Value.string ⟨#[10]⟩] 9)) v37.heap.size) := RowT.new _
        have HP : Hid (Post w1 rb (v37.alloc (.cells #[Value.string ⟨#[]⟩, Value.string ⟨#[71, 65, 77, 69]⟩, Value.string ⟨#[49, 50, 51, 52, 53, 54, 55, 56, 57, 48, 49, 50, 51, 52, 53]⟩, Value.string ⟨#[49, 50, 51, 52, 53, 54, 55, 56, 57, 48, 49, 50, 51, 52, 53, 54]⟩, Value.string ⟨#[10]⟩] 9))) := HP.out.alloc _
        have HN : Hid (v37.heap.size ≠ rb) := by have := HL.out; show _ ≠ _; omega
        refine hK _ _ ?_
        clear hK
        generalize v37.alloc (.cells #[Value.string ⟨#[]⟩, Value.string ⟨#[71, 65, 77, 69]⟩, Value.string ⟨#[49, 50, 51, 52, 53, 54, 55, 56, 57, 48, 49, 50, 51, 52, 53]⟩, Value.string ⟨#[49, 50, 51, 52, 53, 54, 55, 56, 57, 48, 49, 50, 51, 52, 53, 54]⟩, Value.string ⟨#[10]⟩] 9) = v371 at RB HP ⊢
        generalize v37.heap.size = rowb at RB HN ⊢
        obtain ⟨T, hT, ht⟩ := RB.out.at q q0 q1
        have HT : Hid (T.size ≤ 16) := hT
        clear hT
        refine wpAny_take (i := 4) (v := ?vq42) rfl (by kernel_rfl) (by kernel_rfl) (by kernel_rfl) (fun _ _ _ h => h) (Or.inl ⟨by rfl, ?hyq42⟩) ?restq42
        case hyq42 => (intro w; go_simp; try with_reducible rfl)
        refine wpAny_ready (rs := [5]) (by kernel_rfl) (by simp) ?_
        refine any_cons rfl (by rfl) (fun K hK => ?_) AllReady.nil
        go_simp
        refine hK _ _ ?_
        clear hK
        refine wpAny_take (i := 9) (v := ?vq40) rfl (by kernel_rfl) (by kernel_rfl) (by kernel_rfl) (fun _ _ _ h => h) (Or.inl ⟨by rfl, ?hyq40⟩) ?restq40
        case hyq40 => (intro w; go_simp; try with_reducible rfl)
        refine wpAny_take (i := 10) (v := ?vq41) rfl (by kernel_rfl) (by kernel_rfl) (by kernel_rfl) (fun _ _ _ h => h) (Or.inl ⟨by rfl, ?hyq41⟩) ?restq41
        case hyq41 => (intro w; go_simp; try with_reducible rfl)
        refine wpAny_done (by kernel_rfl) ?_ _
        go_wp2
        go_ret3
        exact ⟨⟨_, _, _, by omega, HT.out, rfl⟩, by rw [hB]; exact B1.out.trans (HP.out.below (Nat.le_refl _) (Nat.le_of_lt hlt))⟩
theorem drawHeaderSum_any (a : Option Addr) (len cap : Nat) (zs : List Int) (w : World) (h : Rdr.IsRow .u8 w a len cap zs) :
    Calls Tryd.prog 12 #[.slice a len cap] w fun e w' => (∃ s : ByteArray, s.size ≤ 1024 ∧ e = .returned (.string s)) ∧ Below w.heap.size w w' := by
  have H : Hid (Rdr.IsRow .u8 w a len cap zs) := h
  clear h
  go_enter Tryd.func12, Tryd.ntmps12
  go_wp2_with fail
  refine (Rdr.open_any _ _ _ _ _ H.out).mono ?_
  rintro e w1 ⟨rfl, hr, hb⟩
  have HR : Hid (Rd w1 w.heap.size) := hr
  have B1 : Hid (Below w.heap.size w w1) := hb
  have hlt := hr.lt
  clear hr hb
  generalize hB : w.heap.size = rb at HR B1 hlt ⊢
  go_wp2_with fail
  refine (rom_any _ _ HR.out).mono ?_
  rintro e w2 ⟨⟨s, hs, rfl⟩, p2⟩
  have HP : Hid (Post w1 rb w2) := p2
  clear p2
  go_wp2
  go_ret
  exact ⟨⟨s, hs, rfl⟩, by rw [hB]; exact B1.out.trans (HP.out.below (Nat.le_refl _) (Nat.le_of_lt hlt))⟩
end Go.Proofs.YtpnaohonadoofaaDoor.DrawQ
