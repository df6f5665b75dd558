/-
  What spec's DrawHeaderOf can answer: a text of at most 4096 bytes; and nothing old is written.
-/
import Derived.Test.YtpnaohonadoofaaDoorDrawQ
import Derived.Test.YtpnaohonadoofaaDoorFixs
import Derived.Laws.BytesArg
namespace Go.Proofs.YtpnaohonadoofaaDoor.DrawH
open Go.ChangeShapes Go.WideShapes Go.ChangeAt Go.RowKit
open Rdr (Rd Post)
open DrawI DrawP DrawQ
set_option linter.unusedVariables false
set_option maxRecDepth 20000

def RowT2 (w : World) (B : Nat) : Prop := w.heap[B]? = some (.cells #[Value.string ⟨#[]⟩, Value.string ⟨#[71, 65, 77, 69]⟩] 9)
theorem RowT2.new (w : World) : RowT2 (w.alloc (.cells #[Value.string ⟨#[]⟩, Value.string ⟨#[71, 65, 77, 69]⟩] 9)) w.heap.size := heap_alloc_new _ _
theorem RowT2.post {w w' : World} {rb B : Nat} (h : RowT2 w B) (p : Post w rb w') (hne : B ≠ rb) : RowT2 w' B := (p.2.block B (lt_of_block h) (fun e => hne (Option.some.inj e))).trans h
theorem RowT2.at {w : World} {B : Nat} (h : RowT2 w B) (q : Int) (q0 : 0 ≤ q) (q1 : q < 2) : ∃ T : ByteArray, T.size ≤ 16 ∧ w.cell? ⟨B, q.toNat, none⟩ = some (.string T) := by
  have e : ∀ i : Nat, w.cell? ⟨B, i, none⟩ = (#[Value.string ⟨#[]⟩, Value.string ⟨#[71, 65, 77, 69]⟩])[i]? := fun i => by
    unfold RowT2 at h
    unfold World.cell?
    simp only [h]
    rfl
  rcases (show q = 0 ∨ q = 1 from by omega) with rfl | rfl
  · exact ⟨_, by decide, e 0⟩
  · exact ⟨_, by decide, e 1⟩
theorem out_shape (s T : ByteArray) (k : Int) (hs : s.size ≤ 1024) (hT : T.size ≤ 16) : ∃ (S : ByteArray) (f : Bool), S.size ≤ 4096 ∧ (f = true → 512 ≤ S.size) ∧ Fixi.outV s T k = .tuple #[.string S, .bool f] := by
  unfold Fixi.outV
  cases h : Fixi.fixB s T k with
  | false => exact ⟨⟨#[]⟩, false, by decide, fun e => (by cases e), rfl⟩
  | true =>
    have hf := h
    unfold Fixi.fixB at hf
    simp only [Bool.and_eq_true] at hf
    obtain ⟨l0, l1, l2, l3, l4⟩ := Fixi.len_bd hf.1
    have hl : (Fixi.fixedV s T k).size = Fixi.lenV s.size := by
      unfold Fixi.fixedV Fixi.f4 Fixi.f3 Fixi.f2
      rw [Fixi.size_list]
      simp only [List.length_set]
      exact Fixi.f1_length h
    exact ⟨Fixi.fixedV s T k, true, by omega, fun _ => by omega, rfl⟩
set_option maxHeartbeats 4000000 in
theorem drawHeaderOf_any (a : Option Addr) (len cap : Nat) (zs : List Int) (w : World) (h : Rdr.IsRow .u8 w a len cap zs) :
    Calls Tryd.prog 10 #[.slice a len cap] w fun e w' => (∃ s : ByteArray, s.size ≤ 4096 ∧ e = .returned (.string s)) ∧ Below w.heap.size w w' := by
  have H : Hid (Rdr.IsRow .u8 w a len cap zs) := h
  clear h
  have hcv : ∀ (u : World) (x : Int), (convert 22 9 (.slice (some ⟨u.heap.size, 0, none⟩) 1 1)).run Tryd.prog (u.alloc (.cells #[.int .u8 x] 5)) = .ok (.string (strOfNums [x])) (u.alloc (.cells #[.int .u8 x] 5)) := fun u x =>
    run_convert_bytes_arg _ 22 5 Tryd.underlying22 Tryd.underlying5 u.heap.size 0 1 1 [x] rfl (fun i hi => by
      rw [Nat.zero_add, World.cell?_alloc_new]
      match i, hi with
      | 0, _ => rfl) 9 Tryd.underlying9
  go_enter Tryd.func10, Tryd.ntmps10
  go_wp2_with fail
  refine (Rdr.open_any _ _ _ _ _ H.out).mono ?_
  rintro e w1 ⟨rfl, hr, hb⟩
  have HP : Hid (Post w1 w.heap.size w1) := Post.refl hr
  have B1 : Hid (Below w.heap.size w w1) := hb
  have hlt := hr.lt
  clear hr hb
  generalize hB : w.heap.size = rb at HP B1 hlt ⊢
  go_upto_region 2 with fail
  go_cut [4, 5] (fun x y wx => ∃ (S : ByteArray) (f : Bool), x = .string S ∧ y = .bool f ∧ S.size ≤ 4096 ∧ (f = true → 512 ≤ S.size) ∧ Hid (Post w1 rb wx))
  case first =>
    clear hcv
    refine wp_region_any (by kernel_rfl) ?_
    try (change wpAny _ _ _ _ _ _ _ (World.drew _))
    have HP : Hid (Post w1 rb w1.drew) := HP.out.trans (Post.of HP.out.1 rfl rfl rfl rfl)
    generalize w1.drew = w4 at HP ⊢
    refine wpAny_take (i := 0) (v := ?vh1) rfl (by kernel_rfl) (by kernel_rfl) (by kernel_rfl) (fun _ _ _ h => h) (Or.inl ⟨by rfl, ?hyh1⟩) ?resth1
    case hyh1 => (intro w; go_simp; try with_reducible rfl)
    refine wpAny_take (i := 3) (v := ?vh2) rfl (by kernel_rfl) (by kernel_rfl) (by kernel_rfl) (fun _ _ _ h => h) (Or.inl ⟨by rfl, ?hyh2⟩) ?resth2
    case hyh2 => (intro w; go_simp; try with_reducible rfl)
    refine wpAny_take (i := 7) (v := ?vh3) rfl (by kernel_rfl) (by kernel_rfl) (by kernel_rfl) (fun _ _ _ h => h) (Or.inl ⟨by rfl, ?hyh3⟩) ?resth3
    case hyh3 => (intro w; go_simp; try with_reducible rfl)
    refine wpAny_ready (rs := [1, 2]) (by kernel_rfl) (by simp) ?_
    refine any_cons rfl (by rfl) (fun K hK => ?_) (any_cons rfl (by rfl) (fun K hK => ?_) AllReady.nil)
    · go_wp2_with fail
      refine (rom_any _ _ HP.out.1).mono ?_
      rintro e v1 ⟨⟨s, hs, rfl⟩, pq⟩
      have HP : Hid (Post w1 rb v1) := HP.out.trans pq
      clear pq
      refine hK _ _ ?_
      clear hK
      refine wpAny_ready (rs := [2, 4]) (by kernel_rfl) (by simp) ?_
      refine any_cons rfl (by rfl) (fun K hK => ?_) (any_cons rfl (by rfl) (fun K hK => ?_) AllReady.nil)
      · have HL : Hid (rb < v1.heap.size) := HP.out.1.lt
        go_simp
        have RB : Hid (RowT2 (v1.alloc (.cells #[Value.string ⟨#[]⟩, Value.string ⟨#[71, 65, 77, 69]⟩] 9)) v1.heap.size) := RowT2.new _
        have HP : Hid (Post w1 rb (v1.alloc (.cells #[Value.string ⟨#[]⟩, Value.string ⟨#[71, 65, 77, 69]⟩] 9))) := HP.out.alloc _
        have HN : Hid (v1.heap.size ≠ rb) := by have := HL.out; show _ ≠ _; omega
        refine hK _ _ ?_
        clear hK
        generalize v1.alloc (.cells #[Value.string ⟨#[]⟩, Value.string ⟨#[71, 65, 77, 69]⟩] 9) = v12 at RB HP ⊢
        generalize v1.heap.size = rowb at RB HN ⊢
        refine wpAny_ready (rs := [4]) (by kernel_rfl) (by simp) ?_
        refine any_cons rfl (by rfl) (fun K hK => ?_) AllReady.nil
        go_wp2_with fail
        refine (Rdr.below_any _ _ _ HP.out.1 (by decide) (by decide)).mono ?_
        rintro e v124 ⟨⟨q, q0, q1, rfl⟩, pq⟩
        have RB : Hid (RowT2 v124 rowb) := RB.out.post pq HN.out
        have HP : Hid (Post w1 rb v124) := HP.out.trans pq
        clear pq
        refine hK _ _ ?_
        clear hK
        obtain ⟨T, hT, ht⟩ := RB.out.at q q0 q1
        have HT : Hid (T.size ≤ 16) := hT
        clear hT
        refine wpAny_take (i := 5) (v := ?vh4) rfl (by kernel_rfl) (by kernel_rfl) (by kernel_rfl) (fun _ _ _ h => h) (Or.inl ⟨by rfl, ?hyh4⟩) ?resth4
        case hyh4 => (intro w; go_simp; try with_reducible rfl)
        refine wpAny_ready (rs := [6, 8]) (by kernel_rfl) (by simp) ?_
        refine any_cons rfl (by rfl) (fun K hK => ?_) (any_cons rfl (by rfl) (fun K hK => ?_) AllReady.nil)
        · go_simp
          refine hK _ _ ?_
          clear hK
          refine wpAny_ready (rs := [8]) (by kernel_rfl) (by simp) ?_
          refine any_cons rfl (by rfl) (fun K hK => ?_) AllReady.nil
          go_wp2_with fail
          refine (Rdr.below_any _ _ _ HP.out.1 (by decide) (by decide)).mono ?_
          rintro e v12468 ⟨⟨k2, k20, k21, rfl⟩, pq⟩
          have hwk2 : IntKind.i64.wrap k2 = k2 := by rw [IntKind.wrap_i64]; omega
          have RB : Hid (RowT2 v12468 rowb) := RB.out.post pq HN.out
          have HP : Hid (Post w1 rb v12468) := HP.out.trans pq
          clear pq
          refine hK _ _ ?_
          clear hK
          obtain ⟨S, f, hS0, hS1, hout⟩ := out_shape s T k2 hs HT.out
          have cf := fun w => Fixs.specFixed_any s T k2 w (by unfold maxLen; omega) (by have := HT.out; unfold maxLen; omega)
          rw [hout] at cf
          clear hout
          refine wpAny_ready (rs := [9]) (by kernel_rfl) (by simp) ?_
          refine any_cons rfl (by rfl) (fun K hK => ?_) AllReady.nil
          go_wp2_with fail
          refine (cf _).mono ?_
          rintro e wk ⟨rfl, bk⟩
          have HP : Hid (Post w1 rb wk) := HP.out.trans (postB HP.out.1 bk)
          clear bk cf
          refine hK _ _ ?_
          clear hK
          refine wpAny_take (i := 10) (v := ?vh5) rfl (by kernel_rfl) (by kernel_rfl) (by kernel_rfl) (fun _ _ _ h => h) (Or.inl ⟨by rfl, ?hyh5⟩) ?resth5
          case hyh5 => (intro w; go_simp; try with_reducible rfl)
          refine wpAny_take (i := 11) (v := ?vh6) rfl (by kernel_rfl) (by kernel_rfl) (by kernel_rfl) (fun _ _ _ h => h) (Or.inl ⟨by rfl, ?hyh6⟩) ?resth6
          case hyh6 => (intro w; go_simp; try with_reducible rfl)
          refine wpAny_take (i := 12) (v := ?vh7) rfl (by kernel_rfl) (by kernel_rfl) (by kernel_rfl) (fun _ _ _ h => h) (Or.inl ⟨by rfl, ?hyh7⟩) ?resth7
          case hyh7 => (intro w; go_simp; try with_reducible rfl)
          refine wpAny_take (i := 13) (v := ?vh8) rfl (by kernel_rfl) (by kernel_rfl) (by kernel_rfl) (fun _ _ _ h => h) (Or.inl ⟨by rfl, ?hyh8⟩) ?resth8
          case hyh8 => (intro w; go_simp; try with_reducible rfl)
          refine wpAny_take (i := 14) (v := ?vh9) rfl (by kernel_rfl) (by kernel_rfl) (by kernel_rfl) (fun _ _ _ h => h) (Or.inl ⟨by rfl, ?hyh9⟩) ?resth9
          case hyh9 => (intro w; go_simp; try with_reducible rfl)
          refine wpAny_done (by kernel_rfl) ?_ _
          go_wp2_with fail
          go_meet
          exact ⟨S, f, rfl, rfl, hS0, hS1, HP⟩
        · go_wp2_with fail
          refine (Rdr.below_any _ _ _ HP.out.1 (by decide) (by decide)).mono ?_
          rintro e v1248 ⟨⟨k2, k20, k21, rfl⟩, pq⟩
          have hwk2 : IntKind.i64.wrap k2 = k2 := by rw [IntKind.wrap_i64]; omega
          have RB : Hid (RowT2 v1248 rowb) := RB.out.post pq HN.out
          have HP : Hid (Post w1 rb v1248) := HP.out.trans pq
          clear pq
          refine hK _ _ ?_
          clear hK
          clear ht HT
          obtain ⟨T, hT, ht⟩ := RB.out.at q q0 q1
          have HT : Hid (T.size ≤ 16) := hT
          clear hT
          refine wpAny_ready (rs := [6]) (by kernel_rfl) (by simp) ?_
          refine any_cons rfl (by rfl) (fun K hK => ?_) AllReady.nil
          go_simp
          refine hK _ _ ?_
          clear hK
          obtain ⟨S, f, hS0, hS1, hout⟩ := out_shape s T k2 hs HT.out
          have cf := fun w => Fixs.specFixed_any s T k2 w (by unfold maxLen; omega) (by have := HT.out; unfold maxLen; omega)
          rw [hout] at cf
          clear hout
          refine wpAny_ready (rs := [9]) (by kernel_rfl) (by simp) ?_
          refine any_cons rfl (by rfl) (fun K hK => ?_) AllReady.nil
          go_wp2_with fail
          refine (cf _).mono ?_
          rintro e wk ⟨rfl, bk⟩
          have HP : Hid (Post w1 rb wk) := HP.out.trans (postB HP.out.1 bk)
          clear bk cf
          refine hK _ _ ?_
          clear hK
          refine wpAny_take (i := 10) (v := ?vh10) rfl (by kernel_rfl) (by kernel_rfl) (by kernel_rfl) (fun _ _ _ h => h) (Or.inl ⟨by rfl, ?hyh10⟩) ?resth10
          case hyh10 => (intro w; go_simp; try with_reducible rfl)
          refine wpAny_take (i := 11) (v := ?vh11) rfl (by kernel_rfl) (by kernel_rfl) (by kernel_rfl) (fun _ _ _ h => h) (Or.inl ⟨by rfl, ?hyh11⟩) ?resth11
          case hyh11 => (intro w; go_simp; try with_reducible rfl)
          refine wpAny_take (i := 12) (v := ?vh12) rfl (by kernel_rfl) (by kernel_rfl) (by kernel_rfl) (fun _ _ _ h => h) (Or.inl ⟨by rfl, ?hyh12⟩) ?resth12
          case hyh12 => (intro w; go_simp; try with_reducible rfl)
          refine wpAny_take (i := 13) (v := ?vh13) rfl (by kernel_rfl) (by kernel_rfl) (by kernel_rfl) (fun _ _ _ h => h) (Or.inl ⟨by rfl, ?hyh13⟩) ?resth13
          case hyh13 => (intro w; go_simp; try with_reducible rfl)
          refine wpAny_take (i := 14) (v := ?vh14) rfl (by kernel_rfl) (by kernel_rfl) (by kernel_rfl) (fun _ _ _ h => h) (Or.inl ⟨by rfl, ?hyh14⟩) ?resth14
          case hyh14 => (intro w; go_simp; try with_reducible rfl)
          refine wpAny_done (by kernel_rfl) ?_ _
          go_wp2_with fail
          go_meet
          exact ⟨S, f, rfl, rfl, hS0, hS1, HP⟩
      · go_wp2_with fail
        refine (Rdr.below_any _ _ _ HP.out.1 (by decide) (by decide)).mono ?_
        rintro e v14 ⟨⟨q, q0, q1, rfl⟩, pq⟩
        have HP : Hid (Post w1 rb v14) := HP.out.trans pq
        clear pq
        refine hK _ _ ?_
        clear hK
        refine wpAny_ready (rs := [2, 8]) (by kernel_rfl) (by simp) ?_
        refine any_cons rfl (by rfl) (fun K hK => ?_) (any_cons rfl (by rfl) (fun K hK => ?_) AllReady.nil)
        · have HL : Hid (rb < v14.heap.size) := HP.out.1.lt
          go_simp
          have RB : Hid (RowT2 (v14.alloc (.cells #[Value.string ⟨#[]⟩, Value.string ⟨#[71, 65, 77, 69]⟩] 9)) v14.heap.size) := RowT2.new _
          have HP : Hid (Post w1 rb (v14.alloc (.cells #[Value.string ⟨#[]⟩, Value.string ⟨#[71, 65, 77, 69]⟩] 9))) := HP.out.alloc _
          have HN : Hid (v14.heap.size ≠ rb) := by have := HL.out; show _ ≠ _; omega
          refine hK _ _ ?_
          clear hK
          generalize v14.alloc (.cells #[Value.string ⟨#[]⟩, Value.string ⟨#[71, 65, 77, 69]⟩] 9) = v142 at RB HP ⊢
          generalize v14.heap.size = rowb at RB HN ⊢
          obtain ⟨T, hT, ht⟩ := RB.out.at q q0 q1
          have HT : Hid (T.size ≤ 16) := hT
          clear hT
          refine wpAny_take (i := 5) (v := ?vh15) rfl (by kernel_rfl) (by kernel_rfl) (by kernel_rfl) (fun _ _ _ h => h) (Or.inl ⟨by rfl, ?hyh15⟩) ?resth15
          case hyh15 => (intro w; go_simp; try with_reducible rfl)
          refine wpAny_ready (rs := [6, 8]) (by kernel_rfl) (by simp) ?_
          refine any_cons rfl (by rfl) (fun K hK => ?_) (any_cons rfl (by rfl) (fun K hK => ?_) AllReady.nil)
          · go_simp
            refine hK _ _ ?_
            clear hK
            refine wpAny_ready (rs := [8]) (by kernel_rfl) (by simp) ?_
            refine any_cons rfl (by rfl) (fun K hK => ?_) AllReady.nil
            go_wp2_with fail
            refine (Rdr.below_any _ _ _ HP.out.1 (by decide) (by decide)).mono ?_
            rintro e v14268 ⟨⟨k2, k20, k21, rfl⟩, pq⟩
            have hwk2 : IntKind.i64.wrap k2 = k2 := by rw [IntKind.wrap_i64]; omega
            have RB : Hid (RowT2 v14268 rowb) := RB.out.post pq HN.out
            have HP : Hid (Post w1 rb v14268) := HP.out.trans pq
            clear pq
            refine hK _ _ ?_
            clear hK
            obtain ⟨S, f, hS0, hS1, hout⟩ := out_shape s T k2 hs HT.out
            have cf := fun w => Fixs.specFixed_any s T k2 w (by unfold maxLen; omega) (by have := HT.out; unfold maxLen; omega)
            rw [hout] at cf
            clear hout
            refine wpAny_ready (rs := [9]) (by kernel_rfl) (by simp) ?_
            refine any_cons rfl (by rfl) (fun K hK => ?_) AllReady.nil
            go_wp2_with fail
            refine (cf _).mono ?_
            rintro e wk ⟨rfl, bk⟩
            have HP : Hid (Post w1 rb wk) := HP.out.trans (postB HP.out.1 bk)
            clear bk cf
            refine hK _ _ ?_
            clear hK
            refine wpAny_take (i := 10) (v := ?vh16) rfl (by kernel_rfl) (by kernel_rfl) (by kernel_rfl) (fun _ _ _ h => h) (Or.inl ⟨by rfl, ?hyh16⟩) ?resth16
            case hyh16 => (intro w; go_simp; try with_reducible rfl)
            refine wpAny_take (i := 11) (v := ?vh17) rfl (by kernel_rfl) (by kernel_rfl) (by kernel_rfl) (fun _ _ _ h => h) (Or.inl ⟨by rfl, ?hyh17⟩) ?resth17
            case hyh17 => (intro w; go_simp; try with_reducible rfl)
            refine wpAny_take (i := 12) (v := ?vh18) rfl (by kernel_rfl) (by kernel_rfl) (by kernel_rfl) (fun _ _ _ h => h) (Or.inl ⟨by rfl, ?hyh18⟩) ?resth18
            case hyh18 => (intro w; go_simp; try with_reducible rfl)
            refine wpAny_take (i := 13) (v := ?vh19) rfl (by kernel_rfl) (by kernel_rfl) (by kernel_rfl) (fun _ _ _ h => h) (Or.inl ⟨by rfl, ?hyh19⟩) ?resth19
            case hyh19 => (intro w; go_simp; try with_reducible rfl)
            refine wpAny_take (i := 14) (v := ?vh20) rfl (by kernel_rfl) (by kernel_rfl) (by kernel_rfl) (fun _ _ _ h => h) (Or.inl ⟨by rfl, ?hyh20⟩) ?resth20
            case hyh20 => (intro w; go_simp; try with_reducible rfl)
            refine wpAny_done (by kernel_rfl) ?_ _
            go_wp2_with fail
            go_meet
            exact ⟨S, f, rfl, rfl, hS0, hS1, HP⟩
          · go_wp2_with fail
            refine (Rdr.below_any _ _ _ HP.out.1 (by decide) (by decide)).mono ?_
            rintro e v1428 ⟨⟨k2, k20, k21, rfl⟩, pq⟩
            have hwk2 : IntKind.i64.wrap k2 = k2 := by rw [IntKind.wrap_i64]; omega
            have RB : Hid (RowT2 v1428 rowb) := RB.out.post pq HN.out
            have HP : Hid (Post w1 rb v1428) := HP.out.trans pq
            clear pq
            refine hK _ _ ?_
            clear hK
            clear ht HT
            obtain ⟨T, hT, ht⟩ := RB.out.at q q0 q1
            have HT : Hid (T.size ≤ 16) := hT
            clear hT
            refine wpAny_ready (rs := [6]) (by kernel_rfl) (by simp) ?_
            refine any_cons rfl (by rfl) (fun K hK => ?_) AllReady.nil
            go_simp
            refine hK _ _ ?_
            clear hK
            obtain ⟨S, f, hS0, hS1, hout⟩ := out_shape s T k2 hs HT.out
            have cf := fun w => Fixs.specFixed_any s T k2 w (by unfold maxLen; omega) (by have := HT.out; unfold maxLen; omega)
            rw [hout] at cf
            clear hout
            refine wpAny_ready (rs := [9]) (by kernel_rfl) (by simp) ?_
            refine any_cons rfl (by rfl) (fun K hK => ?_) AllReady.nil
            go_wp2_with fail
            refine (cf _).mono ?_
            rintro e wk ⟨rfl, bk⟩
            have HP : Hid (Post w1 rb wk) := HP.out.trans (postB HP.out.1 bk)
            clear bk cf
            refine hK _ _ ?_
            clear hK
            refine wpAny_take (i := 10) (v := ?vh21) rfl (by kernel_rfl) (by kernel_rfl) (by kernel_rfl) (fun _ _ _ h => h) (Or.inl ⟨by rfl, ?hyh21⟩) ?resth21
            case hyh21 => (intro w; go_simp; try with_reducible rfl)
            refine wpAny_take (i := 11) (v := ?vh22) rfl (by kernel_rfl) (by kernel_rfl) (by kernel_rfl) (fun _ _ _ h => h) (Or.inl ⟨by rfl, ?hyh22⟩) ?resth22
            case hyh22 => (intro w; go_simp; try with_reducible rfl)
            refine wpAny_take (i := 12) (v := ?vh23) rfl (by kernel_rfl) (by kernel_rfl) (by kernel_rfl) (fun _ _ _ h => h) (Or.inl ⟨by rfl, ?hyh23⟩) ?resth23
            case hyh23 => (intro w; go_simp; try with_reducible rfl)
            refine wpAny_take (i := 13) (v := ?vh24) rfl (by kernel_rfl) (by kernel_rfl) (by kernel_rfl) (fun _ _ _ h => h) (Or.inl ⟨by rfl, ?hyh24⟩) ?resth24
            case hyh24 => (intro w; go_simp; try with_reducible rfl)
            refine wpAny_take (i := 14) (v := ?vh25) rfl (by kernel_rfl) (by kernel_rfl) (by kernel_rfl) (fun _ _ _ h => h) (Or.inl ⟨by rfl, ?hyh25⟩) ?resth25
            case hyh25 => (intro w; go_simp; try with_reducible rfl)
            refine wpAny_done (by kernel_rfl) ?_ _
            go_wp2_with fail
            go_meet
            exact ⟨S, f, rfl, rfl, hS0, hS1, HP⟩
        · go_wp2_with fail
          refine (Rdr.below_any _ _ _ HP.out.1 (by decide) (by decide)).mono ?_
          rintro e v148 ⟨⟨k2, k20, k21, rfl⟩, pq⟩
          have hwk2 : IntKind.i64.wrap k2 = k2 := by rw [IntKind.wrap_i64]; omega
          have HP : Hid (Post w1 rb v148) := HP.out.trans pq
          clear pq
          refine hK _ _ ?_
          clear hK
          refine wpAny_ready (rs := [2]) (by kernel_rfl) (by simp) ?_
          refine any_cons rfl (by rfl) (fun K hK => ?_) AllReady.nil
          have HL : Hid (rb < v148.heap.size) := HP.out.1.lt
          go_simp
          have RB : Hid (RowT2 (v148.alloc (.cells #[Value.string ⟨#[]⟩, Value.string ⟨#[71, 65, 77, 69]⟩] 9)) v148.heap.size) := RowT2.new _
          have HP : Hid (Post w1 rb (v148.alloc (.cells #[Value.string ⟨#[]⟩, Value.string ⟨#[71, 65, 77, 69]⟩] 9))) := HP.out.alloc _
          have HN : Hid (v148.heap.size ≠ rb) := by have := HL.out; show _ ≠ _; omega
          refine hK _ _ ?_
          clear hK
          generalize v148.alloc (.cells #[Value.string ⟨#[]⟩, Value.string ⟨#[71, 65, 77, 69]⟩] 9) = v1482 at RB HP ⊢
          generalize v148.heap.size = rowb at RB HN ⊢
          obtain ⟨T, hT, ht⟩ := RB.out.at q q0 q1
          have HT : Hid (T.size ≤ 16) := hT
          clear hT
          refine wpAny_take (i := 5) (v := ?vh26) rfl (by kernel_rfl) (by kernel_rfl) (by kernel_rfl) (fun _ _ _ h => h) (Or.inl ⟨by rfl, ?hyh26⟩) ?resth26
          case hyh26 => (intro w; go_simp; try with_reducible rfl)
          refine wpAny_ready (rs := [6]) (by kernel_rfl) (by simp) ?_
          refine any_cons rfl (by rfl) (fun K hK => ?_) AllReady.nil
          go_simp
          refine hK _ _ ?_
          clear hK
          obtain ⟨S, f, hS0, hS1, hout⟩ := out_shape s T k2 hs HT.out
          have cf := fun w => Fixs.specFixed_any s T k2 w (by unfold maxLen; omega) (by have := HT.out; unfold maxLen; omega)
          rw [hout] at cf
          clear hout
          refine wpAny_ready (rs := [9]) (by kernel_rfl) (by simp) ?_
          refine any_cons rfl (by rfl) (fun K hK => ?_) AllReady.nil
          go_wp2_with fail
          refine (cf _).mono ?_
          rintro e wk ⟨rfl, bk⟩
          have HP : Hid (Post w1 rb wk) := HP.out.trans (postB HP.out.1 bk)
          clear bk cf
          refine hK _ _ ?_
          clear hK
          refine wpAny_take (i := 10) (v := ?vh27) rfl (by kernel_rfl) (by kernel_rfl) (by kernel_rfl) (fun _ _ _ h => h) (Or.inl ⟨by rfl, ?hyh27⟩) ?resth27
          case hyh27 => (intro w; go_simp; try with_reducible rfl)
          refine wpAny_take (i := 11) (v := ?vh28) rfl (by kernel_rfl) (by kernel_rfl) (by kernel_rfl) (fun _ _ _ h => h) (Or.inl ⟨by rfl, ?hyh28⟩) ?resth28
          case hyh28 => (intro w; go_simp; try with_reducible rfl)
          refine wpAny_take (i := 12) (v := ?vh29) rfl (by kernel_rfl) (by kernel_rfl) (by kernel_rfl) (fun _ _ _ h => h) (Or.inl ⟨by rfl, ?hyh29⟩) ?resth29
          case hyh29 => (intro w; go_simp; try with_reducible rfl)
          refine wpAny_take (i := 13) (v := ?vh30) rfl (by kernel_rfl) (by kernel_rfl) (by kernel_rfl) (fun _ _ _ h => h) (Or.inl ⟨by rfl, ?hyh30⟩) ?resth30
          case hyh30 => (intro w; go_simp; try with_reducible rfl)
          refine wpAny_take (i := 14) (v := ?vh31) rfl (by kernel_rfl) (by kernel_rfl) (by kernel_rfl) (fun _ _ _ h => h) (Or.inl ⟨by rfl, ?hyh31⟩) ?resth31
          case hyh31 => (intro w; go_simp; try with_reducible rfl)
          refine wpAny_done (by kernel_rfl) ?_ _
          go_wp2_with fail
          go_meet
          exact ⟨S, f, rfl, rfl, hS0, hS1, HP⟩
    · have HL : Hid (rb < w4.heap.size) := HP.out.1.lt
      go_simp
      have RB : Hid (RowT2 (w4.alloc (.cells #[Value.string ⟨#[]⟩, Value.string ⟨#[71, 65, 77, 69]⟩] 9)) w4.heap.size) := RowT2.new _
      have HP : Hid (Post w1 rb (w4.alloc (.cells #[Value.string ⟨#[]⟩, Value.string ⟨#[71, 65, 77, 69]⟩] 9))) := HP.out.alloc _
      have HN : Hid (w4.heap.size ≠ rb) := by have := HL.out; show _ ≠ _; omega
      refine hK _ _ ?_
      clear hK
      generalize w4.alloc (.cells #[Value.string ⟨#[]⟩, Value.string ⟨#[71, 65, 77, 69]⟩] 9) = v2 at RB HP ⊢
      generalize w4.heap.size = rowb at RB HN ⊢
      refine wpAny_ready (rs := [1]) (by kernel_rfl) (by simp) ?_
      refine any_cons rfl (by rfl) (fun K hK => ?_) AllReady.nil
      go_wp2_with fail
      refine (rom_any _ _ HP.out.1).mono ?_
      rintro e v21 ⟨⟨s, hs, rfl⟩, pq⟩
      have RB : Hid (RowT2 v21 rowb) := RB.out.post pq HN.out
      have HP : Hid (Post w1 rb v21) := HP.out.trans pq
      clear pq
      refine hK _ _ ?_
      clear hK
      refine wpAny_ready (rs := [4]) (by kernel_rfl) (by simp) ?_
      refine any_cons rfl (by rfl) (fun K hK => ?_) AllReady.nil
      go_wp2_with fail
      refine (Rdr.below_any _ _ _ HP.out.1 (by decide) (by decide)).mono ?_
      rintro e v214 ⟨⟨q, q0, q1, rfl⟩, pq⟩
      have RB : Hid (RowT2 v214 rowb) := RB.out.post pq HN.out
      have HP : Hid (Post w1 rb v214) := HP.out.trans pq
      clear pq
      refine hK _ _ ?_
      clear hK
      obtain ⟨T, hT, ht⟩ := RB.out.at q q0 q1
      have HT : Hid (T.size ≤ 16) := hT
      clear hT
      refine wpAny_take (i := 5) (v := ?vh32) rfl (by kernel_rfl) (by kernel_rfl) (by kernel_rfl) (fun _ _ _ h => h) (Or.inl ⟨by rfl, ?hyh32⟩) ?resth32
      case hyh32 => (intro w; go_simp; try with_reducible rfl)
      refine wpAny_ready (rs := [6, 8]) (by kernel_rfl) (by simp) ?_
      refine any_cons rfl (by rfl) (fun K hK => ?_) (any_cons rfl (by rfl) (fun K hK => ?_) AllReady.nil)
      · go_simp
        refine hK _ _ ?_
        clear hK
        refine wpAny_ready (rs := [8]) (by kernel_rfl) (by simp) ?_
        refine any_cons rfl (by rfl) (fun K hK => ?_) AllReady.nil
        go_wp2_with fail
        refine (Rdr.below_any _ _ _ HP.out.1 (by decide) (by decide)).mono ?_
        rintro e v21468 ⟨⟨k2, k20, k21, rfl⟩, pq⟩
        have hwk2 : IntKind.i64.wrap k2 = k2 := by rw [IntKind.wrap_i64]; omega
        have RB : Hid (RowT2 v21468 rowb) := RB.out.post pq HN.out
        have HP : Hid (Post w1 rb v21468) := HP.out.trans pq
        clear pq
        refine hK _ _ ?_
        clear hK
        obtain ⟨S, f, hS0, hS1, hout⟩ := out_shape s T k2 hs HT.out
        have cf := fun w => Fixs.specFixed_any s T k2 w (by unfold maxLen; omega) (by have := HT.out; unfold maxLen; omega)
        rw [hout] at cf
        clear hout
        refine wpAny_ready (rs := [9]) (by kernel_rfl) (by simp) ?_
        refine any_cons rfl (by rfl) (fun K hK => ?_) AllReady.nil
        go_wp2_with fail
        refine (cf _).mono ?_
        rintro e wk ⟨rfl, bk⟩
        have HP : Hid (Post w1 rb wk) := HP.out.trans (postB HP.out.1 bk)
        clear bk cf
        refine hK _ _ ?_
        clear hK
        refine wpAny_take (i := 10) (v := ?vh33) rfl (by kernel_rfl) (by kernel_rfl) (by kernel_rfl) (fun _ _ _ h => h) (Or.inl ⟨by rfl, ?hyh33⟩) ?resth33
        case hyh33 => (intro w; go_simp; try with_reducible rfl)
        refine wpAny_take (i := 11) (v := ?vh34) rfl (by kernel_rfl) (by kernel_rfl) (by kernel_rfl) (fun _ _ _ h => h) (Or.inl ⟨by rfl, ?hyh34⟩) ?resth34
        case hyh34 => (intro w; go_simp; try with_reducible rfl)
        refine wpAny_take (i := 12) (v := ?vh35) rfl (by kernel_rfl) (by kernel_rfl) (by kernel_rfl) (fun _ _ _ h => h) (Or.inl ⟨by rfl, ?hyh35⟩) ?resth35
        case hyh35 => (intro w; go_simp; try with_reducible rfl)
        refine wpAny_take (i := 13) (v := ?vh36) rfl (by kernel_rfl) (by kernel_rfl) (by kernel_rfl) (fun _ _ _ h => h) (Or.inl ⟨by rfl, ?hyh36⟩) ?resth36
        case hyh36 => (intro w; go_simp; try with_reducible rfl)
        refine wpAny_take (i := 14) (v := ?vh37) rfl (by kernel_rfl) (by kernel_rfl) (by kernel_rfl) (fun _ _ _ h => h) (Or.inl ⟨by rfl, ?hyh37⟩) ?resth37
        case hyh37 => (intro w; go_simp; try with_reducible rfl)
        refine wpAny_done (by kernel_rfl) ?_ _
        go_wp2_with fail
        go_meet
        exact ⟨S, f, rfl, rfl, hS0, hS1, HP⟩
      · go_wp2_with fail
        refine (Rdr.below_any _ _ _ HP.out.1 (by decide) (by decide)).mono ?_
        rintro e v2148 ⟨⟨k2, k20, k21, rfl⟩, pq⟩
        have hwk2 : IntKind.i64.wrap k2 = k2 := by rw [IntKind.wrap_i64]; omega
        have RB : Hid (RowT2 v2148 rowb) := RB.out.post pq HN.out
        have HP : Hid (Post w1 rb v2148) := HP.out.trans pq
        clear pq
        refine hK _ _ ?_
        clear hK
        clear ht HT
        obtain ⟨T, hT, ht⟩ := RB.out.at q q0 q1
        have HT : Hid (T.size ≤ 16) := hT
        clear hT
        refine wpAny_ready (rs := [6]) (by kernel_rfl) (by simp) ?_
        refine any_cons rfl (by rfl) (fun K hK => ?_) AllReady.nil
        go_simp
        refine hK _ _ ?_
        clear hK
        obtain ⟨S, f, hS0, hS1, hout⟩ := out_shape s T k2 hs HT.out
        have cf := fun w => Fixs.specFixed_any s T k2 w (by unfold maxLen; omega) (by have := HT.out; unfold maxLen; omega)
        rw [hout] at cf
        clear hout
        refine wpAny_ready (rs := [9]) (by kernel_rfl) (by simp) ?_
        refine any_cons rfl (by rfl) (fun K hK => ?_) AllReady.nil
        go_wp2_with fail
        refine (cf _).mono ?_
        rintro e wk ⟨rfl, bk⟩
        have HP : Hid (Post w1 rb wk) := HP.out.trans (postB HP.out.1 bk)
        clear bk cf
        refine hK _ _ ?_
        clear hK
        refine wpAny_take (i := 10) (v := ?vh38) rfl (by kernel_rfl) (by kernel_rfl) (by kernel_rfl) (fun _ _ _ h => h) (Or.inl ⟨by rfl, ?hyh38⟩) ?resth38
        case hyh38 => (intro w; go_simp; try with_reducible rfl)
        refine wpAny_take (i := 11) (v := ?vh39) rfl (by kernel_rfl) (by kernel_rfl) (by kernel_rfl) (fun _ _ _ h => h) (Or.inl ⟨by rfl, ?hyh39⟩) ?resth39
        case hyh39 => (intro w; go_simp; try with_reducible rfl)
        refine wpAny_take (i := 12) (v := ?vh40) rfl (by kernel_rfl) (by kernel_rfl) (by kernel_rfl) (fun _ _ _ h => h) (Or.inl ⟨by rfl, ?hyh40⟩) ?resth40
        case hyh40 => (intro w; go_simp; try with_reducible rfl)
        refine wpAny_take (i := 13) (v := ?vh41) rfl (by kernel_rfl) (by kernel_rfl) (by kernel_rfl) (fun _ _ _ h => h) (Or.inl ⟨by rfl, ?hyh41⟩) ?resth41
        case hyh41 => (intro w; go_simp; try with_reducible rfl)
        refine wpAny_take (i := 14) (v := ?vh42) rfl (by kernel_rfl) (by kernel_rfl) (by kernel_rfl) (fun _ _ _ h => h) (Or.inl ⟨by rfl, ?hyh42⟩) ?resth42
        case hyh42 => (intro w; go_simp; try with_reducible rfl)
        refine wpAny_done (by kernel_rfl) ?_ _
        go_wp2_with fail
        go_meet
        exact ⟨S, f, rfl, rfl, hS0, hS1, HP⟩
  case rest =>
  clear HP
  obtain ⟨S, f, rfl, rfl, hS0, hS1, HP⟩ := hcut
  rename World => w5
  cases f with
  | false =>
    go_wp2_with fail
    refine (rom_any _ _ HP.out.1).mono ?_
    rintro e w6 ⟨⟨s, hs, rfl⟩, p⟩
    have HP : Hid (Post w1 rb w6) := HP.out.trans p
    clear p
    go_wp2
    go_ret
    exact ⟨⟨s, by omega, rfl⟩, by rw [hB]; exact B1.out.trans (HP.out.below (Nat.le_refl _) (Nat.le_of_lt hlt))⟩
  | true =>
    have hS2 := hS1 rfl
    clear hS1
    go_wp2_with fail
    refine (Rdr.once_any _ _ _ HP.out.1 (by decide) (by decide)).mono ?_
    rintro e w6 ⟨⟨q, rfl⟩, p⟩
    have HP : Hid (Post w1 rb w6) := HP.out.trans p
    clear p
    cases q with
    | false =>
      go_wp2
      go_ret
      exact ⟨⟨S, hS0, rfl⟩, by rw [hB]; exact B1.out.trans (HP.out.below (Nat.le_refl _) (Nat.le_of_lt hlt))⟩
    | true =>
      go_wp2_with fail
      refine (Rdr.below_any _ _ _ HP.out.1 (by decide) (by decide)).mono ?_
      rintro e w7 ⟨⟨i, i0, i1, rfl⟩, p⟩
      have HP : Hid (Post w1 rb w7) := HP.out.trans p
      clear p
      have s1 : ∀ w, (Instr.slice 9 (.string S) none (some (.int .i64 i)) none).run Tryd.prog w = .ok (.string (S.extract 0 i.toNat)) w := fun w => run_slice_string_h (P := Tryd.prog) (w := w) (t := 9) (s := S) Tryd.underlying9 .i64 i (by omega) (by omega)
      have s2 : ∀ w, (Instr.slice 9 (.string S) (some (.int .i64 (i + 1))) none none).run Tryd.prog w = .ok (.string (S.extract (i + 1).toNat S.size)) w := fun w => run_slice_string_l (P := Tryd.prog) (w := w) (t := 9) (s := S) Tryd.underlying9 .i64 (i + 1) (by omega) (by omega)
      have z1 : (S.extract 0 i.toNat).size = i.toNat := by simp; omega
      have z2 : (S.extract (i + 1).toNat S.size).size = S.size - (i + 1).toNat := by simp
      generalize S.extract 0 i.toNat = X at s1 z1
      generalize S.extract (i + 1).toNat S.size = Y at s2 z2
      have hwi : IntKind.i64.wrap (i + 1) = i + 1 := by rw [IntKind.wrap_i64]; omega
      have z3 : ∀ x : Int, (strOfNums [x]).size = 1 := fun x => strOfNums_size _
      go_upto_region 7 with fail
      refine wp_region_any (by kernel_rfl) ?_
      try (change wpAny _ _ _ _ _ _ _ (World.drew _))
      have HP : Hid (Post w1 rb w7.drew) := HP.out.trans (Post.of HP.out.1 rfl rfl rfl rfl)
      generalize w7.drew = w8 at HP ⊢
      refine wpAny_take (i := 0) (v := ?vh43) rfl (by kernel_rfl) (by kernel_rfl) (by kernel_rfl) (fun _ _ _ h => h) (Or.inl ⟨by rfl, ?hyh43⟩) ?resth43
      case hyh43 => (intro w; go_simp; try with_reducible rfl)
      refine wpAny_take (i := 1) (v := ?vh44) rfl (by kernel_rfl) (by kernel_rfl) (by kernel_rfl) (fun _ _ _ h => h) (Or.inl ⟨by rfl, ?hyh44⟩) ?resth44
      case hyh44 => (intro w; go_simp; try with_reducible rfl)
      refine wpAny_take (i := 2) (v := ?vh45) rfl (by kernel_rfl) (by kernel_rfl) (by kernel_rfl) (fun _ _ _ h => h) (Or.inl ⟨by rfl, ?hyh45⟩) ?resth45
      case hyh45 => (intro w; go_simp; try with_reducible rfl)
      refine wpAny_take (i := 3) (v := ?vh46) rfl (by kernel_rfl) (by kernel_rfl) (by kernel_rfl) (fun _ _ _ h => h) (Or.inl ⟨by rfl, ?hyh46⟩) ?resth46
      case hyh46 => (intro w; go_simp; try with_reducible rfl)
      refine wpAny_take (i := 9) (v := ?vh47) rfl (by kernel_rfl) (by kernel_rfl) (by kernel_rfl) (fun _ _ _ h => h) (Or.inl ⟨by rfl, ?hyh47⟩) ?resth47
      case hyh47 => (intro w; go_simp; try with_reducible rfl)
      refine wpAny_take (i := 10) (v := ?vh48) rfl (by kernel_rfl) (by kernel_rfl) (by kernel_rfl) (fun _ _ _ h => h) (Or.inl ⟨by rfl, ?hyh48⟩) ?resth48
      case hyh48 => (intro w; go_simp; try with_reducible rfl)
      refine wpAny_take (i := 11) (v := ?vh49) rfl (by kernel_rfl) (by kernel_rfl) (by kernel_rfl) (fun _ _ _ h => h) (Or.inl ⟨by rfl, ?hyh49⟩) ?resth49
      case hyh49 => (intro w; go_simp; try with_reducible rfl)
      refine wpAny_take (i := 12) (v := ?vh50) rfl (by kernel_rfl) (by kernel_rfl) (by kernel_rfl) (fun _ _ _ h => h) (Or.inl ⟨by rfl, ?hyh50⟩) ?resth50
      case hyh50 => (intro w; go_simp; try with_reducible rfl)
      refine wpAny_ready (rs := [4]) (by kernel_rfl) (by simp) ?_
      refine any_cons rfl (by rfl) (fun K hK => ?_) AllReady.nil
      go_wp2_with fail
      refine (Rdr.below_any _ _ _ HP.out.1 (by decide) (by decide)).mono ?_
      rintro e w9 ⟨⟨x, x0, x1, rfl⟩, p⟩
      have HP : Hid (Post w1 rb w9) := HP.out.trans p
      clear p
      refine hK _ _ ?_
      clear hK
      have hux : IntKind.u8.wrap x = x := by rw [IntKind.wrap_u8]; omega
      refine wpAny_take (i := 5) (v := ?vh51) rfl (by kernel_rfl) (by kernel_rfl) (by kernel_rfl) (fun _ _ _ h => h) (Or.inl ⟨by rfl, ?hyh51⟩) ?resth51
      case hyh51 => (intro w; go_simp; try with_reducible rfl)
      refine wpAny_ready (rs := [6]) (by kernel_rfl) (by simp) ?_
      refine any_cons rfl (by rfl) (fun K hK => ?_) AllReady.nil
      go_simp
      refine hK _ _ ?_
      clear hK
      have HP : Hid (Post w1 rb (w9.alloc (.cells #[.int .u8 x] 5))) := HP.out.alloc _
      have cv := hcv w9 x
      have z4 := z3 x
      generalize strOfNums [x] = Z at cv z4
      clear hcv z3
      generalize w9.alloc (.cells #[.int .u8 x] 5) = wA at HP cv ⊢
      refine wpAny_ready (rs := [7]) (by kernel_rfl) (by simp) ?_
      refine any_cons rfl (by rfl) (fun K hK => ?_) AllReady.nil
      go_simp
      refine hK _ _ ?_
      clear hK
      have zz : (X ++ Z ++ Y).size ≤ 4096 := by rw [ByteArray.size_append, ByteArray.size_append]; omega
      refine wpAny_take (i := 8) (v := ?vh52) rfl (by kernel_rfl) (by kernel_rfl) (by kernel_rfl) (fun _ _ _ h => h) (Or.inl ⟨by rfl, ?hyh52⟩) ?resth52
      case hyh52 => (intro w; go_simp; first | with_reducible rfl | rw [if_neg (by omega)])
      refine wpAny_take (i := 13) (v := ?vh53) rfl (by kernel_rfl) (by kernel_rfl) (by kernel_rfl) (fun _ _ _ h => h) (Or.inl ⟨by rfl, ?hyh53⟩) ?resth53
      case hyh53 => (intro w; go_simp; first | with_reducible rfl | rw [if_neg (by omega)])
      refine wpAny_take (i := 14) (v := ?vh54) rfl (by kernel_rfl) (by kernel_rfl) (by kernel_rfl) (fun _ _ _ h => h) (Or.inl ⟨by rfl, ?hyh54⟩) ?resth54
      case hyh54 => (intro w; go_simp; try with_reducible rfl)
      refine wpAny_done (by kernel_rfl) ?_ _
      go_wp2
      go_ret
      exact ⟨⟨_, zz, rfl⟩, by rw [hB]; exact B1.out.trans (HP.out.below (Nat.le_refl _) (Nat.le_of_lt hlt))⟩
end Go.Proofs.YtpnaohonadoofaaDoor.DrawH
