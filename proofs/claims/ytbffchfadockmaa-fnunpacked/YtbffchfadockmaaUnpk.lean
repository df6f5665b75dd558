/-
  A contract of ours for impl.Unpacked, at every text.
-/
import Derived.Test.YtbffchfadockmaaUnpj
namespace Go.Proofs.Ytbffchfadockmaa.Unpk
open Go.ChangeShapes Go.WideShapes Go.ChangeAt Go.RowKit Go.Deep Go.Shelf
open Pakp Paks Paki Unps Unpi Unpj Obuf
open Pakj (empty_yes empty_no)
set_option linter.unusedVariables false
set_option maxRecDepth 100000
attribute [local go_sem] Oper.semAt_some

theorem repeat_rep (l : List UInt8) (n : Nat) : Lib.repeatL l n = rep (l, n) := by
  unfold rep
  induction n with
  | zero => rfl
  | succ n ih => simp only [List.replicate_succ, List.flatten_cons, Lib.repeatL]; simp only at ih; rw [ih]
theorem slice_len {W : World} {base : Nat} {e : TypeId} {size : Nat} {v : Value} {k : Nat} {xs : List Value} (h : W.ownsRow base e size v k xs) : ∃ a c, v = .slice a k c := by
  rcases h.2 with ⟨h, h0⟩ | ⟨g, cap, _, rfl, _⟩
  · exact ⟨none, 0, by rw [h, h0]⟩
  · exact ⟨_, _, rfl⟩
theorem wp_append_str {P : Program} {o : Oper} {a : Act} {K : Act → World → Prop} {Q : Exit → Act → World → Prop} (w : World) (sl x : Operand) (t u : TypeId)
    (ho : o.op = .call { callee := .builtin .append, args := #[sl, x], argTypes := #[t, u] })
    (base : Nat) (e : TypeId) (i : TypeInfo) (ht : P.underlying t = some (.slice e)) (hu : P.underlying u = some .string) (hi : P.info? e = some i) (hz : i.zero = some (.int .u8 0))
    (hsize : i.size = 1) (hby : i.bytes = 1)
    (v : Value) (n : Nat) (xs : List Value) (hs : a.eval sl = v) (hown : w.ownsRow base e 1 v n xs) (s : ByteArray) (hx : a.eval x = .string s)
    (hbytes : n + s.size ≤ 140737488355328) (hbase : base ≤ w.heap.size)
    (h : ∀ v' w', w'.ownsRow base e 1 v' (n + s.size) (xs ++ Lib.strCells s) → w.grownBy w' v.ownBlock → (v' = .slice none 0 0 ↔ v = .slice none 0 0 ∧ s.size = 0) → K (a.put o.dst v') w') : o.wp P a w K Q := by
  obtain ⟨v', w', hr, h2, h3, h4⟩ := Lib.run_append_own_string (P := P) w base t u o.type e i ht hu hi hz hsize hby v n xs hown s (by unfold maxLen; omega) hbytes hbase
  unfold Oper.wp execOp
  simp only [ho, resolve, invoke, builtin, Sem.run_bind, Sem.run_pure, Result.andThen_ok, List.map_toArray, List.map_cons, List.map_nil, hs, hx, hr]
  exact h v' w' h2 h3 h4
abbrev tO : TypeId := 25
def outL (pre : List Part) : List UInt8 := sumUp (pre.map told)
theorem outL_snoc (pre : List Part) (x : Part) : outL (pre ++ [x]) = outL pre ++ rep (told x) := by unfold outL; rw [List.map_append]; exact sumUp_snoc _ _
def Good (pre : List Part) : Prop := (∀ x ∈ pre.map told, bad x = false) ∧ (outL pre).length ≤ 20000
def Res (w W : World) : Prop := Boxed W w.heap.size 9 (.string ⟨#[]⟩) ∧ Boxed W (w.heap.size + 1) 4 (.bool false)
def Inv (w : World) (pre : List Part) (W : World) : Prop :=
  ((∃ v, Boxed W (w.heap.size + 1 + 1) tO v ∧ W.ownsRow w.heap.size 5 1 v (outL pre).length (Lib.byteCells (outL pre)) ∧ True) ∧ Below w.heap.size w W) ∧ (Boxed W w.heap.size 9 (.string ⟨#[]⟩) ∧ Boxed W (w.heap.size + 1) 4 (.bool false)) ∧ Good pre
def Lft (w : World) (c : Code) (pre : List Part) (W : World) : Prop :=
  Below w.heap.size w W ∧ (Boxed W w.heap.size 9 (.string ⟨#[]⟩) ∧ Boxed W (w.heap.size + 1) 4 (.bool false)) ∧ (c = .ret ∧ ∀ rest, ¬ fine (pre.map told ++ rest))
theorem inv_own (w : World) (B : Nat) (hB : w.heap.size ≤ B) : OwnFrom B (Inv w) :=
  OwnFrom.and (OwnFrom.and (Own.from (holdsRow_own w.heap.size (w.heap.size + 1 + 1) tO 5 1 (fun pre => (outL pre).length) (fun pre => Lib.byteCells (outL pre)) (fun _ _ => True)) _) (ownFrom_below (Nat.le_refl _) hB))
    (OwnFrom.and (OwnFrom.and (Own.from (boxed_own _ _ (fun _ => _)) _) (Own.from (boxed_own _ _ (fun _ => _)) _)) (ownFrom_pure _ _))
theorem lft_own (w : World) (B : Nat) (hB : w.heap.size ≤ B) (c : Code) : OwnFrom B (Lft w c) :=
  OwnFrom.and (ownFrom_below (Nat.le_refl _) hB) (OwnFrom.and (OwnFrom.and (Own.from (boxed_own _ _ (fun _ => _)) _) (Own.from (boxed_own _ _ (fun _ => _)) _)) (ownFrom_pure _ _))
theorem no_fit {pre : List Part} {x : Part} (h : bad (told x) = true ∨ 20000 < (outL pre ++ rep (told x)).length) (rest : List (List UInt8 × Nat)) : ¬ fine ((pre ++ [x]).map told ++ rest) := by
  rw [List.map_append, List.append_assoc]
  rcases h with h | h
  · exact not_fine_bad h
  · exact not_fine_long (by rw [sumUp_snoc]; exact h)
set_option maxHeartbeats 2000000 in
theorem unpacked_in (s : ByteArray) (w : World) (hs : s.size ≤ 1048576) :
    CallsIn Fence.wide 6 Try.prog 10 #[.string s] w fun e w' => e = .returned (.tuple #[.string (outV s), .bool (outB s)]) ∧ Below w.heap.size w w' := by
  by_cases hbig : 40000 < s.size
  · have e1 : Hid (outV s = ⟨#[]⟩ ∧ outB s = false) := no_end (fun h => by have := h.1; rw [D_len] at this; omega)
    refine callsIn_wide.2 ?_
    go_enter Try.func10, Try.ntmps10
    go_wp2
    exact bodyPost_ret (v := .tuple #[.string ⟨#[]⟩, .bool false]) (by simp [results, Try.results10, go_sem]) rfl ⟨ret_two' e1.out, ((Below.refl _ _).alloc (Nat.le_refl _) _).alloc (by simp) _⟩
  have HS : Hid (s.size ≤ 40000) := by show _ ≤ _; omega
  obtain ⟨i0, hi, hz0, hz1, hz2⟩ := info_parts info5
  obtain ⟨W1, hW1⟩ : ∃ W1, (w.alloc (.cells #[.string ⟨#[]⟩] 9)).alloc (.cells #[.bool false] 4) = W1 := ⟨_, rfl⟩
  have b0 : Boxed W1 w.heap.size 9 (.string ⟨#[]⟩) := by rw [← hW1]; exact (Boxed.new w 9 _).alloc _
  have b1 : Boxed W1 (w.heap.size + 1) 4 (.bool false) := by rw [← hW1]; have := Boxed.new (w.alloc (.cells #[.string ⟨#[]⟩] 9)) 4 (.bool false); rwa [World.size_alloc] at this
  have z1 : W1.heap.size = w.heap.size + 1 + 1 := by rw [← hW1]; simp
  have hB1 : Below w.heap.size w W1 := by rw [← hW1]; exact ((Below.refl _ w).alloc (Nat.le_refl _) _).alloc (by simp) _
  have b2 := Boxed.new W1 tO (.slice none 0 0)
  have b3 := Boxed.new (W1.alloc (.cells #[.slice none 0 0] tO)) 9 (.string s)
  rw [World.size_alloc] at b3
  rw [z1] at b2 b3
  have hB0 : Below w.heap.size w ((W1.alloc (.cells #[.slice none 0 0] tO)).alloc (.cells #[.string s] 9)) := (hB1.alloc hB1.size _).alloc (by simp; omega) _
  refine callsIn_of_wp_marks Try.func10 rfl trivial ?_ rfl
  simp only [Try.ntmps10, List.size_toArray, List.length_cons, List.length_nil, Nat.reduceAdd, Nat.reduceSub, Array.replicate_succ, Array.replicate_zero, List.push_toArray, List.append_toArray, List.nil_append, List.cons_append]
  gi_wp2_with (refine ⟨trivial, ?_⟩; gi_at_call 16; refine (runs_in _ _).mono ?_; rintro e w' ⟨rfl, rfl⟩)
  refine wpIn_rangeFunc_ownG rfl (by omega) (gf := 25) (lb := #[.pointer (some ⟨w.heap.size + 1 + 1 + 1, 0, none⟩)]) rfl trivial (enters_of Try.func25 (by kernel_rfl) rfl)
    (runs_stops 5 (by omega) (w.heap.size + 1 + 1 + 1) s hs _ b3.cell b3.lt) (fun _ _ => trivial) (fun _ _ _ _ _ _ _ _ => trivial) (Below.refl _ _) (fun _ => rfl)
    (Inv w) (Lft w) (inv_own w _ (by simp; omega)) (lft_own w _ (by simp; omega))
    ⟨⟨⟨_, b2.alloc _, World.ownsRow_nil _ _ _ _, trivial⟩, hB0⟩, ⟨(b0.alloc _).alloc _, (b1.alloc _).alloc _⟩, ⟨fun _ h => (by cases h), Nat.zero_le _⟩⟩
    (fun x => { tmps := #[.string s, undef, .pointer (some ⟨w.heap.size, 0, none⟩), .pointer (some ⟨w.heap.size + 1, 0, none⟩), .pointer (some ⟨w.heap.size + 1 + 1, 0, none⟩), .string x.1.1, .int .i64 x.1.2, .string s, .int .i64 s.size, .bool (decide ((40000 : Int) < s.size)), .string s, .func (.func 25) #[] #[.pointer (some ⟨w.heap.size + 1 + 1 + 1, 0, none⟩)], .string x.1.1, .int .i64 x.1.2, undef, undef, undef, undef, undef, undef, undef, undef, undef, undef, undef, undef, undef, undef, undef, undef, undef, undef, undef], defers := [] }) ?assign ?body ?done ?stop
  case assign =>
    intro l x W K hK
    unfold encs
    gi_wp2
    exact hK
  case body =>
    rintro l pre x W ⟨⟨⟨v, hv, hrow, _⟩, hB⟩, ⟨q0, q1⟩, hgood⟩ hlt
    obtain ⟨⟨d, m⟩, hx8, hm8⟩ := x
    dsimp only at hx8 hm8
    dsimp only
    have hc := hv.cell
    have f0 := q0.frozen
    have f1 := q1.frozen
    have p0 := q0.cell
    have p1 := q1.cell
    obtain ⟨va, vc, rfl⟩ := slice_len hrow
    have hz : d.size * m ≤ 128 * 128 := Nat.mul_le_mul hx8 hm8
    have hlen := hgood.2
    obtain ⟨z, ez⟩ : ∃ z : Nat, z = d.size * m := ⟨_, rfl⟩
    have ezi : (d.size : Int) * (m : Int) = (z : Int) := by rw [ez]; exact (Int.natCast_mul _ _).symm
    have ezw : IntKind.i64.wrap (z : Int) = (z : Int) := by rw [IntKind.wrap_i64]; omega
    have hzz : z ≤ 16384 := by omega
    have RL : Hid ((rep (told (⟨(d, m), hx8, hm8⟩ : Part))).length = d.size * m) := by
      show (rep (d.data.toList, m)).length = _
      rw [← repeat_rep, Lib.repeatL_length, Nat.mul_comm, Array.length_toList]; rfl
    have LFT : Hid (bad (told (⟨(d, m), hx8, hm8⟩ : Part)) = true ∨ 20000 < (outL pre ++ rep (told (⟨(d, m), hx8, hm8⟩ : Part))).length → ∀ rest, ¬ fine ((pre ++ [(⟨(d, m), hx8, hm8⟩ : Part)]).map told ++ rest)) := fun h rest => no_fit h rest
    have BD : Hid (bad (told (⟨(d, m), hx8, hm8⟩ : Part)) = d.data.toList.isEmpty) := rfl
    have LNN : Hid ((outL (pre ++ [(⟨(d, m), hx8, hm8⟩ : Part)])).length = (outL pre).length + d.size * m) := by show _ = _; rw [outL_snoc, List.length_append, RL.out]
    have SN : Hid (outL (pre ++ [(⟨(d, m), hx8, hm8⟩ : Part)]) = outL pre ++ Lib.repeatL d.data.toList m) := by show _ = _; rw [outL_snoc, repeat_rep]; rfl
    have HEZ : Hid (z = d.size * m) := ez
    have HZ2 : Hid (d.size * m ≤ 128 * 128) := hz
    clear ez hz
    by_cases c1 : d.size = 0
    · have y1 := empty_yes c1
      have HL : Hid (∀ rest, ¬ fine ((pre ++ [(⟨(d, m), hx8, hm8⟩ : Part)]).map told ++ rest)) := LFT.out (.inl (by rw [BD.out, ← ByteArray.toList_eq]; exact y1))
      clear LFT BD LNN SN RL
      gi_wp2
      exact ⟨((KeepsOthers.setCell _ _ _).trans (KeepsOthers.setCell _ _ _)).from _, (hB.setCell (p := ⟨w.heap.size, 0, none⟩) (Nat.le_refl _) _).setCell (p := ⟨w.heap.size + 1, 0, none⟩) (by simp) _, ⟨(q0.set _).other (by omega) _, (q1.other (by omega) _).set _⟩, rfl, HL.out⟩
    · have y1 := empty_no c1
      by_cases c2 : 20000 < (outL pre).length + z
      · have d2 : (20000 : Int) < ((outL pre).length : Int) + (z : Int) := by omega
        have d2' : decide ((20000 : Int) < ((outL pre).length : Int) + (z : Int)) = true := decide_eq_true d2
        have HL : Hid (∀ rest, ¬ fine ((pre ++ [(⟨(d, m), hx8, hm8⟩ : Part)]).map told ++ rest)) := LFT.out (.inr (by rw [List.length_append, RL.out, ← HEZ.out]; exact c2))
        clear LFT BD LNN SN RL
        gi_wp2
        exact ⟨((KeepsOthers.setCell _ _ _).trans (KeepsOthers.setCell _ _ _)).from _, (hB.setCell (p := ⟨w.heap.size, 0, none⟩) (Nat.le_refl _) _).setCell (p := ⟨w.heap.size + 1, 0, none⟩) (by simp) _, ⟨(q0.set _).other (by omega) _, (q1.other (by omega) _).set _⟩, rfl, HL.out⟩
      · have d2 : ¬ (20000 : Int) < ((outL pre).length : Int) + (z : Int) := by omega
        have d2' : decide ((20000 : Int) < ((outL pre).length : Int) + (z : Int)) = false := decide_eq_false d2
        have GD : Hid (Good (pre ++ [(⟨(d, m), hx8, hm8⟩ : Part)])) := by
          refine ⟨fun x hx => ?_, by rw [LNN.out, ← HEZ.out]; omega⟩
          rw [List.map_append] at hx
          rcases List.mem_append.1 hx with hx | hx
          · exact hgood.1 x hx
          · rw [List.mem_singleton.1 hx, BD.out, ← ByteArray.toList_eq]; exact y1
        have LN : Hid ((outL (pre ++ [(⟨(d, m), hx8, hm8⟩ : Part)])).length = (outL pre).length + d.size * m) := LNN.out
        have CS : Hid (Lib.byteCells (outL (pre ++ [(⟨(d, m), hx8, hm8⟩ : Part)])) = Lib.byteCells (outL pre) ++ Lib.strCells ⟨(Lib.repeatL d.data.toList m).toArray⟩) := by show _ = _; rw [SN.out]; simp [Lib.byteCells, Lib.strCells]
        have ZR : Hid ((⟨(Lib.repeatL d.data.toList m).toArray⟩ : ByteArray).size = d.size * m) := by
          show (Lib.repeatL d.data.toList m).toArray.size = _
          rw [List.size_toArray, Lib.repeatL_length, Nat.mul_comm, Array.length_toList]; rfl
        have cr := fun W => Try.strings_Repeat d m W (by omega) (by have := HZ2.out; omega)
        clear LFT BD LNN SN RL
        gi_wp2_with fail
        refine Inr.region_in (by kernel_rfl) (by kernel_rfl) (by rintro ⟨_, _, h⟩; exact h) ?_
        refine wpAny_take (i := 1) (v := ?v1) rfl (by kernel_rfl) (by kernel_rfl) (by kernel_rfl) (fun _ _ _ h => h) (Or.inl ⟨by rfl, ?hy1⟩) ?rest1
        case hy1 => (intro w; go_simp; try with_reducible rfl)
        refine wpAny_take (i := 2) (v := ?v2) rfl (by kernel_rfl) (by kernel_rfl) (by kernel_rfl) (fun _ _ _ h => h) (Or.inl ⟨by rfl, ?hy2⟩) ?rest2
        case hy2 => (intro w; go_simp; try with_reducible rfl)
        go_simp
        refine wpAny_ready (rs := [0, 3]) (by kernel_rfl) (by simp) ?_
        refine Inr.any_cons rfl rfl (fun K hK => ?_) (Inr.any_cons rfl rfl (fun K hK => ?_) AllReady.nil)
        · go_wp2_with fail
          refine wpAny_ready (rs := [3]) (by kernel_rfl) (by simp) ?_
          refine Inr.any_cons rfl rfl (fun K hK => ?_) AllReady.nil
          go_wp2_with (go_at_call 17; refine (cr _).mono ?_; rintro e w2 ⟨rfl, hb2⟩)
          have hgr : W.grownBy w2 none := ⟨hb2.os, hb2.tape, hb2.output, hb2.size, fun k hk _ => hb2.block k hk⟩
          have hv2 := hv.kept hgr (by simp)
          have q02 := q0.kept hgr (by simp)
          have q12 := q1.kept hgr (by simp)
          have hrow2 := hrow.kept hgr (by cases h : Value.ownBlock (.slice va (outL pre).length vc) <;> simp)
          have hB2 : Below w.heap.size w w2 := hB.grown hgr hB.size (fun k e => by cases e)
          have KO : Hid (KeepsOthers W w2) := KeepsOthers.of_grownBy hgr (fun j o ej _ => by cases ej)
          have hc2 := hv2.cell
          have HZ3 := HZ2.out
          refine wpAny_ready (rs := [4]) (by kernel_rfl) (by simp) ?_
          refine Inr.any_cons rfl rfl (fun K hK => ?_) AllReady.nil
          refine wp_append_str _ (.tmp 26) (.tmp 29) tO 9 rfl w.heap.size 5 i0 Try.underlying25 Try.underlying9 hi hz0 hz1 hz2 _ _ _ rfl hrow2 _ rfl ?c1 ?c2 ?_
          case c1 => rw [ZR.out]; omega
          case c2 => exact hB2.size
          intro v' w3 hown' hgrow _
          rw [ZR.out] at hown'
          obtain ⟨va', vc', rfl⟩ := slice_len hown'
          obtain ⟨hv3, hv4, hr4, hk4, hb4⟩ := appended hv2 (by decide) hrow2 hB2.size (by omega) hown' hgrow
          have hc3 := hv3.cell
          have hf3 := hv3.frozen
          have q03 := ((q02.kept hgrow (q02.not_row (by decide) hrow2)).other (B' := w.heap.size + 1 + 1) (by omega) (.slice va' ((outL pre).length + d.size * m) vc'))
          have q13 := ((q12.kept hgrow (q12.not_row (by decide) hrow2)).other (B' := w.heap.size + 1 + 1) (by omega) (.slice va' ((outL pre).length + d.size * m) vc'))
          have KF : Hid (KeepsOthers W (w3.setCell ⟨w.heap.size + 1 + 1, 0, none⟩ (.slice va' ((outL pre).length + d.size * m) vc'))) := KO.out.trans hk4
          refine hK _ _ ?_
          go_simp
          refine wpAny_ready (rs := [5]) (by kernel_rfl) (by simp) ?_
          refine Inr.any_cons rfl rfl (fun K hK => ?_) AllReady.nil
          go_wp2_with fail
          refine wpAny_done (by kernel_rfl) ?_ _
          gi_wp2
          exact ⟨KF.out.from _, trivial, ⟨⟨_, hv4, by rw [LN.out, CS.out]; exact hr4, trivial⟩, hB2.trans hb4⟩, ⟨q03, q13⟩, GD.out⟩
        · go_wp2_with (go_at_call 17; refine (cr _).mono ?_; rintro e w2 ⟨rfl, hb2⟩)
          have hgr : W.grownBy w2 none := ⟨hb2.os, hb2.tape, hb2.output, hb2.size, fun k hk _ => hb2.block k hk⟩
          have hv2 := hv.kept hgr (by simp)
          have q02 := q0.kept hgr (by simp)
          have q12 := q1.kept hgr (by simp)
          have hrow2 := hrow.kept hgr (by cases h : Value.ownBlock (.slice va (outL pre).length vc) <;> simp)
          have hB2 : Below w.heap.size w w2 := hB.grown hgr hB.size (fun k e => by cases e)
          have KO : Hid (KeepsOthers W w2) := KeepsOthers.of_grownBy hgr (fun j o ej _ => by cases ej)
          have hc2 := hv2.cell
          have HZ3 := HZ2.out
          refine wpAny_ready (rs := [0]) (by kernel_rfl) (by simp) ?_
          refine Inr.any_cons rfl rfl (fun K hK => ?_) AllReady.nil
          go_wp2_with fail
          refine wpAny_ready (rs := [4]) (by kernel_rfl) (by simp) ?_
          refine Inr.any_cons rfl rfl (fun K hK => ?_) AllReady.nil
          refine wp_append_str _ (.tmp 26) (.tmp 29) tO 9 rfl w.heap.size 5 i0 Try.underlying25 Try.underlying9 hi hz0 hz1 hz2 _ _ _ rfl hrow2 _ rfl ?c1 ?c2 ?_
          case c1 => rw [ZR.out]; omega
          case c2 => exact hB2.size
          intro v' w3 hown' hgrow _
          rw [ZR.out] at hown'
          obtain ⟨va', vc', rfl⟩ := slice_len hown'
          obtain ⟨hv3, hv4, hr4, hk4, hb4⟩ := appended hv2 (by decide) hrow2 hB2.size (by omega) hown' hgrow
          have hc3 := hv3.cell
          have hf3 := hv3.frozen
          have q03 := ((q02.kept hgrow (q02.not_row (by decide) hrow2)).other (B' := w.heap.size + 1 + 1) (by omega) (.slice va' ((outL pre).length + d.size * m) vc'))
          have q13 := ((q12.kept hgrow (q12.not_row (by decide) hrow2)).other (B' := w.heap.size + 1 + 1) (by omega) (.slice va' ((outL pre).length + d.size * m) vc'))
          have KF : Hid (KeepsOthers W (w3.setCell ⟨w.heap.size + 1 + 1, 0, none⟩ (.slice va' ((outL pre).length + d.size * m) vc'))) := KO.out.trans hk4
          refine hK _ _ ?_
          go_simp
          refine wpAny_ready (rs := [5]) (by kernel_rfl) (by simp) ?_
          refine Inr.any_cons rfl rfl (fun K hK => ?_) AllReady.nil
          go_wp2_with fail
          refine wpAny_done (by kernel_rfl) ?_ _
          gi_wp2
          exact ⟨KF.out.from _, trivial, ⟨⟨_, hv4, by rw [LN.out, CS.out]; exact hr4, trivial⟩, hB2.trans hb4⟩, ⟨q03, q13⟩, GD.out⟩
  case done =>
    rintro D' ys W hD hS ⟨⟨⟨v, hv, hrow, _⟩, hB⟩, ⟨q0, q1⟩, hgood⟩ hK
    have hc := hv.cell
    have hcv := str_own hrow
    have HE : Hid (outV s = ⟨(outL ys).toArray⟩ ∧ outB s = true) := by
      have hf : fine (PartsOf (D s 0)) := by rw [← hS]; exact hgood
      have := unp_yes (l := D s 0) (by rw [D_len]; have := HS.out; omega) hf
      show _ ∧ _
      unfold outV outB outL
      rw [this.1, this.2, ← hS]; exact ⟨rfl, rfl⟩
    obtain ⟨va, vc, rfl⟩ := slice_len hrow
    have f0 := q0.frozen
    have f1 := q1.frozen
    have p0 := q0.cell
    have p1 := q1.cell
    dsimp only
    gi_wp2
    have hK' := ((KeepsOthers.setCell W ⟨w.heap.size, 0, none⟩ (.string ⟨(outL ys).toArray⟩)).trans (KeepsOthers.setCell _ ⟨w.heap.size + 1, 0, none⟩ (.bool true))).same D' _ hK rfl
    have r0 := ((q0.set (.string ⟨(outL ys).toArray⟩)).other (B' := w.heap.size + 1) (by omega) (.bool true)).cell
    have r1 := ((q1.other (B' := w.heap.size) (by omega) (.string ⟨(outL ys).toArray⟩)).set (.bool true)).cell
    have r0 := cell_kept r0 (grownBy_putObj' _ D' (.deferred none)) (fun r e => by cases e; exact ⟨_, hK', rfl⟩)
    have r1 := cell_kept r1 (grownBy_putObj' _ D' (.deferred none)) (fun r e => by cases e; exact ⟨_, hK', rfl⟩)
    refine ⟨by simp, .inl ⟨_, _, rfl, run_takeDeferred hK', ?_⟩⟩
    refine ⟨.tuple #[.string ⟨(outL ys).toArray⟩, .bool true], ?_, ret_two' HE.out, ((hB.setCell (p := ⟨w.heap.size, 0, none⟩) (Nat.le_refl _) _).setCell (p := ⟨w.heap.size + 1, 0, none⟩) (by simp) _).trans (belowK_b (w := w) (Nat.le_refl _) _ D' _ _ (by simp at hD; omega) hK' rfl rfl)⟩
    simp [results, Try.results10, go_sem, r0, r1]
  case stop =>
    rintro D' c pre W hD ⟨rest, hS⟩ ⟨hB, ⟨q0, q1⟩, rfl, hno⟩ hK
    have HE : Hid (outV s = ⟨#[]⟩ ∧ outB s = false) := no_end (fun h => hno rest (by rw [hS]; exact h.2))
    gi_wp2
    have r0 := cell_kept q0.cell (grownBy_putObj' _ D' (.deferred none)) (fun r e => by cases e; exact ⟨_, hK, rfl⟩)
    have r1 := cell_kept q1.cell (grownBy_putObj' _ D' (.deferred none)) (fun r e => by cases e; exact ⟨_, hK, rfl⟩)
    refine ⟨by simp, .inl ⟨_, _, rfl, run_takeDeferred hK, ?_⟩⟩
    refine ⟨.tuple #[.string ⟨#[]⟩, .bool false], ?_, ret_two' HE.out, hB.trans (belowK_b (w := w) (Nat.le_refl _) _ D' _ _ (by simp at hD; omega) hK rfl rfl)⟩
    simp [results, Try.results10, go_sem, r0, r1]
end Go.Proofs.Ytbffchfadockmaa.Unpk
