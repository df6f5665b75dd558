/- For every code the law FnTemplates answers true: of the drawn number and flag impl.TemplateOf answers as spec.TemplateOf does, and where there is a template no other of the 512 codes has it; the code reads afterwards as it read before; where the program's tables hold what its text lays. -/
import Derived.Test.YtjhndhjlknakkaaDoorCards
import Derived.Test.YtjhndhjlknakkaaDoorTie
import Derived.WalkKit
import Derived.ProofKit
import Derived.OpenShut
import Derived.ShutString
import Derived.ChangeOld
import Derived.ChangeVars
import Derived.OpenVars
import Derived.Below
import Derived.Deep.DeepHandedRow
import Derived.Lib.LaidTab
import Derived.Test.YtjhndhjlknakkaaDoorUniq
import Derived.Test.YtjhndhjlknakkaaDoorDrawX
import Derived.LoopN
import Derived.Deep.DeepFit
import Derived.Test.YtjhndhjlknakkaaDoorLaid
namespace Go.Proofs.YtjhndhjlknakkaaDoor.fnTemplates
open Go.ChangeShapes Go.WideShapes Go.ChangeAt Go.RowKit
open Go.ChangeMaps (open_string shut_string)
set_option linter.unusedVariables false

theorem own : ownKnob Tryd.prog.godebug = none := by kernel_rfl
theorem laidOut : laidOutB Tryd.prog = true := by kernel_rfl
theorem rowed : varsRowed Tryd.prog Rows.fnTemplatesSpec.vars = true := by kernel_rfl

/-- What the walk is told of a slice of bytes that came in: it is nil; or it leads to a row of cells, the numbers zs, each fitting its kind. -/
def IsRow (k : IntKind) (w : World) (a : Option Addr) (len cap : Nat) (zs : List Int) : Prop :=
  (a = none ∧ len = 0 ∧ cap = 0 ∧ zs = []) ∨
  ∃ x, a = some x ∧ len ≤ cap ∧ cap ≤ maxLen ∧ zs.length = cap ∧ (∀ i, i < zs.length → w.cell? (x.add i) = some (.int k (zs.getD i 0))) ∧ ∀ n ∈ zs, (Lit.int k n).wf = true

theorem tables {W : World} (h : laidMetH Tryd.prog Rows.fnTemplatesRow.laid W) : PartN.Tables W := by
  obtain ⟨q0, L0, _⟩ : laidMet Tryd.prog Rows.fnTemplatesRow.laid W := h
  obtain ⟨q1, L1⟩ := Laid.skip L0
  obtain ⟨q2, L2⟩ := Laid.skip L1
  obtain ⟨q3, L3⟩ := Laid.skip L2
  have t3 := Laid.nums (P := Tryd.prog) (k := .u8) (zs := [48, 49, 50, 51, 52, 53, 54, 55, 56, 57, 65, 66, 67, 68, 69, 70]) (show Tryd.prog.globalNamed "loop.example/g00460/impl.hexDigits" = some 8 by kernel_rfl) (show (Tryd.prog.globals[8]?).map (·.type) = some 68 by kernel_rfl) Tryd.underlying68 Tryd.underlying5 (by kernel_rfl) (by kernel_rfl) L3
  obtain ⟨q4, L4⟩ := Laid.skip L3
  have t4 := Laid.txts (P := Tryd.prog) (l := [[98], [99], [100], [101], [104], [108], [91, 104, 108, 93], [97]]) (show Tryd.prog.globalNamed "loop.example/g00460/impl.regNames" = some 6 by kernel_rfl) (show (Tryd.prog.globals[6]?).map (·.type) = some 53 by kernel_rfl) Tryd.underlying53 Tryd.underlying9 (by kernel_rfl) (by kernel_rfl) L4
  obtain ⟨q5, L5⟩ := Laid.skip L4
  have t5 := Laid.txts (P := Tryd.prog) (l := [[98, 99], [100, 101], [104, 108], [115, 112]]) (show Tryd.prog.globalNamed "loop.example/g00460/impl.pairNames" = some 4 by kernel_rfl) (show (Tryd.prog.globals[4]?).map (·.type) = some 54 by kernel_rfl) Tryd.underlying54 Tryd.underlying9 (by kernel_rfl) (by kernel_rfl) L5
  obtain ⟨q6, L6⟩ := Laid.skip L5
  have t6 := Laid.txts (P := Tryd.prog) (l := [[98, 99], [100, 101], [104, 108], [97, 102]]) (show Tryd.prog.globalNamed "loop.example/g00460/impl.stackNames" = some 5 by kernel_rfl) (show (Tryd.prog.globals[5]?).map (·.type) = some 54 by kernel_rfl) Tryd.underlying54 Tryd.underlying9 (by kernel_rfl) (by kernel_rfl) L6
  obtain ⟨q7, L7⟩ := Laid.skip L6
  have t7 := Laid.txts (P := Tryd.prog) (l := [[91, 98, 99, 93], [91, 100, 101, 93], [91, 104, 108, 43, 93], [91, 104, 108, 45, 93]]) (show Tryd.prog.globalNamed "loop.example/g00460/impl.placeNames" = some 3 by kernel_rfl) (show (Tryd.prog.globals[3]?).map (·.type) = some 54 by kernel_rfl) Tryd.underlying54 Tryd.underlying9 (by kernel_rfl) (by kernel_rfl) L7
  obtain ⟨q8, L8⟩ := Laid.skip L7
  have t8 := Laid.txts (P := Tryd.prog) (l := [[110, 122], [122], [110, 99], [99]]) (show Tryd.prog.globalNamed "loop.example/g00460/impl.condNames" = some 2 by kernel_rfl) (show (Tryd.prog.globals[2]?).map (·.type) = some 54 by kernel_rfl) Tryd.underlying54 Tryd.underlying9 (by kernel_rfl) (by kernel_rfl) L8
  obtain ⟨q9, L9⟩ := Laid.skip L8
  have t9 := Laid.txts (P := Tryd.prog) (l := [[97, 100, 100], [97, 100, 99], [115, 117, 98], [115, 98, 99], [97, 110, 100], [120, 111, 114], [111, 114], [99, 112]]) (show Tryd.prog.globalNamed "loop.example/g00460/impl.aluNames" = some 0 by kernel_rfl) (show (Tryd.prog.globals[0]?).map (·.type) = some 53 by kernel_rfl) Tryd.underlying53 Tryd.underlying9 (by kernel_rfl) (by kernel_rfl) L9
  obtain ⟨q10, L10⟩ := Laid.skip L9
  have t10 := Laid.txts (P := Tryd.prog) (l := [[114, 108, 99], [114, 114, 99], [114, 108], [114, 114], [115, 108, 97], [115, 114, 97], [115, 119, 97, 112], [115, 114, 108]]) (show Tryd.prog.globalNamed "loop.example/g00460/impl.turnNames" = some 7 by kernel_rfl) (show (Tryd.prog.globals[7]?).map (·.type) = some 53 by kernel_rfl) Tryd.underlying53 Tryd.underlying9 (by kernel_rfl) (by kernel_rfl) L10
  obtain ⟨q11, L11⟩ := Laid.skip L10
  have t11 := Laid.txts (P := Tryd.prog) (l := [[], [98, 105, 116], [114, 101, 115], [115, 101, 116]]) (show Tryd.prog.globalNamed "loop.example/g00460/impl.bitNames" = some 1 by kernel_rfl) (show (Tryd.prog.globals[1]?).map (·.type) = some 54 by kernel_rfl) Tryd.underlying54 Tryd.underlying9 (by kernel_rfl) (by kernel_rfl) L11
  obtain ⟨q12, L12⟩ := Laid.skip L11
  exact ⟨fun i hi => (t9 i hi).trans (by match i, hi with | 0, _ => rfl | 1, _ => rfl | 2, _ => rfl | 3, _ => rfl | 4, _ => rfl | 5, _ => rfl | 6, _ => rfl | 7, _ => rfl), fun i hi => (t11 i hi).trans (by match i, hi with | 0, _ => rfl | 1, _ => rfl | 2, _ => rfl | 3, _ => rfl), fun i hi => (t8 i hi).trans (by match i, hi with | 0, _ => rfl | 1, _ => rfl | 2, _ => rfl | 3, _ => rfl), fun i hi => (t7 i hi).trans (by match i, hi with | 0, _ => rfl | 1, _ => rfl | 2, _ => rfl | 3, _ => rfl), fun i hi => (t5 i hi).trans (by match i, hi with | 0, _ => rfl | 1, _ => rfl | 2, _ => rfl | 3, _ => rfl), fun i hi => (t6 i hi).trans (by match i, hi with | 0, _ => rfl | 1, _ => rfl | 2, _ => rfl | 3, _ => rfl), fun i hi => (t4 i hi).trans (by match i, hi with | 0, _ => rfl | 1, _ => rfl | 2, _ => rfl | 3, _ => rfl | 4, _ => rfl | 5, _ => rfl | 6, _ => rfl | 7, _ => rfl), fun i hi => (t10 i hi).trans (by match i, hi with | 0, _ => rfl | 1, _ => rfl | 2, _ => rfl | 3, _ => rfl | 4, _ => rfl | 5, _ => rfl | 6, _ => rfl | 7, _ => rfl), fun i hi => t3 i hi⟩
set_option maxRecDepth 20000
open TmplI Uniq
theorem toRow {k : IntKind} {w : World} {a : Option Addr} {len cap : Nat} {zs : List Int} (h : IsRow k w a len cap zs) : Rdr.IsRow k w a len cap zs := h
theorem after {a w w' : World} (h : Below a.heap.size a w) (k : Below w.heap.size w w') : Below a.heap.size a w' := h.trans (k.mono h.size)
theorem in_of {n : Int} {b : Bool} (h : ¬ (tmpl n b).size = 0) : Signed.inB n 0 255 = true := by
  cases hb : Signed.inB n 0 255
  · exact absurd (by unfold tmpl; rw [hb]; rfl) h
  · rfl
theorem empty_yes {s : ByteArray} (h : s.size = 0) : s.toList.isEmpty = true := by
  rw [ByteArray.toList_eq, List.isEmpty_iff_length_eq_zero, Array.length_toList]; exact h
theorem empty_no {s : ByteArray} (h : ¬ s.size = 0) : s.toList.isEmpty = false := by
  rw [ByteArray.toList_eq]; cases e : s.data.toList with
  | nil => exact absurd (by have := congrArg List.length e; rw [Array.length_toList] at this; exact this) h
  | cons _ _ => rfl
theorem beq_no {a b : ByteArray} (h : ¬ a = b) : (a.toList == b.toList) = false := by
  cases hb : a.toList == b.toList
  · rfl
  · exfalso
    apply h
    have := eq_of_beq hb
    rw [ByteArray.toList_eq, ByteArray.toList_eq] at this
    exact ByteArray.ext (Array.ext' this)

set_option maxHeartbeats 2000000 in
theorem walk (w : World) (a0 : Option Addr) (len0 cap0 : Nat) (z0 : List Int) (w0 : IsRow .u8 w a0 len0 cap0 z0) (hT : PartN.Tables w) :
    Calls Tryd.prog 3 #[.slice a0 len0 cap0] w fun e w' => e = .returned (.bool true) ∧ Below w.heap.size w w' := by
  have H : Hid (Rdr.IsRow .u8 w a0 len0 cap0 z0) := toRow w0
  have HT : Hid (PartN.Tables w) := hT
  clear w0 hT
  have cb := Rdr.big_any a0 len0 cap0 w H.out.len
  by_cases hbig : Rdr.bigB len0 = true
  · rw [hbig] at cb
    go_enter Tryd.func3, Tryd.ntmps3
    go_wp2_with (go_at_call 4; refine cb.mono ?_; rintro e w' ⟨rfl, rfl⟩)
    go_ret
    exact ⟨rfl, Below.refl _ _⟩
  have hbig : Rdr.bigB len0 = false := by simpa using hbig
  rw [hbig] at cb
  go_enter Tryd.func3, Tryd.ntmps3
  go_wp2_with fail
  refine cb.mono ?_
  rintro e wa ⟨rfl, rfl⟩
  go_wp2_with fail
  refine (DrawX.drawTemplateOf_any _ _ _ _ _ H.out).mono ?_
  rintro e w1 ⟨⟨n, b, rfl⟩, b1⟩
  have B1 : Hid (Below wa.heap.size wa w1) := b1
  clear b1
  have ci := fun w hT => implTemplate_any n b w hT
  have cs := fun w => specTemplate_any n b w
  have HU : Hid (∀ (k : Int) (d : Bool), 0 ≤ k → k ≤ 255 → ¬ (tmpl n b).size = 0 → tmpl k d = tmpl n b → k = n ∧ d = b) := fun k d k0 k1 hz h => by
    have hk : Signed.inB k 0 255 = true := decide_eq_true ⟨k0, k1⟩
    exact uniq hk (in_of hz) h (by rw [h]; exact hz)
  generalize tmpl n b = T at ci cs HU
  go_wp2_with fail
  refine (ci _ (HT.out.below B1.out)).mono ?_
  rintro e w2 ⟨rfl, b2⟩
  have BW : Hid (Below wa.heap.size wa w2) := after B1.out b2
  clear b2 B1 ci
  by_cases hz : T.size = 0
  · have he := empty_yes hz
    clear HU
    go_wp2_with (go_at_call 7; refine (cs _).mono ?_; rintro e wk ⟨rfl, bk⟩; have BW : Hid (Below wa.heap.size wa wk) := after BW.out bk; clear bk)
    go_ret
    exact ⟨by first | rfl | simp, BW.out⟩
  have he := empty_no hz
  have HV : Hid (∀ (k : Int) (d : Bool), 0 ≤ k → k ≤ 255 → tmpl k d = T → k = n ∧ d = b) := fun k d k0 k1 h => HU.out k d k0 k1 hz h
  clear HU hz
  go_wp2_with first | (go_at_call 7; refine (cs _).mono ?_; rintro e wk ⟨rfl, bk⟩; have BW : Hid (Below wa.heap.size wa wk) := after BW.out bk; clear bk)
  clear cs
  go_loopw [6] (fun i wr => ∃ k : Nat, k ≤ 256 ∧ i = .int .i64 (k : Int) ∧ Hid (Below wa.heap.size wa wr)) (fun i _ => 256 - (intOf i).toNat)
  case atStart => exact ⟨0, by omega, rfl, BW.out⟩
  case round =>
    obtain ⟨k, hk, rfl, BR⟩ := hrel
    by_cases hlt : k < 256
    · have hlt' : (k : Int) < 256 := by omega
      have c1 := fun w hT => implTemplate_any (k : Int) b w hT
      have c2 := fun w hT => implTemplate_any (k : Int) (!b) w hT
      have HK : Hid (k < 256) := hlt
      have h2 : ¬ tmpl (k : Int) (!b) = T := fun h => by
        have := (HV.out (k : Int) (!b) (by omega) (by omega) h).2
        cases b <;> cases this
      have h1 : tmpl (k : Int) b = T → (k : Int) = n := fun h => (HV.out (k : Int) b (by omega) (by omega) h).1
      generalize tmpl (k : Int) b = X1 at c1 h1
      generalize tmpl (k : Int) (!b) = X2 at c2 h2
      have e2 := beq_no h2
      clear h2 hlt hk
      by_cases hx : X1 = T
      · have hn := h1 hx
        subst hx
        subst hn
        clear h1
        go_wp2_with first
          | (go_at_call 6; go_fit (c1 _ (HT.out.below BR.out)); rintro e wk ⟨rfl, bk⟩; have BR : Hid (Below wa.heap.size wa wk) := after BR.out bk; clear bk)
          | (go_at_call 6; go_fit (c2 _ (HT.out.below BR.out)); rintro e wk ⟨rfl, bk⟩; have BR : Hid (Below wa.heap.size wa wk) := after BR.out bk; clear bk)
        go_roundw
        case rel => exact ⟨k + 1, HK.out, by go_num, BR.out⟩
        case measure => have := HK.out; simp [intOf]; omega
      · have e1 := beq_no hx
        clear h1 hx
        go_wp2_with first
          | (go_at_call 6; go_fit (c1 _ (HT.out.below BR.out)); rintro e wk ⟨rfl, bk⟩; have BR : Hid (Below wa.heap.size wa wk) := after BR.out bk; clear bk)
          | (go_at_call 6; go_fit (c2 _ (HT.out.below BR.out)); rintro e wk ⟨rfl, bk⟩; have BR : Hid (Below wa.heap.size wa wk) := after BR.out bk; clear bk)
        go_roundw
        case rel => exact ⟨k + 1, HK.out, by go_num, BR.out⟩
        case measure => have := HK.out; simp [intOf]; omega
    · have hk2 : k = 256 := by omega
      subst hk2
      go_wp2
      go_ret
      exact ⟨rfl, BR.out⟩

set_option maxRecDepth 100000 in
theorem contract (H : Type) (enc : TypeId × Value → H) (W : World) (base : Nat) (args : Array Value) (ds gs : List (DataW H)) (before : List MemPlace)
    (hval : ∀ (j : Nat) t v, Tryd.f3.params[j]? = some t → args[j]? = some v → Value.okWide Tryd.prog W .any base t v)
    (hW : DataW.Whole enc Tryd.prog Tryd.f3.params.toList Rows.fnTemplatesSpec.vars false W args.toList ds gs before) (hL : laidMetH Tryd.prog Rows.fnTemplatesRow.laid W) :
    Calls Tryd.prog 3 args W fun e W' => ∃ v, e = .returned v ∧ Rows.fnTemplatesSpec.post enc Tryd.prog Tryd.f3 false true false false W args v W' := by
  have hW' := hW
  obtain ⟨p, q, hA0, hV, hbef, hfz, hnd⟩ := hW
  have hA : DataW.TrodAll enc Tryd.prog W 0 (fun _ => true) true Tryd.f3.params.toList args.toList ds p := hA0
  have hVk : DataW.TrodVars enc Tryd.prog W (fun _ => true) Rows.fnTemplatesSpec.vars gs q := hV
  rw [Tryd.params3] at hA hval
  obtain ⟨v0, vs0, d0, ds0, p0, q0, hargs, rfl, rfl, h0, r0⟩ := trodAll_cons hA
  obtain ⟨rfl, rfl, rfl⟩ := trodAll_nil r0
  obtain rfl : args = #[v0] := by cases args; simp_all
  obtain ⟨g1, g2, g3, g4, g5, g6, g7, g8, g9, rfl⟩ : ∃ g1 g2 g3 g4 g5 g6 g7 g8 g9, gs = [g1, g2, g3, g4, g5, g6, g7, g8, g9] := by
    have hl := Laid.vars_len hVk
    match gs, hl with
    | [g1, g2, g3, g4, g5, g6, g7, g8, g9], _ => exact ⟨_, _, _, _, _, _, _, _, _, rfl⟩
  obtain ⟨a0, len0, cap0, rfl⟩ := okWide_slice Tryd.underlying22 (hval 0 22 v0 rfl rfl)
  have k0 := h0
  have lt0 : ∀ x ∈ p0, x.block < W.heap.size := by obtain ⟨m, hm⟩ := k0; exact DataW.trod_lt m _ _ _ hm
  obtain ⟨z0, w0⟩ : ∃ zs, IsRow .u8 W a0 len0 cap0 zs := by
    obtain ⟨fuel, hf⟩ := h0
    rcases open_ints Tryd.underlying22 Tryd.underlying5 (by kernel_rfl) hf with ⟨hcs, _⟩ | ⟨x, l, c, zs, hcs, _, hl, hm, hz, _, hcell, hwz⟩
    · simp [Value.cells] at hcs
      obtain ⟨rfl, rfl, rfl⟩ := hcs
      exact ⟨[], .inl ⟨rfl, rfl, rfl, rfl⟩⟩
    · simp [Value.cells] at hcs
      obtain ⟨rfl, rfl, rfl⟩ := hcs
      exact ⟨zs, .inr ⟨_, rfl, hl, hm, by simpa using hz, hcell, hwz⟩⟩
  clear hA0
  refine (walk W a0 len0 cap0 z0 w0 (tables hL)).mono fun e W' ⟨he, bel⟩ => ?_
  subst he
  exact ⟨_, rfl, _, _, _, [], _, q, hW', trodAll_mk1 (shut_bool Tryd.underlying4 _), (trodAll_cons_mk (Below.trod laidOut (by kernel_rfl) (of_decide_eq_true (by kernel_rfl)) k0 bel lt0) trodAll_mk0), Below.trodVars laidOut bel rowed hVk, bel.frame _, fun h => by cases h⟩

/-- A world for the witness: the settled one, the table holding what its initialiser lays. -/
noncomputable def laidWorld (os : Os) : World :=
  { World.holding Tryd.prog os ⟨#[], #[], []⟩ with heap := (fun h => h.modify 10 fun | .cells _ t frozen => .cells #[.int .u8 0, .int .u8 1, .int .u8 28, .int .u8 2, .int .u8 29, .int .u8 14, .int .u8 24, .int .u8 3, .int .u8 30, .int .u8 22, .int .u8 20, .int .u8 15, .int .u8 25, .int .u8 17, .int .u8 4, .int .u8 8, .int .u8 31, .int .u8 27, .int .u8 13, .int .u8 23, .int .u8 21, .int .u8 19, .int .u8 16, .int .u8 7, .int .u8 26, .int .u8 12, .int .u8 18, .int .u8 6, .int .u8 11, .int .u8 5, .int .u8 10, .int .u8 9] t frozen | o => o) <| (fun h => h.modify 11 fun | .cells _ t frozen => .cells #[.int .u8 0, .int .u8 1, .int .u8 56, .int .u8 2, .int .u8 57, .int .u8 49, .int .u8 28, .int .u8 3, .int .u8 61, .int .u8 58, .int .u8 42, .int .u8 50, .int .u8 38, .int .u8 29, .int .u8 17, .int .u8 4, .int .u8 62, .int .u8 47, .int .u8 59, .int .u8 36, .int .u8 45, .int .u8 43, .int .u8 51, .int .u8 22, .int .u8 53, .int .u8 39, .int .u8 33, .int .u8 30, .int .u8 24, .int .u8 18, .int .u8 12, .int .u8 5, .int .u8 63, .int .u8 55, .int .u8 48, .int .u8 27, .int .u8 60, .int .u8 41, .int .u8 37, .int .u8 16, .int .u8 46, .int .u8 35, .int .u8 44, .int .u8 21, .int .u8 52, .int .u8 32, .int .u8 23, .int .u8 11, .int .u8 54, .int .u8 26, .int .u8 40, .int .u8 15, .int .u8 34, .int .u8 20, .int .u8 31, .int .u8 10, .int .u8 25, .int .u8 14, .int .u8 19, .int .u8 9, .int .u8 13, .int .u8 8, .int .u8 7, .int .u8 6] t frozen | o => o) <| (fun h => h.modify 9 fun | .cells _ t frozen => .cells #[.int .u64 1, .int .u64 10, .int .u64 100, .int .u64 1000, .int .u64 10000, .int .u64 100000, .int .u64 1000000, .int .u64 10000000, .int .u64 100000000, .int .u64 1000000000, .int .u64 10000000000, .int .u64 100000000000, .int .u64 1000000000000, .int .u64 10000000000000, .int .u64 100000000000000, .int .u64 1000000000000000, .int .u64 10000000000000000, .int .u64 100000000000000000, .int .u64 1000000000000000000, .int .u64 10000000000000000000] t frozen | o => o) <| (fun h => h.modify 8 fun | .cells _ t frozen => .cells #[.int .u8 48, .int .u8 49, .int .u8 50, .int .u8 51, .int .u8 52, .int .u8 53, .int .u8 54, .int .u8 55, .int .u8 56, .int .u8 57, .int .u8 65, .int .u8 66, .int .u8 67, .int .u8 68, .int .u8 69, .int .u8 70] t frozen | o => o) <| (fun h => h.modify 6 fun | .cells _ t frozen => .cells #[.string ⟨#[98]⟩, .string ⟨#[99]⟩, .string ⟨#[100]⟩, .string ⟨#[101]⟩, .string ⟨#[104]⟩, .string ⟨#[108]⟩, .string ⟨#[91, 104, 108, 93]⟩, .string ⟨#[97]⟩] t frozen | o => o) <| (fun h => h.modify 4 fun | .cells _ t frozen => .cells #[.string ⟨#[98, 99]⟩, .string ⟨#[100, 101]⟩, .string ⟨#[104, 108]⟩, .string ⟨#[115, 112]⟩] t frozen | o => o) <| (fun h => h.modify 5 fun | .cells _ t frozen => .cells #[.string ⟨#[98, 99]⟩, .string ⟨#[100, 101]⟩, .string ⟨#[104, 108]⟩, .string ⟨#[97, 102]⟩] t frozen | o => o) <| (fun h => h.modify 3 fun | .cells _ t frozen => .cells #[.string ⟨#[91, 98, 99, 93]⟩, .string ⟨#[91, 100, 101, 93]⟩, .string ⟨#[91, 104, 108, 43, 93]⟩, .string ⟨#[91, 104, 108, 45, 93]⟩] t frozen | o => o) <| (fun h => h.modify 2 fun | .cells _ t frozen => .cells #[.string ⟨#[110, 122]⟩, .string ⟨#[122]⟩, .string ⟨#[110, 99]⟩, .string ⟨#[99]⟩] t frozen | o => o) <| (fun h => h.modify 0 fun | .cells _ t frozen => .cells #[.string ⟨#[97, 100, 100]⟩, .string ⟨#[97, 100, 99]⟩, .string ⟨#[115, 117, 98]⟩, .string ⟨#[115, 98, 99]⟩, .string ⟨#[97, 110, 100]⟩, .string ⟨#[120, 111, 114]⟩, .string ⟨#[111, 114]⟩, .string ⟨#[99, 112]⟩] t frozen | o => o) <| (fun h => h.modify 7 fun | .cells _ t frozen => .cells #[.string ⟨#[114, 108, 99]⟩, .string ⟨#[114, 114, 99]⟩, .string ⟨#[114, 108]⟩, .string ⟨#[114, 114]⟩, .string ⟨#[115, 108, 97]⟩, .string ⟨#[115, 114, 97]⟩, .string ⟨#[115, 119, 97, 112]⟩, .string ⟨#[115, 114, 108]⟩] t frozen | o => o) <| (fun h => h.modify 1 fun | .cells _ t frozen => .cells #[.string ⟨#[]⟩, .string ⟨#[98, 105, 116]⟩, .string ⟨#[114, 101, 115]⟩, .string ⟨#[115, 101, 116]⟩] t frozen | o => o) <| (World.holding Tryd.prog os ⟨#[], #[], []⟩).heap }
theorem laid_met (os : Os) : laidMet Tryd.prog Rows.fnTemplatesRow.laid ((laidWorld os).forCall (fun _ _ => 0) ⟨#[], #[.slice none 0 0], []⟩).memory :=
  laidMet_of_run' 8 (by kernel_rfl) (by kernel_rfl)
theorem reads (os : Os) {H : Type} (enc : TypeId × Value → H) : ∃ places, DataW.whole enc Tryd.prog ((laidWorld os).forCall (fun _ _ => 0) ⟨#[], #[.slice none 0 0], []⟩).memory Tryd.f3.params.toList Rows.fnTemplatesSpec.vars false [.slice none 0 0] 8 = some ([.nil], [.agg [.lit (.string [97, 100, 100]), .lit (.string [97, 100, 99]), .lit (.string [115, 117, 98]), .lit (.string [115, 98, 99]), .lit (.string [97, 110, 100]), .lit (.string [120, 111, 114]), .lit (.string [111, 114]), .lit (.string [99, 112])], .agg [.lit (.string []), .lit (.string [98, 105, 116]), .lit (.string [114, 101, 115]), .lit (.string [115, 101, 116])], .agg [.lit (.string [110, 122]), .lit (.string [122]), .lit (.string [110, 99]), .lit (.string [99])], .agg [.lit (.string [91, 98, 99, 93]), .lit (.string [91, 100, 101, 93]), .lit (.string [91, 104, 108, 43, 93]), .lit (.string [91, 104, 108, 45, 93])], .agg [.lit (.string [98, 99]), .lit (.string [100, 101]), .lit (.string [104, 108]), .lit (.string [115, 112])], .agg [.lit (.string [98, 99]), .lit (.string [100, 101]), .lit (.string [104, 108]), .lit (.string [97, 102])], .agg [.lit (.string [98]), .lit (.string [99]), .lit (.string [100]), .lit (.string [101]), .lit (.string [104]), .lit (.string [108]), .lit (.string [91, 104, 108, 93]), .lit (.string [97])], .agg [.lit (.string [114, 108, 99]), .lit (.string [114, 114, 99]), .lit (.string [114, 108]), .lit (.string [114, 114]), .lit (.string [115, 108, 97]), .lit (.string [115, 114, 97]), .lit (.string [115, 119, 97, 112]), .lit (.string [115, 114, 108])], .agg [.lit (.int .u8 48), .lit (.int .u8 49), .lit (.int .u8 50), .lit (.int .u8 51), .lit (.int .u8 52), .lit (.int .u8 53), .lit (.int .u8 54), .lit (.int .u8 55), .lit (.int .u8 56), .lit (.int .u8 57), .lit (.int .u8 65), .lit (.int .u8 66), .lit (.int .u8 67), .lit (.int .u8 68), .lit (.int .u8 69), .lit (.int .u8 70)]], places) :=
  ⟨MemPlace.row ⟨0, 0, none⟩ 8 ++ MemPlace.row ⟨1, 0, none⟩ 4 ++ MemPlace.row ⟨2, 0, none⟩ 4 ++ MemPlace.row ⟨3, 0, none⟩ 4 ++ MemPlace.row ⟨4, 0, none⟩ 4 ++ MemPlace.row ⟨5, 0, none⟩ 4 ++ MemPlace.row ⟨6, 0, none⟩ 8 ++ MemPlace.row ⟨7, 0, none⟩ 8 ++ MemPlace.row ⟨8, 0, none⟩ 16, by kernel_rfl⟩

set_option maxRecDepth 100000 in
theorem lifted (os : Os) (started : os.Started) (H : Type) (enc : TypeId × Value → H) (F : Stop.Interp) :
    ReturnsInHanded {} Tryd.checked os 3 .any ((OpenSpec.ofChange Rows.fnTemplatesSpec).preRow enc Tryd.prog Tryd.f3 Rows.fnTemplatesRow.domain false Rows.fnTemplatesRow.laid) (((OpenSpec.ofChange Rows.fnTemplatesSpec).at F).post enc Tryd.prog Tryd.f3 false true false false) := by
  obtain ⟨places, hx⟩ := reads os enc
  refine returnsInHanded_of_row (C := Tryd.checked) (s := OpenSpec.ofChange Rows.fnTemplatesSpec) own started (by kernel_rfl) Tryd.func3
    (witness_row_at (enc := enc) (C := Tryd.checked) false (laidWorld os) #[.slice none 0 0] rfl (by kernel_rfl) (by kernel_rfl) (by kernel_rfl)
      (OpenSpec.preRow_of_cond 8 hx (by kernel_rfl) (fun k hk => by cases hk) (by kernel_rfl) (laid_met os))) ?_
  intro W base args ds gs before hval hW _ _ _ hL _ _
  exact contract H enc W base args ds gs before hval hW hL

theorem said : Rows.FnTemplatesSaid :=
  OpenClaim.holds_of_cond 3 Tryd.f3 rfl rfl rfl rfl rfl rfl rfl ⟨rfl, rfl, rfl, rfl, rfl⟩ rfl rfl rfl rfl rfl (by kernel_rfl) Tryd.func3 (by kernel_rfl)
    (of_decide_eq_true (by kernel_rfl)) (by unfold Func.isWrapper; first | (rw [if_pos (by decide +kernel)]; kernel_rfl) | (rw [if_neg (by decide +kernel)]; exact ⟨rfl, rfl⟩))
    (fun os started H enc _ F => by rw [OpenClaim.pre_eq_preRow]; exact lifted os started H enc F)

theorem plain (f : FuncId) (fn : Func) (hf : Tryd.pinned.checked.prog.funcNamed "loop.example/g00460/laws.FnTemplates" = some f) (hfn : Tryd.pinned.checked.prog.funcs[f]? = some fn) :
    false = Tryd.pinned.checked.prog.looks [] ∧ ∀ (j : Nat) t, fn.params[j]? = some t → Tryd.pinned.checked.prog.wantsStandIn t = false := by
  obtain rfl : f = 3 := Option.some.inj ((show Tryd.prog.funcNamed "loop.example/g00460/laws.FnTemplates" = some 3 by kernel_rfl).symm.trans hf) |>.symm
  obtain rfl : fn = Tryd.f3 := (Option.some.inj (Tryd.func3.symm.trans hfn)).symm
  refine ⟨by kernel_rfl, fun j t ht => ?_⟩
  rw [Tryd.params3] at ht
  have h : t = 22 := by simpa using Array.mem_of_getElem? ht
  subst h
  exact (show Tryd.prog.wantsStandIn 22 = false by kernel_rfl)

theorem card : Rows.FnTemplatesCardSaid :=
  Claim7.holds_tied_plain_at .later [] _ _ _ _ said (fun _ h => by cases h) (by kernel_rfl) (fun _ h => by cases h) fnTemplates_row_tie rfl ⟨rfl, rfl⟩ (by kernel_rfl) rfl plain (by kernel_rfl)
end Go.Proofs.YtjhndhjlknakkaaDoor.fnTemplates
namespace Go.Proofs.YtjhndhjlknakkaaDoor
theorem fnTemplates_holds : Rows.FnTemplatesCardSaid := fnTemplates.card
end Go.Proofs.YtjhndhjlknakkaaDoor
