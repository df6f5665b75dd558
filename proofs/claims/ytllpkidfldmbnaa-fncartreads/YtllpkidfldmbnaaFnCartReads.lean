/- For every code the law FnCartReads answers true: of the drawn cart and address impl.CartRead answers as spec.CartRead does and impl.CartOk as spec.CartOk; what is read is the rom's byte of the first bank, of the mapped bank, 255 where nothing lies, and never more than 255; the code reads afterwards as it read before; no condition. -/
import Derived.Test.YtllpkidfldmbnaaRows
import Derived.WalkKit
import Derived.ProofKit
import Derived.OpenShut
import Derived.ShutString
import Derived.ChangeOld
import Derived.Below
import Derived.Test.YtllpkidfldmbnaaCartE
import Derived.Deep.Cut
import Derived.Deep.DeepCutAuto
namespace Go.Proofs.Ytllpkidfldmbnaa.fnCartReads
open Go.ChangeShapes Go.WideShapes Go.ChangeAt Go.RowKit
open Go.ChangeMaps (open_string shut_string)
set_option linter.unusedVariables false

theorem own : ownKnob Try.prog.godebug = none := by kernel_rfl
theorem laidOut : laidOutB Try.prog = true := by kernel_rfl
/-- What the walk is told of a slice of bytes that came in: it is nil; or it leads to a row of cells, the numbers zs, each fitting its kind. -/
def IsRow (k : IntKind) (w : World) (a : Option Addr) (len cap : Nat) (zs : List Int) : Prop :=
  (a = none ∧ len = 0 ∧ cap = 0 ∧ zs = []) ∨
  ∃ x, a = some x ∧ len ≤ cap ∧ cap ≤ maxLen ∧ zs.length = cap ∧ (∀ i, i < zs.length → w.cell? (x.add i) = some (.int k (zs.getD i 0))) ∧ ∀ n ∈ zs, (Lit.int k n).wf = true
set_option maxRecDepth 20000
open CartZ CartE
open Signed (inB)
theorem toRow {k : IntKind} {w : World} {a : Option Addr} {len cap : Nat} {zs : List Int} (h : IsRow k w a len cap zs) : Rdr.IsRow k w a len cap zs := h
theorem after {a w w' : World} (h : Below a.heap.size a w) (k : Below w.heap.size w w') : Below a.heap.size a w' := h.trans (k.mono h.size)
theorem gany_cons {P : Program} {ops : Array Oper} {Q : Exit → Act → World → Prop} {md : Region.Mode} {fuel : Nat} {listed : Array Bool} {a : Act} {w : World} {i : Nat} {o : Oper} {rs : List Nat} (ho : ops[i]? = some o) (hg : Region.wanted o (yielded ops a.tmps) = true)
    (h : ∀ K' : Act → World → Prop, (∀ a w, wpAny P md ops Q fuel (listed.setIfInBounds i true) a w → K' a w) → Oper.wp P o a w K' Q) (hs : AllReady P md ops Q fuel listed a w rs) : AllReady P md ops Q fuel listed a w (i :: rs) :=
  AllReady.cons ho (fun K hK => by simp only [hg, if_true]; exact h K hK) hs
theorem dw {a b : World} (h : Below a.drew.heap.size a.drew b) : Below a.heap.size a b := ((Below.refl a.heap.size a).drew).trans h
theorem dN {B : Nat} {a b : World} (h : Below B a b) (n : Nat) : Below B a (b.drewN n) := ⟨h.os, h.tape, h.output, h.size, h.block⟩
theorem idx (s : ByteArray) (i : Int) (h0 : 0 ≤ i) (h1 : i < (s.size : Int)) (w : World) : (Instr.index 9 (.string s) (.int .i64 i)).run Try.prog w = .ok (.int .u8 (CartR.byteAt s i)) w := by
  have hb : i.toNat < s.size := by omega
  rw [CartR.byteAt, dif_pos hb]
  have := run_index_string (P := Try.prog) w 9 s .i64 i Try.underlying9
  rw [dif_pos ⟨h0, h1⟩] at this
  simpa using this
theorem read_fact (rom : ByteArray) (kind bank : Int) (ram : ByteArray) (rb : Int) (on : Bool) (mode ad : Int) (h : ¬ CartS.readV rom kind bank ram rb on mode ad < 0) :
    ∃ (n : Nat) (q : Int), 2 ≤ n ∧ rom.size = 256 * n ∧ CartM.mappedV rom kind bank ram rb on mode = q ∧ 0 ≤ q ∧ q < n ∧ 0 ≤ ad ∧ ad ≤ 65535 ∧ CartS.readV rom kind bank ram rb on mode ad ≤ 255 ∧
      (ad < 256 → CartS.readV rom kind bank ram rb on mode ad = CartR.byteAt rom ad) ∧ (256 ≤ ad → ad < 512 → CartS.readV rom kind bank ram rb on mode ad = CartR.byteAt rom (q * 256 + ad - 256)) ∧ (512 ≤ ad → ¬ (on = true ∧ 40960 ≤ ad ∧ ad < 41024) → CartS.readV rom kind bank ram rb on mode ad = 255) := by
  by_cases hc : Carts.okB rom kind bank ram rb on mode = true ∧ inB ad 0 65535 = true
  rotate_left
  · exact absurd (by unfold CartS.readV; rw [if_neg hc]; decide) h
  obtain ⟨n, n0, n1, hn, hbk, hm, b0, b1, r0, r1, m0, m1, hk⟩ := CartM.right rom kind bank ram rb on mode hc.1
  obtain ⟨a0, a1⟩ := of_decide_eq_true hc.2
  have e : CartS.readV rom kind bank ram rb on mode ad = CartR.rdV rom (bank % Carts.banks rom.size) ram (CartR.ramQ kind rb mode) on ad := by unfold CartS.readV; rw [if_pos hc]
  have hq : CartM.mappedV rom kind bank ram rb on mode = bank % n := by unfold CartM.mappedV; rw [if_pos hc.1, hbk]
  have q0 := Int.emod_nonneg bank (by omega : (n : Int) ≠ 0)
  have q1 := Int.emod_lt_of_pos bank (by omega : (0 : Int) < n)
  rw [hbk] at e
  rw [e]
  refine ⟨n, bank % n, n0, hn, hq, q0, q1, a0, a1, (CartR.rdV_bd _ _ _ _ _ _).2, ?_, ?_, ?_⟩
  · intro h1; unfold CartR.rdV; rw [if_pos h1]
  · intro h1 h2; unfold CartR.rdV; rw [if_neg (by omega), if_pos h2]
  · intro h1 h2; unfold CartR.rdV; rw [if_neg (by omega), if_neg (by omega), if_neg h2]

set_option maxHeartbeats 2000000 in
theorem walk (w : World) (a0 : Option Addr) (len0 cap0 : Nat) (z0 : List Int) (w0 : IsRow .u8 w a0 len0 cap0 z0) :
    Calls Try.prog 4 #[.slice a0 len0 cap0] w fun e w' => e = .returned (.bool true) ∧ Below w.heap.size w w' := by
  have H : Hid (Rdr.IsRow .u8 w a0 len0 cap0 z0) := toRow w0
  clear w0
  have cb := Rdr.big_any a0 len0 cap0 w H.out.len
  by_cases hbig : Rdr.bigB len0 = true
  · rw [hbig] at cb
    go_enter Try.func4, Try.ntmps4
    go_wp2_with (go_at_call 7; refine cb.mono ?_; rintro e w' ⟨rfl, rfl⟩)
    go_ret
    exact ⟨rfl, Below.refl _ _⟩
  have hbig : Rdr.bigB len0 = false := by simpa using hbig
  rw [hbig] at cb
  go_enter Try.func4, Try.ntmps4
  go_wp2_with fail
  refine cb.mono ?_
  rintro e wa ⟨rfl, rfl⟩
  go_wp2_with fail
  refine (drawCartRead_any _ _ _ _ _ H.out).mono ?_
  rintro e w1 ⟨⟨rom, kind, bank, ram, rb, on, mode, ad, hs, hr, rfl⟩, b1⟩
  have B1 : Hid (Below wa.heap.size wa w1) := b1
  clear b1 H cb
  have hz : rom.size ≤ maxLen := by unfold maxLen; omega
  have hzr : ram.size ≤ maxLen := by unfold maxLen; omega
  have cir := fun w => CartS.implRead_any rom kind bank ram rb on mode ad w hz hzr
  have csr := fun w => CartS.specRead_any rom kind bank ram rb on mode ad w hz hzr
  have cio := fun w => CartL.implOk_any rom kind bank ram rb on mode w hz hzr
  have cso : ∀ w, Calls Try.prog 17 #[.agg #[.string rom, .int .i64 kind, .int .i64 bank, .string ram, .int .i64 rb, .bool on, .int .i64 mode]] w fun e w' => e = .returned (.bool (Carts.okB rom kind bank ram rb on mode)) ∧ Below w.heap.size w w' := fun w => (CartK.specOk_any rom kind bank ram rb on mode w hz hzr).mono (by rintro e w' ⟨rfl, rfl⟩; exact ⟨rfl, (Below.refl _ _).alloc (Nat.le_refl _) _⟩)
  have cim := fun w => CartM.implMapped_any rom kind bank ram rb on mode w hz hzr
  have csm : ∀ w, Calls Try.prog 18 #[.agg #[.string rom, .int .i64 kind, .int .i64 bank, .string ram, .int .i64 rb, .bool on, .int .i64 mode]] w fun e w' => e = .returned (.int .i64 (CartM.mappedV rom kind bank ram rb on mode)) ∧ Below w.heap.size w w' := fun w => (CartM.specMapped_any rom kind bank ram rb on mode w hz hzr).mono (by rintro e w' ⟨rfl, k, rfl⟩; exact ⟨rfl, dN (((Below.refl _ _).alloc (Nat.le_refl _) _).alloc (by simp) _) k⟩)
  have HF : Hid (¬ CartS.readV rom kind bank ram rb on mode ad < 0 → _) := read_fact rom kind bank ram rb on mode ad
  generalize CartS.readV rom kind bank ram rb on mode ad = v at *
  generalize Carts.okB rom kind bank ram rb on mode = ok at *
  generalize CartM.mappedV rom kind bank ram rb on mode = M at *
  go_upto_region 4 with fail
  have HC : Hid (Ct (w1.alloc (.cells #[.string rom, .int .i64 kind, .int .i64 bank, .string ram, .int .i64 rb, .bool on, .int .i64 mode] 27)) w1.heap.size rom kind bank ram rb on mode) := Ct.new _ _ _ _ _ _ _ _
  have BW : Hid (Below wa.heap.size wa (w1.alloc (.cells #[.string rom, .int .i64 kind, .int .i64 bank, .string ram, .int .i64 rb, .bool on, .int .i64 mode] 27))) := B1.out.alloc B1.out.size _
  clear B1
  generalize w1.alloc (.cells #[.string rom, .int .i64 kind, .int .i64 bank, .string ram, .int .i64 rb, .bool on, .int .i64 mode] 27) = w2 at HC BW ⊢
  generalize w1.heap.size = B at HC ⊢
  obtain ⟨c0, c1, c2, c3, c4, c5, c6⟩ := HC.out.cells
  go_wp2_with fail
  refine (cir _).mono ?_
  rintro e w3 ⟨rfl, b3⟩
  have HC : Hid (Ct w3 B rom kind bank ram rb on mode) := HC.out.below b3
  have BW : Hid (Below wa.heap.size wa w3) := after BW.out b3
  clear b3 c0 c1 c2 c3 c4 c5 c6 cir
  go_upto_region 5 with fail
  go_cut [32] (fun x wx => x = .bool (decide (v < 0)) ∧ Hid (Ct wx B rom kind bank ram rb on mode) ∧ Hid (Below wa.heap.size wa wx))
  case first =>
    refine wp_region_any (by kernel_rfl) ?_
    try (change wpAny _ _ _ _ _ _ _ (World.drew _))
    have HC : Hid (Ct w3.drew B rom kind bank ram rb on mode) := HC.out
    have BW : Hid (Below wa.heap.size wa w3.drew) := BW.out.drew
    generalize w3.drew = w4 at HC BW ⊢
    refine wpAny_take (i := 0) (v := ?vr1) rfl (by kernel_rfl) (by kernel_rfl) (by kernel_rfl) (fun _ _ _ h => h) (Or.inl ⟨by rfl, ?hyr1⟩) ?restr1
    case hyr1 => (intro w; go_simp; try with_reducible rfl)
    refine wpAny_take (i := 2) (v := ?vr2) rfl (by kernel_rfl) (by kernel_rfl) (by kernel_rfl) (fun _ _ _ h => h) (Or.inl ⟨by rfl, ?hyr2⟩) ?restr2
    case hyr2 => (intro w; go_simp; try with_reducible rfl)
    try go_simp
    refine wpAny_ready (rs := [1]) (by kernel_rfl) (by simp) ?_
    refine gany_cons rfl (by rfl) (fun K hK => ?_) AllReady.nil
    obtain ⟨c0, c1, c2, c3, c4, c5, c6⟩ := HC.out.cells
    go_simp
    refine hK _ _ ?_
    clear hK
    clear c0 c1 c2 c3 c4 c5 c6
    refine wpAny_ready (rs := [3]) (by kernel_rfl) (by simp) ?_
    refine gany_cons rfl (by rfl) (fun K hK => ?_) AllReady.nil
    go_wp2_with fail
    refine (csr _).mono ?_
    rintro e wk ⟨rfl, bk⟩
    have HC : Hid (Ct wk B rom kind bank ram rb on mode) := HC.out.below (by first | exact bk | exact dw bk)
    have BW : Hid (Below wa.heap.size wa wk) := after BW.out (by first | exact bk | exact dw bk)
    clear bk
    refine hK _ _ ?_
    clear hK
    refine wpAny_take (i := 4) (v := ?vr3) rfl (by kernel_rfl) (by kernel_rfl) (by kernel_rfl) (fun _ _ _ h => h) (Or.inl ⟨by rfl, ?hyr3⟩) ?restr3
    case hyr3 => (intro w; go_simp; try with_reducible rfl)
    refine wpAny_take (i := 5) (v := ?vr4) rfl (by kernel_rfl) (by kernel_rfl) (by kernel_rfl) (fun _ _ _ h => h) (Or.inl ⟨by rfl, ?hyr4⟩) ?restr4
    case hyr4 => (intro w; go_simp; try with_reducible rfl)
    try go_simp
    refine wpAny_ready (rs := [6, 8]) (by kernel_rfl) (by simp) ?_
    refine gany_cons rfl (by rfl) (fun K hK => ?_) (gany_cons rfl (by rfl) (fun K hK => ?_) AllReady.nil)
    · obtain ⟨c0, c1, c2, c3, c4, c5, c6⟩ := HC.out.cells
      go_simp
      refine hK _ _ ?_
      clear hK
      clear c0 c1 c2 c3 c4 c5 c6
      refine wpAny_ready (rs := [7, 8]) (by kernel_rfl) (by simp) ?_
      refine gany_cons rfl (by rfl) (fun K hK => ?_) (gany_cons rfl (by rfl) (fun K hK => ?_) AllReady.nil)
      · go_wp2_with fail
        refine (cio _).mono ?_
        rintro e wk ⟨rfl, bk⟩
        have HC : Hid (Ct wk B rom kind bank ram rb on mode) := HC.out.below (by first | exact bk | exact dw bk)
        have BW : Hid (Below wa.heap.size wa wk) := after BW.out (by first | exact bk | exact dw bk)
        clear bk
        refine hK _ _ ?_
        clear hK
        refine wpAny_ready (rs := [8]) (by kernel_rfl) (by simp) ?_
        refine gany_cons rfl (by rfl) (fun K hK => ?_) AllReady.nil
        obtain ⟨c0, c1, c2, c3, c4, c5, c6⟩ := HC.out.cells
        go_simp
        refine hK _ _ ?_
        clear hK
        clear c0 c1 c2 c3 c4 c5 c6
        refine wpAny_ready (rs := [9]) (by kernel_rfl) (by simp) ?_
        refine gany_cons rfl (by rfl) (fun K hK => ?_) AllReady.nil
        go_wp2_with fail
        refine (cso _).mono ?_
        rintro e wk ⟨rfl, bk⟩
        have HC : Hid (Ct wk B rom kind bank ram rb on mode) := HC.out.below (by first | exact bk | exact dw bk)
        have BW : Hid (Below wa.heap.size wa wk) := after BW.out (by first | exact bk | exact dw bk)
        clear bk
        refine hK _ _ ?_
        clear hK
        refine wpAny_take (i := 10) (v := ?vr5) rfl (by kernel_rfl) (by kernel_rfl) (by kernel_rfl) (fun _ _ _ h => h) (Or.inl ⟨by rfl, ?hyr5⟩) ?restr5
        case hyr5 => (intro w; go_simp; try with_reducible rfl)
        refine wpAny_take (i := 11) (v := ?vr6) rfl (by kernel_rfl) (by kernel_rfl) (by kernel_rfl) (fun _ _ _ h => h) (Or.inl ⟨by rfl, ?hyr6⟩) ?restr6
        case hyr6 => (intro w; go_simp; try with_reducible rfl)
        try go_simp
        refine wpAny_take (i := 12) (v := ?vr7) rfl (by kernel_rfl) (by kernel_rfl) (by kernel_rfl) (fun _ _ _ h => h) (Or.inl ⟨by rfl, ?hyr7⟩) ?restr7
        case hyr7 => (intro w; go_simp; try with_reducible rfl)
        refine wpAny_take (i := 13) (v := ?vr8) rfl (by kernel_rfl) (by kernel_rfl) (by kernel_rfl) (fun _ _ _ h => h) (Or.inl ⟨by rfl, ?hyr8⟩) ?restr8
        case hyr8 => (intro w; go_simp; try with_reducible rfl)
        try go_simp
        refine wpAny_take (i := 14) (v := ?vr9) rfl (by kernel_rfl) (by kernel_rfl) (by kernel_rfl) (fun _ _ _ h => h) (Or.inl ⟨by rfl, ?hyr9⟩) ?restr9
        case hyr9 => (intro w; go_simp; try with_reducible rfl)
        refine wpAny_take (i := 15) (v := ?vr10) rfl (by kernel_rfl) (by kernel_rfl) (by kernel_rfl) (fun _ _ _ h => h) (Or.inl ⟨by rfl, ?hyr10⟩) ?restr10
        case hyr10 => (intro w; go_simp; try with_reducible rfl)
        try go_simp
        refine wpAny_done (by kernel_rfl) ?_ _
        go_wp2_with fail
        go_meet
        exact ⟨rfl, HC, BW⟩
      · obtain ⟨c0, c1, c2, c3, c4, c5, c6⟩ := HC.out.cells
        go_simp
        refine hK _ _ ?_
        clear hK
        clear c0 c1 c2 c3 c4 c5 c6
        refine wpAny_ready (rs := [7]) (by kernel_rfl) (by simp) ?_
        refine gany_cons rfl (by rfl) (fun K hK => ?_) AllReady.nil
        go_wp2_with fail
        refine (cio _).mono ?_
        rintro e wk ⟨rfl, bk⟩
        have HC : Hid (Ct wk B rom kind bank ram rb on mode) := HC.out.below (by first | exact bk | exact dw bk)
        have BW : Hid (Below wa.heap.size wa wk) := after BW.out (by first | exact bk | exact dw bk)
        clear bk
        refine hK _ _ ?_
        clear hK
        refine wpAny_ready (rs := [9]) (by kernel_rfl) (by simp) ?_
        refine gany_cons rfl (by rfl) (fun K hK => ?_) AllReady.nil
        go_wp2_with fail
        refine (cso _).mono ?_
        rintro e wk ⟨rfl, bk⟩
        have HC : Hid (Ct wk B rom kind bank ram rb on mode) := HC.out.below (by first | exact bk | exact dw bk)
        have BW : Hid (Below wa.heap.size wa wk) := after BW.out (by first | exact bk | exact dw bk)
        clear bk
        refine hK _ _ ?_
        clear hK
        refine wpAny_take (i := 10) (v := ?vr11) rfl (by kernel_rfl) (by kernel_rfl) (by kernel_rfl) (fun _ _ _ h => h) (Or.inl ⟨by rfl, ?hyr11⟩) ?restr11
        case hyr11 => (intro w; go_simp; try with_reducible rfl)
        refine wpAny_take (i := 11) (v := ?vr12) rfl (by kernel_rfl) (by kernel_rfl) (by kernel_rfl) (fun _ _ _ h => h) (Or.inl ⟨by rfl, ?hyr12⟩) ?restr12
        case hyr12 => (intro w; go_simp; try with_reducible rfl)
        try go_simp
        refine wpAny_take (i := 12) (v := ?vr13) rfl (by kernel_rfl) (by kernel_rfl) (by kernel_rfl) (fun _ _ _ h => h) (Or.inl ⟨by rfl, ?hyr13⟩) ?restr13
        case hyr13 => (intro w; go_simp; try with_reducible rfl)
        refine wpAny_take (i := 13) (v := ?vr14) rfl (by kernel_rfl) (by kernel_rfl) (by kernel_rfl) (fun _ _ _ h => h) (Or.inl ⟨by rfl, ?hyr14⟩) ?restr14
        case hyr14 => (intro w; go_simp; try with_reducible rfl)
        try go_simp
        refine wpAny_take (i := 14) (v := ?vr15) rfl (by kernel_rfl) (by kernel_rfl) (by kernel_rfl) (fun _ _ _ h => h) (Or.inl ⟨by rfl, ?hyr15⟩) ?restr15
        case hyr15 => (intro w; go_simp; try with_reducible rfl)
        refine wpAny_take (i := 15) (v := ?vr16) rfl (by kernel_rfl) (by kernel_rfl) (by kernel_rfl) (fun _ _ _ h => h) (Or.inl ⟨by rfl, ?hyr16⟩) ?restr16
        case hyr16 => (intro w; go_simp; try with_reducible rfl)
        try go_simp
        refine wpAny_done (by kernel_rfl) ?_ _
        go_wp2_with fail
        go_meet
        exact ⟨rfl, HC, BW⟩
    · obtain ⟨c0, c1, c2, c3, c4, c5, c6⟩ := HC.out.cells
      go_simp
      refine hK _ _ ?_
      clear hK
      clear c0 c1 c2 c3 c4 c5 c6
      refine wpAny_ready (rs := [6]) (by kernel_rfl) (by simp) ?_
      refine gany_cons rfl (by rfl) (fun K hK => ?_) AllReady.nil
      obtain ⟨c0, c1, c2, c3, c4, c5, c6⟩ := HC.out.cells
      go_simp
      refine hK _ _ ?_
      clear hK
      clear c0 c1 c2 c3 c4 c5 c6
      refine wpAny_ready (rs := [7]) (by kernel_rfl) (by simp) ?_
      refine gany_cons rfl (by rfl) (fun K hK => ?_) AllReady.nil
      go_wp2_with fail
      refine (cio _).mono ?_
      rintro e wk ⟨rfl, bk⟩
      have HC : Hid (Ct wk B rom kind bank ram rb on mode) := HC.out.below (by first | exact bk | exact dw bk)
      have BW : Hid (Below wa.heap.size wa wk) := after BW.out (by first | exact bk | exact dw bk)
      clear bk
      refine hK _ _ ?_
      clear hK
      refine wpAny_ready (rs := [9]) (by kernel_rfl) (by simp) ?_
      refine gany_cons rfl (by rfl) (fun K hK => ?_) AllReady.nil
      go_wp2_with fail
      refine (cso _).mono ?_
      rintro e wk ⟨rfl, bk⟩
      have HC : Hid (Ct wk B rom kind bank ram rb on mode) := HC.out.below (by first | exact bk | exact dw bk)
      have BW : Hid (Below wa.heap.size wa wk) := after BW.out (by first | exact bk | exact dw bk)
      clear bk
      refine hK _ _ ?_
      clear hK
      refine wpAny_take (i := 10) (v := ?vr17) rfl (by kernel_rfl) (by kernel_rfl) (by kernel_rfl) (fun _ _ _ h => h) (Or.inl ⟨by rfl, ?hyr17⟩) ?restr17
      case hyr17 => (intro w; go_simp; try with_reducible rfl)
      refine wpAny_take (i := 11) (v := ?vr18) rfl (by kernel_rfl) (by kernel_rfl) (by kernel_rfl) (fun _ _ _ h => h) (Or.inl ⟨by rfl, ?hyr18⟩) ?restr18
      case hyr18 => (intro w; go_simp; try with_reducible rfl)
      try go_simp
      refine wpAny_take (i := 12) (v := ?vr19) rfl (by kernel_rfl) (by kernel_rfl) (by kernel_rfl) (fun _ _ _ h => h) (Or.inl ⟨by rfl, ?hyr19⟩) ?restr19
      case hyr19 => (intro w; go_simp; try with_reducible rfl)
      refine wpAny_take (i := 13) (v := ?vr20) rfl (by kernel_rfl) (by kernel_rfl) (by kernel_rfl) (fun _ _ _ h => h) (Or.inl ⟨by rfl, ?hyr20⟩) ?restr20
      case hyr20 => (intro w; go_simp; try with_reducible rfl)
      try go_simp
      refine wpAny_take (i := 14) (v := ?vr21) rfl (by kernel_rfl) (by kernel_rfl) (by kernel_rfl) (fun _ _ _ h => h) (Or.inl ⟨by rfl, ?hyr21⟩) ?restr21
      case hyr21 => (intro w; go_simp; try with_reducible rfl)
      refine wpAny_take (i := 15) (v := ?vr22) rfl (by kernel_rfl) (by kernel_rfl) (by kernel_rfl) (fun _ _ _ h => h) (Or.inl ⟨by rfl, ?hyr22⟩) ?restr22
      case hyr22 => (intro w; go_simp; try with_reducible rfl)
      try go_simp
      refine wpAny_done (by kernel_rfl) ?_ _
      go_wp2_with fail
      go_meet
      exact ⟨rfl, HC, BW⟩
  case rest =>
  clear HC BW
  obtain ⟨rfl, HC, BW⟩ := hcut
  rename World => w5
  by_cases hv : v < 0
  · have hvd : decide (v < 0) = true := decide_eq_true hv
    clear HF
    go_upto_region 6 with fail
    refine wp_region_any (by kernel_rfl) ?_
    try (change wpAny _ _ _ _ _ _ _ (World.drew _))
    have HC : Hid (Ct w5.drew B rom kind bank ram rb on mode) := HC.out
    have BW : Hid (Below wa.heap.size wa w5.drew) := BW.out.drew
    generalize w5.drew = w8 at HC BW ⊢
    refine wpAny_take (i := 0) (v := ?vr23) rfl (by kernel_rfl) (by kernel_rfl) (by kernel_rfl) (fun _ _ _ h => h) (Or.inl ⟨by rfl, ?hyr23⟩) ?restr23
    case hyr23 => (intro w; go_simp; try with_reducible rfl)
    refine wpAny_take (i := 2) (v := ?vr24) rfl (by kernel_rfl) (by kernel_rfl) (by kernel_rfl) (fun _ _ _ h => h) (Or.inl ⟨by rfl, ?hyr24⟩) ?restr24
    case hyr24 => (intro w; go_simp; try with_reducible rfl)
    try go_simp
    refine wpAny_ready (rs := [1]) (by kernel_rfl) (by simp) ?_
    refine gany_cons rfl (by rfl) (fun K hK => ?_) AllReady.nil
    obtain ⟨c0, c1, c2, c3, c4, c5, c6⟩ := HC.out.cells
    go_simp
    refine hK _ _ ?_
    clear hK
    clear c0 c1 c2 c3 c4 c5 c6
    refine wpAny_ready (rs := [3]) (by kernel_rfl) (by simp) ?_
    refine gany_cons rfl (by rfl) (fun K hK => ?_) AllReady.nil
    go_wp2_with fail
    refine (csr _).mono ?_
    rintro e wk ⟨rfl, bk⟩
    have HC : Hid (Ct wk B rom kind bank ram rb on mode) := HC.out.below (by first | exact bk | exact dw bk)
    have BW : Hid (Below wa.heap.size wa wk) := after BW.out (by first | exact bk | exact dw bk)
    clear bk
    refine hK _ _ ?_
    clear hK
    refine wpAny_take (i := 4) (v := ?vr25) rfl (by kernel_rfl) (by kernel_rfl) (by kernel_rfl) (fun _ _ _ h => h) (Or.inl ⟨by rfl, ?hyr25⟩) ?restr25
    case hyr25 => (intro w; go_simp; try with_reducible rfl)
    refine wpAny_take (i := 5) (v := ?vr26) rfl (by kernel_rfl) (by kernel_rfl) (by kernel_rfl) (fun _ _ _ h => h) (Or.inl ⟨by rfl, ?hyr26⟩) ?restr26
    case hyr26 => (intro w; go_simp; try with_reducible rfl)
    try go_simp
    refine wpAny_ready (rs := [6, 8]) (by kernel_rfl) (by simp) ?_
    refine gany_cons rfl (by rfl) (fun K hK => ?_) (gany_cons rfl (by rfl) (fun K hK => ?_) AllReady.nil)
    · obtain ⟨c0, c1, c2, c3, c4, c5, c6⟩ := HC.out.cells
      go_simp
      refine hK _ _ ?_
      clear hK
      clear c0 c1 c2 c3 c4 c5 c6
      refine wpAny_ready (rs := [7, 8]) (by kernel_rfl) (by simp) ?_
      refine gany_cons rfl (by rfl) (fun K hK => ?_) (gany_cons rfl (by rfl) (fun K hK => ?_) AllReady.nil)
      · go_wp2_with fail
        refine (cio _).mono ?_
        rintro e wk ⟨rfl, bk⟩
        have HC : Hid (Ct wk B rom kind bank ram rb on mode) := HC.out.below (by first | exact bk | exact dw bk)
        have BW : Hid (Below wa.heap.size wa wk) := after BW.out (by first | exact bk | exact dw bk)
        clear bk
        refine hK _ _ ?_
        clear hK
        refine wpAny_ready (rs := [8]) (by kernel_rfl) (by simp) ?_
        refine gany_cons rfl (by rfl) (fun K hK => ?_) AllReady.nil
        obtain ⟨c0, c1, c2, c3, c4, c5, c6⟩ := HC.out.cells
        go_simp
        refine hK _ _ ?_
        clear hK
        clear c0 c1 c2 c3 c4 c5 c6
        refine wpAny_ready (rs := [9]) (by kernel_rfl) (by simp) ?_
        refine gany_cons rfl (by rfl) (fun K hK => ?_) AllReady.nil
        go_wp2_with fail
        refine (cso _).mono ?_
        rintro e wk ⟨rfl, bk⟩
        have HC : Hid (Ct wk B rom kind bank ram rb on mode) := HC.out.below (by first | exact bk | exact dw bk)
        have BW : Hid (Below wa.heap.size wa wk) := after BW.out (by first | exact bk | exact dw bk)
        clear bk
        refine hK _ _ ?_
        clear hK
        refine wpAny_take (i := 10) (v := ?vr27) rfl (by kernel_rfl) (by kernel_rfl) (by kernel_rfl) (fun _ _ _ h => h) (Or.inl ⟨by rfl, ?hyr27⟩) ?restr27
        case hyr27 => (intro w; go_simp; try with_reducible rfl)
        refine wpAny_take (i := 11) (v := ?vr28) rfl (by kernel_rfl) (by kernel_rfl) (by kernel_rfl) (fun _ _ _ h => h) (Or.inl ⟨by rfl, ?hyr28⟩) ?restr28
        case hyr28 => (intro w; go_simp; try with_reducible rfl)
        try go_simp
        refine wpAny_take (i := 12) (v := ?vr29) rfl (by kernel_rfl) (by kernel_rfl) (by kernel_rfl) (fun _ _ _ h => h) (Or.inl ⟨by rfl, ?hyr29⟩) ?restr29
        case hyr29 => (intro w; go_simp; try with_reducible rfl)
        refine wpAny_done (by kernel_rfl) ?_ _
        go_wp2
        go_ret
        exact ⟨rfl, BW.out⟩
      · obtain ⟨c0, c1, c2, c3, c4, c5, c6⟩ := HC.out.cells
        go_simp
        refine hK _ _ ?_
        clear hK
        clear c0 c1 c2 c3 c4 c5 c6
        refine wpAny_ready (rs := [7]) (by kernel_rfl) (by simp) ?_
        refine gany_cons rfl (by rfl) (fun K hK => ?_) AllReady.nil
        go_wp2_with fail
        refine (cio _).mono ?_
        rintro e wk ⟨rfl, bk⟩
        have HC : Hid (Ct wk B rom kind bank ram rb on mode) := HC.out.below (by first | exact bk | exact dw bk)
        have BW : Hid (Below wa.heap.size wa wk) := after BW.out (by first | exact bk | exact dw bk)
        clear bk
        refine hK _ _ ?_
        clear hK
        refine wpAny_ready (rs := [9]) (by kernel_rfl) (by simp) ?_
        refine gany_cons rfl (by rfl) (fun K hK => ?_) AllReady.nil
        go_wp2_with fail
        refine (cso _).mono ?_
        rintro e wk ⟨rfl, bk⟩
        have HC : Hid (Ct wk B rom kind bank ram rb on mode) := HC.out.below (by first | exact bk | exact dw bk)
        have BW : Hid (Below wa.heap.size wa wk) := after BW.out (by first | exact bk | exact dw bk)
        clear bk
        refine hK _ _ ?_
        clear hK
        refine wpAny_take (i := 10) (v := ?vr30) rfl (by kernel_rfl) (by kernel_rfl) (by kernel_rfl) (fun _ _ _ h => h) (Or.inl ⟨by rfl, ?hyr30⟩) ?restr30
        case hyr30 => (intro w; go_simp; try with_reducible rfl)
        refine wpAny_take (i := 11) (v := ?vr31) rfl (by kernel_rfl) (by kernel_rfl) (by kernel_rfl) (fun _ _ _ h => h) (Or.inl ⟨by rfl, ?hyr31⟩) ?restr31
        case hyr31 => (intro w; go_simp; try with_reducible rfl)
        try go_simp
        refine wpAny_take (i := 12) (v := ?vr32) rfl (by kernel_rfl) (by kernel_rfl) (by kernel_rfl) (fun _ _ _ h => h) (Or.inl ⟨by rfl, ?hyr32⟩) ?restr32
        case hyr32 => (intro w; go_simp; try with_reducible rfl)
        refine wpAny_done (by kernel_rfl) ?_ _
        go_wp2
        go_ret
        exact ⟨rfl, BW.out⟩
    · obtain ⟨c0, c1, c2, c3, c4, c5, c6⟩ := HC.out.cells
      go_simp
      refine hK _ _ ?_
      clear hK
      clear c0 c1 c2 c3 c4 c5 c6
      refine wpAny_ready (rs := [6]) (by kernel_rfl) (by simp) ?_
      refine gany_cons rfl (by rfl) (fun K hK => ?_) AllReady.nil
      obtain ⟨c0, c1, c2, c3, c4, c5, c6⟩ := HC.out.cells
      go_simp
      refine hK _ _ ?_
      clear hK
      clear c0 c1 c2 c3 c4 c5 c6
      refine wpAny_ready (rs := [7]) (by kernel_rfl) (by simp) ?_
      refine gany_cons rfl (by rfl) (fun K hK => ?_) AllReady.nil
      go_wp2_with fail
      refine (cio _).mono ?_
      rintro e wk ⟨rfl, bk⟩
      have HC : Hid (Ct wk B rom kind bank ram rb on mode) := HC.out.below (by first | exact bk | exact dw bk)
      have BW : Hid (Below wa.heap.size wa wk) := after BW.out (by first | exact bk | exact dw bk)
      clear bk
      refine hK _ _ ?_
      clear hK
      refine wpAny_ready (rs := [9]) (by kernel_rfl) (by simp) ?_
      refine gany_cons rfl (by rfl) (fun K hK => ?_) AllReady.nil
      go_wp2_with fail
      refine (cso _).mono ?_
      rintro e wk ⟨rfl, bk⟩
      have HC : Hid (Ct wk B rom kind bank ram rb on mode) := HC.out.below (by first | exact bk | exact dw bk)
      have BW : Hid (Below wa.heap.size wa wk) := after BW.out (by first | exact bk | exact dw bk)
      clear bk
      refine hK _ _ ?_
      clear hK
      refine wpAny_take (i := 10) (v := ?vr33) rfl (by kernel_rfl) (by kernel_rfl) (by kernel_rfl) (fun _ _ _ h => h) (Or.inl ⟨by rfl, ?hyr33⟩) ?restr33
      case hyr33 => (intro w; go_simp; try with_reducible rfl)
      refine wpAny_take (i := 11) (v := ?vr34) rfl (by kernel_rfl) (by kernel_rfl) (by kernel_rfl) (fun _ _ _ h => h) (Or.inl ⟨by rfl, ?hyr34⟩) ?restr34
      case hyr34 => (intro w; go_simp; try with_reducible rfl)
      try go_simp
      refine wpAny_take (i := 12) (v := ?vr35) rfl (by kernel_rfl) (by kernel_rfl) (by kernel_rfl) (fun _ _ _ h => h) (Or.inl ⟨by rfl, ?hyr35⟩) ?restr35
      case hyr35 => (intro w; go_simp; try with_reducible rfl)
      refine wpAny_done (by kernel_rfl) ?_ _
      go_wp2
      go_ret
      exact ⟨rfl, BW.out⟩
  have hvd : decide (v < 0) = false := decide_eq_false hv
  obtain ⟨n, q, n0, hn, hM, q0, q1, a0, a1, f0, f1, f2, f3⟩ := HF.out (by first | exact hv | omega)
  clear HF csr cio cso
  subst hM
  have hv0 : 0 ≤ v := by omega
  by_cases k1 : ad < 256
  · have f1 := f1 k1
    have k1d : decide (ad < 256) = true := decide_eq_true k1
    have hx := idx rom ad a0 (by omega)
    rw [← f1] at hx
    have hwv : IntKind.i64.wrap v = v := by rw [IntKind.wrap_i64]; omega
    clear f1 f2 f3
    obtain ⟨c0, c1, c2, c3, c4, c5, c6⟩ := HC.out.cells
    go_wp2
    go_ret
    exact ⟨by first | rfl | simp, BW.out⟩
  have k1d : decide (ad < 256) = false := decide_eq_false k1
  by_cases k2 : ad < 512
  · have f2 := f2 (by omega) k2
    have k2d : decide (ad < 512) = true := decide_eq_true k2
    have hx := idx rom (M * 256 + ad - 256) (by omega) (by omega)
    rw [← f2] at hx
    have hwv : IntKind.i64.wrap v = v := by rw [IntKind.wrap_i64]; omega
    have w1 : IntKind.i64.wrap (M * 256) = M * 256 := by rw [IntKind.wrap_i64]; omega
    have w2 : IntKind.i64.wrap (M * 256 + ad) = M * 256 + ad := by rw [IntKind.wrap_i64]; omega
    have w3 : IntKind.i64.wrap (M * 256 + ad - 256) = M * 256 + ad - 256 := by rw [IntKind.wrap_i64]; omega
    have q0d : decide (0 ≤ M) = true := decide_eq_true q0
    clear f1 f2 f3
    obtain ⟨c0, c1, c2, c3, c4, c5, c6⟩ := HC.out.cells
    go_wp2_with fail
    refine (cim _).mono ?_
    rintro e w6 ⟨rfl, b6⟩
    have HC : Hid (Ct w6 B rom kind bank ram rb on mode) := HC.out.below b6
    have BW : Hid (Below wa.heap.size wa w6) := after BW.out b6
    clear b6 c0 c1 c2 c3 c4 c5 c6 cim
    obtain ⟨c0, c1, c2, c3, c4, c5, c6⟩ := HC.out.cells
    go_wp2_with fail
    refine (csm _).mono ?_
    rintro e w7 ⟨rfl, b7⟩
    have HC : Hid (Ct w7 B rom kind bank ram rb on mode) := HC.out.below b7
    have BW : Hid (Below wa.heap.size wa w7) := after BW.out b7
    clear b7 c0 c1 c2 c3 c4 c5 c6 csm
    obtain ⟨c0, c1, c2, c3, c4, c5, c6⟩ := HC.out.cells
    go_wp2
    go_ret
    exact ⟨by first | rfl | simp, BW.out⟩
  have k2d : decide (ad < 512) = false := decide_eq_false k2
  have f3 := f3 (by omega)
  clear f1 f2
  by_cases k3 : ad < 40960
  · have f3 := f3 (by omega)
    have k3d : decide (ad < 40960) = true := decide_eq_true k3
    subst f3
    obtain ⟨c0, c1, c2, c3, c4, c5, c6⟩ := HC.out.cells
    go_wp2
    go_ret
    exact ⟨by first | rfl | simp, BW.out⟩
  have k3d : decide (ad < 40960) = false := decide_eq_false k3
  by_cases k4 : 41024 ≤ ad
  · have f3 := f3 (by omega)
    have k4d : decide (41024 ≤ ad) = true := decide_eq_true k4
    subst f3
    obtain ⟨c0, c1, c2, c3, c4, c5, c6⟩ := HC.out.cells
    go_wp2
    go_ret
    exact ⟨by first | rfl | simp, BW.out⟩
  have k4d : decide (41024 ≤ ad) = false := decide_eq_false k4
  obtain ⟨c0, c1, c2, c3, c4, c5, c6⟩ := HC.out.cells
  cases on with
  | false =>
    have f3 := f3 (by simp)
    subst f3
    go_wp2
    go_ret
    exact ⟨by first | rfl | simp, BW.out⟩
  | true =>
    have f0d : decide (v ≤ 255) = true := decide_eq_true f0
    clear f3
    go_wp2
    go_ret
    exact ⟨by first | rfl | simp, BW.out⟩

set_option maxRecDepth 100000 in
theorem lifted (os : Os) (started : os.Started) (H : Type) (enc : TypeId × Value → H) :
    ReturnsInHanded {} Try.checked os 4 .any (Rows.fnCartReadsSpec.pre6 enc Try.prog Try.f4 Rows.fnCartReadsRow.domain false) (Rows.fnCartReadsSpec.post enc Try.prog Try.f4 false true false false) := by
  refine returnsInHanded_of_change (C := Try.checked) own started (by kernel_rfl) Try.func4
    (ChangeSpec.witness6 (enc := enc) (C := Try.checked) false ⟨#[], #[.slice none 0 0], []⟩ 8 (by kernel_rfl) (by kernel_rfl) (by kernel_rfl) (by kernel_rfl)) ?_
  intro W base args ds gs before hval0 hW hcnd _
  have hval : ∀ (j : Nat) t v, Try.f4.params[j]? = some t → args[j]? = some v → Value.okWide Try.prog W .any base t v := hval0
  have hW' := hW
  obtain ⟨p, q, hA0, hV, rfl, hfz, hnd⟩ := hW
  have hA : DataW.TrodAll enc Try.prog W 0 (fun _ => true) true Try.f4.params.toList args.toList ds p := hA0
  rw [Try.params4] at hA hval
  obtain ⟨v0, vs0, d0, ds0, p0, q0, hargs, rfl, rfl, h0, r0⟩ := trodAll_cons hA
  obtain ⟨rfl, rfl, rfl⟩ := trodAll_nil r0
  obtain rfl : args = #[v0] := by cases args; simp_all
  obtain ⟨rfl, rfl⟩ := trodVars_none hV
  obtain ⟨a0, len0, cap0, rfl⟩ := okWide_slice Try.underlying22 (hval 0 22 v0 rfl rfl)
  have k0 := h0
  have lt0 : ∀ x ∈ p0, x.block < W.heap.size := by obtain ⟨m, hm⟩ := k0; exact DataW.trod_lt m _ _ _ hm
  obtain ⟨z0, w0⟩ : ∃ zs, IsRow .u8 W a0 len0 cap0 zs := by
    obtain ⟨fuel, hf⟩ := h0
    rcases open_ints Try.underlying22 Try.underlying5 (by kernel_rfl) hf with ⟨hcs, _⟩ | ⟨x, l, c, zs, hcs, _, hl, hm, hz, _, hcell, hwz⟩
    · simp [Value.cells] at hcs
      obtain ⟨rfl, rfl, rfl⟩ := hcs
      exact ⟨[], .inl ⟨rfl, rfl, rfl, rfl⟩⟩
    · simp [Value.cells] at hcs
      obtain ⟨rfl, rfl, rfl⟩ := hcs
      exact ⟨zs, .inr ⟨_, rfl, hl, hm, by simpa using hz, hcell, hwz⟩⟩
  clear hA0 hval0
  refine (walk W a0 len0 cap0 z0 w0).mono fun e W' ⟨he, bel⟩ => ?_
  subst he
  exact ⟨_, rfl, _, _, _, [], _, [], hW', trodAll_mk1 (shut_bool Try.underlying4 _), (trodAll_cons_mk (Below.trod laidOut (by kernel_rfl) (of_decide_eq_true (by kernel_rfl)) k0 bel lt0) trodAll_mk0), rfl, bel.frame _, fun h => by cases h⟩

theorem over : Rows.fnCartReadsRow.holds Try.pinned (OpenSpec.ofChange Rows.fnCartReadsSpec) :=
  OpenClaim.holds_of_wide 4 Try.f4 rfl rfl rfl rfl rfl rfl rfl ⟨rfl, rfl, rfl, rfl, rfl⟩ rfl rfl rfl rfl rfl (by kernel_rfl) Try.func4 (by kernel_rfl)
    (of_decide_eq_true (by kernel_rfl)) (by unfold Func.isWrapper; first | (rw [if_pos (by decide +kernel)]; kernel_rfl) | (rw [if_neg (by decide +kernel)]; exact ⟨rfl, rfl⟩))
    (fun os started H enc _ => lifted os started H enc)
end Go.Proofs.Ytllpkidfldmbnaa.fnCartReads
namespace Go.Proofs.Ytllpkidfldmbnaa
theorem fnCartReads_holds : Rows.FnCartReadsSaid := fnCartReads.over
end Go.Proofs.Ytllpkidfldmbnaa
