/- For every code the law FnHeaders answers true: of the drawn rom impl.HeaderOf answers as spec.HeaderOf does; of the other drawn text both sums are as spec's; a right header holds both sums, and with one byte of its title turned it is right no more; the code reads afterwards as it read before (strings.TrimRight is asked for one byte alone and comes to no table). -/
import Derived.Test.YtpnaohonadoofaaDoorCards
import Derived.Test.YtpnaohonadoofaaDoorTie
import Derived.WalkKit
import Derived.ProofKit
import Derived.OpenShut
import Derived.ShutString
import Derived.ChangeOld
import Derived.ChangeVars
import Derived.OpenVars
import Derived.Below
import Derived.Deep.DeepHandedRow
import Derived.Lib.LaidTab
import Derived.Test.YtpnaohonadoofaaDoorHedt
import Derived.Test.YtpnaohonadoofaaDoorHedb
import Derived.Test.YtpnaohonadoofaaDoorHedc
import Derived.Test.YtpnaohonadoofaaDoorDrawH
import Derived.Deep.Cut
import Derived.BigQuiet
namespace Go.Proofs.YtpnaohonadoofaaDoor.fnHeaders
open Go.ChangeShapes Go.WideShapes Go.ChangeAt Go.RowKit
open Go.ChangeMaps (open_string shut_string)
set_option linter.unusedVariables false

theorem own : ownKnob Tryd.prog.godebug = none := by kernel_rfl
theorem laidOut : laidOutB Tryd.prog = true := by kernel_rfl

/-- What the walk is told of a slice of bytes that came in: it is nil; or it leads to a row of cells, the numbers zs, each fitting its kind. -/
def IsRow (k : IntKind) (w : World) (a : Option Addr) (len cap : Nat) (zs : List Int) : Prop :=
  (a = none ∧ len = 0 ∧ cap = 0 ∧ zs = []) ∨
  ∃ x, a = some x ∧ len ≤ cap ∧ cap ≤ maxLen ∧ zs.length = cap ∧ (∀ i, i < zs.length → w.cell? (x.add i) = some (.int k (zs.getD i 0))) ∧ ∀ n ∈ zs, (Lit.int k n).wf = true

set_option maxRecDepth 20000
open Heda DrawQ DrawH
theorem toRow {k : IntKind} {w : World} {a : Option Addr} {len cap : Nat} {zs : List Int} (h : IsRow k w a len cap zs) : Rdr.IsRow k w a len cap zs := h
theorem gany_cons {P : Program} {ops : Array Oper} {Q : Exit → Act → World → Prop} {md : Region.Mode} {fuel : Nat} {listed : Array Bool} {a : Act} {w : World} {i : Nat} {o : Oper} {rs : List Nat} (ho : ops[i]? = some o) (hg : Region.wanted o (yielded ops a.tmps) = true)
    (h : ∀ K' : Act → World → Prop, (∀ a w, wpAny P md ops Q fuel (listed.setIfInBounds i true) a w → K' a w) → Oper.wp P o a w K' Q) (hs : AllReady P md ops Q fuel listed a w rs) : AllReady P md ops Q fuel listed a w (i :: rs) :=
  AllReady.cons ho (fun K hK => by simp only [hg, if_true]; exact h K hK) hs
theorem dw {a b : World} (h : Below a.drew.heap.size a.drew b) : Below a.heap.size a b := ((Below.refl a.heap.size a).drew).trans h
theorem after {a w w' : World} (h : Below a.heap.size a w) (k : Below w.heap.size w w') : Below a.heap.size a w' := h.trans (k.mono h.size)

set_option maxHeartbeats 16000000 in
theorem walk (w : World) (a0 : Option Addr) (len0 cap0 : Nat) (z0 : List Int) (w0 : IsRow .u8 w a0 len0 cap0 z0) :
    Calls Tryd.prog 4 #[.slice a0 len0 cap0] w fun e w' => e = .returned (.bool true) ∧ Below w.heap.size w w' := by
  have H : Hid (Rdr.IsRow .u8 w a0 len0 cap0 z0) := toRow w0
  clear w0
  have cb := Rdr.big_any a0 len0 cap0 w H.out.len
  by_cases hbig : Rdr.bigB len0 = true
  · rw [hbig] at cb
    go_enter Tryd.func4, Tryd.ntmps4
    go_wp2_with (go_at_call 5; refine cb.mono ?_; rintro e w' ⟨rfl, rfl⟩)
    go_ret
    exact ⟨rfl, Below.refl _ _⟩
  have hbig : Rdr.bigB len0 = false := by simpa using hbig
  rw [hbig] at cb
  go_enter Tryd.func4, Tryd.ntmps4
  go_wp2_with fail
  refine cb.mono ?_
  rintro e wa ⟨rfl, rfl⟩
  go_wp2_with fail
  refine (drawHeaderOf_any _ _ _ _ _ H.out).mono ?_
  rintro e w1 ⟨⟨s, hs, rfl⟩, b1⟩
  have B1 : Hid (Below wa.heap.size wa w1) := b1
  have H : Hid (Rdr.IsRow .u8 w1 a0 len0 cap0 z0) := H.out.below b1
  clear b1 cb
  have ci := fun w => Hedc.implHdr_any s w (by unfold maxLen; omega)
  have cs := fun w => Hedb.specHdr_any s w (by unfold maxLen; omega)
  obtain ⟨t, k, n, sm, wh, f, ho, hf⟩ := Hedt.shape s
  rw [ho] at ci cs
  have HF : Hid (f = true → sm = Sums.headV s ∧ wh = Sums.wholeV s ∧ 512 ≤ s.size ∧ ∀ x : Int, 0 ≤ x → x ≤ 255 → x ≠ Sums.byteAt s 55 → outH (Hedt.turnB s x) = .returned (.tuple #[noHdr, .bool false])) := hf
  clear hf ho
  go_wp2_with fail
  refine (ci _).mono ?_
  rintro e w2 ⟨rfl, b2⟩
  have BW : Hid (Below wa.heap.size wa w2) := after B1.out b2
  have H : Hid (Rdr.IsRow .u8 w2 a0 len0 cap0 z0) := H.out.below b2
  clear b2 B1 ci
  have H1 : Hid (Hdr (w2.alloc (.cells #[.string t, .int .i64 k, .int .i64 n, .int .i64 sm, .int .i64 wh] 29)) w2.heap.size t k n sm wh) := Hdr.new _ _ _ _ _ _
  go_wp2_with fail
  refine (cs _).mono ?_
  rintro e w3 ⟨rfl, b3⟩
  have BW : Hid (Below wa.heap.size wa w3) := after (BW.out.alloc BW.out.size _) b3
  have H : Hid (Rdr.IsRow .u8 w3 a0 len0 cap0 z0) := (H.out.below ((Below.refl _ _).alloc (Nat.le_refl _) _)).below b3
  have H1 : Hid (Hdr w3 w2.heap.size t k n sm wh) := H1.out.below b3
  clear b3 cs
  generalize w2.heap.size = HA at H1 ⊢
  have H1 : Hid (Hdr (w3.alloc (.cells #[.string t, .int .i64 k, .int .i64 n, .int .i64 sm, .int .i64 wh] 29)) HA t k n sm wh) := H1.out.alloc _
  have H2 : Hid (Hdr (w3.alloc (.cells #[.string t, .int .i64 k, .int .i64 n, .int .i64 sm, .int .i64 wh] 29)) w3.heap.size t k n sm wh) := Hdr.new _ _ _ _ _ _
  have BW : Hid (Below wa.heap.size wa (w3.alloc (.cells #[.string t, .int .i64 k, .int .i64 n, .int .i64 sm, .int .i64 wh] 29))) := BW.out.alloc BW.out.size _
  have H : Hid (Rdr.IsRow .u8 (w3.alloc (.cells #[.string t, .int .i64 k, .int .i64 n, .int .i64 sm, .int .i64 wh] 29)) a0 len0 cap0 z0) := H.out.below ((Below.refl _ _).alloc (Nat.le_refl _) _)
  go_upto_region 6 with fail
  generalize w3.alloc (.cells #[.string t, .int .i64 k, .int .i64 n, .int .i64 sm, .int .i64 wh] 29) = w4 at H H1 H2 BW ⊢
  generalize w3.heap.size = HC at H2 ⊢
  go_wp2_with fail
  refine (drawHeaderSum_any _ _ _ _ _ H.out).mono ?_
  rintro e w5 ⟨⟨o, hso, rfl⟩, b5⟩
  have BW : Hid (Below wa.heap.size wa w5) := after BW.out b5
  have H1 : Hid (Hdr w5 HA t k n sm wh) := H1.out.below b5
  have H2 : Hid (Hdr w5 HC t k n sm wh) := H2.out.below b5
  clear b5 H
  obtain ⟨i0, i1, i2, i3, i4⟩ := H1.out.cells
  obtain ⟨r0, r1, r2, r3, r4⟩ := H2.out.cells
  have c1 := fun w => Sums.implHead_any o w (by unfold maxLen; omega)
  have c2 := fun w => Sums.specHead_any o w (by unfold maxLen; omega)
  have c3 := fun w => Sums.implWhole_any o w (by unfold maxLen; omega)
  have c4 := fun w => Sums.specWhole_any o w (by unfold maxLen; omega)
  have a1 := fun w => Sums.implHead_any s w (by unfold maxLen; omega)
  have a3 := fun w => Sums.implWhole_any s w (by unfold maxLen; omega)
  generalize Sums.headV o = ohv at *
  generalize Sums.wholeV o = owv at *
  go_wp2_with fail
  refine (c1 _).mono ?_
  rintro e w6 ⟨rfl, b6⟩
  have BW : Hid (Below wa.heap.size wa w6) := after BW.out b6
  have H1 : Hid (Hdr w6 HA t k n sm wh) := H1.out.below b6
  have H2 : Hid (Hdr w6 HC t k n sm wh) := H2.out.below b6
  clear b6 c1 i0 i1 i2 i3 i4 r0 r1 r2 r3 r4
  go_wp2_with fail
  refine (c2 _).mono ?_
  rintro e w7 ⟨rfl, hw⟩
  have hw := hw.symm
  subst hw
  clear c2
  go_wp2_with fail
  refine (c3 _).mono ?_
  rintro e w7 ⟨rfl, b7⟩
  have BW : Hid (Below wa.heap.size wa w7) := after BW.out b7
  have H1 : Hid (Hdr w7 HA t k n sm wh) := H1.out.below b7
  have H2 : Hid (Hdr w7 HC t k n sm wh) := H2.out.below b7
  clear b7 c3
  go_wp2_with fail
  refine (c4 _).mono ?_
  rintro e w8 ⟨rfl, hw⟩
  have hw := hw.symm
  subst hw
  clear c4
  obtain ⟨i0, i1, i2, i3, i4⟩ := H1.out.cells
  obtain ⟨r0, r1, r2, r3, r4⟩ := H2.out.cells
  cases f with
  | false =>
    go_wp2
    go_ret
    exact ⟨rfl, BW.out⟩
  | true =>
    obtain ⟨f1, f2, f3, f4⟩ := HF.out rfl
    clear HF
    have hb55 := Sums.byteAt_bd s 55
    obtain ⟨x0, x1, x2⟩ := Hedt.xor_one (Sums.byteAt s 55) hb55.1 hb55.2
    have ct := fun w => Hedc.implHdr_any (Hedt.turnB s (bits .xor .u8 (Sums.byteAt s 55) 1)) w (by rw [Hedt.turn_size]; unfold maxLen; omega)
    rw [f4 _ x0 x1 x2] at ct
    clear f4
    have hmk : ∀ w, (convert 9 22 (.string s)).run Tryd.prog w = .ok (.slice (some ⟨w.heap.size, 0, none⟩) s.size (grownCap w s.size 0 5)) (Lib.bytesWorld w 5 s) := fun w => Hedt.made w s
    go_upto_region 10 with fail
    have HL : Hid (wa.heap.size ≤ w7.heap.size) := BW.out.size
    have HB0 : Hid (Hedt.Buf (Lib.bytesWorld w7 5 s) w7.heap.size s.data.toList) := Hedt.Buf.new _ _
    have BB := Hedt.bytes_below w7 s
    have BW : Hid (Below wa.heap.size wa (Lib.bytesWorld w7 5 s)) := after BW.out BB
    have HN : Hid (HA ≠ w7.heap.size) := by have := H1.out.lt; show _ ≠ _; omega
    have H1 : Hid (Hdr (Lib.bytesWorld w7 5 s) HA t k n sm wh) := H1.out.below BB
    clear i0 i1 i2 i3 i4 r0 r1 r2 r3 r4 H2 BB hmk
    generalize grownCap w7 s.size 0 5 = cp
    generalize Lib.bytesWorld w7 5 s = w9 at HB0 BW H1 ⊢
    generalize w7.heap.size = RB at HB0 HN HL ⊢
    have hl : s.data.toList.length = s.size := rfl
    have k55 : w9.cell? ⟨RB, 55, none⟩ = some (.int .u8 (Sums.byteAt s 55)) := by
      rw [HB0.out.2.1 55 (by omega), Sums.byteAt_in (by omega : 55 < s.size)]
      rfl
    have z55 : w9.frozen? ⟨RB, 55, none⟩ = false := HB0.out.2.2 55 (by omega)
    have HS : Hid (Hedt.Buf (w9.setCell ⟨RB, 55, none⟩ (.int .u8 (bits .xor .u8 (Sums.byteAt s 55) 1))) RB (s.data.toList.set 55 (Fixa.u8 (bits .xor .u8 (Sums.byteAt s 55) 1)))) := HB0.out.set 55 (by omega) _ x0 x1
    have BW : Hid (Below wa.heap.size wa (w9.setCell ⟨RB, 55, none⟩ (.int .u8 (bits .xor .u8 (Sums.byteAt s 55) 1)))) := BW.out.setCell (p := ⟨RB, 55, none⟩) HL.out _
    have H1 : Hid (Hdr (w9.setCell ⟨RB, 55, none⟩ (.int .u8 (bits .xor .u8 (Sums.byteAt s 55) 1))) HA t k n sm wh) := H1.out.other HN.out _
    have cv := HS.out.str s.size cp (by rw [List.length_set]; exact hl)
    have HT : Hid (Hedt.turnB s (bits .xor .u8 (Sums.byteAt s 55) 1) = ⟨(s.data.toList.set 55 (Fixa.u8 (bits .xor .u8 (Sums.byteAt s 55) 1))).toArray⟩) := rfl
    rw [← HT.out] at cv
    clear HT HS
    generalize Hedt.turnB s (bits .xor .u8 (Sums.byteAt s 55) 1) = TS at cv ct
    generalize hX : bits .xor .u8 (Sums.byteAt s 55) 1 = X at x0 x1 x2 cv BW H1
    generalize Sums.byteAt s 55 = b55 at *
    clear hb55 x2 HB0
    go_upto_region 11 with fail
    clear k55 z55
    generalize w9.setCell ⟨RB, 55, none⟩ (.int .u8 X) = wB at cv BW H1 ⊢
    rw [← f1] at a1
    rw [← f2] at a3
    clear f1 f2 hX
    go_wp2_with fail
    refine (ct _).mono ?_
    rintro e wC ⟨rfl, bC⟩
    have BW : Hid (Below wa.heap.size wa wC) := after BW.out bC
    have H1 : Hid (Hdr wC HA t k n sm wh) := H1.out.below bC
    clear bC ct cv
    have H1 : Hid (Hdr (wC.alloc (.cells #[.string ⟨#[]⟩, .int .i64 0, .int .i64 0, .int .i64 0, .int .i64 0] 29)) HA t k n sm wh) := H1.out.alloc _
    have BW : Hid (Below wa.heap.size wa (wC.alloc (.cells #[.string ⟨#[]⟩, .int .i64 0, .int .i64 0, .int .i64 0, .int .i64 0] 29))) := BW.out.alloc BW.out.size _
    unfold noHdr
    go_upto_region 12 with fail
    generalize wC.alloc (.cells #[.string ⟨#[]⟩, .int .i64 0, .int .i64 0, .int .i64 0, .int .i64 0] 29) = wD at BW H1 ⊢
    obtain ⟨i0, i1, i2, i3, i4⟩ := H1.out.cells
-- REGION 12
    refine wp_region_any (by kernel_rfl) ?_
    try (change wpAny _ _ _ _ _ _ _ (World.drew _))
    refine wpAny_take (i := 0) (v := ?vt1) rfl (by kernel_rfl) (by kernel_rfl) (by kernel_rfl) (fun _ _ _ h => h) (Or.inl ⟨by rfl, ?hyt1⟩) ?restt1
    case hyt1 => (intro w; go_simp; try with_reducible rfl)
    refine wpAny_take (i := 2) (v := ?vt2) rfl (by kernel_rfl) (by kernel_rfl) (by kernel_rfl) (fun _ _ _ h => h) (Or.inl ⟨by rfl, ?hyt2⟩) ?restt2
    case hyt2 => (intro w; go_simp; try with_reducible rfl)
    refine wpAny_ready (rs := [1, 3]) (by kernel_rfl) (by simp) ?_
    refine gany_cons rfl (by rfl) (fun K hK => ?_) (gany_cons rfl (by rfl) (fun K hK => ?_) AllReady.nil)
    · go_simp
      refine hK _ _ ?_
      clear hK
      refine wpAny_ready (rs := [3]) (by kernel_rfl) (by simp) ?_
      refine gany_cons rfl (by rfl) (fun K hK => ?_) AllReady.nil
      go_wp2_with fail
      refine (a1 _).mono ?_
      rintro e wk ⟨rfl, bk⟩
      have H1 : Hid (Hdr wk HA t k n sm wh) := H1.out.below (by first | exact bk | exact dw bk)
      have BW : Hid (Below wa.heap.size wa wk) := after BW.out (by first | exact bk | exact dw bk)
      clear bk i0 i1 i2 i3 i4
      obtain ⟨i0, i1, i2, i3, i4⟩ := H1.out.cells
      refine hK _ _ ?_
      clear hK
      refine wpAny_take (i := 4) (v := ?vt3) rfl (by kernel_rfl) (by kernel_rfl) (by kernel_rfl) (fun _ _ _ h => h) (Or.inl ⟨by rfl, ?hyt3⟩) ?restt3
      case hyt3 => (intro w; go_simp; try with_reducible rfl)
      refine wpAny_take (i := 5) (v := ?vt4) rfl (by kernel_rfl) (by kernel_rfl) (by kernel_rfl) (fun _ _ _ h => h) (Or.inl ⟨by rfl, ?hyt4⟩) ?restt4
      case hyt4 => (intro w; go_simp; try with_reducible rfl)
      refine wpAny_take (i := 6) (v := ?vt5) rfl (by kernel_rfl) (by kernel_rfl) (by kernel_rfl) (fun _ _ _ h => h) (Or.inl ⟨by rfl, ?hyt5⟩) ?restt5
      case hyt5 => (intro w; go_simp; try with_reducible rfl)
      refine wpAny_take (i := 8) (v := ?vt6) rfl (by kernel_rfl) (by kernel_rfl) (by kernel_rfl) (fun _ _ _ h => h) (Or.inl ⟨by rfl, ?hyt6⟩) ?restt6
      case hyt6 => (intro w; go_simp; try with_reducible rfl)
      refine wpAny_ready (rs := [7, 9]) (by kernel_rfl) (by simp) ?_
      refine gany_cons rfl (by rfl) (fun K hK => ?_) (gany_cons rfl (by rfl) (fun K hK => ?_) AllReady.nil)
      · go_simp
        refine hK _ _ ?_
        clear hK
        refine wpAny_ready (rs := [9]) (by kernel_rfl) (by simp) ?_
        refine gany_cons rfl (by rfl) (fun K hK => ?_) AllReady.nil
        go_wp2_with fail
        refine (a3 _).mono ?_
        rintro e wk ⟨rfl, bk⟩
        have H1 : Hid (Hdr wk HA t k n sm wh) := H1.out.below (by first | exact bk | exact dw bk)
        have BW : Hid (Below wa.heap.size wa wk) := after BW.out (by first | exact bk | exact dw bk)
        clear bk i0 i1 i2 i3 i4
        obtain ⟨i0, i1, i2, i3, i4⟩ := H1.out.cells
        refine hK _ _ ?_
        clear hK
        refine wpAny_take (i := 10) (v := ?vt7) rfl (by kernel_rfl) (by kernel_rfl) (by kernel_rfl) (fun _ _ _ h => h) (Or.inl ⟨by rfl, ?hyt7⟩) ?restt7
        case hyt7 => (intro w; go_simp; try with_reducible rfl)
        refine wpAny_take (i := 11) (v := ?vt8) rfl (by kernel_rfl) (by kernel_rfl) (by kernel_rfl) (fun _ _ _ h => h) (Or.inl ⟨by rfl, ?hyt8⟩) ?restt8
        case hyt8 => (intro w; go_simp; try with_reducible rfl)
        go_simp
        refine wpAny_take (i := 12) (v := ?vt9) rfl (by kernel_rfl) (by kernel_rfl) (by kernel_rfl) (fun _ _ _ h => h) (Or.inl ⟨by rfl, ?hyt9⟩) ?restt9
        case hyt9 => (intro w; go_simp; try with_reducible rfl)
        refine wpAny_take (i := 13) (v := ?vt10) rfl (by kernel_rfl) (by kernel_rfl) (by kernel_rfl) (fun _ _ _ h => h) (Or.inl ⟨by rfl, ?hyt10⟩) ?restt10
        case hyt10 => (intro w; go_simp; try with_reducible rfl)
        go_simp
        refine wpAny_take (i := 14) (v := ?vt11) rfl (by kernel_rfl) (by kernel_rfl) (by kernel_rfl) (fun _ _ _ h => h) (Or.inl ⟨by rfl, ?hyt11⟩) ?restt11
        case hyt11 => (intro w; go_simp; try with_reducible rfl)
        refine wpAny_take (i := 15) (v := ?vt12) rfl (by kernel_rfl) (by kernel_rfl) (by kernel_rfl) (fun _ _ _ h => h) (Or.inl ⟨by rfl, ?hyt12⟩) ?restt12
        case hyt12 => (intro w; go_simp; try with_reducible rfl)
        go_simp
        refine wpAny_take (i := 16) (v := ?vt13) rfl (by kernel_rfl) (by kernel_rfl) (by kernel_rfl) (fun _ _ _ h => h) (Or.inl ⟨by rfl, ?hyt13⟩) ?restt13
        case hyt13 => (intro w; go_simp; try with_reducible rfl)
        refine wpAny_done (by kernel_rfl) ?_ _
        go_wp2
        go_ret
        exact ⟨rfl, BW.out⟩
      · go_wp2_with fail
        refine (a3 _).mono ?_
        rintro e wk ⟨rfl, bk⟩
        have H1 : Hid (Hdr wk HA t k n sm wh) := H1.out.below (by first | exact bk | exact dw bk)
        have BW : Hid (Below wa.heap.size wa wk) := after BW.out (by first | exact bk | exact dw bk)
        clear bk i0 i1 i2 i3 i4
        obtain ⟨i0, i1, i2, i3, i4⟩ := H1.out.cells
        refine hK _ _ ?_
        clear hK
        refine wpAny_ready (rs := [7]) (by kernel_rfl) (by simp) ?_
        refine gany_cons rfl (by rfl) (fun K hK => ?_) AllReady.nil
        go_simp
        refine hK _ _ ?_
        clear hK
        refine wpAny_take (i := 10) (v := ?vt14) rfl (by kernel_rfl) (by kernel_rfl) (by kernel_rfl) (fun _ _ _ h => h) (Or.inl ⟨by rfl, ?hyt14⟩) ?restt14
        case hyt14 => (intro w; go_simp; try with_reducible rfl)
        refine wpAny_take (i := 11) (v := ?vt15) rfl (by kernel_rfl) (by kernel_rfl) (by kernel_rfl) (fun _ _ _ h => h) (Or.inl ⟨by rfl, ?hyt15⟩) ?restt15
        case hyt15 => (intro w; go_simp; try with_reducible rfl)
        go_simp
        refine wpAny_take (i := 12) (v := ?vt16) rfl (by kernel_rfl) (by kernel_rfl) (by kernel_rfl) (fun _ _ _ h => h) (Or.inl ⟨by rfl, ?hyt16⟩) ?restt16
        case hyt16 => (intro w; go_simp; try with_reducible rfl)
        refine wpAny_take (i := 13) (v := ?vt17) rfl (by kernel_rfl) (by kernel_rfl) (by kernel_rfl) (fun _ _ _ h => h) (Or.inl ⟨by rfl, ?hyt17⟩) ?restt17
        case hyt17 => (intro w; go_simp; try with_reducible rfl)
        go_simp
        refine wpAny_take (i := 14) (v := ?vt18) rfl (by kernel_rfl) (by kernel_rfl) (by kernel_rfl) (fun _ _ _ h => h) (Or.inl ⟨by rfl, ?hyt18⟩) ?restt18
        case hyt18 => (intro w; go_simp; try with_reducible rfl)
        refine wpAny_take (i := 15) (v := ?vt19) rfl (by kernel_rfl) (by kernel_rfl) (by kernel_rfl) (fun _ _ _ h => h) (Or.inl ⟨by rfl, ?hyt19⟩) ?restt19
        case hyt19 => (intro w; go_simp; try with_reducible rfl)
        go_simp
        refine wpAny_take (i := 16) (v := ?vt20) rfl (by kernel_rfl) (by kernel_rfl) (by kernel_rfl) (fun _ _ _ h => h) (Or.inl ⟨by rfl, ?hyt20⟩) ?restt20
        case hyt20 => (intro w; go_simp; try with_reducible rfl)
        refine wpAny_done (by kernel_rfl) ?_ _
        go_wp2
        go_ret
        exact ⟨rfl, BW.out⟩
    · go_wp2_with fail
      refine (a1 _).mono ?_
      rintro e wk ⟨rfl, bk⟩
      have H1 : Hid (Hdr wk HA t k n sm wh) := H1.out.below (by first | exact bk | exact dw bk)
      have BW : Hid (Below wa.heap.size wa wk) := after BW.out (by first | exact bk | exact dw bk)
      clear bk i0 i1 i2 i3 i4
      obtain ⟨i0, i1, i2, i3, i4⟩ := H1.out.cells
      refine hK _ _ ?_
      clear hK
      refine wpAny_ready (rs := [1]) (by kernel_rfl) (by simp) ?_
      refine gany_cons rfl (by rfl) (fun K hK => ?_) AllReady.nil
      go_simp
      refine hK _ _ ?_
      clear hK
      refine wpAny_take (i := 4) (v := ?vt21) rfl (by kernel_rfl) (by kernel_rfl) (by kernel_rfl) (fun _ _ _ h => h) (Or.inl ⟨by rfl, ?hyt21⟩) ?restt21
      case hyt21 => (intro w; go_simp; try with_reducible rfl)
      refine wpAny_take (i := 5) (v := ?vt22) rfl (by kernel_rfl) (by kernel_rfl) (by kernel_rfl) (fun _ _ _ h => h) (Or.inl ⟨by rfl, ?hyt22⟩) ?restt22
      case hyt22 => (intro w; go_simp; try with_reducible rfl)
      refine wpAny_take (i := 6) (v := ?vt23) rfl (by kernel_rfl) (by kernel_rfl) (by kernel_rfl) (fun _ _ _ h => h) (Or.inl ⟨by rfl, ?hyt23⟩) ?restt23
      case hyt23 => (intro w; go_simp; try with_reducible rfl)
      refine wpAny_take (i := 8) (v := ?vt24) rfl (by kernel_rfl) (by kernel_rfl) (by kernel_rfl) (fun _ _ _ h => h) (Or.inl ⟨by rfl, ?hyt24⟩) ?restt24
      case hyt24 => (intro w; go_simp; try with_reducible rfl)
      refine wpAny_ready (rs := [7, 9]) (by kernel_rfl) (by simp) ?_
      refine gany_cons rfl (by rfl) (fun K hK => ?_) (gany_cons rfl (by rfl) (fun K hK => ?_) AllReady.nil)
      · go_simp
        refine hK _ _ ?_
        clear hK
        refine wpAny_ready (rs := [9]) (by kernel_rfl) (by simp) ?_
        refine gany_cons rfl (by rfl) (fun K hK => ?_) AllReady.nil
        go_wp2_with fail
        refine (a3 _).mono ?_
        rintro e wk ⟨rfl, bk⟩
        have H1 : Hid (Hdr wk HA t k n sm wh) := H1.out.below (by first | exact bk | exact dw bk)
        have BW : Hid (Below wa.heap.size wa wk) := after BW.out (by first | exact bk | exact dw bk)
        clear bk i0 i1 i2 i3 i4
        obtain ⟨i0, i1, i2, i3, i4⟩ := H1.out.cells
        refine hK _ _ ?_
        clear hK
        refine wpAny_take (i := 10) (v := ?vt25) rfl (by kernel_rfl) (by kernel_rfl) (by kernel_rfl) (fun _ _ _ h => h) (Or.inl ⟨by rfl, ?hyt25⟩) ?restt25
        case hyt25 => (intro w; go_simp; try with_reducible rfl)
        refine wpAny_take (i := 11) (v := ?vt26) rfl (by kernel_rfl) (by kernel_rfl) (by kernel_rfl) (fun _ _ _ h => h) (Or.inl ⟨by rfl, ?hyt26⟩) ?restt26
        case hyt26 => (intro w; go_simp; try with_reducible rfl)
        go_simp
        refine wpAny_take (i := 12) (v := ?vt27) rfl (by kernel_rfl) (by kernel_rfl) (by kernel_rfl) (fun _ _ _ h => h) (Or.inl ⟨by rfl, ?hyt27⟩) ?restt27
        case hyt27 => (intro w; go_simp; try with_reducible rfl)
        refine wpAny_take (i := 13) (v := ?vt28) rfl (by kernel_rfl) (by kernel_rfl) (by kernel_rfl) (fun _ _ _ h => h) (Or.inl ⟨by rfl, ?hyt28⟩) ?restt28
        case hyt28 => (intro w; go_simp; try with_reducible rfl)
        go_simp
        refine wpAny_take (i := 14) (v := ?vt29) rfl (by kernel_rfl) (by kernel_rfl) (by kernel_rfl) (fun _ _ _ h => h) (Or.inl ⟨by rfl, ?hyt29⟩) ?restt29
        case hyt29 => (intro w; go_simp; try with_reducible rfl)
        refine wpAny_take (i := 15) (v := ?vt30) rfl (by kernel_rfl) (by kernel_rfl) (by kernel_rfl) (fun _ _ _ h => h) (Or.inl ⟨by rfl, ?hyt30⟩) ?restt30
        case hyt30 => (intro w; go_simp; try with_reducible rfl)
        go_simp
        refine wpAny_take (i := 16) (v := ?vt31) rfl (by kernel_rfl) (by kernel_rfl) (by kernel_rfl) (fun _ _ _ h => h) (Or.inl ⟨by rfl, ?hyt31⟩) ?restt31
        case hyt31 => (intro w; go_simp; try with_reducible rfl)
        refine wpAny_done (by kernel_rfl) ?_ _
        go_wp2
        go_ret
        exact ⟨rfl, BW.out⟩
      · go_wp2_with fail
        refine (a3 _).mono ?_
        rintro e wk ⟨rfl, bk⟩
        have H1 : Hid (Hdr wk HA t k n sm wh) := H1.out.below (by first | exact bk | exact dw bk)
        have BW : Hid (Below wa.heap.size wa wk) := after BW.out (by first | exact bk | exact dw bk)
        clear bk i0 i1 i2 i3 i4
        obtain ⟨i0, i1, i2, i3, i4⟩ := H1.out.cells
        refine hK _ _ ?_
        clear hK
        refine wpAny_ready (rs := [7]) (by kernel_rfl) (by simp) ?_
        refine gany_cons rfl (by rfl) (fun K hK => ?_) AllReady.nil
        go_simp
        refine hK _ _ ?_
        clear hK
        refine wpAny_take (i := 10) (v := ?vt32) rfl (by kernel_rfl) (by kernel_rfl) (by kernel_rfl) (fun _ _ _ h => h) (Or.inl ⟨by rfl, ?hyt32⟩) ?restt32
        case hyt32 => (intro w; go_simp; try with_reducible rfl)
        refine wpAny_take (i := 11) (v := ?vt33) rfl (by kernel_rfl) (by kernel_rfl) (by kernel_rfl) (fun _ _ _ h => h) (Or.inl ⟨by rfl, ?hyt33⟩) ?restt33
        case hyt33 => (intro w; go_simp; try with_reducible rfl)
        go_simp
        refine wpAny_take (i := 12) (v := ?vt34) rfl (by kernel_rfl) (by kernel_rfl) (by kernel_rfl) (fun _ _ _ h => h) (Or.inl ⟨by rfl, ?hyt34⟩) ?restt34
        case hyt34 => (intro w; go_simp; try with_reducible rfl)
        refine wpAny_take (i := 13) (v := ?vt35) rfl (by kernel_rfl) (by kernel_rfl) (by kernel_rfl) (fun _ _ _ h => h) (Or.inl ⟨by rfl, ?hyt35⟩) ?restt35
        case hyt35 => (intro w; go_simp; try with_reducible rfl)
        go_simp
        refine wpAny_take (i := 14) (v := ?vt36) rfl (by kernel_rfl) (by kernel_rfl) (by kernel_rfl) (fun _ _ _ h => h) (Or.inl ⟨by rfl, ?hyt36⟩) ?restt36
        case hyt36 => (intro w; go_simp; try with_reducible rfl)
        refine wpAny_take (i := 15) (v := ?vt37) rfl (by kernel_rfl) (by kernel_rfl) (by kernel_rfl) (fun _ _ _ h => h) (Or.inl ⟨by rfl, ?hyt37⟩) ?restt37
        case hyt37 => (intro w; go_simp; try with_reducible rfl)
        go_simp
        refine wpAny_take (i := 16) (v := ?vt38) rfl (by kernel_rfl) (by kernel_rfl) (by kernel_rfl) (fun _ _ _ h => h) (Or.inl ⟨by rfl, ?hyt38⟩) ?restt38
        case hyt38 => (intro w; go_simp; try with_reducible rfl)
        refine wpAny_done (by kernel_rfl) ?_ _
        go_wp2
        go_ret
        exact ⟨rfl, BW.out⟩

set_option maxRecDepth 100000 in
theorem contract (H : Type) (enc : TypeId × Value → H) (W : World) (base : Nat) (args : Array Value) (ds gs : List (DataW H)) (before : List MemPlace)
    (hval : ∀ (j : Nat) t v, Tryd.f4.params[j]? = some t → args[j]? = some v → Value.okWide Tryd.prog W .any base t v)
    (hW : DataW.Whole enc Tryd.prog Tryd.f4.params.toList Rows.fnHeadersSpec.vars false W args.toList ds gs before) (hL : laidMetH Tryd.prog Rows.fnHeadersRow.laid W) :
    Calls Tryd.prog 4 args W fun e W' => ∃ v, e = .returned v ∧ Rows.fnHeadersSpec.post enc Tryd.prog Tryd.f4 false true false false W args v W' := by
  have hW' := hW
  obtain ⟨p, q, hA0, hV, hbef, hfz, hnd⟩ := hW
  have hA : DataW.TrodAll enc Tryd.prog W 0 (fun _ => true) true Tryd.f4.params.toList args.toList ds p := hA0
  rw [Tryd.params4] at hA hval
  obtain ⟨v0, vs0, d0, ds0, p0, q0, hargs, rfl, rfl, h0, r0⟩ := trodAll_cons hA
  obtain ⟨rfl, rfl, rfl⟩ := trodAll_nil r0
  obtain rfl : args = #[v0] := by cases args; simp_all
  obtain ⟨rfl, rfl⟩ := trodVars_none hV
  obtain ⟨a0, len0, cap0, rfl⟩ := okWide_slice Tryd.underlying22 (hval 0 22 v0 rfl rfl)
  have k0 := h0
  have lt0 : ∀ x ∈ p0, x.block < W.heap.size := by obtain ⟨m, hm⟩ := k0; exact DataW.trod_lt m _ _ _ hm
  obtain ⟨z0, w0⟩ : ∃ zs, IsRow .u8 W a0 len0 cap0 zs := by
    obtain ⟨fuel, hf⟩ := h0
    rcases open_ints Tryd.underlying22 Tryd.underlying5 (by kernel_rfl) hf with ⟨hcs, _⟩ | ⟨x, l, c, zs, hcs, _, hl, hm, hz, _, hcell, hwz⟩
    · simp [Value.cells] at hcs
      obtain ⟨rfl, rfl, rfl⟩ := hcs
      exact ⟨[], .inl ⟨rfl, rfl, rfl, rfl⟩⟩
    · simp [Value.cells] at hcs
      obtain ⟨rfl, rfl, rfl⟩ := hcs
      exact ⟨zs, .inr ⟨_, rfl, hl, hm, by simpa using hz, hcell, hwz⟩⟩
  clear hA0
  refine (walk W a0 len0 cap0 z0 w0).mono fun e W' ⟨he, bel⟩ => ?_
  subst he
  exact ⟨_, rfl, _, _, _, [], _, [], hW', trodAll_mk1 (shut_bool Tryd.underlying4 _), (trodAll_cons_mk (Below.trod laidOut (by kernel_rfl) (of_decide_eq_true (by kernel_rfl)) k0 bel lt0) trodAll_mk0), rfl, bel.frame _, fun h => by cases h⟩

/-- A world for the witness: the settled one, the table holding what its initialiser lays. -/
noncomputable def laidWorld (os : Os) : World :=
  { World.holding Tryd.prog os ⟨#[], #[], []⟩ with heap := (fun h => h.modify 1 fun | .cells _ t frozen => .cells #[.int .u8 128, .int .u8 191, .int .u8 160, .int .u8 191, .int .u8 128, .int .u8 159, .int .u8 144, .int .u8 191, .int .u8 128, .int .u8 143, .int .u8 0, .int .u8 0, .int .u8 0, .int .u8 0, .int .u8 0, .int .u8 0, .int .u8 0, .int .u8 0, .int .u8 0, .int .u8 0, .int .u8 0, .int .u8 0, .int .u8 0, .int .u8 0, .int .u8 0, .int .u8 0, .int .u8 0, .int .u8 0, .int .u8 0, .int .u8 0, .int .u8 0, .int .u8 0] t frozen | o => o) <| (fun h => h.modify 0 fun | .cells _ t frozen => .cells ((Go.Pinned.utf8FirstZ).map fun n => Value.int .u8 (n : Nat)).toArray t frozen | o => o) <| (World.holding Tryd.prog os ⟨#[], #[], []⟩).heap }
theorem laid_met (os : Os) : laidMet Tryd.prog Rows.fnHeadersRow.laid ((laidWorld os).forCall (fun _ _ => 0) ⟨#[], #[.slice none 0 0], []⟩).memory :=
  laidMet_of_run' 8 (by kernel_rfl) (by kernel_rfl)
theorem reads (os : Os) {H : Type} (enc : TypeId × Value → H) : ∃ places, DataW.whole enc Tryd.prog ((laidWorld os).forCall (fun _ _ => 0) ⟨#[], #[.slice none 0 0], []⟩).memory Tryd.f4.params.toList Rows.fnHeadersSpec.vars false [.slice none 0 0] 8 = some ([.nil], [], places) :=
  ⟨[], by kernel_rfl⟩

set_option maxRecDepth 100000 in
theorem lifted (os : Os) (started : os.Started) (H : Type) (enc : TypeId × Value → H) (F : Stop.Interp) :
    ReturnsInHanded {} Tryd.checked os 4 .any ((OpenSpec.ofChange Rows.fnHeadersSpec).preRow enc Tryd.prog Tryd.f4 Rows.fnHeadersRow.domain false Rows.fnHeadersRow.laid) (((OpenSpec.ofChange Rows.fnHeadersSpec).at F).post enc Tryd.prog Tryd.f4 false true false false) := by
  obtain ⟨places, hx⟩ := reads os enc
  refine returnsInHanded_of_row (C := Tryd.checked) (s := OpenSpec.ofChange Rows.fnHeadersSpec) own started (by kernel_rfl) Tryd.func4
    (witness_row_at (enc := enc) (C := Tryd.checked) false (laidWorld os) #[.slice none 0 0] rfl (by kernel_rfl) (by kernel_rfl) (by kernel_rfl)
      (OpenSpec.preRow_of_cond 8 hx (by kernel_rfl) (fun k hk => by cases hk) (by kernel_rfl) (laid_met os))) ?_
  intro W base args ds gs before hval hW _ _ _ hL _ _
  exact contract H enc W base args ds gs before hval hW hL

theorem said : Rows.FnHeadersSaid :=
  OpenClaim.holds_of_cond 4 Tryd.f4 rfl rfl rfl rfl rfl rfl rfl ⟨rfl, rfl, rfl, rfl, rfl⟩ rfl rfl rfl rfl rfl (by kernel_rfl) Tryd.func4 (by kernel_rfl)
    (of_decide_eq_true (by kernel_rfl)) (by unfold Func.isWrapper; first | (rw [if_pos (by decide +kernel)]; kernel_rfl) | (rw [if_neg (by decide +kernel)]; exact ⟨rfl, rfl⟩))
    (fun os started H enc _ F => by rw [OpenClaim.pre_eq_preRow]; exact lifted os started H enc F)

theorem plain (f : FuncId) (fn : Func) (hf : Tryd.pinned.checked.prog.funcNamed "loop.example/g00460/laws.FnHeaders" = some f) (hfn : Tryd.pinned.checked.prog.funcs[f]? = some fn) :
    false = Tryd.pinned.checked.prog.looks [] ∧ ∀ (j : Nat) t, fn.params[j]? = some t → Tryd.pinned.checked.prog.wantsStandIn t = false := by
  obtain rfl : f = 4 := Option.some.inj ((show Tryd.prog.funcNamed "loop.example/g00460/laws.FnHeaders" = some 4 by kernel_rfl).symm.trans hf) |>.symm
  obtain rfl : fn = Tryd.f4 := (Option.some.inj (Tryd.func4.symm.trans hfn)).symm
  refine ⟨by kernel_rfl, fun j t ht => ?_⟩
  rw [Tryd.params4] at ht
  have h : t = 22 := by simpa using Array.mem_of_getElem? ht
  subst h
  exact (show Tryd.prog.wantsStandIn 22 = false by kernel_rfl)

theorem card : Rows.FnHeadersCardSaid :=
  Claim7.holds_tied_plain_at .later [] _ _ _ _ said (fun _ h => by cases h) (by kernel_rfl) (fun _ h => by cases h) fnHeaders_row_tie rfl ⟨rfl, rfl⟩ (by kernel_rfl) rfl plain (by kernel_rfl)
end Go.Proofs.YtpnaohonadoofaaDoor.fnHeaders
namespace Go.Proofs.YtpnaohonadoofaaDoor
theorem fnHeaders_holds : Rows.FnHeadersCardSaid := fnHeaders.card
end Go.Proofs.YtpnaohonadoofaaDoor
