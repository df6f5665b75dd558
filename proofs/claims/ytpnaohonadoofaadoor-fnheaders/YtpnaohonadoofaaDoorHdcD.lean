/-
  A contract of ours for impl.HeaderOf, at every argument.
-/
import Derived.Test.YtpnaohonadoofaaDoorHeda
import Derived.Deep.Cut
import Derived.Deep.DeepCutAuto
import Derived.Deep.RegionHeld3
import Derived.Laws.ResultCell
namespace Go.Proofs.YtpnaohonadoofaaDoor.HdcD
open Go.ChangeShapes Go.WideShapes Go.ChangeAt Go.RowKit
open Signed (inB ret_int ret_bool l1In_any)
open Sums Titl Heda
set_option linter.unusedVariables false
set_option linter.unusedSimpArgs false
set_option maxRecDepth 20000

theorem gany_cons {P : Program} {ops : Array Oper} {Q : Exit → Act → World → Prop} {md : Region.Mode} {fuel : Nat} {listed : Array Bool} {a : Act} {w : World} {i : Nat} {o : Oper} {rs : List Nat} (ho : ops[i]? = some o) (hg : Region.wanted o (yielded ops a.tmps) = true)
    (h : ∀ K' : Act → World → Prop, (∀ a w, wpAny P md ops Q fuel (listed.setIfInBounds i true) a w → K' a w) → Oper.wp P o a w K' Q) (hs : AllReady P md ops Q fuel listed a w rs) : AllReady P md ops Q fuel listed a w (i :: rs) :=
  AllReady.cons ho (fun K hK => by simp only [hg, if_true]; exact h K hK) hs
theorem gany_skip {P : Program} {ops : Array Oper} {Q : Exit → Act → World → Prop} {md : Region.Mode} {fuel : Nat} {listed : Array Bool} {a : Act} {w : World} {i : Nat} {o : Oper} {rs : List Nat} (ho : ops[i]? = some o) (hg : Region.wanted o (yielded ops a.tmps) = false)
    (h : wpAny P md ops Q fuel (listed.setIfInBounds i true) (a.put o.dst undef) w) (hs : AllReady P md ops Q fuel listed a w rs) : AllReady P md ops Q fuel listed a w (i :: rs) :=
  AllReady.cons ho (fun K hK => by simp only [hg, Bool.false_eq_true, if_false]; exact hK _ _ h) hs
theorem dw {a b : World} (h : Below a.drew.heap.size a.drew b) : Below a.heap.size a b := ((Below.refl a.heap.size a).drew).trans h
set_option maxHeartbeats 8000000 in
theorem implHdr_D (rom : ByteArray) (w : World) (hb : romB rom.size = true) (hs : rom.size ≤ maxLen) (q1 : Hid (titleB (titleS rom) = true)) (q2 : Hid (byteAt rom 71 ≤ 2)) (q3 : Hid (byteAt rom 72 = codeV (banks rom.size))) (q4 : Hid (¬ byteAt rom 77 = headV rom)) :
    Calls Tryd.prog 9 #[.string rom] w fun e w' => e = outH rom ∧ Below w.heap.size w w' := by
  obtain ⟨h0, h1, h2, h3, h4, h5⟩ := banks_yes hb
  have cr := fun w => romOk_any rom w hs
  rw [hb] at cr
  have cb := fun w => banksOf_any rom w hs
  rw [← h5] at cb
  have ctr := fun w => Tryd.strings_TrimRight_one (rom.extract 52 67) 0 (by decide) w (by simp; omega)
  have x71 : ∀ w, (Instr.index 9 (.string rom) (.int .i64 71)).run Tryd.prog w = .ok (.int .u8 (byteAt rom 71)) w := index_at rom 71 (by omega)
  have x77 : ∀ w, (Instr.index 9 (.string rom) (.int .i64 77)).run Tryd.prog w = .ok (.int .u8 (byteAt rom 77)) w := index_at rom 77 (by omega)
  have x78 : ∀ w, (Instr.index 9 (.string rom) (.int .i64 78)).run Tryd.prog w = .ok (.int .u8 (byteAt rom 78)) w := index_at rom 78 (by omega)
  have x79 : ∀ w, (Instr.index 9 (.string rom) (.int .i64 79)).run Tryd.prog w = .ok (.int .u8 (byteAt rom 79)) w := index_at rom 79 (by omega)
  have x72 : ∀ w, (Instr.index 9 (.string rom) (.int .i64 72)).run Tryd.prog w = .ok (.int .u8 (byteAt rom 72)) w := index_at rom 72 (by omega)
  obtain ⟨a71, b71⟩ := byteAt_bd rom 71
  obtain ⟨a72, b72⟩ := byteAt_bd rom 72
  obtain ⟨a77, b77⟩ := byteAt_bd rom 77
  obtain ⟨a78, b78⟩ := byteAt_bd rom 78
  obtain ⟨a79, b79⟩ := byteAt_bd rom 79
  have sl : ∀ w, (Instr.slice 9 (.string rom) (some (.int .i64 52)) (some (.int .i64 67)) none).run Tryd.prog w = .ok (.string (rom.extract 52 67)) w := fun w => slice_string rom 52 67 (by omega) (by omega) w
  have HO : Hid (outH rom = .returned (.tuple #[if okH (titleB (titleS rom)) (byteAt rom 71) (byteAt rom 72) (codeV (banks rom.size)) (byteAt rom 77) (headV rom) (byteAt rom 78 * 256 + byteAt rom 79) (wholeV rom) = true then .agg #[.string (titleS rom), .int .i64 (byteAt rom 71), .int .i64 (banks rom.size), .int .i64 (byteAt rom 77), .int .i64 (byteAt rom 78 * 256 + byteAt rom 79)] else noHdr, .bool (okH (titleB (titleS rom)) (byteAt rom 71) (byteAt rom 72) (codeV (banks rom.size)) (byteAt rom 77) (headV rom) (byteAt rom 78 * 256 + byteAt rom 79) (wholeV rom))])) := by
    show _ = _
    unfold outH hdrB hdrV okH
    rw [hb, Bool.true_and]
  have ct := fun w => isTitle_any (titleS rom) w (by have := titleS_le rom h3; unfold maxLen; omega)
  have ck := fun w => isCartKind_any (byteAt rom 71) w
  have cd := fun w => doubled_any (byteAt rom 72) w a72 b72 (banks rom.size) h0 h1
  have dn := doubled_ne (byteAt rom 72) (banks rom.size) a72 b72 h0 h1
  have ch := fun w => implHead_any rom w hs
  have cw := fun w => implWhole_any rom w hs
  have HE : Hid (titleS rom = ⟨(Lib.trimRightB (rom.extract 52 67).data.toList 0).toArray⟩) := rfl
  have ho := or8 (byteAt rom 78) (byteAt rom 79) a78 b78 a79 b79
  generalize byteAt rom 71 = kd at *
  generalize byteAt rom 72 = sz at *
  generalize byteAt rom 77 = sm at *
  generalize byteAt rom 78 = wh at *
  generalize byteAt rom 79 = wl at *
  have c1 : IntKind.i64.wrap (wh * 256) = wh * 256 := by rw [IntKind.wrap_i64]; omega
  have c3 : IntKind.i64.wrap kd = kd := by rw [IntKind.wrap_i64]; omega
  have c4 : IntKind.i64.wrap sm = sm := by rw [IntKind.wrap_i64]; omega
  have c5 : IntKind.i64.wrap wh = wh := by rw [IntKind.wrap_i64]; omega
  have c6 : IntKind.i64.wrap wl = wl := by rw [IntKind.wrap_i64]; omega
  have c7 : IntKind.i64.wrap sz = sz := by rw [IntKind.wrap_i64]; omega
  clear h2 h5 h3 h4 hs hb
  rw [← HE.out] at ctr
  generalize wrap64 (2 * 2 ^ min sz.toNat 64) = dv at *
  generalize codeV (banks rom.size) = cv at *
  generalize banks rom.size = n at *
  generalize headV rom = hv at *
  generalize wholeV rom = wv at *
  generalize titleB (titleS rom) = tb at *
  generalize titleS rom = TT at *
  generalize rom.extract 52 67 = E at *
  go_enter Tryd.func9, Tryd.ntmps9
  go_upto_region 3 with (first | (go_at_call 31; refine (cr _).mono ?_; rintro e w' ⟨rfl, hw⟩; have hw := hw.symm; subst hw) | fail)
  have HZ : Hid (Hdr (w.alloc (.cells #[.string ⟨#[]⟩, .int .i64 0, .int .i64 0, .int .i64 0, .int .i64 0] 29)) w.heap.size ⟨#[]⟩ 0 0 0 0) := Hdr.new _ _ _ _ _ _
  have B0 : Hid (Below w.heap.size w (w.alloc (.cells #[.string ⟨#[]⟩, .int .i64 0, .int .i64 0, .int .i64 0, .int .i64 0] 29))) := (Below.refl _ _).alloc (Nat.le_refl _) _
  go_cut [4] (fun v wx => v = .pointer (some ⟨w.heap.size + 1, 0, none⟩) ∧ Hid (Hdr wx w.heap.size ⟨#[]⟩ 0 0 0 0) ∧ Hid (Hdr wx (w.heap.size + 1) TT kd n sm (wh * 256 + wl)) ∧ Hid (Below w.heap.size w wx))
  case first =>
    refine wp_region_any (by kernel_rfl) ?_
    try (change wpAny _ _ _ _ _ _ _ (World.drew _))
    refine wpAny_take (i := 0) (v := ?v0) rfl (by kernel_rfl) (by kernel_rfl) (by kernel_rfl) (fun _ _ _ h => h) (Or.inl ⟨by rfl, ?hy0⟩) ?rest0
    case hy0 => (intro w; go_simp; try with_reducible rfl)
    refine wpAny_take (i := 1) (v := ?v1) rfl (by kernel_rfl) (by kernel_rfl) (by kernel_rfl) (fun _ _ _ h => h) (Or.inl ⟨by rfl, ?hy1⟩) ?rest1
    case hy1 => (intro w; go_simp; try with_reducible rfl)
    refine wpAny_take (i := 3) (v := ?v3) rfl (by kernel_rfl) (by kernel_rfl) (by kernel_rfl) (fun _ _ _ h => h) (Or.inl ⟨by rfl, ?hy3⟩) ?rest3
    case hy3 => (intro w; go_simp; try with_reducible rfl)
    refine wpAny_take (i := 4) (v := ?v4) rfl (by kernel_rfl) (by kernel_rfl) (by kernel_rfl) (fun _ _ _ h => h) (Or.inl ⟨by rfl, ?hy4⟩) ?rest4
    case hy4 => (intro w; go_simp; try with_reducible rfl)
    refine wpAny_take (i := 5) (v := ?v5) rfl (by kernel_rfl) (by kernel_rfl) (by kernel_rfl) (fun _ _ _ h => h) (Or.inl ⟨by rfl, ?hy5⟩) ?rest5
    case hy5 => (intro w; go_simp; try with_reducible rfl)
    refine wpAny_take (i := 6) (v := ?v6) rfl (by kernel_rfl) (by kernel_rfl) (by kernel_rfl) (fun _ _ _ h => h) (Or.inl ⟨by rfl, ?hy6⟩) ?rest6
    case hy6 => (intro w; go_simp; try with_reducible rfl)
    refine wpAny_take (i := 8) (v := ?v8) rfl (by kernel_rfl) (by kernel_rfl) (by kernel_rfl) (fun _ _ _ h => h) (Or.inl ⟨by rfl, ?hy8⟩) ?rest8
    case hy8 => (intro w; go_simp; try with_reducible rfl)
    refine wpAny_take (i := 9) (v := ?v9) rfl (by kernel_rfl) (by kernel_rfl) (by kernel_rfl) (fun _ _ _ h => h) (Or.inl ⟨by rfl, ?hy9⟩) ?rest9
    case hy9 => (intro w; go_simp; try with_reducible rfl)
    refine wpAny_take (i := 10) (v := ?v10) rfl (by kernel_rfl) (by kernel_rfl) (by kernel_rfl) (fun _ _ _ h => h) (Or.inl ⟨by rfl, ?hy10⟩) ?rest10
    case hy10 => (intro w; go_simp; try with_reducible rfl)
    refine wpAny_take (i := 11) (v := ?v11) rfl (by kernel_rfl) (by kernel_rfl) (by kernel_rfl) (fun _ _ _ h => h) (Or.inl ⟨by rfl, ?hy11⟩) ?rest11
    case hy11 => (intro w; go_simp; try with_reducible rfl)
    refine wpAny_take (i := 12) (v := ?v12) rfl (by kernel_rfl) (by kernel_rfl) (by kernel_rfl) (fun _ _ _ h => h) (Or.inl ⟨by rfl, ?hy12⟩) ?rest12
    case hy12 => (intro w; go_simp; try with_reducible rfl)
    refine wpAny_take (i := 13) (v := ?v13) rfl (by kernel_rfl) (by kernel_rfl) (by kernel_rfl) (fun _ _ _ h => h) (Or.inl ⟨by rfl, ?hy13⟩) ?rest13
    case hy13 => (intro w; go_simp; try with_reducible rfl)
    refine wpAny_take (i := 14) (v := ?v14) rfl (by kernel_rfl) (by kernel_rfl) (by kernel_rfl) (fun _ _ _ h => h) (Or.inl ⟨by rfl, ?hy14⟩) ?rest14
    case hy14 => (intro w; go_simp; try with_reducible rfl)
    refine wpAny_take (i := 15) (v := ?v15) rfl (by kernel_rfl) (by kernel_rfl) (by kernel_rfl) (fun _ _ _ h => h) (Or.inl ⟨by rfl, ?hy15⟩) ?rest15
    case hy15 => (intro w; go_simp; try with_reducible rfl)
    refine wpAny_take (i := 16) (v := ?v16) rfl (by kernel_rfl) (by kernel_rfl) (by kernel_rfl) (fun _ _ _ h => h) (Or.inl ⟨by rfl, ?hy16⟩) ?rest16
    case hy16 => (intro w; go_simp; try with_reducible rfl)
    refine wpAny_take (i := 17) (v := ?v17) rfl (by kernel_rfl) (by kernel_rfl) (by kernel_rfl) (fun _ _ _ h => h) (Or.inl ⟨by rfl, ?hy17⟩) ?rest17
    case hy17 => (intro w; go_simp; try with_reducible rfl)
    refine wpAny_take (i := 18) (v := ?v18) rfl (by kernel_rfl) (by kernel_rfl) (by kernel_rfl) (fun _ _ _ h => h) (Or.inl ⟨by rfl, ?hy18⟩) ?rest18
    case hy18 => (intro w; go_simp; try with_reducible rfl)
    refine wpAny_ready (rs := [2, 20]) (by kernel_rfl) (by simp) ?_
    refine any_cons rfl rfl (fun K hK => ?_) (any_cons rfl rfl (fun K hK => ?_) AllReady.nil)
    · go_wp2_with fail
      refine (ctr _).mono ?_
      rintro e wk ⟨rfl, hw⟩
      have hw := hw.symm
      subst hw
      refine hK _ _ ?_
      clear hK
      refine wpAny_ready (rs := [7, 20]) (by kernel_rfl) (by simp) ?_
      refine any_cons rfl rfl (fun K hK => ?_) (any_cons rfl rfl (fun K hK => ?_) AllReady.nil)
      · go_wp2_with fail
        refine (cb _).mono ?_
        rintro e wk ⟨rfl, hw⟩
        have hw := hw.symm
        subst hw
        refine hK _ _ ?_
        clear hK
        refine wpAny_take (i := 19) (v := ?v19t1) rfl (by kernel_rfl) (by kernel_rfl) (by kernel_rfl) (fun _ _ _ h => h) (Or.inl ⟨by rfl, ?hy19t1⟩) ?rest19t1
        case hy19t1 => (intro w; go_simp; try with_reducible rfl)
        refine wpAny_ready (rs := [20]) (by kernel_rfl) (by simp) ?_
        refine any_cons rfl rfl (fun K hK => ?_) AllReady.nil
        go_simp
        refine hK _ _ ?_
        clear hK
        refine wpAny_ready (rs := [21]) (by kernel_rfl) (by simp) ?_
        refine any_cons rfl rfl (fun K hK => ?_) AllReady.nil
        go_simp
        refine hK _ _ ?_
        clear hK
        refine wpAny_done (by kernel_rfl) ?_ _
        go_wp2_with fail
        go_meet
        exact ⟨rfl, HZ.out.alloc _, by have := Hdr.new (w.alloc (.cells #[.string ⟨#[]⟩, .int .i64 0, .int .i64 0, .int .i64 0, .int .i64 0] 29)) TT kd n sm (wh * 256 + wl); rw [World.size_alloc] at this; exact this, (B0.out.alloc B0.out.size _).drew⟩
      · go_simp
        refine hK _ _ ?_
        clear hK
        refine wpAny_ready (rs := [7]) (by kernel_rfl) (by simp) ?_
        refine any_cons rfl rfl (fun K hK => ?_) AllReady.nil
        go_wp2_with fail
        refine (cb _).mono ?_
        rintro e wk ⟨rfl, hw⟩
        have hw := hw.symm
        subst hw
        refine hK _ _ ?_
        clear hK
        refine wpAny_take (i := 19) (v := ?v19t2) rfl (by kernel_rfl) (by kernel_rfl) (by kernel_rfl) (fun _ _ _ h => h) (Or.inl ⟨by rfl, ?hy19t2⟩) ?rest19t2
        case hy19t2 => (intro w; go_simp; try with_reducible rfl)
        refine wpAny_ready (rs := [21]) (by kernel_rfl) (by simp) ?_
        refine any_cons rfl rfl (fun K hK => ?_) AllReady.nil
        go_simp
        refine hK _ _ ?_
        clear hK
        refine wpAny_done (by kernel_rfl) ?_ _
        go_wp2_with fail
        go_meet
        exact ⟨rfl, HZ.out.alloc _, by have := Hdr.new (w.alloc (.cells #[.string ⟨#[]⟩, .int .i64 0, .int .i64 0, .int .i64 0, .int .i64 0] 29)) TT kd n sm (wh * 256 + wl); rw [World.size_alloc] at this; exact this, (B0.out.alloc B0.out.size _).drew⟩
    · go_simp
      refine hK _ _ ?_
      clear hK
      refine wpAny_ready (rs := [2]) (by kernel_rfl) (by simp) ?_
      refine any_cons rfl rfl (fun K hK => ?_) AllReady.nil
      go_wp2_with fail
      refine (ctr _).mono ?_
      rintro e wk ⟨rfl, hw⟩
      have hw := hw.symm
      subst hw
      refine hK _ _ ?_
      clear hK
      refine wpAny_ready (rs := [7]) (by kernel_rfl) (by simp) ?_
      refine any_cons rfl rfl (fun K hK => ?_) AllReady.nil
      go_wp2_with fail
      refine (cb _).mono ?_
      rintro e wk ⟨rfl, hw⟩
      have hw := hw.symm
      subst hw
      refine hK _ _ ?_
      clear hK
      refine wpAny_take (i := 19) (v := ?v19t3) rfl (by kernel_rfl) (by kernel_rfl) (by kernel_rfl) (fun _ _ _ h => h) (Or.inl ⟨by rfl, ?hy19t3⟩) ?rest19t3
      case hy19t3 => (intro w; go_simp; try with_reducible rfl)
      refine wpAny_ready (rs := [21]) (by kernel_rfl) (by simp) ?_
      refine any_cons rfl rfl (fun K hK => ?_) AllReady.nil
      go_simp
      refine hK _ _ ?_
      clear hK
      refine wpAny_done (by kernel_rfl) ?_ _
      go_wp2_with fail
      go_meet
      exact ⟨rfl, HZ.out.alloc _, by have := Hdr.new (w.alloc (.cells #[.string ⟨#[]⟩, .int .i64 0, .int .i64 0, .int .i64 0, .int .i64 0] 29)) TT kd n sm (wh * 256 + wl); rw [World.size_alloc] at this; exact this, (B0.out.alloc B0.out.size _).drew⟩
  case rest =>
  obtain ⟨rfl, H1, H2, BW⟩ := hcut
  clear HZ B0 x71 x77 x78 x79 cr ctr cb HE sl
  rename World => wz
  obtain ⟨i0, i1, i2, i3, i4⟩ := H2.out.cells
  obtain ⟨r0, r1, r2, r3, r4⟩ := H1.out.cells
  have rf0 := H1.out.free 0
  have rf1 := H1.out.free 1
  have rf2 := H1.out.free 2
  have rf3 := H1.out.free 3
  have rf4 := H1.out.free 4
  have q1 := q1.out
  subst q1
  have d2 := q2.out
  have d2b : inB kd 0 2 = true := decide_eq_true (by omega)
  rw [d2b] at ck
  have d3 := q3.out
  have d3d : (dv != n) = false := by rw [dn]; simpa using d3
  have D3 : Hid (sz = cv) := d3
  clear dn d3
  go_wp2_with fail
  go_quiet ((first | (go_at_call 22; exact Calls.quiet_of_same (ct _)) | (go_at_call 23; exact Calls.quiet_of_same (ck _)) | (go_at_call 26; exact Calls.quiet_of_same (cd _))))
  go_upto_region 6 with fail
  have H1 : Hid (Hdr (wz.drewN nq) w.heap.size ⟨#[]⟩ 0 0 0 0) := H1.out
  have H2 : Hid (Hdr (wz.drewN nq) (w.heap.size + 1) TT kd n sm (wh * 256 + wl)) := H2.out
  have BW : Hid (Below w.heap.size w (wz.drewN nq)) := drewN_below BW.out _
  clear i0 i1 i2 i3 i4 r0 r1 r2 r3 r4 rf0 rf1 rf2 rf3 rf4
  generalize wz.drewN nq = wy at H1 H2 BW ⊢
  obtain ⟨i0, i1, i2, i3, i4⟩ := H2.out.cells
  obtain ⟨r0, r1, r2, r3, r4⟩ := H1.out.cells
  have rf0 := H1.out.free 0
  have rf1 := H1.out.free 1
  have rf2 := H1.out.free 2
  have rf3 := H1.out.free 3
  have rf4 := H1.out.free 4
  have d4 := q4.out
  have d4d : (sm != hv) = true := by simpa using d4
  have HB : Hid (okH true kd sz cv sm hv (wh * 256 + wl) wv = false) := by show _ = false; have := D3.out; unfold okH; simp; omega
  refine wp_region_any (by kernel_rfl) ?_
  try (change wpAny _ _ _ _ _ _ _ (World.drew _))
  refine wpAny_take (i := 0) (v := ?vx1) rfl (by kernel_rfl) (by kernel_rfl) (by kernel_rfl) (fun _ _ _ h => h) (Or.inl ⟨by rfl, ?hyx1⟩) ?restx1
  case hyx1 => (intro w; go_simp; try with_reducible rfl)
  refine wpAny_take (i := 2) (v := ?vx2) rfl (by kernel_rfl) (by kernel_rfl) (by kernel_rfl) (fun _ _ _ h => h) (Or.inl ⟨by rfl, ?hyx2⟩) ?restx2
  case hyx2 => (intro w; go_simp; try with_reducible rfl)
  refine wpAny_ready (rs := [1, 3]) (by kernel_rfl) (by simp) ?_
  refine gany_cons rfl (by rfl) (fun K hK => ?_) (gany_cons rfl (by rfl) (fun K hK => ?_) AllReady.nil)
  · go_simp
    refine hK _ _ ?_
    clear hK
    refine wpAny_ready (rs := [3]) (by kernel_rfl) (by simp) ?_
    refine gany_cons rfl (by rfl) (fun K hK => ?_) AllReady.nil
    go_wp2_with fail
    refine (ch _).mono ?_
    rintro e wk ⟨rfl, bk⟩
    have H1 : Hid (Hdr wk w.heap.size ⟨#[]⟩ 0 0 0 0) := H1.out.below (by first | exact bk | exact dw bk)
    have H2 : Hid (Hdr wk (w.heap.size + 1) TT kd n sm (wh * 256 + wl)) := H2.out.below (by first | exact bk | exact dw bk)
    have BW : Hid (Below w.heap.size w wk) := BW.out.trans ((show Below _ _ wk by first | exact bk | exact dw bk).mono BW.out.size)
    clear bk i0 i1 i2 i3 i4 r0 r1 r2 r3 r4 rf0 rf1 rf2 rf3 rf4
    obtain ⟨i0, i1, i2, i3, i4⟩ := H2.out.cells
    obtain ⟨r0, r1, r2, r3, r4⟩ := H1.out.cells
    have rf0 := H1.out.free 0
    have rf1 := H1.out.free 1
    have rf2 := H1.out.free 2
    have rf3 := H1.out.free 3
    have rf4 := H1.out.free 4
    refine hK _ _ ?_
    clear hK
    refine wpAny_take (i := 4) (v := ?vx3) rfl (by kernel_rfl) (by kernel_rfl) (by kernel_rfl) (fun _ _ _ h => h) (Or.inl ⟨by rfl, ?hyx3⟩) ?restx3
    case hyx3 => (intro w; go_simp; try with_reducible rfl)
    refine wpAny_take (i := 5) (v := ?vx4) rfl (by kernel_rfl) (by kernel_rfl) (by kernel_rfl) (fun _ _ _ h => h) (Or.inl ⟨by rfl, ?hyx4⟩) ?restx4
    case hyx4 => (intro w; go_simp; try with_reducible rfl)
    refine wpAny_take (i := 6) (v := undef) rfl (by kernel_rfl) (by kernel_rfl) (by kernel_rfl) (fun _ _ _ h => h) (Or.inr ⟨by rfl, rfl⟩) ?_
    refine wpAny_take (i := 8) (v := undef) rfl (by kernel_rfl) (by kernel_rfl) (by kernel_rfl) (fun _ _ _ h => h) (Or.inr ⟨by rfl, rfl⟩) ?_
    go_simp
    refine wpAny_ready (rs := [7, 9]) (by kernel_rfl) (by simp) ?_
    refine gany_skip rfl (by rfl) ?_ (gany_skip rfl (by rfl) ?_ AllReady.nil)
    · refine wpAny_ready (rs := [9]) (by kernel_rfl) (by simp) ?_
      refine gany_skip rfl (by rfl) ?_ AllReady.nil
      go_simp
      refine wpAny_take (i := 10) (v := undef) rfl (by kernel_rfl) (by kernel_rfl) (by kernel_rfl) (fun _ _ _ h => h) (Or.inr ⟨by rfl, rfl⟩) ?_
      go_simp
      refine wpAny_take (i := 11) (v := ?vy05) rfl (by kernel_rfl) (by kernel_rfl) (by kernel_rfl) (fun _ _ _ h => h) (Or.inl ⟨by rfl, ?hyy05⟩) ?resty05
      case hyy05 => (intro w; go_simp; try with_reducible rfl)
      refine wpAny_done (by kernel_rfl) ?_ _
      go_wp2
      exact bodyPost_ret (v := .tuple #[noHdr, .bool false]) (by simp [results, Tryd.results9, noHdr, go_sem, r0, r1, r2, r3, r4]) rfl ⟨by rw [HO.out, HB.out]; rfl, ((((BW.out.setCell (p := ⟨w.heap.size, 0, none⟩) (Nat.le_refl _) _).setCell (p := ⟨w.heap.size, 1, none⟩) (Nat.le_refl _) _).setCell (p := ⟨w.heap.size, 2, none⟩) (Nat.le_refl _) _).setCell (p := ⟨w.heap.size, 3, none⟩) (Nat.le_refl _) _).setCell (p := ⟨w.heap.size, 4, none⟩) (Nat.le_refl _) _⟩
    · refine wpAny_ready (rs := [7]) (by kernel_rfl) (by simp) ?_
      refine gany_skip rfl (by rfl) ?_ AllReady.nil
      go_simp
      refine wpAny_take (i := 10) (v := undef) rfl (by kernel_rfl) (by kernel_rfl) (by kernel_rfl) (fun _ _ _ h => h) (Or.inr ⟨by rfl, rfl⟩) ?_
      go_simp
      refine wpAny_take (i := 11) (v := ?vy15) rfl (by kernel_rfl) (by kernel_rfl) (by kernel_rfl) (fun _ _ _ h => h) (Or.inl ⟨by rfl, ?hyy15⟩) ?resty15
      case hyy15 => (intro w; go_simp; try with_reducible rfl)
      refine wpAny_done (by kernel_rfl) ?_ _
      go_wp2
      exact bodyPost_ret (v := .tuple #[noHdr, .bool false]) (by simp [results, Tryd.results9, noHdr, go_sem, r0, r1, r2, r3, r4]) rfl ⟨by rw [HO.out, HB.out]; rfl, ((((BW.out.setCell (p := ⟨w.heap.size, 0, none⟩) (Nat.le_refl _) _).setCell (p := ⟨w.heap.size, 1, none⟩) (Nat.le_refl _) _).setCell (p := ⟨w.heap.size, 2, none⟩) (Nat.le_refl _) _).setCell (p := ⟨w.heap.size, 3, none⟩) (Nat.le_refl _) _).setCell (p := ⟨w.heap.size, 4, none⟩) (Nat.le_refl _) _⟩
  · go_wp2_with fail
    refine (ch _).mono ?_
    rintro e wk ⟨rfl, bk⟩
    have H1 : Hid (Hdr wk w.heap.size ⟨#[]⟩ 0 0 0 0) := H1.out.below (by first | exact bk | exact dw bk)
    have H2 : Hid (Hdr wk (w.heap.size + 1) TT kd n sm (wh * 256 + wl)) := H2.out.below (by first | exact bk | exact dw bk)
    have BW : Hid (Below w.heap.size w wk) := BW.out.trans ((show Below _ _ wk by first | exact bk | exact dw bk).mono BW.out.size)
    clear bk i0 i1 i2 i3 i4 r0 r1 r2 r3 r4 rf0 rf1 rf2 rf3 rf4
    obtain ⟨i0, i1, i2, i3, i4⟩ := H2.out.cells
    obtain ⟨r0, r1, r2, r3, r4⟩ := H1.out.cells
    have rf0 := H1.out.free 0
    have rf1 := H1.out.free 1
    have rf2 := H1.out.free 2
    have rf3 := H1.out.free 3
    have rf4 := H1.out.free 4
    refine hK _ _ ?_
    clear hK
    refine wpAny_ready (rs := [1]) (by kernel_rfl) (by simp) ?_
    refine gany_cons rfl (by rfl) (fun K hK => ?_) AllReady.nil
    go_simp
    refine hK _ _ ?_
    clear hK
    refine wpAny_take (i := 4) (v := ?vx6) rfl (by kernel_rfl) (by kernel_rfl) (by kernel_rfl) (fun _ _ _ h => h) (Or.inl ⟨by rfl, ?hyx6⟩) ?restx6
    case hyx6 => (intro w; go_simp; try with_reducible rfl)
    refine wpAny_take (i := 5) (v := ?vx7) rfl (by kernel_rfl) (by kernel_rfl) (by kernel_rfl) (fun _ _ _ h => h) (Or.inl ⟨by rfl, ?hyx7⟩) ?restx7
    case hyx7 => (intro w; go_simp; try with_reducible rfl)
    refine wpAny_take (i := 6) (v := undef) rfl (by kernel_rfl) (by kernel_rfl) (by kernel_rfl) (fun _ _ _ h => h) (Or.inr ⟨by rfl, rfl⟩) ?_
    refine wpAny_take (i := 8) (v := undef) rfl (by kernel_rfl) (by kernel_rfl) (by kernel_rfl) (fun _ _ _ h => h) (Or.inr ⟨by rfl, rfl⟩) ?_
    go_simp
    refine wpAny_ready (rs := [7, 9]) (by kernel_rfl) (by simp) ?_
    refine gany_skip rfl (by rfl) ?_ (gany_skip rfl (by rfl) ?_ AllReady.nil)
    · refine wpAny_ready (rs := [9]) (by kernel_rfl) (by simp) ?_
      refine gany_skip rfl (by rfl) ?_ AllReady.nil
      go_simp
      refine wpAny_take (i := 10) (v := undef) rfl (by kernel_rfl) (by kernel_rfl) (by kernel_rfl) (fun _ _ _ h => h) (Or.inr ⟨by rfl, rfl⟩) ?_
      go_simp
      refine wpAny_take (i := 11) (v := ?vy08) rfl (by kernel_rfl) (by kernel_rfl) (by kernel_rfl) (fun _ _ _ h => h) (Or.inl ⟨by rfl, ?hyy08⟩) ?resty08
      case hyy08 => (intro w; go_simp; try with_reducible rfl)
      refine wpAny_done (by kernel_rfl) ?_ _
      go_wp2
      exact bodyPost_ret (v := .tuple #[noHdr, .bool false]) (by simp [results, Tryd.results9, noHdr, go_sem, r0, r1, r2, r3, r4]) rfl ⟨by rw [HO.out, HB.out]; rfl, ((((BW.out.setCell (p := ⟨w.heap.size, 0, none⟩) (Nat.le_refl _) _).setCell (p := ⟨w.heap.size, 1, none⟩) (Nat.le_refl _) _).setCell (p := ⟨w.heap.size, 2, none⟩) (Nat.le_refl _) _).setCell (p := ⟨w.heap.size, 3, none⟩) (Nat.le_refl _) _).setCell (p := ⟨w.heap.size, 4, none⟩) (Nat.le_refl _) _⟩
    · refine wpAny_ready (rs := [7]) (by kernel_rfl) (by simp) ?_
      refine gany_skip rfl (by rfl) ?_ AllReady.nil
      go_simp
      refine wpAny_take (i := 10) (v := undef) rfl (by kernel_rfl) (by kernel_rfl) (by kernel_rfl) (fun _ _ _ h => h) (Or.inr ⟨by rfl, rfl⟩) ?_
      go_simp
      refine wpAny_take (i := 11) (v := ?vy18) rfl (by kernel_rfl) (by kernel_rfl) (by kernel_rfl) (fun _ _ _ h => h) (Or.inl ⟨by rfl, ?hyy18⟩) ?resty18
      case hyy18 => (intro w; go_simp; try with_reducible rfl)
      refine wpAny_done (by kernel_rfl) ?_ _
      go_wp2
      exact bodyPost_ret (v := .tuple #[noHdr, .bool false]) (by simp [results, Tryd.results9, noHdr, go_sem, r0, r1, r2, r3, r4]) rfl ⟨by rw [HO.out, HB.out]; rfl, ((((BW.out.setCell (p := ⟨w.heap.size, 0, none⟩) (Nat.le_refl _) _).setCell (p := ⟨w.heap.size, 1, none⟩) (Nat.le_refl _) _).setCell (p := ⟨w.heap.size, 2, none⟩) (Nat.le_refl _) _).setCell (p := ⟨w.heap.size, 3, none⟩) (Nat.le_refl _) _).setCell (p := ⟨w.heap.size, 4, none⟩) (Nat.le_refl _) _⟩
end Go.Proofs.YtpnaohonadoofaaDoor.HdcD
