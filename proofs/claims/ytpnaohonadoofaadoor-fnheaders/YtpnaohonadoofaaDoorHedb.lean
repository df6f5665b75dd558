/-
  A contract of ours for spec.HeaderOf, at every argument.
-/
import Derived.Test.YtpnaohonadoofaaDoorHeda
import Derived.Deep.Cut
import Derived.Deep.DeepCutAuto
import Derived.Deep.RegionHeld3
import Derived.Laws.ResultCell
namespace Go.Proofs.YtpnaohonadoofaaDoor.Hedb
open Go.ChangeShapes Go.WideShapes Go.ChangeAt Go.RowKit
open Signed (inB ret_int ret_bool l1In_any)
open Sums Titl Heda
set_option linter.unusedVariables false
set_option maxRecDepth 20000

theorem list_last {t : ByteArray} (h : 0 < t.size) : t.data.toList = (t.extract 0 (t.size - 1)).data.toList ++ [t[t.size - 1]'(by omega)] := by
  have hl : t.data.toList.length = t.size := Array.length_toList
  have hh : t.size - 1 < t.data.toList.length := by omega
  rw [ByteArray.data_extract]
  have e : (t.data.extract 0 (t.size - 1)).toList = t.data.toList.take (t.size - 1) := by
    rw [Array.toList_extract]
    simp [List.extract]
  rw [e]
  have e2 := List.take_succ_eq_append_getElem hh
  rw [show t.size - 1 + 1 = t.data.toList.length by omega, List.take_length] at e2
  exact e2
def sz_ : Value → Nat | .string t => t.size | _ => 0
set_option maxHeartbeats 4000000 in
theorem specHdr_yes (rom : ByteArray) (w : World) (hb : romB rom.size = true) (hs : rom.size ≤ maxLen) :
    Calls Tryd.prog 11 #[.string rom] w fun e w' => e = outH rom ∧ Below w.heap.size w w' := by
  obtain ⟨h0, h1, h2, h3, h4, h5⟩ := banks_yes hb
  have cr := fun w => l5Banks_any rom w hs
  have x71 : ∀ w, (Instr.index 9 (.string rom) (.int .i64 71)).run Tryd.prog w = .ok (.int .u8 (byteAt rom 71)) w := index_at rom 71 (by omega)
  have x77 : ∀ w, (Instr.index 9 (.string rom) (.int .i64 77)).run Tryd.prog w = .ok (.int .u8 (byteAt rom 77)) w := index_at rom 77 (by omega)
  have x78 : ∀ w, (Instr.index 9 (.string rom) (.int .i64 78)).run Tryd.prog w = .ok (.int .u8 (byteAt rom 78)) w := index_at rom 78 (by omega)
  have x79 : ∀ w, (Instr.index 9 (.string rom) (.int .i64 79)).run Tryd.prog w = .ok (.int .u8 (byteAt rom 79)) w := index_at rom 79 (by omega)
  have x72 : ∀ w, (Instr.index 9 (.string rom) (.int .i64 72)).run Tryd.prog w = .ok (.int .u8 (byteAt rom 72)) w := index_at rom 72 (by omega)
  obtain ⟨a71, b71⟩ := byteAt_bd rom 71
  obtain ⟨a72, b72⟩ := byteAt_bd rom 72
  obtain ⟨a77, b77⟩ := byteAt_bd rom 77
  obtain ⟨a78, b78⟩ := byteAt_bd rom 78
  obtain ⟨a79, b79⟩ := byteAt_bd rom 79
  have HO : Hid (outH rom = .returned (.tuple #[if okH (title15 (titleS rom)) (byteAt rom 71) (byteAt rom 72) (codeV (banks rom.size)) (byteAt rom 77) (headV rom) (256 * byteAt rom 78 + byteAt rom 79) (wholeV rom) = true then .agg #[.string (titleS rom), .int .i64 (byteAt rom 71), .int .i64 (banks rom.size), .int .i64 (byteAt rom 77), .int .i64 (256 * byteAt rom 78 + byteAt rom 79)] else noHdr, .bool (okH (title15 (titleS rom)) (byteAt rom 71) (byteAt rom 72) (codeV (banks rom.size)) (byteAt rom 77) (headV rom) (256 * byteAt rom 78 + byteAt rom 79) (wholeV rom))])) := by
    show _ = _
    unfold outH hdrB hdrV okH title15
    rw [hb, Bool.true_and, decide_eq_true (titleS_le rom h3), Bool.and_true, Int.mul_comm 256]
  have ct := fun w => l12Title_any (titleS rom) w (by have := titleS_le rom h3; unfold maxLen; omega)
  have cc := fun w => l12Code_any (banks rom.size) w h0 h1
  have ch := fun w => specHead_any rom w hs
  have cw := fun w => specWhole_any rom w hs
  have HE : Hid (titleS rom = ⟨(Lib.trimRightB (rom.extract 52 67).data.toList 0).toArray⟩) := rfl
  have hx : (rom.extract 52 67).size = 15 := by simp; omega
  have sl : ∀ w, (Instr.slice 9 (.string rom) (some (.int .i64 52)) (some (.int .i64 67)) none).run Tryd.prog w = .ok (.string (rom.extract 52 67)) w := fun w => slice_string rom 52 67 (by omega) (by omega) w
  generalize byteAt rom 71 = kd at *
  generalize byteAt rom 72 = sz at *
  generalize byteAt rom 77 = sm at *
  generalize byteAt rom 78 = wh at *
  generalize byteAt rom 79 = wl at *
  have c1 : IntKind.i64.wrap (256 * wh) = 256 * wh := by rw [IntKind.wrap_i64]; omega
  have c2 : IntKind.i64.wrap (256 * wh + wl) = 256 * wh + wl := by rw [IntKind.wrap_i64]; omega
  have c3 : IntKind.i64.wrap kd = kd := by rw [IntKind.wrap_i64]; omega
  have c4 : IntKind.i64.wrap sm = sm := by rw [IntKind.wrap_i64]; omega
  have c5 : IntKind.i64.wrap wh = wh := by rw [IntKind.wrap_i64]; omega
  have c6 : IntKind.i64.wrap wl = wl := by rw [IntKind.wrap_i64]; omega
  have c7 : IntKind.i64.wrap sz = sz := by rw [IntKind.wrap_i64]; omega
  clear h2 h5
  generalize codeV (banks rom.size) = cv at *
  generalize banks rom.size = n at *
  generalize headV rom = hv at *
  generalize wholeV rom = wv at *
  generalize title15 (titleS rom) = tb at *
  generalize titleS rom = TT at *
  generalize rom.extract 52 67 = E at *
  go_enter Tryd.func11, Tryd.ntmps11
  go_upto_region 3 with (first | (go_at_call 33; refine (cr _).mono ?_; rintro e w' ⟨rfl, hw⟩; have hw := hw.symm; subst hw) | fail)
  have HZ : Hid (Hdr (w.alloc (.cells #[.string ⟨#[]⟩, .int .i64 0, .int .i64 0, .int .i64 0, .int .i64 0] 29)) w.heap.size ⟨#[]⟩ 0 0 0 0) := Hdr.new _ _ _ _ _ _
  have B0 : Hid (Below w.heap.size w (w.alloc (.cells #[.string ⟨#[]⟩, .int .i64 0, .int .i64 0, .int .i64 0, .int .i64 0] 29))) := (Below.refl _ _).alloc (Nat.le_refl _) _
  go_cut [4] (fun v wx => v = .pointer (some ⟨w.heap.size + 1, 0, none⟩) ∧ Hid (Hdr wx w.heap.size ⟨#[]⟩ 0 0 0 0) ∧ Hid (Hdr wx (w.heap.size + 1) ⟨#[]⟩ kd n sm (256 * wh + wl)) ∧ Hid (Below w.heap.size w wx))
  case first =>
    refine wp_region_any (by kernel_rfl) ?_
    try (change wpAny _ _ _ _ _ _ _ (World.drew _))
    refine wpAny_take (i := 0) (v := ?v0) rfl (by kernel_rfl) (by kernel_rfl) (by kernel_rfl) (fun _ _ _ h => h) (Or.inl ⟨by rfl, ?hy0⟩) ?rest0
    case hy0 => (intro w; go_simp; try with_reducible rfl)
    refine wpAny_take (i := 1) (v := ?v1) rfl (by kernel_rfl) (by kernel_rfl) (by kernel_rfl) (fun _ _ _ h => h) (Or.inl ⟨by rfl, ?hy1⟩) ?rest1
    case hy1 => (intro w; go_simp; try with_reducible rfl)
    refine wpAny_take (i := 2) (v := ?v2) rfl (by kernel_rfl) (by kernel_rfl) (by kernel_rfl) (fun _ _ _ h => h) (Or.inl ⟨by rfl, ?hy2⟩) ?rest2
    case hy2 => (intro w; go_simp; try with_reducible rfl)
    refine wpAny_take (i := 3) (v := ?v3) rfl (by kernel_rfl) (by kernel_rfl) (by kernel_rfl) (fun _ _ _ h => h) (Or.inl ⟨by rfl, ?hy3⟩) ?rest3
    case hy3 => (intro w; go_simp; try with_reducible rfl)
    refine wpAny_take (i := 5) (v := ?v5) rfl (by kernel_rfl) (by kernel_rfl) (by kernel_rfl) (fun _ _ _ h => h) (Or.inl ⟨by rfl, ?hy5⟩) ?rest5
    case hy5 => (intro w; go_simp; try with_reducible rfl)
    refine wpAny_take (i := 6) (v := ?v6) rfl (by kernel_rfl) (by kernel_rfl) (by kernel_rfl) (fun _ _ _ h => h) (Or.inl ⟨by rfl, ?hy6⟩) ?rest6
    case hy6 => (intro w; go_simp; try with_reducible rfl)
    refine wpAny_take (i := 7) (v := ?v7) rfl (by kernel_rfl) (by kernel_rfl) (by kernel_rfl) (fun _ _ _ h => h) (Or.inl ⟨by rfl, ?hy7⟩) ?rest7
    case hy7 => (intro w; go_simp; try with_reducible rfl)
    refine wpAny_take (i := 8) (v := ?v8) rfl (by kernel_rfl) (by kernel_rfl) (by kernel_rfl) (fun _ _ _ h => h) (Or.inl ⟨by rfl, ?hy8⟩) ?rest8
    case hy8 => (intro w; go_simp; try with_reducible rfl)
    refine wpAny_take (i := 9) (v := ?v9) rfl (by kernel_rfl) (by kernel_rfl) (by kernel_rfl) (fun _ _ _ h => h) (Or.inl ⟨by rfl, ?hy9⟩) ?rest9
    case hy9 => (intro w; go_simp; try with_reducible rfl)
    refine wpAny_take (i := 10) (v := ?v10) rfl (by kernel_rfl) (by kernel_rfl) (by kernel_rfl) (fun _ _ _ h => h) (Or.inl ⟨by rfl, ?hy10⟩) ?rest10
    case hy10 => (intro w; go_simp; try with_reducible rfl)
    refine wpAny_take (i := 11) (v := ?v11) rfl (by kernel_rfl) (by kernel_rfl) (by kernel_rfl) (fun _ _ _ h => h) (Or.inl ⟨by rfl, ?hy11⟩) ?rest11
    case hy11 => (intro w; go_simp; try with_reducible rfl)
    refine wpAny_take (i := 12) (v := ?v12) rfl (by kernel_rfl) (by kernel_rfl) (by kernel_rfl) (fun _ _ _ h => h) (Or.inl ⟨by rfl, ?hy12⟩) ?rest12
    case hy12 => (intro w; go_simp; try with_reducible rfl)
    refine wpAny_take (i := 13) (v := ?v13) rfl (by kernel_rfl) (by kernel_rfl) (by kernel_rfl) (fun _ _ _ h => h) (Or.inl ⟨by rfl, ?hy13⟩) ?rest13
    case hy13 => (intro w; go_simp; try with_reducible rfl)
    refine wpAny_take (i := 14) (v := ?v14) rfl (by kernel_rfl) (by kernel_rfl) (by kernel_rfl) (fun _ _ _ h => h) (Or.inl ⟨by rfl, ?hy14⟩) ?rest14
    case hy14 => (intro w; go_simp; try with_reducible rfl)
    refine wpAny_take (i := 15) (v := ?v15) rfl (by kernel_rfl) (by kernel_rfl) (by kernel_rfl) (fun _ _ _ h => h) (Or.inl ⟨by rfl, ?hy15⟩) ?rest15
    case hy15 => (intro w; go_simp; try with_reducible rfl)
    refine wpAny_ready (rs := [4, 17]) (by kernel_rfl) (by simp) ?_
    refine any_cons rfl rfl (fun K hK => ?_) (any_cons rfl rfl (fun K hK => ?_) AllReady.nil)
    · go_wp2_with fail
      refine (cr _).mono ?_
      rintro e wk ⟨rfl, hw⟩
      have hw := hw.symm
      subst hw
      refine hK _ _ ?_
      clear hK
      refine wpAny_take (i := 16) (v := ?v16a) rfl (by kernel_rfl) (by kernel_rfl) (by kernel_rfl) (fun _ _ _ h => h) (Or.inl ⟨by rfl, ?hy16a⟩) ?rest16a
      case hy16a => (intro w; go_simp; try with_reducible rfl)
      refine wpAny_ready (rs := [17]) (by kernel_rfl) (by simp) ?_
      refine any_cons rfl rfl (fun K hK => ?_) AllReady.nil
      go_simp
      refine hK _ _ ?_
      clear hK
      refine wpAny_ready (rs := [18]) (by kernel_rfl) (by simp) ?_
      refine any_cons rfl rfl (fun K hK => ?_) AllReady.nil
      go_simp
      refine hK _ _ ?_
      clear hK
      refine wpAny_done (by kernel_rfl) ?_ _
      go_wp2_with fail
      go_meet
      exact ⟨rfl, HZ.out.alloc _, by have := Hdr.new (w.alloc (.cells #[.string ⟨#[]⟩, .int .i64 0, .int .i64 0, .int .i64 0, .int .i64 0] 29)) ⟨#[]⟩ kd n sm (256 * wh + wl); rw [World.size_alloc] at this; exact this, (B0.out.alloc B0.out.size _).drew⟩
    · go_simp
      refine hK _ _ ?_
      clear hK
      refine wpAny_ready (rs := [4]) (by kernel_rfl) (by simp) ?_
      refine any_cons rfl rfl (fun K hK => ?_) AllReady.nil
      go_wp2_with fail
      refine (cr _).mono ?_
      rintro e wk ⟨rfl, hw⟩
      have hw := hw.symm
      subst hw
      refine hK _ _ ?_
      clear hK
      refine wpAny_take (i := 16) (v := ?v16b) rfl (by kernel_rfl) (by kernel_rfl) (by kernel_rfl) (fun _ _ _ h => h) (Or.inl ⟨by rfl, ?hy16b⟩) ?rest16b
      case hy16b => (intro w; go_simp; try with_reducible rfl)
      refine wpAny_ready (rs := [18]) (by kernel_rfl) (by simp) ?_
      refine any_cons rfl rfl (fun K hK => ?_) AllReady.nil
      go_simp
      refine hK _ _ ?_
      clear hK
      refine wpAny_done (by kernel_rfl) ?_ _
      go_wp2_with fail
      go_meet
      exact ⟨rfl, HZ.out.alloc _, by have := Hdr.new (w.alloc (.cells #[.string ⟨#[]⟩, .int .i64 0, .int .i64 0, .int .i64 0, .int .i64 0] 29)) ⟨#[]⟩ kd n sm (256 * wh + wl); rw [World.size_alloc] at this; exact this, (B0.out.alloc B0.out.size _).drew⟩
  case rest =>
  obtain ⟨rfl, H1, H2, BW⟩ := hcut
  clear HZ B0 x71 x77 x78 x79 cr
  rename World => wz
  go_wp2_with fail
  go_loop [5] (fun v => ∃ t : ByteArray, v = .string t ∧ t.size ≤ 15 ∧ Hid (TT = ⟨(Lib.trimRightB t.data.toList 0).toArray⟩)) (fun v => sz_ v)
  case atStart => exact ⟨E, rfl, by omega, HE⟩
  case round =>
  clear HE
  obtain ⟨t, rfl, ht, HE⟩ := hrel
  by_cases h0 : t.size = 0
  · have he : t.toList.isEmpty = true := by rw [ByteArray.toList_eq, List.isEmpty_iff_length_eq_zero, Array.length_toList]; exact h0
    obtain rfl : t = TT := by
      rw [HE.out]
      have : t.data.toList = [] := List.eq_nil_of_length_eq_zero (by rw [Array.length_toList]; exact h0)
      apply ByteArray.ext
      apply Array.ext'
      rw [this]; rfl
    obtain ⟨i0, i1, i2, i3, i4⟩ := H2.out.cells
    have if0 := H2.out.free 0
    go_upto_region 8 with fail
    have H2 : Hid (Hdr (wz.setCell ⟨w.heap.size + 1, 0, none⟩ (.string t)) (w.heap.size + 1) t kd n sm (256 * wh + wl)) := H2.out.title _
    have H1 : Hid (Hdr (wz.setCell ⟨w.heap.size + 1, 0, none⟩ (.string t)) w.heap.size ⟨#[]⟩ 0 0 0 0) := H1.out.other (by omega) _
    have BW : Hid (Below w.heap.size w (wz.setCell ⟨w.heap.size + 1, 0, none⟩ (.string t))) := BW.out.setCell (p := ⟨w.heap.size + 1, 0, none⟩) (Nat.le_succ _) _
    clear i0 i1 i2 i3 i4 if0
    generalize wz.setCell ⟨w.heap.size + 1, 0, none⟩ (.string t) = wy at H1 H2 BW ⊢
    obtain ⟨i0, i1, i2, i3, i4⟩ := H2.out.cells
    obtain ⟨r0, r1, r2, r3, r4⟩ := H1.out.cells
    have rf0 := H1.out.free 0
    have rf1 := H1.out.free 1
    have rf2 := H1.out.free 2
    have rf3 := H1.out.free 3
    have rf4 := H1.out.free 4
    cases tb with
    | false =>
      have HB : Hid (okH false kd sz cv sm hv (256 * wh + wl) wv = false) := rfl
      go_quiet ((first | (go_at_call 29; exact Calls.quiet_of_same (ct _)) | (go_at_call 30; exact Calls.quiet_of_same (cc _)) | (go_at_call 14; exact Calls.quiet_of_same (ch _)) | (go_at_call 16; exact Calls.quiet_of_same (cw _))))
      go_wp2
      exact bodyPost_ret (v := .tuple #[noHdr, .bool false]) (by simp [results, Tryd.results11, noHdr, go_sem, r0, r1, r2, r3, r4]) rfl ⟨by rw [HO.out, HB.out]; rfl, (((((drewN_below BW.out _).setCell (p := ⟨w.heap.size, 0, none⟩) (Nat.le_refl _) _).setCell (p := ⟨w.heap.size, 1, none⟩) (Nat.le_refl _) _).setCell (p := ⟨w.heap.size, 2, none⟩) (Nat.le_refl _) _).setCell (p := ⟨w.heap.size, 3, none⟩) (Nat.le_refl _) _).setCell (p := ⟨w.heap.size, 4, none⟩) (Nat.le_refl _) _⟩
    | true =>
      by_cases d2 : 2 < kd
      · have d2d : decide (2 < kd) = true := decide_eq_true d2
        have d2n : ¬ kd ≤ 2 := by omega
        have HB : Hid (okH true kd sz cv sm hv (256 * wh + wl) wv = false) := by show _ = false; unfold okH; simp; omega
        go_quiet ((first | (go_at_call 29; exact Calls.quiet_of_same (ct _)) | (go_at_call 30; exact Calls.quiet_of_same (cc _)) | (go_at_call 14; exact Calls.quiet_of_same (ch _)) | (go_at_call 16; exact Calls.quiet_of_same (cw _))))
        go_wp2
        exact bodyPost_ret (v := .tuple #[noHdr, .bool false]) (by simp [results, Tryd.results11, noHdr, go_sem, r0, r1, r2, r3, r4]) rfl ⟨by rw [HO.out, HB.out]; rfl, (((((drewN_below BW.out _).setCell (p := ⟨w.heap.size, 0, none⟩) (Nat.le_refl _) _).setCell (p := ⟨w.heap.size, 1, none⟩) (Nat.le_refl _) _).setCell (p := ⟨w.heap.size, 2, none⟩) (Nat.le_refl _) _).setCell (p := ⟨w.heap.size, 3, none⟩) (Nat.le_refl _) _).setCell (p := ⟨w.heap.size, 4, none⟩) (Nat.le_refl _) _⟩
      have d2d : decide (2 < kd) = false := decide_eq_false d2
      have d2 : kd ≤ 2 := by omega
      by_cases d3 : sz = cv
      rotate_left
      · have d3d : (sz != cv) = true := by simpa using d3
        have HB : Hid (okH true kd sz cv sm hv (256 * wh + wl) wv = false) := by show _ = false; unfold okH; simp; omega
        go_quiet ((first | (go_at_call 29; exact Calls.quiet_of_same (ct _)) | (go_at_call 30; exact Calls.quiet_of_same (cc _)) | (go_at_call 14; exact Calls.quiet_of_same (ch _)) | (go_at_call 16; exact Calls.quiet_of_same (cw _))))
        go_wp2
        exact bodyPost_ret (v := .tuple #[noHdr, .bool false]) (by simp [results, Tryd.results11, noHdr, go_sem, r0, r1, r2, r3, r4]) rfl ⟨by rw [HO.out, HB.out]; rfl, (((((drewN_below BW.out _).setCell (p := ⟨w.heap.size, 0, none⟩) (Nat.le_refl _) _).setCell (p := ⟨w.heap.size, 1, none⟩) (Nat.le_refl _) _).setCell (p := ⟨w.heap.size, 2, none⟩) (Nat.le_refl _) _).setCell (p := ⟨w.heap.size, 3, none⟩) (Nat.le_refl _) _).setCell (p := ⟨w.heap.size, 4, none⟩) (Nat.le_refl _) _⟩
      have d3d : (sz != cv) = false := by simpa using d3
      by_cases d4 : sm = hv
      rotate_left
      · have d4d : (sm != hv) = true := by simpa using d4
        have HB : Hid (okH true kd sz cv sm hv (256 * wh + wl) wv = false) := by show _ = false; unfold okH; simp; omega
        go_quiet ((first | (go_at_call 29; exact Calls.quiet_of_same (ct _)) | (go_at_call 30; exact Calls.quiet_of_same (cc _)) | (go_at_call 14; exact Calls.quiet_of_same (ch _)) | (go_at_call 16; exact Calls.quiet_of_same (cw _))))
        go_wp2
        exact bodyPost_ret (v := .tuple #[noHdr, .bool false]) (by simp [results, Tryd.results11, noHdr, go_sem, r0, r1, r2, r3, r4]) rfl ⟨by rw [HO.out, HB.out]; rfl, (((((drewN_below BW.out _).setCell (p := ⟨w.heap.size, 0, none⟩) (Nat.le_refl _) _).setCell (p := ⟨w.heap.size, 1, none⟩) (Nat.le_refl _) _).setCell (p := ⟨w.heap.size, 2, none⟩) (Nat.le_refl _) _).setCell (p := ⟨w.heap.size, 3, none⟩) (Nat.le_refl _) _).setCell (p := ⟨w.heap.size, 4, none⟩) (Nat.le_refl _) _⟩
      have d4d : (sm != hv) = false := by simpa using d4
      by_cases d5 : (256 * wh + wl) = wv
      rotate_left
      · have d5d : ((256 * wh + wl) != wv) = true := by simpa using d5
        have HB : Hid (okH true kd sz cv sm hv (256 * wh + wl) wv = false) := by show _ = false; unfold okH; simp; omega
        go_quiet ((first | (go_at_call 29; exact Calls.quiet_of_same (ct _)) | (go_at_call 30; exact Calls.quiet_of_same (cc _)) | (go_at_call 14; exact Calls.quiet_of_same (ch _)) | (go_at_call 16; exact Calls.quiet_of_same (cw _))))
        go_wp2
        exact bodyPost_ret (v := .tuple #[noHdr, .bool false]) (by simp [results, Tryd.results11, noHdr, go_sem, r0, r1, r2, r3, r4]) rfl ⟨by rw [HO.out, HB.out]; rfl, (((((drewN_below BW.out _).setCell (p := ⟨w.heap.size, 0, none⟩) (Nat.le_refl _) _).setCell (p := ⟨w.heap.size, 1, none⟩) (Nat.le_refl _) _).setCell (p := ⟨w.heap.size, 2, none⟩) (Nat.le_refl _) _).setCell (p := ⟨w.heap.size, 3, none⟩) (Nat.le_refl _) _).setCell (p := ⟨w.heap.size, 4, none⟩) (Nat.le_refl _) _⟩
      have d5d : ((256 * wh + wl) != wv) = false := by simpa using d5
      have HB : Hid (okH true kd sz cv sm hv (256 * wh + wl) wv = true) := by show _ = true; unfold okH; simp; omega
      go_quiet ((first | (go_at_call 29; exact Calls.quiet_of_same (ct _)) | (go_at_call 30; exact Calls.quiet_of_same (cc _)) | (go_at_call 14; exact Calls.quiet_of_same (ch _)) | (go_at_call 16; exact Calls.quiet_of_same (cw _))))
      go_wp2
      exact bodyPost_ret (v := .tuple #[.agg #[.string t, .int .i64 kd, .int .i64 n, .int .i64 sm, .int .i64 (256 * wh + wl)], .bool true]) (by simp [results, Tryd.results11, go_sem, r0, r1, r2, r3, r4]; exact ⟨d4.symm, d5.symm⟩) rfl ⟨by rw [HO.out, HB.out]; rfl, (((((drewN_below BW.out _).setCell (p := ⟨w.heap.size, 0, none⟩) (Nat.le_refl _) _).setCell (p := ⟨w.heap.size, 1, none⟩) (Nat.le_refl _) _).setCell (p := ⟨w.heap.size, 2, none⟩) (Nat.le_refl _) _).setCell (p := ⟨w.heap.size, 3, none⟩) (Nat.le_refl _) _).setCell (p := ⟨w.heap.size, 4, none⟩) (Nat.le_refl _) _⟩
  have he : t.toList.isEmpty = false := by
    rw [ByteArray.toList_eq]; cases e : t.data.toList with
    | nil => exact absurd (by have := congrArg List.length e; rw [Array.length_toList] at this; exact this) h0
    | cons _ _ => rfl
  have hp : 0 < t.size := by omega
  have hl := list_last hp
  have xi : ∀ w, (Instr.index 9 (.string t) (.int .i64 ((t.size : Int) - 1))).run Tryd.prog w = .ok (.int .u8 (t[t.size - 1].toNat : Int)) w := fun w => by
    have := index_at t (t.size - 1) (by omega) w
    rw [byteAt_in (by omega), show ((t.size - 1 : Nat) : Int) = (t.size : Int) - 1 by omega] at this
    exact this
  have hk : IntKind.i64.wrap ((t.size : Int) - 1) = (t.size : Int) - 1 := by rw [IntKind.wrap_i64]; omega
  have se : ∀ w, (Instr.slice 9 (.string t) none (some (.int .i64 ((t.size : Int) - 1))) none).run Tryd.prog w = .ok (.string (t.extract 0 (t.size - 1))) w := fun w => by
    have := run_slice_string_h (P := Tryd.prog) (w := w) (t := 9) (s := t) Tryd.underlying9 .i64 ((t.size : Int) - 1) (by omega) (by omega)
    rw [show ((t.size : Int) - 1).toNat = t.size - 1 by omega] at this
    exact this
  by_cases hz : (t[t.size - 1].toNat : Int) = 0
  · have HN : Hid (TT = ⟨(Lib.trimRightB (t.extract 0 (t.size - 1)).data.toList 0).toArray⟩) := by
      have := HE.out
      rw [hl, show t[t.size - 1] = 0 from UInt8.toNat_inj.1 (by show _ = 0; omega), trim_last] at this
      exact this
    have hzd : ((t[t.size - 1].toNat : Int) == 0) = true := by simpa using hz
    have hsz2 : (t.extract 0 (t.size - 1)).size = t.size - 1 := by simp
    generalize t.extract 0 (t.size - 1) = t2 at HN se hsz2
    generalize (t[t.size - 1].toNat : Int) = lb at xi hz hzd
    clear hl HE
    go_wp2_with fail
    go_round
    case rel => exact ⟨t2, rfl, by omega, HN⟩
    case measure => simp [sz_]; omega
  have hzd : ((t[t.size - 1].toNat : Int) == 0) = false := by simpa using hz
  obtain rfl : t = TT := by
    have := HE.out
    rw [hl, trim_stop _ _ _ (fun e => hz (by rw [e]; rfl)), ← hl] at this
    rw [this]
  generalize (t[t.size - 1].toNat : Int) = lb at xi hz hzd
  clear hl
  obtain ⟨i0, i1, i2, i3, i4⟩ := H2.out.cells
  have if0 := H2.out.free 0
  go_upto_region 8 with fail
  have H2 : Hid (Hdr (wz.setCell ⟨w.heap.size + 1, 0, none⟩ (.string t)) (w.heap.size + 1) t kd n sm (256 * wh + wl)) := H2.out.title _
  have H1 : Hid (Hdr (wz.setCell ⟨w.heap.size + 1, 0, none⟩ (.string t)) w.heap.size ⟨#[]⟩ 0 0 0 0) := H1.out.other (by omega) _
  have BW : Hid (Below w.heap.size w (wz.setCell ⟨w.heap.size + 1, 0, none⟩ (.string t))) := BW.out.setCell (p := ⟨w.heap.size + 1, 0, none⟩) (Nat.le_succ _) _
  clear i0 i1 i2 i3 i4 if0
  generalize wz.setCell ⟨w.heap.size + 1, 0, none⟩ (.string t) = wy at H1 H2 BW ⊢
  obtain ⟨i0, i1, i2, i3, i4⟩ := H2.out.cells
  obtain ⟨r0, r1, r2, r3, r4⟩ := H1.out.cells
  have rf0 := H1.out.free 0
  have rf1 := H1.out.free 1
  have rf2 := H1.out.free 2
  have rf3 := H1.out.free 3
  have rf4 := H1.out.free 4
  cases tb with
  | false =>
    have HB : Hid (okH false kd sz cv sm hv (256 * wh + wl) wv = false) := rfl
    go_quiet ((first | (go_at_call 29; exact Calls.quiet_of_same (ct _)) | (go_at_call 30; exact Calls.quiet_of_same (cc _)) | (go_at_call 14; exact Calls.quiet_of_same (ch _)) | (go_at_call 16; exact Calls.quiet_of_same (cw _))))
    go_wp2
    exact bodyPost_ret (v := .tuple #[noHdr, .bool false]) (by simp [results, Tryd.results11, noHdr, go_sem, r0, r1, r2, r3, r4]) rfl ⟨by rw [HO.out, HB.out]; rfl, (((((drewN_below BW.out _).setCell (p := ⟨w.heap.size, 0, none⟩) (Nat.le_refl _) _).setCell (p := ⟨w.heap.size, 1, none⟩) (Nat.le_refl _) _).setCell (p := ⟨w.heap.size, 2, none⟩) (Nat.le_refl _) _).setCell (p := ⟨w.heap.size, 3, none⟩) (Nat.le_refl _) _).setCell (p := ⟨w.heap.size, 4, none⟩) (Nat.le_refl _) _⟩
  | true =>
    by_cases d2 : 2 < kd
    · have d2d : decide (2 < kd) = true := decide_eq_true d2
      have d2n : ¬ kd ≤ 2 := by omega
      have HB : Hid (okH true kd sz cv sm hv (256 * wh + wl) wv = false) := by show _ = false; unfold okH; simp; omega
      go_quiet ((first | (go_at_call 29; exact Calls.quiet_of_same (ct _)) | (go_at_call 30; exact Calls.quiet_of_same (cc _)) | (go_at_call 14; exact Calls.quiet_of_same (ch _)) | (go_at_call 16; exact Calls.quiet_of_same (cw _))))
      go_wp2
      exact bodyPost_ret (v := .tuple #[noHdr, .bool false]) (by simp [results, Tryd.results11, noHdr, go_sem, r0, r1, r2, r3, r4]) rfl ⟨by rw [HO.out, HB.out]; rfl, (((((drewN_below BW.out _).setCell (p := ⟨w.heap.size, 0, none⟩) (Nat.le_refl _) _).setCell (p := ⟨w.heap.size, 1, none⟩) (Nat.le_refl _) _).setCell (p := ⟨w.heap.size, 2, none⟩) (Nat.le_refl _) _).setCell (p := ⟨w.heap.size, 3, none⟩) (Nat.le_refl _) _).setCell (p := ⟨w.heap.size, 4, none⟩) (Nat.le_refl _) _⟩
    have d2d : decide (2 < kd) = false := decide_eq_false d2
    have d2 : kd ≤ 2 := by omega
    by_cases d3 : sz = cv
    rotate_left
    · have d3d : (sz != cv) = true := by simpa using d3
      have HB : Hid (okH true kd sz cv sm hv (256 * wh + wl) wv = false) := by show _ = false; unfold okH; simp; omega
      go_quiet ((first | (go_at_call 29; exact Calls.quiet_of_same (ct _)) | (go_at_call 30; exact Calls.quiet_of_same (cc _)) | (go_at_call 14; exact Calls.quiet_of_same (ch _)) | (go_at_call 16; exact Calls.quiet_of_same (cw _))))
      go_wp2
      exact bodyPost_ret (v := .tuple #[noHdr, .bool false]) (by simp [results, Tryd.results11, noHdr, go_sem, r0, r1, r2, r3, r4]) rfl ⟨by rw [HO.out, HB.out]; rfl, (((((drewN_below BW.out _).setCell (p := ⟨w.heap.size, 0, none⟩) (Nat.le_refl _) _).setCell (p := ⟨w.heap.size, 1, none⟩) (Nat.le_refl _) _).setCell (p := ⟨w.heap.size, 2, none⟩) (Nat.le_refl _) _).setCell (p := ⟨w.heap.size, 3, none⟩) (Nat.le_refl _) _).setCell (p := ⟨w.heap.size, 4, none⟩) (Nat.le_refl _) _⟩
    have d3d : (sz != cv) = false := by simpa using d3
    by_cases d4 : sm = hv
    rotate_left
    · have d4d : (sm != hv) = true := by simpa using d4
      have HB : Hid (okH true kd sz cv sm hv (256 * wh + wl) wv = false) := by show _ = false; unfold okH; simp; omega
      go_quiet ((first | (go_at_call 29; exact Calls.quiet_of_same (ct _)) | (go_at_call 30; exact Calls.quiet_of_same (cc _)) | (go_at_call 14; exact Calls.quiet_of_same (ch _)) | (go_at_call 16; exact Calls.quiet_of_same (cw _))))
      go_wp2
      exact bodyPost_ret (v := .tuple #[noHdr, .bool false]) (by simp [results, Tryd.results11, noHdr, go_sem, r0, r1, r2, r3, r4]) rfl ⟨by rw [HO.out, HB.out]; rfl, (((((drewN_below BW.out _).setCell (p := ⟨w.heap.size, 0, none⟩) (Nat.le_refl _) _).setCell (p := ⟨w.heap.size, 1, none⟩) (Nat.le_refl _) _).setCell (p := ⟨w.heap.size, 2, none⟩) (Nat.le_refl _) _).setCell (p := ⟨w.heap.size, 3, none⟩) (Nat.le_refl _) _).setCell (p := ⟨w.heap.size, 4, none⟩) (Nat.le_refl _) _⟩
    have d4d : (sm != hv) = false := by simpa using d4
    by_cases d5 : (256 * wh + wl) = wv
    rotate_left
    · have d5d : ((256 * wh + wl) != wv) = true := by simpa using d5
      have HB : Hid (okH true kd sz cv sm hv (256 * wh + wl) wv = false) := by show _ = false; unfold okH; simp; omega
      go_quiet ((first | (go_at_call 29; exact Calls.quiet_of_same (ct _)) | (go_at_call 30; exact Calls.quiet_of_same (cc _)) | (go_at_call 14; exact Calls.quiet_of_same (ch _)) | (go_at_call 16; exact Calls.quiet_of_same (cw _))))
      go_wp2
      exact bodyPost_ret (v := .tuple #[noHdr, .bool false]) (by simp [results, Tryd.results11, noHdr, go_sem, r0, r1, r2, r3, r4]) rfl ⟨by rw [HO.out, HB.out]; rfl, (((((drewN_below BW.out _).setCell (p := ⟨w.heap.size, 0, none⟩) (Nat.le_refl _) _).setCell (p := ⟨w.heap.size, 1, none⟩) (Nat.le_refl _) _).setCell (p := ⟨w.heap.size, 2, none⟩) (Nat.le_refl _) _).setCell (p := ⟨w.heap.size, 3, none⟩) (Nat.le_refl _) _).setCell (p := ⟨w.heap.size, 4, none⟩) (Nat.le_refl _) _⟩
    have d5d : ((256 * wh + wl) != wv) = false := by simpa using d5
    have HB : Hid (okH true kd sz cv sm hv (256 * wh + wl) wv = true) := by show _ = true; unfold okH; simp; omega
    go_quiet ((first | (go_at_call 29; exact Calls.quiet_of_same (ct _)) | (go_at_call 30; exact Calls.quiet_of_same (cc _)) | (go_at_call 14; exact Calls.quiet_of_same (ch _)) | (go_at_call 16; exact Calls.quiet_of_same (cw _))))
    go_wp2
    exact bodyPost_ret (v := .tuple #[.agg #[.string t, .int .i64 kd, .int .i64 n, .int .i64 sm, .int .i64 (256 * wh + wl)], .bool true]) (by simp [results, Tryd.results11, go_sem, r0, r1, r2, r3, r4]; exact ⟨d4.symm, d5.symm⟩) rfl ⟨by rw [HO.out, HB.out]; rfl, (((((drewN_below BW.out _).setCell (p := ⟨w.heap.size, 0, none⟩) (Nat.le_refl _) _).setCell (p := ⟨w.heap.size, 1, none⟩) (Nat.le_refl _) _).setCell (p := ⟨w.heap.size, 2, none⟩) (Nat.le_refl _) _).setCell (p := ⟨w.heap.size, 3, none⟩) (Nat.le_refl _) _).setCell (p := ⟨w.heap.size, 4, none⟩) (Nat.le_refl _) _⟩
set_option maxHeartbeats 1000000 in
theorem specHdr_no (rom : ByteArray) (w : World) (hb : romB rom.size = false) (hs : rom.size ≤ maxLen) :
    Calls Tryd.prog 11 #[.string rom] w fun e w' => e = outH rom ∧ Below w.heap.size w w' := by
  have cr := fun w => l5Banks_any rom w hs
  rw [banks_no hb] at cr
  have HO : Hid (outH rom = .returned (.tuple #[noHdr, .bool false])) := by show _ = _; unfold outH hdrB; rw [hb]; rfl
  go_enter Tryd.func11, Tryd.ntmps11
  go_wp2_with (first | (go_at_call 33; refine (cr _).mono ?_; rintro e w' ⟨rfl, hw⟩; have hw := hw.symm; subst hw) | fail)
  exact bodyPost_ret (v := .tuple #[noHdr, .bool false]) (by simp [results, Tryd.results11, noHdr, go_sem]) rfl ⟨HO.out.symm, (Below.refl _ _).alloc (Nat.le_refl _) _⟩
theorem specHdr_any (rom : ByteArray) (w : World) (hs : rom.size ≤ maxLen) :
    Calls Tryd.prog 11 #[.string rom] w fun e w' => e = outH rom ∧ Below w.heap.size w w' := by
  cases hb : romB rom.size with
  | true => exact specHdr_yes rom w hb hs
  | false => exact specHdr_no rom w hb hs
end Go.Proofs.YtpnaohonadoofaaDoor.Hedb
