/-
  Contracts of ours for both InsBytes: the bytes of an instruction.
-/
import Derived.Test.YtpnaohonadoofaaDoorInsX
import Derived.Laws.BytesArg
namespace Go.Proofs.YtpnaohonadoofaaDoor.InsB
open Go.ChangeShapes Go.WideShapes Go.ChangeAt Go.RowKit
open Signed (inB l1In_any ret_bool)
open HoleX (n8 n16 e8 holeT holeP)
open HolI LenX InsX
set_option linter.unusedVariables false
set_option maxRecDepth 20000

def bytesV (code : Int) (cb : Bool) (imm : Int) : ByteArray :=
  if okV code cb imm = false then ⟨#[]⟩ else if cb = true then strOfNums [203, code]
  else if (hole code cb).size = 0 then strOfNums [code] else if hole code cb = n16 then strOfNums [code, imm % 256, imm / 256] else strOfNums [code, imm]
theorem conv {W : World} {B n cap : Nat} (l : List Int) (hl : l.length = n) (h : ∀ i (hi : i < n), W.cell? ⟨B, i, none⟩ = some (.int .u8 (l.getD i 0))) :
    (convert 22 9 (.slice (some ⟨B, 0, none⟩) n cap)).run Tryd.prog W = .ok (.string (strOfNums l)) W := by
  subst hl
  exact run_convert_bytes_arg _ 22 5 Tryd.underlying22 Tryd.underlying5 B 0 _ cap l rfl (fun i hi => by rw [Nat.zero_add]; exact h i hi) 9 Tryd.underlying9
theorem conv1 (u : World) (x : Int) : (convert 22 9 (.slice (some ⟨u.heap.size, 0, none⟩) 1 1)).run Tryd.prog (u.alloc (.cells #[.int .u8 x] 5)) = .ok (.string (strOfNums [x])) (u.alloc (.cells #[.int .u8 x] 5)) :=
  conv [x] rfl (fun i hi => by rw [World.cell?_alloc_new]; match i, hi with | 0, _ => rfl)
theorem conv2 (u : World) (x y : Int) : (convert 22 9 (.slice (some ⟨u.heap.size, 0, none⟩) 2 2)).run Tryd.prog (u.alloc (.cells #[.int .u8 x, .int .u8 y] 5)) = .ok (.string (strOfNums [x, y])) (u.alloc (.cells #[.int .u8 x, .int .u8 y] 5)) :=
  conv [x, y] rfl (fun i hi => by rw [World.cell?_alloc_new]; match i, hi with | 0, _ => rfl | 1, _ => rfl)
theorem conv3 (u : World) (x y z : Int) : (convert 22 9 (.slice (some ⟨u.heap.size, 0, none⟩) 3 3)).run Tryd.prog (u.alloc (.cells #[.int .u8 x, .int .u8 y, .int .u8 z] 5)) = .ok (.string (strOfNums [x, y, z])) (u.alloc (.cells #[.int .u8 x, .int .u8 y, .int .u8 z] 5)) :=
  conv [x, y, z] rfl (fun i hi => by rw [World.cell?_alloc_new]; match i, hi with | 0, _ => rfl | 1, _ => rfl | 2, _ => rfl)
theorem ok_in {code : Int} {cb : Bool} {imm : Int} (h : okV code cb imm = true) : none? code cb = false ∧ 0 ≤ code ∧ code ≤ 255 := by
  cases hn : none? code cb
  · obtain ⟨hb, _⟩ := some_impl hn
    obtain ⟨h0, h1⟩ := of_decide_eq_true hb
    exact ⟨rfl, h0, h1⟩
  · unfold okV at h; rw [hn, if_pos rfl] at h; exact absurd h (by decide)
theorem V_no {code : Int} {imm : Int} (h : okV code false imm = true) (hx : hole code false = ⟨#[]⟩) : bytesV code false imm = strOfNums [code] ∧ lenV false false (hole code false) = 1 := by
  unfold bytesV; rw [h, hx]; exact ⟨rfl, rfl⟩
theorem V_16 {code : Int} {imm : Int} (h : okV code false imm = true) (hx : hole code false = ⟨#[110, 49, 54]⟩) : bytesV code false imm = strOfNums [code, imm % 256, imm / 256] ∧ lenV false false (hole code false) = 3 ∧ 0 ≤ imm ∧ imm ≤ 65535 := by
  have := h
  rw [ok_n16 (ok_in h).1 hx] at this
  obtain ⟨h0, h1⟩ := of_decide_eq_true this
  unfold bytesV; rw [h, hx]; exact ⟨rfl, rfl, h0, h1⟩
theorem V_8 {code : Int} {imm : Int} (h : okV code false imm = true) (hx : hole code false = ⟨#[110, 56]⟩) : bytesV code false imm = strOfNums [code, imm] ∧ lenV false false (hole code false) = 2 ∧ 0 ≤ imm ∧ imm ≤ 255 := by
  have := h
  rw [ok_n8 (ok_in h).1 hx] at this
  obtain ⟨h0, h1⟩ := of_decide_eq_true this
  unfold bytesV; rw [h, hx]; exact ⟨rfl, rfl, h0, h1⟩
theorem V_e {code : Int} {imm : Int} (h : okV code false imm = true) (hx : hole code false = ⟨#[101, 56]⟩) : bytesV code false imm = strOfNums [code, imm] ∧ lenV false false (hole code false) = 2 ∧ 0 ≤ imm ∧ imm ≤ 255 := by
  have := h
  rw [ok_e8 (ok_in h).1 hx] at this
  obtain ⟨h0, h1⟩ := of_decide_eq_true this
  unfold bytesV; rw [h, hx]; exact ⟨rfl, rfl, h0, h1⟩
set_option maxHeartbeats 1000000 in
theorem spec_1 (code imm : Int) (w : World) (h0 : 0 ≤ code) (h1 : code ≤ 255) (e1 : bytesV code false imm = strOfNums [code]) (e2 : lenV false false (hole code false) = 1)
    (co : ∀ w, Calls Tryd.prog 45 #[.agg #[.int .i64 code, .bool false, .int .i64 imm]] w fun e w' => e = .returned (.bool true) ∧ Below w.heap.size w w') (cl : ∀ w, Calls Tryd.prog 46 #[.int .i64 code, .bool false] w fun e w' => e = .returned (.int .i64 (lenV false false (hole code false))) ∧ Below w.heap.size w w') :
    Calls Tryd.prog 37 #[.agg #[.int .i64 code, .bool false, .int .i64 imm]] w fun e w' => e = .returned (.string (bytesV code false imm)) ∧ Below w.heap.size w w' := by
  have hc : code % 256 = code := by omega
  have cv1 := conv1
  have cv2 := conv2
  have cv3 := conv3
  rw [e1]
  rw [e2] at cl
  clear e1 e2
  go_enter Tryd.func37, Tryd.ntmps37
  go_wp2_with fail
  refine (co _).mono ?_
  rintro e w1 ⟨rfl, b1⟩
  have B1 : Hid (Below _ _ w1) := b1
  have k0 := box b1 0 _ rfl
  have k1 := box b1 1 _ rfl
  have k2 := box b1 2 _ rfl
  clear b1 co
  go_wp2_with fail
  refine (cl _).mono ?_
  rintro e w2 ⟨rfl, b2⟩
  have B2 : Hid (Below _ _ w2) := after B1.out b2
  clear b2 cl B1 k0 k1 k2
  have k0 := box B2.out 0 _ rfl
  have k2 := box B2.out 2 _ rfl
  go_wp2
  go_ret
  exact ⟨rfl, (unbox B2.out).alloc (unbox B2.out).size _⟩
set_option maxHeartbeats 1000000 in
theorem spec_2 (code imm : Int) (w : World) (h0 : 0 ≤ code) (h1 : code ≤ 255) (e3 : 0 ≤ imm) (e4 : imm ≤ 255) (e1 : bytesV code false imm = strOfNums [code, imm]) (e2 : lenV false false (hole code false) = 2)
    (co : ∀ w, Calls Tryd.prog 45 #[.agg #[.int .i64 code, .bool false, .int .i64 imm]] w fun e w' => e = .returned (.bool true) ∧ Below w.heap.size w w') (cl : ∀ w, Calls Tryd.prog 46 #[.int .i64 code, .bool false] w fun e w' => e = .returned (.int .i64 (lenV false false (hole code false))) ∧ Below w.heap.size w w') :
    Calls Tryd.prog 37 #[.agg #[.int .i64 code, .bool false, .int .i64 imm]] w fun e w' => e = .returned (.string (bytesV code false imm)) ∧ Below w.heap.size w w' := by
  have hc : code % 256 = code := by omega
  have hi : imm % 256 = imm := by omega
  have cv1 := conv1
  have cv2 := conv2
  have cv3 := conv3
  rw [e1]
  rw [e2] at cl
  clear e1 e2
  go_enter Tryd.func37, Tryd.ntmps37
  go_wp2_with fail
  refine (co _).mono ?_
  rintro e w1 ⟨rfl, b1⟩
  have B1 : Hid (Below _ _ w1) := b1
  have k0 := box b1 0 _ rfl
  have k1 := box b1 1 _ rfl
  have k2 := box b1 2 _ rfl
  clear b1 co
  go_wp2_with fail
  refine (cl _).mono ?_
  rintro e w2 ⟨rfl, b2⟩
  have B2 : Hid (Below _ _ w2) := after B1.out b2
  clear b2 cl B1 k0 k1 k2
  have k0 := box B2.out 0 _ rfl
  have k2 := box B2.out 2 _ rfl
  go_wp2
  go_ret
  exact ⟨rfl, (unbox B2.out).alloc (unbox B2.out).size _⟩
set_option maxHeartbeats 1000000 in
theorem spec_3 (code imm : Int) (w : World) (h0 : 0 ≤ code) (h1 : code ≤ 255) (e3 : 0 ≤ imm) (e4 : imm ≤ 65535) (e1 : bytesV code false imm = strOfNums [code, imm % 256, imm / 256]) (e2 : lenV false false (hole code false) = 3)
    (co : ∀ w, Calls Tryd.prog 45 #[.agg #[.int .i64 code, .bool false, .int .i64 imm]] w fun e w' => e = .returned (.bool true) ∧ Below w.heap.size w w') (cl : ∀ w, Calls Tryd.prog 46 #[.int .i64 code, .bool false] w fun e w' => e = .returned (.int .i64 (lenV false false (hole code false))) ∧ Below w.heap.size w w') :
    Calls Tryd.prog 37 #[.agg #[.int .i64 code, .bool false, .int .i64 imm]] w fun e w' => e = .returned (.string (bytesV code false imm)) ∧ Below w.heap.size w w' := by
  have hc : code % 256 = code := by omega
  have hi : imm / 256 % 256 = imm / 256 := by omega
  have cv1 := conv1
  have cv2 := conv2
  have cv3 := conv3
  rw [e1]
  rw [e2] at cl
  clear e1 e2
  go_enter Tryd.func37, Tryd.ntmps37
  go_wp2_with fail
  refine (co _).mono ?_
  rintro e w1 ⟨rfl, b1⟩
  have B1 : Hid (Below _ _ w1) := b1
  have k0 := box b1 0 _ rfl
  have k1 := box b1 1 _ rfl
  have k2 := box b1 2 _ rfl
  clear b1 co
  go_wp2_with fail
  refine (cl _).mono ?_
  rintro e w2 ⟨rfl, b2⟩
  have B2 : Hid (Below _ _ w2) := after B1.out b2
  clear b2 cl B1 k0 k1 k2
  have k0 := box B2.out 0 _ rfl
  have k2 := box B2.out 2 _ rfl
  go_wp2
  go_ret
  exact ⟨rfl, (unbox B2.out).alloc (unbox B2.out).size _⟩
set_option maxHeartbeats 1000000 in
theorem specBytes_any (code : Int) (cb : Bool) (imm : Int) (w : World) :
    Calls Tryd.prog 37 #[.agg #[.int .i64 code, .bool cb, .int .i64 imm]] w fun e w' => e = .returned (.string (bytesV code cb imm)) ∧ Below w.heap.size w w' := by
  have co := fun w => specOk_any code cb imm w
  cases ho : okV code cb imm
  · have hv : bytesV code cb imm = ⟨#[]⟩ := by unfold bytesV; rw [ho]; rfl
    rw [hv]
    rw [ho] at co
    go_enter Tryd.func37, Tryd.ntmps37
    go_wp2_with fail
    refine (co _).mono ?_
    rintro e w1 ⟨rfl, b1⟩
    have B1 : Hid (Below _ _ w1) := b1
    clear b1 co
    go_wp2
    go_ret
    exact ⟨rfl, unbox B1.out⟩
  rw [ho] at co
  obtain ⟨hn, h0, h1⟩ := ok_in ho
  have hc : code % 256 = code := by omega
  have cv1 := conv1
  have cv2 := conv2
  have cv3 := conv3
  cases cb with
  | true =>
    have hv : bytesV code true imm = strOfNums [203, code] := by unfold bytesV; rw [ho]; rfl
    rw [hv]
    go_enter Tryd.func37, Tryd.ntmps37
    go_wp2_with fail
    refine (co _).mono ?_
    rintro e w1 ⟨rfl, b1⟩
    have B1 : Hid (Below _ _ w1) := b1
    have k0 := box b1 0 _ rfl
    have k1 := box b1 1 _ rfl
    clear b1 co
    go_wp2
    go_ret
    exact ⟨rfl, (unbox B1.out).alloc (unbox B1.out).size _⟩
  | false =>
    have cl := fun w => length_any code false w h0 h1
    have hd : decide ((Tmpl.tmplS code false).size = 0) = false := by
      unfold none? at hn
      rw [show inB code 0 255 = true from decide_eq_true ⟨h0, h1⟩, beqN] at hn
      simpa using hn
    rw [hd] at cl
    rcases hole_cases code false with hx | hx | hx | hx
    · obtain ⟨e1, e2, e3, e4⟩ := V_8 ho hx
      exact spec_2 code imm w h0 h1 e3 e4 e1 e2 co cl
    · obtain ⟨e1, e2, e3, e4⟩ := V_16 ho hx
      exact spec_3 code imm w h0 h1 e3 e4 e1 e2 co cl
    · obtain ⟨e1, e2, e3, e4⟩ := V_e ho hx
      exact spec_2 code imm w h0 h1 e3 e4 e1 e2 co cl
    · obtain ⟨e1, e2⟩ := V_no ho hx
      exact spec_1 code imm w h0 h1 e1 e2 co cl
end Go.Proofs.YtpnaohonadoofaaDoor.InsB
