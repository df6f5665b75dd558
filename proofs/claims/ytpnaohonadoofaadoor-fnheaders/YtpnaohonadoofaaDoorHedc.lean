/-
  A contract of ours for impl.HeaderOf, at every argument.
-/
import Derived.Test.YtpnaohonadoofaaDoorHdcA
import Derived.Test.YtpnaohonadoofaaDoorHdcB
import Derived.Test.YtpnaohonadoofaaDoorHdcC
import Derived.Test.YtpnaohonadoofaaDoorHdcD
import Derived.Test.YtpnaohonadoofaaDoorHdcE
import Derived.Test.YtpnaohonadoofaaDoorHdcF
import Derived.Deep.Cut
import Derived.Deep.DeepCutAuto
import Derived.Deep.RegionHeld3
import Derived.Laws.ResultCell
namespace Go.Proofs.YtpnaohonadoofaaDoor.Hedc
open Go.ChangeShapes Go.WideShapes Go.ChangeAt Go.RowKit
open Signed (inB ret_int ret_bool l1In_any)
open Sums Titl Heda
set_option linter.unusedVariables false
set_option linter.unusedSimpArgs false
set_option maxRecDepth 20000

theorem implHdr_yes (rom : ByteArray) (w : World) (hb : romB rom.size = true) (hs : rom.size ≤ maxLen) :
    Calls Tryd.prog 9 #[.string rom] w fun e w' => e = outH rom ∧ Below w.heap.size w w' := by
  by_cases q1 : titleB (titleS rom) = false
  · exact HdcA.implHdr_A rom w hb hs q1
  have q1 : titleB (titleS rom) = true := by simpa using q1
  by_cases q2 : byteAt rom 71 ≤ 2
  rotate_left
  · exact HdcB.implHdr_B rom w hb hs q1 q2
  by_cases q3 : byteAt rom 72 = codeV (banks rom.size)
  rotate_left
  · exact HdcC.implHdr_C rom w hb hs q1 q2 q3
  by_cases q4 : byteAt rom 77 = headV rom
  rotate_left
  · exact HdcD.implHdr_D rom w hb hs q1 q2 q3 q4
  by_cases q5 : byteAt rom 78 * 256 + byteAt rom 79 = wholeV rom
  rotate_left
  · exact HdcE.implHdr_E rom w hb hs q1 q2 q3 q4 q5
  exact HdcF.implHdr_F rom w hb hs q1 q2 q3 q4 q5
set_option maxHeartbeats 1000000 in
theorem implHdr_no (rom : ByteArray) (w : World) (hb : romB rom.size = false) (hs : rom.size ≤ maxLen) :
    Calls Tryd.prog 9 #[.string rom] w fun e w' => e = outH rom ∧ Below w.heap.size w w' := by
  have cr := fun w => romOk_any rom w hs
  rw [hb] at cr
  have HO : Hid (outH rom = .returned (.tuple #[noHdr, .bool false])) := by show _ = _; unfold outH hdrB; rw [hb]; rfl
  go_enter Tryd.func9, Tryd.ntmps9
  go_wp2_with (first | (go_at_call 31; refine (cr _).mono ?_; rintro e w' ⟨rfl, hw⟩; have hw := hw.symm; subst hw) | fail)
  exact bodyPost_ret (v := .tuple #[noHdr, .bool false]) (by simp [results, Tryd.results9, noHdr, go_sem]) rfl ⟨HO.out.symm, (Below.refl _ _).alloc (Nat.le_refl _) _⟩
theorem implHdr_any (rom : ByteArray) (w : World) (hs : rom.size ≤ maxLen) :
    Calls Tryd.prog 9 #[.string rom] w fun e w' => e = outH rom ∧ Below w.heap.size w w' := by
  cases hb : romB rom.size with
  | true => exact implHdr_yes rom w hb hs
  | false => exact implHdr_no rom w hb hs
end Go.Proofs.YtpnaohonadoofaaDoor.Hedc
