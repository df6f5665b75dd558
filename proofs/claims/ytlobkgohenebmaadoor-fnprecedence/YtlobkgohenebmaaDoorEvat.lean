/-
  A contract of ours for spec.EvalExpr.
-/
import Derived.Test.YtlobkgohenebmaaDoorEvas
import Derived.Test.YtlobkgohenebmaaDoorMirror
namespace Go.Proofs.YtlobkgohenebmaaDoor.Evat
open Go.ChangeShapes Go.WideShapes Go.ChangeAt Go.RowKit Go.Deep
open Symr (Sym Syms)
open Go.Proofs.YtlobkgohenebmaaDoor.Stepx (Nodes takes run exprB)
open Reke Symn Rekn Evai
set_option linter.unusedVariables false
set_option maxRecDepth 20000
set_option maxHeartbeats 1000000 in
theorem specEval_any (a : Option Addr) (cap : Nat) (L : List Stepx.Node) (ya : Option Addr) (ycap : Nat) (Y : List Sym) (w : World) (hN : Nodes w a L) (hlen : L.length ≤ 1048576) (hY : Syms w ya Y) (hyl : Y.length ≤ 1048576) :
    Calls Tryd.prog 9 #[.slice a L.length cap, .slice ya Y.length ycap] w fun e w' => e = .returned (.tuple #[.int .i64 (evV L Y).1, .int .i64 (evV L Y).2]) ∧ Below w.heap.size w w' := by
  have co := Specx.exprOk_any a cap L w hN hlen
  have HN : Hid (Nodes w a L) := hN
  have HY : Hid (Syms w ya Y) := hY
  have ce := fun W hN hx hY => Evas.l2Eval_any a cap L ya ycap Y W hN hx hY hyl
  have HV1 : Hid (exprB L = true ∧ Y.length ≤ 200 → evV L Y = ev Y [] L) := fun h => by unfold evV; rw [if_pos h]
  have HV2 : Hid (¬ (exprB L = true ∧ Y.length ≤ 200) → evV L Y = (0, 1)) := fun h => by unfold evV; rw [if_neg h]
  clear hN hY
  generalize L.length = len at *
  generalize Y.length = yl at *
  cases hb : exprB L with
  | false =>
    rw [hb] at co
    have e1 := HV2.out (fun h => by rw [hb] at h; cases h.1)
    rw [e1]
    clear ce HV1 HV2 e1
    go_enter Tryd.func9, Tryd.ntmps9
    go_wp2_with fail
    refine co.mono ?_
    rintro e w1 ⟨rfl, b1⟩
    have B1 : Hid (Below w.heap.size w w1) := b1
    clear b1 co
    go_wp2
    go_ret2
    exact ⟨rfl, B1.out⟩
  | true =>
    rw [hb] at co
    by_cases h200 : yl ≤ 200
    · have e1 := HV1.out ⟨hb, h200⟩
      rw [e1]
      have HB : Hid (exprB L = true) := hb
      generalize ev Y [] L = O at *
      clear HV1 HV2 e1 hb
      go_enter Tryd.func9, Tryd.ntmps9
      go_wp2_with fail
      refine co.mono ?_
      rintro e w1 ⟨rfl, b1⟩
      have B1 : Hid (Below w.heap.size w w1) := b1
      clear b1 co
      go_wp2_with fail
      refine (ce _ (Mirror.Nodes.below HN.out B1.out) HB.out (HY.out.below B1.out)).mono ?_
      rintro e w2 ⟨rfl, b2⟩
      have B2 : Hid (Below w.heap.size w w2) := B1.out.trans (b2.mono B1.out.size)
      clear b2 ce
      go_wp2
      go_ret2
      exact ⟨rfl, B2.out⟩
    · have e1 := HV2.out (fun h => h200 h.2)
      rw [e1]
      clear ce HV1 HV2 e1 hb
      go_enter Tryd.func9, Tryd.ntmps9
      go_wp2_with fail
      refine co.mono ?_
      rintro e w1 ⟨rfl, b1⟩
      have B1 : Hid (Below w.heap.size w w1) := b1
      clear b1 co
      go_wp2
      go_ret2
      exact ⟨rfl, B1.out⟩
end Go.Proofs.YtlobkgohenebmaaDoor.Evat
