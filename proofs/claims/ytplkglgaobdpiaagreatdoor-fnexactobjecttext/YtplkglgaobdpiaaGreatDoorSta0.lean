/-
  A call within a region that only reads: what it answers at every world that has grown.
-/
import Derived.Test.YtplkglgaobdpiaaGreatDoorOtxa
import Derived.Lib.QuietBelow
import Derived.BigQuiet
namespace Go.Proofs.YtplkglgaobdpiaaGreatDoor.Sta0
open Go.ChangeShapes Go.WideShapes Go.ChangeAt Go.RowKit Go.Deep
abbrev Rg (f : FuncId) (args : Array Value) (W : World) (v : Value) : Prop := ∀ d os, Calls Tryz.prog f args (Go.Sort.grow (redrawn W d) os) fun e w'' => e = .returned v ∧ ∃ p : Regrown, w'' = Go.Sort.grow (redrawn W p.d) p.os
theorem rg {f : FuncId} {args : Array Value} {W : World} {v : Value} (h : ∀ W', Below W.heap.size W W' → Calls Tryz.prog f args W' fun e w' => e = .returned v ∧ Below W'.heap.size W' w') : Rg f args W v := fun d os => Calls.regrown_of (h _ (below_regrown W d os))
end Go.Proofs.YtplkglgaobdpiaaGreatDoor.Sta0
