import Derived.Test.YteglcgnhhoenbaaGreatDoorQ39
set_option linter.all false
set_option maxRecDepth 20000
set_option maxHeartbeats 8000000
open Go.ChangeShapes Go.WideShapes Go.ChangeAt Go.RowKit
open Go.Proofs.Tryz
namespace Go.Proofs.YteglcgnhhoenbaaGreatDoor
namespace Ista
open Go.Deep
open Signed (inB sgn aG aB)
open Busw Busx Stpp Stpq Stpi Stpj Stpo Stpl
open MachT (bG aZ bJ)
theorem wI (m:M) (po:Option Addr) (cap base:Nat) (w:World) (h:Ok w base m po cap):Calls prog 48 #[.agg (aA m po cap)] w (wG w base m po):=by
 cases hh:m.hal with
 | true=>exact aXV m po cap base w h hh
 | false =>
  by_cases hn:lenOf m=0
  ·exact aXW m po cap base w h hh hn
  ·exact aXX m po cap base w h hh hn _ rfl
theorem aYY {w:World} (h:Tb w):1<w.heap.size/\2<w.heap.size:=⟨h.stack.lt (by decide),h.bit.lt (by decide)⟩
theorem bFB {w:World} (h:HolI.MaxL w):9<w.heap.size:=by obtain ⟨m,hm⟩:=h;exact HolI.aEL hm
end Ista
end Go.Proofs.YteglcgnhhoenbaaGreatDoor
