import Derived.Test.YteglcgnhhoenbaaGreatDoorP37
set_option linter.all false
set_option maxRecDepth 20000
set_option maxHeartbeats 8000000
open Go.ChangeShapes Go.WideShapes Go.ChangeAt Go.RowKit
open Go.Proofs.Tryz
namespace Go.Proofs.YteglcgnhhoenbaaGreatDoor
namespace Ista
open Go.Deep
open Signed (inB sgn ret_int ret_bool)
open Busw Busx Stpp Stpq Stpi Stpj Stpo Stpl
open MachT (heap_row heap_row_other below_row)
theorem stepped_anyM (m:M) (po:Option Addr) (cap base:Nat) (w:World) (h:Ok w base m po cap):Calls prog 48 #[.agg (cellsM m po cap)] w (SPostM w base m po):=by
 cases hh:m.hal with
 | true=>exact st_halt m po cap base w h hh
 | false =>
  by_cases hn:lenOf m=0
  ·exact st_none m po cap base w h hh hn
  ·exact st_main m po cap base w h hh hn _ rfl
theorem tb_lt {w:World} (h:Tb w):1<w.heap.size/\2<w.heap.size:=⟨h.stack.lt (by decide),h.bit.lt (by decide)⟩
theorem max_lt {w:World} (h:HolI.MaxL w):9<w.heap.size:=by obtain ⟨m,hm⟩:=h;exact HolI.cell_lt hm
theorem own_nil (w:World) (base:Nat) (h:base<=w.heap.size):w.ownsRow base 2 1 (.slice none Z0.out.length 0) Z0.out.length (outC Z0.out):=⟨rfl,.inl ⟨rfl,rfl⟩⟩
end Ista
end Go.Proofs.YteglcgnhhoenbaaGreatDoor
