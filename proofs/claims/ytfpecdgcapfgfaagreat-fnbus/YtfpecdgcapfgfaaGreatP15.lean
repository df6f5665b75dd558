import Derived.Test.YtfpecdgcapfgfaaGreatP14
import Derived.Laws.Pointers
set_option linter.all false
set_option maxRecDepth 20000
set_option maxHeartbeats 8000000
open Go.ChangeShapes Go.WideShapes Go.ChangeAt Go.RowKit
open Go.Proofs.Tryz
namespace Go.Proofs.YtfpecdgcapfgfaaGreat
namespace Stpc
open Signed (inB sgn)
open Reck ReckS ReckM ReckD TurnS
open Busw (M wrM Rt)
open Stpp Stpq
theorem fin_of {c:Int} (h0:0<=c) (h1:c<=255):∃ k:Fin 256,(k.val:Int)=c:=⟨⟨c.toNat,by omega⟩,by simp;omega⟩
end Stpc
end Go.Proofs.YtfpecdgcapfgfaaGreat
