import Derived.Test.YtfpecdgcapfgfaaP01
set_option linter.all false
set_option maxRecDepth 20000
set_option maxHeartbeats 8000000
open Go.ChangeShapes Go.WideShapes Go.ChangeAt Go.RowKit
open Go.Proofs.Try
namespace Go.Proofs.Ytfpecdgcapfgfaa
namespace CartW
open Go.Deep
open Signed (inB ret_int ret_bool isByte_any l1In_any)
open Carts CartK CartL CartM CartN CartP CartR
def bank1 (v:Int):Int:=if v%32<1 then 1 else v%32
end CartW
end Go.Proofs.Ytfpecdgcapfgfaa
