import Derived.Test.YteglcgnhhoenbaaGreatDoorQ20
import Derived.Laws.Pointers
set_option linter.all false
set_option maxRecDepth 20000
set_option maxHeartbeats 8000000
open Go.ChangeShapes Go.WideShapes Go.ChangeAt Go.RowKit
open Go.Proofs.Tryz
namespace Go.Proofs.YteglcgnhhoenbaaGreatDoor
namespace Stpr
open Go.Deep
open Signed (inB sgn aG aB)
open Busw Busx Stpp Stpi Stpj
def oQ (n:Int):Nat:=if n=0 then 2 else if n=1 then 3 else if n=2 then 4 else if n=3 then 5 else if n=4 then 6 else if n=5 then 7 else 0
def aCD (g:G) (n:Int):Value:=if n=6 then .pointer none else .pointer (some ⟨g.B,oQ n,none⟩)
theorem bLC (B:Nat) (w:World):(Instr.index 217 (.agg #[.pointer (some ⟨B,2,none⟩),.pointer (some ⟨B,3,none⟩),.pointer (some ⟨B,4,none⟩),.pointer (some ⟨B,5,none⟩),.pointer (some ⟨B,6,none⟩),.pointer (some ⟨B,7,none⟩),.pointer none,.pointer (some ⟨B,0,none⟩)]) (.int .i64 0)).run prog w=.ok (.pointer (some ⟨B,2,none⟩)) w:=by kernel_rfl
theorem aCE (g:G) (w:World) (k1:w.cell? ⟨g.K,1,none⟩=some (.pointer (some ⟨g.B,0,none⟩))) :
  Calls prog 240 #[.pointer (some ⟨g.K,0,none⟩),.int .i64 0] w fun e w'=>e=.returned (.pointer (some ⟨g.B,2,none⟩))/\Below w.heap.size w w':=by
 have hi:=bLC g.B
 go_enter func240,ntmps240
 go_wp2_with fail
 go_quiet (fail)
 all_goals go_wp2
 all_goals go_ret
 all_goals exact ⟨rfl,by repeat (with_reducible first|exact zRf|refine zGr ?_ _|refine below_drewN ?_ _|refine Below.drew ?_)⟩
theorem bLD (B:Nat) (w:World):(Instr.index 217 (.agg #[.pointer (some ⟨B,2,none⟩),.pointer (some ⟨B,3,none⟩),.pointer (some ⟨B,4,none⟩),.pointer (some ⟨B,5,none⟩),.pointer (some ⟨B,6,none⟩),.pointer (some ⟨B,7,none⟩),.pointer none,.pointer (some ⟨B,0,none⟩)]) (.int .i64 1)).run prog w=.ok (.pointer (some ⟨B,3,none⟩)) w:=by kernel_rfl
theorem aCF (g:G) (w:World) (k1:w.cell? ⟨g.K,1,none⟩=some (.pointer (some ⟨g.B,0,none⟩))) :
  Calls prog 240 #[.pointer (some ⟨g.K,0,none⟩),.int .i64 1] w fun e w'=>e=.returned (.pointer (some ⟨g.B,3,none⟩))/\Below w.heap.size w w':=by
 have hi:=bLD g.B
 go_enter func240,ntmps240
 go_wp2_with fail
 go_quiet (fail)
 all_goals go_wp2
 all_goals go_ret
 all_goals exact ⟨rfl,by repeat (with_reducible first|exact zRf|refine zGr ?_ _|refine below_drewN ?_ _|refine Below.drew ?_)⟩
theorem bLE (B:Nat) (w:World):(Instr.index 217 (.agg #[.pointer (some ⟨B,2,none⟩),.pointer (some ⟨B,3,none⟩),.pointer (some ⟨B,4,none⟩),.pointer (some ⟨B,5,none⟩),.pointer (some ⟨B,6,none⟩),.pointer (some ⟨B,7,none⟩),.pointer none,.pointer (some ⟨B,0,none⟩)]) (.int .i64 2)).run prog w=.ok (.pointer (some ⟨B,4,none⟩)) w:=by kernel_rfl
theorem aCG (g:G) (w:World) (k1:w.cell? ⟨g.K,1,none⟩=some (.pointer (some ⟨g.B,0,none⟩))) :
  Calls prog 240 #[.pointer (some ⟨g.K,0,none⟩),.int .i64 2] w fun e w'=>e=.returned (.pointer (some ⟨g.B,4,none⟩))/\Below w.heap.size w w':=by
 have hi:=bLE g.B
 go_enter func240,ntmps240
 go_wp2_with fail
 go_quiet (fail)
 all_goals go_wp2
 all_goals go_ret
 all_goals exact ⟨rfl,by repeat (with_reducible first|exact zRf|refine zGr ?_ _|refine below_drewN ?_ _|refine Below.drew ?_)⟩
theorem bLF (B:Nat) (w:World):(Instr.index 217 (.agg #[.pointer (some ⟨B,2,none⟩),.pointer (some ⟨B,3,none⟩),.pointer (some ⟨B,4,none⟩),.pointer (some ⟨B,5,none⟩),.pointer (some ⟨B,6,none⟩),.pointer (some ⟨B,7,none⟩),.pointer none,.pointer (some ⟨B,0,none⟩)]) (.int .i64 3)).run prog w=.ok (.pointer (some ⟨B,5,none⟩)) w:=by kernel_rfl
theorem aCH (g:G) (w:World) (k1:w.cell? ⟨g.K,1,none⟩=some (.pointer (some ⟨g.B,0,none⟩))) :
  Calls prog 240 #[.pointer (some ⟨g.K,0,none⟩),.int .i64 3] w fun e w'=>e=.returned (.pointer (some ⟨g.B,5,none⟩))/\Below w.heap.size w w':=by
 have hi:=bLF g.B
 go_enter func240,ntmps240
 go_wp2_with fail
 go_quiet (fail)
 all_goals go_wp2
 all_goals go_ret
 all_goals exact ⟨rfl,by repeat (with_reducible first|exact zRf|refine zGr ?_ _|refine below_drewN ?_ _|refine Below.drew ?_)⟩
theorem bLG (B:Nat) (w:World):(Instr.index 217 (.agg #[.pointer (some ⟨B,2,none⟩),.pointer (some ⟨B,3,none⟩),.pointer (some ⟨B,4,none⟩),.pointer (some ⟨B,5,none⟩),.pointer (some ⟨B,6,none⟩),.pointer (some ⟨B,7,none⟩),.pointer none,.pointer (some ⟨B,0,none⟩)]) (.int .i64 4)).run prog w=.ok (.pointer (some ⟨B,6,none⟩)) w:=by kernel_rfl
theorem aCI (g:G) (w:World) (k1:w.cell? ⟨g.K,1,none⟩=some (.pointer (some ⟨g.B,0,none⟩))) :
  Calls prog 240 #[.pointer (some ⟨g.K,0,none⟩),.int .i64 4] w fun e w'=>e=.returned (.pointer (some ⟨g.B,6,none⟩))/\Below w.heap.size w w':=by
 have hi:=bLG g.B
 go_enter func240,ntmps240
 go_wp2_with fail
 go_quiet (fail)
 all_goals go_wp2
 all_goals go_ret
 all_goals exact ⟨rfl,by repeat (with_reducible first|exact zRf|refine zGr ?_ _|refine below_drewN ?_ _|refine Below.drew ?_)⟩
theorem bLH (B:Nat) (w:World):(Instr.index 217 (.agg #[.pointer (some ⟨B,2,none⟩),.pointer (some ⟨B,3,none⟩),.pointer (some ⟨B,4,none⟩),.pointer (some ⟨B,5,none⟩),.pointer (some ⟨B,6,none⟩),.pointer (some ⟨B,7,none⟩),.pointer none,.pointer (some ⟨B,0,none⟩)]) (.int .i64 5)).run prog w=.ok (.pointer (some ⟨B,7,none⟩)) w:=by kernel_rfl
theorem aCJ (g:G) (w:World) (k1:w.cell? ⟨g.K,1,none⟩=some (.pointer (some ⟨g.B,0,none⟩))) :
  Calls prog 240 #[.pointer (some ⟨g.K,0,none⟩),.int .i64 5] w fun e w'=>e=.returned (.pointer (some ⟨g.B,7,none⟩))/\Below w.heap.size w w':=by
 have hi:=bLH g.B
 go_enter func240,ntmps240
 go_wp2_with fail
 go_quiet (fail)
 all_goals go_wp2
 all_goals go_ret
 all_goals exact ⟨rfl,by repeat (with_reducible first|exact zRf|refine zGr ?_ _|refine below_drewN ?_ _|refine Below.drew ?_)⟩
theorem bLI (B:Nat) (w:World):(Instr.index 217 (.agg #[.pointer (some ⟨B,2,none⟩),.pointer (some ⟨B,3,none⟩),.pointer (some ⟨B,4,none⟩),.pointer (some ⟨B,5,none⟩),.pointer (some ⟨B,6,none⟩),.pointer (some ⟨B,7,none⟩),.pointer none,.pointer (some ⟨B,0,none⟩)]) (.int .i64 6)).run prog w=.ok (.pointer none) w:=by kernel_rfl
theorem aCK (g:G) (w:World) (k1:w.cell? ⟨g.K,1,none⟩=some (.pointer (some ⟨g.B,0,none⟩))) :
  Calls prog 240 #[.pointer (some ⟨g.K,0,none⟩),.int .i64 6] w fun e w'=>e=.returned (.pointer none)/\Below w.heap.size w w':=by
 have hi:=bLI g.B
 go_enter func240,ntmps240
 go_wp2_with fail
 go_quiet (fail)
 all_goals go_wp2
 all_goals go_ret
 all_goals exact ⟨rfl,by repeat (with_reducible first|exact zRf|refine zGr ?_ _|refine below_drewN ?_ _|refine Below.drew ?_)⟩
theorem bLJ (B:Nat) (w:World):(Instr.index 217 (.agg #[.pointer (some ⟨B,2,none⟩),.pointer (some ⟨B,3,none⟩),.pointer (some ⟨B,4,none⟩),.pointer (some ⟨B,5,none⟩),.pointer (some ⟨B,6,none⟩),.pointer (some ⟨B,7,none⟩),.pointer none,.pointer (some ⟨B,0,none⟩)]) (.int .i64 7)).run prog w=.ok (.pointer (some ⟨B,0,none⟩)) w:=by kernel_rfl
theorem aCL (g:G) (w:World) (k1:w.cell? ⟨g.K,1,none⟩=some (.pointer (some ⟨g.B,0,none⟩))) :
  Calls prog 240 #[.pointer (some ⟨g.K,0,none⟩),.int .i64 7] w fun e w'=>e=.returned (.pointer (some ⟨g.B,0,none⟩))/\Below w.heap.size w w':=by
 have hi:=bLJ g.B
 go_enter func240,ntmps240
 go_wp2_with fail
 go_quiet (fail)
 all_goals go_wp2
 all_goals go_ret
 all_goals exact ⟨rfl,by repeat (with_reducible first|exact zRf|refine zGr ?_ _|refine below_drewN ?_ _|refine Below.drew ?_)⟩
theorem nJ (g:G) (m:M) (full:Bool) (n:Int) (w:World) (h:In g w m full) (n0:0<=n) (n1:n<=7) :
  Calls prog 240 #[.pointer (some ⟨g.K,0,none⟩),.int .i64 n] w fun e w'=>e=.returned (aCD g n)/\Below w.heap.size w w':=by
 have k1:=h.kcell 1 _ rfl;have hn:n=0 \/ n=1 \/ n=2 \/ n=3 \/ n=4 \/ n=5 \/ n=6 \/ n=7:=by omega
 rcases hn with rfl|rfl|rfl|rfl|rfl|rfl|rfl|rfl
 ·exact aCE g w k1
 ·exact aCF g w k1
 ·exact aCG g w k1
 ·exact aCH g w k1
 ·exact aCI g w k1
 ·exact aCJ g w k1
 ·exact aCK g w k1
 ·exact aCL g w k1
end Stpr
end Go.Proofs.YteglcgnhhoenbaaGreatDoor
