import Derived.Test.YteglcgnhhoenbaaGreatDoorQ01
set_option linter.all false
set_option maxRecDepth 20000
set_option maxHeartbeats 8000000
open Go.ChangeShapes Go.WideShapes Go.ChangeAt Go.RowKit
open Go.Proofs.Tryz
namespace Go.Proofs.YteglcgnhhoenbaaGreatDoor
namespace LowT
open Signed (inB aE)
open Tabs
theorem aF {B:Nat} {w w':World} (h:Below B w w'):Below B w w'.drew:=⟨h.os,h.tape,h.output,h.size,h.block⟩
def bKX:List (List ByteArray):=[[⟨#[110,111,112]⟩,⟨#[108,100,32,91,110,49,54,93,44,115,112]⟩,⟨#[115,116,111,112,32,110,56]⟩,⟨#[106,114,32,101,56]⟩,⟨#[106,114,32,110,122,44,101,56]⟩,⟨#[106,114,32,122,44,101,56]⟩,⟨#[106,114,32,110,99,44,101,56]⟩,⟨#[106,114,32,99,44,101,56]⟩],
 [⟨#[108,100,32,98,99,44,110,49,54]⟩,⟨#[97,100,100,32,104,108,44,98,99]⟩,⟨#[108,100,32,100,101,44,110,49,54]⟩,⟨#[97,100,100,32,104,108,44,100,101]⟩,⟨#[108,100,32,104,108,44,110,49,54]⟩,⟨#[97,100,100,32,104,108,44,104,108]⟩,⟨#[108,100,32,115,112,44,110,49,54]⟩,⟨#[97,100,100,32,104,108,44,115,112]⟩],
 [⟨#[108,100,32,91,98,99,93,44,97]⟩,⟨#[108,100,32,97,44,91,98,99,93]⟩,⟨#[108,100,32,91,100,101,93,44,97]⟩,⟨#[108,100,32,97,44,91,100,101,93]⟩,⟨#[108,100,32,91,104,108,43,93,44,97]⟩,⟨#[108,100,32,97,44,91,104,108,43,93]⟩,⟨#[108,100,32,91,104,108,45,93,44,97]⟩,⟨#[108,100,32,97,44,91,104,108,45,93]⟩],
 [⟨#[105,110,99,32,98,99]⟩,⟨#[100,101,99,32,98,99]⟩,⟨#[105,110,99,32,100,101]⟩,⟨#[100,101,99,32,100,101]⟩,⟨#[105,110,99,32,104,108]⟩,⟨#[100,101,99,32,104,108]⟩,⟨#[105,110,99,32,115,112]⟩,⟨#[100,101,99,32,115,112]⟩],
 [⟨#[105,110,99,32,98]⟩,⟨#[105,110,99,32,99]⟩,⟨#[105,110,99,32,100]⟩,⟨#[105,110,99,32,101]⟩,⟨#[105,110,99,32,104]⟩,⟨#[105,110,99,32,108]⟩,⟨#[105,110,99,32,91,104,108,93]⟩,⟨#[105,110,99,32,97]⟩],
 [⟨#[100,101,99,32,98]⟩,⟨#[100,101,99,32,99]⟩,⟨#[100,101,99,32,100]⟩,⟨#[100,101,99,32,101]⟩,⟨#[100,101,99,32,104]⟩,⟨#[100,101,99,32,108]⟩,⟨#[100,101,99,32,91,104,108,93]⟩,⟨#[100,101,99,32,97]⟩],
 [⟨#[108,100,32,98,44,110,56]⟩,⟨#[108,100,32,99,44,110,56]⟩,⟨#[108,100,32,100,44,110,56]⟩,⟨#[108,100,32,101,44,110,56]⟩,⟨#[108,100,32,104,44,110,56]⟩,⟨#[108,100,32,108,44,110,56]⟩,⟨#[108,100,32,91,104,108,93,44,110,56]⟩,⟨#[108,100,32,97,44,110,56]⟩],
 [⟨#[114,108,99,97]⟩,⟨#[114,114,99,97]⟩,⟨#[114,108,97]⟩,⟨#[114,114,97]⟩,⟨#[100,97,97]⟩,⟨#[99,112,108]⟩,⟨#[115,99,102]⟩,⟨#[99,99,102]⟩]]
def kC (y z:Int):ByteArray:=at8 (bKX.getD z.toNat []) y
set_option maxRecDepth 20000 in
theorem aKF (y:Int) (w:World) (y0:0<=y) (y1:y<=7) :
  Calls prog 156 #[.int .i64 y,.int .i64 0] w fun e w'=>e=.returned (.string (kC y 0))/\Below w.heap.size w w':=by
 rcases bD y0 y1 with rfl|rfl|rfl|rfl|rfl|rfl|rfl|rfl
 all_goals
  go_enter func156,ntmps156
  go_wp2_with (first|(go_at_call 155;refine (cL _).mono ?_;rintro e w1 ⟨rfl,rfl⟩)|(go_at_call 235;refine (cS _).mono ?_;rintro e w1 ⟨rfl,rfl⟩)|(go_at_call 234;refine (cT _).mono ?_;rintro e w1 ⟨rfl,rfl⟩))
  all_goals
   go_ret;refine ⟨cK (by kernel_rfl),?_⟩
   repeat' first|exact zRf|refine aF ?_|refine Below.alloc ?_ ?_ _|exact Nat.le_refl _|(simp;done)|(simp;omega)
set_option maxRecDepth 20000 in
theorem aKG (y:Int) (w:World) (y0:0<=y) (y1:y<=7) :
  Calls prog 156 #[.int .i64 y,.int .i64 1] w fun e w'=>e=.returned (.string (kC y 1))/\Below w.heap.size w w':=by
 rcases bD y0 y1 with rfl|rfl|rfl|rfl|rfl|rfl|rfl|rfl
 all_goals
  go_enter func156,ntmps156
  go_wp2_with (first|(go_at_call 155;refine (cL _).mono ?_;rintro e w1 ⟨rfl,rfl⟩)|(go_at_call 235;refine (cS _).mono ?_;rintro e w1 ⟨rfl,rfl⟩)|(go_at_call 234;refine (cT _).mono ?_;rintro e w1 ⟨rfl,rfl⟩))
  all_goals
   go_ret;refine ⟨cK (by kernel_rfl),?_⟩
   repeat' first|exact zRf|refine aF ?_|refine Below.alloc ?_ ?_ _|exact Nat.le_refl _|(simp;done)|(simp;omega)
set_option maxRecDepth 20000 in
theorem aKH (y:Int) (w:World) (y0:0<=y) (y1:y<=7) :
  Calls prog 156 #[.int .i64 y,.int .i64 2] w fun e w'=>e=.returned (.string (kC y 2))/\Below w.heap.size w w':=by
 rcases bD y0 y1 with rfl|rfl|rfl|rfl|rfl|rfl|rfl|rfl
 all_goals
  go_enter func156,ntmps156
  go_wp2_with (first|(go_at_call 155;refine (cL _).mono ?_;rintro e w1 ⟨rfl,rfl⟩)|(go_at_call 235;refine (cS _).mono ?_;rintro e w1 ⟨rfl,rfl⟩)|(go_at_call 234;refine (cT _).mono ?_;rintro e w1 ⟨rfl,rfl⟩))
  all_goals
   go_ret;refine ⟨cK (by kernel_rfl),?_⟩
   repeat' first|exact zRf|refine aF ?_|refine Below.alloc ?_ ?_ _|exact Nat.le_refl _|(simp;done)|(simp;omega)
set_option maxRecDepth 20000 in
theorem bFY (y:Int) (w:World) (y0:0<=y) (y1:y<=7) :
  Calls prog 156 #[.int .i64 y,.int .i64 3] w fun e w'=>e=.returned (.string (kC y 3))/\Below w.heap.size w w':=by
 rcases bD y0 y1 with rfl|rfl|rfl|rfl|rfl|rfl|rfl|rfl
 all_goals
  go_enter func156,ntmps156
  go_wp2_with fail
  go_region_with (first|(go_at_call 155;refine (cL _).mono ?_;rintro e w1 ⟨rfl,rfl⟩)|(go_at_call 235;refine (cS _).mono ?_;rintro e w1 ⟨rfl,rfl⟩)|(go_at_call 234;refine (cT _).mono ?_;rintro e w1 ⟨rfl,rfl⟩))
  all_goals go_wp2
  all_goals
   go_ret;refine ⟨cK (by kernel_rfl),?_⟩
   repeat' first|exact zRf|refine aF ?_|refine Below.alloc ?_ ?_ _|exact Nat.le_refl _|(simp;done)|(simp;omega)
set_option maxRecDepth 20000 in
theorem bFZ (y:Int) (w:World) (y0:0<=y) (y1:y<=7) :
  Calls prog 156 #[.int .i64 y,.int .i64 4] w fun e w'=>e=.returned (.string (kC y 4))/\Below w.heap.size w w':=by
 rcases bD y0 y1 with rfl|rfl|rfl|rfl|rfl|rfl|rfl|rfl
 all_goals
  go_enter func156,ntmps156
  go_wp2_with (first|(go_at_call 155;refine (cL _).mono ?_;rintro e w1 ⟨rfl,rfl⟩)|(go_at_call 235;refine (cS _).mono ?_;rintro e w1 ⟨rfl,rfl⟩)|(go_at_call 234;refine (cT _).mono ?_;rintro e w1 ⟨rfl,rfl⟩))
  all_goals
   go_ret;refine ⟨cK (by kernel_rfl),?_⟩
   repeat' first|exact zRf|refine aF ?_|refine Below.alloc ?_ ?_ _|exact Nat.le_refl _|(simp;done)|(simp;omega)
set_option maxRecDepth 20000 in
theorem bGA (y:Int) (w:World) (y0:0<=y) (y1:y<=7) :
  Calls prog 156 #[.int .i64 y,.int .i64 5] w fun e w'=>e=.returned (.string (kC y 5))/\Below w.heap.size w w':=by
 rcases bD y0 y1 with rfl|rfl|rfl|rfl|rfl|rfl|rfl|rfl
 all_goals
  go_enter func156,ntmps156
  go_wp2_with (first|(go_at_call 155;refine (cL _).mono ?_;rintro e w1 ⟨rfl,rfl⟩)|(go_at_call 235;refine (cS _).mono ?_;rintro e w1 ⟨rfl,rfl⟩)|(go_at_call 234;refine (cT _).mono ?_;rintro e w1 ⟨rfl,rfl⟩))
  all_goals
   go_ret;refine ⟨cK (by kernel_rfl),?_⟩
   repeat' first|exact zRf|refine aF ?_|refine Below.alloc ?_ ?_ _|exact Nat.le_refl _|(simp;done)|(simp;omega)
set_option maxRecDepth 20000 in
theorem bGB (y:Int) (w:World) (y0:0<=y) (y1:y<=7) :
  Calls prog 156 #[.int .i64 y,.int .i64 6] w fun e w'=>e=.returned (.string (kC y 6))/\Below w.heap.size w w':=by
 rcases bD y0 y1 with rfl|rfl|rfl|rfl|rfl|rfl|rfl|rfl
 all_goals
  go_enter func156,ntmps156
  go_wp2_with (first|(go_at_call 155;refine (cL _).mono ?_;rintro e w1 ⟨rfl,rfl⟩)|(go_at_call 235;refine (cS _).mono ?_;rintro e w1 ⟨rfl,rfl⟩)|(go_at_call 234;refine (cT _).mono ?_;rintro e w1 ⟨rfl,rfl⟩))
  all_goals
   go_ret;refine ⟨cK (by kernel_rfl),?_⟩
   repeat' first|exact zRf|refine aF ?_|refine Below.alloc ?_ ?_ _|exact Nat.le_refl _|(simp;done)|(simp;omega)
set_option maxRecDepth 20000 in
theorem bGC (y:Int) (w:World) (y0:0<=y) (y1:y<=7) :
  Calls prog 156 #[.int .i64 y,.int .i64 7] w fun e w'=>e=.returned (.string (kC y 7))/\Below w.heap.size w w':=by
 rcases bD y0 y1 with rfl|rfl|rfl|rfl|rfl|rfl|rfl|rfl
 all_goals
  go_enter func156,ntmps156
  go_wp2_with (first|(go_at_call 155;refine (cL _).mono ?_;rintro e w1 ⟨rfl,rfl⟩)|(go_at_call 235;refine (cS _).mono ?_;rintro e w1 ⟨rfl,rfl⟩)|(go_at_call 234;refine (cT _).mono ?_;rintro e w1 ⟨rfl,rfl⟩))
  all_goals
   go_ret;refine ⟨cK (by kernel_rfl),?_⟩
   repeat' first|exact zRf|refine aF ?_|refine Below.alloc ?_ ?_ _|exact Nat.le_refl _|(simp;done)|(simp;omega)
theorem aSB (y z:Int) (w:World) (y0:0<=y) (y1:y<=7) (z0:0<=z) (z1:z<=7) :
  Calls prog 156 #[.int .i64 y,.int .i64 z] w fun e w'=>e=.returned (.string (kC y z))/\Below w.heap.size w w':=by
 rcases bD z0 z1 with rfl|rfl|rfl|rfl|rfl|rfl|rfl|rfl
 ·exact aKF y w y0 y1
 ·exact aKG y w y0 y1
 ·exact aKH y w y0 y1
 ·exact bFY y w y0 y1
 ·exact bFZ y w y0 y1
 ·exact bGA y w y0 y1
 ·exact bGB y w y0 y1
 ·exact bGC y w y0 y1
end LowT
end Go.Proofs.YteglcgnhhoenbaaGreatDoor
