import Derived.Test.YteglcgnhhoenbaaGreatDoorQ01
set_option linter.all false
set_option maxRecDepth 20000
set_option maxHeartbeats 8000000
open Go.ChangeShapes Go.WideShapes Go.ChangeAt Go.RowKit
open Go.Proofs.Tryz
namespace Go.Proofs.YteglcgnhhoenbaaGreatDoor
namespace TopT
open Signed (inB aE)
open Tabs
def bKY:List (List ByteArray):=[[⟨#[114,101,116,32,110,122]⟩,⟨#[114,101,116,32,122]⟩,⟨#[114,101,116,32,110,99]⟩,⟨#[114,101,116,32,99]⟩,⟨#[108,100,104,32,91,110,56,93,44,97]⟩,⟨#[97,100,100,32,115,112,44,101,56]⟩,⟨#[108,100,104,32,97,44,91,110,56,93]⟩,⟨#[108,100,32,104,108,44,115,112,43,101,56]⟩],
 [⟨#[112,111,112,32,98,99]⟩,⟨#[114,101,116]⟩,⟨#[112,111,112,32,100,101]⟩,⟨#[114,101,116,105]⟩,⟨#[112,111,112,32,104,108]⟩,⟨#[106,112,32,104,108]⟩,⟨#[112,111,112,32,97,102]⟩,⟨#[108,100,32,115,112,44,104,108]⟩],
 [⟨#[106,112,32,110,122,44,110,49,54]⟩,⟨#[106,112,32,122,44,110,49,54]⟩,⟨#[106,112,32,110,99,44,110,49,54]⟩,⟨#[106,112,32,99,44,110,49,54]⟩,⟨#[108,100,104,32,91,99,93,44,97]⟩,⟨#[108,100,32,91,110,49,54,93,44,97]⟩,⟨#[108,100,104,32,97,44,91,99,93]⟩,⟨#[108,100,32,97,44,91,110,49,54,93]⟩],
 [⟨#[106,112,32,110,49,54]⟩,⟨#[]⟩,⟨#[]⟩,⟨#[]⟩,⟨#[]⟩,⟨#[]⟩,⟨#[100,105]⟩,⟨#[101,105]⟩],
 [⟨#[99,97,108,108,32,110,122,44,110,49,54]⟩,⟨#[99,97,108,108,32,122,44,110,49,54]⟩,⟨#[99,97,108,108,32,110,99,44,110,49,54]⟩,⟨#[99,97,108,108,32,99,44,110,49,54]⟩,⟨#[]⟩,⟨#[]⟩,⟨#[]⟩,⟨#[]⟩],
 [⟨#[112,117,115,104,32,98,99]⟩,⟨#[99,97,108,108,32,110,49,54]⟩,⟨#[112,117,115,104,32,100,101]⟩,⟨#[]⟩,⟨#[112,117,115,104,32,104,108]⟩,⟨#[]⟩,⟨#[112,117,115,104,32,97,102]⟩,⟨#[]⟩],
 [⟨#[97,100,100,32,97,44,110,56]⟩,⟨#[97,100,99,32,97,44,110,56]⟩,⟨#[115,117,98,32,97,44,110,56]⟩,⟨#[115,98,99,32,97,44,110,56]⟩,⟨#[97,110,100,32,97,44,110,56]⟩,⟨#[120,111,114,32,97,44,110,56]⟩,⟨#[111,114,32,97,44,110,56]⟩,⟨#[99,112,32,97,44,110,56]⟩],
 [⟨#[114,115,116,32,36,48,48]⟩,⟨#[114,115,116,32,36,48,56]⟩,⟨#[114,115,116,32,36,49,48]⟩,⟨#[114,115,116,32,36,49,56]⟩,⟨#[114,115,116,32,36,50,48]⟩,⟨#[114,115,116,32,36,50,56]⟩,⟨#[114,115,116,32,36,51,48]⟩,⟨#[114,115,116,32,36,51,56]⟩]]
def mL (y z:Int):ByteArray:=at8 (bKY.getD z.toNat []) y
set_option maxRecDepth 20000 in
theorem bGD (y:Int) (w:World) (y0:0<=y) (y1:y<=7) :
  Calls prog 158 #[.int .i64 y,.int .i64 0] w fun e w'=>e=.returned (.string (mL y 0))/\Below w.heap.size w w':=by
 rcases bD y0 y1 with rfl|rfl|rfl|rfl|rfl|rfl|rfl|rfl
 all_goals
  go_enter func158,ntmps158
  go_wp2_with (first|(go_at_call 155;refine (cL _).mono ?_;rintro e w1 ⟨rfl,rfl⟩)|(go_at_call 235;refine (cS _).mono ?_;rintro e w1 ⟨rfl,rfl⟩)|(go_at_call 234;refine (cT _).mono ?_;rintro e w1 ⟨rfl,rfl⟩)|(go_at_call 157;refine (fH _).mono ?_;rintro e w1 ⟨rfl,rfl⟩)|(go_at_call 51;refine (gZ _ _ (by decide)).mono ?_;rintro e w1 ⟨rfl,rfl⟩))
  all_goals
   go_ret;refine ⟨cK (by kernel_rfl),?_⟩
   repeat' first|exact zRf|refine aF ?_|refine Below.alloc ?_ ?_ _|exact Nat.le_refl _|(simp;done)|(simp;omega)
set_option maxRecDepth 20000 in
theorem bGE (y:Int) (w:World) (y0:0<=y) (y1:y<=7) :
  Calls prog 158 #[.int .i64 y,.int .i64 1] w fun e w'=>e=.returned (.string (mL y 1))/\Below w.heap.size w w':=by
 rcases bD y0 y1 with rfl|rfl|rfl|rfl|rfl|rfl|rfl|rfl
 all_goals
  go_enter func158,ntmps158
  go_wp2_with (first|(go_at_call 155;refine (cL _).mono ?_;rintro e w1 ⟨rfl,rfl⟩)|(go_at_call 235;refine (cS _).mono ?_;rintro e w1 ⟨rfl,rfl⟩)|(go_at_call 234;refine (cT _).mono ?_;rintro e w1 ⟨rfl,rfl⟩)|(go_at_call 157;refine (fH _).mono ?_;rintro e w1 ⟨rfl,rfl⟩)|(go_at_call 51;refine (gZ _ _ (by decide)).mono ?_;rintro e w1 ⟨rfl,rfl⟩))
  all_goals
   go_ret;refine ⟨cK (by kernel_rfl),?_⟩
   repeat' first|exact zRf|refine aF ?_|refine Below.alloc ?_ ?_ _|exact Nat.le_refl _|(simp;done)|(simp;omega)
set_option maxRecDepth 20000 in
theorem bGF (y:Int) (w:World) (y0:0<=y) (y1:y<=7) :
  Calls prog 158 #[.int .i64 y,.int .i64 2] w fun e w'=>e=.returned (.string (mL y 2))/\Below w.heap.size w w':=by
 rcases bD y0 y1 with rfl|rfl|rfl|rfl|rfl|rfl|rfl|rfl
 all_goals
  go_enter func158,ntmps158
  go_wp2_with (first|(go_at_call 155;refine (cL _).mono ?_;rintro e w1 ⟨rfl,rfl⟩)|(go_at_call 235;refine (cS _).mono ?_;rintro e w1 ⟨rfl,rfl⟩)|(go_at_call 234;refine (cT _).mono ?_;rintro e w1 ⟨rfl,rfl⟩)|(go_at_call 157;refine (fH _).mono ?_;rintro e w1 ⟨rfl,rfl⟩)|(go_at_call 51;refine (gZ _ _ (by decide)).mono ?_;rintro e w1 ⟨rfl,rfl⟩))
  all_goals
   go_ret;refine ⟨cK (by kernel_rfl),?_⟩
   repeat' first|exact zRf|refine aF ?_|refine Below.alloc ?_ ?_ _|exact Nat.le_refl _|(simp;done)|(simp;omega)
set_option maxRecDepth 20000 in
theorem bGG (y:Int) (w:World) (y0:0<=y) (y1:y<=7) :
  Calls prog 158 #[.int .i64 y,.int .i64 3] w fun e w'=>e=.returned (.string (mL y 3))/\Below w.heap.size w w':=by
 rcases bD y0 y1 with rfl|rfl|rfl|rfl|rfl|rfl|rfl|rfl
 all_goals
  go_enter func158,ntmps158
  go_wp2_with (first|(go_at_call 155;refine (cL _).mono ?_;rintro e w1 ⟨rfl,rfl⟩)|(go_at_call 235;refine (cS _).mono ?_;rintro e w1 ⟨rfl,rfl⟩)|(go_at_call 234;refine (cT _).mono ?_;rintro e w1 ⟨rfl,rfl⟩)|(go_at_call 157;refine (fH _).mono ?_;rintro e w1 ⟨rfl,rfl⟩)|(go_at_call 51;refine (gZ _ _ (by decide)).mono ?_;rintro e w1 ⟨rfl,rfl⟩))
  all_goals
   go_ret;refine ⟨cK (by kernel_rfl),?_⟩
   repeat' first|exact zRf|refine aF ?_|refine Below.alloc ?_ ?_ _|exact Nat.le_refl _|(simp;done)|(simp;omega)
set_option maxRecDepth 20000 in
theorem bGH (y:Int) (w:World) (y0:0<=y) (y1:y<=7) :
  Calls prog 158 #[.int .i64 y,.int .i64 4] w fun e w'=>e=.returned (.string (mL y 4))/\Below w.heap.size w w':=by
 rcases bD y0 y1 with rfl|rfl|rfl|rfl|rfl|rfl|rfl|rfl
 all_goals
  go_enter func158,ntmps158
  go_wp2_with (first|(go_at_call 155;refine (cL _).mono ?_;rintro e w1 ⟨rfl,rfl⟩)|(go_at_call 235;refine (cS _).mono ?_;rintro e w1 ⟨rfl,rfl⟩)|(go_at_call 234;refine (cT _).mono ?_;rintro e w1 ⟨rfl,rfl⟩)|(go_at_call 157;refine (fH _).mono ?_;rintro e w1 ⟨rfl,rfl⟩)|(go_at_call 51;refine (gZ _ _ (by decide)).mono ?_;rintro e w1 ⟨rfl,rfl⟩))
  all_goals
   go_ret;refine ⟨cK (by kernel_rfl),?_⟩
   repeat' first|exact zRf|refine aF ?_|refine Below.alloc ?_ ?_ _|exact Nat.le_refl _|(simp;done)|(simp;omega)
set_option maxRecDepth 20000 in
theorem bGI (y:Int) (w:World) (y0:0<=y) (y1:y<=7) :
  Calls prog 158 #[.int .i64 y,.int .i64 5] w fun e w'=>e=.returned (.string (mL y 5))/\Below w.heap.size w w':=by
 rcases bD y0 y1 with rfl|rfl|rfl|rfl|rfl|rfl|rfl|rfl
 all_goals
  go_enter func158,ntmps158
  go_wp2_with (first|(go_at_call 155;refine (cL _).mono ?_;rintro e w1 ⟨rfl,rfl⟩)|(go_at_call 235;refine (cS _).mono ?_;rintro e w1 ⟨rfl,rfl⟩)|(go_at_call 234;refine (cT _).mono ?_;rintro e w1 ⟨rfl,rfl⟩)|(go_at_call 157;refine (fH _).mono ?_;rintro e w1 ⟨rfl,rfl⟩)|(go_at_call 51;refine (gZ _ _ (by decide)).mono ?_;rintro e w1 ⟨rfl,rfl⟩))
  all_goals
   go_ret;refine ⟨cK (by kernel_rfl),?_⟩
   repeat' first|exact zRf|refine aF ?_|refine Below.alloc ?_ ?_ _|exact Nat.le_refl _|(simp;done)|(simp;omega)
set_option maxRecDepth 20000 in
theorem bGJ (y:Int) (w:World) (y0:0<=y) (y1:y<=7) :
  Calls prog 158 #[.int .i64 y,.int .i64 6] w fun e w'=>e=.returned (.string (mL y 6))/\Below w.heap.size w w':=by
 rcases bD y0 y1 with rfl|rfl|rfl|rfl|rfl|rfl|rfl|rfl
 all_goals
  go_enter func158,ntmps158
  go_wp2_with (first|(go_at_call 155;refine (cL _).mono ?_;rintro e w1 ⟨rfl,rfl⟩)|(go_at_call 235;refine (cS _).mono ?_;rintro e w1 ⟨rfl,rfl⟩)|(go_at_call 234;refine (cT _).mono ?_;rintro e w1 ⟨rfl,rfl⟩)|(go_at_call 157;refine (fH _).mono ?_;rintro e w1 ⟨rfl,rfl⟩)|(go_at_call 51;refine (gZ _ _ (by decide)).mono ?_;rintro e w1 ⟨rfl,rfl⟩))
  all_goals
   go_ret;refine ⟨cK (by kernel_rfl),?_⟩
   repeat' first|exact zRf|refine aF ?_|refine Below.alloc ?_ ?_ _|exact Nat.le_refl _|(simp;done)|(simp;omega)
set_option maxRecDepth 20000 in
theorem bGK (y:Int) (w:World) (y0:0<=y) (y1:y<=7) :
  Calls prog 158 #[.int .i64 y,.int .i64 7] w fun e w'=>e=.returned (.string (mL y 7))/\Below w.heap.size w w':=by
 rcases bD y0 y1 with rfl|rfl|rfl|rfl|rfl|rfl|rfl|rfl
 all_goals
  go_enter func158,ntmps158
  go_wp2_with (first|(go_at_call 155;refine (cL _).mono ?_;rintro e w1 ⟨rfl,rfl⟩)|(go_at_call 235;refine (cS _).mono ?_;rintro e w1 ⟨rfl,rfl⟩)|(go_at_call 234;refine (cT _).mono ?_;rintro e w1 ⟨rfl,rfl⟩)|(go_at_call 157;refine (fH _).mono ?_;rintro e w1 ⟨rfl,rfl⟩)|(go_at_call 51;refine (gZ _ _ (by decide)).mono ?_;rintro e w1 ⟨rfl,rfl⟩))
  all_goals
   go_ret;refine ⟨cK (by kernel_rfl),?_⟩
   repeat' first|exact zRf|refine aF ?_|refine Below.alloc ?_ ?_ _|exact Nat.le_refl _|(simp;done)|(simp;omega)
theorem aSC (y z:Int) (w:World) (y0:0<=y) (y1:y<=7) (z0:0<=z) (z1:z<=7) :
  Calls prog 158 #[.int .i64 y,.int .i64 z] w fun e w'=>e=.returned (.string (mL y z))/\Below w.heap.size w w':=by
 rcases bD z0 z1 with rfl|rfl|rfl|rfl|rfl|rfl|rfl|rfl
 ·exact bGD y w y0 y1
 ·exact bGE y w y0 y1
 ·exact bGF y w y0 y1
 ·exact bGG y w y0 y1
 ·exact bGH y w y0 y1
 ·exact bGI y w y0 y1
 ·exact bGJ y w y0 y1
 ·exact bGK y w y0 y1
end TopT
end Go.Proofs.YteglcgnhhoenbaaGreatDoor
