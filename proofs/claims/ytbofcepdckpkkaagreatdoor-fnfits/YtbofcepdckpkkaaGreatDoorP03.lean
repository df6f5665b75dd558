import Derived.Test.YtbofcepdckpkkaaGreatDoorP00
import Derived.OwnWalk
import Derived.Laws.BytesArg
import Derived.LoopN
import Derived.Below
import Derived.Lib.ItoaLen
set_option linter.all false
set_option maxRecDepth 20000
set_option maxHeartbeats 8000000
open Go.ChangeShapes Go.WideShapes Go.ChangeAt Go.RowKit
open Go.Proofs.Tryz
namespace Go.Proofs.YtbofcepdckpkkaaGreatDoor
namespace Shape
open Signed (isByte_any)
open Signed (inB)
def at8 (l:List ByteArray) (i:Int):ByteArray:=l.getD i.toNat ⟨#[]⟩
theorem cases8 {y:Int} (h0:0<=y) (h1:y<=7):y=0 \/ y=1 \/ y=2 \/ y=3 \/ y=4 \/ y=5 \/ y=6 \/ y=7:=by omega
theorem cases2 {q:Int} (h0:0<=q) (h1:q<=1):q=0 \/ q=1:=by omega
theorem ret_str {a b:ByteArray} (h:a=b):Ending.returned (.string a)=.returned (.string b):=by rw [h]
theorem partsOf_any (code:Int) (w:World) (h0:0<=code) (h1:code<=255) :
  Calls prog 54 #[.int .i64 code] w fun e w'=>e=.returned (.agg #[.int .i64 (code / 64),.int .i64 (code / 8%8),.int .i64 (code%8),.int .i64 (code / 8%8 / 2),.int .i64 (code / 8%8%2)])/\Below w.heap.size w w':=by
 go_enter func54,ntmps54
 go_wp2
 refine bodyPost_ret (v:=.agg #[.int .i64 (code / 64),.int .i64 (code / 8%8),.int .i64 (code%8),.int .i64 (code / 8%8 / 2),.int .i64 (code / 8%8%2)]) (by simp [results,results54,go_sem]) rfl ⟨rfl,?_⟩
 exact zAl _ _
def low0:List ByteArray:=[⟨#[110,111,112]⟩,⟨#[108,100,32,91,110,49,54,93,44,115,112]⟩,⟨#[115,116,111,112,32,110,56]⟩,⟨#[106,114,32,101,56]⟩,⟨#[106,114,32,67,44,101,56]⟩,⟨#[106,114,32,67,44,101,56]⟩,⟨#[106,114,32,67,44,101,56]⟩,⟨#[106,114,32,67,44,101,56]⟩]
theorem low0_at {i:Int} (h0:0<=i) (h1:i<=7) (w:World):(Instr.index 107 (.agg #[.string ⟨#[110,111,112]⟩,.string ⟨#[108,100,32,91,110,49,54,93,44,115,112]⟩,.string ⟨#[115,116,111,112,32,110,56]⟩,.string ⟨#[106,114,32,101,56]⟩,.string ⟨#[106,114,32,67,44,101,56]⟩,.string ⟨#[106,114,32,67,44,101,56]⟩,.string ⟨#[106,114,32,67,44,101,56]⟩,.string ⟨#[106,114,32,67,44,101,56]⟩]) (.int .i64 i)).run prog w=.ok (.string (at8 low0 i)) w:=by
 rcases cases8 h0 h1 with rfl|rfl|rfl|rfl|rfl|rfl|rfl|rfl
 all_goals kernel_rfl
def low1:List ByteArray:=[⟨#[108,100,32,80,44,110,49,54]⟩,⟨#[97,100,100,32,104,108,44,80]⟩]
theorem low1_at {i:Int} (h0:0<=i) (h1:i<=1) (w:World):(Instr.index 108 (.agg #[.string ⟨#[108,100,32,80,44,110,49,54]⟩,.string ⟨#[97,100,100,32,104,108,44,80]⟩]) (.int .i64 i)).run prog w=.ok (.string (at8 low1 i)) w:=by
 rcases cases2 h0 h1 with rfl|rfl
 all_goals kernel_rfl
def low2:List ByteArray:=[⟨#[108,100,32,77,44,97]⟩,⟨#[108,100,32,97,44,77]⟩]
theorem low2_at {i:Int} (h0:0<=i) (h1:i<=1) (w:World):(Instr.index 108 (.agg #[.string ⟨#[108,100,32,77,44,97]⟩,.string ⟨#[108,100,32,97,44,77]⟩]) (.int .i64 i)).run prog w=.ok (.string (at8 low2 i)) w:=by
 rcases cases2 h0 h1 with rfl|rfl
 all_goals kernel_rfl
def low3:List ByteArray:=[⟨#[105,110,99,32,80]⟩,⟨#[100,101,99,32,80]⟩]
theorem low3_at {i:Int} (h0:0<=i) (h1:i<=1) (w:World):(Instr.index 108 (.agg #[.string ⟨#[105,110,99,32,80]⟩,.string ⟨#[100,101,99,32,80]⟩]) (.int .i64 i)).run prog w=.ok (.string (at8 low3 i)) w:=by
 rcases cases2 h0 h1 with rfl|rfl
 all_goals kernel_rfl
def low7:List ByteArray:=[⟨#[114,108,99,97]⟩,⟨#[114,114,99,97]⟩,⟨#[114,108,97]⟩,⟨#[114,114,97]⟩,⟨#[100,97,97]⟩,⟨#[99,112,108]⟩,⟨#[115,99,102]⟩,⟨#[99,99,102]⟩]
theorem low7_at {i:Int} (h0:0<=i) (h1:i<=7) (w:World):(Instr.index 107 (.agg #[.string ⟨#[114,108,99,97]⟩,.string ⟨#[114,114,99,97]⟩,.string ⟨#[114,108,97]⟩,.string ⟨#[114,114,97]⟩,.string ⟨#[100,97,97]⟩,.string ⟨#[99,112,108]⟩,.string ⟨#[115,99,102]⟩,.string ⟨#[99,99,102]⟩]) (.int .i64 i)).run prog w=.ok (.string (at8 low7 i)) w:=by
 rcases cases8 h0 h1 with rfl|rfl|rfl|rfl|rfl|rfl|rfl|rfl
 all_goals kernel_rfl
def lowE:List ByteArray:=[⟨#[105,110,99,32,82]⟩,⟨#[100,101,99,32,82]⟩,⟨#[108,100,32,82,44,110,56]⟩]
theorem lowE_0 (w:World):(Instr.index 79 (.agg #[.string ⟨#[105,110,99,32,82]⟩,.string ⟨#[100,101,99,32,82]⟩,.string ⟨#[108,100,32,82,44,110,56]⟩]) (.int .i64 0)).run prog w=.ok (.string (at8 lowE 0)) w:=by kernel_rfl
theorem lowE_1 (w:World):(Instr.index 79 (.agg #[.string ⟨#[105,110,99,32,82]⟩,.string ⟨#[100,101,99,32,82]⟩,.string ⟨#[108,100,32,82,44,110,56]⟩]) (.int .i64 1)).run prog w=.ok (.string (at8 lowE 1)) w:=by kernel_rfl
theorem lowE_2 (w:World):(Instr.index 79 (.agg #[.string ⟨#[105,110,99,32,82]⟩,.string ⟨#[100,101,99,32,82]⟩,.string ⟨#[108,100,32,82,44,110,56]⟩]) (.int .i64 2)).run prog w=.ok (.string (at8 lowE 2)) w:=by kernel_rfl
def lowS (y z:Int):ByteArray:=if z=0 then at8 low0 y else if z=1 then at8 low1 (y%2) else if z=2 then at8 low2 (y%2) else if z=3 then at8 low3 (y%2) else if z=7 then at8 low7 y else at8 lowE (z-4)
theorem lowShape_any (x y z p q:Int) (hq:q=y%2) (w:World) (y0:0<=y) (y1:y<=7) (z0:0<=z) (z1:z<=7) :
  Calls prog 55 #[.agg #[.int .i64 x,.int .i64 y,.int .i64 z,.int .i64 p,.int .i64 q]] w fun e w'=>e=.returned (.string (lowS y z))/\Below w.heap.size w w':=by
 subst hq
 have q0:0<=y%2:=by omega
 have q1:y%2<=1:=by omega
 rcases cases8 z0 z1 with rfl|rfl|rfl|rfl|rfl|rfl|rfl|rfl
 ·have hi:=fun w:World=>low0_at (i:=y) y0 y1 w
  go_enter func55,ntmps55
  go_wp2
  go_ret
  exact ⟨rfl,zAl _ _⟩
 ·have hi:=fun w:World=>low1_at (i:=y%2) q0 q1 w
  go_enter func55,ntmps55
  go_wp2
  go_ret
  exact ⟨rfl,zAl _ _⟩
 ·have hi:=fun w:World=>low2_at (i:=y%2) q0 q1 w
  go_enter func55,ntmps55
  go_wp2
  go_ret
  exact ⟨rfl,zAl _ _⟩
 ·have hi:=fun w:World=>low3_at (i:=y%2) q0 q1 w
  go_enter func55,ntmps55
  go_wp2
  go_ret
  exact ⟨rfl,zAl _ _⟩
 ·have hi:=fun w:World=>lowE_0 w
  go_enter func55,ntmps55
  go_wp2
  go_ret
  exact ⟨rfl,zAl _ _⟩
 ·have hi:=fun w:World=>lowE_1 w
  go_enter func55,ntmps55
  go_wp2
  go_ret
  exact ⟨rfl,zAl _ _⟩
 ·have hi:=fun w:World=>lowE_2 w
  go_enter func55,ntmps55
  go_wp2
  go_ret
  exact ⟨rfl,zAl _ _⟩
 ·have hi:=fun w:World=>low7_at (i:=y) y0 y1 w
  go_enter func55,ntmps55
  go_wp2
  go_ret
  exact ⟨rfl,zAl _ _⟩
def high0:List ByteArray:=[⟨#[114,101,116,32,67]⟩,⟨#[114,101,116,32,67]⟩,⟨#[114,101,116,32,67]⟩,⟨#[114,101,116,32,67]⟩,⟨#[108,100,104,32,91,110,56,93,44,97]⟩,⟨#[97,100,100,32,115,112,44,101,56]⟩,⟨#[108,100,104,32,97,44,91,110,56,93]⟩,⟨#[108,100,32,104,108,44,115,112,43,101,56]⟩]
theorem high0_at {i:Int} (h0:0<=i) (h1:i<=7) (w:World):(Instr.index 107 (.agg #[.string ⟨#[114,101,116,32,67]⟩,.string ⟨#[114,101,116,32,67]⟩,.string ⟨#[114,101,116,32,67]⟩,.string ⟨#[114,101,116,32,67]⟩,.string ⟨#[108,100,104,32,91,110,56,93,44,97]⟩,.string ⟨#[97,100,100,32,115,112,44,101,56]⟩,.string ⟨#[108,100,104,32,97,44,91,110,56,93]⟩,.string ⟨#[108,100,32,104,108,44,115,112,43,101,56]⟩]) (.int .i64 i)).run prog w=.ok (.string (at8 high0 i)) w:=by
 rcases cases8 h0 h1 with rfl|rfl|rfl|rfl|rfl|rfl|rfl|rfl
 all_goals kernel_rfl
def high1:List ByteArray:=[⟨#[112,111,112,32,81]⟩,⟨#[114,101,116]⟩,⟨#[112,111,112,32,81]⟩,⟨#[114,101,116,105]⟩,⟨#[112,111,112,32,81]⟩,⟨#[106,112,32,104,108]⟩,⟨#[112,111,112,32,81]⟩,⟨#[108,100,32,115,112,44,104,108]⟩]
theorem high1_at {i:Int} (h0:0<=i) (h1:i<=7) (w:World):(Instr.index 107 (.agg #[.string ⟨#[112,111,112,32,81]⟩,.string ⟨#[114,101,116]⟩,.string ⟨#[112,111,112,32,81]⟩,.string ⟨#[114,101,116,105]⟩,.string ⟨#[112,111,112,32,81]⟩,.string ⟨#[106,112,32,104,108]⟩,.string ⟨#[112,111,112,32,81]⟩,.string ⟨#[108,100,32,115,112,44,104,108]⟩]) (.int .i64 i)).run prog w=.ok (.string (at8 high1 i)) w:=by
 rcases cases8 h0 h1 with rfl|rfl|rfl|rfl|rfl|rfl|rfl|rfl
 all_goals kernel_rfl
def high2:List ByteArray:=[⟨#[106,112,32,67,44,110,49,54]⟩,⟨#[106,112,32,67,44,110,49,54]⟩,⟨#[106,112,32,67,44,110,49,54]⟩,⟨#[106,112,32,67,44,110,49,54]⟩,⟨#[108,100,104,32,91,99,93,44,97]⟩,⟨#[108,100,32,91,110,49,54,93,44,97]⟩,⟨#[108,100,104,32,97,44,91,99,93]⟩,⟨#[108,100,32,97,44,91,110,49,54,93]⟩]
theorem high2_at {i:Int} (h0:0<=i) (h1:i<=7) (w:World):(Instr.index 107 (.agg #[.string ⟨#[106,112,32,67,44,110,49,54]⟩,.string ⟨#[106,112,32,67,44,110,49,54]⟩,.string ⟨#[106,112,32,67,44,110,49,54]⟩,.string ⟨#[106,112,32,67,44,110,49,54]⟩,.string ⟨#[108,100,104,32,91,99,93,44,97]⟩,.string ⟨#[108,100,32,91,110,49,54,93,44,97]⟩,.string ⟨#[108,100,104,32,97,44,91,99,93]⟩,.string ⟨#[108,100,32,97,44,91,110,49,54,93]⟩]) (.int .i64 i)).run prog w=.ok (.string (at8 high2 i)) w:=by
 rcases cases8 h0 h1 with rfl|rfl|rfl|rfl|rfl|rfl|rfl|rfl
 all_goals kernel_rfl
def high3:List ByteArray:=[⟨#[106,112,32,110,49,54]⟩,⟨#[]⟩,⟨#[]⟩,⟨#[]⟩,⟨#[]⟩,⟨#[]⟩,⟨#[100,105]⟩,⟨#[101,105]⟩]
theorem high3_at {i:Int} (h0:0<=i) (h1:i<=7) (w:World):(Instr.index 107 (.agg #[.string ⟨#[106,112,32,110,49,54]⟩,.string ⟨#[]⟩,.string ⟨#[]⟩,.string ⟨#[]⟩,.string ⟨#[]⟩,.string ⟨#[]⟩,.string ⟨#[100,105]⟩,.string ⟨#[101,105]⟩]) (.int .i64 i)).run prog w=.ok (.string (at8 high3 i)) w:=by
 rcases cases8 h0 h1 with rfl|rfl|rfl|rfl|rfl|rfl|rfl|rfl
 all_goals kernel_rfl
def high4:List ByteArray:=[⟨#[99,97,108,108,32,67,44,110,49,54]⟩,⟨#[99,97,108,108,32,67,44,110,49,54]⟩,⟨#[99,97,108,108,32,67,44,110,49,54]⟩,⟨#[99,97,108,108,32,67,44,110,49,54]⟩,⟨#[]⟩,⟨#[]⟩,⟨#[]⟩,⟨#[]⟩]
theorem high4_at {i:Int} (h0:0<=i) (h1:i<=7) (w:World):(Instr.index 107 (.agg #[.string ⟨#[99,97,108,108,32,67,44,110,49,54]⟩,.string ⟨#[99,97,108,108,32,67,44,110,49,54]⟩,.string ⟨#[99,97,108,108,32,67,44,110,49,54]⟩,.string ⟨#[99,97,108,108,32,67,44,110,49,54]⟩,.string ⟨#[]⟩,.string ⟨#[]⟩,.string ⟨#[]⟩,.string ⟨#[]⟩]) (.int .i64 i)).run prog w=.ok (.string (at8 high4 i)) w:=by
 rcases cases8 h0 h1 with rfl|rfl|rfl|rfl|rfl|rfl|rfl|rfl
 all_goals kernel_rfl
def high5:List ByteArray:=[⟨#[112,117,115,104,32,81]⟩,⟨#[99,97,108,108,32,110,49,54]⟩,⟨#[112,117,115,104,32,81]⟩,⟨#[]⟩,⟨#[112,117,115,104,32,81]⟩,⟨#[]⟩,⟨#[112,117,115,104,32,81]⟩,⟨#[]⟩]
theorem high5_at {i:Int} (h0:0<=i) (h1:i<=7) (w:World):(Instr.index 107 (.agg #[.string ⟨#[112,117,115,104,32,81]⟩,.string ⟨#[99,97,108,108,32,110,49,54]⟩,.string ⟨#[112,117,115,104,32,81]⟩,.string ⟨#[]⟩,.string ⟨#[112,117,115,104,32,81]⟩,.string ⟨#[]⟩,.string ⟨#[112,117,115,104,32,81]⟩,.string ⟨#[]⟩]) (.int .i64 i)).run prog w=.ok (.string (at8 high5 i)) w:=by
 rcases cases8 h0 h1 with rfl|rfl|rfl|rfl|rfl|rfl|rfl|rfl
 all_goals kernel_rfl
def highE:List ByteArray:=[⟨#[65,32,97,44,110,56]⟩,⟨#[114,115,116,32,72]⟩]
theorem highE_0 (w:World):(Instr.index 108 (.agg #[.string ⟨#[65,32,97,44,110,56]⟩,.string ⟨#[114,115,116,32,72]⟩]) (.int .i64 0)).run prog w=.ok (.string (at8 highE 0)) w:=by kernel_rfl
theorem highE_1 (w:World):(Instr.index 108 (.agg #[.string ⟨#[65,32,97,44,110,56]⟩,.string ⟨#[114,115,116,32,72]⟩]) (.int .i64 1)).run prog w=.ok (.string (at8 highE 1)) w:=by kernel_rfl
def highS (y z:Int):ByteArray:=if z=0 then at8 high0 y else if z=1 then at8 high1 y else if z=2 then at8 high2 y else if z=3 then at8 high3 y else if z=4 then at8 high4 y else if z=5 then at8 high5 y else at8 highE (z-6)
theorem highShape_any (x y z p q:Int) (hq:q=y%2) (w:World) (y0:0<=y) (y1:y<=7) (z0:0<=z) (z1:z<=7) :
  Calls prog 56 #[.agg #[.int .i64 x,.int .i64 y,.int .i64 z,.int .i64 p,.int .i64 q]] w fun e w'=>e=.returned (.string (highS y z))/\Below w.heap.size w w':=by
 subst hq
 have q0:0<=y%2:=by omega
 have q1:y%2<=1:=by omega
 rcases cases8 z0 z1 with rfl|rfl|rfl|rfl|rfl|rfl|rfl|rfl
 ·have hi:=fun w:World=>high0_at (i:=y) y0 y1 w
  go_enter func56,ntmps56
  go_wp2
  go_ret
  exact ⟨rfl,zAl _ _⟩
 ·have hi:=fun w:World=>high1_at (i:=y) y0 y1 w
  go_enter func56,ntmps56
  go_wp2
  go_ret
  exact ⟨rfl,zAl _ _⟩
 ·have hi:=fun w:World=>high2_at (i:=y) y0 y1 w
  go_enter func56,ntmps56
  go_wp2
  go_ret
  exact ⟨rfl,zAl _ _⟩
 ·have hi:=fun w:World=>high3_at (i:=y) y0 y1 w
  go_enter func56,ntmps56
  go_wp2
  go_ret
  exact ⟨rfl,zAl _ _⟩
 ·have hi:=fun w:World=>high4_at (i:=y) y0 y1 w
  go_enter func56,ntmps56
  go_wp2
  go_ret
  exact ⟨rfl,zAl _ _⟩
 ·have hi:=fun w:World=>high5_at (i:=y) y0 y1 w
  go_enter func56,ntmps56
  go_wp2
  go_ret
  exact ⟨rfl,zAl _ _⟩
 ·have hi:=fun w:World=>highE_0 w
  go_enter func56,ntmps56
  go_wp2
  go_ret
  exact ⟨rfl,zAl _ _⟩
 ·have hi:=fun w:World=>highE_1 w
  go_enter func56,ntmps56
  go_wp2
  go_ret
  exact ⟨rfl,zAl _ _⟩
def shapeR (code:Int) (cb:Bool):ByteArray :=
 if cb=true then (if code / 64=0 then ⟨#[84,32,83]⟩ else ⟨#[66,32,89,44,83]⟩)
 else if code / 64=0 then lowS (code / 8%8) (code%8) else if code=118 then ⟨#[104,97,108,116]⟩ else if code / 64=1 then ⟨#[108,100,32,82,44,83]⟩ else if code / 64=2 then ⟨#[65,32,97,44,83]⟩ else highS (code / 8%8) (code%8)
def shape (code:Int) (cb:Bool):ByteArray:=if inB code 0 255=true then shapeR code cb else ⟨#[]⟩
theorem shapeR_0 {code:Int} (h:code / 64=0):shapeR code false=lowS (code / 8%8) (code%8):=by unfold shapeR;rw [if_neg (by decide),if_pos h]
theorem shapeR_1 {code:Int} (h:code / 64=1) (hh:¬ code=118):shapeR code false=⟨#[108,100,32,82,44,83]⟩:=by unfold shapeR;rw [if_neg (by decide),if_neg (by omega),if_neg hh,if_pos h]
theorem shapeR_2 {code:Int} (h:code / 64=2) (hh:¬ code=118):shapeR code false=⟨#[65,32,97,44,83]⟩:=by unfold shapeR;rw [if_neg (by decide),if_neg (by omega),if_neg hh,if_neg (by omega),if_pos h]
theorem shapeR_3 {code:Int} (h:code / 64=3) (hh:¬ code=118):shapeR code false=highS (code / 8%8) (code%8):=by unfold shapeR;rw [if_neg (by decide),if_neg (by omega),if_neg hh,if_neg (by omega),if_neg (by omega)]
theorem shapeR_c0 {code:Int} (h:code / 64=0):shapeR code true=⟨#[84,32,83]⟩:=by unfold shapeR;rw [if_pos rfl,if_pos h]
theorem shapeR_c1 {code:Int} (h:¬ code / 64=0):shapeR code true=⟨#[66,32,89,44,83]⟩:=by unfold shapeR;rw [if_pos rfl,if_neg h]
theorem partsOf_x (code x:Int) (hx:code / 64=x) (w:World) (h0:0<=code) (h1:code<=255) :
  Calls prog 54 #[.int .i64 code] w fun e w'=>e=.returned (.agg #[.int .i64 x,.int .i64 (code / 8%8),.int .i64 (code%8),.int .i64 (code / 8%8 / 2),.int .i64 (code / 8%8%2)])/\Below w.heap.size w w':=by
 subst hx;exact partsOf_any code w h0 h1
theorem shapeOf_any (code:Int) (cb:Bool) (w:World) :
  Calls prog 25 #[.int .i64 code,.bool cb] w fun e w'=>e=.returned (.string (shape code cb))/\Below w.heap.size w w':=by
 unfold shape
 cases hb:inB code 0 255
 ·go_enter func25,ntmps25
  go_wp2_with (go_at_call 53;refine (isByte_any _ _).mono ?_;rintro e w' ⟨rfl,rfl⟩)
  go_ret
  exact ⟨rfl,Below.refl _ _⟩
 obtain ⟨h0,h1⟩:=of_decide_eq_true hb
 rw [if_pos rfl]
 have hx:code / 64=0 \/ code / 64=1 \/ code / 64=2 \/ code / 64=3:=by omega
 have y0:0<=code / 8%8:=by omega
 have y1:code / 8%8<=7:=by omega
 have z0:0<=code%8:=by omega
 have z1:code%8<=7:=by omega
 by_cases hh:code=118
 ·subst hh
  cases cb
  all_goals
   go_enter func25,ntmps25
   go_wp2_with (first|(go_at_call 53;refine (isByte_any _ _).mono ?_;rintro e w' ⟨rfl,rfl⟩)|(go_at_call 54;refine (partsOf_any _ _ (by decide) (by decide)).mono ?_;rintro e w1 ⟨rfl,hB1⟩))
   go_ret
   exact ⟨ret_str rfl,hB1.alloc hB1.size _⟩
 have hh':(code == 118)=false:=by simpa using hh
 cases cb
 ·rcases hx with hx|hx|hx|hx
  ·rw [shapeR_0 hx]
   go_enter func25,ntmps25
   go_wp2_with (first|(go_at_call 53;refine (isByte_any _ _).mono ?_;rintro e w' ⟨rfl,rfl⟩)|(go_at_call 54;refine (partsOf_x _ _ hx _ h0 h1).mono ?_;rintro e w1 ⟨rfl,hB1⟩)|(go_at_call 55;refine (lowShape_any _ _ _ _ _ (by omega) _ y0 y1 z0 z1).mono ?_;rintro e w2 ⟨rfl,hB2⟩))
   go_ret
   exact ⟨rfl,(hB1.alloc hB1.size _).trans (hB2.mono (hB1.alloc hB1.size _).size)⟩
  ·rw [shapeR_1 hx hh]
   go_enter func25,ntmps25
   go_wp2_with (first|(go_at_call 53;refine (isByte_any _ _).mono ?_;rintro e w' ⟨rfl,rfl⟩)|(go_at_call 54;refine (partsOf_x _ _ hx _ h0 h1).mono ?_;rintro e w1 ⟨rfl,hB1⟩))
   go_ret
   exact ⟨rfl,hB1.alloc hB1.size _⟩
  ·rw [shapeR_2 hx hh]
   go_enter func25,ntmps25
   go_wp2_with (first|(go_at_call 53;refine (isByte_any _ _).mono ?_;rintro e w' ⟨rfl,rfl⟩)|(go_at_call 54;refine (partsOf_x _ _ hx _ h0 h1).mono ?_;rintro e w1 ⟨rfl,hB1⟩))
   go_ret
   exact ⟨rfl,hB1.alloc hB1.size _⟩
  ·rw [shapeR_3 hx hh]
   go_enter func25,ntmps25
   go_wp2_with (first|(go_at_call 53;refine (isByte_any _ _).mono ?_;rintro e w' ⟨rfl,rfl⟩)|(go_at_call 54;refine (partsOf_x _ _ hx _ h0 h1).mono ?_;rintro e w1 ⟨rfl,hB1⟩)|(go_at_call 56;refine (highShape_any _ _ _ _ _ (by omega) _ y0 y1 z0 z1).mono ?_;rintro e w2 ⟨rfl,hB2⟩))
   go_ret
   exact ⟨rfl,(hB1.alloc hB1.size _).trans (hB2.mono (hB1.alloc hB1.size _).size)⟩
 ·by_cases hx0:code / 64=0
  ·rw [shapeR_c0 hx0]
   go_enter func25,ntmps25
   go_wp2_with (first|(go_at_call 53;refine (isByte_any _ _).mono ?_;rintro e w' ⟨rfl,rfl⟩)|(go_at_call 54;refine (partsOf_x _ _ hx0 _ h0 h1).mono ?_;rintro e w1 ⟨rfl,hB1⟩))
   go_ret
   exact ⟨rfl,hB1.alloc hB1.size _⟩
  ·rw [shapeR_c1 hx0]
   have hx1:(code / 64 == 0)=false:=by simpa using hx0
   go_enter func25,ntmps25
   go_wp2_with (first|(go_at_call 53;refine (isByte_any _ _).mono ?_;rintro e w' ⟨rfl,rfl⟩)|(go_at_call 54;refine (partsOf_any _ _ h0 h1).mono ?_;rintro e w1 ⟨rfl,hB1⟩))
   go_ret
   exact ⟨rfl,hB1.alloc hB1.size _⟩
end Shape
namespace Bld
open Go.RowKit
abbrev Holds (B b:Nat) (bs:List Value) (w:World):Prop:=Lib.IsBuilder 83 5 B b bs w
theorem infoB:(prog.info? 83).map (·.size)=some 2:=by kernel_rfl
theorem lies:liesAt prog prog.depth 83 (2 / prog.cellsOf 83) 0 83 1=true:=by kernel_rfl
theorem ext60 (x:Value) (w:World):(callFunc 105 #[x]).run prog w=.ok (.value x) w:=by
 rw [run_callFunc_extern func105 (by kernel_rfl) (by kernel_rfl) (by kernel_rfl) (e:=Extern.AbiNoEscape.same) (by kernel_rfl),Lib.run_noEscape]
 rfl
theorem check_used (b:Nat) (w:World) (h0:w.cell? ⟨b,0,none⟩=some (.pointer (some ⟨b,0,none⟩))) :
  Calls prog 84 #[.pointer (some ⟨b,0,none⟩)] w fun e w'=>e=.returned (.tuple #[])/\w'=w:=by
 obtain ⟨j,hj,_⟩:=Option.map_eq_some_iff.1 infoB
 have hne:=fun w=>Lib.run_neq_ptr_same (P:=prog) w ⟨b,0,none⟩ underlying81 hj
 go_enter func84,ntmps84
 go_wp2
 go_end0
 exact ⟨rfl,rfl⟩
theorem check_fresh (b:Nat) (w:World) (h0:w.cell? ⟨b,0,none⟩=some (.pointer none)) (hsh:w.shape? b=some (83,2)) (hfz:w.frozen? ⟨b,0,none⟩=false) :
  Calls prog 84 #[.pointer (some ⟨b,0,none⟩)] w fun e w'=>e=.returned (.tuple #[])/\w'=w.setCell ⟨b,0,none⟩ (.pointer (some ⟨b,0,none⟩)):=by
 obtain ⟨j,hj,hjs⟩:=Option.map_eq_some_iff.1 infoB
 have q1:(convert 81 126 (.pointer (some ⟨b,0,none⟩))).run prog w=.ok (.pointer (some ⟨b,0,none⟩)) w:=Lib.run_to_unsafe w ⟨b,0,none⟩ underlying81 underlying126 hj (by rw [hjs];decide) hsh (Nat.zero_lt_succ 1)
 have q2:(convert 126 81 (.pointer (some ⟨b,0,none⟩))).run prog w=.ok (.pointer (some ⟨b,0,none⟩)) w:=Lib.run_from_unsafe w ⟨b,0,none⟩ underlying126 underlying81 hj hsh lies
 have q3:=ext60 (.pointer (some ⟨b,0,none⟩)) w
 go_enter func84,ntmps84
 go_wp2
 go_end0
 exact ⟨rfl,rfl⟩
theorem check_any (B b:Nat) (bs:List Value) (w:World) (h:Holds B b bs w) :
  Calls prog 84 #[.pointer (some ⟨b,0,none⟩)] w fun e w'=>e=.returned (.tuple #[])/\(Lib.BuilderAt 83 5 B b (.pointer (some ⟨b,0,none⟩)) bs w'/\Below B w w'):=by
 rcases h with h|h
 ·refine (check_fresh b w h.cell0 h.shape h.frozen0).mono ?_
  rintro e w' ⟨rfl,rfl⟩
  exact ⟨rfl,h.used _,(Below.refl B w).setCell (p:=⟨b,0,none⟩) h.1 _⟩
 ·refine (check_used b w h.cell0).mono ?_
  rintro e w' ⟨rfl,rfl⟩
  exact ⟨rfl,h,Below.refl B _⟩
theorem ne5:83 ≠ 5:=by decide
theorem info5:(prog.info? 5).map (fun i=>(i.zero,i.size,i.bytes))=some (some (.int .u8 0),1,1):=by kernel_rfl
theorem old_lt {w:World} {b:Nat} {o:Obj} (h:w.heap[b]? = some o):b<w.heap.size:=by
 rcases Nat.lt_or_ge b w.heap.size with h'|h'
 ·exact h'
 ·simp [Array.getElem?_eq_none h'] at h
theorem byte_any (B b:Nat) (bs:List Value) (c:Int) (w:World) (h:Holds B b bs w) (hlen:bs.length+1<=140737488355328) (hBw:B<=w.heap.size) :
  Calls prog 62 #[.pointer (some ⟨b,0,none⟩),.int .u8 c] w fun e w'=>e=.returned .nilIface/\(Holds B b (bs ++ [.int .u8 c]) w'/\Below B w w'):=by
 obtain ⟨i0,hi,hz0,hz1,hz2⟩:=info_parts info5
 go_enter func62,ntmps62
 go_wp2_with (go_at_call 84;refine (check_any B b bs _ h).mono ?_)
 rintro e w1 ⟨rfl,h1,hb1⟩
 obtain ⟨hB,v,hbk,hown,hne⟩:=h1
 have c0:w1.cell? ⟨b,0,none⟩=some (.pointer (some ⟨b,0,none⟩)):=by rw [Lib.cell_of_heap hbk];rfl
 have c1:w1.cell? ⟨b,1,none⟩=some v:=by rw [Lib.cell_of_heap hbk];rfl
 have z1:=hb1.size
 go_wp2_with (at_builtin;refine wpList_append_own _ rfl _ _ 22 rfl B 5 i0 (.int .u8 0) 1 1 underlying22 hi hz0 hz1 hz2 rfl (by decide) _ _ _ rfl (hown.alloc _) ⟨w1.heap.size,0,none⟩ 1 1 [.int .u8 c] rfl rfl ?c1 ?c2 ?c3 ?c4 ?c5 ?_)
 case c1 =>
  intro j u hj
  match j,hj with
  | 0,hj=>simp at hj;subst hj;simp [Addr.add]
 case c2=>intro u hu;simp at hu;subst hu;rfl
 case c3=>unfold maxLen;omega
 case c4=>omega
 case c5=>simp;omega
 intro v' w2 hown' hgrow _
 have hlt:=old_lt hbk
 have hb2:w2.heap[b]? = some (.cells #[.pointer (some ⟨b,0,none⟩),v] 83 (0,0)):=by
  rw [hgrow.block b (by simp;omega) (fun e=>hne e.symm),Lib.alloc_old w1 _ b hlt]
  exact hbk
 have d0:w2.cell? ⟨b,0,none⟩=some (.pointer (some ⟨b,0,none⟩)):=by rw [Lib.cell_of_heap hb2];rfl
 have d1:w2.cell? ⟨b,1,none⟩=some v:=by rw [Lib.cell_of_heap hb2];rfl
 have f1:w2.frozen? ⟨b,1,none⟩=false:=Lib.frozen_of_heap hb2 1
 obtain ⟨g,cap,rfl⟩ : ∃ g cap,v'=.slice (some ⟨g,0,none⟩) (bs.length+1) cap:=by
  rcases hown'.2 with ⟨_,h0⟩|⟨g,cap,cur,hv,_⟩
  ·omega
  ·exact ⟨g,cap,hv⟩
 go_wp2
 go_ret
 refine ⟨rfl,.inr ?_,?_⟩
 ·exact Lib.BuilderAt.put (T:=83) (e:=5) hB hb2 (bs':=bs ++ [.int .u8 c]) (by simpa using hown') ne5
 ·exact ((hb1.alloc (by omega) _).grown hgrow (by simp;omega) (fun k hk=>(hown.lt k hk).1)).setCell (p:=⟨b,1,none⟩) hB _
theorem str_any (B b:Nat) (bs:List Value) (s:ByteArray) (w:World) (h:Holds B b bs w) (hlen:bs.length+s.size<=140737488355328) (hBw:B<=w.heap.size) :
  Calls prog 60 #[.pointer (some ⟨b,0,none⟩),.string s] w fun e w'=>e=.returned (.tuple #[.int .i64 s.size,.nilIface])/\(Holds B b (bs ++ Lib.strCells s) w'/\Below B w w'):=by
 obtain ⟨i0,hi,hz0,hz1,hz2⟩:=info_parts info5
 go_enter func60,ntmps60
 go_wp2_with (go_at_call 84;refine (check_any B b bs _ h).mono ?_)
 rintro e w1 ⟨rfl,h1,hb1⟩
 obtain ⟨hB,v,hbk,hown,hne⟩:=h1
 have c0:w1.cell? ⟨b,0,none⟩=some (.pointer (some ⟨b,0,none⟩)):=by rw [Lib.cell_of_heap hbk];rfl
 have c1:w1.cell? ⟨b,1,none⟩=some v:=by rw [Lib.cell_of_heap hbk];rfl
 have z1:=hb1.size
 go_wp2_with (at_builtin;refine Lib.wpList_append_own_string _ rfl _ _ 22 9 rfl B 5 i0 underlying22 underlying9 hi hz0 hz1 hz2 _ _ _ rfl hown s rfl ?c3 ?c4 ?c5 ?_)
 case c3=>unfold maxLen;omega
 case c4=>omega
 case c5=>omega
 intro v' w2 hown' hgrow _
 have hlt:=old_lt hbk
 have hb2:w2.heap[b]? = some (.cells #[.pointer (some ⟨b,0,none⟩),v] 83 (0,0)):=by
  rw [hgrow.block b hlt (fun e=>hne e.symm)]
  exact hbk
 have d0:w2.cell? ⟨b,0,none⟩=some (.pointer (some ⟨b,0,none⟩)):=by rw [Lib.cell_of_heap hb2];rfl
 have d1:w2.cell? ⟨b,1,none⟩=some v:=by rw [Lib.cell_of_heap hb2];rfl
 have f1:w2.frozen? ⟨b,1,none⟩=false:=Lib.frozen_of_heap hb2 1
 obtain ⟨ao,n',cap,rfl⟩ : ∃ ao n' cap,v'=.slice ao n' cap:=by
  rcases hown'.2 with ⟨hv,_⟩|⟨g,cap,cur,hv,_⟩
  ·exact ⟨_,_,_,hv⟩
  ·exact ⟨_,_,_,hv⟩
 go_wp2
 go_ret2
 refine ⟨rfl,.inr ?_,?_⟩
 ·exact Lib.BuilderAt.put (T:=83) (e:=5) hB hb2 (bs':=bs ++ Lib.strCells s) (by simpa [Lib.strCells_length] using hown') ne5
 ·exact (hb1.grown hgrow (by omega) (fun k hk=>(hown.lt k hk).1)).setCell (p:=⟨b,1,none⟩) hB _
theorem holds_below {B b:Nat} {bs:List Value} {w w':World} (h:Holds B b bs w) (hb:Below w.heap.size w w'):Holds B b bs w':=by
 have go:∀ p,Lib.BuilderAt 83 5 B b p bs w->Lib.BuilderAt 83 5 B b p bs w':=fun p hp=>by
  have hl:=hp.lt
  obtain ⟨hB,v,hbk,hown,hne⟩:=hp
  exact ⟨hB,v,(hb.block b hl).trans hbk,hown.kept (row:=none) ⟨hb.os,hb.tape,hb.output,hb.size,fun k hk _=>hb.block k hk⟩ (by cases hv:Value.ownBlock v <;> simp),hne⟩
 exact h.imp (go _) (go _)
theorem holds_new (w:World):Holds w.heap.size w.heap.size [] (w.alloc (.cells #[.pointer none,.slice none 0 0] 83)) :=
 .inl ⟨Nat.le_refl _,_,(MapKept.heap_alloc w _).1,World.ownsRow_nil _ _ _ _,by simp [Value.ownBlock]⟩
theorem holds_lt {B b:Nat} {bs:List Value} {w:World} (h:Holds B b bs w):b<w.heap.size:=h.elim (·.lt) (·.lt)
end Bld
namespace Deci
def dec (n:Int) (t:ByteArray):ByteArray:=if n<10 then strOfNums [48+n] ++ t else dec (n / 10) (strOfNums [48+n%10] ++ t)
termination_by n.toNat
decreasing_by omega
theorem dec_small {n:Int} {t:ByteArray} (h:n<10):dec n t=strOfNums [48+n] ++ t:=by rw [dec,if_pos h]
theorem dec_great {n:Int} {t:ByteArray} (h:¬ n<10):dec n t=dec (n / 10) (strOfNums [48+n%10] ++ t):=by rw [dec,if_neg h]
theorem one_size (x:Int):(strOfNums [x]).size=1:=strOfNums_size _
theorem cat_size (x:Int) (t:ByteArray):(strOfNums [x] ++ t).size=t.size+1:=by rw [ByteArray.size_append,one_size];omega
theorem l1Dec_any (n:Int) (w:World) (h0:0<=n) (h1:n<=1000000000) :
  Calls prog 36 #[.int .i64 n] w fun e w'=>e=.returned (.string (dec n ⟨#[]⟩))/\Below w.heap.size w w':=by
 have hcv:∀ (u:World) (x:Int),(convert 22 9 (.slice (some ⟨u.heap.size,0,none⟩) 1 1)).run prog (u.alloc (.cells #[.int .u8 x] 5))=.ok (.string (strOfNums [x])) (u.alloc (.cells #[.int .u8 x] 5)):=fun u x =>
  run_convert_bytes_arg _ 22 5 underlying22 underlying5 u.heap.size 0 1 1 [x] rfl (fun i hi=>by
   rw [Nat.zero_add,World.cell?_alloc_new]
   match i,hi with
   | 0,_=>rfl) 9 underlying9
 have hsz:=one_size
 obtain ⟨r,hr⟩ : ∃ r,r=dec n ⟨#[]⟩:=⟨_,rfl⟩
 rw [<- hr]
 go_enter func36,ntmps36
 go_wp2
 go_loopw [0,3] (fun v t wr=>∃ (m:Int) (s:ByteArray),0<=m/\(s.size:Int)+m<=n/\v=.int .i64 m/\t=.string s/\Hid (r=dec m s)/\Hid (Below w.heap.size w wr)) (fun v _ _=>(intOf v).toNat)
 case atStart=>exact ⟨n,⟨#[]⟩,h0,by show ((0:Nat):Int)+n<=n;omega,rfl,rfl,hr,Below.refl _ _⟩
 case round =>
  clear hr
  obtain ⟨m,s,hm0,hm1,rfl,rfl,hr,hb⟩:=hrel
  by_cases hlt:10<=m
  ·have HR:Hid (r=dec (m / 10) (strOfNums [48+m%10] ++ s)):=by have:=hr.out;rw [dec_great (by omega)] at this;exact this
   clear hr
   go_wp2
   go_roundw
   case rel=>exact ⟨m / 10,strOfNums [48+m%10] ++ s,by omega,by rw [cat_size];omega,rfl,rfl,HR,hb.out.alloc hb.out.size _⟩
   case measure=>simp [intOf];omega
  ·have HR:Hid (r=strOfNums [48+m] ++ s):=by have:=hr.out;rw [dec_small (by omega)] at this;exact this
   clear hr
   go_wp2
   go_ret
   exact ⟨by rw [HR.out];rfl,hb.out.alloc hb.out.size _⟩
def decE (n:Int):ByteArray:=if n<0 then (if -n<10 then strOfNums [45,48+-n] else if -n<100 then strOfNums [45,48+-n / 10,48+-n%10] else strOfNums [45,48+-n / 100,48+-n / 10%10,48+-n%10])
 else if n<10 then strOfNums [48+n] else if n<100 then strOfNums [48+n / 10,48+n%10] else strOfNums [48+n / 100,48+n / 10%10,48+n%10]
theorem cat (a b:List Int):strOfNums a ++ strOfNums b=strOfNums (a ++ b):=by
 apply ByteArray.ext
 simp [strOfNums,ByteArray.data_append]
theorem nil_str:(⟨#[]⟩ : ByteArray)=strOfNums []:=rfl
theorem dec_pos {n:Int} (h0:0<=n) (h1:n<1000):dec n ⟨#[]⟩=(if n<10 then strOfNums [48+n] else if n<100 then strOfNums [48+n / 10,48+n%10] else strOfNums [48+n / 100,48+n / 10%10,48+n%10]):=by
 rw [nil_str]
 by_cases h2:n<10
 ·rw [if_pos h2,dec_small h2,cat];rfl
 rw [if_neg h2,dec_great h2,cat]
 by_cases h3:n<100
 ·rw [if_pos h3,dec_small (by omega),cat];rfl
 ·rw [if_neg h3,dec_great (by omega),cat,dec_small (by omega),cat,show n / 10 / 10=n / 100 by omega];rfl
theorem itoa_all:∀ k:Fin 256,(⟨(Lib.itoa ((k.val:Int)-128)).toArray⟩ : ByteArray)=decE ((k.val:Int)-128):=by decide +kernel
theorem itoa_at {n:Int} (h0:-128<=n) (h1:n<=127):(⟨(Lib.itoa n).toArray⟩ : ByteArray)=decE n:=by
 have:=itoa_all ⟨(n+128).toNat,by omega⟩
 rwa [show (((⟨(n+128).toNat,by omega⟩ : Fin 256).val:Int)-128)=n by show (((n+128).toNat:Nat):Int)-128=n;omega] at this
theorem dec_any (n:Int) (w:World) (h0:-128<=n) (h1:n<=127) :
  Calls prog 36 #[.int .i64 n] w fun e w'=>e=.returned (.string (decE n))/\Below w.heap.size w w':=by
 by_cases hn:n<0
 ·have c:=fun w=>l1Dec_any (-n) w (by omega) (by omega)
  have e:decE n=strOfNums [45] ++ dec (-n) ⟨#[]⟩:=by
   rw [dec_pos (by omega) (by omega)]
   unfold decE
   rw [if_pos hn]
   split
   ·rw [cat];rfl
   ·split
    ·rw [cat];rfl
    ·rw [cat];rfl
  have hz:(dec (-n) ⟨#[]⟩).size<=3:=by
   rw [dec_pos (by omega) (by omega)]
   repeat' split
   all_goals (rw [strOfNums_size];simp)
  rw [e]
  generalize dec (-n) ⟨#[]⟩=S at c hz
  have hk:wrap64 (-n) = -n:=by unfold wrap64;omega
  have hm:(⟨#[45]⟩ : ByteArray)=strOfNums [45]:=rfl
  go_enter func36,ntmps36
  go_wp2_with fail
  refine (c _).mono ?_
  rintro e w1 ⟨rfl,b1⟩
  have B1:Hid (Below w.heap.size w w1):=b1
  clear b1 hm
  go_wp2
  go_ret
  exact ⟨rfl,B1.out⟩
 ·refine (l1Dec_any n w (by omega) (by omega)).mono ?_
  rintro e w' ⟨rfl,hb⟩
  refine ⟨?_,hb⟩
  rw [dec_pos (by omega) (by omega)]
  unfold decE
  rw [if_neg hn]
end Deci
end Go.Proofs.YtbofcepdckpkkaaGreatDoor
