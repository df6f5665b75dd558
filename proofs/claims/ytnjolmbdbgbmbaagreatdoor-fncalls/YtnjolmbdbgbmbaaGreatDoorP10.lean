/-
  Contracts and facts of ours, joined: Shape, Stpc.
-/
import Derived.Test.YtnjolmbdbgbmbaaGreatDoorP00
import Derived.Test.YtnjolmbdbgbmbaaGreatDoorRows
import Derived.WalkKit
import Derived.ProofKit
import Derived.OpenShut
import Derived.ShutString
import Derived.Outline
import Derived.WalkLawsBesides
import Derived.Test.YtnjolmbdbgbmbaaGreatDoorP08
import Derived.Test.YtnjolmbdbgbmbaaGreatDoorP09
set_option linter.unusedVariables false
set_option linter.unusedSimpArgs false
set_option maxRecDepth 20000
set_option maxHeartbeats 8000000
open Go.ChangeShapes Go.WideShapes Go.ChangeAt Go.RowKit
open Go.Proofs.Tryz
namespace Go.Proofs.YtnjolmbdbgbmbaaGreatDoor.Shape
open Signed (isByte_any)
open Signed (inB)
def at8 (l:List ByteArray) (i:Int):ByteArray:=l.getD i.toNat ⟨#[]⟩
theorem cases8 {y:Int} (h0:0<=y) (h1:y<=7):y=0 \/ y=1 \/ y=2 \/ y=3 \/ y=4 \/ y=5 \/ y=6 \/ y=7:=by omega
theorem cases2 {q:Int} (h0:0<=q) (h1:q<=1):q=0 \/ q=1:=by omega
theorem ret_str {a b:ByteArray} (h:a=b):Ending.returned (.string a)=.returned (.string b):=by rw [h]
theorem partsOf_any (code:Int) (w:World) (h0:0<=code) (h1:code<=255) :
  Calls prog 78 #[.int .i64 code] w fun e w'=>e=.returned (.agg #[.int .i64 (code / 64),.int .i64 (code / 8%8),.int .i64 (code%8),.int .i64 (code / 8%8 / 2),.int .i64 (code / 8%8%2)])/\Below w.heap.size w w':=by
 go_enter func78,ntmps78
 go_wp2
 refine bodyPost_ret (v:=.agg #[.int .i64 (code / 64),.int .i64 (code / 8%8),.int .i64 (code%8),.int .i64 (code / 8%8 / 2),.int .i64 (code / 8%8%2)]) (by simp [results,results78,go_sem]) rfl ⟨rfl,?_⟩
 exact zAl _ _
def low0:List ByteArray:=[⟨#[110,111,112]⟩,⟨#[108,100,32,91,110,49,54,93,44,115,112]⟩,⟨#[115,116,111,112,32,110,56]⟩,⟨#[106,114,32,101,56]⟩,⟨#[106,114,32,67,44,101,56]⟩,⟨#[106,114,32,67,44,101,56]⟩,⟨#[106,114,32,67,44,101,56]⟩,⟨#[106,114,32,67,44,101,56]⟩]
theorem low0_at {i:Int} (h0:0<=i) (h1:i<=7) (w:World):(Instr.index 166 (.agg #[.string ⟨#[110,111,112]⟩,.string ⟨#[108,100,32,91,110,49,54,93,44,115,112]⟩,.string ⟨#[115,116,111,112,32,110,56]⟩,.string ⟨#[106,114,32,101,56]⟩,.string ⟨#[106,114,32,67,44,101,56]⟩,.string ⟨#[106,114,32,67,44,101,56]⟩,.string ⟨#[106,114,32,67,44,101,56]⟩,.string ⟨#[106,114,32,67,44,101,56]⟩]) (.int .i64 i)).run prog w=.ok (.string (at8 low0 i)) w:=by
 rcases cases8 h0 h1 with rfl|rfl|rfl|rfl|rfl|rfl|rfl|rfl
 all_goals kernel_rfl
def low1:List ByteArray:=[⟨#[108,100,32,80,44,110,49,54]⟩,⟨#[97,100,100,32,104,108,44,80]⟩]
theorem low1_at {i:Int} (h0:0<=i) (h1:i<=1) (w:World):(Instr.index 167 (.agg #[.string ⟨#[108,100,32,80,44,110,49,54]⟩,.string ⟨#[97,100,100,32,104,108,44,80]⟩]) (.int .i64 i)).run prog w=.ok (.string (at8 low1 i)) w:=by
 rcases cases2 h0 h1 with rfl|rfl
 all_goals kernel_rfl
def low2:List ByteArray:=[⟨#[108,100,32,77,44,97]⟩,⟨#[108,100,32,97,44,77]⟩]
theorem low2_at {i:Int} (h0:0<=i) (h1:i<=1) (w:World):(Instr.index 167 (.agg #[.string ⟨#[108,100,32,77,44,97]⟩,.string ⟨#[108,100,32,97,44,77]⟩]) (.int .i64 i)).run prog w=.ok (.string (at8 low2 i)) w:=by
 rcases cases2 h0 h1 with rfl|rfl
 all_goals kernel_rfl
def low3:List ByteArray:=[⟨#[105,110,99,32,80]⟩,⟨#[100,101,99,32,80]⟩]
theorem low3_at {i:Int} (h0:0<=i) (h1:i<=1) (w:World):(Instr.index 167 (.agg #[.string ⟨#[105,110,99,32,80]⟩,.string ⟨#[100,101,99,32,80]⟩]) (.int .i64 i)).run prog w=.ok (.string (at8 low3 i)) w:=by
 rcases cases2 h0 h1 with rfl|rfl
 all_goals kernel_rfl
def low7:List ByteArray:=[⟨#[114,108,99,97]⟩,⟨#[114,114,99,97]⟩,⟨#[114,108,97]⟩,⟨#[114,114,97]⟩,⟨#[100,97,97]⟩,⟨#[99,112,108]⟩,⟨#[115,99,102]⟩,⟨#[99,99,102]⟩]
theorem low7_at {i:Int} (h0:0<=i) (h1:i<=7) (w:World):(Instr.index 166 (.agg #[.string ⟨#[114,108,99,97]⟩,.string ⟨#[114,114,99,97]⟩,.string ⟨#[114,108,97]⟩,.string ⟨#[114,114,97]⟩,.string ⟨#[100,97,97]⟩,.string ⟨#[99,112,108]⟩,.string ⟨#[115,99,102]⟩,.string ⟨#[99,99,102]⟩]) (.int .i64 i)).run prog w=.ok (.string (at8 low7 i)) w:=by
 rcases cases8 h0 h1 with rfl|rfl|rfl|rfl|rfl|rfl|rfl|rfl
 all_goals kernel_rfl
def lowE:List ByteArray:=[⟨#[105,110,99,32,82]⟩,⟨#[100,101,99,32,82]⟩,⟨#[108,100,32,82,44,110,56]⟩]
theorem lowE_0 (w:World):(Instr.index 165 (.agg #[.string ⟨#[105,110,99,32,82]⟩,.string ⟨#[100,101,99,32,82]⟩,.string ⟨#[108,100,32,82,44,110,56]⟩]) (.int .i64 0)).run prog w=.ok (.string (at8 lowE 0)) w:=by kernel_rfl
theorem lowE_1 (w:World):(Instr.index 165 (.agg #[.string ⟨#[105,110,99,32,82]⟩,.string ⟨#[100,101,99,32,82]⟩,.string ⟨#[108,100,32,82,44,110,56]⟩]) (.int .i64 1)).run prog w=.ok (.string (at8 lowE 1)) w:=by kernel_rfl
theorem lowE_2 (w:World):(Instr.index 165 (.agg #[.string ⟨#[105,110,99,32,82]⟩,.string ⟨#[100,101,99,32,82]⟩,.string ⟨#[108,100,32,82,44,110,56]⟩]) (.int .i64 2)).run prog w=.ok (.string (at8 lowE 2)) w:=by kernel_rfl
def lowS (y z:Int):ByteArray:=if z=0 then at8 low0 y else if z=1 then at8 low1 (y%2) else if z=2 then at8 low2 (y%2) else if z=3 then at8 low3 (y%2) else if z=7 then at8 low7 y else at8 lowE (z-4)
theorem lowShape_any (x y z p q:Int) (hq:q=y%2) (w:World) (y0:0<=y) (y1:y<=7) (z0:0<=z) (z1:z<=7) :
  Calls prog 113 #[.agg #[.int .i64 x,.int .i64 y,.int .i64 z,.int .i64 p,.int .i64 q]] w fun e w'=>e=.returned (.string (lowS y z))/\Below w.heap.size w w':=by
 subst hq
 have q0:0<=y%2:=by omega
 have q1:y%2<=1:=by omega
 rcases cases8 z0 z1 with rfl|rfl|rfl|rfl|rfl|rfl|rfl|rfl
 ·have hi:=fun w:World=>low0_at (i:=y) y0 y1 w
  go_enter func113,ntmps113
  go_wp2
  go_ret
  exact ⟨rfl,zAl _ _⟩
 ·have hi:=fun w:World=>low1_at (i:=y%2) q0 q1 w
  go_enter func113,ntmps113
  go_wp2
  go_ret
  exact ⟨rfl,zAl _ _⟩
 ·have hi:=fun w:World=>low2_at (i:=y%2) q0 q1 w
  go_enter func113,ntmps113
  go_wp2
  go_ret
  exact ⟨rfl,zAl _ _⟩
 ·have hi:=fun w:World=>low3_at (i:=y%2) q0 q1 w
  go_enter func113,ntmps113
  go_wp2
  go_ret
  exact ⟨rfl,zAl _ _⟩
 ·have hi:=fun w:World=>lowE_0 w
  go_enter func113,ntmps113
  go_wp2
  go_ret
  exact ⟨rfl,zAl _ _⟩
 ·have hi:=fun w:World=>lowE_1 w
  go_enter func113,ntmps113
  go_wp2
  go_ret
  exact ⟨rfl,zAl _ _⟩
 ·have hi:=fun w:World=>lowE_2 w
  go_enter func113,ntmps113
  go_wp2
  go_ret
  exact ⟨rfl,zAl _ _⟩
 ·have hi:=fun w:World=>low7_at (i:=y) y0 y1 w
  go_enter func113,ntmps113
  go_wp2
  go_ret
  exact ⟨rfl,zAl _ _⟩
def high0:List ByteArray:=[⟨#[114,101,116,32,67]⟩,⟨#[114,101,116,32,67]⟩,⟨#[114,101,116,32,67]⟩,⟨#[114,101,116,32,67]⟩,⟨#[108,100,104,32,91,110,56,93,44,97]⟩,⟨#[97,100,100,32,115,112,44,101,56]⟩,⟨#[108,100,104,32,97,44,91,110,56,93]⟩,⟨#[108,100,32,104,108,44,115,112,43,101,56]⟩]
theorem high0_at {i:Int} (h0:0<=i) (h1:i<=7) (w:World):(Instr.index 166 (.agg #[.string ⟨#[114,101,116,32,67]⟩,.string ⟨#[114,101,116,32,67]⟩,.string ⟨#[114,101,116,32,67]⟩,.string ⟨#[114,101,116,32,67]⟩,.string ⟨#[108,100,104,32,91,110,56,93,44,97]⟩,.string ⟨#[97,100,100,32,115,112,44,101,56]⟩,.string ⟨#[108,100,104,32,97,44,91,110,56,93]⟩,.string ⟨#[108,100,32,104,108,44,115,112,43,101,56]⟩]) (.int .i64 i)).run prog w=.ok (.string (at8 high0 i)) w:=by
 rcases cases8 h0 h1 with rfl|rfl|rfl|rfl|rfl|rfl|rfl|rfl
 all_goals kernel_rfl
def high1:List ByteArray:=[⟨#[112,111,112,32,81]⟩,⟨#[114,101,116]⟩,⟨#[112,111,112,32,81]⟩,⟨#[114,101,116,105]⟩,⟨#[112,111,112,32,81]⟩,⟨#[106,112,32,104,108]⟩,⟨#[112,111,112,32,81]⟩,⟨#[108,100,32,115,112,44,104,108]⟩]
theorem high1_at {i:Int} (h0:0<=i) (h1:i<=7) (w:World):(Instr.index 166 (.agg #[.string ⟨#[112,111,112,32,81]⟩,.string ⟨#[114,101,116]⟩,.string ⟨#[112,111,112,32,81]⟩,.string ⟨#[114,101,116,105]⟩,.string ⟨#[112,111,112,32,81]⟩,.string ⟨#[106,112,32,104,108]⟩,.string ⟨#[112,111,112,32,81]⟩,.string ⟨#[108,100,32,115,112,44,104,108]⟩]) (.int .i64 i)).run prog w=.ok (.string (at8 high1 i)) w:=by
 rcases cases8 h0 h1 with rfl|rfl|rfl|rfl|rfl|rfl|rfl|rfl
 all_goals kernel_rfl
def high2:List ByteArray:=[⟨#[106,112,32,67,44,110,49,54]⟩,⟨#[106,112,32,67,44,110,49,54]⟩,⟨#[106,112,32,67,44,110,49,54]⟩,⟨#[106,112,32,67,44,110,49,54]⟩,⟨#[108,100,104,32,91,99,93,44,97]⟩,⟨#[108,100,32,91,110,49,54,93,44,97]⟩,⟨#[108,100,104,32,97,44,91,99,93]⟩,⟨#[108,100,32,97,44,91,110,49,54,93]⟩]
theorem high2_at {i:Int} (h0:0<=i) (h1:i<=7) (w:World):(Instr.index 166 (.agg #[.string ⟨#[106,112,32,67,44,110,49,54]⟩,.string ⟨#[106,112,32,67,44,110,49,54]⟩,.string ⟨#[106,112,32,67,44,110,49,54]⟩,.string ⟨#[106,112,32,67,44,110,49,54]⟩,.string ⟨#[108,100,104,32,91,99,93,44,97]⟩,.string ⟨#[108,100,32,91,110,49,54,93,44,97]⟩,.string ⟨#[108,100,104,32,97,44,91,99,93]⟩,.string ⟨#[108,100,32,97,44,91,110,49,54,93]⟩]) (.int .i64 i)).run prog w=.ok (.string (at8 high2 i)) w:=by
 rcases cases8 h0 h1 with rfl|rfl|rfl|rfl|rfl|rfl|rfl|rfl
 all_goals kernel_rfl
def high3:List ByteArray:=[⟨#[106,112,32,110,49,54]⟩,⟨#[]⟩,⟨#[]⟩,⟨#[]⟩,⟨#[]⟩,⟨#[]⟩,⟨#[100,105]⟩,⟨#[101,105]⟩]
theorem high3_at {i:Int} (h0:0<=i) (h1:i<=7) (w:World):(Instr.index 166 (.agg #[.string ⟨#[106,112,32,110,49,54]⟩,.string ⟨#[]⟩,.string ⟨#[]⟩,.string ⟨#[]⟩,.string ⟨#[]⟩,.string ⟨#[]⟩,.string ⟨#[100,105]⟩,.string ⟨#[101,105]⟩]) (.int .i64 i)).run prog w=.ok (.string (at8 high3 i)) w:=by
 rcases cases8 h0 h1 with rfl|rfl|rfl|rfl|rfl|rfl|rfl|rfl
 all_goals kernel_rfl
def high4:List ByteArray:=[⟨#[99,97,108,108,32,67,44,110,49,54]⟩,⟨#[99,97,108,108,32,67,44,110,49,54]⟩,⟨#[99,97,108,108,32,67,44,110,49,54]⟩,⟨#[99,97,108,108,32,67,44,110,49,54]⟩,⟨#[]⟩,⟨#[]⟩,⟨#[]⟩,⟨#[]⟩]
theorem high4_at {i:Int} (h0:0<=i) (h1:i<=7) (w:World):(Instr.index 166 (.agg #[.string ⟨#[99,97,108,108,32,67,44,110,49,54]⟩,.string ⟨#[99,97,108,108,32,67,44,110,49,54]⟩,.string ⟨#[99,97,108,108,32,67,44,110,49,54]⟩,.string ⟨#[99,97,108,108,32,67,44,110,49,54]⟩,.string ⟨#[]⟩,.string ⟨#[]⟩,.string ⟨#[]⟩,.string ⟨#[]⟩]) (.int .i64 i)).run prog w=.ok (.string (at8 high4 i)) w:=by
 rcases cases8 h0 h1 with rfl|rfl|rfl|rfl|rfl|rfl|rfl|rfl
 all_goals kernel_rfl
def high5:List ByteArray:=[⟨#[112,117,115,104,32,81]⟩,⟨#[99,97,108,108,32,110,49,54]⟩,⟨#[112,117,115,104,32,81]⟩,⟨#[]⟩,⟨#[112,117,115,104,32,81]⟩,⟨#[]⟩,⟨#[112,117,115,104,32,81]⟩,⟨#[]⟩]
theorem high5_at {i:Int} (h0:0<=i) (h1:i<=7) (w:World):(Instr.index 166 (.agg #[.string ⟨#[112,117,115,104,32,81]⟩,.string ⟨#[99,97,108,108,32,110,49,54]⟩,.string ⟨#[112,117,115,104,32,81]⟩,.string ⟨#[]⟩,.string ⟨#[112,117,115,104,32,81]⟩,.string ⟨#[]⟩,.string ⟨#[112,117,115,104,32,81]⟩,.string ⟨#[]⟩]) (.int .i64 i)).run prog w=.ok (.string (at8 high5 i)) w:=by
 rcases cases8 h0 h1 with rfl|rfl|rfl|rfl|rfl|rfl|rfl|rfl
 all_goals kernel_rfl
def highE:List ByteArray:=[⟨#[65,32,97,44,110,56]⟩,⟨#[114,115,116,32,72]⟩]
theorem highE_0 (w:World):(Instr.index 167 (.agg #[.string ⟨#[65,32,97,44,110,56]⟩,.string ⟨#[114,115,116,32,72]⟩]) (.int .i64 0)).run prog w=.ok (.string (at8 highE 0)) w:=by kernel_rfl
theorem highE_1 (w:World):(Instr.index 167 (.agg #[.string ⟨#[65,32,97,44,110,56]⟩,.string ⟨#[114,115,116,32,72]⟩]) (.int .i64 1)).run prog w=.ok (.string (at8 highE 1)) w:=by kernel_rfl
def highS (y z:Int):ByteArray:=if z=0 then at8 high0 y else if z=1 then at8 high1 y else if z=2 then at8 high2 y else if z=3 then at8 high3 y else if z=4 then at8 high4 y else if z=5 then at8 high5 y else at8 highE (z-6)
theorem highShape_any (x y z p q:Int) (hq:q=y%2) (w:World) (y0:0<=y) (y1:y<=7) (z0:0<=z) (z1:z<=7) :
  Calls prog 114 #[.agg #[.int .i64 x,.int .i64 y,.int .i64 z,.int .i64 p,.int .i64 q]] w fun e w'=>e=.returned (.string (highS y z))/\Below w.heap.size w w':=by
 subst hq
 have q0:0<=y%2:=by omega
 have q1:y%2<=1:=by omega
 rcases cases8 z0 z1 with rfl|rfl|rfl|rfl|rfl|rfl|rfl|rfl
 ·have hi:=fun w:World=>high0_at (i:=y) y0 y1 w
  go_enter func114,ntmps114
  go_wp2
  go_ret
  exact ⟨rfl,zAl _ _⟩
 ·have hi:=fun w:World=>high1_at (i:=y) y0 y1 w
  go_enter func114,ntmps114
  go_wp2
  go_ret
  exact ⟨rfl,zAl _ _⟩
 ·have hi:=fun w:World=>high2_at (i:=y) y0 y1 w
  go_enter func114,ntmps114
  go_wp2
  go_ret
  exact ⟨rfl,zAl _ _⟩
 ·have hi:=fun w:World=>high3_at (i:=y) y0 y1 w
  go_enter func114,ntmps114
  go_wp2
  go_ret
  exact ⟨rfl,zAl _ _⟩
 ·have hi:=fun w:World=>high4_at (i:=y) y0 y1 w
  go_enter func114,ntmps114
  go_wp2
  go_ret
  exact ⟨rfl,zAl _ _⟩
 ·have hi:=fun w:World=>high5_at (i:=y) y0 y1 w
  go_enter func114,ntmps114
  go_wp2
  go_ret
  exact ⟨rfl,zAl _ _⟩
 ·have hi:=fun w:World=>highE_0 w
  go_enter func114,ntmps114
  go_wp2
  go_ret
  exact ⟨rfl,zAl _ _⟩
 ·have hi:=fun w:World=>highE_1 w
  go_enter func114,ntmps114
  go_wp2
  go_ret
  exact ⟨rfl,zAl _ _⟩
def shapeR (code:Int) (cb:Bool):ByteArray :=
 if cb=true then (if code / 64=0 then ⟨#[84,32,83]⟩ else ⟨#[66,32,89,44,83]⟩)
 else if code / 64=0 then lowS (code / 8%8) (code%8) else if code=118 then ⟨#[104,97,108,116]⟩ else if code / 64=1 then ⟨#[108,100,32,82,44,83]⟩ else if code / 64=2 then ⟨#[65,32,97,44,83]⟩ else highS (code / 8%8) (code%8)
def shape (code:Int) (cb:Bool):ByteArray:=if inB code 0 255=true then shapeR code cb else ⟨#[]⟩
theorem shapeR_0 {code:Int} (h:code / 64=0):shapeR code false=lowS (code / 8%8) (code%8):=by unfold shapeR;rw [if_neg (by decide),if_pos h]
theorem shapeR_1 {code:Int} (h:code / 64=1) (hh:¬ code=118):shapeR code false=⟨#[108,100,32,82,44,83]⟩:=by unfold shapeR;rw [if_neg (by decide),if_neg (by omega),if_neg hh,if_pos h]
theorem shapeR_2 {code:Int} (h:code / 64=2) (hh:¬ code=118):shapeR code false=⟨#[65,32,97,44,83]⟩:=by unfold shapeR;rw [if_neg (by decide),if_neg (by omega),if_neg hh,if_neg (by omega),if_pos h]
theorem shapeR_3 {code:Int} (h:code / 64=3) (hh:¬ code=118):shapeR code false=highS (code / 8%8) (code%8):=by unfold shapeR;rw [if_neg (by decide),if_neg (by omega),if_neg hh,if_neg (by omega),if_neg (by omega)]
theorem shapeR_c0 {code:Int} (h:code / 64=0):shapeR code true=⟨#[84,32,83]⟩:=by unfold shapeR;rw [if_pos rfl,if_pos h]
theorem shapeR_c1 {code:Int} (h:¬ code / 64=0):shapeR code true=⟨#[66,32,89,44,83]⟩:=by unfold shapeR;rw [if_pos rfl,if_neg h]
theorem partsOf_x (code x:Int) (hx:code / 64=x) (w:World) (h0:0<=code) (h1:code<=255) :
  Calls prog 78 #[.int .i64 code] w fun e w'=>e=.returned (.agg #[.int .i64 x,.int .i64 (code / 8%8),.int .i64 (code%8),.int .i64 (code / 8%8 / 2),.int .i64 (code / 8%8%2)])/\Below w.heap.size w w':=by
 subst hx;exact partsOf_any code w h0 h1
theorem shapeOf_any (code:Int) (cb:Bool) (w:World) :
  Calls prog 77 #[.int .i64 code,.bool cb] w fun e w'=>e=.returned (.string (shape code cb))/\Below w.heap.size w w':=by
 unfold shape
 cases hb:inB code 0 255
 ·go_enter func77,ntmps77
  go_wp2_with (go_at_call 107;refine (isByte_any _ _).mono ?_;rintro e w' ⟨rfl,rfl⟩)
  go_ret
  exact ⟨rfl,Below.refl _ _⟩
 obtain ⟨h0,h1⟩:=of_decide_eq_true hb
 rw [if_pos rfl]
 have hx:code / 64=0 \/ code / 64=1 \/ code / 64=2 \/ code / 64=3:=by omega
 have y0:0<=code / 8%8:=by omega
 have y1:code / 8%8<=7:=by omega
 have z0:0<=code%8:=by omega
 have z1:code%8<=7:=by omega
 by_cases hh:code=118
 ·subst hh
  cases cb
  all_goals
   go_enter func77,ntmps77
   go_wp2_with (first|(go_at_call 107;refine (isByte_any _ _).mono ?_;rintro e w' ⟨rfl,rfl⟩)|(go_at_call 78;refine (partsOf_any _ _ (by decide) (by decide)).mono ?_;rintro e w1 ⟨rfl,hB1⟩))
   go_ret
   exact ⟨ret_str rfl,hB1.alloc hB1.size _⟩
 have hh':(code == 118)=false:=by simpa using hh
 cases cb
 ·rcases hx with hx|hx|hx|hx
  ·rw [shapeR_0 hx]
   go_enter func77,ntmps77
   go_wp2_with (first|(go_at_call 107;refine (isByte_any _ _).mono ?_;rintro e w' ⟨rfl,rfl⟩)|(go_at_call 78;refine (partsOf_x _ _ hx _ h0 h1).mono ?_;rintro e w1 ⟨rfl,hB1⟩)|(go_at_call 113;refine (lowShape_any _ _ _ _ _ (by omega) _ y0 y1 z0 z1).mono ?_;rintro e w2 ⟨rfl,hB2⟩))
   go_ret
   exact ⟨rfl,(hB1.alloc hB1.size _).trans (hB2.mono (hB1.alloc hB1.size _).size)⟩
  ·rw [shapeR_1 hx hh]
   go_enter func77,ntmps77
   go_wp2_with (first|(go_at_call 107;refine (isByte_any _ _).mono ?_;rintro e w' ⟨rfl,rfl⟩)|(go_at_call 78;refine (partsOf_x _ _ hx _ h0 h1).mono ?_;rintro e w1 ⟨rfl,hB1⟩))
   go_ret
   exact ⟨rfl,hB1.alloc hB1.size _⟩
  ·rw [shapeR_2 hx hh]
   go_enter func77,ntmps77
   go_wp2_with (first|(go_at_call 107;refine (isByte_any _ _).mono ?_;rintro e w' ⟨rfl,rfl⟩)|(go_at_call 78;refine (partsOf_x _ _ hx _ h0 h1).mono ?_;rintro e w1 ⟨rfl,hB1⟩))
   go_ret
   exact ⟨rfl,hB1.alloc hB1.size _⟩
  ·rw [shapeR_3 hx hh]
   go_enter func77,ntmps77
   go_wp2_with (first|(go_at_call 107;refine (isByte_any _ _).mono ?_;rintro e w' ⟨rfl,rfl⟩)|(go_at_call 78;refine (partsOf_x _ _ hx _ h0 h1).mono ?_;rintro e w1 ⟨rfl,hB1⟩)|(go_at_call 114;refine (highShape_any _ _ _ _ _ (by omega) _ y0 y1 z0 z1).mono ?_;rintro e w2 ⟨rfl,hB2⟩))
   go_ret
   exact ⟨rfl,(hB1.alloc hB1.size _).trans (hB2.mono (hB1.alloc hB1.size _).size)⟩
 ·by_cases hx0:code / 64=0
  ·rw [shapeR_c0 hx0]
   go_enter func77,ntmps77
   go_wp2_with (first|(go_at_call 107;refine (isByte_any _ _).mono ?_;rintro e w' ⟨rfl,rfl⟩)|(go_at_call 78;refine (partsOf_x _ _ hx0 _ h0 h1).mono ?_;rintro e w1 ⟨rfl,hB1⟩))
   go_ret
   exact ⟨rfl,hB1.alloc hB1.size _⟩
  ·rw [shapeR_c1 hx0]
   have hx1:(code / 64 == 0)=false:=by simpa using hx0
   go_enter func77,ntmps77
   go_wp2_with (first|(go_at_call 107;refine (isByte_any _ _).mono ?_;rintro e w' ⟨rfl,rfl⟩)|(go_at_call 78;refine (partsOf_any _ _ h0 h1).mono ?_;rintro e w1 ⟨rfl,hB1⟩))
   go_ret
   exact ⟨rfl,hB1.alloc hB1.size _⟩
end Go.Proofs.YtnjolmbdbgbmbaaGreatDoor.Shape
namespace Go.Proofs.YtnjolmbdbgbmbaaGreatDoor.Stpc
open Signed (inB sgn)
open Reck ReckS ReckM ReckD TurnS
open Busw (M wrM Rt)
open Stpp Stpq
def kinds:List Nat:=[47,3,7,21,19,20,2,25,5,23,8,22,19,20,2,26,48,3,7,21,19,20,2,27,33,23,8,22,19,20,2,28,34,3,7,21,19,20,2,29,34,23,8,22,19,20,2,30,34,3,7,21,19,20,2,31,34,23,8,22,19,20,2,32,1,1,1,1,1,1,1,1,1,1,1,1,1,1,1,1,1,1,1,1,1,1,1,1,1,1,1,1,1,1,1,1,1,1,1,1,1,1,1,1,1,1,1,1,1,1,1,1,1,1,1,1,1,1,46,1,1,1,1,1,1,1,1,1,17,17,17,17,17,17,17,17,17,17,17,17,17,17,17,17,17,17,17,17,17,17,17,17,17,17,17,17,17,17,17,17,17,17,17,17,17,17,17,17,17,17,17,17,17,17,17,17,17,17,17,17,17,17,17,17,17,17,17,17,17,17,17,17,42,16,36,35,39,15,18,40,42,41,36,0,39,38,18,40,42,16,36,0,39,15,18,40,42,43,36,0,39,0,18,40,9,16,11,0,0,15,18,40,24,37,13,0,0,0,18,40,10,16,12,44,0,15,18,40,6,4,14,45,0,0,18,40]
def shapes:List ByteArray:=[⟨#[]⟩,⟨#[108,100,32,82,44,83]⟩,⟨#[108,100,32,82,44,110,56]⟩,⟨#[108,100,32,80,44,110,49,54]⟩,⟨#[108,100,32,115,112,44,104,108]⟩,⟨#[108,100,32,91,110,49,54,93,44,115,112]⟩,⟨#[108,100,32,104,108,44,115,112,43,101,56]⟩,⟨#[108,100,32,77,44,97]⟩,⟨#[108,100,32,97,44,77]⟩,⟨#[108,100,104,32,91,110,56,93,44,97]⟩,⟨#[108,100,104,32,97,44,91,110,56,93]⟩,⟨#[108,100,104,32,91,99,93,44,97]⟩,⟨#[108,100,104,32,97,44,91,99,93]⟩,⟨#[108,100,32,91,110,49,54,93,44,97]⟩,⟨#[108,100,32,97,44,91,110,49,54,93]⟩,⟨#[112,117,115,104,32,81]⟩,⟨#[112,111,112,32,81]⟩,⟨#[65,32,97,44,83]⟩,⟨#[65,32,97,44,110,56]⟩,⟨#[105,110,99,32,82]⟩,⟨#[100,101,99,32,82]⟩,⟨#[105,110,99,32,80]⟩,⟨#[100,101,99,32,80]⟩,⟨#[97,100,100,32,104,108,44,80]⟩,⟨#[97,100,100,32,115,112,44,101,56]⟩,⟨#[114,108,99,97]⟩,⟨#[114,114,99,97]⟩,⟨#[114,108,97]⟩,⟨#[114,114,97]⟩,⟨#[100,97,97]⟩,⟨#[99,112,108]⟩,⟨#[115,99,102]⟩,⟨#[99,99,102]⟩,⟨#[106,114,32,101,56]⟩,⟨#[106,114,32,67,44,101,56]⟩,⟨#[106,112,32,110,49,54]⟩,⟨#[106,112,32,67,44,110,49,54]⟩,⟨#[106,112,32,104,108]⟩,⟨#[99,97,108,108,32,110,49,54]⟩,⟨#[99,97,108,108,32,67,44,110,49,54]⟩,⟨#[114,115,116,32,72]⟩,⟨#[114,101,116]⟩,⟨#[114,101,116,32,67]⟩,⟨#[114,101,116,105]⟩,⟨#[100,105]⟩,⟨#[101,105]⟩,⟨#[104,97,108,116]⟩,⟨#[110,111,112]⟩,⟨#[115,116,111,112,32,110,56]⟩]
def kd (c:Int):Nat:=kinds.getD c.toNat 0
theorem shapes_all:∀ c:Fin 256,Shape.shapeR (c.val:Int) false=shapes.getD (kd (c.val:Int)) ⟨#[]⟩:=by decide +kernel
theorem kd_lt:∀ c:Fin 256,kd (c.val:Int)<49:=by decide +kernel
theorem fin_of {c:Int} (h0:0<=c) (h1:c<=255):∃ k:Fin 256,(k.val:Int)=c:=⟨⟨c.toNat,by omega⟩,by simp;omega⟩
theorem shape_kd {c:Int} (h0:0<=c) (h1:c<=255):Shape.shape c false=shapes.getD (kd c) ⟨#[]⟩:=by
 obtain ⟨k,rfl⟩:=fin_of h0 h1
 unfold Shape.shape
 rw [show inB (k.val:Int) 0 255=true from decide_eq_true ⟨h0,h1⟩,if_pos rfl]
 exact shapes_all k
theorem fl_andNot:∀ z c:Bool,bits .andNot .i64 (fl z false false c) 128=fl false false false c/\cB (fl z false false c)=c:=by decide
theorem turned_flags (o v f:Int):bits .andNot .i64 (trnR o v f).2 128=fl false false false (cB (trnR o v f).2):=by
 unfold trnR
 simp only []
 rw [(fl_andNot _ _).1,(fl_andNot _ _).2]
theorem flags_all:∀ k:Fin 16,bits .or .i64 (16*(k.val:Int)) 96=fl (zB (16*(k.val:Int))) true true (cB (16*(k.val:Int)))/\bits .or .i64 (bits .and .i64 (16*(k.val:Int)) 128) 16=fl (zB (16*(k.val:Int))) false false true/\bits .xor .i64 (bits .and .i64 (16*(k.val:Int)) 144) 16=fl (zB (16*(k.val:Int))) false false (!cB (16*(k.val:Int)))/\bits .and .i64 (16*(k.val:Int)) 16=(if cB (16*(k.val:Int))=true then 16 else 0)/\bits .and .i64 (16*(k.val:Int)) 240=16*(k.val:Int):=by decide +kernel
theorem flags_at {f:Int} (h:0<=f/\f<=255) (h16:f%16=0):∃ k:Fin 16,f=16*(k.val:Int):=⟨⟨(f / 16).toNat,by omega⟩,by simp;omega⟩
theorem cpl_flags {f:Int} (h:0<=f/\f<=255) (h16:f%16=0):bits .or .i64 f 96=fl (zB f) true true (cB f):=by obtain ⟨k,rfl⟩:=flags_at h h16;exact (flags_all k).1
theorem scf_flags {f:Int} (h:0<=f/\f<=255) (h16:f%16=0):bits .or .i64 (bits .and .i64 f 128) 16=fl (zB f) false false true:=by obtain ⟨k,rfl⟩:=flags_at h h16;exact (flags_all k).2.1
theorem ccf_flags {f:Int} (h:0<=f/\f<=255) (h16:f%16=0):bits .xor .i64 (bits .and .i64 f 144) 16=fl (zB f) false false (!cB f):=by obtain ⟨k,rfl⟩:=flags_at h h16;exact (flags_all k).2.2.1
theorem and240 {f:Int} (h:0<=f/\f<=255) (h16:f%16=0):bits .and .i64 f 240=f:=by obtain ⟨k,rfl⟩:=flags_at h h16;exact (flags_all k).2.2.2.2
theorem bit_all:∀ z c:Bool,bits .or .i64 (bits .or .i64 (chz z 128 0) 32) (if c=true then 16 else 0)=fl z false true c:=by decide
theorem bit_flags {f:Int} (z:Bool) (h:0<=f/\f<=255) (h16:f%16=0):bits .or .i64 (bits .or .i64 (chz z 128 0) 32) (bits .and .i64 f 16)=fl z false true (cB f):=by
 obtain ⟨k,rfl⟩:=flags_at h h16
 rw [(flags_all k).2.2.2.1]
 exact bit_all _ _
theorem and240_all:∀ k:Fin 256,bits .and .i64 (k.val:Int) 240=(k.val:Int) / 16*16:=by decide +kernel
theorem setP_rf (m:M) (p v:Int):(setP m p v).rf=m.rf:=by
 unfold setP
 repeat' split
 all_goals rfl
theorem pop_eq {m:M} (h:Stpq.Good m) {p:Int}:setQ (popM m) p (popV m)={ Stpn.setQ0 (popM m) p (popV m%65536) with rf:=bits .and .i64 (Stpn.setQ0 (popM m) p (popV m%65536)).rf 240 }:=by
 have hv:=popV_bd m
 rw [show popV m%65536=popV m by omega]
 unfold setQ Stpn.setQ0
 by_cases hp:p=3
 ·rw [if_pos hp,if_pos hp]
  obtain ⟨k,hk⟩:=fin_of (c:=popV m%256) (by omega) (by omega)
  show ({ popM m with ra:=popV m / 256,rf:=popV m%256 / 16*16 }:M)={ popM m with ra:=popV m / 256,rf:=bits .and .i64 (popV m%256) 240 }
  rw [<- hk,and240_all k]
 ·rw [if_neg hp,if_neg hp]
  have e:bits .and .i64 (setP (popM m) p (popV m)).rf 240=(setP (popM m) p (popV m)).rf:=by
   rw [setP_rf]
   exact and240 h.f h.f16
  rw [e]
theorem ar_ld_RS:∀ k:Fin 256,kd (k.val:Int)=1->∀ c:Int,c=(k.val:Int)->64<=c/\c<128/\c ≠ 118:=by
 have h:∀ k:Fin 256,kd (k.val:Int)=1->64<=(k.val:Int)/\(k.val:Int)<128/\(k.val:Int) ≠ 118:=by decide +kernel
 rintro k hk c rfl
 exact h k hk
theorem ar_ld_Rn8:∀ k:Fin 256,kd (k.val:Int)=2->∀ c:Int,c=(k.val:Int)->c<64/\c%8=6:=by
 have h:∀ k:Fin 256,kd (k.val:Int)=2->(k.val:Int)<64/\(k.val:Int)%8=6:=by decide +kernel
 rintro k hk c rfl
 exact h k hk
theorem ar_ld_Pn16:∀ k:Fin 256,kd (k.val:Int)=3->∀ c:Int,c=(k.val:Int)->c<64/\c%8=1/\c / 8%2=0:=by
 have h:∀ k:Fin 256,kd (k.val:Int)=3->(k.val:Int)<64/\(k.val:Int)%8=1/\(k.val:Int) / 8%2=0:=by decide +kernel
 rintro k hk c rfl
 exact h k hk
theorem ar_ld_sphl:∀ k:Fin 256,kd (k.val:Int)=4->∀ c:Int,c=(k.val:Int)->c=249:=by
 have h:∀ k:Fin 256,kd (k.val:Int)=4->(k.val:Int)=249:=by decide +kernel
 rintro k hk c rfl
 exact h k hk
theorem ar_ld_in16sp:∀ k:Fin 256,kd (k.val:Int)=5->∀ c:Int,c=(k.val:Int)->c=8:=by
 have h:∀ k:Fin 256,kd (k.val:Int)=5->(k.val:Int)=8:=by decide +kernel
 rintro k hk c rfl
 exact h k hk
theorem ar_ld_hlspe8:∀ k:Fin 256,kd (k.val:Int)=6->∀ c:Int,c=(k.val:Int)->c=248:=by
 have h:∀ k:Fin 256,kd (k.val:Int)=6->(k.val:Int)=248:=by decide +kernel
 rintro k hk c rfl
 exact h k hk
theorem ar_ld_Ma:∀ k:Fin 256,kd (k.val:Int)=7->∀ c:Int,c=(k.val:Int)->c<64/\c%8=2/\c / 8%2=0:=by
 have h:∀ k:Fin 256,kd (k.val:Int)=7->(k.val:Int)<64/\(k.val:Int)%8=2/\(k.val:Int) / 8%2=0:=by decide +kernel
 rintro k hk c rfl
 exact h k hk
theorem ar_ld_aM:∀ k:Fin 256,kd (k.val:Int)=8->∀ c:Int,c=(k.val:Int)->c<64/\c%8=2/\c / 8%2=1:=by
 have h:∀ k:Fin 256,kd (k.val:Int)=8->(k.val:Int)<64/\(k.val:Int)%8=2/\(k.val:Int) / 8%2=1:=by decide +kernel
 rintro k hk c rfl
 exact h k hk
theorem ar_ldh_in8a:∀ k:Fin 256,kd (k.val:Int)=9->∀ c:Int,c=(k.val:Int)->c=224:=by
 have h:∀ k:Fin 256,kd (k.val:Int)=9->(k.val:Int)=224:=by decide +kernel
 rintro k hk c rfl
 exact h k hk
theorem ar_ldh_ain8:∀ k:Fin 256,kd (k.val:Int)=10->∀ c:Int,c=(k.val:Int)->c=240:=by
 have h:∀ k:Fin 256,kd (k.val:Int)=10->(k.val:Int)=240:=by decide +kernel
 rintro k hk c rfl
 exact h k hk
theorem ar_ldh_ica:∀ k:Fin 256,kd (k.val:Int)=11->∀ c:Int,c=(k.val:Int)->c=226:=by
 have h:∀ k:Fin 256,kd (k.val:Int)=11->(k.val:Int)=226:=by decide +kernel
 rintro k hk c rfl
 exact h k hk
theorem ar_ldh_aic:∀ k:Fin 256,kd (k.val:Int)=12->∀ c:Int,c=(k.val:Int)->c=242:=by
 have h:∀ k:Fin 256,kd (k.val:Int)=12->(k.val:Int)=242:=by decide +kernel
 rintro k hk c rfl
 exact h k hk
theorem ar_ld_in16a:∀ k:Fin 256,kd (k.val:Int)=13->∀ c:Int,c=(k.val:Int)->c=234:=by
 have h:∀ k:Fin 256,kd (k.val:Int)=13->(k.val:Int)=234:=by decide +kernel
 rintro k hk c rfl
 exact h k hk
theorem ar_ld_ain16:∀ k:Fin 256,kd (k.val:Int)=14->∀ c:Int,c=(k.val:Int)->c=250:=by
 have h:∀ k:Fin 256,kd (k.val:Int)=14->(k.val:Int)=250:=by decide +kernel
 rintro k hk c rfl
 exact h k hk
theorem ar_push_Q:∀ k:Fin 256,kd (k.val:Int)=15->∀ c:Int,c=(k.val:Int)->192<=c/\c%8=5/\c / 8%8%2=0:=by
 have h:∀ k:Fin 256,kd (k.val:Int)=15->192<=(k.val:Int)/\(k.val:Int)%8=5/\(k.val:Int) / 8%8%2=0:=by decide +kernel
 rintro k hk c rfl
 exact h k hk
theorem ar_pop_Q:∀ k:Fin 256,kd (k.val:Int)=16->∀ c:Int,c=(k.val:Int)->192<=c/\c%8=1/\c / 8%8%2=0:=by
 have h:∀ k:Fin 256,kd (k.val:Int)=16->192<=(k.val:Int)/\(k.val:Int)%8=1/\(k.val:Int) / 8%8%2=0:=by decide +kernel
 rintro k hk c rfl
 exact h k hk
theorem ar_A_aS:∀ k:Fin 256,kd (k.val:Int)=17->∀ c:Int,c=(k.val:Int)->128<=c/\c<192:=by
 have h:∀ k:Fin 256,kd (k.val:Int)=17->128<=(k.val:Int)/\(k.val:Int)<192:=by decide +kernel
 rintro k hk c rfl
 exact h k hk
theorem ar_A_an8:∀ k:Fin 256,kd (k.val:Int)=18->∀ c:Int,c=(k.val:Int)->192<=c/\c%8=6:=by
 have h:∀ k:Fin 256,kd (k.val:Int)=18->192<=(k.val:Int)/\(k.val:Int)%8=6:=by decide +kernel
 rintro k hk c rfl
 exact h k hk
theorem ar_inc_R:∀ k:Fin 256,kd (k.val:Int)=19->∀ c:Int,c=(k.val:Int)->c<64/\c%8=4:=by
 have h:∀ k:Fin 256,kd (k.val:Int)=19->(k.val:Int)<64/\(k.val:Int)%8=4:=by decide +kernel
 rintro k hk c rfl
 exact h k hk
theorem ar_dec_R:∀ k:Fin 256,kd (k.val:Int)=20->∀ c:Int,c=(k.val:Int)->c<64/\c%8=5:=by
 have h:∀ k:Fin 256,kd (k.val:Int)=20->(k.val:Int)<64/\(k.val:Int)%8=5:=by decide +kernel
 rintro k hk c rfl
 exact h k hk
theorem ar_inc_P:∀ k:Fin 256,kd (k.val:Int)=21->∀ c:Int,c=(k.val:Int)->c<64/\c%8=3/\c / 8%2=0:=by
 have h:∀ k:Fin 256,kd (k.val:Int)=21->(k.val:Int)<64/\(k.val:Int)%8=3/\(k.val:Int) / 8%2=0:=by decide +kernel
 rintro k hk c rfl
 exact h k hk
theorem ar_dec_P:∀ k:Fin 256,kd (k.val:Int)=22->∀ c:Int,c=(k.val:Int)->c<64/\c%8=3/\c / 8%2=1:=by
 have h:∀ k:Fin 256,kd (k.val:Int)=22->(k.val:Int)<64/\(k.val:Int)%8=3/\(k.val:Int) / 8%2=1:=by decide +kernel
 rintro k hk c rfl
 exact h k hk
theorem ar_add_hlP:∀ k:Fin 256,kd (k.val:Int)=23->∀ c:Int,c=(k.val:Int)->c<64/\c%8=1/\c / 8%2=1:=by
 have h:∀ k:Fin 256,kd (k.val:Int)=23->(k.val:Int)<64/\(k.val:Int)%8=1/\(k.val:Int) / 8%2=1:=by decide +kernel
 rintro k hk c rfl
 exact h k hk
theorem ar_add_spe8:∀ k:Fin 256,kd (k.val:Int)=24->∀ c:Int,c=(k.val:Int)->c=232:=by
 have h:∀ k:Fin 256,kd (k.val:Int)=24->(k.val:Int)=232:=by decide +kernel
 rintro k hk c rfl
 exact h k hk
theorem ar_rlca:∀ k:Fin 256,kd (k.val:Int)=25->∀ c:Int,c=(k.val:Int)->c<64/\c%8=7/\c / 8<4:=by
 have h:∀ k:Fin 256,kd (k.val:Int)=25->(k.val:Int)<64/\(k.val:Int)%8=7/\(k.val:Int) / 8<4:=by decide +kernel
 rintro k hk c rfl
 exact h k hk
theorem ar_rrca:∀ k:Fin 256,kd (k.val:Int)=26->∀ c:Int,c=(k.val:Int)->c<64/\c%8=7/\c / 8<4:=by
 have h:∀ k:Fin 256,kd (k.val:Int)=26->(k.val:Int)<64/\(k.val:Int)%8=7/\(k.val:Int) / 8<4:=by decide +kernel
 rintro k hk c rfl
 exact h k hk
theorem ar_rla:∀ k:Fin 256,kd (k.val:Int)=27->∀ c:Int,c=(k.val:Int)->c<64/\c%8=7/\c / 8<4:=by
 have h:∀ k:Fin 256,kd (k.val:Int)=27->(k.val:Int)<64/\(k.val:Int)%8=7/\(k.val:Int) / 8<4:=by decide +kernel
 rintro k hk c rfl
 exact h k hk
theorem ar_rra:∀ k:Fin 256,kd (k.val:Int)=28->∀ c:Int,c=(k.val:Int)->c<64/\c%8=7/\c / 8<4:=by
 have h:∀ k:Fin 256,kd (k.val:Int)=28->(k.val:Int)<64/\(k.val:Int)%8=7/\(k.val:Int) / 8<4:=by decide +kernel
 rintro k hk c rfl
 exact h k hk
theorem ar_daa:∀ k:Fin 256,kd (k.val:Int)=29->∀ c:Int,c=(k.val:Int)->c=39:=by
 have h:∀ k:Fin 256,kd (k.val:Int)=29->(k.val:Int)=39:=by decide +kernel
 rintro k hk c rfl
 exact h k hk
theorem ar_cpl:∀ k:Fin 256,kd (k.val:Int)=30->∀ c:Int,c=(k.val:Int)->c=47:=by
 have h:∀ k:Fin 256,kd (k.val:Int)=30->(k.val:Int)=47:=by decide +kernel
 rintro k hk c rfl
 exact h k hk
theorem ar_scf:∀ k:Fin 256,kd (k.val:Int)=31->∀ c:Int,c=(k.val:Int)->c=55:=by
 have h:∀ k:Fin 256,kd (k.val:Int)=31->(k.val:Int)=55:=by decide +kernel
 rintro k hk c rfl
 exact h k hk
theorem ar_ccf:∀ k:Fin 256,kd (k.val:Int)=32->∀ c:Int,c=(k.val:Int)->c=63:=by
 have h:∀ k:Fin 256,kd (k.val:Int)=32->(k.val:Int)=63:=by decide +kernel
 rintro k hk c rfl
 exact h k hk
theorem ar_jr_e8:∀ k:Fin 256,kd (k.val:Int)=33->∀ c:Int,c=(k.val:Int)->c=24:=by
 have h:∀ k:Fin 256,kd (k.val:Int)=33->(k.val:Int)=24:=by decide +kernel
 rintro k hk c rfl
 exact h k hk
theorem ar_jr_Ce8:∀ k:Fin 256,kd (k.val:Int)=34->∀ c:Int,c=(k.val:Int)->c<64/\c%8=0/\3<c / 8:=by
 have h:∀ k:Fin 256,kd (k.val:Int)=34->(k.val:Int)<64/\(k.val:Int)%8=0/\3<(k.val:Int) / 8:=by decide +kernel
 rintro k hk c rfl
 exact h k hk
theorem ar_jp_n16:∀ k:Fin 256,kd (k.val:Int)=35->∀ c:Int,c=(k.val:Int)->c=195:=by
 have h:∀ k:Fin 256,kd (k.val:Int)=35->(k.val:Int)=195:=by decide +kernel
 rintro k hk c rfl
 exact h k hk
theorem ar_jp_Cn16:∀ k:Fin 256,kd (k.val:Int)=36->∀ c:Int,c=(k.val:Int)->192<=c/\c%8=2/\c / 8%8<4:=by
 have h:∀ k:Fin 256,kd (k.val:Int)=36->192<=(k.val:Int)/\(k.val:Int)%8=2/\(k.val:Int) / 8%8<4:=by decide +kernel
 rintro k hk c rfl
 exact h k hk
theorem ar_jp_hl:∀ k:Fin 256,kd (k.val:Int)=37->∀ c:Int,c=(k.val:Int)->c=233:=by
 have h:∀ k:Fin 256,kd (k.val:Int)=37->(k.val:Int)=233:=by decide +kernel
 rintro k hk c rfl
 exact h k hk
theorem ar_call_n16:∀ k:Fin 256,kd (k.val:Int)=38->∀ c:Int,c=(k.val:Int)->c=205:=by
 have h:∀ k:Fin 256,kd (k.val:Int)=38->(k.val:Int)=205:=by decide +kernel
 rintro k hk c rfl
 exact h k hk
theorem ar_call_Cn16:∀ k:Fin 256,kd (k.val:Int)=39->∀ c:Int,c=(k.val:Int)->192<=c/\c%8=4/\c / 8%8<4:=by
 have h:∀ k:Fin 256,kd (k.val:Int)=39->192<=(k.val:Int)/\(k.val:Int)%8=4/\(k.val:Int) / 8%8<4:=by decide +kernel
 rintro k hk c rfl
 exact h k hk
theorem ar_rst_H:∀ k:Fin 256,kd (k.val:Int)=40->∀ c:Int,c=(k.val:Int)->192<=c/\c%8=7:=by
 have h:∀ k:Fin 256,kd (k.val:Int)=40->192<=(k.val:Int)/\(k.val:Int)%8=7:=by decide +kernel
 rintro k hk c rfl
 exact h k hk
theorem ar_ret:∀ k:Fin 256,kd (k.val:Int)=41->∀ c:Int,c=(k.val:Int)->c=201:=by
 have h:∀ k:Fin 256,kd (k.val:Int)=41->(k.val:Int)=201:=by decide +kernel
 rintro k hk c rfl
 exact h k hk
theorem ar_ret_C:∀ k:Fin 256,kd (k.val:Int)=42->∀ c:Int,c=(k.val:Int)->192<=c/\c%8=0/\c / 8%8<4:=by
 have h:∀ k:Fin 256,kd (k.val:Int)=42->192<=(k.val:Int)/\(k.val:Int)%8=0/\(k.val:Int) / 8%8<4:=by decide +kernel
 rintro k hk c rfl
 exact h k hk
theorem ar_reti:∀ k:Fin 256,kd (k.val:Int)=43->∀ c:Int,c=(k.val:Int)->c=217:=by
 have h:∀ k:Fin 256,kd (k.val:Int)=43->(k.val:Int)=217:=by decide +kernel
 rintro k hk c rfl
 exact h k hk
theorem ar_di:∀ k:Fin 256,kd (k.val:Int)=44->∀ c:Int,c=(k.val:Int)->c=243:=by
 have h:∀ k:Fin 256,kd (k.val:Int)=44->(k.val:Int)=243:=by decide +kernel
 rintro k hk c rfl
 exact h k hk
theorem ar_ei:∀ k:Fin 256,kd (k.val:Int)=45->∀ c:Int,c=(k.val:Int)->c=251:=by
 have h:∀ k:Fin 256,kd (k.val:Int)=45->(k.val:Int)=251:=by decide +kernel
 rintro k hk c rfl
 exact h k hk
theorem ar_halt:∀ k:Fin 256,kd (k.val:Int)=46->∀ c:Int,c=(k.val:Int)->c=118:=by
 have h:∀ k:Fin 256,kd (k.val:Int)=46->(k.val:Int)=118:=by decide +kernel
 rintro k hk c rfl
 exact h k hk
theorem ar_nop:∀ k:Fin 256,kd (k.val:Int)=47->∀ c:Int,c=(k.val:Int)->c=0:=by
 have h:∀ k:Fin 256,kd (k.val:Int)=47->(k.val:Int)=0:=by decide +kernel
 rintro k hk c rfl
 exact h k hk
theorem ar_stop_n8:∀ k:Fin 256,kd (k.val:Int)=48->∀ c:Int,c=(k.val:Int)->c=16:=by
 have h:∀ k:Fin 256,kd (k.val:Int)=48->(k.val:Int)=16:=by decide +kernel
 rintro k hk c rfl
 exact h k hk
end Go.Proofs.YtnjolmbdbgbmbaaGreatDoor.Stpc
