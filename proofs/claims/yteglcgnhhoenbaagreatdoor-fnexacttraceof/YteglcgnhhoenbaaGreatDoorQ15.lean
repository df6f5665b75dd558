import Derived.Test.YteglcgnhhoenbaaGreatDoorQ11
set_option linter.all false
set_option maxRecDepth 20000
set_option maxHeartbeats 8000000
open Go.ChangeShapes Go.WideShapes Go.ChangeAt Go.RowKit
open Go.Proofs.Tryz
namespace Go.Proofs.YteglcgnhhoenbaaGreatDoor
namespace CycQ
open Signed (inB aG)
open Tabs (bD)
open CycD CycE Cyc Leng Tmpl
theorem mY {a b:World} (h:Below a.heap.size a b) (o:Obj):Below a.heap.size a (b.alloc o):=h.alloc h.size o
theorem aHB:ob true=1:=rfl
theorem aHC:ob false=0:=rfl
def oK (code:Int) (cb t:Bool):Int:=if cb=true then mP (code / 64) (code%8) else if code / 64=0 then aKO (code / 8%8) (code%8) t else if code / 64=3 then aAU (code / 8%8) (code%8) t else if code=118 then 1 else if code%8=6 then 2 else if code / 64=1/\code / 8%8=6 then 2 else 1
def NZ (e:Ending):Prop:=∃ n:Int,e=.returned (.int .i64 n)/\¬ n=0
def Len (code:Int) (cb:Bool):Prop:=∀ w,Calls prog 131 #[.int .i64 code,.bool cb] w fun e w'=>NZ e/\Below w.heap.size w w'
theorem aLO (y z:Int) (t:Bool) (w:World) (y0:0<=y) (y1:y<=7) (z0:0<=z) (z1:z<=7) (hl:Len (y*8+z) false) :
  Calls prog 88 #[.int .i64 (y*8+z),.bool false,.bool t] w fun e w'=>e=.returned (.int .i64 (aKO y z t))/\Below w.heap.size w w':=by
 rcases bD z0 z1 with rfl|rfl|rfl|rfl|rfl|rfl|rfl|rfl <;> rcases bD y0 y1 with rfl|rfl|rfl|rfl|rfl|rfl|rfl|rfl
 all_goals
  simp only [Int.reduceMul,Int.reduceAdd] at hl |-
  cases t
 all_goals
  go_enter func88,ntmps88
  go_wp2_with fail
  refine (hl _).mono ?_;rintro e w1 ⟨⟨n,rfl,hn⟩,b1⟩;have hn':(n == 0)=false:=by simpa using hn
  have B1:Hid (Below w.heap.size w w1):=b1;clear b1 hl
  go_wp2_with (go_at_call 132;refine (jJ _ _).mono ?_;rintro e w' ⟨rfl,hw'⟩;have hw':=hw'.symm;subst hw';(try rw [aHB]);(try rw [aHC]))
  go_ret;refine ⟨aG (by first|decide|decide +kernel),?_⟩
  repeat' with_reducible first|exact B1.out|refine aF ?_|refine mY ?_ _
theorem aLP (code:Int) (t:Bool) (w:World) (hz:¬ code%8=6) (h0:0<=code) (h1:code<=255) (hl:Len code true) :
  Calls prog 88 #[.int .i64 code,.bool true,.bool t] w fun e w'=>e=.returned (.int .i64 (2))/\Below w.heap.size w w':=by
 have q1:(code%8 == 6)=false:=by simpa using hz
 have q2:(code%8 != 6)=true:=by simpa using hz
 go_enter func88,ntmps88
 go_wp2_with fail
 refine (hl _).mono ?_;rintro e w1 ⟨⟨n,rfl,hn⟩,b1⟩;have hn':(n == 0)=false:=by simpa using hn
 have B1:Hid (Below w.heap.size w w1):=b1;clear b1 hl;go_wp2;go_ret;exact ⟨rfl,B1.out⟩
theorem aLQ (code:Int) (t:Bool) (w:World) (hz:code%8=6) (hx:code / 64=1) (h0:0<=code) (h1:code<=255) (hl:Len code true) :
  Calls prog 88 #[.int .i64 code,.bool true,.bool t] w fun e w'=>e=.returned (.int .i64 (3))/\Below w.heap.size w w':=by
 go_enter func88,ntmps88
 go_wp2_with fail
 refine (hl _).mono ?_;rintro e w1 ⟨⟨n,rfl,hn⟩,b1⟩;have hn':(n == 0)=false:=by simpa using hn
 have B1:Hid (Below w.heap.size w w1):=b1;clear b1 hl;go_wp2;go_ret;exact ⟨rfl,B1.out⟩
theorem aLR (code:Int) (t:Bool) (w:World) (hz:code%8=6) (hx:¬ code / 64=1) (h0:0<=code) (h1:code<=255) (hl:Len code true) :
  Calls prog 88 #[.int .i64 code,.bool true,.bool t] w fun e w'=>e=.returned (.int .i64 (4))/\Below w.heap.size w w':=by
 have q1:(code / 64 == 1)=false:=by simpa using hx
 go_enter func88,ntmps88
 go_wp2_with fail
 refine (hl _).mono ?_;rintro e w1 ⟨⟨n,rfl,hn⟩,b1⟩;have hn':(n == 0)=false:=by simpa using hn
 have B1:Hid (Below w.heap.size w w1):=b1;clear b1 hl;go_wp2;go_ret;exact ⟨rfl,B1.out⟩
theorem aHD (code:Int) (t:Bool) (w:World) (hc:code=118) (h0:0<=code) (h1:code<=255) (hl:Len code false) :
  Calls prog 88 #[.int .i64 code,.bool false,.bool t] w fun e w'=>e=.returned (.int .i64 (1))/\Below w.heap.size w w':=by
 subst hc
 go_enter func88,ntmps88
 go_wp2_with fail
 refine (hl _).mono ?_;rintro e w1 ⟨⟨n,rfl,hn⟩,b1⟩;have hn':(n == 0)=false:=by simpa using hn
 have B1:Hid (Below w.heap.size w w1):=b1;clear b1 hl;go_wp2;go_ret;exact ⟨rfl,B1.out⟩
theorem aSM (code:Int) (t:Bool) (w:World) (hx:code / 64=1) (hh:¬ code=118) (hz:code%8=6) (h0:0<=code) (h1:code<=255) (hl:Len code false) :
  Calls prog 88 #[.int .i64 code,.bool false,.bool t] w fun e w'=>e=.returned (.int .i64 (2))/\Below w.heap.size w w':=by
 have q118:(code == 118)=false:=by simpa using hh
 have hy:¬ code / 8%8=6:=by omega
 have qy:(code / 8%8 == 6)=false:=by simpa using hy
 go_enter func88,ntmps88
 go_wp2_with fail
 refine (hl _).mono ?_;rintro e w1 ⟨⟨n,rfl,hn⟩,b1⟩;have hn':(n == 0)=false:=by simpa using hn
 have B1:Hid (Below w.heap.size w w1):=b1;clear b1 hl
 go_wp2_with (go_at_call 132;refine (jJ _ _).mono ?_;rintro e w' ⟨rfl,hw'⟩;have hw':=hw'.symm;subst hw';(try rw [aHB]);(try rw [aHC]))
 go_ret;exact ⟨rfl,B1.out⟩
theorem aSN (code:Int) (t:Bool) (w:World) (hx:code / 64=1) (hh:¬ code=118) (hy:code / 8%8=6) (h0:0<=code) (h1:code<=255) (hl:Len code false) :
  Calls prog 88 #[.int .i64 code,.bool false,.bool t] w fun e w'=>e=.returned (.int .i64 (2))/\Below w.heap.size w w':=by
 have q118:(code == 118)=false:=by simpa using hh
 have hz:¬ code%8=6:=by omega
 have qz:(code%8 == 6)=false:=by simpa using hz
 go_enter func88,ntmps88
 go_wp2_with fail
 refine (hl _).mono ?_;rintro e w1 ⟨⟨n,rfl,hn⟩,b1⟩;have hn':(n == 0)=false:=by simpa using hn
 have B1:Hid (Below w.heap.size w w1):=b1;clear b1 hl
 go_wp2_with (go_at_call 132;refine (jJ _ _).mono ?_;rintro e w' ⟨rfl,hw'⟩;have hw':=hw'.symm;subst hw';(try rw [aHB]);(try rw [aHC]))
 go_ret;exact ⟨rfl,B1.out⟩
theorem aSO (code:Int) (t:Bool) (w:World) (hx:code / 64=1) (hy:¬ code / 8%8=6) (hz:¬ code%8=6) (h0:0<=code) (h1:code<=255) (hl:Len code false) :
  Calls prog 88 #[.int .i64 code,.bool false,.bool t] w fun e w'=>e=.returned (.int .i64 (1))/\Below w.heap.size w w':=by
 have hh:¬ code=118:=by omega
 have q118:(code == 118)=false:=by simpa using hh
 have qz:(code%8 == 6)=false:=by simpa using hz
 have qy:(code / 8%8 == 6)=false:=by simpa using hy
 go_enter func88,ntmps88
 go_wp2_with fail
 refine (hl _).mono ?_;rintro e w1 ⟨⟨n,rfl,hn⟩,b1⟩;have hn':(n == 0)=false:=by simpa using hn
 have B1:Hid (Below w.heap.size w w1):=b1;clear b1 hl
 go_wp2_with (go_at_call 132;refine (jJ _ _).mono ?_;rintro e w' ⟨rfl,hw'⟩;have hw':=hw'.symm;subst hw';(try rw [aHB]);(try rw [aHC]))
 go_ret;exact ⟨rfl,B1.out⟩
theorem aSP (code:Int) (t:Bool) (w:World) (hx:code / 64=2) (hz:code%8=6) (h0:0<=code) (h1:code<=255) (hl:Len code false) :
  Calls prog 88 #[.int .i64 code,.bool false,.bool t] w fun e w'=>e=.returned (.int .i64 (2))/\Below w.heap.size w w':=by
 have hh:¬ code=118:=by omega
 have q118:(code == 118)=false:=by simpa using hh
 go_enter func88,ntmps88
 go_wp2_with fail
 refine (hl _).mono ?_;rintro e w1 ⟨⟨n,rfl,hn⟩,b1⟩;have hn':(n == 0)=false:=by simpa using hn
 have B1:Hid (Below w.heap.size w w1):=b1;clear b1 hl
 go_wp2_with (go_at_call 132;refine (jJ _ _).mono ?_;rintro e w' ⟨rfl,hw'⟩;have hw':=hw'.symm;subst hw';(try rw [aHB]);(try rw [aHC]))
 go_ret;exact ⟨rfl,B1.out⟩
theorem aSQ (code:Int) (t:Bool) (w:World) (hx:code / 64=2) (hz:¬ code%8=6) (h0:0<=code) (h1:code<=255) (hl:Len code false) :
  Calls prog 88 #[.int .i64 code,.bool false,.bool t] w fun e w'=>e=.returned (.int .i64 (1))/\Below w.heap.size w w':=by
 have hh:¬ code=118:=by omega
 have q118:(code == 118)=false:=by simpa using hh
 have qz:(code%8 == 6)=false:=by simpa using hz
 go_enter func88,ntmps88
 go_wp2_with fail
 refine (hl _).mono ?_;rintro e w1 ⟨⟨n,rfl,hn⟩,b1⟩;have hn':(n == 0)=false:=by simpa using hn
 have B1:Hid (Below w.heap.size w w1):=b1;clear b1 hl
 go_wp2_with (go_at_call 132;refine (jJ _ _).mono ?_;rintro e w' ⟨rfl,hw'⟩;have hw':=hw'.symm;subst hw';(try rw [aHB]);(try rw [aHC]))
 go_ret;exact ⟨rfl,B1.out⟩
end CycQ
end Go.Proofs.YteglcgnhhoenbaaGreatDoor
