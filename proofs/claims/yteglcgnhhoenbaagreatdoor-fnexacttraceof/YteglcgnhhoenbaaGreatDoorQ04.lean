import Derived.Test.YteglcgnhhoenbaaGreatDoorQ01
set_option linter.all false
set_option maxRecDepth 20000
set_option maxHeartbeats 8000000
open Go.ChangeShapes Go.WideShapes Go.ChangeAt Go.RowKit
open Go.Proofs.Tryz
namespace Go.Proofs.YteglcgnhhoenbaaGreatDoor
namespace TmplA
open Tabs
theorem aF {B:Nat} {w w':World} (h:Below B w w'):Below B w w'.drew:=⟨h.os,h.tape,h.output,h.size,h.block⟩
theorem grow {B:Nat} {a b:World} (h:Below B a b) (hB:B=a.heap.size) (o:Obj):Below B a (b.alloc o):=h.alloc (by subst hB;exact h.size) o
theorem aKD (code y z:Int) (w:World) (hx:code / 64=0) (hy:code / 8%8=y) (hz:code%8=z) (h0:0<=code) (h1:code<=255) :
  Calls prog 103 #[.int .i64 code,.bool true] w fun e w'=>e=.returned (.string (at8 turns y ++ ⟨#[32]⟩ ++ at8 kA z))/\Below w.heap.size w w':=by
 have y0:0<=y:=by omega
 have y1:y<=7:=by omega
 have z0:0<=z:=by omega
 have z1:z<=7:=by omega
 have y2:y<8:=by omega
 have z2:z<8:=by omega
 obtain ⟨ga,gb⟩:=aFS y0 y1;obtain ⟨gc,gd⟩:=kJ z0 z1
 go_enter func103,ntmps103
 go_wp2_with fail
 simp only [hy,hz];clear hx hy hz h0 h1
 go_region_with (first|(go_at_call 154;refine (aFR _).mono ?_;rintro e w1 ⟨rfl,rfl⟩)|(go_at_call 155;refine (cL _).mono ?_;rintro e w1 ⟨rfl,rfl⟩)|fail)
 all_goals
  go_wp2;go_ret;refine ⟨rfl,?_⟩
  repeat' with_reducible first|exact zRf|refine aF ?_|refine grow ?_ rfl _
theorem aZX (code y z:Int) (w:World) (hx:code / 64=1) (hh:¬ code=118) (hy:code / 8%8=y) (hz:code%8=z) (h0:0<=code) (h1:code<=255) :
  Calls prog 103 #[.int .i64 code,.bool false] w fun e w'=>e=.returned (.string (⟨#[108,100,32]⟩ ++ at8 kA y ++ ⟨#[44]⟩ ++ at8 kA z))/\Below w.heap.size w w':=by
 have y0:0<=y:=by omega
 have y1:y<=7:=by omega
 have z0:0<=z:=by omega
 have z1:z<=7:=by omega
 have y2:y<8:=by omega
 have z2:z<8:=by omega
 obtain ⟨ga,gb⟩:=kJ y0 y1;obtain ⟨gc,gd⟩:=kJ z0 z1;have q118:(code == 118)=false:=by simpa using hh
 go_enter func103,ntmps103
 go_wp2_with fail
 simp only [hy,hz];clear hx hy hz h0 h1
 go_region_with (first|(go_at_call 155;refine (cL _).mono ?_;rintro e w1 ⟨rfl,rfl⟩)|fail)
 all_goals
  go_wp2;go_ret;refine ⟨rfl,?_⟩
  repeat' with_reducible first|exact zRf|refine aF ?_|refine grow ?_ rfl _
theorem aSA (code y z:Int) (w:World) (hx:code / 64=2) (hy:code / 8%8=y) (hz:code%8=z) (h0:0<=code) (h1:code<=255) :
  Calls prog 103 #[.int .i64 code,.bool false] w fun e w'=>e=.returned (.string (at8 wQ y ++ ⟨#[32,97,44]⟩ ++ at8 kA z))/\Below w.heap.size w w':=by
 have y0:0<=y:=by omega
 have y1:y<=7:=by omega
 have z0:0<=z:=by omega
 have z1:z<=7:=by omega
 have y2:y<8:=by omega
 have z2:z<8:=by omega
 obtain ⟨ga,gb⟩:=aJA y0 y1;obtain ⟨gc,gd⟩:=kJ z0 z1;have hh:¬ code=118:=by omega
 go_enter func103,ntmps103
 go_wp2_with fail
 simp only [hy,hz];clear hx hy hz h0 h1
 go_region_with (first|(go_at_call 157;refine (fH _).mono ?_;rintro e w1 ⟨rfl,rfl⟩)|(go_at_call 155;refine (cL _).mono ?_;rintro e w1 ⟨rfl,rfl⟩)|fail)
 all_goals
  go_wp2;go_ret;refine ⟨rfl,?_⟩
  repeat' with_reducible first|exact zRf|refine aF ?_|refine grow ?_ rfl _
theorem bFX (code y z:Int) (w:World) (x:Int) (hx:code / 64=x) (x0:1<=x) (hy:code / 8%8=y) (hz:code%8=z) (h0:0<=code) (h1:code<=255) :
  Calls prog 103 #[.int .i64 code,.bool true] w fun e w'=>e=.returned (.string (at8 aRF x ++ at8 tQ y ++ ⟨#[44]⟩ ++ at8 kA z))/\Below w.heap.size w w':=by
 have y0:0<=y:=by omega
 have y1:y<=7:=by omega
 have z0:0<=z:=by omega
 have z1:z<=7:=by omega
 have y2:y<8:=by omega
 have z2:z<8:=by omega
 have x1:x<=3:=by omega
 have x2:x<4:=by omega
 have x3:0<=x:=by omega
 have hne:¬ x=0:=by omega
 have hnf:¬ code / 64=0:=by omega
 obtain ⟨ga,gb⟩:=aJB x3 x1;obtain ⟨gc,gd⟩:=kJ z0 z1;have gf:(at8 tQ y).size<=1:=by rcases bD y0 y1 with rfl|rfl|rfl|rfl|rfl|rfl|rfl|rfl <;> decide
 go_enter func103,ntmps103
 go_wp2_with fail
 simp only [hy,hz,hx];clear hnf hx hy hz h0 h1
 go_region_with (first|(go_at_call 155;refine (cL _).mono ?_;rintro e w1 ⟨rfl,rfl⟩)|(go_at_call 105;refine (tR _ _ y0 y1).mono ?_;rintro e w1 ⟨rfl,rfl⟩)|fail)
 all_goals
  go_wp2;go_ret;refine ⟨rfl,?_⟩
  repeat' with_reducible first|exact zRf|refine aF ?_|refine grow ?_ rfl _
theorem aKE (w:World):Calls prog 103 #[.int .i64 118,.bool false] w fun e w'=>e=.returned (.string ⟨#[104,97,108,116]⟩)/\Below w.heap.size w w':=by
 go_enter func103,ntmps103
 go_wp2;go_ret;exact ⟨rfl,Below.refl _ _⟩
end TmplA
end Go.Proofs.YteglcgnhhoenbaaGreatDoor
