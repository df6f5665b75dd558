/-
  Contracts and facts of ours, joined: Stpg, TmplA, LowT, TopT, Tmpl, Leng, LenX, ReadI.
-/
import Derived.Test.YtnjolmbdbgbmbaaGreatDoorP17
import Derived.Test.YtnjolmbdbgbmbaaGreatDoorP08
import Derived.Test.YtnjolmbdbgbmbaaGreatDoorP07
import Derived.Test.YtnjolmbdbgbmbaaGreatDoorP10
import Derived.Deep.QuietTactic
import Derived.Deep.DeepFit
import Derived.BigQuiet
import Derived.Test.YtnjolmbdbgbmbaaGreatDoorP00
set_option linter.unusedVariables false
set_option linter.unusedSimpArgs false
set_option maxRecDepth 20000
set_option maxHeartbeats 8000000
open Go.ChangeShapes Go.WideShapes Go.ChangeAt Go.RowKit
open Go.Proofs.Tryz
namespace Go.Proofs.YtnjolmbdbgbmbaaGreatDoor.Stpg
open Go.Deep
open Signed (inB sgn ret_int ret_bool)
open Reck ReckS ReckM ReckD TurnS
open Busw Busx Stpp Stpq Stpi Stpc Stpe
theorem has_all:∀ k:Fin 256,decide (0<=Lib.indexByte (shapes.getD (kd (k.val:Int)) ⟨#[]⟩).data.toList 67)=hasC (k.val:Int) false:=by decide +kernel
theorem has_at (c:Int) (cb:Bool) (h0:0<=c) (h1:c<=255):decide (0<=Lib.indexByte (Shape.shape c cb).data.toList 67)=hasC c cb:=by
 cases cb with
 | false =>
  rw [shape_kd h0 h1]
  obtain ⟨k,rfl⟩:=fin_of h0 h1
  exact has_all k
 | true =>
  unfold Shape.shape
  rw [show inB c 0 255=true from decide_eq_true ⟨h0,h1⟩,if_pos rfl]
  by_cases hx:c / 64=0
  ·rw [Shape.shapeR_c0 hx]
   unfold hasC
   rw [Bool.not_true,Bool.false_and]
   decide +kernel
  ·rw [Shape.shapeR_c1 hx]
   unfold hasC
   rw [Bool.not_true,Bool.false_and]
   decide +kernel
theorem flag_all:∀ f:Fin 256,(bits .and .i64 (f.val:Int) 128 != 0)=decide ((f.val:Int) / 128%2=1)/\(bits .and .i64 (f.val:Int) 16 != 0)=decide ((f.val:Int) / 16%2=1):=by decide +kernel
theorem flag_at {f:Int} (h:0<=f/\f<=255):(bits .and .i64 f 128 != 0)=decide (f / 128%2=1)/\(bits .and .i64 f 16 != 0)=decide (f / 16%2=1):=by
 obtain ⟨k,rfl⟩:=fin_of h.1 h.2
 exact flag_all k
theorem ixc_0 (w:World):(Instr.index 144 (.agg #[.int .i64 128,.int .i64 16]) (.int .i64 0)).run prog w=.ok (.int .i64 128) w:=by kernel_rfl
theorem ixc_1 (w:World):(Instr.index 144 (.agg #[.int .i64 128,.int .i64 16]) (.int .i64 1)).run prog w=.ok (.int .i64 16) w:=by kernel_rfl
theorem dec_eq {a b:Int} (ha:a=0 \/ a=1) (hb:b=0 \/ b=1):(decide (a=1) == decide (b=1))=decide (a=b):=by
 rcases ha with rfl|rfl <;> rcases hb with rfl|rfl <;> decide
theorem met_no (c:Int) (cb:Bool) (imm f:Int) (w:World) (h0:0<=c) (h1:c<=255) (hh:hasC c cb=false) :
  Calls prog 93 #[.agg #[.int .i64 c,.bool cb,.int .i64 imm],.int .i64 f] w fun e w'=>e=.returned (.bool (met c cb f))/\Below w.heap.size w w':=by
 have e1:met c cb f=true:=by unfold met;rw [hh];rfl
 rw [e1]
 have c1:=fun w=>Shape.shapeOf_any c cb w
 have c2:=fun w=>Tryz.strings_Contains_one (Shape.shape c cb) 67 w
 rw [has_at c cb h0 h1,hh] at c2
 generalize Shape.shape c cb=s at *
 clear h0 h1 hh e1
 go_enter func93,ntmps93
 go_wp2_with first|(go_at_call 77;refine (c1 _).mono ?_;rintro e w1 ⟨rfl,hb1⟩)|(go_at_call 138;refine (c2 _).mono ?_;rintro e w2 ⟨rfl,hw2⟩;have hw2:=hw2.symm;subst hw2)
 go_ret
 exact ⟨rfl,HolI.unbox hb1⟩
theorem met_yes (c:Int) (cb:Bool) (imm f k fl:Int) (w:World) (h0:0<=c) (h1:c<=255) (hh:hasC c cb=true) (hf:0<=f/\f<=255) (hk:c / 8%8%4 / 2=k)
  (hix:∀ w,(Instr.index 144 (.agg #[.int .i64 128,.int .i64 16]) (.int .i64 k)).run prog w=.ok (.int .i64 fl) w) (hfl:(bits .and .i64 f fl != 0)=decide (f / fl%2=1)) (hfe:fl=if 1<c / 8%8%4 then 16 else 128) :
  Calls prog 93 #[.agg #[.int .i64 c,.bool cb,.int .i64 imm],.int .i64 f] w fun e w'=>e=.returned (.bool (met c cb f))/\Below w.heap.size w w':=by
 have e1:met c cb f=((bits .and .i64 f fl != 0) == (decide (c / 8%8%2=1))):=by
  unfold met
  rw [hh,<- hfe,hfl,show c / 8%8%4%2=c / 8%8%2 by omega,dec_eq (by omega) (by omega)]
  rfl
 rw [e1]
 have c1:=fun w=>Shape.shapeOf_any c cb w
 have c2:=fun w=>Tryz.strings_Contains_one (Shape.shape c cb) 67 w
 have c3:=fun w=>Shape.partsOf_any c w h0 h1
 rw [has_at c cb h0 h1,hh] at c2
 generalize Shape.shape c cb=s at *
 obtain ⟨q,hq⟩ : ∃ q,q=c / 8%8%2:=⟨_,rfl⟩
 obtain ⟨y,hy⟩ : ∃ y,y=c / 8%8:=⟨_,rfl⟩
 rw [<- hq] at c3 |-
 rw [<- hy] at c3 hk
 have y0:0<=y:=by omega
 obtain ⟨r,hr⟩ : ∃ r,y.tmod 4=r:=⟨_,rfl⟩
 have hr2:r=y%4:=by rw [<- hr];exact Int.tmod_eq_emod_of_nonneg y0
 have hr0:0<=r:=by omega
 have hd:r.tdiv 2=k:=by rw [Int.tdiv_eq_ediv_of_nonneg hr0,hr2];exact hk
 have hw:IntKind.i64.wrap k=k:=by rw [IntKind.wrap_i64];omega
 obtain ⟨b,hb⟩ : ∃ b,(bits .and .i64 f fl != 0)=b:=⟨_,rfl⟩
 rw [hb]
 have hqq:(q == 1)=decide (q=1):=by by_cases h:q=1 <;> simp [h]
 generalize decide (q=1)=dq at *
 generalize c / 64=x0 at *
 generalize c%8=z0 at *
 generalize y / 2=p0 at *
 clear h0 h1 hh e1 hfl hfe hk hf hq hy hr2
 go_enter func93,ntmps93
 go_wp2_with first|(go_at_call 77;refine (c1 _).mono ?_;rintro e w1 ⟨rfl,hb1⟩;have k0:=HolI.box hb1 0 _ rfl;have HB1:Hid (Below w.heap.size w w1):=HolI.unbox hb1;clear hb1)|(go_at_call 138;refine (c2 _).mono ?_;rintro e w2 ⟨rfl,hw2⟩;have hw2:=hw2.symm;subst hw2)|(go_at_call 78;refine (c3 _).mono ?_;rintro e w3 ⟨rfl,hb3⟩;have HB3:Hid (Below w.heap.size w w3):=HolI.after HB1.out hb3;clear hb3)
 go_ret
 exact ⟨rfl,zGr HB3.out _⟩
theorem met_any (c:Int) (cb:Bool) (imm f:Int) (w:World) (h0:0<=c) (h1:c<=255) (hf:0<=f/\f<=255) :
  Calls prog 93 #[.agg #[.int .i64 c,.bool cb,.int .i64 imm],.int .i64 f] w fun e w'=>e=.returned (.bool (met c cb f))/\Below w.heap.size w w':=by
 cases hh:hasC c cb with
 | false=>exact met_no c cb imm f w h0 h1 hh
 | true =>
  by_cases hk:c / 8%8%4 / 2=0
  ·exact met_yes c cb imm f 0 128 w h0 h1 hh hf hk ixc_0 (flag_at hf).1 (by rw [if_neg (by omega)])
  ·exact met_yes c cb imm f 1 16 w h0 h1 hh hf (by omega) ixc_1 (flag_at hf).2 (by rw [if_pos (by omega)])
end Go.Proofs.YtnjolmbdbgbmbaaGreatDoor.Stpg
namespace Go.Proofs.YtnjolmbdbgbmbaaGreatDoor.TmplA
open Tabs
theorem below_of_drew {B:Nat} {w w':World} (h:Below B w w'):Below B w w'.drew:=⟨h.os,h.tape,h.output,h.size,h.block⟩
theorem grow {B:Nat} {a b:World} (h:Below B a b) (hB:B=a.heap.size) (o:Obj):Below B a (b.alloc o):=h.alloc (by subst hB;exact h.size) o
theorem turn_any (code y z:Int) (w:World) (hx:code / 64=0) (hy:code / 8%8=y) (hz:code%8=z) (h0:0<=code) (h1:code<=255) :
  Calls prog 213 #[.int .i64 code,.bool true] w fun e w'=>e=.returned (.string (at8 turns y ++ ⟨#[32]⟩ ++ at8 regs z))/\Below w.heap.size w w':=by
 have y0:0<=y:=by omega
 have y1:y<=7:=by omega
 have z0:0<=z:=by omega
 have z1:z<=7:=by omega
 have y2:y<8:=by omega
 have z2:z<8:=by omega
 obtain ⟨ga,gb⟩:=turns_get y0 y1
 obtain ⟨gc,gd⟩:=regs_get z0 z1
 go_enter func213,ntmps213
 go_wp2_with fail
 simp only [hy,hz]
 clear hx hy hz h0 h1
 go_region_with (first|(go_at_call 228;refine (turns_any _).mono ?_;rintro e w1 ⟨rfl,rfl⟩)|(go_at_call 229;refine (regs_any _).mono ?_;rintro e w1 ⟨rfl,rfl⟩)|fail)
 all_goals
  go_wp2
  go_ret
  refine ⟨rfl,?_⟩
  repeat' with_reducible first|exact zRf|refine below_of_drew ?_|refine grow ?_ rfl _
theorem ld_any (code y z:Int) (w:World) (hx:code / 64=1) (hh:¬ code=118) (hy:code / 8%8=y) (hz:code%8=z) (h0:0<=code) (h1:code<=255) :
  Calls prog 213 #[.int .i64 code,.bool false] w fun e w'=>e=.returned (.string (⟨#[108,100,32]⟩ ++ at8 regs y ++ ⟨#[44]⟩ ++ at8 regs z))/\Below w.heap.size w w':=by
 have y0:0<=y:=by omega
 have y1:y<=7:=by omega
 have z0:0<=z:=by omega
 have z1:z<=7:=by omega
 have y2:y<8:=by omega
 have z2:z<8:=by omega
 obtain ⟨ga,gb⟩:=regs_get y0 y1
 obtain ⟨gc,gd⟩:=regs_get z0 z1
 have q118:(code == 118)=false:=by simpa using hh
 go_enter func213,ntmps213
 go_wp2_with fail
 simp only [hy,hz]
 clear hx hy hz h0 h1
 go_region_with (first|(go_at_call 229;refine (regs_any _).mono ?_;rintro e w1 ⟨rfl,rfl⟩)|fail)
 all_goals
  go_wp2
  go_ret
  refine ⟨rfl,?_⟩
  repeat' with_reducible first|exact zRf|refine below_of_drew ?_|refine grow ?_ rfl _
theorem sum_any (code y z:Int) (w:World) (hx:code / 64=2) (hy:code / 8%8=y) (hz:code%8=z) (h0:0<=code) (h1:code<=255) :
  Calls prog 213 #[.int .i64 code,.bool false] w fun e w'=>e=.returned (.string (at8 alus y ++ ⟨#[32,97,44]⟩ ++ at8 regs z))/\Below w.heap.size w w':=by
 have y0:0<=y:=by omega
 have y1:y<=7:=by omega
 have z0:0<=z:=by omega
 have z1:z<=7:=by omega
 have y2:y<8:=by omega
 have z2:z<8:=by omega
 obtain ⟨ga,gb⟩:=alus_get y0 y1
 obtain ⟨gc,gd⟩:=regs_get z0 z1
 have hh:¬ code=118:=by omega
 go_enter func213,ntmps213
 go_wp2_with fail
 simp only [hy,hz]
 clear hx hy hz h0 h1
 go_region_with (first|(go_at_call 232;refine (alus_any _).mono ?_;rintro e w1 ⟨rfl,rfl⟩)|(go_at_call 229;refine (regs_any _).mono ?_;rintro e w1 ⟨rfl,rfl⟩)|fail)
 all_goals
  go_wp2
  go_ret
  refine ⟨rfl,?_⟩
  repeat' with_reducible first|exact zRf|refine below_of_drew ?_|refine grow ?_ rfl _
theorem bit_x (code y z:Int) (w:World) (x:Int) (hx:code / 64=x) (x0:1<=x) (hy:code / 8%8=y) (hz:code%8=z) (h0:0<=code) (h1:code<=255) :
  Calls prog 213 #[.int .i64 code,.bool true] w fun e w'=>e=.returned (.string (at8 bitW x ++ at8 decs y ++ ⟨#[44]⟩ ++ at8 regs z))/\Below w.heap.size w w':=by
 have y0:0<=y:=by omega
 have y1:y<=7:=by omega
 have z0:0<=z:=by omega
 have z1:z<=7:=by omega
 have y2:y<8:=by omega
 have z2:z<8:=by omega
 have x1:x<=3:=by omega
 have x2:x<4:=by omega
 have x3:0<=x:=by omega
 have hne:¬ x=0:=by omega
 have hnf:¬ code / 64=0:=by omega
 obtain ⟨ga,gb⟩:=bitW_get x3 x1
 obtain ⟨gc,gd⟩:=regs_get z0 z1
 have gf:(at8 decs y).size<=1:=by rcases cases8 y0 y1 with rfl|rfl|rfl|rfl|rfl|rfl|rfl|rfl <;> decide
 go_enter func213,ntmps213
 go_wp2_with fail
 simp only [hy,hz,hx]
 clear hnf hx hy hz h0 h1
 go_region_with (first|(go_at_call 229;refine (regs_any _).mono ?_;rintro e w1 ⟨rfl,rfl⟩)|(go_at_call 230;refine (dec_any _ _ y0 y1).mono ?_;rintro e w1 ⟨rfl,rfl⟩)|fail)
 all_goals
  go_wp2
  go_ret
  refine ⟨rfl,?_⟩
  repeat' with_reducible first|exact zRf|refine below_of_drew ?_|refine grow ?_ rfl _
theorem halt_any (w:World):Calls prog 213 #[.int .i64 118,.bool false] w fun e w'=>e=.returned (.string ⟨#[104,97,108,116]⟩)/\Below w.heap.size w w':=by
 go_enter func213,ntmps213
 go_wp2
 go_ret
 exact ⟨rfl,Below.refl _ _⟩
end Go.Proofs.YtnjolmbdbgbmbaaGreatDoor.TmplA
namespace Go.Proofs.YtnjolmbdbgbmbaaGreatDoor.LowT
open Signed (inB l1In_any)
open Tabs
theorem below_of_drew {B:Nat} {w w':World} (h:Below B w w'):Below B w w'.drew:=⟨h.os,h.tape,h.output,h.size,h.block⟩
def lowT:List (List ByteArray):=[[⟨#[110,111,112]⟩,⟨#[108,100,32,91,110,49,54,93,44,115,112]⟩,⟨#[115,116,111,112,32,110,56]⟩,⟨#[106,114,32,101,56]⟩,⟨#[106,114,32,110,122,44,101,56]⟩,⟨#[106,114,32,122,44,101,56]⟩,⟨#[106,114,32,110,99,44,101,56]⟩,⟨#[106,114,32,99,44,101,56]⟩],
 [⟨#[108,100,32,98,99,44,110,49,54]⟩,⟨#[97,100,100,32,104,108,44,98,99]⟩,⟨#[108,100,32,100,101,44,110,49,54]⟩,⟨#[97,100,100,32,104,108,44,100,101]⟩,⟨#[108,100,32,104,108,44,110,49,54]⟩,⟨#[97,100,100,32,104,108,44,104,108]⟩,⟨#[108,100,32,115,112,44,110,49,54]⟩,⟨#[97,100,100,32,104,108,44,115,112]⟩],
 [⟨#[108,100,32,91,98,99,93,44,97]⟩,⟨#[108,100,32,97,44,91,98,99,93]⟩,⟨#[108,100,32,91,100,101,93,44,97]⟩,⟨#[108,100,32,97,44,91,100,101,93]⟩,⟨#[108,100,32,91,104,108,43,93,44,97]⟩,⟨#[108,100,32,97,44,91,104,108,43,93]⟩,⟨#[108,100,32,91,104,108,45,93,44,97]⟩,⟨#[108,100,32,97,44,91,104,108,45,93]⟩],
 [⟨#[105,110,99,32,98,99]⟩,⟨#[100,101,99,32,98,99]⟩,⟨#[105,110,99,32,100,101]⟩,⟨#[100,101,99,32,100,101]⟩,⟨#[105,110,99,32,104,108]⟩,⟨#[100,101,99,32,104,108]⟩,⟨#[105,110,99,32,115,112]⟩,⟨#[100,101,99,32,115,112]⟩],
 [⟨#[105,110,99,32,98]⟩,⟨#[105,110,99,32,99]⟩,⟨#[105,110,99,32,100]⟩,⟨#[105,110,99,32,101]⟩,⟨#[105,110,99,32,104]⟩,⟨#[105,110,99,32,108]⟩,⟨#[105,110,99,32,91,104,108,93]⟩,⟨#[105,110,99,32,97]⟩],
 [⟨#[100,101,99,32,98]⟩,⟨#[100,101,99,32,99]⟩,⟨#[100,101,99,32,100]⟩,⟨#[100,101,99,32,101]⟩,⟨#[100,101,99,32,104]⟩,⟨#[100,101,99,32,108]⟩,⟨#[100,101,99,32,91,104,108,93]⟩,⟨#[100,101,99,32,97]⟩],
 [⟨#[108,100,32,98,44,110,56]⟩,⟨#[108,100,32,99,44,110,56]⟩,⟨#[108,100,32,100,44,110,56]⟩,⟨#[108,100,32,101,44,110,56]⟩,⟨#[108,100,32,104,44,110,56]⟩,⟨#[108,100,32,108,44,110,56]⟩,⟨#[108,100,32,91,104,108,93,44,110,56]⟩,⟨#[108,100,32,97,44,110,56]⟩],
 [⟨#[114,108,99,97]⟩,⟨#[114,114,99,97]⟩,⟨#[114,108,97]⟩,⟨#[114,114,97]⟩,⟨#[100,97,97]⟩,⟨#[99,112,108]⟩,⟨#[115,99,102]⟩,⟨#[99,99,102]⟩]]
def lowS (y z:Int):ByteArray:=at8 (lowT.getD z.toNat []) y
set_option maxRecDepth 20000 in
theorem low_0 (y:Int) (w:World) (y0:0<=y) (y1:y<=7) :
  Calls prog 231 #[.int .i64 y,.int .i64 0] w fun e w'=>e=.returned (.string (lowS y 0))/\Below w.heap.size w w':=by
 rcases cases8 y0 y1 with rfl|rfl|rfl|rfl|rfl|rfl|rfl|rfl
 all_goals
  go_enter func231,ntmps231
  go_wp2_with (first|(go_at_call 229;refine (regs_any _).mono ?_;rintro e w1 ⟨rfl,rfl⟩)|(go_at_call 243;refine (pairs_any _).mono ?_;rintro e w1 ⟨rfl,rfl⟩)|(go_at_call 242;refine (conds_any _).mono ?_;rintro e w1 ⟨rfl,rfl⟩))
  all_goals
   go_ret
   refine ⟨ret_str (by kernel_rfl),?_⟩
   repeat' first|exact zRf|refine below_of_drew ?_|refine Below.alloc ?_ ?_ _|exact Nat.le_refl _|(simp;done)|(simp;omega)
set_option maxRecDepth 20000 in
theorem low_1 (y:Int) (w:World) (y0:0<=y) (y1:y<=7) :
  Calls prog 231 #[.int .i64 y,.int .i64 1] w fun e w'=>e=.returned (.string (lowS y 1))/\Below w.heap.size w w':=by
 rcases cases8 y0 y1 with rfl|rfl|rfl|rfl|rfl|rfl|rfl|rfl
 all_goals
  go_enter func231,ntmps231
  go_wp2_with (first|(go_at_call 229;refine (regs_any _).mono ?_;rintro e w1 ⟨rfl,rfl⟩)|(go_at_call 243;refine (pairs_any _).mono ?_;rintro e w1 ⟨rfl,rfl⟩)|(go_at_call 242;refine (conds_any _).mono ?_;rintro e w1 ⟨rfl,rfl⟩))
  all_goals
   go_ret
   refine ⟨ret_str (by kernel_rfl),?_⟩
   repeat' first|exact zRf|refine below_of_drew ?_|refine Below.alloc ?_ ?_ _|exact Nat.le_refl _|(simp;done)|(simp;omega)
set_option maxRecDepth 20000 in
theorem low_2 (y:Int) (w:World) (y0:0<=y) (y1:y<=7) :
  Calls prog 231 #[.int .i64 y,.int .i64 2] w fun e w'=>e=.returned (.string (lowS y 2))/\Below w.heap.size w w':=by
 rcases cases8 y0 y1 with rfl|rfl|rfl|rfl|rfl|rfl|rfl|rfl
 all_goals
  go_enter func231,ntmps231
  go_wp2_with (first|(go_at_call 229;refine (regs_any _).mono ?_;rintro e w1 ⟨rfl,rfl⟩)|(go_at_call 243;refine (pairs_any _).mono ?_;rintro e w1 ⟨rfl,rfl⟩)|(go_at_call 242;refine (conds_any _).mono ?_;rintro e w1 ⟨rfl,rfl⟩))
  all_goals
   go_ret
   refine ⟨ret_str (by kernel_rfl),?_⟩
   repeat' first|exact zRf|refine below_of_drew ?_|refine Below.alloc ?_ ?_ _|exact Nat.le_refl _|(simp;done)|(simp;omega)
set_option maxRecDepth 20000 in
theorem low_3 (y:Int) (w:World) (y0:0<=y) (y1:y<=7) :
  Calls prog 231 #[.int .i64 y,.int .i64 3] w fun e w'=>e=.returned (.string (lowS y 3))/\Below w.heap.size w w':=by
 rcases cases8 y0 y1 with rfl|rfl|rfl|rfl|rfl|rfl|rfl|rfl
 all_goals
  go_enter func231,ntmps231
  go_wp2_with fail
  go_region_with (first|(go_at_call 229;refine (regs_any _).mono ?_;rintro e w1 ⟨rfl,rfl⟩)|(go_at_call 243;refine (pairs_any _).mono ?_;rintro e w1 ⟨rfl,rfl⟩)|(go_at_call 242;refine (conds_any _).mono ?_;rintro e w1 ⟨rfl,rfl⟩))
  all_goals go_wp2
  all_goals
   go_ret
   refine ⟨ret_str (by kernel_rfl),?_⟩
   repeat' first|exact zRf|refine below_of_drew ?_|refine Below.alloc ?_ ?_ _|exact Nat.le_refl _|(simp;done)|(simp;omega)
set_option maxRecDepth 20000 in
theorem low_4 (y:Int) (w:World) (y0:0<=y) (y1:y<=7) :
  Calls prog 231 #[.int .i64 y,.int .i64 4] w fun e w'=>e=.returned (.string (lowS y 4))/\Below w.heap.size w w':=by
 rcases cases8 y0 y1 with rfl|rfl|rfl|rfl|rfl|rfl|rfl|rfl
 all_goals
  go_enter func231,ntmps231
  go_wp2_with (first|(go_at_call 229;refine (regs_any _).mono ?_;rintro e w1 ⟨rfl,rfl⟩)|(go_at_call 243;refine (pairs_any _).mono ?_;rintro e w1 ⟨rfl,rfl⟩)|(go_at_call 242;refine (conds_any _).mono ?_;rintro e w1 ⟨rfl,rfl⟩))
  all_goals
   go_ret
   refine ⟨ret_str (by kernel_rfl),?_⟩
   repeat' first|exact zRf|refine below_of_drew ?_|refine Below.alloc ?_ ?_ _|exact Nat.le_refl _|(simp;done)|(simp;omega)
set_option maxRecDepth 20000 in
theorem low_5 (y:Int) (w:World) (y0:0<=y) (y1:y<=7) :
  Calls prog 231 #[.int .i64 y,.int .i64 5] w fun e w'=>e=.returned (.string (lowS y 5))/\Below w.heap.size w w':=by
 rcases cases8 y0 y1 with rfl|rfl|rfl|rfl|rfl|rfl|rfl|rfl
 all_goals
  go_enter func231,ntmps231
  go_wp2_with (first|(go_at_call 229;refine (regs_any _).mono ?_;rintro e w1 ⟨rfl,rfl⟩)|(go_at_call 243;refine (pairs_any _).mono ?_;rintro e w1 ⟨rfl,rfl⟩)|(go_at_call 242;refine (conds_any _).mono ?_;rintro e w1 ⟨rfl,rfl⟩))
  all_goals
   go_ret
   refine ⟨ret_str (by kernel_rfl),?_⟩
   repeat' first|exact zRf|refine below_of_drew ?_|refine Below.alloc ?_ ?_ _|exact Nat.le_refl _|(simp;done)|(simp;omega)
set_option maxRecDepth 20000 in
theorem low_6 (y:Int) (w:World) (y0:0<=y) (y1:y<=7) :
  Calls prog 231 #[.int .i64 y,.int .i64 6] w fun e w'=>e=.returned (.string (lowS y 6))/\Below w.heap.size w w':=by
 rcases cases8 y0 y1 with rfl|rfl|rfl|rfl|rfl|rfl|rfl|rfl
 all_goals
  go_enter func231,ntmps231
  go_wp2_with (first|(go_at_call 229;refine (regs_any _).mono ?_;rintro e w1 ⟨rfl,rfl⟩)|(go_at_call 243;refine (pairs_any _).mono ?_;rintro e w1 ⟨rfl,rfl⟩)|(go_at_call 242;refine (conds_any _).mono ?_;rintro e w1 ⟨rfl,rfl⟩))
  all_goals
   go_ret
   refine ⟨ret_str (by kernel_rfl),?_⟩
   repeat' first|exact zRf|refine below_of_drew ?_|refine Below.alloc ?_ ?_ _|exact Nat.le_refl _|(simp;done)|(simp;omega)
set_option maxRecDepth 20000 in
theorem low_7 (y:Int) (w:World) (y0:0<=y) (y1:y<=7) :
  Calls prog 231 #[.int .i64 y,.int .i64 7] w fun e w'=>e=.returned (.string (lowS y 7))/\Below w.heap.size w w':=by
 rcases cases8 y0 y1 with rfl|rfl|rfl|rfl|rfl|rfl|rfl|rfl
 all_goals
  go_enter func231,ntmps231
  go_wp2_with (first|(go_at_call 229;refine (regs_any _).mono ?_;rintro e w1 ⟨rfl,rfl⟩)|(go_at_call 243;refine (pairs_any _).mono ?_;rintro e w1 ⟨rfl,rfl⟩)|(go_at_call 242;refine (conds_any _).mono ?_;rintro e w1 ⟨rfl,rfl⟩))
  all_goals
   go_ret
   refine ⟨ret_str (by kernel_rfl),?_⟩
   repeat' first|exact zRf|refine below_of_drew ?_|refine Below.alloc ?_ ?_ _|exact Nat.le_refl _|(simp;done)|(simp;omega)
theorem low_any (y z:Int) (w:World) (y0:0<=y) (y1:y<=7) (z0:0<=z) (z1:z<=7) :
  Calls prog 231 #[.int .i64 y,.int .i64 z] w fun e w'=>e=.returned (.string (lowS y z))/\Below w.heap.size w w':=by
 rcases cases8 z0 z1 with rfl|rfl|rfl|rfl|rfl|rfl|rfl|rfl
 ·exact low_0 y w y0 y1
 ·exact low_1 y w y0 y1
 ·exact low_2 y w y0 y1
 ·exact low_3 y w y0 y1
 ·exact low_4 y w y0 y1
 ·exact low_5 y w y0 y1
 ·exact low_6 y w y0 y1
 ·exact low_7 y w y0 y1
end Go.Proofs.YtnjolmbdbgbmbaaGreatDoor.LowT
namespace Go.Proofs.YtnjolmbdbgbmbaaGreatDoor.TopT
open Signed (inB l1In_any)
open Tabs
def topT:List (List ByteArray):=[[⟨#[114,101,116,32,110,122]⟩,⟨#[114,101,116,32,122]⟩,⟨#[114,101,116,32,110,99]⟩,⟨#[114,101,116,32,99]⟩,⟨#[108,100,104,32,91,110,56,93,44,97]⟩,⟨#[97,100,100,32,115,112,44,101,56]⟩,⟨#[108,100,104,32,97,44,91,110,56,93]⟩,⟨#[108,100,32,104,108,44,115,112,43,101,56]⟩],
 [⟨#[112,111,112,32,98,99]⟩,⟨#[114,101,116]⟩,⟨#[112,111,112,32,100,101]⟩,⟨#[114,101,116,105]⟩,⟨#[112,111,112,32,104,108]⟩,⟨#[106,112,32,104,108]⟩,⟨#[112,111,112,32,97,102]⟩,⟨#[108,100,32,115,112,44,104,108]⟩],
 [⟨#[106,112,32,110,122,44,110,49,54]⟩,⟨#[106,112,32,122,44,110,49,54]⟩,⟨#[106,112,32,110,99,44,110,49,54]⟩,⟨#[106,112,32,99,44,110,49,54]⟩,⟨#[108,100,104,32,91,99,93,44,97]⟩,⟨#[108,100,32,91,110,49,54,93,44,97]⟩,⟨#[108,100,104,32,97,44,91,99,93]⟩,⟨#[108,100,32,97,44,91,110,49,54,93]⟩],
 [⟨#[106,112,32,110,49,54]⟩,⟨#[]⟩,⟨#[]⟩,⟨#[]⟩,⟨#[]⟩,⟨#[]⟩,⟨#[100,105]⟩,⟨#[101,105]⟩],
 [⟨#[99,97,108,108,32,110,122,44,110,49,54]⟩,⟨#[99,97,108,108,32,122,44,110,49,54]⟩,⟨#[99,97,108,108,32,110,99,44,110,49,54]⟩,⟨#[99,97,108,108,32,99,44,110,49,54]⟩,⟨#[]⟩,⟨#[]⟩,⟨#[]⟩,⟨#[]⟩],
 [⟨#[112,117,115,104,32,98,99]⟩,⟨#[99,97,108,108,32,110,49,54]⟩,⟨#[112,117,115,104,32,100,101]⟩,⟨#[]⟩,⟨#[112,117,115,104,32,104,108]⟩,⟨#[]⟩,⟨#[112,117,115,104,32,97,102]⟩,⟨#[]⟩],
 [⟨#[97,100,100,32,97,44,110,56]⟩,⟨#[97,100,99,32,97,44,110,56]⟩,⟨#[115,117,98,32,97,44,110,56]⟩,⟨#[115,98,99,32,97,44,110,56]⟩,⟨#[97,110,100,32,97,44,110,56]⟩,⟨#[120,111,114,32,97,44,110,56]⟩,⟨#[111,114,32,97,44,110,56]⟩,⟨#[99,112,32,97,44,110,56]⟩],
 [⟨#[114,115,116,32,36,48,48]⟩,⟨#[114,115,116,32,36,48,56]⟩,⟨#[114,115,116,32,36,49,48]⟩,⟨#[114,115,116,32,36,49,56]⟩,⟨#[114,115,116,32,36,50,48]⟩,⟨#[114,115,116,32,36,50,56]⟩,⟨#[114,115,116,32,36,51,48]⟩,⟨#[114,115,116,32,36,51,56]⟩]]
def topS (y z:Int):ByteArray:=at8 (topT.getD z.toNat []) y
set_option maxRecDepth 20000 in
theorem top_0 (y:Int) (w:World) (y0:0<=y) (y1:y<=7) :
  Calls prog 233 #[.int .i64 y,.int .i64 0] w fun e w'=>e=.returned (.string (topS y 0))/\Below w.heap.size w w':=by
 rcases cases8 y0 y1 with rfl|rfl|rfl|rfl|rfl|rfl|rfl|rfl
 all_goals
  go_enter func233,ntmps233
  go_wp2_with (first|(go_at_call 229;refine (regs_any _).mono ?_;rintro e w1 ⟨rfl,rfl⟩)|(go_at_call 243;refine (pairs_any _).mono ?_;rintro e w1 ⟨rfl,rfl⟩)|(go_at_call 242;refine (conds_any _).mono ?_;rintro e w1 ⟨rfl,rfl⟩)|(go_at_call 232;refine (alus_any _).mono ?_;rintro e w1 ⟨rfl,rfl⟩)|(go_at_call 244;refine (hex_any _ _ (by decide)).mono ?_;rintro e w1 ⟨rfl,rfl⟩))
  all_goals
   go_ret
   refine ⟨ret_str (by kernel_rfl),?_⟩
   repeat' first|exact zRf|refine below_of_drew ?_|refine Below.alloc ?_ ?_ _|exact Nat.le_refl _|(simp;done)|(simp;omega)
set_option maxRecDepth 20000 in
theorem top_1 (y:Int) (w:World) (y0:0<=y) (y1:y<=7) :
  Calls prog 233 #[.int .i64 y,.int .i64 1] w fun e w'=>e=.returned (.string (topS y 1))/\Below w.heap.size w w':=by
 rcases cases8 y0 y1 with rfl|rfl|rfl|rfl|rfl|rfl|rfl|rfl
 all_goals
  go_enter func233,ntmps233
  go_wp2_with (first|(go_at_call 229;refine (regs_any _).mono ?_;rintro e w1 ⟨rfl,rfl⟩)|(go_at_call 243;refine (pairs_any _).mono ?_;rintro e w1 ⟨rfl,rfl⟩)|(go_at_call 242;refine (conds_any _).mono ?_;rintro e w1 ⟨rfl,rfl⟩)|(go_at_call 232;refine (alus_any _).mono ?_;rintro e w1 ⟨rfl,rfl⟩)|(go_at_call 244;refine (hex_any _ _ (by decide)).mono ?_;rintro e w1 ⟨rfl,rfl⟩))
  all_goals
   go_ret
   refine ⟨ret_str (by kernel_rfl),?_⟩
   repeat' first|exact zRf|refine below_of_drew ?_|refine Below.alloc ?_ ?_ _|exact Nat.le_refl _|(simp;done)|(simp;omega)
set_option maxRecDepth 20000 in
theorem top_2 (y:Int) (w:World) (y0:0<=y) (y1:y<=7) :
  Calls prog 233 #[.int .i64 y,.int .i64 2] w fun e w'=>e=.returned (.string (topS y 2))/\Below w.heap.size w w':=by
 rcases cases8 y0 y1 with rfl|rfl|rfl|rfl|rfl|rfl|rfl|rfl
 all_goals
  go_enter func233,ntmps233
  go_wp2_with (first|(go_at_call 229;refine (regs_any _).mono ?_;rintro e w1 ⟨rfl,rfl⟩)|(go_at_call 243;refine (pairs_any _).mono ?_;rintro e w1 ⟨rfl,rfl⟩)|(go_at_call 242;refine (conds_any _).mono ?_;rintro e w1 ⟨rfl,rfl⟩)|(go_at_call 232;refine (alus_any _).mono ?_;rintro e w1 ⟨rfl,rfl⟩)|(go_at_call 244;refine (hex_any _ _ (by decide)).mono ?_;rintro e w1 ⟨rfl,rfl⟩))
  all_goals
   go_ret
   refine ⟨ret_str (by kernel_rfl),?_⟩
   repeat' first|exact zRf|refine below_of_drew ?_|refine Below.alloc ?_ ?_ _|exact Nat.le_refl _|(simp;done)|(simp;omega)
set_option maxRecDepth 20000 in
theorem top_3 (y:Int) (w:World) (y0:0<=y) (y1:y<=7) :
  Calls prog 233 #[.int .i64 y,.int .i64 3] w fun e w'=>e=.returned (.string (topS y 3))/\Below w.heap.size w w':=by
 rcases cases8 y0 y1 with rfl|rfl|rfl|rfl|rfl|rfl|rfl|rfl
 all_goals
  go_enter func233,ntmps233
  go_wp2_with (first|(go_at_call 229;refine (regs_any _).mono ?_;rintro e w1 ⟨rfl,rfl⟩)|(go_at_call 243;refine (pairs_any _).mono ?_;rintro e w1 ⟨rfl,rfl⟩)|(go_at_call 242;refine (conds_any _).mono ?_;rintro e w1 ⟨rfl,rfl⟩)|(go_at_call 232;refine (alus_any _).mono ?_;rintro e w1 ⟨rfl,rfl⟩)|(go_at_call 244;refine (hex_any _ _ (by decide)).mono ?_;rintro e w1 ⟨rfl,rfl⟩))
  all_goals
   go_ret
   refine ⟨ret_str (by kernel_rfl),?_⟩
   repeat' first|exact zRf|refine below_of_drew ?_|refine Below.alloc ?_ ?_ _|exact Nat.le_refl _|(simp;done)|(simp;omega)
set_option maxRecDepth 20000 in
theorem top_4 (y:Int) (w:World) (y0:0<=y) (y1:y<=7) :
  Calls prog 233 #[.int .i64 y,.int .i64 4] w fun e w'=>e=.returned (.string (topS y 4))/\Below w.heap.size w w':=by
 rcases cases8 y0 y1 with rfl|rfl|rfl|rfl|rfl|rfl|rfl|rfl
 all_goals
  go_enter func233,ntmps233
  go_wp2_with (first|(go_at_call 229;refine (regs_any _).mono ?_;rintro e w1 ⟨rfl,rfl⟩)|(go_at_call 243;refine (pairs_any _).mono ?_;rintro e w1 ⟨rfl,rfl⟩)|(go_at_call 242;refine (conds_any _).mono ?_;rintro e w1 ⟨rfl,rfl⟩)|(go_at_call 232;refine (alus_any _).mono ?_;rintro e w1 ⟨rfl,rfl⟩)|(go_at_call 244;refine (hex_any _ _ (by decide)).mono ?_;rintro e w1 ⟨rfl,rfl⟩))
  all_goals
   go_ret
   refine ⟨ret_str (by kernel_rfl),?_⟩
   repeat' first|exact zRf|refine below_of_drew ?_|refine Below.alloc ?_ ?_ _|exact Nat.le_refl _|(simp;done)|(simp;omega)
set_option maxRecDepth 20000 in
theorem top_5 (y:Int) (w:World) (y0:0<=y) (y1:y<=7) :
  Calls prog 233 #[.int .i64 y,.int .i64 5] w fun e w'=>e=.returned (.string (topS y 5))/\Below w.heap.size w w':=by
 rcases cases8 y0 y1 with rfl|rfl|rfl|rfl|rfl|rfl|rfl|rfl
 all_goals
  go_enter func233,ntmps233
  go_wp2_with (first|(go_at_call 229;refine (regs_any _).mono ?_;rintro e w1 ⟨rfl,rfl⟩)|(go_at_call 243;refine (pairs_any _).mono ?_;rintro e w1 ⟨rfl,rfl⟩)|(go_at_call 242;refine (conds_any _).mono ?_;rintro e w1 ⟨rfl,rfl⟩)|(go_at_call 232;refine (alus_any _).mono ?_;rintro e w1 ⟨rfl,rfl⟩)|(go_at_call 244;refine (hex_any _ _ (by decide)).mono ?_;rintro e w1 ⟨rfl,rfl⟩))
  all_goals
   go_ret
   refine ⟨ret_str (by kernel_rfl),?_⟩
   repeat' first|exact zRf|refine below_of_drew ?_|refine Below.alloc ?_ ?_ _|exact Nat.le_refl _|(simp;done)|(simp;omega)
set_option maxRecDepth 20000 in
theorem top_6 (y:Int) (w:World) (y0:0<=y) (y1:y<=7) :
  Calls prog 233 #[.int .i64 y,.int .i64 6] w fun e w'=>e=.returned (.string (topS y 6))/\Below w.heap.size w w':=by
 rcases cases8 y0 y1 with rfl|rfl|rfl|rfl|rfl|rfl|rfl|rfl
 all_goals
  go_enter func233,ntmps233
  go_wp2_with (first|(go_at_call 229;refine (regs_any _).mono ?_;rintro e w1 ⟨rfl,rfl⟩)|(go_at_call 243;refine (pairs_any _).mono ?_;rintro e w1 ⟨rfl,rfl⟩)|(go_at_call 242;refine (conds_any _).mono ?_;rintro e w1 ⟨rfl,rfl⟩)|(go_at_call 232;refine (alus_any _).mono ?_;rintro e w1 ⟨rfl,rfl⟩)|(go_at_call 244;refine (hex_any _ _ (by decide)).mono ?_;rintro e w1 ⟨rfl,rfl⟩))
  all_goals
   go_ret
   refine ⟨ret_str (by kernel_rfl),?_⟩
   repeat' first|exact zRf|refine below_of_drew ?_|refine Below.alloc ?_ ?_ _|exact Nat.le_refl _|(simp;done)|(simp;omega)
set_option maxRecDepth 20000 in
theorem top_7 (y:Int) (w:World) (y0:0<=y) (y1:y<=7) :
  Calls prog 233 #[.int .i64 y,.int .i64 7] w fun e w'=>e=.returned (.string (topS y 7))/\Below w.heap.size w w':=by
 rcases cases8 y0 y1 with rfl|rfl|rfl|rfl|rfl|rfl|rfl|rfl
 all_goals
  go_enter func233,ntmps233
  go_wp2_with (first|(go_at_call 229;refine (regs_any _).mono ?_;rintro e w1 ⟨rfl,rfl⟩)|(go_at_call 243;refine (pairs_any _).mono ?_;rintro e w1 ⟨rfl,rfl⟩)|(go_at_call 242;refine (conds_any _).mono ?_;rintro e w1 ⟨rfl,rfl⟩)|(go_at_call 232;refine (alus_any _).mono ?_;rintro e w1 ⟨rfl,rfl⟩)|(go_at_call 244;refine (hex_any _ _ (by decide)).mono ?_;rintro e w1 ⟨rfl,rfl⟩))
  all_goals
   go_ret
   refine ⟨ret_str (by kernel_rfl),?_⟩
   repeat' first|exact zRf|refine below_of_drew ?_|refine Below.alloc ?_ ?_ _|exact Nat.le_refl _|(simp;done)|(simp;omega)
theorem top_any (y z:Int) (w:World) (y0:0<=y) (y1:y<=7) (z0:0<=z) (z1:z<=7) :
  Calls prog 233 #[.int .i64 y,.int .i64 z] w fun e w'=>e=.returned (.string (topS y z))/\Below w.heap.size w w':=by
 rcases cases8 z0 z1 with rfl|rfl|rfl|rfl|rfl|rfl|rfl|rfl
 ·exact top_0 y w y0 y1
 ·exact top_1 y w y0 y1
 ·exact top_2 y w y0 y1
 ·exact top_3 y w y0 y1
 ·exact top_4 y w y0 y1
 ·exact top_5 y w y0 y1
 ·exact top_6 y w y0 y1
 ·exact top_7 y w y0 y1
end Go.Proofs.YtnjolmbdbgbmbaaGreatDoor.TopT
namespace Go.Proofs.YtnjolmbdbgbmbaaGreatDoor.Tmpl
open Tabs
def tmplS (code:Int) (cb:Bool):ByteArray :=
 if cb=true then
  (if code / 64=0 then at8 turns (code / 8%8) ++ ⟨#[32]⟩ ++ at8 regs (code%8)
  else at8 bitW (code / 64) ++ at8 decs (code / 8%8) ++ ⟨#[44]⟩ ++ at8 regs (code%8))
 else if code / 64=0 then LowT.lowS (code / 8%8) (code%8)
 else if code=118 then ⟨#[104,97,108,116]⟩
 else if code / 64=1 then ⟨#[108,100,32]⟩ ++ at8 regs (code / 8%8) ++ ⟨#[44]⟩ ++ at8 regs (code%8)
 else if code / 64=2 then at8 alus (code / 8%8) ++ ⟨#[32,97,44]⟩ ++ at8 regs (code%8)
 else TopT.topS (code / 8%8) (code%8)
theorem low_t (code y z:Int) (w:World) (hx:code / 64=0) (hy:code / 8%8=y) (hz:code%8=z) (h0:0<=code) (h1:code<=255) :
  Calls prog 213 #[.int .i64 code,.bool false] w fun e w'=>e=.returned (.string (LowT.lowS y z))/\Below w.heap.size w w':=by
 have c:=fun w=>LowT.low_any y z w (by omega) (by omega) (by omega) (by omega)
 generalize LowT.lowS y z=T at c |-
 go_enter func213,ntmps213
 go_wp2_with fail
 simp only [hy,hz]
 refine (c _).mono ?_
 rintro e w1 ⟨rfl,b1⟩
 have B1:Hid (Below w.heap.size w w1):=b1
 clear b1
 go_wp2
 go_ret
 exact ⟨rfl,B1.out⟩
theorem top_t (code y z:Int) (w:World) (hx:code / 64=3) (hy:code / 8%8=y) (hz:code%8=z) (h0:0<=code) (h1:code<=255) :
  Calls prog 213 #[.int .i64 code,.bool false] w fun e w'=>e=.returned (.string (TopT.topS y z))/\Below w.heap.size w w':=by
 have c:=fun w=>TopT.top_any y z w (by omega) (by omega) (by omega) (by omega)
 have hh:¬ code=118:=by omega
 generalize TopT.topS y z=T at c |-
 go_enter func213,ntmps213
 go_wp2_with fail
 simp only [hy,hz]
 refine (c _).mono ?_
 rintro e w1 ⟨rfl,b1⟩
 have B1:Hid (Below w.heap.size w w1):=b1
 clear b1
 go_wp2
 go_ret
 exact ⟨rfl,B1.out⟩
theorem template_any (code:Int) (cb:Bool) (w:World) (h0:0<=code) (h1:code<=255) :
  Calls prog 213 #[.int .i64 code,.bool cb] w fun e w'=>e=.returned (.string (tmplS code cb))/\Below w.heap.size w w':=by
 unfold tmplS
 cases cb with
 | true =>
  rw [if_pos rfl]
  by_cases h:code / 64=0
  ·rw [if_pos h];exact TmplA.turn_any code _ _ w h rfl rfl h0 h1
  ·rw [if_neg h];exact TmplA.bit_x code _ _ w _ rfl (by omega) rfl rfl h0 h1
 | false =>
  rw [if_neg (by decide)]
  by_cases h:code / 64=0
  ·rw [if_pos h];exact low_t code _ _ w h rfl rfl h0 h1
  rw [if_neg h]
  by_cases h8:code=118
  ·subst h8;rw [if_pos rfl];exact TmplA.halt_any w
  rw [if_neg h8]
  by_cases h2:code / 64=1
  ·rw [if_pos h2];exact TmplA.ld_any code _ _ w h2 h8 rfl rfl h0 h1
  rw [if_neg h2]
  by_cases h3:code / 64=2
  ·rw [if_pos h3];exact TmplA.sum_any code _ _ w h3 rfl rfl h0 h1
  rw [if_neg h3]
  exact top_t code _ _ w (by omega) rfl rfl h0 h1
end Go.Proofs.YtnjolmbdbgbmbaaGreatDoor.Tmpl
namespace Go.Proofs.YtnjolmbdbgbmbaaGreatDoor.Leng
open Signed (inB l1In_any)
open Tmpl Hole
theorem empty_yes {s:ByteArray} (h:s.size=0):s.toList.isEmpty=true:=by
 rw [ByteArray.toList_eq,List.isEmpty_iff_length_eq_zero,Array.length_toList];exact h
theorem empty_no {s:ByteArray} (h:¬ s.size=0):s.toList.isEmpty=false:=by
 rw [ByteArray.toList_eq];cases e:s.data.toList with
 | nil=>exact absurd (by have:=congrArg List.length e;rw [Array.length_toList] at this;exact this) h
 | cons _ _=>rfl
theorem tmpl_all:∀ (c:Fin 256) (b:Bool),(tmplS (c.val:Int) b).size<=40:=by decide +kernel
theorem tmpl_le (code:Int) (cb:Bool) (h0:0<=code) (h1:code<=255):(tmplS code cb).size<=40:=by
 have:=tmpl_all ⟨code.toNat,by omega⟩ cb
 rwa [show ((⟨code.toNat,by omega⟩ : Fin 256).val:Int)=code by show ((code.toNat:Nat):Int)=code;omega] at this
def NumOf (T:ByteArray) (e:Ending):Prop:=∃ n:Int,e=.returned (.int .i64 n)/\(n=0 ↔ T.size=0)/\0<=n/\n<=3
theorem length_any (code:Int) (cb:Bool) (w:World) (h0:0<=code) (h1:code<=255) :
  Calls prog 149 #[.int .i64 code,.bool cb] w fun e w'=>NumOf (tmplS code cb) e/\Below w.heap.size w w':=by
 have c:=fun w=>template_any code cb w h0 h1
 have hz:=tmpl_le code cb h0 h1
 generalize tmplS code cb=T at c hz |-
 go_enter func149,ntmps149
 go_wp2_with fail
 refine (c _).mono ?_
 rintro e w1 ⟨rfl,b1⟩
 have B1:Hid (Below w.heap.size w w1):=b1
 clear b1 c
 by_cases he:T.size=0
 ·have h':=empty_yes he
  go_wp2
  go_ret
  exact ⟨⟨0,rfl,by omega,by omega,by omega⟩,B1.out⟩
 have h':=empty_no he
 cases cb with
 | true =>
  go_wp2
  go_ret
  exact ⟨⟨2,rfl,by omega,by omega,by omega⟩,B1.out⟩
 | false =>
  go_wp2_with fail
  refine (hole_any T _ (by omega)).mono ?_
  rintro e w2 ⟨⟨i,h,rfl⟩,b2⟩
  have B2:Hid (Below w.heap.size w w2):=B1.out.trans (b2.mono B1.out.size)
  clear b2 B1
  go_wp2
  all_goals
   go_ret
   exact ⟨⟨_,rfl,by omega,by omega,by omega⟩,B2.out⟩
theorem lengthOf_any (code:Int) (cb:Bool) (w:World) (h0:0<=code) (h1:code<=255) :
  Calls prog 135 #[.int .i64 code,.bool cb] w fun e w'=>NumOf (tmplS code cb) e/\Below w.heap.size w w':=by
 have c:=fun w=>length_any code cb w h0 h1
 have hin:inB code 0 255=true:=by unfold inB;simp;omega
 have ci:=fun w=>l1In_any code 0 255 w
 rw [hin] at ci
 generalize tmplS code cb=T at c |-
 go_enter func135,ntmps135
 go_wp2_with (first|(go_at_call 43;refine (ci _).mono ?_;rintro e w' ⟨rfl,hw'⟩;have hw':=hw'.symm;subst hw')|fail)
 refine (c _).mono ?_
 rintro e w1 ⟨⟨n,rfl,hn⟩,b1⟩
 have HN:Hid _:=hn
 have B1:Hid (Below w.heap.size w w1):=b1
 clear hn b1
 go_wp2
 go_ret
 exact ⟨⟨n,rfl,HN.out⟩,B1.out⟩
theorem lengthOf_out (code:Int) (cb:Bool) (w:World) (h:inB code 0 255=false) :
  Calls prog 135 #[.int .i64 code,.bool cb] w fun e w'=>e=.returned (.int .i64 0)/\w'=w:=by
 have ci:=fun w=>l1In_any code 0 255 w
 rw [h] at ci
 go_enter func135,ntmps135
 go_wp2_with (go_at_call 43;refine (ci _).mono ?_;rintro e w' ⟨rfl,hw'⟩;have hw':=hw'.symm;subst hw')
 go_ret
 exact ⟨rfl,rfl⟩
end Go.Proofs.YtnjolmbdbgbmbaaGreatDoor.Leng
namespace Go.Proofs.YtnjolmbdbgbmbaaGreatDoor.LenX
open Signed (inB l1In_any)
open Leng (empty_yes empty_no tmpl_le)
open HoleX (n8 n16 e8 holeT)
open HolI
theorem beqN (n:Nat):(n == 0)=decide (n=0):=by by_cases h:n=0 <;> simp [h]
def lenV (z:Bool) (cb:Bool) (h:ByteArray):Int:=if z=true then 0 else if cb=true then 2 else if h.size=0 then 1 else if h=n16 then 3 else 2
def none? (code:Int) (cb:Bool):Bool:=!inB code 0 255 || (Tmpl.tmplS code cb).size == 0
def hole (code:Int) (cb:Bool):ByteArray:=holeT (Tmpl.tmplS code cb)
theorem same_all:∀ (c:Fin 256) (b:Bool),((Tmpl.tmplS (c.val:Int) b).size=0 ↔ (Shape.shapeR (c.val:Int) b).size=0)/\holeI (Shape.shapeR (c.val:Int) b)=holeT (Tmpl.tmplS (c.val:Int) b)/\(Shape.shapeR (c.val:Int) b).size<=40:=by decide +kernel
theorem same_at (code:Int) (cb:Bool) (h0:0<=code) (h1:code<=255):((Tmpl.tmplS code cb).size=0 ↔ (Shape.shapeR code cb).size=0)/\holeI (Shape.shapeR code cb)=holeT (Tmpl.tmplS code cb)/\(Shape.shapeR code cb).size<=40:=by
 have:=same_all ⟨code.toNat,by omega⟩ cb
 rwa [show ((⟨code.toNat,by omega⟩ : Fin 256).val:Int)=code by show ((code.toNat:Nat):Int)=code;omega] at this
theorem shape_in {code:Int} {cb:Bool} (h:inB code 0 255=true):Shape.shape code cb=Shape.shapeR code cb:=by unfold Shape.shape;rw [if_pos h]
theorem shape_out {code:Int} {cb:Bool} (h:inB code 0 255=false):Shape.shape code cb=⟨#[]⟩:=by unfold Shape.shape;rw [h];rfl
theorem implLength_any (code:Int) (cb:Bool) (w:World) (hm:MaxL w) :
  Calls prog 76 #[.int .i64 code,.bool cb] w fun e w'=>e=.returned (.int .i64 (lenV (none? code cb) cb (hole code cb)))/\Below w.heap.size w w':=by
 have c:=fun w=>Shape.shapeOf_any code cb w
 cases hb:inB code 0 255
 ·have hz:(Shape.shape code cb).size=0:=by rw [shape_out hb];rfl
  have he:=empty_yes hz
  have hn:none? code cb=true:=by unfold none?;rw [hb];rfl
  rw [hn]
  generalize Shape.shape code cb=T at c he
  go_enter func76,ntmps76
  go_wp2_with fail
  refine (c _).mono ?_
  rintro e w1 ⟨rfl,b1⟩
  have B1:Hid (Below w.heap.size w w1):=b1
  clear b1 c
  go_wp2
  go_ret
  exact ⟨rfl,B1.out⟩
 obtain ⟨h0,h1⟩:=of_decide_eq_true hb
 obtain ⟨h2,h3,h4⟩:=same_at code cb h0 h1
 have hn:none? code cb=(decide ((Shape.shapeR code cb).size=0)):=by
  unfold none?;rw [hb];show (_ == 0)=_;rw [beqN];exact decide_eq_decide.2 h2
 have hh:hole code cb=holeI (Shape.shapeR code cb):=h3.symm
 rw [hn,hh]
 rw [shape_in hb] at c
 clear hn hh h2 h3 hb
 generalize Shape.shapeR code cb=T at c h4 |-
 by_cases hz:T.size=0
 ·have he:=empty_yes hz
  rw [show decide (T.size=0)=true from decide_eq_true hz]
  go_enter func76,ntmps76
  go_wp2_with fail
  refine (c _).mono ?_
  rintro e w1 ⟨rfl,b1⟩
  have B1:Hid (Below w.heap.size w w1):=b1
  clear b1 c
  go_wp2
  go_ret
  exact ⟨rfl,B1.out⟩
 have he:=empty_no hz
 rw [show decide (T.size=0)=false from decide_eq_false hz]
 have ch:=fun w hm=>holeOf_any T w (by omega) hm
 have HM:Hid (MaxL w):=hm
 clear hm
 cases cb with
 | true =>
  go_enter func76,ntmps76
  go_wp2_with fail
  refine (c _).mono ?_
  rintro e w1 ⟨rfl,b1⟩
  have B1:Hid (Below w.heap.size w w1):=b1
  clear b1 c
  go_wp2
  go_ret
  exact ⟨rfl,B1.out⟩
 | false =>
  rcases holeI_cases T with hx|hx|hx|hx
  all_goals
   rw [hx] at ch |-
   go_enter func76,ntmps76
   go_wp2_with fail
   refine (c _).mono ?_
   rintro e w1 ⟨rfl,b1⟩
   have B1:Hid (Below w.heap.size w w1):=b1
   clear b1 c
   go_wp2_with fail
   refine (ch _ (HM.out.below B1.out)).mono ?_
   rintro e w2 ⟨rfl,b2⟩
   have B2:Hid (Below w.heap.size w w2):=B1.out.trans (b2.mono B1.out.size)
   clear b2 ch B1
   go_wp2
   go_ret
   exact ⟨rfl,B2.out⟩
end Go.Proofs.YtnjolmbdbgbmbaaGreatDoor.LenX
namespace Go.Proofs.YtnjolmbdbgbmbaaGreatDoor.ReadI
open HolI LenX
def byteAt (s:ByteArray) (i:Int):Int:=if h:i.toNat<s.size then ((s[i.toNat]'h).toNat:Int) else 0
theorem byteAt_eq {s:ByteArray} {i:Int} (h:i.toNat<s.size):((s[i.toNat]'h).toNat:Int)=byteAt s i:=by unfold byteAt;rw [dif_pos h]
theorem byteAt_bd (s:ByteArray) (i:Int):0<=byteAt s i/\byteAt s i<=255:=by
 unfold byteAt
 split
 ·rename_i h
  have:=(s[i.toNat]'h).toNat_lt
  omega
 ·omega
theorem ix (s:ByteArray) (i:Int) (h0:0<=i) (h1:i<s.size) (w:World):(Instr.index 9 (.string s) (.int .i64 i)).run prog w=.ok (.int .u8 (byteAt s i)) w:=by
 rw [run_index_string w 9 s .i64 i underlying9,dif_pos ⟨h0,h1⟩,byteAt_eq (by omega)]
def lenC (c:Int):Int:=lenV (none? c false) false (hole c false)
def zeroI:Value:=.agg #[.int .i64 0,.bool false,.int .i64 0]
def immV (s:ByteArray) (a n:Int):Int:=if n=1 then 0 else if n=2 then byteAt s (a+1) else byteAt s (a+1)+256*byteAt s (a+2)
def readI (s:ByteArray) (a:Int):Value :=
 if a<0 \/ s.size<=a then zeroI
 else if byteAt s a=203 then (if s.size-a<2 then zeroI else .agg #[.int .i64 (byteAt s (a+1)),.bool true,.int .i64 0])
 else if lenC (byteAt s a)=0 \/ s.size-a<lenC (byteAt s a) then zeroI else .agg #[.int .i64 (byteAt s a),.bool false,.int .i64 (immV s a (lenC (byteAt s a)))]
def readN (s:ByteArray) (a:Int):Int :=
 if a<0 \/ s.size<=a then 0
 else if byteAt s a=203 then (if s.size-a<2 then 0 else 2)
 else if lenC (byteAt s a)=0 \/ s.size-a<lenC (byteAt s a) then 0 else lenC (byteAt s a)
theorem lenC_cases (c:Int):lenC c=0 \/ lenC c=1 \/ lenC c=2 \/ lenC c=3:=by
 unfold lenC lenV
 split
 ·exact .inl rfl
 rw [if_neg (by decide)]
 split
 ·exact .inr (.inl rfl)
 split
 ·exact .inr (.inr (.inr rfl))
 ·exact .inr (.inr (.inl rfl))
def Tup (v:Value) (n:Int):Ending:=.returned (.tuple #[v,.int .i64 n])
theorem fro {w w':World} {vs:Array Value} {T:TypeId} (h:Below (w.alloc (.cells vs T)).heap.size (w.alloc (.cells vs T)) w') (i:Nat):w'.frozen? ⟨w.heap.size,i,none⟩=false:=by
 rw [h.frozen (p:=⟨w.heap.size,i,none⟩) (by simp)]
 exact World.frozen?_alloc_new w vs T i
end Go.Proofs.YtnjolmbdbgbmbaaGreatDoor.ReadI
