import Derived.Test.YteglcgnhhoenbaaGreatDoorQ24
set_option linter.all false
set_option maxRecDepth 20000
set_option maxHeartbeats 8000000
open Go.ChangeShapes Go.WideShapes Go.ChangeAt Go.RowKit
open Go.Proofs.Tryz
namespace Go.Proofs.YteglcgnhhoenbaaGreatDoor
namespace Stcq
open Go.Deep
open Signed (inB sgn aG aB)
open Reck ReckS ReckM ReckD TurnS
open Busw Busx Busy Stpp Stpq Stps Sta Stb Stck Stcz
theorem bCQ (g:SG) (m:M) (full:Bool) (imm:Int) (c y p:Int) (c0:0<=c) (hy:c / 8=y) (hp:y / 2=p) (hq:y%2=0) (y0:0<=y) (p0:0<=p) (p1:p<=3) (hz:c%8=3) (i0:0<=imm) (i1:imm<=65535) (w:World) (h:InS g w m full) (hg:Stpq.Good m) :
  Calls prog 83 #[.pointer (some ⟨g.X,0,none⟩),.agg #[.int .i64 c,.bool false,.int .i64 imm]] w fun e w'=>e=.returned (.bool false)/\InS g w' (⟨aN m p ((pr m p+1)%65536),full⟩ : S).m (⟨aN m p ((pr m p+1)%65536),full⟩ : S).full:=by
 obtain ⟨u,hu,hI,HI,k0,k2,HLX⟩:=stq (c:=c) (imm:=imm) h;have t1:c.tdiv 8=y:=by rw [x5 c0];exact hy
 have t2:c.tmod 8=3:=by rw [x4 c0];exact hz
 have t3:IntKind.i64.wrap y=y:=by rw [x6];omega
 have t4:y.tdiv 2=p:=by rw [x5 y0];exact hp
 have t5:IntKind.i64.wrap p=p:=by rw [x6];omega
 have t6:y.tmod 2=0:=by rw [x4 y0];exact hq
 have bd:=eC hg p;have d1:IntKind.i64.wrap (pr m p+1)=pr m p+1:=by rw [x6];omega
 have d2:(pr m p+1).tmod 65536=(pr m p+1)%65536:=x4 (by omega);have c1:Hid (∀ W,InS g W m full->Calls prog 124 #[.pointer (some ⟨g.X,0,none⟩),.int .i64 p,.bool false] W fun e w'=>e=.returned (.int .i64 (pr m p))/\Below W.heap.size W w'):=fun W hi=>iF g m full p W hi hg p0 p1
 have c2:Hid (∀ W,InS g W m full->Calls prog 121 #[.pointer (some ⟨g.X,0,none⟩),.int .i64 p,.int .i64 ((pr m p+1)%65536),.bool false] W fun e w'=>e=.returned (.tuple #[])/\InS g w' (⟨aN m p ((pr m p+1)%65536),full⟩ : S).m (⟨aN m p ((pr m p+1)%65536),full⟩ : S).full):=fun W hi=>dL g m full p _ W hi hg (by omega) (by omega) (by omega) (by omega)
 generalize (⟨aN m p ((pr m p+1)%65536),full⟩ : S)=t at *
 generalize (pr m p+1)%65536=vv at *
 generalize pr m p=x2 at *
 clear bd hy hp hq hz y0 p0 p1 c0;clear h hg hI i0 i1
 go_enter func83,ntmps83
 go_upto_region 25 with fail
 rw [<- hu];clear hu
 go_region_with (first|(go_at_call 124;refine Calls.mono (c1.out _ (HI.out.below (by repeat (with_reducible first|exact zRf|refine zGr ?_ _|refine below_drewN ?_ _|refine Below.drew ?_)))) ?_;rintro e w1 ⟨rfl,hb1⟩;have hbu:Below u.heap.size u w1:=HolI.after (by repeat (with_reducible first|exact zRf|refine zGr ?_ _|refine below_drewN ?_ _|refine Below.drew ?_)) hb1;(first|(have hbx:Below (u.alloc (.cells #[.int .i64 1,.int .i64 65535] 2)).heap.size (u.alloc (.cells #[.int .i64 1,.int .i64 65535] 2)) w1:=⟨hb1.os,hb1.tape,hb1.output,hb1.size,hb1.block⟩;have z0:=HolI.box hbx 0 _ rfl;clear hbx)|skip);have HBU:Hid (Below u.heap.size u w1):=hbu;clear hb1 hbu)|(go_at_call 121;refine Calls.mono (c2.out _ (HI.out.below (by repeat (with_reducible first|exact HBU.out|exact zRf|refine zGr ?_ _|refine below_drewN ?_ _|refine Below.drew ?_)))) ?_;rintro e w2 ⟨rfl,hi2⟩;have H2:Hid (InS g w2 t.m t.full):=hi2;clear hi2))
 all_goals go_wp2
 all_goals go_ret
 all_goals exact ⟨rfl,(by assumption:Hid (InS g _ t.m t.full)).out⟩
theorem bCR (g:SG) (m:M) (full:Bool) (imm:Int) (c y p:Int) (c0:0<=c) (hy:c / 8=y) (hp:y / 2=p) (hq:y%2=1) (y0:0<=y) (p0:0<=p) (p1:p<=3) (hz:c%8=3) (i0:0<=imm) (i1:imm<=65535) (w:World) (h:InS g w m full) (hg:Stpq.Good m) :
  Calls prog 83 #[.pointer (some ⟨g.X,0,none⟩),.agg #[.int .i64 c,.bool false,.int .i64 imm]] w fun e w'=>e=.returned (.bool false)/\InS g w' (⟨aN m p ((pr m p+65535)%65536),full⟩ : S).m (⟨aN m p ((pr m p+65535)%65536),full⟩ : S).full:=by
 obtain ⟨u,hu,hI,HI,k0,k2,HLX⟩:=stq (c:=c) (imm:=imm) h;have t1:c.tdiv 8=y:=by rw [x5 c0];exact hy
 have t2:c.tmod 8=3:=by rw [x4 c0];exact hz
 have t3:IntKind.i64.wrap y=y:=by rw [x6];omega
 have t4:y.tdiv 2=p:=by rw [x5 y0];exact hp
 have t5:IntKind.i64.wrap p=p:=by rw [x6];omega
 have t6:y.tmod 2=1:=by rw [x4 y0];exact hq
 have bd:=eC hg p;have d1:IntKind.i64.wrap (pr m p+65535)=pr m p+65535:=by rw [x6];omega
 have d2:(pr m p+65535).tmod 65536=(pr m p+65535)%65536:=x4 (by omega);have c1:Hid (∀ W,InS g W m full->Calls prog 124 #[.pointer (some ⟨g.X,0,none⟩),.int .i64 p,.bool false] W fun e w'=>e=.returned (.int .i64 (pr m p))/\Below W.heap.size W w'):=fun W hi=>iF g m full p W hi hg p0 p1
 have c2:Hid (∀ W,InS g W m full->Calls prog 121 #[.pointer (some ⟨g.X,0,none⟩),.int .i64 p,.int .i64 ((pr m p+65535)%65536),.bool false] W fun e w'=>e=.returned (.tuple #[])/\InS g w' (⟨aN m p ((pr m p+65535)%65536),full⟩ : S).m (⟨aN m p ((pr m p+65535)%65536),full⟩ : S).full):=fun W hi=>dL g m full p _ W hi hg (by omega) (by omega) (by omega) (by omega)
 generalize (⟨aN m p ((pr m p+65535)%65536),full⟩ : S)=t at *
 generalize (pr m p+65535)%65536=vv at *
 generalize pr m p=x2 at *
 clear bd hy hp hq hz y0 p0 p1 c0;clear h hg hI i0 i1
 go_enter func83,ntmps83
 go_upto_region 25 with fail
 rw [<- hu];clear hu
 go_region_with (first|(go_at_call 124;refine Calls.mono (c1.out _ (HI.out.below (by repeat (with_reducible first|exact zRf|refine zGr ?_ _|refine below_drewN ?_ _|refine Below.drew ?_)))) ?_;rintro e w1 ⟨rfl,hb1⟩;have hbu:Below u.heap.size u w1:=HolI.after (by repeat (with_reducible first|exact zRf|refine zGr ?_ _|refine below_drewN ?_ _|refine Below.drew ?_)) hb1;(first|(have hbx:Below (u.alloc (.cells #[.int .i64 1,.int .i64 65535] 2)).heap.size (u.alloc (.cells #[.int .i64 1,.int .i64 65535] 2)) w1:=⟨hb1.os,hb1.tape,hb1.output,hb1.size,hb1.block⟩;have z0:=HolI.box hbx 1 _ rfl;clear hbx)|skip);have HBU:Hid (Below u.heap.size u w1):=hbu;clear hb1 hbu)|(go_at_call 121;refine Calls.mono (c2.out _ (HI.out.below (by repeat (with_reducible first|exact HBU.out|exact zRf|refine zGr ?_ _|refine below_drewN ?_ _|refine Below.drew ?_)))) ?_;rintro e w2 ⟨rfl,hi2⟩;have H2:Hid (InS g w2 t.m t.full):=hi2;clear hi2))
 all_goals go_wp2
 all_goals go_ret
 all_goals exact ⟨rfl,(by assumption:Hid (InS g _ t.m t.full)).out⟩
end Stcq
end Go.Proofs.YteglcgnhhoenbaaGreatDoor
