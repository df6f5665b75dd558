import Derived.Test.YteglcgnhhoenbaaGreatDoorQ21
set_option linter.all false
set_option maxRecDepth 20000
set_option maxHeartbeats 8000000
open Go.ChangeShapes Go.WideShapes Go.ChangeAt Go.RowKit
open Go.Proofs.Tryz
namespace Go.Proofs.YteglcgnhhoenbaaGreatDoor
namespace Stb
open Go.Deep
open Signed (inB sgn aG aB)
open Reck ReckS ReckM ReckD TurnS
open Busw Busx Busy Stpp Stpq Stps Sta
theorem aTJ (g:SG) (m:M) (full:Bool) (w:World) (h:InS g w m full) (hg:Stpq.Good m) :
  Calls prog 124 #[.pointer (some ⟨g.X,0,none⟩),.int .i64 0,.bool false] w fun e w'=>e=.returned (.int .i64 (256*m.rB+m.rC))/\Below w.heap.size w w':=by
 have ha:=hg.b;have hb:=hg.c;have d1:IntKind.i64.wrap (256*m.rB)=256*m.rB:=by rw [x6];omega
 have d2:IntKind.i64.wrap (256*m.rB+m.rC)=256*m.rB+m.rC:=by rw [x6];omega
 have C1:Hid (∀ W,Below w.heap.size w W->Calls prog 85 #[.pointer (some ⟨g.X,0,none⟩),.int .i64 0] W fun e w'=>e=.returned (.int .i64 m.rB)/\Below W.heap.size W w'):=fun W hb=>aMJ g m full W (h.below hb)
 have C2:Hid (∀ W,Below w.heap.size w W->Calls prog 85 #[.pointer (some ⟨g.X,0,none⟩),.int .i64 1] W fun e w'=>e=.returned (.int .i64 m.rC)/\Below W.heap.size W w'):=fun W hb=>aMK g m full W (h.below hb)
 have q_ra:=h.cell 0 _ rfl;have q_rf:=h.cell 1 _ rfl;have q_rB:=h.cell 2 _ rfl;have q_rC:=h.cell 3 _ rfl;have q_rD:=h.cell 4 _ rfl;have q_rE:=h.cell 5 _ rfl;have q_rH:=h.cell 6 _ rfl;have q_rL:=h.cell 7 _ rfl;have q_sp:=h.cell 8 _ rfl;have q_pc:=h.cell 9 _ rfl;have q_ime:=h.cell 10 _ rfl;have q_hal:=h.cell 11 _ rfl;have hl:=h.lt;clear h hg ha hb
 go_enter func124,ntmps124
 go_wp2_with fail
 refine Calls.mono (C1.out _ (by repeat (with_reducible first|exact zRf|refine zGr ?_ _|refine below_drewN ?_ _|refine Below.drew ?_))) ?_;rintro e w1 ⟨rfl,hb1⟩;have H1:Hid (Below w.heap.size w w1):=after (by repeat (with_reducible first|exact zRf|refine zGr ?_ _|refine below_drewN ?_ _|refine Below.drew ?_)) hb1;clear hb1 C1
 go_wp2_with fail
 refine Calls.mono (C2.out _ H1.out) ?_;rintro e w2 ⟨rfl,hb2⟩;have H2:Hid (Below w.heap.size w w2):=after H1.out hb2;clear hb2 C2 H1;go_wp2;go_ret;exact ⟨rfl,H2.out⟩
theorem aTK (g:SG) (m:M) (full:Bool) (w:World) (h:InS g w m full) (hg:Stpq.Good m) :
  Calls prog 124 #[.pointer (some ⟨g.X,0,none⟩),.int .i64 0,.bool true] w fun e w'=>e=.returned (.int .i64 (256*m.rB+m.rC))/\Below w.heap.size w w':=by
 have ha:=hg.b;have hb:=hg.c;have d1:IntKind.i64.wrap (256*m.rB)=256*m.rB:=by rw [x6];omega
 have d2:IntKind.i64.wrap (256*m.rB+m.rC)=256*m.rB+m.rC:=by rw [x6];omega
 have C1:Hid (∀ W,Below w.heap.size w W->Calls prog 85 #[.pointer (some ⟨g.X,0,none⟩),.int .i64 0] W fun e w'=>e=.returned (.int .i64 m.rB)/\Below W.heap.size W w'):=fun W hb=>aMJ g m full W (h.below hb)
 have C2:Hid (∀ W,Below w.heap.size w W->Calls prog 85 #[.pointer (some ⟨g.X,0,none⟩),.int .i64 1] W fun e w'=>e=.returned (.int .i64 m.rC)/\Below W.heap.size W w'):=fun W hb=>aMK g m full W (h.below hb)
 have q_ra:=h.cell 0 _ rfl;have q_rf:=h.cell 1 _ rfl;have q_rB:=h.cell 2 _ rfl;have q_rC:=h.cell 3 _ rfl;have q_rD:=h.cell 4 _ rfl;have q_rE:=h.cell 5 _ rfl;have q_rH:=h.cell 6 _ rfl;have q_rL:=h.cell 7 _ rfl;have q_sp:=h.cell 8 _ rfl;have q_pc:=h.cell 9 _ rfl;have q_ime:=h.cell 10 _ rfl;have q_hal:=h.cell 11 _ rfl;have hl:=h.lt;clear h hg ha hb
 go_enter func124,ntmps124
 go_wp2_with fail
 refine Calls.mono (C1.out _ (by repeat (with_reducible first|exact zRf|refine zGr ?_ _|refine below_drewN ?_ _|refine Below.drew ?_))) ?_;rintro e w1 ⟨rfl,hb1⟩;have H1:Hid (Below w.heap.size w w1):=after (by repeat (with_reducible first|exact zRf|refine zGr ?_ _|refine below_drewN ?_ _|refine Below.drew ?_)) hb1;clear hb1 C1
 go_wp2_with fail
 refine Calls.mono (C2.out _ H1.out) ?_;rintro e w2 ⟨rfl,hb2⟩;have H2:Hid (Below w.heap.size w w2):=after H1.out hb2;clear hb2 C2 H1;go_wp2;go_ret;exact ⟨rfl,H2.out⟩
theorem aTL (g:SG) (m:M) (full:Bool) (w:World) (h:InS g w m full) (hg:Stpq.Good m) :
  Calls prog 124 #[.pointer (some ⟨g.X,0,none⟩),.int .i64 1,.bool false] w fun e w'=>e=.returned (.int .i64 (256*m.rD+m.rE))/\Below w.heap.size w w':=by
 have ha:=hg.d;have hb:=hg.e;have d1:IntKind.i64.wrap (256*m.rD)=256*m.rD:=by rw [x6];omega
 have d2:IntKind.i64.wrap (256*m.rD+m.rE)=256*m.rD+m.rE:=by rw [x6];omega
 have C1:Hid (∀ W,Below w.heap.size w W->Calls prog 85 #[.pointer (some ⟨g.X,0,none⟩),.int .i64 2] W fun e w'=>e=.returned (.int .i64 m.rD)/\Below W.heap.size W w'):=fun W hb=>aML g m full W (h.below hb)
 have C2:Hid (∀ W,Below w.heap.size w W->Calls prog 85 #[.pointer (some ⟨g.X,0,none⟩),.int .i64 3] W fun e w'=>e=.returned (.int .i64 m.rE)/\Below W.heap.size W w'):=fun W hb=>aMM g m full W (h.below hb)
 have q_ra:=h.cell 0 _ rfl;have q_rf:=h.cell 1 _ rfl;have q_rB:=h.cell 2 _ rfl;have q_rC:=h.cell 3 _ rfl;have q_rD:=h.cell 4 _ rfl;have q_rE:=h.cell 5 _ rfl;have q_rH:=h.cell 6 _ rfl;have q_rL:=h.cell 7 _ rfl;have q_sp:=h.cell 8 _ rfl;have q_pc:=h.cell 9 _ rfl;have q_ime:=h.cell 10 _ rfl;have q_hal:=h.cell 11 _ rfl;have hl:=h.lt;clear h hg ha hb
 go_enter func124,ntmps124
 go_wp2_with fail
 refine Calls.mono (C1.out _ (by repeat (with_reducible first|exact zRf|refine zGr ?_ _|refine below_drewN ?_ _|refine Below.drew ?_))) ?_;rintro e w1 ⟨rfl,hb1⟩;have H1:Hid (Below w.heap.size w w1):=after (by repeat (with_reducible first|exact zRf|refine zGr ?_ _|refine below_drewN ?_ _|refine Below.drew ?_)) hb1;clear hb1 C1
 go_wp2_with fail
 refine Calls.mono (C2.out _ H1.out) ?_;rintro e w2 ⟨rfl,hb2⟩;have H2:Hid (Below w.heap.size w w2):=after H1.out hb2;clear hb2 C2 H1;go_wp2;go_ret;exact ⟨rfl,H2.out⟩
theorem aTM (g:SG) (m:M) (full:Bool) (w:World) (h:InS g w m full) (hg:Stpq.Good m) :
  Calls prog 124 #[.pointer (some ⟨g.X,0,none⟩),.int .i64 1,.bool true] w fun e w'=>e=.returned (.int .i64 (256*m.rD+m.rE))/\Below w.heap.size w w':=by
 have ha:=hg.d;have hb:=hg.e;have d1:IntKind.i64.wrap (256*m.rD)=256*m.rD:=by rw [x6];omega
 have d2:IntKind.i64.wrap (256*m.rD+m.rE)=256*m.rD+m.rE:=by rw [x6];omega
 have C1:Hid (∀ W,Below w.heap.size w W->Calls prog 85 #[.pointer (some ⟨g.X,0,none⟩),.int .i64 2] W fun e w'=>e=.returned (.int .i64 m.rD)/\Below W.heap.size W w'):=fun W hb=>aML g m full W (h.below hb)
 have C2:Hid (∀ W,Below w.heap.size w W->Calls prog 85 #[.pointer (some ⟨g.X,0,none⟩),.int .i64 3] W fun e w'=>e=.returned (.int .i64 m.rE)/\Below W.heap.size W w'):=fun W hb=>aMM g m full W (h.below hb)
 have q_ra:=h.cell 0 _ rfl;have q_rf:=h.cell 1 _ rfl;have q_rB:=h.cell 2 _ rfl;have q_rC:=h.cell 3 _ rfl;have q_rD:=h.cell 4 _ rfl;have q_rE:=h.cell 5 _ rfl;have q_rH:=h.cell 6 _ rfl;have q_rL:=h.cell 7 _ rfl;have q_sp:=h.cell 8 _ rfl;have q_pc:=h.cell 9 _ rfl;have q_ime:=h.cell 10 _ rfl;have q_hal:=h.cell 11 _ rfl;have hl:=h.lt;clear h hg ha hb
 go_enter func124,ntmps124
 go_wp2_with fail
 refine Calls.mono (C1.out _ (by repeat (with_reducible first|exact zRf|refine zGr ?_ _|refine below_drewN ?_ _|refine Below.drew ?_))) ?_;rintro e w1 ⟨rfl,hb1⟩;have H1:Hid (Below w.heap.size w w1):=after (by repeat (with_reducible first|exact zRf|refine zGr ?_ _|refine below_drewN ?_ _|refine Below.drew ?_)) hb1;clear hb1 C1
 go_wp2_with fail
 refine Calls.mono (C2.out _ H1.out) ?_;rintro e w2 ⟨rfl,hb2⟩;have H2:Hid (Below w.heap.size w w2):=after H1.out hb2;clear hb2 C2 H1;go_wp2;go_ret;exact ⟨rfl,H2.out⟩
theorem aTN (g:SG) (m:M) (full:Bool) (w:World) (h:InS g w m full) (hg:Stpq.Good m) :
  Calls prog 124 #[.pointer (some ⟨g.X,0,none⟩),.int .i64 2,.bool false] w fun e w'=>e=.returned (.int .i64 (256*m.rH+m.rL))/\Below w.heap.size w w':=by
 have ha:=hg.h;have hb:=hg.l;have d1:IntKind.i64.wrap (256*m.rH)=256*m.rH:=by rw [x6];omega
 have d2:IntKind.i64.wrap (256*m.rH+m.rL)=256*m.rH+m.rL:=by rw [x6];omega
 have C1:Hid (∀ W,Below w.heap.size w W->Calls prog 85 #[.pointer (some ⟨g.X,0,none⟩),.int .i64 4] W fun e w'=>e=.returned (.int .i64 m.rH)/\Below W.heap.size W w'):=fun W hb=>aMN g m full W (h.below hb)
 have C2:Hid (∀ W,Below w.heap.size w W->Calls prog 85 #[.pointer (some ⟨g.X,0,none⟩),.int .i64 5] W fun e w'=>e=.returned (.int .i64 m.rL)/\Below W.heap.size W w'):=fun W hb=>aMO g m full W (h.below hb)
 have q_ra:=h.cell 0 _ rfl;have q_rf:=h.cell 1 _ rfl;have q_rB:=h.cell 2 _ rfl;have q_rC:=h.cell 3 _ rfl;have q_rD:=h.cell 4 _ rfl;have q_rE:=h.cell 5 _ rfl;have q_rH:=h.cell 6 _ rfl;have q_rL:=h.cell 7 _ rfl;have q_sp:=h.cell 8 _ rfl;have q_pc:=h.cell 9 _ rfl;have q_ime:=h.cell 10 _ rfl;have q_hal:=h.cell 11 _ rfl;have hl:=h.lt;clear h hg ha hb
 go_enter func124,ntmps124
 go_wp2_with fail
 refine Calls.mono (C1.out _ (by repeat (with_reducible first|exact zRf|refine zGr ?_ _|refine below_drewN ?_ _|refine Below.drew ?_))) ?_;rintro e w1 ⟨rfl,hb1⟩;have H1:Hid (Below w.heap.size w w1):=after (by repeat (with_reducible first|exact zRf|refine zGr ?_ _|refine below_drewN ?_ _|refine Below.drew ?_)) hb1;clear hb1 C1
 go_wp2_with fail
 refine Calls.mono (C2.out _ H1.out) ?_;rintro e w2 ⟨rfl,hb2⟩;have H2:Hid (Below w.heap.size w w2):=after H1.out hb2;clear hb2 C2 H1;go_wp2;go_ret;exact ⟨rfl,H2.out⟩
theorem aTO (g:SG) (m:M) (full:Bool) (w:World) (h:InS g w m full) (hg:Stpq.Good m) :
  Calls prog 124 #[.pointer (some ⟨g.X,0,none⟩),.int .i64 2,.bool true] w fun e w'=>e=.returned (.int .i64 (256*m.rH+m.rL))/\Below w.heap.size w w':=by
 have ha:=hg.h;have hb:=hg.l;have d1:IntKind.i64.wrap (256*m.rH)=256*m.rH:=by rw [x6];omega
 have d2:IntKind.i64.wrap (256*m.rH+m.rL)=256*m.rH+m.rL:=by rw [x6];omega
 have C1:Hid (∀ W,Below w.heap.size w W->Calls prog 85 #[.pointer (some ⟨g.X,0,none⟩),.int .i64 4] W fun e w'=>e=.returned (.int .i64 m.rH)/\Below W.heap.size W w'):=fun W hb=>aMN g m full W (h.below hb)
 have C2:Hid (∀ W,Below w.heap.size w W->Calls prog 85 #[.pointer (some ⟨g.X,0,none⟩),.int .i64 5] W fun e w'=>e=.returned (.int .i64 m.rL)/\Below W.heap.size W w'):=fun W hb=>aMO g m full W (h.below hb)
 have q_ra:=h.cell 0 _ rfl;have q_rf:=h.cell 1 _ rfl;have q_rB:=h.cell 2 _ rfl;have q_rC:=h.cell 3 _ rfl;have q_rD:=h.cell 4 _ rfl;have q_rE:=h.cell 5 _ rfl;have q_rH:=h.cell 6 _ rfl;have q_rL:=h.cell 7 _ rfl;have q_sp:=h.cell 8 _ rfl;have q_pc:=h.cell 9 _ rfl;have q_ime:=h.cell 10 _ rfl;have q_hal:=h.cell 11 _ rfl;have hl:=h.lt;clear h hg ha hb
 go_enter func124,ntmps124
 go_wp2_with fail
 refine Calls.mono (C1.out _ (by repeat (with_reducible first|exact zRf|refine zGr ?_ _|refine below_drewN ?_ _|refine Below.drew ?_))) ?_;rintro e w1 ⟨rfl,hb1⟩;have H1:Hid (Below w.heap.size w w1):=after (by repeat (with_reducible first|exact zRf|refine zGr ?_ _|refine below_drewN ?_ _|refine Below.drew ?_)) hb1;clear hb1 C1
 go_wp2_with fail
 refine Calls.mono (C2.out _ H1.out) ?_;rintro e w2 ⟨rfl,hb2⟩;have H2:Hid (Below w.heap.size w w2):=after H1.out hb2;clear hb2 C2 H1;go_wp2;go_ret;exact ⟨rfl,H2.out⟩
theorem aTP (g:SG) (m:M) (full:Bool) (w:World) (h:InS g w m full) (hg:Stpq.Good m) :
  Calls prog 124 #[.pointer (some ⟨g.X,0,none⟩),.int .i64 3,.bool false] w fun e w'=>e=.returned (.int .i64 (m.sp))/\Below w.heap.size w w':=by
 have q_ra:=h.cell 0 _ rfl;have q_rf:=h.cell 1 _ rfl;have q_rB:=h.cell 2 _ rfl;have q_rC:=h.cell 3 _ rfl;have q_rD:=h.cell 4 _ rfl;have q_rE:=h.cell 5 _ rfl;have q_rH:=h.cell 6 _ rfl;have q_rL:=h.cell 7 _ rfl;have q_sp:=h.cell 8 _ rfl;have q_pc:=h.cell 9 _ rfl;have q_ime:=h.cell 10 _ rfl;have q_hal:=h.cell 11 _ rfl;have hl:=h.lt;clear h hg
 go_enter func124,ntmps124
 go_wp2;go_ret;exact ⟨rfl,by repeat (with_reducible first|exact zRf|refine zGr ?_ _|refine below_drewN ?_ _|refine Below.drew ?_)⟩
theorem aTQ (g:SG) (m:M) (full:Bool) (w:World) (h:InS g w m full) (hg:Stpq.Good m) :
  Calls prog 124 #[.pointer (some ⟨g.X,0,none⟩),.int .i64 3,.bool true] w fun e w'=>e=.returned (.int .i64 (256*m.ra+m.rf))/\Below w.heap.size w w':=by
 have ha:=hg.a;have hb:=hg.f;have d1:IntKind.i64.wrap (256*m.ra)=256*m.ra:=by rw [x6];omega
 have d2:IntKind.i64.wrap (256*m.ra+m.rf)=256*m.ra+m.rf:=by rw [x6];omega
 have q_ra:=h.cell 0 _ rfl;have q_rf:=h.cell 1 _ rfl;have q_rB:=h.cell 2 _ rfl;have q_rC:=h.cell 3 _ rfl;have q_rD:=h.cell 4 _ rfl;have q_rE:=h.cell 5 _ rfl;have q_rH:=h.cell 6 _ rfl;have q_rL:=h.cell 7 _ rfl;have q_sp:=h.cell 8 _ rfl;have q_pc:=h.cell 9 _ rfl;have q_ime:=h.cell 10 _ rfl;have q_hal:=h.cell 11 _ rfl;have hl:=h.lt;clear h hg ha hb
 go_enter func124,ntmps124
 go_wp2;go_ret;exact ⟨rfl,by repeat (with_reducible first|exact zRf|refine zGr ?_ _|refine below_drewN ?_ _|refine Below.drew ?_)⟩
theorem fG {n:Int} (n0:0<=n) (n1:n<=3):n=0 \/ n=1 \/ n=2 \/ n=3:=by omega
theorem iF (g:SG) (m:M) (full:Bool) (k:Int) (w:World) (h:InS g w m full) (hg:Stpq.Good m) (k0:0<=k) (k1:k<=3) :
  Calls prog 124 #[.pointer (some ⟨g.X,0,none⟩),.int .i64 k,.bool false] w fun e w'=>e=.returned (.int .i64 (pr m k))/\Below w.heap.size w w':=by
 rcases fG k0 k1 with rfl|rfl|rfl|rfl
 ·exact aTJ g m full w h hg
 ·exact aTL g m full w h hg
 ·exact aTN g m full w h hg
 ·exact aTP g m full w h hg
theorem aEY (g:SG) (m:M) (full:Bool) (k:Int) (w:World) (h:InS g w m full) (hg:Stpq.Good m) (k0:0<=k) (k1:k<=3) :
  Calls prog 124 #[.pointer (some ⟨g.X,0,none⟩),.int .i64 k,.bool true] w fun e w'=>e=.returned (.int .i64 (prQ m k))/\Below w.heap.size w w':=by
 rcases fG k0 k1 with rfl|rfl|rfl|rfl
 ·exact aTK g m full w h hg
 ·exact aTM g m full w h hg
 ·exact aTO g m full w h hg
 ·exact aTQ g m full w h hg
theorem aTR (g:SG) (m:M) (full:Bool) (v:Int) (v0:0<=v) (v1:v<=65535) (w:World) (h:InS g w m full) (hg:Stpq.Good m) :
  Calls prog 121 #[.pointer (some ⟨g.X,0,none⟩),.int .i64 0,.int .i64 v,.bool false] w fun e w'=>e=.returned (.tuple #[])/\InS g w' { m with rB:=v / 256,rC:=v%256 } full:=by
 have t1:v.tdiv 256=v / 256:=x5 v0;have t2:v.tmod 256=v%256:=x4 v0;have t3:IntKind.i64.wrap (v / 256)=v / 256:=by rw [x6];omega
 have C1:Hid (Calls prog 84 #[.pointer (some ⟨g.X,0,none⟩),.int .i64 0,.int .i64 (v / 256)] w fun e w'=>e=.returned (.tuple #[])/\InS g w' { m with rB:=v / 256 } full):=aMP g m full _ w h;have C2:Hid (∀ W,InS g W { m with rB:=v / 256 } full->Calls prog 84 #[.pointer (some ⟨g.X,0,none⟩),.int .i64 1,.int .i64 (v%256)] W fun e w'=>e=.returned (.tuple #[])/\InS g w' { m with rB:=v / 256,rC:=v%256 } full):=fun W hi=>aMQ g _ full _ W hi
 clear h hg
 go_enter func121,ntmps121
 go_wp2_with fail
 refine Calls.mono C1.out ?_;rintro e w1 ⟨rfl,hi1⟩;have H1:Hid (InS g w1 { m with rB:=v / 256 } full):=hi1;clear hi1 C1
 go_wp2_with fail
 refine Calls.mono (C2.out _ H1.out) ?_;rintro e w2 ⟨rfl,hi2⟩;have H2:Hid (InS g w2 { m with rB:=v / 256,rC:=v%256 } full):=hi2;clear hi2 C2 H1;go_wp2
 go_end0
 exact ⟨rfl,H2.out⟩
theorem aTS (g:SG) (m:M) (full:Bool) (v:Int) (v0:0<=v) (v1:v<=65535) (w:World) (h:InS g w m full) (hg:Stpq.Good m) :
  Calls prog 121 #[.pointer (some ⟨g.X,0,none⟩),.int .i64 0,.int .i64 v,.bool true] w fun e w'=>e=.returned (.tuple #[])/\InS g w' { m with rB:=v / 256,rC:=v%256 } full:=by
 have t1:v.tdiv 256=v / 256:=x5 v0;have t2:v.tmod 256=v%256:=x4 v0;have t3:IntKind.i64.wrap (v / 256)=v / 256:=by rw [x6];omega
 have C1:Hid (Calls prog 84 #[.pointer (some ⟨g.X,0,none⟩),.int .i64 0,.int .i64 (v / 256)] w fun e w'=>e=.returned (.tuple #[])/\InS g w' { m with rB:=v / 256 } full):=aMP g m full _ w h;have C2:Hid (∀ W,InS g W { m with rB:=v / 256 } full->Calls prog 84 #[.pointer (some ⟨g.X,0,none⟩),.int .i64 1,.int .i64 (v%256)] W fun e w'=>e=.returned (.tuple #[])/\InS g w' { m with rB:=v / 256,rC:=v%256 } full):=fun W hi=>aMQ g _ full _ W hi
 clear h hg
 go_enter func121,ntmps121
 go_wp2_with fail
 refine Calls.mono C1.out ?_;rintro e w1 ⟨rfl,hi1⟩;have H1:Hid (InS g w1 { m with rB:=v / 256 } full):=hi1;clear hi1 C1
 go_wp2_with fail
 refine Calls.mono (C2.out _ H1.out) ?_;rintro e w2 ⟨rfl,hi2⟩;have H2:Hid (InS g w2 { m with rB:=v / 256,rC:=v%256 } full):=hi2;clear hi2 C2 H1;go_wp2
 go_end0
 exact ⟨rfl,H2.out⟩
theorem aTT (g:SG) (m:M) (full:Bool) (v:Int) (v0:0<=v) (v1:v<=65535) (w:World) (h:InS g w m full) (hg:Stpq.Good m) :
  Calls prog 121 #[.pointer (some ⟨g.X,0,none⟩),.int .i64 1,.int .i64 v,.bool false] w fun e w'=>e=.returned (.tuple #[])/\InS g w' { m with rD:=v / 256,rE:=v%256 } full:=by
 have t1:v.tdiv 256=v / 256:=x5 v0;have t2:v.tmod 256=v%256:=x4 v0;have t3:IntKind.i64.wrap (v / 256)=v / 256:=by rw [x6];omega
 have C1:Hid (Calls prog 84 #[.pointer (some ⟨g.X,0,none⟩),.int .i64 2,.int .i64 (v / 256)] w fun e w'=>e=.returned (.tuple #[])/\InS g w' { m with rD:=v / 256 } full):=aMR g m full _ w h;have C2:Hid (∀ W,InS g W { m with rD:=v / 256 } full->Calls prog 84 #[.pointer (some ⟨g.X,0,none⟩),.int .i64 3,.int .i64 (v%256)] W fun e w'=>e=.returned (.tuple #[])/\InS g w' { m with rD:=v / 256,rE:=v%256 } full):=fun W hi=>aMS g _ full _ W hi
 clear h hg
 go_enter func121,ntmps121
 go_wp2_with fail
 refine Calls.mono C1.out ?_;rintro e w1 ⟨rfl,hi1⟩;have H1:Hid (InS g w1 { m with rD:=v / 256 } full):=hi1;clear hi1 C1
 go_wp2_with fail
 refine Calls.mono (C2.out _ H1.out) ?_;rintro e w2 ⟨rfl,hi2⟩;have H2:Hid (InS g w2 { m with rD:=v / 256,rE:=v%256 } full):=hi2;clear hi2 C2 H1;go_wp2
 go_end0
 exact ⟨rfl,H2.out⟩
theorem aTU (g:SG) (m:M) (full:Bool) (v:Int) (v0:0<=v) (v1:v<=65535) (w:World) (h:InS g w m full) (hg:Stpq.Good m) :
  Calls prog 121 #[.pointer (some ⟨g.X,0,none⟩),.int .i64 1,.int .i64 v,.bool true] w fun e w'=>e=.returned (.tuple #[])/\InS g w' { m with rD:=v / 256,rE:=v%256 } full:=by
 have t1:v.tdiv 256=v / 256:=x5 v0;have t2:v.tmod 256=v%256:=x4 v0;have t3:IntKind.i64.wrap (v / 256)=v / 256:=by rw [x6];omega
 have C1:Hid (Calls prog 84 #[.pointer (some ⟨g.X,0,none⟩),.int .i64 2,.int .i64 (v / 256)] w fun e w'=>e=.returned (.tuple #[])/\InS g w' { m with rD:=v / 256 } full):=aMR g m full _ w h;have C2:Hid (∀ W,InS g W { m with rD:=v / 256 } full->Calls prog 84 #[.pointer (some ⟨g.X,0,none⟩),.int .i64 3,.int .i64 (v%256)] W fun e w'=>e=.returned (.tuple #[])/\InS g w' { m with rD:=v / 256,rE:=v%256 } full):=fun W hi=>aMS g _ full _ W hi
 clear h hg
 go_enter func121,ntmps121
 go_wp2_with fail
 refine Calls.mono C1.out ?_;rintro e w1 ⟨rfl,hi1⟩;have H1:Hid (InS g w1 { m with rD:=v / 256 } full):=hi1;clear hi1 C1
 go_wp2_with fail
 refine Calls.mono (C2.out _ H1.out) ?_;rintro e w2 ⟨rfl,hi2⟩;have H2:Hid (InS g w2 { m with rD:=v / 256,rE:=v%256 } full):=hi2;clear hi2 C2 H1;go_wp2
 go_end0
 exact ⟨rfl,H2.out⟩
theorem aTV (g:SG) (m:M) (full:Bool) (v:Int) (v0:0<=v) (v1:v<=65535) (w:World) (h:InS g w m full) (hg:Stpq.Good m) :
  Calls prog 121 #[.pointer (some ⟨g.X,0,none⟩),.int .i64 2,.int .i64 v,.bool false] w fun e w'=>e=.returned (.tuple #[])/\InS g w' { m with rH:=v / 256,rL:=v%256 } full:=by
 have t1:v.tdiv 256=v / 256:=x5 v0;have t2:v.tmod 256=v%256:=x4 v0;have t3:IntKind.i64.wrap (v / 256)=v / 256:=by rw [x6];omega
 have C1:Hid (Calls prog 84 #[.pointer (some ⟨g.X,0,none⟩),.int .i64 4,.int .i64 (v / 256)] w fun e w'=>e=.returned (.tuple #[])/\InS g w' { m with rH:=v / 256 } full):=aMT g m full _ w h;have C2:Hid (∀ W,InS g W { m with rH:=v / 256 } full->Calls prog 84 #[.pointer (some ⟨g.X,0,none⟩),.int .i64 5,.int .i64 (v%256)] W fun e w'=>e=.returned (.tuple #[])/\InS g w' { m with rH:=v / 256,rL:=v%256 } full):=fun W hi=>aMU g _ full _ W hi
 clear h hg
 go_enter func121,ntmps121
 go_wp2_with fail
 refine Calls.mono C1.out ?_;rintro e w1 ⟨rfl,hi1⟩;have H1:Hid (InS g w1 { m with rH:=v / 256 } full):=hi1;clear hi1 C1
 go_wp2_with fail
 refine Calls.mono (C2.out _ H1.out) ?_;rintro e w2 ⟨rfl,hi2⟩;have H2:Hid (InS g w2 { m with rH:=v / 256,rL:=v%256 } full):=hi2;clear hi2 C2 H1;go_wp2
 go_end0
 exact ⟨rfl,H2.out⟩
theorem aTW (g:SG) (m:M) (full:Bool) (v:Int) (v0:0<=v) (v1:v<=65535) (w:World) (h:InS g w m full) (hg:Stpq.Good m) :
  Calls prog 121 #[.pointer (some ⟨g.X,0,none⟩),.int .i64 2,.int .i64 v,.bool true] w fun e w'=>e=.returned (.tuple #[])/\InS g w' { m with rH:=v / 256,rL:=v%256 } full:=by
 have t1:v.tdiv 256=v / 256:=x5 v0;have t2:v.tmod 256=v%256:=x4 v0;have t3:IntKind.i64.wrap (v / 256)=v / 256:=by rw [x6];omega
 have C1:Hid (Calls prog 84 #[.pointer (some ⟨g.X,0,none⟩),.int .i64 4,.int .i64 (v / 256)] w fun e w'=>e=.returned (.tuple #[])/\InS g w' { m with rH:=v / 256 } full):=aMT g m full _ w h;have C2:Hid (∀ W,InS g W { m with rH:=v / 256 } full->Calls prog 84 #[.pointer (some ⟨g.X,0,none⟩),.int .i64 5,.int .i64 (v%256)] W fun e w'=>e=.returned (.tuple #[])/\InS g w' { m with rH:=v / 256,rL:=v%256 } full):=fun W hi=>aMU g _ full _ W hi
 clear h hg
 go_enter func121,ntmps121
 go_wp2_with fail
 refine Calls.mono C1.out ?_;rintro e w1 ⟨rfl,hi1⟩;have H1:Hid (InS g w1 { m with rH:=v / 256 } full):=hi1;clear hi1 C1
 go_wp2_with fail
 refine Calls.mono (C2.out _ H1.out) ?_;rintro e w2 ⟨rfl,hi2⟩;have H2:Hid (InS g w2 { m with rH:=v / 256,rL:=v%256 } full):=hi2;clear hi2 C2 H1;go_wp2
 go_end0
 exact ⟨rfl,H2.out⟩
theorem aTX (g:SG) (m:M) (full:Bool) (v:Int) (v0:0<=v) (v1:v<=65535) (w:World) (h:InS g w m full) (hg:Stpq.Good m) :
  Calls prog 121 #[.pointer (some ⟨g.X,0,none⟩),.int .i64 3,.int .i64 v,.bool false] w fun e w'=>e=.returned (.tuple #[])/\InS g w' { m with sp:=v } full:=by
 have HI:Hid (InS g w m full):=h;clear h hg;have q_sp:=HI.out.cell 8 _ rfl;have f_sp:=HI.out.fro 8;have HF:Hid (InS g (w.setCell ⟨g.X,8,none⟩ (.int .i64 v)) { m with sp:=v } full):=HI.out.s_sp v;clear HI
 go_enter func121,ntmps121
 go_wp2
 go_end0
 exact ⟨rfl,HF.out⟩
theorem aTY (g:SG) (m:M) (full:Bool) (v:Int) (v0:0<=v) (v1:v<=65535) (w:World) (h:InS g w m full) (hg:Stpq.Good m) :
  Calls prog 121 #[.pointer (some ⟨g.X,0,none⟩),.int .i64 3,.int .i64 v,.bool true] w fun e w'=>e=.returned (.tuple #[])/\InS g w' { m with ra:=v / 256,rf:=v%256 / 16*16 } full:=by
 have t1:v.tdiv 256=v / 256:=x5 v0;have t2:v.tmod 256=v%256:=x4 v0;have t3:IntKind.i64.wrap (v / 256)=v / 256:=by rw [x6];omega
 have t4:(v%256).tdiv 16=v%256 / 16:=x5 (by omega);have t5:IntKind.i64.wrap (v%256 / 16)=v%256 / 16:=by rw [x6];omega
 have t6:IntKind.i64.wrap (v%256 / 16*16)=v%256 / 16*16:=by rw [x6];omega
 have q0:=h.cell 0 _ rfl;have q1:=h.cell 1 _ rfl;have f0:=h.fro 0;have f1:=h.fro 1;have hl:=h.lt;have HF:Hid (InS g ((w.setCell ⟨g.X,0,none⟩ (.int .i64 (v / 256))).setCell ⟨g.X,1,none⟩ (.int .i64 (v%256 / 16*16))) { m with ra:=v / 256,rf:=v%256 / 16*16 } full):=(h.s_ra _).s_rf _;clear h hg
 go_enter func121,ntmps121
 go_wp2
 go_end0
 exact ⟨rfl,HF.out⟩
theorem dL (g:SG) (m:M) (full:Bool) (k v:Int) (w:World) (h:InS g w m full) (hg:Stpq.Good m) (k0:0<=k) (k1:k<=3) (v0:0<=v) (v1:v<=65535) :
  Calls prog 121 #[.pointer (some ⟨g.X,0,none⟩),.int .i64 k,.int .i64 v,.bool false] w fun e w'=>e=.returned (.tuple #[])/\InS g w' (aN m k v) full:=by
 rcases fG k0 k1 with rfl|rfl|rfl|rfl
 ·exact aTR g m full v v0 v1 w h hg
 ·exact aTT g m full v v0 v1 w h hg
 ·exact aTV g m full v v0 v1 w h hg
 ·exact aTX g m full v v0 v1 w h hg
theorem nK (g:SG) (m:M) (full:Bool) (k v:Int) (w:World) (h:InS g w m full) (hg:Stpq.Good m) (k0:0<=k) (k1:k<=3) (v0:0<=v) (v1:v<=65535) :
  Calls prog 121 #[.pointer (some ⟨g.X,0,none⟩),.int .i64 k,.int .i64 v,.bool true] w fun e w'=>e=.returned (.tuple #[])/\InS g w' (eW m k v) full:=by
 rcases fG k0 k1 with rfl|rfl|rfl|rfl
 ·exact aTS g m full v v0 v1 w h hg
 ·exact aTU g m full v v0 v1 w h hg
 ·exact aTW g m full v v0 v1 w h hg
 ·exact aTY g m full v v0 v1 w h hg
theorem yC (g:SG) (m:M) (full:Bool) (v:Int) (v0:0<=v) (v1:v<=65535) (w:World) (h:InS g w m full) (hg:Stpq.Good m) :
  Calls prog 129 #[.pointer (some ⟨g.X,0,none⟩),.int .i64 v] w fun e w'=>e=.returned (.tuple #[])/\InS g w' (push ⟨m,full⟩ v).m (push ⟨m,full⟩ v).full:=by
 obtain ⟨s0,s1⟩:=hg.sp;have t1:v.tdiv 256=v / 256:=x5 v0;have t2:v.tmod 256=v%256:=x4 v0;have t3:IntKind.i64.wrap (v / 256)=v / 256:=by rw [x6];omega
 have d1:IntKind.i64.wrap (m.sp+65535)=m.sp+65535:=by rw [x6];omega
 have d2:IntKind.i64.wrap (m.sp+65534)=m.sp+65534:=by rw [x6];omega
 have d3:(m.sp+65534).tmod 65536=(m.sp+65534)%65536:=x4 (by omega);have c1:Hid (∀ W,InS g W m full->Calls prog 119 #[.pointer (some ⟨g.X,0,none⟩),.int .i64 (m.sp+65535),.int .i64 (v / 256)] W fun e w'=>e=.returned (.tuple #[])/\InS g w' (wr ⟨m,full⟩ (m.sp+65535) (v / 256)).m (wr ⟨m,full⟩ (m.sp+65535) (v / 256)).full):=fun W hi=>gE g m full _ _ W hi hg.rt (by omega) (by omega) (by omega)
 have g1:=dT (s:=⟨m,full⟩) hg (m.sp+65535) (v / 256) (by omega) (by omega);unfold push;simp only [];generalize wr ⟨m,full⟩ (m.sp+65535) (v / 256)=t at *
 have c2:Hid (∀ W,InS g W t.m t.full->Calls prog 119 #[.pointer (some ⟨g.X,0,none⟩),.int .i64 (m.sp+65534),.int .i64 (v%256)] W fun e w'=>e=.returned (.tuple #[])/\InS g w' (wr t (m.sp+65534) (v%256)).m (wr t (m.sp+65534) (v%256)).full):=fun W hi=>gE g t.m t.full _ _ W hi g1.rt (by omega) (by omega) (by omega)
 generalize wr t (m.sp+65534) (v%256)=t2 at *
 have q_0:=h.cell 8 _ rfl;have HI:Hid (InS g w m full):=h;clear h hg g1 s0 s1
 go_enter func129,ntmps129
 go_wp2_with fail
 refine Calls.mono (c1.out _ HI.out) ?_;rintro e w1 ⟨rfl,hi1⟩;have H1:Hid (InS g w1 t.m t.full):=hi1;clear hi1 HI c1
 go_wp2_with fail
 refine Calls.mono (c2.out _ H1.out) ?_;rintro e w2 ⟨rfl,hi1⟩;have H2:Hid (InS g w2 t2.m t2.full):=hi1;clear hi1 H1 c2;have q_sp:=H2.out.cell 8 _ rfl;have f_sp:=H2.out.fro 8;have HF:Hid (InS g (w2.setCell ⟨g.X,8,none⟩ (.int .i64 ((m.sp+65534)%65536))) { t2.m with sp:=((m.sp+65534)%65536) } t2.full):=H2.out.s_sp ((m.sp+65534)%65536);clear H2;go_wp2
 go_end0
 exact ⟨rfl,HF.out⟩
theorem sF (g:SG) (m:M) (full:Bool) (w:World) (h:InS g w m full) (hg:Stpq.Good m) :
  Calls prog 127 #[.pointer (some ⟨g.X,0,none⟩)] w fun e w'=>e=.returned (.int .i64 (bA m))/\InS g w' (aU m) full:=by
 obtain ⟨s0,s1⟩:=hg.sp;have d1:IntKind.i64.wrap (m.sp+2)=m.sp+2:=by rw [x6];omega
 have d2:(m.sp+2).tmod 65536=(m.sp+2)%65536:=x4 (by omega);have d3:IntKind.i64.wrap (m.sp+1)=m.sp+1:=by rw [x6];omega
 have d4:(m.sp+1).tmod 65536=(m.sp+1)%65536:=x4 (by omega);have b1:=fN m m.sp;have b2:=fN m ((m.sp+1)%65536);have e0:bA m=rd m m.sp+256*rd m ((m.sp+1)%65536):=rfl;rw [e0];have q8:=h.cell 8 _ rfl;have f8:=h.fro 8;obtain ⟨u,hu⟩ : ∃ u,u=w.setCell ⟨g.X,8,none⟩ (.int .i64 ((m.sp+2)%65536)):=⟨_,rfl⟩
 have hI:InS g u (aU m) full:=by rw [hu];exact h.s_sp _
 have HI:Hid (InS g u (aU m) full):=hI;obtain ⟨po,cap,hA⟩:=hI;have c1:Rg 100 #[.agg (aA (aU m) po cap),.int .i64 m.sp] u (.int .i64 (rd m m.sp)):=rg fun W hb=>eN (aU m) po cap m.sp W (fD hg).rt s0
 have c2:Rg 100 #[.agg (aA (aU m) po cap),.int .i64 ((m.sp+1)%65536)] u (.int .i64 (rd m ((m.sp+1)%65536))):=rg fun W hb=>eN (aU m) po cap _ W (fD hg).rt (by omega)
 have hld:∀ d os,(loadVar 30 ⟨g.X,0,none⟩).run prog (Go.Sort.grow (redrawn u d) os)=.ok (.agg (aA (aU m) po cap)) (Go.Sort.grow (redrawn u d) os):=fun d os=>hA.load ((x8 u d os).block _ hA.lt)
 generalize rd m m.sp=x1 at *
 generalize rd m ((m.sp+1)%65536)=x2 at *
 have d5:IntKind.i64.wrap (256*x2)=256*x2:=by rw [x6];omega
 have d6:IntKind.i64.wrap (x1+256*x2)=x1+256*x2:=by rw [x6];omega
 generalize aA (aU m) po cap=cM at *
 clear h hg hA s0 s1 b1 b2 e0
 go_enter func127,ntmps127
 go_upto_region 3 with fail
 rw [<- hu];clear hu q8 f8;refine wp_region_quiet_below (by kernel_rfl) (by kernel_rfl) ?_
 repeat (first|(go_big_quiet_step (first|with_reducible exact c1 _ _|with_reducible exact c2 _ _))|(refine aK (by rfl) 30 _ rfl ⟨g.X,0,none⟩ rfl _ (fun W hW=>by obtain ⟨⟨d,o⟩,rfl⟩:=hW;exact hld d o) ?_;simp only [Act.put,List.setIfInBounds_toArray,List.set_cons_succ,List.set_cons_zero]))
 refine wpQuiet_nil ?_;intro _ hw';obtain ⟨⟨dq,osq⟩,hw''⟩:=hw';subst hw'';have H2:=zHd (HI.out.below (x8 u dq osq));have hbg:=x8 u dq osq;generalize Go.Sort.grow (redrawn u dq) osq=W2 at *
 clear HI c1 c2 hld;go_wp2;go_ret;exact ⟨rfl,H2.out⟩
theorem iX (g:SG) (m:M) (full:Bool) (v:Int) (w:World) (h:InS g w m full) (hg:Stpq.Good m) :
  Calls prog 130 #[.pointer (some ⟨g.X,0,none⟩),.int .i64 v] w fun e w'=>e=.returned (.tuple #[])/\InS g w' (aR v ⟨m,full⟩).m (aR v ⟨m,full⟩).full:=by
 have c1:Hid (∀ W,InS g W m full->Calls prog 129 #[.pointer (some ⟨g.X,0,none⟩),.int .i64 m.pc] W fun e w'=>e=.returned (.tuple #[])/\InS g w' (push ⟨m,full⟩ m.pc).m (push ⟨m,full⟩ m.pc).full):=fun W hi=>yC g m full _ hg.pc.1 hg.pc.2 W hi hg
 unfold aR;simp only [];generalize push ⟨m,full⟩ m.pc=t at *
 have q9:=h.cell 9 _ rfl;have HI:Hid (InS g w m full):=h;clear h hg
 go_enter func130,ntmps130
 go_wp2_with fail
 refine Calls.mono (c1.out _ HI.out) ?_;rintro e w1 ⟨rfl,hi1⟩;have H1:Hid (InS g w1 t.m t.full):=hi1;clear hi1 HI c1;have q_pc:=H1.out.cell 9 _ rfl;have f_pc:=H1.out.fro 9;have HF:Hid (InS g (w1.setCell ⟨g.X,9,none⟩ (.int .i64 v)) { t.m with pc:=v } t.full):=H1.out.s_pc v;clear H1;go_wp2
 go_end0
 exact ⟨rfl,HF.out⟩
theorem bBS (g:SG) (m:M) (full:Bool) (w:World) (h:InS g w m full) (hg:Stpq.Good m) :
  Calls prog 120 #[.pointer (some ⟨g.X,0,none⟩),.int .i64 0] w fun e w'=>e=.returned (.bool (decide (m.rf / 128%2=0)))/\Below w.heap.size w w':=by
 have hf:=hg.f;have t1:m.rf.tdiv 128=m.rf / 128:=x5 hf.1;have t2:(m.rf / 128).tmod 2=m.rf / 128%2:=x4 (by omega);have t3:IntKind.i64.wrap (m.rf / 128)=m.rf / 128:=by rw [x6];omega
 have t4:(m.rf / 128%2 == 0)=decide (m.rf / 128%2=0):=by by_cases h:m.rf / 128%2=0 <;> simp [h]
 have q1:=h.cell 1 _ rfl;clear h hg hf;generalize m.rf / 128%2=r at *
 generalize decide (r=0)=bb at *
 go_enter func120,ntmps120
 go_wp2;go_ret;exact ⟨rfl,by repeat (with_reducible first|exact zRf|refine zGr ?_ _|refine below_drewN ?_ _|refine Below.drew ?_)⟩
theorem bBT (g:SG) (m:M) (full:Bool) (w:World) (h:InS g w m full) (hg:Stpq.Good m) :
  Calls prog 120 #[.pointer (some ⟨g.X,0,none⟩),.int .i64 1] w fun e w'=>e=.returned (.bool (decide (m.rf / 128%2=1)))/\Below w.heap.size w w':=by
 have hf:=hg.f;have t1:m.rf.tdiv 128=m.rf / 128:=x5 hf.1;have t2:(m.rf / 128).tmod 2=m.rf / 128%2:=x4 (by omega);have t3:IntKind.i64.wrap (m.rf / 128)=m.rf / 128:=by rw [x6];omega
 have t4:(m.rf / 128%2 == 1)=decide (m.rf / 128%2=1):=by by_cases h:m.rf / 128%2=1 <;> simp [h]
 have q1:=h.cell 1 _ rfl;clear h hg hf;generalize m.rf / 128%2=r at *
 generalize decide (r=1)=bb at *
 go_enter func120,ntmps120
 go_wp2;go_ret;exact ⟨rfl,by repeat (with_reducible first|exact zRf|refine zGr ?_ _|refine below_drewN ?_ _|refine Below.drew ?_)⟩
theorem bBU (g:SG) (m:M) (full:Bool) (w:World) (h:InS g w m full) (hg:Stpq.Good m) :
  Calls prog 120 #[.pointer (some ⟨g.X,0,none⟩),.int .i64 2] w fun e w'=>e=.returned (.bool (decide (m.rf / 16%2=0)))/\Below w.heap.size w w':=by
 have hf:=hg.f;have t1:m.rf.tdiv 16=m.rf / 16:=x5 hf.1;have t2:(m.rf / 16).tmod 2=m.rf / 16%2:=x4 (by omega);have t3:IntKind.i64.wrap (m.rf / 16)=m.rf / 16:=by rw [x6];omega
 have t4:(m.rf / 16%2 == 0)=decide (m.rf / 16%2=0):=by by_cases h:m.rf / 16%2=0 <;> simp [h]
 have q1:=h.cell 1 _ rfl;clear h hg hf;generalize m.rf / 16%2=r at *
 generalize decide (r=0)=bb at *
 go_enter func120,ntmps120
 go_wp2;go_ret;exact ⟨rfl,by repeat (with_reducible first|exact zRf|refine zGr ?_ _|refine below_drewN ?_ _|refine Below.drew ?_)⟩
theorem bBV (g:SG) (m:M) (full:Bool) (w:World) (h:InS g w m full) (hg:Stpq.Good m) :
  Calls prog 120 #[.pointer (some ⟨g.X,0,none⟩),.int .i64 3] w fun e w'=>e=.returned (.bool (decide (m.rf / 16%2=1)))/\Below w.heap.size w w':=by
 have hf:=hg.f;have t1:m.rf.tdiv 16=m.rf / 16:=x5 hf.1;have t2:(m.rf / 16).tmod 2=m.rf / 16%2:=x4 (by omega);have t3:IntKind.i64.wrap (m.rf / 16)=m.rf / 16:=by rw [x6];omega
 have t4:(m.rf / 16%2 == 1)=decide (m.rf / 16%2=1):=by by_cases h:m.rf / 16%2=1 <;> simp [h]
 have q1:=h.cell 1 _ rfl;clear h hg hf;generalize m.rf / 16%2=r at *
 generalize decide (r=1)=bb at *
 go_enter func120,ntmps120
 go_wp2;go_ret;exact ⟨rfl,by repeat (with_reducible first|exact zRf|refine zGr ?_ _|refine below_drewN ?_ _|refine Below.drew ?_)⟩
theorem dG (g:SG) (m:M) (full:Bool) (k:Int) (w:World) (h:InS g w m full) (hg:Stpq.Good m) (k0:0<=k) (k1:k<=3) :
  Calls prog 120 #[.pointer (some ⟨g.X,0,none⟩),.int .i64 k] w fun e w'=>e=.returned (.bool (Stpp.cond m k))/\Below w.heap.size w w':=by
 rcases fG k0 k1 with rfl|rfl|rfl|rfl
 ·exact bBS g m full w h hg
 ·exact bBT g m full w h hg
 ·exact bBU g m full w h hg
 ·exact bBV g m full w h hg
end Stb
namespace Stck
open Go.Deep
open Signed (inB sgn aG aB)
open Reck ReckS ReckM ReckD TurnS
open Busw Busx Busy Stpp Stpq Stps Sta Stb
theorem aNA {f:Int} (h0:0<=f) (h1:f<=255):decide (128<=f)=zB f:=by
 unfold zB
 by_cases h:128<=f
 ·rw [x9 h,x9 (by omega)]
 ·rw [u6 h,u6 (by omega)]
theorem bHF (g:SG) (m:M) (full:Bool) (w:World) (h:InS g w m full) (hg:Stpq.Good m) :
  Calls prog 126 #[.pointer (some ⟨g.X,0,none⟩),.int .i64 4] w fun e w'=>e=.returned (.tuple #[])/\InS g w' { m with ra:=(fJ m.ra m.rf).1,rf:=(fJ m.ra m.rf).2 } full:=by
 have hf:=hg.f;have ha:=hg.a;have cc:=fun w=>dE m.rf w hf.1 hf.2
 have tc:(cy m.rf == 1)=cB m.rf:=by unfold cB;by_cases h:cy m.rf=1 <;> simp [h]
 have tz:=aNA hf.1 hf.2;have cd:=fun w=>wY m.ra m.rf w
 rw [show daa m.ra m.rf=fJ m.ra m.rf by unfold daa;rw [show inB m.ra 0 255=true from x9 ha,show inB m.rf 0 255=true from x9 hf];rfl] at cd
 generalize (fJ m.ra m.rf).1=v1 at *
 generalize (fJ m.ra m.rf).2=v2 at *
 have HF:Hid (∀ o,InS g (((w.setCell ⟨g.X,0,none⟩ (.int .i64 v1)).setCell ⟨g.X,1,none⟩ (.int .i64 v2)).alloc o) { m with ra:=v1,rf:=v2 } full):=fun o=>((h.s_ra v1).s_rf v2).below (zRf.alloc (Nat.le_refl _) o)
 have q_ra:=h.cell 0 _ rfl;have q_rf:=h.cell 1 _ rfl;have q_rB:=h.cell 2 _ rfl;have q_rC:=h.cell 3 _ rfl;have q_rD:=h.cell 4 _ rfl;have q_rE:=h.cell 5 _ rfl;have q_rH:=h.cell 6 _ rfl;have q_rL:=h.cell 7 _ rfl;have q_sp:=h.cell 8 _ rfl;have q_pc:=h.cell 9 _ rfl;have q_ime:=h.cell 10 _ rfl;have q_hal:=h.cell 11 _ rfl;have f0:=h.fro 0;have f1:=h.fro 1;have hlt:=h.lt;generalize zB m.rf=zb at *
 generalize cB m.rf=cb at *
 clear h hg hf ha
 go_enter func126,ntmps126
 go_wp2_with first|(go_at_call 118;refine (cc _).mono ?_;rintro e w' ⟨rfl,hw'⟩;have hw':=hw'.symm;subst hw')|(go_at_call 117;refine (cV _ _ _ _ _).mono ?_;rintro e w' ⟨rfl,hw'⟩;have hw':=hw'.symm;subst hw')|(go_at_call 162;refine (cd _).mono ?_;rintro e w' ⟨rfl,hw'⟩;have hw':=hw'.symm;subst hw')
 go_end0
 exact ⟨rfl,HF.out _⟩
theorem bHG (g:SG) (m:M) (full:Bool) (w:World) (h:InS g w m full) (hg:Stpq.Good m) :
  Calls prog 126 #[.pointer (some ⟨g.X,0,none⟩),.int .i64 5] w fun e w'=>e=.returned (.tuple #[])/\InS g w' { m with ra:=255-m.ra,rf:=fl (zB m.rf) true true (cB m.rf) } full:=by
 have hf:=hg.f;have ha:=hg.a;have cc:=fun w=>dE m.rf w hf.1 hf.2
 have tc:(cy m.rf == 1)=cB m.rf:=by unfold cB;by_cases h:cy m.rf=1 <;> simp [h]
 have tz:=aNA hf.1 hf.2;have d1:IntKind.i64.wrap (255-m.ra)=255-m.ra:=by rw [x6];omega
 generalize zB m.rf=zb at *
 generalize cB m.rf=cb at *
 have HF:Hid (∀ o,InS g (((w.setCell ⟨g.X,0,none⟩ (.int .i64 (255-m.ra))).setCell ⟨g.X,1,none⟩ (.int .i64 (fl zb true true cb))).alloc o) { m with ra:=255-m.ra,rf:=fl zb true true cb } full):=fun o=>((h.s_ra (255-m.ra)).s_rf (fl zb true true cb)).below (zRf.alloc (Nat.le_refl _) o)
 have q_ra:=h.cell 0 _ rfl;have q_rf:=h.cell 1 _ rfl;have q_rB:=h.cell 2 _ rfl;have q_rC:=h.cell 3 _ rfl;have q_rD:=h.cell 4 _ rfl;have q_rE:=h.cell 5 _ rfl;have q_rH:=h.cell 6 _ rfl;have q_rL:=h.cell 7 _ rfl;have q_sp:=h.cell 8 _ rfl;have q_pc:=h.cell 9 _ rfl;have q_ime:=h.cell 10 _ rfl;have q_hal:=h.cell 11 _ rfl;have f0:=h.fro 0;have f1:=h.fro 1;have hlt:=h.lt;clear h hg hf ha
 go_enter func126,ntmps126
 go_wp2_with first|(go_at_call 118;refine (cc _).mono ?_;rintro e w' ⟨rfl,hw'⟩;have hw':=hw'.symm;subst hw')|(go_at_call 117;refine (cV _ _ _ _ _).mono ?_;rintro e w' ⟨rfl,hw'⟩;have hw':=hw'.symm;subst hw')
 go_end0
 exact ⟨rfl,HF.out _⟩
theorem bHH (g:SG) (m:M) (full:Bool) (w:World) (h:InS g w m full) (hg:Stpq.Good m) :
  Calls prog 126 #[.pointer (some ⟨g.X,0,none⟩),.int .i64 6] w fun e w'=>e=.returned (.tuple #[])/\InS g w' { m with rf:=fl (zB m.rf) false false true } full:=by
 have hf:=hg.f;have ha:=hg.a;have cc:=fun w=>dE m.rf w hf.1 hf.2
 have tc:(cy m.rf == 1)=cB m.rf:=by unfold cB;by_cases h:cy m.rf=1 <;> simp [h]
 have tz:=aNA hf.1 hf.2;generalize zB m.rf=zb at *
 generalize cB m.rf=cb at *
 have HF:Hid (∀ o,InS g ((w.setCell ⟨g.X,1,none⟩ (.int .i64 (fl zb false false true))).alloc o) { m with rf:=fl zb false false true } full):=fun o=>(h.s_rf (fl zb false false true)).below (zRf.alloc (Nat.le_refl _) o)
 have q_ra:=h.cell 0 _ rfl;have q_rf:=h.cell 1 _ rfl;have q_rB:=h.cell 2 _ rfl;have q_rC:=h.cell 3 _ rfl;have q_rD:=h.cell 4 _ rfl;have q_rE:=h.cell 5 _ rfl;have q_rH:=h.cell 6 _ rfl;have q_rL:=h.cell 7 _ rfl;have q_sp:=h.cell 8 _ rfl;have q_pc:=h.cell 9 _ rfl;have q_ime:=h.cell 10 _ rfl;have q_hal:=h.cell 11 _ rfl;have f0:=h.fro 0;have f1:=h.fro 1;have hlt:=h.lt;clear h hg hf ha
 go_enter func126,ntmps126
 go_wp2_with first|(go_at_call 118;refine (cc _).mono ?_;rintro e w' ⟨rfl,hw'⟩;have hw':=hw'.symm;subst hw')|(go_at_call 117;refine (cV _ _ _ _ _).mono ?_;rintro e w' ⟨rfl,hw'⟩;have hw':=hw'.symm;subst hw')
 go_end0
 exact ⟨rfl,HF.out _⟩
theorem bHI (g:SG) (m:M) (full:Bool) (w:World) (h:InS g w m full) (hg:Stpq.Good m) :
  Calls prog 126 #[.pointer (some ⟨g.X,0,none⟩),.int .i64 7] w fun e w'=>e=.returned (.tuple #[])/\InS g w' { m with rf:=fl (zB m.rf) false false (!cB m.rf) } full:=by
 have hf:=hg.f;have ha:=hg.a;have cc:=fun w=>dE m.rf w hf.1 hf.2
 have tc:(cy m.rf == 1)=cB m.rf:=by unfold cB;by_cases h:cy m.rf=1 <;> simp [h]
 have tz:=aNA hf.1 hf.2;generalize zB m.rf=zb at *
 generalize cB m.rf=cb at *
 have HF:Hid (∀ o,InS g ((w.setCell ⟨g.X,1,none⟩ (.int .i64 (fl zb false false (!cb)))).alloc o) { m with rf:=fl zb false false (!cb) } full):=fun o=>(h.s_rf (fl zb false false (!cb))).below (zRf.alloc (Nat.le_refl _) o)
 have q_ra:=h.cell 0 _ rfl;have q_rf:=h.cell 1 _ rfl;have q_rB:=h.cell 2 _ rfl;have q_rC:=h.cell 3 _ rfl;have q_rD:=h.cell 4 _ rfl;have q_rE:=h.cell 5 _ rfl;have q_rH:=h.cell 6 _ rfl;have q_rL:=h.cell 7 _ rfl;have q_sp:=h.cell 8 _ rfl;have q_pc:=h.cell 9 _ rfl;have q_ime:=h.cell 10 _ rfl;have q_hal:=h.cell 11 _ rfl;have f0:=h.fro 0;have f1:=h.fro 1;have hlt:=h.lt;clear h hg hf ha
 go_enter func126,ntmps126
 go_wp2_with first|(go_at_call 118;refine (cc _).mono ?_;rintro e w' ⟨rfl,hw'⟩;have hw':=hw'.symm;subst hw')|(go_at_call 117;refine (cV _ _ _ _ _).mono ?_;rintro e w' ⟨rfl,hw'⟩;have hw':=hw'.symm;subst hw')
 go_end0
 exact ⟨rfl,HF.out _⟩
theorem bHJ (g:SG) (m:M) (full:Bool) (y:Int) (y0:0<=y) (y1:y<=3) (w:World) (h:InS g w m full) (hg:Stpq.Good m) :
  Calls prog 126 #[.pointer (some ⟨g.X,0,none⟩),.int .i64 y] w fun e w'=>e=.returned (.tuple #[])/\InS g w' { m with ra:=(cD y m.ra m.rf).1,rf:=fl false false false (cB (cD y m.ra m.rf).2) } full:=by
 have hf:=hg.f;have ha:=hg.a;have cc:=fun w=>dE m.rf w hf.1 hf.2
 have tc:(cy m.rf == 1)=cB m.rf:=by unfold cB;by_cases h:cy m.rf=1 <;> simp [h]
 have tz:=aNA hf.1 hf.2;have ct:=fun w=>mO y m.ra m.rf w y0 (by omega) ha.1 ha.2 hf.1 hf.2
 have bt:=rA (op:=y) (f:=m.rf) ha.1 ha.2;generalize (cD y m.ra m.rf).1=v1 at *
 generalize (cD y m.ra m.rf).2=v2 at *
 have cc2:=fun w=>dE v2 w bt.2.2.1 bt.2.2.2.1
 have tc2:(cy v2 == 1)=cB v2:=by unfold cB;by_cases h:cy v2=1 <;> simp [h]
 generalize cB v2=cb2 at *
 have e4:¬ y=4:=by omega
 have e5:¬ y=5:=by omega
 have e6:¬ y=6:=by omega
 have e7:¬ y=7:=by omega
 clear bt;have HF:Hid (∀ o,InS g (((w.setCell ⟨g.X,0,none⟩ (.int .i64 (v1))).setCell ⟨g.X,1,none⟩ (.int .i64 (fl false false false cb2))).alloc o) { m with ra:=v1,rf:=fl false false false cb2 } full):=fun o=>((h.s_ra (v1)).s_rf (fl false false false cb2)).below (zRf.alloc (Nat.le_refl _) o)
 have q_ra:=h.cell 0 _ rfl;have q_rf:=h.cell 1 _ rfl;have q_rB:=h.cell 2 _ rfl;have q_rC:=h.cell 3 _ rfl;have q_rD:=h.cell 4 _ rfl;have q_rE:=h.cell 5 _ rfl;have q_rH:=h.cell 6 _ rfl;have q_rL:=h.cell 7 _ rfl;have q_sp:=h.cell 8 _ rfl;have q_pc:=h.cell 9 _ rfl;have q_ime:=h.cell 10 _ rfl;have q_hal:=h.cell 11 _ rfl;have f0:=h.fro 0;have f1:=h.fro 1;have hlt:=h.lt;generalize zB m.rf=zb at *
 generalize cB m.rf=cb at *
 clear h hg hf ha
 go_enter func126,ntmps126
 go_wp2_with first|(go_at_call 118;refine (cc _).mono ?_;rintro e w' ⟨rfl,hw'⟩;have hw':=hw'.symm;subst hw')|(go_at_call 117;refine (cV _ _ _ _ _).mono ?_;rintro e w' ⟨rfl,hw'⟩;have hw':=hw'.symm;subst hw')|(go_at_call 116;refine (ct _).mono ?_;rintro e w' ⟨rfl,hw'⟩;have hw':=hw'.symm;subst hw')|(go_at_call 118;refine (cc2 _).mono ?_;rintro e w' ⟨rfl,hw'⟩;have hw':=hw'.symm;subst hw')
 go_end0
 exact ⟨rfl,HF.out _⟩
theorem bLK (g:SG) (m:M) (full:Bool) (y:Int) (w:World) (h:InS g w m full) (hg:Stpq.Good m) (y0:0<=y) (y1:y<=7) :
  Calls prog 126 #[.pointer (some ⟨g.X,0,none⟩),.int .i64 y] w fun e w'=>e=.returned (.tuple #[])/\InS g w' (gY y ⟨m,full⟩).m (gY y ⟨m,full⟩).full:=by
 unfold gY
 by_cases h4:y=4
 ·subst h4;exact bHF g m full w h hg
 rw [if_neg h4]
 by_cases h5:y=5
 ·subst h5;exact bHG g m full w h hg
 rw [if_neg h5]
 by_cases h6:y=6
 ·subst h6;exact bHH g m full w h hg
 rw [if_neg h6]
 by_cases h7:y=7
 ·subst h7;exact bHI g m full w h hg
 rw [if_neg h7];exact bHJ g m full y y0 (by omega) w h hg
theorem bLL (g:SG) (m:M) (full:Bool) (c imm y z:Int) (c0:0<=c) (hx:c / 64=0) (hy:c / 8%8=y) (hz:c%8=z) (y0:0<=y) (y1:y<=7) (z0:0<=z) (z1:z<=7) (w:World) (h:InS g w m full) (hg:Stpq.Good m) :
  Calls prog 82 #[.pointer (some ⟨g.X,0,none⟩),.agg #[.int .i64 c,.bool true,.int .i64 imm]] w fun e w'=>e=.returned (.tuple #[])/\InS g w' (F (put ⟨m,full⟩ z (cD y (Stpp.get m z) m.rf).1) (cD y (Stpp.get m z) m.rf).2).m (F (put ⟨m,full⟩ z (cD y (Stpp.get m z) m.rf).1) (cD y (Stpp.get m z) m.rf).2).full:=by
 have gb:=dN hg z;have HR:Hid (∀ W,Below w.heap.size w W->Calls prog 85 #[.pointer (some ⟨g.X,0,none⟩),.int .i64 z] W fun e w'=>e=.returned (.int .i64 (Stpp.get m z))/\Below W.heap.size W w'):=fun W hb=>yA g m full z W (h.below hb) hg z0 z1
 have HI:Hid (∀ W,Below w.heap.size w W->InS g W m full):=fun W hb=>h.below hb
 have t1:c.tdiv 8=c / 8:=x5 c0;have t2:(c / 8).tmod 8=y:=by rw [x4 (by omega)];exact hy
 have t3:c.tmod 8=z:=by rw [x4 c0];exact hz
 have t4:c.tdiv 64=0:=by rw [x5 c0];exact hx
 have t5:IntKind.i64.wrap (c / 8)=c / 8:=by rw [x6];omega
 have t6:IntKind.u64.wrap y=y:=by rw [IntKind.wrap_u64];omega
 have t7:IntKind.i64.wrap (2 ^ y.toNat)=cQ y:=by
  have hn:y=0 \/ y=1 \/ y=2 \/ y=3 \/ y=4 \/ y=5 \/ y=6 \/ y=7:=by omega
  rcases hn with rfl|rfl|rfl|rfl|rfl|rfl|rfl|rfl
  all_goals decide +kernel
 have hf:=hg.f;have ct:=fun w=>mO y (Stpp.get m z) m.rf w y0 y1 gb.1 gb.2 hf.1 hf.2
 have bd:=rA (op:=y) (f:=m.rf) gb.1 gb.2;generalize (cD y (Stpp.get m z) m.rf).1=v1 at *
 generalize (cD y (Stpp.get m z) m.rf).2=v2 at *
 have c3:Hid (∀ W,InS g W m full->Calls prog 84 #[.pointer (some ⟨g.X,0,none⟩),.int .i64 z,.int .i64 v1] W fun e w'=>e=.returned (.tuple #[])/\InS g w' (put ⟨m,full⟩ z v1).m (put ⟨m,full⟩ z v1).full):=fun W hi=>aCC g m full _ _ W hi hg z0 z1 bd.1 bd.2.1
 generalize put ⟨m,full⟩ z v1=t at *
 clear bd hf;clear h hg gb hx hy hz;generalize Stpp.get m z=v at *
 generalize cQ y=bt at *
 go_enter func82,ntmps82
 go_wp2_with fail
 refine Calls.mono (HR.out _ (by repeat (with_reducible first|exact zRf|refine zGr ?_ _|refine below_drewN ?_ _|refine Below.drew ?_))) ?_;rintro e w1 ⟨rfl,hb1⟩;have k0:=HolI.box hb1 0 _ rfl;have H1:Hid (InS g w1 m full):=HI.out _ (HolI.cW hb1);clear hb1 HR HI;have q1:=H1.out.cell 1 _ rfl
 go_wp2_with (go_at_call 116;refine (ct _).mono ?_;rintro e w' ⟨rfl,hw'⟩;have hw':=hw'.symm;subst hw')
 refine Calls.mono (c3.out _ H1.out) ?_;rintro e w2 ⟨rfl,hi2⟩;have H2:Hid (InS g w2 t.m t.full):=hi2;clear hi2 H1 c3 q1;have q_rf:=H2.out.cell 1 _ rfl;have f_rf:=H2.out.fro 1;have HF:Hid (InS g (w2.setCell ⟨g.X,1,none⟩ (.int .i64 v2)) { t.m with rf:=v2 } t.full):=H2.out.s_rf v2;clear H2;go_wp2
 go_end0
 exact ⟨rfl,HF.out⟩
theorem bLM (g:SG) (m:M) (full:Bool) (c imm y z:Int) (c0:0<=c) (hx:c / 64=1) (hy:c / 8%8=y) (hz:c%8=z) (y0:0<=y) (y1:y<=7) (z0:0<=z) (z1:z<=7) (w:World) (h:InS g w m full) (hg:Stpq.Good m) :
  Calls prog 82 #[.pointer (some ⟨g.X,0,none⟩),.agg #[.int .i64 c,.bool true,.int .i64 imm]] w fun e w'=>e=.returned (.tuple #[])/\InS g w' (F ⟨m,full⟩ (fl (decide (bits .and .i64 (Stpp.get m z) (cQ y)=0)) false true (cB m.rf))).m (F ⟨m,full⟩ (fl (decide (bits .and .i64 (Stpp.get m z) (cQ y)=0)) false true (cB m.rf))).full:=by
 have gb:=dN hg z;have HR:Hid (∀ W,Below w.heap.size w W->Calls prog 85 #[.pointer (some ⟨g.X,0,none⟩),.int .i64 z] W fun e w'=>e=.returned (.int .i64 (Stpp.get m z))/\Below W.heap.size W w'):=fun W hb=>yA g m full z W (h.below hb) hg z0 z1
 have HI:Hid (∀ W,Below w.heap.size w W->InS g W m full):=fun W hb=>h.below hb
 have t1:c.tdiv 8=c / 8:=x5 c0;have t2:(c / 8).tmod 8=y:=by rw [x4 (by omega)];exact hy
 have t3:c.tmod 8=z:=by rw [x4 c0];exact hz
 have t4:c.tdiv 64=1:=by rw [x5 c0];exact hx
 have t5:IntKind.i64.wrap (c / 8)=c / 8:=by rw [x6];omega
 have t6:IntKind.u64.wrap y=y:=by rw [IntKind.wrap_u64];omega
 have t7:IntKind.i64.wrap (2 ^ y.toNat)=cQ y:=by
  have hn:y=0 \/ y=1 \/ y=2 \/ y=3 \/ y=4 \/ y=5 \/ y=6 \/ y=7:=by omega
  rcases hn with rfl|rfl|rfl|rfl|rfl|rfl|rfl|rfl
  all_goals decide +kernel
 have hf:=hg.f;have cc:=fun w=>dE m.rf w hf.1 hf.2
 have tc:(cy m.rf == 1)=cB m.rf:=by unfold cB;by_cases h:cy m.rf=1 <;> simp [h]
 generalize cB m.rf=cb at *
 obtain ⟨vb,hvb⟩ : ∃ x,bits .and .i64 (Stpp.get m z) (cQ y)=x:=⟨_,rfl⟩
 rw [hvb];have hzz:(vb == 0)=decide (vb=0):=by by_cases h:vb=0 <;> simp [h]
 generalize decide (vb=0)=db at *
 clear hf;clear h hg gb hx hy hz;generalize Stpp.get m z=v at *
 generalize cQ y=bt at *
 go_enter func82,ntmps82
 go_wp2_with fail
 refine Calls.mono (HR.out _ (by repeat (with_reducible first|exact zRf|refine zGr ?_ _|refine below_drewN ?_ _|refine Below.drew ?_))) ?_;rintro e w1 ⟨rfl,hb1⟩;have k0:=HolI.box hb1 0 _ rfl;have H1:Hid (InS g w1 m full):=HI.out _ (HolI.cW hb1);clear hb1 HR HI;have q1:=H1.out.cell 1 _ rfl;have q_rf:=H1.out.cell 1 _ rfl;have f_rf:=H1.out.fro 1;have HF:Hid (InS g (w1.setCell ⟨g.X,1,none⟩ (.int .i64 (fl db false true cb))) { m with rf:=(fl db false true cb) } full):=H1.out.s_rf (fl db false true cb);clear H1
 go_wp2_with first|(go_at_call 118;refine (cc _).mono ?_;rintro e w' ⟨rfl,hw'⟩;have hw':=hw'.symm;subst hw')|(go_at_call 117;refine (cV _ _ _ _ _).mono ?_;rintro e w' ⟨rfl,hw'⟩;have hw':=hw'.symm;subst hw')
 go_end0
 exact ⟨rfl,HF.out⟩
theorem bLN (g:SG) (m:M) (full:Bool) (c imm y z:Int) (c0:0<=c) (hx:c / 64=2) (hy:c / 8%8=y) (hz:c%8=z) (y0:0<=y) (y1:y<=7) (z0:0<=z) (z1:z<=7) (w:World) (h:InS g w m full) (hg:Stpq.Good m) :
  Calls prog 82 #[.pointer (some ⟨g.X,0,none⟩),.agg #[.int .i64 c,.bool true,.int .i64 imm]] w fun e w'=>e=.returned (.tuple #[])/\InS g w' (put ⟨m,full⟩ z (bits .andNot .i64 (Stpp.get m z) (cQ y))).m (put ⟨m,full⟩ z (bits .andNot .i64 (Stpp.get m z) (cQ y))).full:=by
 have gb:=dN hg z;have HR:Hid (∀ W,Below w.heap.size w W->Calls prog 85 #[.pointer (some ⟨g.X,0,none⟩),.int .i64 z] W fun e w'=>e=.returned (.int .i64 (Stpp.get m z))/\Below W.heap.size W w'):=fun W hb=>yA g m full z W (h.below hb) hg z0 z1
 have HI:Hid (∀ W,Below w.heap.size w W->InS g W m full):=fun W hb=>h.below hb
 have t1:c.tdiv 8=c / 8:=x5 c0;have t2:(c / 8).tmod 8=y:=by rw [x4 (by omega)];exact hy
 have t3:c.tmod 8=z:=by rw [x4 c0];exact hz
 have t4:c.tdiv 64=2:=by rw [x5 c0];exact hx
 have t5:IntKind.i64.wrap (c / 8)=c / 8:=by rw [x6];omega
 have t6:IntKind.u64.wrap y=y:=by rw [IntKind.wrap_u64];omega
 have t7:IntKind.i64.wrap (2 ^ y.toNat)=cQ y:=by
  have hn:y=0 \/ y=1 \/ y=2 \/ y=3 \/ y=4 \/ y=5 \/ y=6 \/ y=7:=by omega
  rcases hn with rfl|rfl|rfl|rfl|rfl|rfl|rfl|rfl
  all_goals decide +kernel
 have bd:=oN gb.1 gb.2 y;have c3:Hid (∀ W,InS g W m full->Calls prog 84 #[.pointer (some ⟨g.X,0,none⟩),.int .i64 z,.int .i64 (bits .andNot .i64 (Stpp.get m z) (cQ y))] W fun e w'=>e=.returned (.tuple #[])/\InS g w' (put ⟨m,full⟩ z (bits .andNot .i64 (Stpp.get m z) (cQ y))).m (put ⟨m,full⟩ z (bits .andNot .i64 (Stpp.get m z) (cQ y))).full):=fun W hi=>aCC g m full _ _ W hi hg z0 z1 bd.1 bd.2
 generalize put ⟨m,full⟩ z (bits .andNot .i64 (Stpp.get m z) (cQ y))=t at *
 clear bd;clear h hg gb hx hy hz;generalize Stpp.get m z=v at *
 generalize cQ y=bt at *
 go_enter func82,ntmps82
 go_wp2_with fail
 refine Calls.mono (HR.out _ (by repeat (with_reducible first|exact zRf|refine zGr ?_ _|refine below_drewN ?_ _|refine Below.drew ?_))) ?_;rintro e w1 ⟨rfl,hb1⟩;have k0:=HolI.box hb1 0 _ rfl;have H1:Hid (InS g w1 m full):=HI.out _ (HolI.cW hb1);clear hb1 HR HI
 go_wp2_with fail
 refine Calls.mono (c3.out _ H1.out) ?_;rintro e w2 ⟨rfl,hi2⟩;have H2:Hid (InS g w2 t.m t.full):=hi2;clear hi2 H1 c3;go_wp2
 go_end0
 exact ⟨rfl,H2.out⟩
theorem bLO (g:SG) (m:M) (full:Bool) (c imm y z:Int) (c0:0<=c) (hx:c / 64=3) (hy:c / 8%8=y) (hz:c%8=z) (y0:0<=y) (y1:y<=7) (z0:0<=z) (z1:z<=7) (w:World) (h:InS g w m full) (hg:Stpq.Good m) :
  Calls prog 82 #[.pointer (some ⟨g.X,0,none⟩),.agg #[.int .i64 c,.bool true,.int .i64 imm]] w fun e w'=>e=.returned (.tuple #[])/\InS g w' (put ⟨m,full⟩ z (bits .or .i64 (Stpp.get m z) (cQ y))).m (put ⟨m,full⟩ z (bits .or .i64 (Stpp.get m z) (cQ y))).full:=by
 have gb:=dN hg z;have HR:Hid (∀ W,Below w.heap.size w W->Calls prog 85 #[.pointer (some ⟨g.X,0,none⟩),.int .i64 z] W fun e w'=>e=.returned (.int .i64 (Stpp.get m z))/\Below W.heap.size W w'):=fun W hb=>yA g m full z W (h.below hb) hg z0 z1
 have HI:Hid (∀ W,Below w.heap.size w W->InS g W m full):=fun W hb=>h.below hb
 have t1:c.tdiv 8=c / 8:=x5 c0;have t2:(c / 8).tmod 8=y:=by rw [x4 (by omega)];exact hy
 have t3:c.tmod 8=z:=by rw [x4 c0];exact hz
 have t4:c.tdiv 64=3:=by rw [x5 c0];exact hx
 have t5:IntKind.i64.wrap (c / 8)=c / 8:=by rw [x6];omega
 have t6:IntKind.u64.wrap y=y:=by rw [IntKind.wrap_u64];omega
 have t7:IntKind.i64.wrap (2 ^ y.toNat)=cQ y:=by
  have hn:y=0 \/ y=1 \/ y=2 \/ y=3 \/ y=4 \/ y=5 \/ y=6 \/ y=7:=by omega
  rcases hn with rfl|rfl|rfl|rfl|rfl|rfl|rfl|rfl
  all_goals decide +kernel
 have bd:=rG gb.1 gb.2 y;have c3:Hid (∀ W,InS g W m full->Calls prog 84 #[.pointer (some ⟨g.X,0,none⟩),.int .i64 z,.int .i64 (bits .or .i64 (Stpp.get m z) (cQ y))] W fun e w'=>e=.returned (.tuple #[])/\InS g w' (put ⟨m,full⟩ z (bits .or .i64 (Stpp.get m z) (cQ y))).m (put ⟨m,full⟩ z (bits .or .i64 (Stpp.get m z) (cQ y))).full):=fun W hi=>aCC g m full _ _ W hi hg z0 z1 bd.1 bd.2
 generalize put ⟨m,full⟩ z (bits .or .i64 (Stpp.get m z) (cQ y))=t at *
 clear bd;clear h hg gb hx hy hz;generalize Stpp.get m z=v at *
 generalize cQ y=bt at *
 go_enter func82,ntmps82
 go_wp2_with fail
 refine Calls.mono (HR.out _ (by repeat (with_reducible first|exact zRf|refine zGr ?_ _|refine below_drewN ?_ _|refine Below.drew ?_))) ?_;rintro e w1 ⟨rfl,hb1⟩;have k0:=HolI.box hb1 0 _ rfl;have H1:Hid (InS g w1 m full):=HI.out _ (HolI.cW hb1);clear hb1 HR HI
 go_wp2_with fail
 refine Calls.mono (c3.out _ H1.out) ?_;rintro e w2 ⟨rfl,hi2⟩;have H2:Hid (InS g w2 t.m t.full):=hi2;clear hi2 H1 c3;go_wp2
 go_end0
 exact ⟨rfl,H2.out⟩
theorem cbS (g:SG) (m:M) (full:Bool) (c imm:Int) (c0:0<=c) (c1:c<=255) (w:World) (h:InS g w m full) (hg:Stpq.Good m) :
  Calls prog 82 #[.pointer (some ⟨g.X,0,none⟩),.agg #[.int .i64 c,.bool true,.int .i64 imm]] w fun e w'=>e=.returned (.tuple #[])/\InS g w' (cbE c ⟨m,full⟩).m (cbE c ⟨m,full⟩).full:=by
 unfold cbE
 by_cases h0:c / 64=0
 ·rw [if_pos h0];exact bLL g m full c imm _ _ c0 h0 rfl rfl (by omega) (by omega) (by omega) (by omega) w h hg
 rw [if_neg h0]
 by_cases h1:c / 64=1
 ·rw [if_pos h1];exact bLM g m full c imm _ _ c0 h1 rfl rfl (by omega) (by omega) (by omega) (by omega) w h hg
 rw [if_neg h1]
 by_cases h2:c / 64=2
 ·rw [if_pos h2];exact bLN g m full c imm _ _ c0 h2 rfl rfl (by omega) (by omega) (by omega) (by omega) w h hg
 rw [if_neg h2];exact bLO g m full c imm _ _ c0 (by omega) rfl rfl (by omega) (by omega) (by omega) (by omega) w h hg
theorem stq {g:SG} {w:World} {m:M} {full:Bool} {c imm:Int} (h:InS g w m full):∃ u,u=w.alloc (.cells #[.int .i64 c,.bool false,.int .i64 imm] 80)/\InS g u m full/\Hid (InS g u m full)/\u.cell? ⟨w.heap.size,0,none⟩=some (.int .i64 c)/\u.cell? ⟨w.heap.size,2,none⟩=some (.int .i64 imm)/\Hid (w.heap.size<u.heap.size/\¬ w.heap.size=g.X):=by
 have hI:=h.below (zAl w (.cells #[.int .i64 c,.bool false,.int .i64 imm] 80));exact ⟨_,rfl,hI,hI,by rw [World.cell?_alloc_new];rfl,by rw [World.cell?_alloc_new];rfl,by simp,by have:=h.lt;omega⟩
end Stck
end Go.Proofs.YteglcgnhhoenbaaGreatDoor
