import Derived.Test.YtnjolmbdbgbmbaaGreatDoorH19
set_option linter.all false
set_option maxRecDepth 20000
set_option maxHeartbeats 8000000
open Go.ChangeShapes Go.WideShapes Go.ChangeAt Go.RowKit
open Go.Proofs.Tryz
namespace Go.Proofs.YtnjolmbdbgbmbaaGreatDoor
namespace Stb
open Go.Deep
open Signed (inB sgn ret_int ret_bool)
open Reck ReckS ReckM ReckD TurnS
open Busw Busx Busy Stpp Stpq Stps Sta
theorem pair_0f (g:SG) (m:M) (full:Bool) (w:World) (h:InS g w m full) (hg:Stpq.Good m) :
  Calls prog 128 #[.pointer (some ⟨g.X,0,none⟩),.int .i64 0,.bool false] w fun e w'=>e=.returned (.int .i64 (256*m.rB+m.rC))/\Below w.heap.size w w':=by
 have ha:=hg.b
 have hb:=hg.c
 have d1:IntKind.i64.wrap (256*m.rB)=256*m.rB:=by rw [IntKind.wrap_i64];omega
 have d2:IntKind.i64.wrap (256*m.rB+m.rC)=256*m.rB+m.rC:=by rw [IntKind.wrap_i64];omega
 have C1:Hid (∀ W,Below w.heap.size w W->Calls prog 88 #[.pointer (some ⟨g.X,0,none⟩),.int .i64 0] W fun e w'=>e=.returned (.int .i64 m.rB)/\Below W.heap.size W w'):=fun W hb=>reg_0 g m full W (h.below hb)
 have C2:Hid (∀ W,Below w.heap.size w W->Calls prog 88 #[.pointer (some ⟨g.X,0,none⟩),.int .i64 1] W fun e w'=>e=.returned (.int .i64 m.rC)/\Below W.heap.size W w'):=fun W hb=>reg_1 g m full W (h.below hb)
 have q_ra:=h.cell 0 _ rfl
 have q_rf:=h.cell 1 _ rfl
 have q_rB:=h.cell 2 _ rfl
 have q_rC:=h.cell 3 _ rfl
 have q_rD:=h.cell 4 _ rfl
 have q_rE:=h.cell 5 _ rfl
 have q_rH:=h.cell 6 _ rfl
 have q_rL:=h.cell 7 _ rfl
 have q_sp:=h.cell 8 _ rfl
 have q_pc:=h.cell 9 _ rfl
 have q_ime:=h.cell 10 _ rfl
 have q_hal:=h.cell 11 _ rfl
 have hl:=h.lt
 clear h hg ha hb
 go_enter func128,ntmps128
 go_wp2_with fail
 refine Calls.mono (C1.out _ (by repeat (with_reducible first|exact zRf|refine zGr ?_ _|refine below_drewN ?_ _|refine Below.drew ?_))) ?_
 rintro e w1 ⟨rfl,hb1⟩
 have H1:Hid (Below w.heap.size w w1):=after (by repeat (with_reducible first|exact zRf|refine zGr ?_ _|refine below_drewN ?_ _|refine Below.drew ?_)) hb1
 clear hb1 C1
 go_wp2_with fail
 refine Calls.mono (C2.out _ H1.out) ?_
 rintro e w2 ⟨rfl,hb2⟩
 have H2:Hid (Below w.heap.size w w2):=after H1.out hb2
 clear hb2 C2 H1
 go_wp2
 go_ret
 exact ⟨rfl,H2.out⟩
theorem pair_0t (g:SG) (m:M) (full:Bool) (w:World) (h:InS g w m full) (hg:Stpq.Good m) :
  Calls prog 128 #[.pointer (some ⟨g.X,0,none⟩),.int .i64 0,.bool true] w fun e w'=>e=.returned (.int .i64 (256*m.rB+m.rC))/\Below w.heap.size w w':=by
 have ha:=hg.b
 have hb:=hg.c
 have d1:IntKind.i64.wrap (256*m.rB)=256*m.rB:=by rw [IntKind.wrap_i64];omega
 have d2:IntKind.i64.wrap (256*m.rB+m.rC)=256*m.rB+m.rC:=by rw [IntKind.wrap_i64];omega
 have C1:Hid (∀ W,Below w.heap.size w W->Calls prog 88 #[.pointer (some ⟨g.X,0,none⟩),.int .i64 0] W fun e w'=>e=.returned (.int .i64 m.rB)/\Below W.heap.size W w'):=fun W hb=>reg_0 g m full W (h.below hb)
 have C2:Hid (∀ W,Below w.heap.size w W->Calls prog 88 #[.pointer (some ⟨g.X,0,none⟩),.int .i64 1] W fun e w'=>e=.returned (.int .i64 m.rC)/\Below W.heap.size W w'):=fun W hb=>reg_1 g m full W (h.below hb)
 have q_ra:=h.cell 0 _ rfl
 have q_rf:=h.cell 1 _ rfl
 have q_rB:=h.cell 2 _ rfl
 have q_rC:=h.cell 3 _ rfl
 have q_rD:=h.cell 4 _ rfl
 have q_rE:=h.cell 5 _ rfl
 have q_rH:=h.cell 6 _ rfl
 have q_rL:=h.cell 7 _ rfl
 have q_sp:=h.cell 8 _ rfl
 have q_pc:=h.cell 9 _ rfl
 have q_ime:=h.cell 10 _ rfl
 have q_hal:=h.cell 11 _ rfl
 have hl:=h.lt
 clear h hg ha hb
 go_enter func128,ntmps128
 go_wp2_with fail
 refine Calls.mono (C1.out _ (by repeat (with_reducible first|exact zRf|refine zGr ?_ _|refine below_drewN ?_ _|refine Below.drew ?_))) ?_
 rintro e w1 ⟨rfl,hb1⟩
 have H1:Hid (Below w.heap.size w w1):=after (by repeat (with_reducible first|exact zRf|refine zGr ?_ _|refine below_drewN ?_ _|refine Below.drew ?_)) hb1
 clear hb1 C1
 go_wp2_with fail
 refine Calls.mono (C2.out _ H1.out) ?_
 rintro e w2 ⟨rfl,hb2⟩
 have H2:Hid (Below w.heap.size w w2):=after H1.out hb2
 clear hb2 C2 H1
 go_wp2
 go_ret
 exact ⟨rfl,H2.out⟩
theorem pair_1f (g:SG) (m:M) (full:Bool) (w:World) (h:InS g w m full) (hg:Stpq.Good m) :
  Calls prog 128 #[.pointer (some ⟨g.X,0,none⟩),.int .i64 1,.bool false] w fun e w'=>e=.returned (.int .i64 (256*m.rD+m.rE))/\Below w.heap.size w w':=by
 have ha:=hg.d
 have hb:=hg.e
 have d1:IntKind.i64.wrap (256*m.rD)=256*m.rD:=by rw [IntKind.wrap_i64];omega
 have d2:IntKind.i64.wrap (256*m.rD+m.rE)=256*m.rD+m.rE:=by rw [IntKind.wrap_i64];omega
 have C1:Hid (∀ W,Below w.heap.size w W->Calls prog 88 #[.pointer (some ⟨g.X,0,none⟩),.int .i64 2] W fun e w'=>e=.returned (.int .i64 m.rD)/\Below W.heap.size W w'):=fun W hb=>reg_2 g m full W (h.below hb)
 have C2:Hid (∀ W,Below w.heap.size w W->Calls prog 88 #[.pointer (some ⟨g.X,0,none⟩),.int .i64 3] W fun e w'=>e=.returned (.int .i64 m.rE)/\Below W.heap.size W w'):=fun W hb=>reg_3 g m full W (h.below hb)
 have q_ra:=h.cell 0 _ rfl
 have q_rf:=h.cell 1 _ rfl
 have q_rB:=h.cell 2 _ rfl
 have q_rC:=h.cell 3 _ rfl
 have q_rD:=h.cell 4 _ rfl
 have q_rE:=h.cell 5 _ rfl
 have q_rH:=h.cell 6 _ rfl
 have q_rL:=h.cell 7 _ rfl
 have q_sp:=h.cell 8 _ rfl
 have q_pc:=h.cell 9 _ rfl
 have q_ime:=h.cell 10 _ rfl
 have q_hal:=h.cell 11 _ rfl
 have hl:=h.lt
 clear h hg ha hb
 go_enter func128,ntmps128
 go_wp2_with fail
 refine Calls.mono (C1.out _ (by repeat (with_reducible first|exact zRf|refine zGr ?_ _|refine below_drewN ?_ _|refine Below.drew ?_))) ?_
 rintro e w1 ⟨rfl,hb1⟩
 have H1:Hid (Below w.heap.size w w1):=after (by repeat (with_reducible first|exact zRf|refine zGr ?_ _|refine below_drewN ?_ _|refine Below.drew ?_)) hb1
 clear hb1 C1
 go_wp2_with fail
 refine Calls.mono (C2.out _ H1.out) ?_
 rintro e w2 ⟨rfl,hb2⟩
 have H2:Hid (Below w.heap.size w w2):=after H1.out hb2
 clear hb2 C2 H1
 go_wp2
 go_ret
 exact ⟨rfl,H2.out⟩
theorem pair_1t (g:SG) (m:M) (full:Bool) (w:World) (h:InS g w m full) (hg:Stpq.Good m) :
  Calls prog 128 #[.pointer (some ⟨g.X,0,none⟩),.int .i64 1,.bool true] w fun e w'=>e=.returned (.int .i64 (256*m.rD+m.rE))/\Below w.heap.size w w':=by
 have ha:=hg.d
 have hb:=hg.e
 have d1:IntKind.i64.wrap (256*m.rD)=256*m.rD:=by rw [IntKind.wrap_i64];omega
 have d2:IntKind.i64.wrap (256*m.rD+m.rE)=256*m.rD+m.rE:=by rw [IntKind.wrap_i64];omega
 have C1:Hid (∀ W,Below w.heap.size w W->Calls prog 88 #[.pointer (some ⟨g.X,0,none⟩),.int .i64 2] W fun e w'=>e=.returned (.int .i64 m.rD)/\Below W.heap.size W w'):=fun W hb=>reg_2 g m full W (h.below hb)
 have C2:Hid (∀ W,Below w.heap.size w W->Calls prog 88 #[.pointer (some ⟨g.X,0,none⟩),.int .i64 3] W fun e w'=>e=.returned (.int .i64 m.rE)/\Below W.heap.size W w'):=fun W hb=>reg_3 g m full W (h.below hb)
 have q_ra:=h.cell 0 _ rfl
 have q_rf:=h.cell 1 _ rfl
 have q_rB:=h.cell 2 _ rfl
 have q_rC:=h.cell 3 _ rfl
 have q_rD:=h.cell 4 _ rfl
 have q_rE:=h.cell 5 _ rfl
 have q_rH:=h.cell 6 _ rfl
 have q_rL:=h.cell 7 _ rfl
 have q_sp:=h.cell 8 _ rfl
 have q_pc:=h.cell 9 _ rfl
 have q_ime:=h.cell 10 _ rfl
 have q_hal:=h.cell 11 _ rfl
 have hl:=h.lt
 clear h hg ha hb
 go_enter func128,ntmps128
 go_wp2_with fail
 refine Calls.mono (C1.out _ (by repeat (with_reducible first|exact zRf|refine zGr ?_ _|refine below_drewN ?_ _|refine Below.drew ?_))) ?_
 rintro e w1 ⟨rfl,hb1⟩
 have H1:Hid (Below w.heap.size w w1):=after (by repeat (with_reducible first|exact zRf|refine zGr ?_ _|refine below_drewN ?_ _|refine Below.drew ?_)) hb1
 clear hb1 C1
 go_wp2_with fail
 refine Calls.mono (C2.out _ H1.out) ?_
 rintro e w2 ⟨rfl,hb2⟩
 have H2:Hid (Below w.heap.size w w2):=after H1.out hb2
 clear hb2 C2 H1
 go_wp2
 go_ret
 exact ⟨rfl,H2.out⟩
theorem pair_2f (g:SG) (m:M) (full:Bool) (w:World) (h:InS g w m full) (hg:Stpq.Good m) :
  Calls prog 128 #[.pointer (some ⟨g.X,0,none⟩),.int .i64 2,.bool false] w fun e w'=>e=.returned (.int .i64 (256*m.rH+m.rL))/\Below w.heap.size w w':=by
 have ha:=hg.h
 have hb:=hg.l
 have d1:IntKind.i64.wrap (256*m.rH)=256*m.rH:=by rw [IntKind.wrap_i64];omega
 have d2:IntKind.i64.wrap (256*m.rH+m.rL)=256*m.rH+m.rL:=by rw [IntKind.wrap_i64];omega
 have C1:Hid (∀ W,Below w.heap.size w W->Calls prog 88 #[.pointer (some ⟨g.X,0,none⟩),.int .i64 4] W fun e w'=>e=.returned (.int .i64 m.rH)/\Below W.heap.size W w'):=fun W hb=>reg_4 g m full W (h.below hb)
 have C2:Hid (∀ W,Below w.heap.size w W->Calls prog 88 #[.pointer (some ⟨g.X,0,none⟩),.int .i64 5] W fun e w'=>e=.returned (.int .i64 m.rL)/\Below W.heap.size W w'):=fun W hb=>reg_5 g m full W (h.below hb)
 have q_ra:=h.cell 0 _ rfl
 have q_rf:=h.cell 1 _ rfl
 have q_rB:=h.cell 2 _ rfl
 have q_rC:=h.cell 3 _ rfl
 have q_rD:=h.cell 4 _ rfl
 have q_rE:=h.cell 5 _ rfl
 have q_rH:=h.cell 6 _ rfl
 have q_rL:=h.cell 7 _ rfl
 have q_sp:=h.cell 8 _ rfl
 have q_pc:=h.cell 9 _ rfl
 have q_ime:=h.cell 10 _ rfl
 have q_hal:=h.cell 11 _ rfl
 have hl:=h.lt
 clear h hg ha hb
 go_enter func128,ntmps128
 go_wp2_with fail
 refine Calls.mono (C1.out _ (by repeat (with_reducible first|exact zRf|refine zGr ?_ _|refine below_drewN ?_ _|refine Below.drew ?_))) ?_
 rintro e w1 ⟨rfl,hb1⟩
 have H1:Hid (Below w.heap.size w w1):=after (by repeat (with_reducible first|exact zRf|refine zGr ?_ _|refine below_drewN ?_ _|refine Below.drew ?_)) hb1
 clear hb1 C1
 go_wp2_with fail
 refine Calls.mono (C2.out _ H1.out) ?_
 rintro e w2 ⟨rfl,hb2⟩
 have H2:Hid (Below w.heap.size w w2):=after H1.out hb2
 clear hb2 C2 H1
 go_wp2
 go_ret
 exact ⟨rfl,H2.out⟩
theorem pair_2t (g:SG) (m:M) (full:Bool) (w:World) (h:InS g w m full) (hg:Stpq.Good m) :
  Calls prog 128 #[.pointer (some ⟨g.X,0,none⟩),.int .i64 2,.bool true] w fun e w'=>e=.returned (.int .i64 (256*m.rH+m.rL))/\Below w.heap.size w w':=by
 have ha:=hg.h
 have hb:=hg.l
 have d1:IntKind.i64.wrap (256*m.rH)=256*m.rH:=by rw [IntKind.wrap_i64];omega
 have d2:IntKind.i64.wrap (256*m.rH+m.rL)=256*m.rH+m.rL:=by rw [IntKind.wrap_i64];omega
 have C1:Hid (∀ W,Below w.heap.size w W->Calls prog 88 #[.pointer (some ⟨g.X,0,none⟩),.int .i64 4] W fun e w'=>e=.returned (.int .i64 m.rH)/\Below W.heap.size W w'):=fun W hb=>reg_4 g m full W (h.below hb)
 have C2:Hid (∀ W,Below w.heap.size w W->Calls prog 88 #[.pointer (some ⟨g.X,0,none⟩),.int .i64 5] W fun e w'=>e=.returned (.int .i64 m.rL)/\Below W.heap.size W w'):=fun W hb=>reg_5 g m full W (h.below hb)
 have q_ra:=h.cell 0 _ rfl
 have q_rf:=h.cell 1 _ rfl
 have q_rB:=h.cell 2 _ rfl
 have q_rC:=h.cell 3 _ rfl
 have q_rD:=h.cell 4 _ rfl
 have q_rE:=h.cell 5 _ rfl
 have q_rH:=h.cell 6 _ rfl
 have q_rL:=h.cell 7 _ rfl
 have q_sp:=h.cell 8 _ rfl
 have q_pc:=h.cell 9 _ rfl
 have q_ime:=h.cell 10 _ rfl
 have q_hal:=h.cell 11 _ rfl
 have hl:=h.lt
 clear h hg ha hb
 go_enter func128,ntmps128
 go_wp2_with fail
 refine Calls.mono (C1.out _ (by repeat (with_reducible first|exact zRf|refine zGr ?_ _|refine below_drewN ?_ _|refine Below.drew ?_))) ?_
 rintro e w1 ⟨rfl,hb1⟩
 have H1:Hid (Below w.heap.size w w1):=after (by repeat (with_reducible first|exact zRf|refine zGr ?_ _|refine below_drewN ?_ _|refine Below.drew ?_)) hb1
 clear hb1 C1
 go_wp2_with fail
 refine Calls.mono (C2.out _ H1.out) ?_
 rintro e w2 ⟨rfl,hb2⟩
 have H2:Hid (Below w.heap.size w w2):=after H1.out hb2
 clear hb2 C2 H1
 go_wp2
 go_ret
 exact ⟨rfl,H2.out⟩
theorem pair_3f (g:SG) (m:M) (full:Bool) (w:World) (h:InS g w m full) (hg:Stpq.Good m) :
  Calls prog 128 #[.pointer (some ⟨g.X,0,none⟩),.int .i64 3,.bool false] w fun e w'=>e=.returned (.int .i64 (m.sp))/\Below w.heap.size w w':=by
 have q_ra:=h.cell 0 _ rfl
 have q_rf:=h.cell 1 _ rfl
 have q_rB:=h.cell 2 _ rfl
 have q_rC:=h.cell 3 _ rfl
 have q_rD:=h.cell 4 _ rfl
 have q_rE:=h.cell 5 _ rfl
 have q_rH:=h.cell 6 _ rfl
 have q_rL:=h.cell 7 _ rfl
 have q_sp:=h.cell 8 _ rfl
 have q_pc:=h.cell 9 _ rfl
 have q_ime:=h.cell 10 _ rfl
 have q_hal:=h.cell 11 _ rfl
 have hl:=h.lt
 clear h hg
 go_enter func128,ntmps128
 go_wp2
 go_ret
 exact ⟨rfl,by repeat (with_reducible first|exact zRf|refine zGr ?_ _|refine below_drewN ?_ _|refine Below.drew ?_)⟩
theorem pair_3t (g:SG) (m:M) (full:Bool) (w:World) (h:InS g w m full) (hg:Stpq.Good m) :
  Calls prog 128 #[.pointer (some ⟨g.X,0,none⟩),.int .i64 3,.bool true] w fun e w'=>e=.returned (.int .i64 (256*m.ra+m.rf))/\Below w.heap.size w w':=by
 have ha:=hg.a
 have hb:=hg.f
 have d1:IntKind.i64.wrap (256*m.ra)=256*m.ra:=by rw [IntKind.wrap_i64];omega
 have d2:IntKind.i64.wrap (256*m.ra+m.rf)=256*m.ra+m.rf:=by rw [IntKind.wrap_i64];omega
 have q_ra:=h.cell 0 _ rfl
 have q_rf:=h.cell 1 _ rfl
 have q_rB:=h.cell 2 _ rfl
 have q_rC:=h.cell 3 _ rfl
 have q_rD:=h.cell 4 _ rfl
 have q_rE:=h.cell 5 _ rfl
 have q_rH:=h.cell 6 _ rfl
 have q_rL:=h.cell 7 _ rfl
 have q_sp:=h.cell 8 _ rfl
 have q_pc:=h.cell 9 _ rfl
 have q_ime:=h.cell 10 _ rfl
 have q_hal:=h.cell 11 _ rfl
 have hl:=h.lt
 clear h hg ha hb
 go_enter func128,ntmps128
 go_wp2
 go_ret
 exact ⟨rfl,by repeat (with_reducible first|exact zRf|refine zGr ?_ _|refine below_drewN ?_ _|refine Below.drew ?_)⟩
theorem cases4 {n:Int} (n0:0<=n) (n1:n<=3):n=0 \/ n=1 \/ n=2 \/ n=3:=by omega
theorem pairS (g:SG) (m:M) (full:Bool) (k:Int) (w:World) (h:InS g w m full) (hg:Stpq.Good m) (k0:0<=k) (k1:k<=3) :
  Calls prog 128 #[.pointer (some ⟨g.X,0,none⟩),.int .i64 k,.bool false] w fun e w'=>e=.returned (.int .i64 (pr m k))/\Below w.heap.size w w':=by
 rcases cases4 k0 k1 with rfl|rfl|rfl|rfl
 ·exact pair_0f g m full w h hg
 ·exact pair_1f g m full w h hg
 ·exact pair_2f g m full w h hg
 ·exact pair_3f g m full w h hg
theorem pairQ (g:SG) (m:M) (full:Bool) (k:Int) (w:World) (h:InS g w m full) (hg:Stpq.Good m) (k0:0<=k) (k1:k<=3) :
  Calls prog 128 #[.pointer (some ⟨g.X,0,none⟩),.int .i64 k,.bool true] w fun e w'=>e=.returned (.int .i64 (prQ m k))/\Below w.heap.size w w':=by
 rcases cases4 k0 k1 with rfl|rfl|rfl|rfl
 ·exact pair_0t g m full w h hg
 ·exact pair_1t g m full w h hg
 ·exact pair_2t g m full w h hg
 ·exact pair_3t g m full w h hg
theorem setp_0f (g:SG) (m:M) (full:Bool) (v:Int) (v0:0<=v) (v1:v<=65535) (w:World) (h:InS g w m full) (hg:Stpq.Good m) :
  Calls prog 125 #[.pointer (some ⟨g.X,0,none⟩),.int .i64 0,.int .i64 v,.bool false] w fun e w'=>e=.returned (.tuple #[])/\InS g w' { m with rB:=v / 256,rC:=v%256 } full:=by
 have t1:v.tdiv 256=v / 256:=Int.tdiv_eq_ediv_of_nonneg v0
 have t2:v.tmod 256=v%256:=Int.tmod_eq_emod_of_nonneg v0
 have t3:IntKind.i64.wrap (v / 256)=v / 256:=by rw [IntKind.wrap_i64];omega
 have C1:Hid (Calls prog 87 #[.pointer (some ⟨g.X,0,none⟩),.int .i64 0,.int .i64 (v / 256)] w fun e w'=>e=.returned (.tuple #[])/\InS g w' { m with rB:=v / 256 } full):=set_0 g m full _ w h
 have C2:Hid (∀ W,InS g W { m with rB:=v / 256 } full->Calls prog 87 #[.pointer (some ⟨g.X,0,none⟩),.int .i64 1,.int .i64 (v%256)] W fun e w'=>e=.returned (.tuple #[])/\InS g w' { m with rB:=v / 256,rC:=v%256 } full):=fun W hi=>set_1 g _ full _ W hi
 clear h hg
 go_enter func125,ntmps125
 go_wp2_with fail
 refine Calls.mono C1.out ?_
 rintro e w1 ⟨rfl,hi1⟩
 have H1:Hid (InS g w1 { m with rB:=v / 256 } full):=hi1
 clear hi1 C1
 go_wp2_with fail
 refine Calls.mono (C2.out _ H1.out) ?_
 rintro e w2 ⟨rfl,hi2⟩
 have H2:Hid (InS g w2 { m with rB:=v / 256,rC:=v%256 } full):=hi2
 clear hi2 C2 H1
 go_wp2
 go_end0
 exact ⟨rfl,H2.out⟩
theorem setp_0t (g:SG) (m:M) (full:Bool) (v:Int) (v0:0<=v) (v1:v<=65535) (w:World) (h:InS g w m full) (hg:Stpq.Good m) :
  Calls prog 125 #[.pointer (some ⟨g.X,0,none⟩),.int .i64 0,.int .i64 v,.bool true] w fun e w'=>e=.returned (.tuple #[])/\InS g w' { m with rB:=v / 256,rC:=v%256 } full:=by
 have t1:v.tdiv 256=v / 256:=Int.tdiv_eq_ediv_of_nonneg v0
 have t2:v.tmod 256=v%256:=Int.tmod_eq_emod_of_nonneg v0
 have t3:IntKind.i64.wrap (v / 256)=v / 256:=by rw [IntKind.wrap_i64];omega
 have C1:Hid (Calls prog 87 #[.pointer (some ⟨g.X,0,none⟩),.int .i64 0,.int .i64 (v / 256)] w fun e w'=>e=.returned (.tuple #[])/\InS g w' { m with rB:=v / 256 } full):=set_0 g m full _ w h
 have C2:Hid (∀ W,InS g W { m with rB:=v / 256 } full->Calls prog 87 #[.pointer (some ⟨g.X,0,none⟩),.int .i64 1,.int .i64 (v%256)] W fun e w'=>e=.returned (.tuple #[])/\InS g w' { m with rB:=v / 256,rC:=v%256 } full):=fun W hi=>set_1 g _ full _ W hi
 clear h hg
 go_enter func125,ntmps125
 go_wp2_with fail
 refine Calls.mono C1.out ?_
 rintro e w1 ⟨rfl,hi1⟩
 have H1:Hid (InS g w1 { m with rB:=v / 256 } full):=hi1
 clear hi1 C1
 go_wp2_with fail
 refine Calls.mono (C2.out _ H1.out) ?_
 rintro e w2 ⟨rfl,hi2⟩
 have H2:Hid (InS g w2 { m with rB:=v / 256,rC:=v%256 } full):=hi2
 clear hi2 C2 H1
 go_wp2
 go_end0
 exact ⟨rfl,H2.out⟩
theorem setp_1f (g:SG) (m:M) (full:Bool) (v:Int) (v0:0<=v) (v1:v<=65535) (w:World) (h:InS g w m full) (hg:Stpq.Good m) :
  Calls prog 125 #[.pointer (some ⟨g.X,0,none⟩),.int .i64 1,.int .i64 v,.bool false] w fun e w'=>e=.returned (.tuple #[])/\InS g w' { m with rD:=v / 256,rE:=v%256 } full:=by
 have t1:v.tdiv 256=v / 256:=Int.tdiv_eq_ediv_of_nonneg v0
 have t2:v.tmod 256=v%256:=Int.tmod_eq_emod_of_nonneg v0
 have t3:IntKind.i64.wrap (v / 256)=v / 256:=by rw [IntKind.wrap_i64];omega
 have C1:Hid (Calls prog 87 #[.pointer (some ⟨g.X,0,none⟩),.int .i64 2,.int .i64 (v / 256)] w fun e w'=>e=.returned (.tuple #[])/\InS g w' { m with rD:=v / 256 } full):=set_2 g m full _ w h
 have C2:Hid (∀ W,InS g W { m with rD:=v / 256 } full->Calls prog 87 #[.pointer (some ⟨g.X,0,none⟩),.int .i64 3,.int .i64 (v%256)] W fun e w'=>e=.returned (.tuple #[])/\InS g w' { m with rD:=v / 256,rE:=v%256 } full):=fun W hi=>set_3 g _ full _ W hi
 clear h hg
 go_enter func125,ntmps125
 go_wp2_with fail
 refine Calls.mono C1.out ?_
 rintro e w1 ⟨rfl,hi1⟩
 have H1:Hid (InS g w1 { m with rD:=v / 256 } full):=hi1
 clear hi1 C1
 go_wp2_with fail
 refine Calls.mono (C2.out _ H1.out) ?_
 rintro e w2 ⟨rfl,hi2⟩
 have H2:Hid (InS g w2 { m with rD:=v / 256,rE:=v%256 } full):=hi2
 clear hi2 C2 H1
 go_wp2
 go_end0
 exact ⟨rfl,H2.out⟩
theorem setp_1t (g:SG) (m:M) (full:Bool) (v:Int) (v0:0<=v) (v1:v<=65535) (w:World) (h:InS g w m full) (hg:Stpq.Good m) :
  Calls prog 125 #[.pointer (some ⟨g.X,0,none⟩),.int .i64 1,.int .i64 v,.bool true] w fun e w'=>e=.returned (.tuple #[])/\InS g w' { m with rD:=v / 256,rE:=v%256 } full:=by
 have t1:v.tdiv 256=v / 256:=Int.tdiv_eq_ediv_of_nonneg v0
 have t2:v.tmod 256=v%256:=Int.tmod_eq_emod_of_nonneg v0
 have t3:IntKind.i64.wrap (v / 256)=v / 256:=by rw [IntKind.wrap_i64];omega
 have C1:Hid (Calls prog 87 #[.pointer (some ⟨g.X,0,none⟩),.int .i64 2,.int .i64 (v / 256)] w fun e w'=>e=.returned (.tuple #[])/\InS g w' { m with rD:=v / 256 } full):=set_2 g m full _ w h
 have C2:Hid (∀ W,InS g W { m with rD:=v / 256 } full->Calls prog 87 #[.pointer (some ⟨g.X,0,none⟩),.int .i64 3,.int .i64 (v%256)] W fun e w'=>e=.returned (.tuple #[])/\InS g w' { m with rD:=v / 256,rE:=v%256 } full):=fun W hi=>set_3 g _ full _ W hi
 clear h hg
 go_enter func125,ntmps125
 go_wp2_with fail
 refine Calls.mono C1.out ?_
 rintro e w1 ⟨rfl,hi1⟩
 have H1:Hid (InS g w1 { m with rD:=v / 256 } full):=hi1
 clear hi1 C1
 go_wp2_with fail
 refine Calls.mono (C2.out _ H1.out) ?_
 rintro e w2 ⟨rfl,hi2⟩
 have H2:Hid (InS g w2 { m with rD:=v / 256,rE:=v%256 } full):=hi2
 clear hi2 C2 H1
 go_wp2
 go_end0
 exact ⟨rfl,H2.out⟩
theorem setp_2f (g:SG) (m:M) (full:Bool) (v:Int) (v0:0<=v) (v1:v<=65535) (w:World) (h:InS g w m full) (hg:Stpq.Good m) :
  Calls prog 125 #[.pointer (some ⟨g.X,0,none⟩),.int .i64 2,.int .i64 v,.bool false] w fun e w'=>e=.returned (.tuple #[])/\InS g w' { m with rH:=v / 256,rL:=v%256 } full:=by
 have t1:v.tdiv 256=v / 256:=Int.tdiv_eq_ediv_of_nonneg v0
 have t2:v.tmod 256=v%256:=Int.tmod_eq_emod_of_nonneg v0
 have t3:IntKind.i64.wrap (v / 256)=v / 256:=by rw [IntKind.wrap_i64];omega
 have C1:Hid (Calls prog 87 #[.pointer (some ⟨g.X,0,none⟩),.int .i64 4,.int .i64 (v / 256)] w fun e w'=>e=.returned (.tuple #[])/\InS g w' { m with rH:=v / 256 } full):=set_4 g m full _ w h
 have C2:Hid (∀ W,InS g W { m with rH:=v / 256 } full->Calls prog 87 #[.pointer (some ⟨g.X,0,none⟩),.int .i64 5,.int .i64 (v%256)] W fun e w'=>e=.returned (.tuple #[])/\InS g w' { m with rH:=v / 256,rL:=v%256 } full):=fun W hi=>set_5 g _ full _ W hi
 clear h hg
 go_enter func125,ntmps125
 go_wp2_with fail
 refine Calls.mono C1.out ?_
 rintro e w1 ⟨rfl,hi1⟩
 have H1:Hid (InS g w1 { m with rH:=v / 256 } full):=hi1
 clear hi1 C1
 go_wp2_with fail
 refine Calls.mono (C2.out _ H1.out) ?_
 rintro e w2 ⟨rfl,hi2⟩
 have H2:Hid (InS g w2 { m with rH:=v / 256,rL:=v%256 } full):=hi2
 clear hi2 C2 H1
 go_wp2
 go_end0
 exact ⟨rfl,H2.out⟩
theorem setp_2t (g:SG) (m:M) (full:Bool) (v:Int) (v0:0<=v) (v1:v<=65535) (w:World) (h:InS g w m full) (hg:Stpq.Good m) :
  Calls prog 125 #[.pointer (some ⟨g.X,0,none⟩),.int .i64 2,.int .i64 v,.bool true] w fun e w'=>e=.returned (.tuple #[])/\InS g w' { m with rH:=v / 256,rL:=v%256 } full:=by
 have t1:v.tdiv 256=v / 256:=Int.tdiv_eq_ediv_of_nonneg v0
 have t2:v.tmod 256=v%256:=Int.tmod_eq_emod_of_nonneg v0
 have t3:IntKind.i64.wrap (v / 256)=v / 256:=by rw [IntKind.wrap_i64];omega
 have C1:Hid (Calls prog 87 #[.pointer (some ⟨g.X,0,none⟩),.int .i64 4,.int .i64 (v / 256)] w fun e w'=>e=.returned (.tuple #[])/\InS g w' { m with rH:=v / 256 } full):=set_4 g m full _ w h
 have C2:Hid (∀ W,InS g W { m with rH:=v / 256 } full->Calls prog 87 #[.pointer (some ⟨g.X,0,none⟩),.int .i64 5,.int .i64 (v%256)] W fun e w'=>e=.returned (.tuple #[])/\InS g w' { m with rH:=v / 256,rL:=v%256 } full):=fun W hi=>set_5 g _ full _ W hi
 clear h hg
 go_enter func125,ntmps125
 go_wp2_with fail
 refine Calls.mono C1.out ?_
 rintro e w1 ⟨rfl,hi1⟩
 have H1:Hid (InS g w1 { m with rH:=v / 256 } full):=hi1
 clear hi1 C1
 go_wp2_with fail
 refine Calls.mono (C2.out _ H1.out) ?_
 rintro e w2 ⟨rfl,hi2⟩
 have H2:Hid (InS g w2 { m with rH:=v / 256,rL:=v%256 } full):=hi2
 clear hi2 C2 H1
 go_wp2
 go_end0
 exact ⟨rfl,H2.out⟩
theorem setp_3f (g:SG) (m:M) (full:Bool) (v:Int) (v0:0<=v) (v1:v<=65535) (w:World) (h:InS g w m full) (hg:Stpq.Good m) :
  Calls prog 125 #[.pointer (some ⟨g.X,0,none⟩),.int .i64 3,.int .i64 v,.bool false] w fun e w'=>e=.returned (.tuple #[])/\InS g w' { m with sp:=v } full:=by
 have HI:Hid (InS g w m full):=h
 clear h hg
 have q_sp:=HI.out.cell 8 _ rfl
 have f_sp:=HI.out.fro 8
 have HF:Hid (InS g (w.setCell ⟨g.X,8,none⟩ (.int .i64 v)) { m with sp:=v } full):=HI.out.s_sp v
 clear HI
 go_enter func125,ntmps125
 go_wp2
 go_end0
 exact ⟨rfl,HF.out⟩
theorem setp_3t (g:SG) (m:M) (full:Bool) (v:Int) (v0:0<=v) (v1:v<=65535) (w:World) (h:InS g w m full) (hg:Stpq.Good m) :
  Calls prog 125 #[.pointer (some ⟨g.X,0,none⟩),.int .i64 3,.int .i64 v,.bool true] w fun e w'=>e=.returned (.tuple #[])/\InS g w' { m with ra:=v / 256,rf:=v%256 / 16*16 } full:=by
 have t1:v.tdiv 256=v / 256:=Int.tdiv_eq_ediv_of_nonneg v0
 have t2:v.tmod 256=v%256:=Int.tmod_eq_emod_of_nonneg v0
 have t3:IntKind.i64.wrap (v / 256)=v / 256:=by rw [IntKind.wrap_i64];omega
 have t4:(v%256).tdiv 16=v%256 / 16:=Int.tdiv_eq_ediv_of_nonneg (by omega)
 have t5:IntKind.i64.wrap (v%256 / 16)=v%256 / 16:=by rw [IntKind.wrap_i64];omega
 have t6:IntKind.i64.wrap (v%256 / 16*16)=v%256 / 16*16:=by rw [IntKind.wrap_i64];omega
 have q0:=h.cell 0 _ rfl
 have q1:=h.cell 1 _ rfl
 have f0:=h.fro 0
 have f1:=h.fro 1
 have hl:=h.lt
 have HF:Hid (InS g ((w.setCell ⟨g.X,0,none⟩ (.int .i64 (v / 256))).setCell ⟨g.X,1,none⟩ (.int .i64 (v%256 / 16*16))) { m with ra:=v / 256,rf:=v%256 / 16*16 } full):=(h.s_ra _).s_rf _
 clear h hg
 go_enter func125,ntmps125
 go_wp2
 go_end0
 exact ⟨rfl,HF.out⟩
theorem setPairS (g:SG) (m:M) (full:Bool) (k v:Int) (w:World) (h:InS g w m full) (hg:Stpq.Good m) (k0:0<=k) (k1:k<=3) (v0:0<=v) (v1:v<=65535) :
  Calls prog 125 #[.pointer (some ⟨g.X,0,none⟩),.int .i64 k,.int .i64 v,.bool false] w fun e w'=>e=.returned (.tuple #[])/\InS g w' (setP m k v) full:=by
 rcases cases4 k0 k1 with rfl|rfl|rfl|rfl
 ·exact setp_0f g m full v v0 v1 w h hg
 ·exact setp_1f g m full v v0 v1 w h hg
 ·exact setp_2f g m full v v0 v1 w h hg
 ·exact setp_3f g m full v v0 v1 w h hg
theorem setPairQ (g:SG) (m:M) (full:Bool) (k v:Int) (w:World) (h:InS g w m full) (hg:Stpq.Good m) (k0:0<=k) (k1:k<=3) (v0:0<=v) (v1:v<=65535) :
  Calls prog 125 #[.pointer (some ⟨g.X,0,none⟩),.int .i64 k,.int .i64 v,.bool true] w fun e w'=>e=.returned (.tuple #[])/\InS g w' (setQ m k v) full:=by
 rcases cases4 k0 k1 with rfl|rfl|rfl|rfl
 ·exact setp_0t g m full v v0 v1 w h hg
 ·exact setp_1t g m full v v0 v1 w h hg
 ·exact setp_2t g m full v v0 v1 w h hg
 ·exact setp_3t g m full v v0 v1 w h hg
theorem pushS (g:SG) (m:M) (full:Bool) (v:Int) (v0:0<=v) (v1:v<=65535) (w:World) (h:InS g w m full) (hg:Stpq.Good m) :
  Calls prog 133 #[.pointer (some ⟨g.X,0,none⟩),.int .i64 v] w fun e w'=>e=.returned (.tuple #[])/\InS g w' (push ⟨m,full⟩ v).m (push ⟨m,full⟩ v).full:=by
 obtain ⟨s0,s1⟩:=hg.sp
 have t1:v.tdiv 256=v / 256:=Int.tdiv_eq_ediv_of_nonneg v0
 have t2:v.tmod 256=v%256:=Int.tmod_eq_emod_of_nonneg v0
 have t3:IntKind.i64.wrap (v / 256)=v / 256:=by rw [IntKind.wrap_i64];omega
 have d1:IntKind.i64.wrap (m.sp+65535)=m.sp+65535:=by rw [IntKind.wrap_i64];omega
 have d2:IntKind.i64.wrap (m.sp+65534)=m.sp+65534:=by rw [IntKind.wrap_i64];omega
 have d3:(m.sp+65534).tmod 65536=(m.sp+65534)%65536:=Int.tmod_eq_emod_of_nonneg (by omega)
 have c1:Hid (∀ W,InS g W m full->Calls prog 122 #[.pointer (some ⟨g.X,0,none⟩),.int .i64 (m.sp+65535),.int .i64 (v / 256)] W fun e w'=>e=.returned (.tuple #[])/\InS g w' (wr ⟨m,full⟩ (m.sp+65535) (v / 256)).m (wr ⟨m,full⟩ (m.sp+65535) (v / 256)).full):=fun W hi=>writeS g m full _ _ W hi hg.rt (by omega) (by omega) (by omega)
 have g1:=wr_good (s:=⟨m,full⟩) hg (m.sp+65535) (v / 256) (by omega) (by omega)
 unfold push
 simp only []
 generalize wr ⟨m,full⟩ (m.sp+65535) (v / 256)=t at *
 have c2:Hid (∀ W,InS g W t.m t.full->Calls prog 122 #[.pointer (some ⟨g.X,0,none⟩),.int .i64 (m.sp+65534),.int .i64 (v%256)] W fun e w'=>e=.returned (.tuple #[])/\InS g w' (wr t (m.sp+65534) (v%256)).m (wr t (m.sp+65534) (v%256)).full):=fun W hi=>writeS g t.m t.full _ _ W hi g1.rt (by omega) (by omega) (by omega)
 generalize wr t (m.sp+65534) (v%256)=t2 at *
 have q_0:=h.cell 8 _ rfl
 have HI:Hid (InS g w m full):=h
 clear h hg g1 s0 s1
 go_enter func133,ntmps133
 go_wp2_with fail
 refine Calls.mono (c1.out _ HI.out) ?_
 rintro e w1 ⟨rfl,hi1⟩
 have H1:Hid (InS g w1 t.m t.full):=hi1
 clear hi1 HI c1
 go_wp2_with fail
 refine Calls.mono (c2.out _ H1.out) ?_
 rintro e w2 ⟨rfl,hi1⟩
 have H2:Hid (InS g w2 t2.m t2.full):=hi1
 clear hi1 H1 c2
 have q_sp:=H2.out.cell 8 _ rfl
 have f_sp:=H2.out.fro 8
 have HF:Hid (InS g (w2.setCell ⟨g.X,8,none⟩ (.int .i64 ((m.sp+65534)%65536))) { t2.m with sp:=((m.sp+65534)%65536) } t2.full):=H2.out.s_sp ((m.sp+65534)%65536)
 clear H2
 go_wp2
 go_end0
 exact ⟨rfl,HF.out⟩
theorem popS (g:SG) (m:M) (full:Bool) (w:World) (h:InS g w m full) (hg:Stpq.Good m) :
  Calls prog 131 #[.pointer (some ⟨g.X,0,none⟩)] w fun e w'=>e=.returned (.int .i64 (popV m))/\InS g w' (popM m) full:=by
 obtain ⟨s0,s1⟩:=hg.sp
 have d1:IntKind.i64.wrap (m.sp+2)=m.sp+2:=by rw [IntKind.wrap_i64];omega
 have d2:(m.sp+2).tmod 65536=(m.sp+2)%65536:=Int.tmod_eq_emod_of_nonneg (by omega)
 have d3:IntKind.i64.wrap (m.sp+1)=m.sp+1:=by rw [IntKind.wrap_i64];omega
 have d4:(m.sp+1).tmod 65536=(m.sp+1)%65536:=Int.tmod_eq_emod_of_nonneg (by omega)
 have b1:=rd_bd m m.sp
 have b2:=rd_bd m ((m.sp+1)%65536)
 have e0:popV m=rd m m.sp+256*rd m ((m.sp+1)%65536):=rfl
 rw [e0]
 have q8:=h.cell 8 _ rfl
 have f8:=h.fro 8
 obtain ⟨u,hu⟩ : ∃ u,u=w.setCell ⟨g.X,8,none⟩ (.int .i64 ((m.sp+2)%65536)):=⟨_,rfl⟩
 have hI:InS g u (popM m) full:=by rw [hu];exact h.s_sp _
 have HI:Hid (InS g u (popM m) full):=hI
 obtain ⟨po,cap,hA⟩:=hI
 have c1:Rg 117 #[.agg (cellsM (popM m) po cap),.int .i64 m.sp] u (.int .i64 (rd m m.sp)):=rg fun W hb=>l6Read_M (popM m) po cap m.sp W (popM_good hg).rt s0
 have c2:Rg 117 #[.agg (cellsM (popM m) po cap),.int .i64 ((m.sp+1)%65536)] u (.int .i64 (rd m ((m.sp+1)%65536))):=rg fun W hb=>l6Read_M (popM m) po cap _ W (popM_good hg).rt (by omega)
 have hld:∀ d os,(loadVar 33 ⟨g.X,0,none⟩).run prog (Go.Sort.grow (redrawn u d) os)=.ok (.agg (cellsM (popM m) po cap)) (Go.Sort.grow (redrawn u d) os):=fun d os=>hA.load ((below_regrown u d os).block _ hA.lt)
 generalize rd m m.sp=x1 at *
 generalize rd m ((m.sp+1)%65536)=x2 at *
 have d5:IntKind.i64.wrap (256*x2)=256*x2:=by rw [IntKind.wrap_i64];omega
 have d6:IntKind.i64.wrap (x1+256*x2)=x1+256*x2:=by rw [IntKind.wrap_i64];omega
 generalize cellsM (popM m) po cap=cM at *
 clear h hg hA s0 s1 b1 b2 e0
 go_enter func131,ntmps131
 go_upto_region 3 with fail
 rw [<- hu]
 clear hu q8 f8
 refine wp_region_quiet_below (by kernel_rfl) (by kernel_rfl) ?_
 repeat (first|(go_big_quiet_step (first|with_reducible exact c1 _ _|with_reducible exact c2 _ _))|(refine wpQuiet_load (by rfl) 33 _ rfl ⟨g.X,0,none⟩ rfl _ (fun W hW=>by obtain ⟨⟨d,o⟩,rfl⟩:=hW;exact hld d o) ?_;simp only [Act.put,List.setIfInBounds_toArray,List.set_cons_succ,List.set_cons_zero]))
 refine wpQuiet_nil ?_
 intro _ hw'
 obtain ⟨⟨dq,osq⟩,hw''⟩:=hw'
 subst hw''
 have H2:=zHd (HI.out.below (below_regrown u dq osq))
 have hbg:=below_regrown u dq osq
 generalize Go.Sort.grow (redrawn u dq) osq=W2 at *
 clear HI c1 c2 hld
 go_wp2
 go_ret
 exact ⟨rfl,H2.out⟩
theorem callS (g:SG) (m:M) (full:Bool) (v:Int) (w:World) (h:InS g w m full) (hg:Stpq.Good m) :
  Calls prog 134 #[.pointer (some ⟨g.X,0,none⟩),.int .i64 v] w fun e w'=>e=.returned (.tuple #[])/\InS g w' (callE v ⟨m,full⟩).m (callE v ⟨m,full⟩).full:=by
 have c1:Hid (∀ W,InS g W m full->Calls prog 133 #[.pointer (some ⟨g.X,0,none⟩),.int .i64 m.pc] W fun e w'=>e=.returned (.tuple #[])/\InS g w' (push ⟨m,full⟩ m.pc).m (push ⟨m,full⟩ m.pc).full):=fun W hi=>pushS g m full _ hg.pc.1 hg.pc.2 W hi hg
 unfold callE
 simp only []
 generalize push ⟨m,full⟩ m.pc=t at *
 have q9:=h.cell 9 _ rfl
 have HI:Hid (InS g w m full):=h
 clear h hg
 go_enter func134,ntmps134
 go_wp2_with fail
 refine Calls.mono (c1.out _ HI.out) ?_
 rintro e w1 ⟨rfl,hi1⟩
 have H1:Hid (InS g w1 t.m t.full):=hi1
 clear hi1 HI c1
 have q_pc:=H1.out.cell 9 _ rfl
 have f_pc:=H1.out.fro 9
 have HF:Hid (InS g (w1.setCell ⟨g.X,9,none⟩ (.int .i64 v)) { t.m with pc:=v } t.full):=H1.out.s_pc v
 clear H1
 go_wp2
 go_end0
 exact ⟨rfl,HF.out⟩
theorem cond_0 (g:SG) (m:M) (full:Bool) (w:World) (h:InS g w m full) (hg:Stpq.Good m) :
  Calls prog 123 #[.pointer (some ⟨g.X,0,none⟩),.int .i64 0] w fun e w'=>e=.returned (.bool (decide (m.rf / 128%2=0)))/\Below w.heap.size w w':=by
 have hf:=hg.f
 have t1:m.rf.tdiv 128=m.rf / 128:=Int.tdiv_eq_ediv_of_nonneg hf.1
 have t2:(m.rf / 128).tmod 2=m.rf / 128%2:=Int.tmod_eq_emod_of_nonneg (by omega)
 have t3:IntKind.i64.wrap (m.rf / 128)=m.rf / 128:=by rw [IntKind.wrap_i64];omega
 have t4:(m.rf / 128%2 == 0)=decide (m.rf / 128%2=0):=by by_cases h:m.rf / 128%2=0 <;> simp [h]
 have q1:=h.cell 1 _ rfl
 clear h hg hf
 generalize m.rf / 128%2=r at *
 generalize decide (r=0)=bb at *
 go_enter func123,ntmps123
 go_wp2
 go_ret
 exact ⟨rfl,by repeat (with_reducible first|exact zRf|refine zGr ?_ _|refine below_drewN ?_ _|refine Below.drew ?_)⟩
theorem cond_1 (g:SG) (m:M) (full:Bool) (w:World) (h:InS g w m full) (hg:Stpq.Good m) :
  Calls prog 123 #[.pointer (some ⟨g.X,0,none⟩),.int .i64 1] w fun e w'=>e=.returned (.bool (decide (m.rf / 128%2=1)))/\Below w.heap.size w w':=by
 have hf:=hg.f
 have t1:m.rf.tdiv 128=m.rf / 128:=Int.tdiv_eq_ediv_of_nonneg hf.1
 have t2:(m.rf / 128).tmod 2=m.rf / 128%2:=Int.tmod_eq_emod_of_nonneg (by omega)
 have t3:IntKind.i64.wrap (m.rf / 128)=m.rf / 128:=by rw [IntKind.wrap_i64];omega
 have t4:(m.rf / 128%2 == 1)=decide (m.rf / 128%2=1):=by by_cases h:m.rf / 128%2=1 <;> simp [h]
 have q1:=h.cell 1 _ rfl
 clear h hg hf
 generalize m.rf / 128%2=r at *
 generalize decide (r=1)=bb at *
 go_enter func123,ntmps123
 go_wp2
 go_ret
 exact ⟨rfl,by repeat (with_reducible first|exact zRf|refine zGr ?_ _|refine below_drewN ?_ _|refine Below.drew ?_)⟩
theorem cond_2 (g:SG) (m:M) (full:Bool) (w:World) (h:InS g w m full) (hg:Stpq.Good m) :
  Calls prog 123 #[.pointer (some ⟨g.X,0,none⟩),.int .i64 2] w fun e w'=>e=.returned (.bool (decide (m.rf / 16%2=0)))/\Below w.heap.size w w':=by
 have hf:=hg.f
 have t1:m.rf.tdiv 16=m.rf / 16:=Int.tdiv_eq_ediv_of_nonneg hf.1
 have t2:(m.rf / 16).tmod 2=m.rf / 16%2:=Int.tmod_eq_emod_of_nonneg (by omega)
 have t3:IntKind.i64.wrap (m.rf / 16)=m.rf / 16:=by rw [IntKind.wrap_i64];omega
 have t4:(m.rf / 16%2 == 0)=decide (m.rf / 16%2=0):=by by_cases h:m.rf / 16%2=0 <;> simp [h]
 have q1:=h.cell 1 _ rfl
 clear h hg hf
 generalize m.rf / 16%2=r at *
 generalize decide (r=0)=bb at *
 go_enter func123,ntmps123
 go_wp2
 go_ret
 exact ⟨rfl,by repeat (with_reducible first|exact zRf|refine zGr ?_ _|refine below_drewN ?_ _|refine Below.drew ?_)⟩
theorem cond_3 (g:SG) (m:M) (full:Bool) (w:World) (h:InS g w m full) (hg:Stpq.Good m) :
  Calls prog 123 #[.pointer (some ⟨g.X,0,none⟩),.int .i64 3] w fun e w'=>e=.returned (.bool (decide (m.rf / 16%2=1)))/\Below w.heap.size w w':=by
 have hf:=hg.f
 have t1:m.rf.tdiv 16=m.rf / 16:=Int.tdiv_eq_ediv_of_nonneg hf.1
 have t2:(m.rf / 16).tmod 2=m.rf / 16%2:=Int.tmod_eq_emod_of_nonneg (by omega)
 have t3:IntKind.i64.wrap (m.rf / 16)=m.rf / 16:=by rw [IntKind.wrap_i64];omega
 have t4:(m.rf / 16%2 == 1)=decide (m.rf / 16%2=1):=by by_cases h:m.rf / 16%2=1 <;> simp [h]
 have q1:=h.cell 1 _ rfl
 clear h hg hf
 generalize m.rf / 16%2=r at *
 generalize decide (r=1)=bb at *
 go_enter func123,ntmps123
 go_wp2
 go_ret
 exact ⟨rfl,by repeat (with_reducible first|exact zRf|refine zGr ?_ _|refine below_drewN ?_ _|refine Below.drew ?_)⟩
theorem condS (g:SG) (m:M) (full:Bool) (k:Int) (w:World) (h:InS g w m full) (hg:Stpq.Good m) (k0:0<=k) (k1:k<=3) :
  Calls prog 123 #[.pointer (some ⟨g.X,0,none⟩),.int .i64 k] w fun e w'=>e=.returned (.bool (Stpp.cond m k))/\Below w.heap.size w w':=by
 rcases cases4 k0 k1 with rfl|rfl|rfl|rfl
 ·exact cond_0 g m full w h hg
 ·exact cond_1 g m full w h hg
 ·exact cond_2 g m full w h hg
 ·exact cond_3 g m full w h hg
end Stb
namespace CycX
open Signed (inB)
theorem both_all:∀ (c:Fin 256) (b:Bool),((Tmpl.tmplS (c.val:Int) b).size=0 ↔ (Shape.shapeR (c.val:Int) b).size=0)/\((Tmpl.tmplS (c.val:Int) b).size ≠ 0->b=false->(c.val:Int) / 64=3->¬ CycD.goneB ((c.val:Int) / 8%8) ((c.val:Int)%8)=true):=by decide +kernel
theorem both (code:Int) (cb:Bool) (h0:0<=code) (h1:code<=255):((Tmpl.tmplS code cb).size=0 ↔ (Shape.shapeR code cb).size=0)/\((Tmpl.tmplS code cb).size ≠ 0->cb=false->code / 64=3->¬ CycD.goneB (code / 8%8) (code%8)=true):=by
 have:=both_all ⟨code.toNat,by omega⟩ cb
 rwa [show ((⟨code.toNat,by omega⟩ : Fin 256).val:Int)=code by show ((code.toNat:Nat):Int)=code;omega] at this
theorem shape_in {code:Int} {cb:Bool} (h:inB code 0 255=true):Shape.shape code cb=Shape.shapeR code cb:=by unfold Shape.shape;rw [if_pos h]
theorem shape_out {code:Int} {cb:Bool} (h:inB code 0 255=false):Shape.shape code cb=⟨#[]⟩:=by unfold Shape.shape;rw [h];rfl
def Sp (code:Int) (cb t:Bool) (v:Int):Prop:=∀ w,Calls prog 91 #[.int .i64 code,.bool cb,.bool t] w fun e w'=>e=.returned (.int .i64 v)/\Below w.heap.size w w'
def Im (code:Int) (cb t:Bool) (v:Int):Prop:=∀ w,Calls prog 37 #[.int .i64 code,.bool cb,.bool t] w fun e w'=>e=.returned (.int .i64 v)/\Below w.heap.size w w'
theorem spec_none (code:Int) (cb t:Bool) (hl:∀ w,Calls prog 135 #[.int .i64 code,.bool cb] w fun e w'=>e=.returned (.int .i64 0)/\Below w.heap.size w w'):Sp code cb t 0:=fun w=>by
 go_enter func91,ntmps91
 go_wp2_with fail
 refine (hl _).mono ?_
 rintro e w1 ⟨rfl,b1⟩
 have B1:Hid (Below w.heap.size w w1):=b1
 clear b1 hl
 go_wp2
 go_ret
 exact ⟨rfl,B1.out⟩
theorem impl_none (code:Int) (cb t:Bool) (hs:(Shape.shape code cb).size=0):Im code cb t 0:=fun w=>by
 have c:=fun w=>Shape.shapeOf_any code cb w
 have he:=Leng.empty_yes hs
 generalize Shape.shape code cb=T at c he
 go_enter func37,ntmps37
 go_wp2_with fail
 refine (c _).mono ?_
 rintro e w1 ⟨rfl,b1⟩
 have B1:Hid (Below w.heap.size w w1):=b1
 clear b1 c
 go_wp2
 go_ret
 exact ⟨rfl,B1.out⟩
def cyc (code:Int) (cb t:Bool):Int:=if LenX.none? code cb=true then 0 else CycQ.cycV code cb t
theorem sp (code:Int) (cb t:Bool):Sp code cb t (cyc code cb t):=by
 cases hb:inB code 0 255
 ·have hn:LenX.none? code cb=true:=by unfold LenX.none?;rw [hb];rfl
  have hc:cyc code cb t=0:=by unfold cyc;rw [if_pos hn]
  rw [hc]
  refine spec_none code cb t (fun w=>(Leng.lengthOf_out code cb w hb).mono ?_)
  rintro e w' ⟨he,hw⟩
  exact ⟨he,by rw [hw];exact zRf⟩
 obtain ⟨h0,h1⟩:=of_decide_eq_true hb
 by_cases hz:(Tmpl.tmplS code cb).size=0
 ·have hn:LenX.none? code cb=true:=by unfold LenX.none?;rw [hz];simp
  have hc:cyc code cb t=0:=by unfold cyc;rw [if_pos hn]
  rw [hc]
  refine spec_none code cb t (fun w=>(Leng.lengthOf_any code cb w h0 h1).mono ?_)
  rintro e w' ⟨⟨n,rfl,hn,_⟩,hw⟩
  exact ⟨by rw [hn.2 hz],hw⟩
 ·have hn:LenX.none? code cb=false:=by unfold LenX.none?;rw [hb];simp [hz]
  have hc:cyc code cb t=CycQ.cycV code cb t:=by unfold cyc;rw [hn];rfl
  rw [hc]
  refine fun w=>CycO.spec_any code cb t w h0 h1 (fun w=>(Leng.lengthOf_any code cb w h0 h1).mono ?_)
  rintro e w' ⟨⟨n,rfl,hn,_⟩,hw⟩
  exact ⟨⟨n,rfl,fun h=>hz (hn.1 h)⟩,hw⟩
theorem same (code:Int) (cb t:Bool):Sp code cb t (cyc code cb t)/\Im code cb t (cyc code cb t):=by
 cases hb:inB code 0 255
 ·have hn:LenX.none? code cb=true:=by unfold LenX.none?;rw [hb];rfl
  have hc:cyc code cb t=0:=by unfold cyc;rw [if_pos hn]
  rw [hc]
  refine ⟨spec_none code cb t (fun w=>(Leng.lengthOf_out code cb w hb).mono ?_),impl_none code cb t ?_⟩
  ·rintro e w' ⟨he,hw⟩
   exact ⟨he,by rw [hw];exact zRf⟩
  ·rw [shape_out hb];rfl
 obtain ⟨h0,h1⟩:=of_decide_eq_true hb
 obtain ⟨h2,h3⟩:=both code cb h0 h1
 by_cases hz:(Tmpl.tmplS code cb).size=0
 ·have hn:LenX.none? code cb=true:=by unfold LenX.none?;rw [hz];simp
  have hc:cyc code cb t=0:=by unfold cyc;rw [if_pos hn]
  rw [hc]
  refine ⟨spec_none code cb t (fun w=>(Leng.lengthOf_any code cb w h0 h1).mono ?_),impl_none code cb t ?_⟩
  ·rintro e w' ⟨⟨n,rfl,hn,_⟩,hw⟩
   exact ⟨by rw [hn.2 hz],hw⟩
  ·rw [shape_in hb];exact h2.1 hz
 ·have hn:LenX.none? code cb=false:=by unfold LenX.none?;rw [hb];simp [hz]
  have hc:cyc code cb t=CycQ.cycV code cb t:=by unfold cyc;rw [hn];rfl
  rw [hc]
  refine ⟨fun w=>CycO.spec_any code cb t w h0 h1 (fun w=>(Leng.lengthOf_any code cb w h0 h1).mono ?_),fun w=>CycP.impl_any code cb t w h0 h1 (fun w=>(Shape.shapeOf_any code cb w).mono ?_) (h3 hz)⟩
  ·rintro e w' ⟨⟨n,rfl,hn,_⟩,hw⟩
   exact ⟨⟨n,rfl,fun h=>hz (hn.1 h)⟩,hw⟩
  ·rintro e w' ⟨rfl,hw⟩
   exact ⟨⟨_,rfl,fun h=>hz (h2.2 (by rwa [shape_in hb] at h))⟩,hw⟩
theorem range_all:∀ (c:Fin 256) (b t:Bool),LenX.none? (c.val:Int) b=false->0<CycQ.cycV (c.val:Int) b t/\CycQ.cycV (c.val:Int) b t<7/\CycQ.cycV (c.val:Int) b false<=CycQ.cycV (c.val:Int) b true:=by decide +kernel
theorem range (code:Int) (cb t:Bool) (h0:0<=code) (h1:code<=255) (h:LenX.none? code cb=false):0<cyc code cb t/\cyc code cb t<7/\cyc code cb false<=cyc code cb true:=by
 have:=range_all ⟨code.toNat,by omega⟩ cb t
 rw [show ((⟨code.toNat,by omega⟩ : Fin 256).val:Int)=code by show ((code.toNat:Nat):Int)=code;omega] at this
 unfold cyc
 rw [h]
 exact this h
theorem none_at (code:Int) (cb t:Bool) (h:LenX.none? code cb=true):cyc code cb t=0:=by unfold cyc;rw [if_pos h]
end CycX
end Go.Proofs.YtnjolmbdbgbmbaaGreatDoor
