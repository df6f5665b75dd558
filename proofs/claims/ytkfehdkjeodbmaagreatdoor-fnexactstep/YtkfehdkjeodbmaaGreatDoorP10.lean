/-
  Contracts and facts of ours, joined: Stb, Tabs, Hole.
-/
import Derived.Test.YtkfehdkjeodbmaaGreatDoorP09
import Derived.Test.YtkfehdkjeodbmaaGreatDoorP07
import Derived.Test.YtkfehdkjeodbmaaGreatDoorP06
import Derived.Test.YtkfehdkjeodbmaaGreatDoorP00
import Derived.Test.YtkfehdkjeodbmaaGreatDoorRows
import Derived.WalkKit
import Derived.ProofKit
import Derived.OpenShut
import Derived.ShutString
import Derived.Outline
import Derived.WalkLawsBesides
import Derived.Deep.RegionWith
import Derived.LoopN
import Derived.Laws.BytesArg
import Derived.Deep.QuietTactic
import Derived.BigQuiet
set_option linter.unusedVariables false
set_option linter.unusedSimpArgs false
set_option maxRecDepth 20000
set_option maxHeartbeats 8000000
open Go.ChangeShapes Go.WideShapes Go.ChangeAt Go.RowKit
open Go.Proofs.Tryz
namespace Go.Proofs.YtkfehdkjeodbmaaGreatDoor.Stb
open Go.Deep
open Signed (inB sgn ret_int ret_bool)
open Reck ReckS ReckM ReckD TurnS
open Busw Busx Busy Stpp Stpq Stps Sta
theorem pair_0f (g:SG) (m:M) (full:Bool) (w:World) (h:InS g w m full) (hg:Stpq.Good m) :
  Calls prog 81 #[.pointer (some ⟨g.X,0,none⟩),.int .i64 0,.bool false] w fun e w'=>e=.returned (.int .i64 (256*m.rB+m.rC))/\Below w.heap.size w w':=by
 have ha:=hg.b
 have hb:=hg.c
 have d1:IntKind.i64.wrap (256*m.rB)=256*m.rB:=by rw [IntKind.wrap_i64];omega
 have d2:IntKind.i64.wrap (256*m.rB+m.rC)=256*m.rB+m.rC:=by rw [IntKind.wrap_i64];omega
 have C1:Hid (∀ W,Below w.heap.size w W->Calls prog 51 #[.pointer (some ⟨g.X,0,none⟩),.int .i64 0] W fun e w'=>e=.returned (.int .i64 m.rB)/\Below W.heap.size W w'):=fun W hb=>reg_0 g m full W (h.below hb)
 have C2:Hid (∀ W,Below w.heap.size w W->Calls prog 51 #[.pointer (some ⟨g.X,0,none⟩),.int .i64 1] W fun e w'=>e=.returned (.int .i64 m.rC)/\Below W.heap.size W w'):=fun W hb=>reg_1 g m full W (h.below hb)
 have q_ra:=h.cell 0 _ rfl
 have q_rf:=h.cell 1 _ rfl
 have q_rB:=h.cell 2 _ rfl
 have q_rC:=h.cell 3 _ rfl
 have q_rD:=h.cell 4 _ rfl
 have q_rE:=h.cell 5 _ rfl
 have q_rH:=h.cell 6 _ rfl
 have q_rL:=h.cell 7 _ rfl
 have q_sp:=h.cell 8 _ rfl
 have q_pc:=h.cell 9 _ rfl
 have q_ime:=h.cell 10 _ rfl
 have q_hal:=h.cell 11 _ rfl
 have hl:=h.lt
 clear h hg ha hb
 go_enter func81,ntmps81
 go_wp2_with fail
 refine Calls.mono (C1.out _ (by repeat (with_reducible first|exact zRf|refine zGr ?_ _|refine below_drewN ?_ _|refine Below.drew ?_))) ?_
 rintro e w1 ⟨rfl,hb1⟩
 have H1:Hid (Below w.heap.size w w1):=after (by repeat (with_reducible first|exact zRf|refine zGr ?_ _|refine below_drewN ?_ _|refine Below.drew ?_)) hb1
 clear hb1 C1
 go_wp2_with fail
 refine Calls.mono (C2.out _ H1.out) ?_
 rintro e w2 ⟨rfl,hb2⟩
 have H2:Hid (Below w.heap.size w w2):=after H1.out hb2
 clear hb2 C2 H1
 go_wp2
 go_ret
 exact ⟨rfl,H2.out⟩
theorem pair_0t (g:SG) (m:M) (full:Bool) (w:World) (h:InS g w m full) (hg:Stpq.Good m) :
  Calls prog 81 #[.pointer (some ⟨g.X,0,none⟩),.int .i64 0,.bool true] w fun e w'=>e=.returned (.int .i64 (256*m.rB+m.rC))/\Below w.heap.size w w':=by
 have ha:=hg.b
 have hb:=hg.c
 have d1:IntKind.i64.wrap (256*m.rB)=256*m.rB:=by rw [IntKind.wrap_i64];omega
 have d2:IntKind.i64.wrap (256*m.rB+m.rC)=256*m.rB+m.rC:=by rw [IntKind.wrap_i64];omega
 have C1:Hid (∀ W,Below w.heap.size w W->Calls prog 51 #[.pointer (some ⟨g.X,0,none⟩),.int .i64 0] W fun e w'=>e=.returned (.int .i64 m.rB)/\Below W.heap.size W w'):=fun W hb=>reg_0 g m full W (h.below hb)
 have C2:Hid (∀ W,Below w.heap.size w W->Calls prog 51 #[.pointer (some ⟨g.X,0,none⟩),.int .i64 1] W fun e w'=>e=.returned (.int .i64 m.rC)/\Below W.heap.size W w'):=fun W hb=>reg_1 g m full W (h.below hb)
 have q_ra:=h.cell 0 _ rfl
 have q_rf:=h.cell 1 _ rfl
 have q_rB:=h.cell 2 _ rfl
 have q_rC:=h.cell 3 _ rfl
 have q_rD:=h.cell 4 _ rfl
 have q_rE:=h.cell 5 _ rfl
 have q_rH:=h.cell 6 _ rfl
 have q_rL:=h.cell 7 _ rfl
 have q_sp:=h.cell 8 _ rfl
 have q_pc:=h.cell 9 _ rfl
 have q_ime:=h.cell 10 _ rfl
 have q_hal:=h.cell 11 _ rfl
 have hl:=h.lt
 clear h hg ha hb
 go_enter func81,ntmps81
 go_wp2_with fail
 refine Calls.mono (C1.out _ (by repeat (with_reducible first|exact zRf|refine zGr ?_ _|refine below_drewN ?_ _|refine Below.drew ?_))) ?_
 rintro e w1 ⟨rfl,hb1⟩
 have H1:Hid (Below w.heap.size w w1):=after (by repeat (with_reducible first|exact zRf|refine zGr ?_ _|refine below_drewN ?_ _|refine Below.drew ?_)) hb1
 clear hb1 C1
 go_wp2_with fail
 refine Calls.mono (C2.out _ H1.out) ?_
 rintro e w2 ⟨rfl,hb2⟩
 have H2:Hid (Below w.heap.size w w2):=after H1.out hb2
 clear hb2 C2 H1
 go_wp2
 go_ret
 exact ⟨rfl,H2.out⟩
theorem pair_1f (g:SG) (m:M) (full:Bool) (w:World) (h:InS g w m full) (hg:Stpq.Good m) :
  Calls prog 81 #[.pointer (some ⟨g.X,0,none⟩),.int .i64 1,.bool false] w fun e w'=>e=.returned (.int .i64 (256*m.rD+m.rE))/\Below w.heap.size w w':=by
 have ha:=hg.d
 have hb:=hg.e
 have d1:IntKind.i64.wrap (256*m.rD)=256*m.rD:=by rw [IntKind.wrap_i64];omega
 have d2:IntKind.i64.wrap (256*m.rD+m.rE)=256*m.rD+m.rE:=by rw [IntKind.wrap_i64];omega
 have C1:Hid (∀ W,Below w.heap.size w W->Calls prog 51 #[.pointer (some ⟨g.X,0,none⟩),.int .i64 2] W fun e w'=>e=.returned (.int .i64 m.rD)/\Below W.heap.size W w'):=fun W hb=>reg_2 g m full W (h.below hb)
 have C2:Hid (∀ W,Below w.heap.size w W->Calls prog 51 #[.pointer (some ⟨g.X,0,none⟩),.int .i64 3] W fun e w'=>e=.returned (.int .i64 m.rE)/\Below W.heap.size W w'):=fun W hb=>reg_3 g m full W (h.below hb)
 have q_ra:=h.cell 0 _ rfl
 have q_rf:=h.cell 1 _ rfl
 have q_rB:=h.cell 2 _ rfl
 have q_rC:=h.cell 3 _ rfl
 have q_rD:=h.cell 4 _ rfl
 have q_rE:=h.cell 5 _ rfl
 have q_rH:=h.cell 6 _ rfl
 have q_rL:=h.cell 7 _ rfl
 have q_sp:=h.cell 8 _ rfl
 have q_pc:=h.cell 9 _ rfl
 have q_ime:=h.cell 10 _ rfl
 have q_hal:=h.cell 11 _ rfl
 have hl:=h.lt
 clear h hg ha hb
 go_enter func81,ntmps81
 go_wp2_with fail
 refine Calls.mono (C1.out _ (by repeat (with_reducible first|exact zRf|refine zGr ?_ _|refine below_drewN ?_ _|refine Below.drew ?_))) ?_
 rintro e w1 ⟨rfl,hb1⟩
 have H1:Hid (Below w.heap.size w w1):=after (by repeat (with_reducible first|exact zRf|refine zGr ?_ _|refine below_drewN ?_ _|refine Below.drew ?_)) hb1
 clear hb1 C1
 go_wp2_with fail
 refine Calls.mono (C2.out _ H1.out) ?_
 rintro e w2 ⟨rfl,hb2⟩
 have H2:Hid (Below w.heap.size w w2):=after H1.out hb2
 clear hb2 C2 H1
 go_wp2
 go_ret
 exact ⟨rfl,H2.out⟩
theorem pair_1t (g:SG) (m:M) (full:Bool) (w:World) (h:InS g w m full) (hg:Stpq.Good m) :
  Calls prog 81 #[.pointer (some ⟨g.X,0,none⟩),.int .i64 1,.bool true] w fun e w'=>e=.returned (.int .i64 (256*m.rD+m.rE))/\Below w.heap.size w w':=by
 have ha:=hg.d
 have hb:=hg.e
 have d1:IntKind.i64.wrap (256*m.rD)=256*m.rD:=by rw [IntKind.wrap_i64];omega
 have d2:IntKind.i64.wrap (256*m.rD+m.rE)=256*m.rD+m.rE:=by rw [IntKind.wrap_i64];omega
 have C1:Hid (∀ W,Below w.heap.size w W->Calls prog 51 #[.pointer (some ⟨g.X,0,none⟩),.int .i64 2] W fun e w'=>e=.returned (.int .i64 m.rD)/\Below W.heap.size W w'):=fun W hb=>reg_2 g m full W (h.below hb)
 have C2:Hid (∀ W,Below w.heap.size w W->Calls prog 51 #[.pointer (some ⟨g.X,0,none⟩),.int .i64 3] W fun e w'=>e=.returned (.int .i64 m.rE)/\Below W.heap.size W w'):=fun W hb=>reg_3 g m full W (h.below hb)
 have q_ra:=h.cell 0 _ rfl
 have q_rf:=h.cell 1 _ rfl
 have q_rB:=h.cell 2 _ rfl
 have q_rC:=h.cell 3 _ rfl
 have q_rD:=h.cell 4 _ rfl
 have q_rE:=h.cell 5 _ rfl
 have q_rH:=h.cell 6 _ rfl
 have q_rL:=h.cell 7 _ rfl
 have q_sp:=h.cell 8 _ rfl
 have q_pc:=h.cell 9 _ rfl
 have q_ime:=h.cell 10 _ rfl
 have q_hal:=h.cell 11 _ rfl
 have hl:=h.lt
 clear h hg ha hb
 go_enter func81,ntmps81
 go_wp2_with fail
 refine Calls.mono (C1.out _ (by repeat (with_reducible first|exact zRf|refine zGr ?_ _|refine below_drewN ?_ _|refine Below.drew ?_))) ?_
 rintro e w1 ⟨rfl,hb1⟩
 have H1:Hid (Below w.heap.size w w1):=after (by repeat (with_reducible first|exact zRf|refine zGr ?_ _|refine below_drewN ?_ _|refine Below.drew ?_)) hb1
 clear hb1 C1
 go_wp2_with fail
 refine Calls.mono (C2.out _ H1.out) ?_
 rintro e w2 ⟨rfl,hb2⟩
 have H2:Hid (Below w.heap.size w w2):=after H1.out hb2
 clear hb2 C2 H1
 go_wp2
 go_ret
 exact ⟨rfl,H2.out⟩
theorem pair_2f (g:SG) (m:M) (full:Bool) (w:World) (h:InS g w m full) (hg:Stpq.Good m) :
  Calls prog 81 #[.pointer (some ⟨g.X,0,none⟩),.int .i64 2,.bool false] w fun e w'=>e=.returned (.int .i64 (256*m.rH+m.rL))/\Below w.heap.size w w':=by
 have ha:=hg.h
 have hb:=hg.l
 have d1:IntKind.i64.wrap (256*m.rH)=256*m.rH:=by rw [IntKind.wrap_i64];omega
 have d2:IntKind.i64.wrap (256*m.rH+m.rL)=256*m.rH+m.rL:=by rw [IntKind.wrap_i64];omega
 have C1:Hid (∀ W,Below w.heap.size w W->Calls prog 51 #[.pointer (some ⟨g.X,0,none⟩),.int .i64 4] W fun e w'=>e=.returned (.int .i64 m.rH)/\Below W.heap.size W w'):=fun W hb=>reg_4 g m full W (h.below hb)
 have C2:Hid (∀ W,Below w.heap.size w W->Calls prog 51 #[.pointer (some ⟨g.X,0,none⟩),.int .i64 5] W fun e w'=>e=.returned (.int .i64 m.rL)/\Below W.heap.size W w'):=fun W hb=>reg_5 g m full W (h.below hb)
 have q_ra:=h.cell 0 _ rfl
 have q_rf:=h.cell 1 _ rfl
 have q_rB:=h.cell 2 _ rfl
 have q_rC:=h.cell 3 _ rfl
 have q_rD:=h.cell 4 _ rfl
 have q_rE:=h.cell 5 _ rfl
 have q_rH:=h.cell 6 _ rfl
 have q_rL:=h.cell 7 _ rfl
 have q_sp:=h.cell 8 _ rfl
 have q_pc:=h.cell 9 _ rfl
 have q_ime:=h.cell 10 _ rfl
 have q_hal:=h.cell 11 _ rfl
 have hl:=h.lt
 clear h hg ha hb
 go_enter func81,ntmps81
 go_wp2_with fail
 refine Calls.mono (C1.out _ (by repeat (with_reducible first|exact zRf|refine zGr ?_ _|refine below_drewN ?_ _|refine Below.drew ?_))) ?_
 rintro e w1 ⟨rfl,hb1⟩
 have H1:Hid (Below w.heap.size w w1):=after (by repeat (with_reducible first|exact zRf|refine zGr ?_ _|refine below_drewN ?_ _|refine Below.drew ?_)) hb1
 clear hb1 C1
 go_wp2_with fail
 refine Calls.mono (C2.out _ H1.out) ?_
 rintro e w2 ⟨rfl,hb2⟩
 have H2:Hid (Below w.heap.size w w2):=after H1.out hb2
 clear hb2 C2 H1
 go_wp2
 go_ret
 exact ⟨rfl,H2.out⟩
theorem pair_2t (g:SG) (m:M) (full:Bool) (w:World) (h:InS g w m full) (hg:Stpq.Good m) :
  Calls prog 81 #[.pointer (some ⟨g.X,0,none⟩),.int .i64 2,.bool true] w fun e w'=>e=.returned (.int .i64 (256*m.rH+m.rL))/\Below w.heap.size w w':=by
 have ha:=hg.h
 have hb:=hg.l
 have d1:IntKind.i64.wrap (256*m.rH)=256*m.rH:=by rw [IntKind.wrap_i64];omega
 have d2:IntKind.i64.wrap (256*m.rH+m.rL)=256*m.rH+m.rL:=by rw [IntKind.wrap_i64];omega
 have C1:Hid (∀ W,Below w.heap.size w W->Calls prog 51 #[.pointer (some ⟨g.X,0,none⟩),.int .i64 4] W fun e w'=>e=.returned (.int .i64 m.rH)/\Below W.heap.size W w'):=fun W hb=>reg_4 g m full W (h.below hb)
 have C2:Hid (∀ W,Below w.heap.size w W->Calls prog 51 #[.pointer (some ⟨g.X,0,none⟩),.int .i64 5] W fun e w'=>e=.returned (.int .i64 m.rL)/\Below W.heap.size W w'):=fun W hb=>reg_5 g m full W (h.below hb)
 have q_ra:=h.cell 0 _ rfl
 have q_rf:=h.cell 1 _ rfl
 have q_rB:=h.cell 2 _ rfl
 have q_rC:=h.cell 3 _ rfl
 have q_rD:=h.cell 4 _ rfl
 have q_rE:=h.cell 5 _ rfl
 have q_rH:=h.cell 6 _ rfl
 have q_rL:=h.cell 7 _ rfl
 have q_sp:=h.cell 8 _ rfl
 have q_pc:=h.cell 9 _ rfl
 have q_ime:=h.cell 10 _ rfl
 have q_hal:=h.cell 11 _ rfl
 have hl:=h.lt
 clear h hg ha hb
 go_enter func81,ntmps81
 go_wp2_with fail
 refine Calls.mono (C1.out _ (by repeat (with_reducible first|exact zRf|refine zGr ?_ _|refine below_drewN ?_ _|refine Below.drew ?_))) ?_
 rintro e w1 ⟨rfl,hb1⟩
 have H1:Hid (Below w.heap.size w w1):=after (by repeat (with_reducible first|exact zRf|refine zGr ?_ _|refine below_drewN ?_ _|refine Below.drew ?_)) hb1
 clear hb1 C1
 go_wp2_with fail
 refine Calls.mono (C2.out _ H1.out) ?_
 rintro e w2 ⟨rfl,hb2⟩
 have H2:Hid (Below w.heap.size w w2):=after H1.out hb2
 clear hb2 C2 H1
 go_wp2
 go_ret
 exact ⟨rfl,H2.out⟩
theorem pair_3f (g:SG) (m:M) (full:Bool) (w:World) (h:InS g w m full) (hg:Stpq.Good m) :
  Calls prog 81 #[.pointer (some ⟨g.X,0,none⟩),.int .i64 3,.bool false] w fun e w'=>e=.returned (.int .i64 (m.sp))/\Below w.heap.size w w':=by
 have q_ra:=h.cell 0 _ rfl
 have q_rf:=h.cell 1 _ rfl
 have q_rB:=h.cell 2 _ rfl
 have q_rC:=h.cell 3 _ rfl
 have q_rD:=h.cell 4 _ rfl
 have q_rE:=h.cell 5 _ rfl
 have q_rH:=h.cell 6 _ rfl
 have q_rL:=h.cell 7 _ rfl
 have q_sp:=h.cell 8 _ rfl
 have q_pc:=h.cell 9 _ rfl
 have q_ime:=h.cell 10 _ rfl
 have q_hal:=h.cell 11 _ rfl
 have hl:=h.lt
 clear h hg
 go_enter func81,ntmps81
 go_wp2
 go_ret
 exact ⟨rfl,by repeat (with_reducible first|exact zRf|refine zGr ?_ _|refine below_drewN ?_ _|refine Below.drew ?_)⟩
theorem pair_3t (g:SG) (m:M) (full:Bool) (w:World) (h:InS g w m full) (hg:Stpq.Good m) :
  Calls prog 81 #[.pointer (some ⟨g.X,0,none⟩),.int .i64 3,.bool true] w fun e w'=>e=.returned (.int .i64 (256*m.ra+m.rf))/\Below w.heap.size w w':=by
 have ha:=hg.a
 have hb:=hg.f
 have d1:IntKind.i64.wrap (256*m.ra)=256*m.ra:=by rw [IntKind.wrap_i64];omega
 have d2:IntKind.i64.wrap (256*m.ra+m.rf)=256*m.ra+m.rf:=by rw [IntKind.wrap_i64];omega
 have q_ra:=h.cell 0 _ rfl
 have q_rf:=h.cell 1 _ rfl
 have q_rB:=h.cell 2 _ rfl
 have q_rC:=h.cell 3 _ rfl
 have q_rD:=h.cell 4 _ rfl
 have q_rE:=h.cell 5 _ rfl
 have q_rH:=h.cell 6 _ rfl
 have q_rL:=h.cell 7 _ rfl
 have q_sp:=h.cell 8 _ rfl
 have q_pc:=h.cell 9 _ rfl
 have q_ime:=h.cell 10 _ rfl
 have q_hal:=h.cell 11 _ rfl
 have hl:=h.lt
 clear h hg ha hb
 go_enter func81,ntmps81
 go_wp2
 go_ret
 exact ⟨rfl,by repeat (with_reducible first|exact zRf|refine zGr ?_ _|refine below_drewN ?_ _|refine Below.drew ?_)⟩
theorem cases4 {n:Int} (n0:0<=n) (n1:n<=3):n=0 \/ n=1 \/ n=2 \/ n=3:=by omega
theorem pairS (g:SG) (m:M) (full:Bool) (k:Int) (w:World) (h:InS g w m full) (hg:Stpq.Good m) (k0:0<=k) (k1:k<=3) :
  Calls prog 81 #[.pointer (some ⟨g.X,0,none⟩),.int .i64 k,.bool false] w fun e w'=>e=.returned (.int .i64 (pr m k))/\Below w.heap.size w w':=by
 rcases cases4 k0 k1 with rfl|rfl|rfl|rfl
 ·exact pair_0f g m full w h hg
 ·exact pair_1f g m full w h hg
 ·exact pair_2f g m full w h hg
 ·exact pair_3f g m full w h hg
theorem pairQ (g:SG) (m:M) (full:Bool) (k:Int) (w:World) (h:InS g w m full) (hg:Stpq.Good m) (k0:0<=k) (k1:k<=3) :
  Calls prog 81 #[.pointer (some ⟨g.X,0,none⟩),.int .i64 k,.bool true] w fun e w'=>e=.returned (.int .i64 (prQ m k))/\Below w.heap.size w w':=by
 rcases cases4 k0 k1 with rfl|rfl|rfl|rfl
 ·exact pair_0t g m full w h hg
 ·exact pair_1t g m full w h hg
 ·exact pair_2t g m full w h hg
 ·exact pair_3t g m full w h hg
theorem setp_0f (g:SG) (m:M) (full:Bool) (v:Int) (v0:0<=v) (v1:v<=65535) (w:World) (h:InS g w m full) (hg:Stpq.Good m) :
  Calls prog 78 #[.pointer (some ⟨g.X,0,none⟩),.int .i64 0,.int .i64 v,.bool false] w fun e w'=>e=.returned (.tuple #[])/\InS g w' { m with rB:=v / 256,rC:=v%256 } full:=by
 have t1:v.tdiv 256=v / 256:=Int.tdiv_eq_ediv_of_nonneg v0
 have t2:v.tmod 256=v%256:=Int.tmod_eq_emod_of_nonneg v0
 have t3:IntKind.i64.wrap (v / 256)=v / 256:=by rw [IntKind.wrap_i64];omega
 have C1:Hid (Calls prog 50 #[.pointer (some ⟨g.X,0,none⟩),.int .i64 0,.int .i64 (v / 256)] w fun e w'=>e=.returned (.tuple #[])/\InS g w' { m with rB:=v / 256 } full):=set_0 g m full _ w h
 have C2:Hid (∀ W,InS g W { m with rB:=v / 256 } full->Calls prog 50 #[.pointer (some ⟨g.X,0,none⟩),.int .i64 1,.int .i64 (v%256)] W fun e w'=>e=.returned (.tuple #[])/\InS g w' { m with rB:=v / 256,rC:=v%256 } full):=fun W hi=>set_1 g _ full _ W hi
 clear h hg
 go_enter func78,ntmps78
 go_wp2_with fail
 refine Calls.mono C1.out ?_
 rintro e w1 ⟨rfl,hi1⟩
 have H1:Hid (InS g w1 { m with rB:=v / 256 } full):=hi1
 clear hi1 C1
 go_wp2_with fail
 refine Calls.mono (C2.out _ H1.out) ?_
 rintro e w2 ⟨rfl,hi2⟩
 have H2:Hid (InS g w2 { m with rB:=v / 256,rC:=v%256 } full):=hi2
 clear hi2 C2 H1
 go_wp2
 go_end0
 exact ⟨rfl,H2.out⟩
theorem setp_0t (g:SG) (m:M) (full:Bool) (v:Int) (v0:0<=v) (v1:v<=65535) (w:World) (h:InS g w m full) (hg:Stpq.Good m) :
  Calls prog 78 #[.pointer (some ⟨g.X,0,none⟩),.int .i64 0,.int .i64 v,.bool true] w fun e w'=>e=.returned (.tuple #[])/\InS g w' { m with rB:=v / 256,rC:=v%256 } full:=by
 have t1:v.tdiv 256=v / 256:=Int.tdiv_eq_ediv_of_nonneg v0
 have t2:v.tmod 256=v%256:=Int.tmod_eq_emod_of_nonneg v0
 have t3:IntKind.i64.wrap (v / 256)=v / 256:=by rw [IntKind.wrap_i64];omega
 have C1:Hid (Calls prog 50 #[.pointer (some ⟨g.X,0,none⟩),.int .i64 0,.int .i64 (v / 256)] w fun e w'=>e=.returned (.tuple #[])/\InS g w' { m with rB:=v / 256 } full):=set_0 g m full _ w h
 have C2:Hid (∀ W,InS g W { m with rB:=v / 256 } full->Calls prog 50 #[.pointer (some ⟨g.X,0,none⟩),.int .i64 1,.int .i64 (v%256)] W fun e w'=>e=.returned (.tuple #[])/\InS g w' { m with rB:=v / 256,rC:=v%256 } full):=fun W hi=>set_1 g _ full _ W hi
 clear h hg
 go_enter func78,ntmps78
 go_wp2_with fail
 refine Calls.mono C1.out ?_
 rintro e w1 ⟨rfl,hi1⟩
 have H1:Hid (InS g w1 { m with rB:=v / 256 } full):=hi1
 clear hi1 C1
 go_wp2_with fail
 refine Calls.mono (C2.out _ H1.out) ?_
 rintro e w2 ⟨rfl,hi2⟩
 have H2:Hid (InS g w2 { m with rB:=v / 256,rC:=v%256 } full):=hi2
 clear hi2 C2 H1
 go_wp2
 go_end0
 exact ⟨rfl,H2.out⟩
theorem setp_1f (g:SG) (m:M) (full:Bool) (v:Int) (v0:0<=v) (v1:v<=65535) (w:World) (h:InS g w m full) (hg:Stpq.Good m) :
  Calls prog 78 #[.pointer (some ⟨g.X,0,none⟩),.int .i64 1,.int .i64 v,.bool false] w fun e w'=>e=.returned (.tuple #[])/\InS g w' { m with rD:=v / 256,rE:=v%256 } full:=by
 have t1:v.tdiv 256=v / 256:=Int.tdiv_eq_ediv_of_nonneg v0
 have t2:v.tmod 256=v%256:=Int.tmod_eq_emod_of_nonneg v0
 have t3:IntKind.i64.wrap (v / 256)=v / 256:=by rw [IntKind.wrap_i64];omega
 have C1:Hid (Calls prog 50 #[.pointer (some ⟨g.X,0,none⟩),.int .i64 2,.int .i64 (v / 256)] w fun e w'=>e=.returned (.tuple #[])/\InS g w' { m with rD:=v / 256 } full):=set_2 g m full _ w h
 have C2:Hid (∀ W,InS g W { m with rD:=v / 256 } full->Calls prog 50 #[.pointer (some ⟨g.X,0,none⟩),.int .i64 3,.int .i64 (v%256)] W fun e w'=>e=.returned (.tuple #[])/\InS g w' { m with rD:=v / 256,rE:=v%256 } full):=fun W hi=>set_3 g _ full _ W hi
 clear h hg
 go_enter func78,ntmps78
 go_wp2_with fail
 refine Calls.mono C1.out ?_
 rintro e w1 ⟨rfl,hi1⟩
 have H1:Hid (InS g w1 { m with rD:=v / 256 } full):=hi1
 clear hi1 C1
 go_wp2_with fail
 refine Calls.mono (C2.out _ H1.out) ?_
 rintro e w2 ⟨rfl,hi2⟩
 have H2:Hid (InS g w2 { m with rD:=v / 256,rE:=v%256 } full):=hi2
 clear hi2 C2 H1
 go_wp2
 go_end0
 exact ⟨rfl,H2.out⟩
theorem setp_1t (g:SG) (m:M) (full:Bool) (v:Int) (v0:0<=v) (v1:v<=65535) (w:World) (h:InS g w m full) (hg:Stpq.Good m) :
  Calls prog 78 #[.pointer (some ⟨g.X,0,none⟩),.int .i64 1,.int .i64 v,.bool true] w fun e w'=>e=.returned (.tuple #[])/\InS g w' { m with rD:=v / 256,rE:=v%256 } full:=by
 have t1:v.tdiv 256=v / 256:=Int.tdiv_eq_ediv_of_nonneg v0
 have t2:v.tmod 256=v%256:=Int.tmod_eq_emod_of_nonneg v0
 have t3:IntKind.i64.wrap (v / 256)=v / 256:=by rw [IntKind.wrap_i64];omega
 have C1:Hid (Calls prog 50 #[.pointer (some ⟨g.X,0,none⟩),.int .i64 2,.int .i64 (v / 256)] w fun e w'=>e=.returned (.tuple #[])/\InS g w' { m with rD:=v / 256 } full):=set_2 g m full _ w h
 have C2:Hid (∀ W,InS g W { m with rD:=v / 256 } full->Calls prog 50 #[.pointer (some ⟨g.X,0,none⟩),.int .i64 3,.int .i64 (v%256)] W fun e w'=>e=.returned (.tuple #[])/\InS g w' { m with rD:=v / 256,rE:=v%256 } full):=fun W hi=>set_3 g _ full _ W hi
 clear h hg
 go_enter func78,ntmps78
 go_wp2_with fail
 refine Calls.mono C1.out ?_
 rintro e w1 ⟨rfl,hi1⟩
 have H1:Hid (InS g w1 { m with rD:=v / 256 } full):=hi1
 clear hi1 C1
 go_wp2_with fail
 refine Calls.mono (C2.out _ H1.out) ?_
 rintro e w2 ⟨rfl,hi2⟩
 have H2:Hid (InS g w2 { m with rD:=v / 256,rE:=v%256 } full):=hi2
 clear hi2 C2 H1
 go_wp2
 go_end0
 exact ⟨rfl,H2.out⟩
theorem setp_2f (g:SG) (m:M) (full:Bool) (v:Int) (v0:0<=v) (v1:v<=65535) (w:World) (h:InS g w m full) (hg:Stpq.Good m) :
  Calls prog 78 #[.pointer (some ⟨g.X,0,none⟩),.int .i64 2,.int .i64 v,.bool false] w fun e w'=>e=.returned (.tuple #[])/\InS g w' { m with rH:=v / 256,rL:=v%256 } full:=by
 have t1:v.tdiv 256=v / 256:=Int.tdiv_eq_ediv_of_nonneg v0
 have t2:v.tmod 256=v%256:=Int.tmod_eq_emod_of_nonneg v0
 have t3:IntKind.i64.wrap (v / 256)=v / 256:=by rw [IntKind.wrap_i64];omega
 have C1:Hid (Calls prog 50 #[.pointer (some ⟨g.X,0,none⟩),.int .i64 4,.int .i64 (v / 256)] w fun e w'=>e=.returned (.tuple #[])/\InS g w' { m with rH:=v / 256 } full):=set_4 g m full _ w h
 have C2:Hid (∀ W,InS g W { m with rH:=v / 256 } full->Calls prog 50 #[.pointer (some ⟨g.X,0,none⟩),.int .i64 5,.int .i64 (v%256)] W fun e w'=>e=.returned (.tuple #[])/\InS g w' { m with rH:=v / 256,rL:=v%256 } full):=fun W hi=>set_5 g _ full _ W hi
 clear h hg
 go_enter func78,ntmps78
 go_wp2_with fail
 refine Calls.mono C1.out ?_
 rintro e w1 ⟨rfl,hi1⟩
 have H1:Hid (InS g w1 { m with rH:=v / 256 } full):=hi1
 clear hi1 C1
 go_wp2_with fail
 refine Calls.mono (C2.out _ H1.out) ?_
 rintro e w2 ⟨rfl,hi2⟩
 have H2:Hid (InS g w2 { m with rH:=v / 256,rL:=v%256 } full):=hi2
 clear hi2 C2 H1
 go_wp2
 go_end0
 exact ⟨rfl,H2.out⟩
theorem setp_2t (g:SG) (m:M) (full:Bool) (v:Int) (v0:0<=v) (v1:v<=65535) (w:World) (h:InS g w m full) (hg:Stpq.Good m) :
  Calls prog 78 #[.pointer (some ⟨g.X,0,none⟩),.int .i64 2,.int .i64 v,.bool true] w fun e w'=>e=.returned (.tuple #[])/\InS g w' { m with rH:=v / 256,rL:=v%256 } full:=by
 have t1:v.tdiv 256=v / 256:=Int.tdiv_eq_ediv_of_nonneg v0
 have t2:v.tmod 256=v%256:=Int.tmod_eq_emod_of_nonneg v0
 have t3:IntKind.i64.wrap (v / 256)=v / 256:=by rw [IntKind.wrap_i64];omega
 have C1:Hid (Calls prog 50 #[.pointer (some ⟨g.X,0,none⟩),.int .i64 4,.int .i64 (v / 256)] w fun e w'=>e=.returned (.tuple #[])/\InS g w' { m with rH:=v / 256 } full):=set_4 g m full _ w h
 have C2:Hid (∀ W,InS g W { m with rH:=v / 256 } full->Calls prog 50 #[.pointer (some ⟨g.X,0,none⟩),.int .i64 5,.int .i64 (v%256)] W fun e w'=>e=.returned (.tuple #[])/\InS g w' { m with rH:=v / 256,rL:=v%256 } full):=fun W hi=>set_5 g _ full _ W hi
 clear h hg
 go_enter func78,ntmps78
 go_wp2_with fail
 refine Calls.mono C1.out ?_
 rintro e w1 ⟨rfl,hi1⟩
 have H1:Hid (InS g w1 { m with rH:=v / 256 } full):=hi1
 clear hi1 C1
 go_wp2_with fail
 refine Calls.mono (C2.out _ H1.out) ?_
 rintro e w2 ⟨rfl,hi2⟩
 have H2:Hid (InS g w2 { m with rH:=v / 256,rL:=v%256 } full):=hi2
 clear hi2 C2 H1
 go_wp2
 go_end0
 exact ⟨rfl,H2.out⟩
theorem setp_3f (g:SG) (m:M) (full:Bool) (v:Int) (v0:0<=v) (v1:v<=65535) (w:World) (h:InS g w m full) (hg:Stpq.Good m) :
  Calls prog 78 #[.pointer (some ⟨g.X,0,none⟩),.int .i64 3,.int .i64 v,.bool false] w fun e w'=>e=.returned (.tuple #[])/\InS g w' { m with sp:=v } full:=by
 have HI:Hid (InS g w m full):=h
 clear h hg
 have q_sp:=HI.out.cell 8 _ rfl
 have f_sp:=HI.out.fro 8
 have HF:Hid (InS g (w.setCell ⟨g.X,8,none⟩ (.int .i64 v)) { m with sp:=v } full):=HI.out.s_sp v
 clear HI
 go_enter func78,ntmps78
 go_wp2
 go_end0
 exact ⟨rfl,HF.out⟩
theorem setp_3t (g:SG) (m:M) (full:Bool) (v:Int) (v0:0<=v) (v1:v<=65535) (w:World) (h:InS g w m full) (hg:Stpq.Good m) :
  Calls prog 78 #[.pointer (some ⟨g.X,0,none⟩),.int .i64 3,.int .i64 v,.bool true] w fun e w'=>e=.returned (.tuple #[])/\InS g w' { m with ra:=v / 256,rf:=v%256 / 16*16 } full:=by
 have t1:v.tdiv 256=v / 256:=Int.tdiv_eq_ediv_of_nonneg v0
 have t2:v.tmod 256=v%256:=Int.tmod_eq_emod_of_nonneg v0
 have t3:IntKind.i64.wrap (v / 256)=v / 256:=by rw [IntKind.wrap_i64];omega
 have t4:(v%256).tdiv 16=v%256 / 16:=Int.tdiv_eq_ediv_of_nonneg (by omega)
 have t5:IntKind.i64.wrap (v%256 / 16)=v%256 / 16:=by rw [IntKind.wrap_i64];omega
 have t6:IntKind.i64.wrap (v%256 / 16*16)=v%256 / 16*16:=by rw [IntKind.wrap_i64];omega
 have q0:=h.cell 0 _ rfl
 have q1:=h.cell 1 _ rfl
 have f0:=h.fro 0
 have f1:=h.fro 1
 have hl:=h.lt
 have HF:Hid (InS g ((w.setCell ⟨g.X,0,none⟩ (.int .i64 (v / 256))).setCell ⟨g.X,1,none⟩ (.int .i64 (v%256 / 16*16))) { m with ra:=v / 256,rf:=v%256 / 16*16 } full):=(h.s_ra _).s_rf _
 clear h hg
 go_enter func78,ntmps78
 go_wp2
 go_end0
 exact ⟨rfl,HF.out⟩
theorem setPairS (g:SG) (m:M) (full:Bool) (k v:Int) (w:World) (h:InS g w m full) (hg:Stpq.Good m) (k0:0<=k) (k1:k<=3) (v0:0<=v) (v1:v<=65535) :
  Calls prog 78 #[.pointer (some ⟨g.X,0,none⟩),.int .i64 k,.int .i64 v,.bool false] w fun e w'=>e=.returned (.tuple #[])/\InS g w' (setP m k v) full:=by
 rcases cases4 k0 k1 with rfl|rfl|rfl|rfl
 ·exact setp_0f g m full v v0 v1 w h hg
 ·exact setp_1f g m full v v0 v1 w h hg
 ·exact setp_2f g m full v v0 v1 w h hg
 ·exact setp_3f g m full v v0 v1 w h hg
theorem setPairQ (g:SG) (m:M) (full:Bool) (k v:Int) (w:World) (h:InS g w m full) (hg:Stpq.Good m) (k0:0<=k) (k1:k<=3) (v0:0<=v) (v1:v<=65535) :
  Calls prog 78 #[.pointer (some ⟨g.X,0,none⟩),.int .i64 k,.int .i64 v,.bool true] w fun e w'=>e=.returned (.tuple #[])/\InS g w' (setQ m k v) full:=by
 rcases cases4 k0 k1 with rfl|rfl|rfl|rfl
 ·exact setp_0t g m full v v0 v1 w h hg
 ·exact setp_1t g m full v v0 v1 w h hg
 ·exact setp_2t g m full v v0 v1 w h hg
 ·exact setp_3t g m full v v0 v1 w h hg
theorem pushS (g:SG) (m:M) (full:Bool) (v:Int) (v0:0<=v) (v1:v<=65535) (w:World) (h:InS g w m full) (hg:Stpq.Good m) :
  Calls prog 86 #[.pointer (some ⟨g.X,0,none⟩),.int .i64 v] w fun e w'=>e=.returned (.tuple #[])/\InS g w' (push ⟨m,full⟩ v).m (push ⟨m,full⟩ v).full:=by
 obtain ⟨s0,s1⟩:=hg.sp
 have t1:v.tdiv 256=v / 256:=Int.tdiv_eq_ediv_of_nonneg v0
 have t2:v.tmod 256=v%256:=Int.tmod_eq_emod_of_nonneg v0
 have t3:IntKind.i64.wrap (v / 256)=v / 256:=by rw [IntKind.wrap_i64];omega
 have d1:IntKind.i64.wrap (m.sp+65535)=m.sp+65535:=by rw [IntKind.wrap_i64];omega
 have d2:IntKind.i64.wrap (m.sp+65534)=m.sp+65534:=by rw [IntKind.wrap_i64];omega
 have d3:(m.sp+65534).tmod 65536=(m.sp+65534)%65536:=Int.tmod_eq_emod_of_nonneg (by omega)
 have c1:Hid (∀ W,InS g W m full->Calls prog 75 #[.pointer (some ⟨g.X,0,none⟩),.int .i64 (m.sp+65535),.int .i64 (v / 256)] W fun e w'=>e=.returned (.tuple #[])/\InS g w' (wr ⟨m,full⟩ (m.sp+65535) (v / 256)).m (wr ⟨m,full⟩ (m.sp+65535) (v / 256)).full):=fun W hi=>writeS g m full _ _ W hi hg.rt (by omega) (by omega) (by omega)
 have g1:=wr_good (s:=⟨m,full⟩) hg (m.sp+65535) (v / 256) (by omega) (by omega)
 unfold push
 simp only []
 generalize wr ⟨m,full⟩ (m.sp+65535) (v / 256)=t at *
 have c2:Hid (∀ W,InS g W t.m t.full->Calls prog 75 #[.pointer (some ⟨g.X,0,none⟩),.int .i64 (m.sp+65534),.int .i64 (v%256)] W fun e w'=>e=.returned (.tuple #[])/\InS g w' (wr t (m.sp+65534) (v%256)).m (wr t (m.sp+65534) (v%256)).full):=fun W hi=>writeS g t.m t.full _ _ W hi g1.rt (by omega) (by omega) (by omega)
 generalize wr t (m.sp+65534) (v%256)=t2 at *
 have q_0:=h.cell 8 _ rfl
 have HI:Hid (InS g w m full):=h
 clear h hg g1 s0 s1
 go_enter func86,ntmps86
 go_wp2_with fail
 refine Calls.mono (c1.out _ HI.out) ?_
 rintro e w1 ⟨rfl,hi1⟩
 have H1:Hid (InS g w1 t.m t.full):=hi1
 clear hi1 HI c1
 go_wp2_with fail
 refine Calls.mono (c2.out _ H1.out) ?_
 rintro e w2 ⟨rfl,hi1⟩
 have H2:Hid (InS g w2 t2.m t2.full):=hi1
 clear hi1 H1 c2
 have q_sp:=H2.out.cell 8 _ rfl
 have f_sp:=H2.out.fro 8
 have HF:Hid (InS g (w2.setCell ⟨g.X,8,none⟩ (.int .i64 ((m.sp+65534)%65536))) { t2.m with sp:=((m.sp+65534)%65536) } t2.full):=H2.out.s_sp ((m.sp+65534)%65536)
 clear H2
 go_wp2
 go_end0
 exact ⟨rfl,HF.out⟩
theorem popS (g:SG) (m:M) (full:Bool) (w:World) (h:InS g w m full) (hg:Stpq.Good m) :
  Calls prog 84 #[.pointer (some ⟨g.X,0,none⟩)] w fun e w'=>e=.returned (.int .i64 (popV m))/\InS g w' (popM m) full:=by
 obtain ⟨s0,s1⟩:=hg.sp
 have d1:IntKind.i64.wrap (m.sp+2)=m.sp+2:=by rw [IntKind.wrap_i64];omega
 have d2:(m.sp+2).tmod 65536=(m.sp+2)%65536:=Int.tmod_eq_emod_of_nonneg (by omega)
 have d3:IntKind.i64.wrap (m.sp+1)=m.sp+1:=by rw [IntKind.wrap_i64];omega
 have d4:(m.sp+1).tmod 65536=(m.sp+1)%65536:=Int.tmod_eq_emod_of_nonneg (by omega)
 have b1:=rd_bd m m.sp
 have b2:=rd_bd m ((m.sp+1)%65536)
 have e0:popV m=rd m m.sp+256*rd m ((m.sp+1)%65536):=rfl
 rw [e0]
 have q8:=h.cell 8 _ rfl
 have f8:=h.fro 8
 obtain ⟨u,hu⟩ : ∃ u,u=w.setCell ⟨g.X,8,none⟩ (.int .i64 ((m.sp+2)%65536)):=⟨_,rfl⟩
 have hI:InS g u (popM m) full:=by rw [hu];exact h.s_sp _
 have HI:Hid (InS g u (popM m) full):=hI
 obtain ⟨po,cap,hA⟩:=hI
 have c1:Rg 70 #[.agg (cellsM (popM m) po cap),.int .i64 m.sp] u (.int .i64 (rd m m.sp)):=rg fun W hb=>l6Read_M (popM m) po cap m.sp W (popM_good hg).rt s0
 have c2:Rg 70 #[.agg (cellsM (popM m) po cap),.int .i64 ((m.sp+1)%65536)] u (.int .i64 (rd m ((m.sp+1)%65536))):=rg fun W hb=>l6Read_M (popM m) po cap _ W (popM_good hg).rt (by omega)
 have hld:∀ d os,(loadVar 33 ⟨g.X,0,none⟩).run prog (Go.Sort.grow (redrawn u d) os)=.ok (.agg (cellsM (popM m) po cap)) (Go.Sort.grow (redrawn u d) os):=fun d os=>hA.load ((below_regrown u d os).block _ hA.lt)
 generalize rd m m.sp=x1 at *
 generalize rd m ((m.sp+1)%65536)=x2 at *
 have d5:IntKind.i64.wrap (256*x2)=256*x2:=by rw [IntKind.wrap_i64];omega
 have d6:IntKind.i64.wrap (x1+256*x2)=x1+256*x2:=by rw [IntKind.wrap_i64];omega
 generalize cellsM (popM m) po cap=cM at *
 clear h hg hA s0 s1 b1 b2 e0
 go_enter func84,ntmps84
 go_upto_region 3 with fail
 rw [<- hu]
 clear hu q8 f8
 refine wp_region_quiet_below (by kernel_rfl) (by kernel_rfl) ?_
 repeat (first|(go_big_quiet_step (first|with_reducible exact c1 _ _|with_reducible exact c2 _ _))|(refine wpQuiet_load (by rfl) 33 _ rfl ⟨g.X,0,none⟩ rfl _ (fun W hW=>by obtain ⟨⟨d,o⟩,rfl⟩:=hW;exact hld d o) ?_;simp only [Act.put,List.setIfInBounds_toArray,List.set_cons_succ,List.set_cons_zero]))
 refine wpQuiet_nil ?_
 intro _ hw'
 obtain ⟨⟨dq,osq⟩,hw''⟩:=hw'
 subst hw''
 have H2:=zHd (HI.out.below (below_regrown u dq osq))
 have hbg:=below_regrown u dq osq
 generalize Go.Sort.grow (redrawn u dq) osq=W2 at *
 clear HI c1 c2 hld
 go_wp2
 go_ret
 exact ⟨rfl,H2.out⟩
theorem callS (g:SG) (m:M) (full:Bool) (v:Int) (w:World) (h:InS g w m full) (hg:Stpq.Good m) :
  Calls prog 87 #[.pointer (some ⟨g.X,0,none⟩),.int .i64 v] w fun e w'=>e=.returned (.tuple #[])/\InS g w' (callE v ⟨m,full⟩).m (callE v ⟨m,full⟩).full:=by
 have c1:Hid (∀ W,InS g W m full->Calls prog 86 #[.pointer (some ⟨g.X,0,none⟩),.int .i64 m.pc] W fun e w'=>e=.returned (.tuple #[])/\InS g w' (push ⟨m,full⟩ m.pc).m (push ⟨m,full⟩ m.pc).full):=fun W hi=>pushS g m full _ hg.pc.1 hg.pc.2 W hi hg
 unfold callE
 simp only []
 generalize push ⟨m,full⟩ m.pc=t at *
 have q9:=h.cell 9 _ rfl
 have HI:Hid (InS g w m full):=h
 clear h hg
 go_enter func87,ntmps87
 go_wp2_with fail
 refine Calls.mono (c1.out _ HI.out) ?_
 rintro e w1 ⟨rfl,hi1⟩
 have H1:Hid (InS g w1 t.m t.full):=hi1
 clear hi1 HI c1
 have q_pc:=H1.out.cell 9 _ rfl
 have f_pc:=H1.out.fro 9
 have HF:Hid (InS g (w1.setCell ⟨g.X,9,none⟩ (.int .i64 v)) { t.m with pc:=v } t.full):=H1.out.s_pc v
 clear H1
 go_wp2
 go_end0
 exact ⟨rfl,HF.out⟩
theorem cond_0 (g:SG) (m:M) (full:Bool) (w:World) (h:InS g w m full) (hg:Stpq.Good m) :
  Calls prog 76 #[.pointer (some ⟨g.X,0,none⟩),.int .i64 0] w fun e w'=>e=.returned (.bool (decide (m.rf / 128%2=0)))/\Below w.heap.size w w':=by
 have hf:=hg.f
 have t1:m.rf.tdiv 128=m.rf / 128:=Int.tdiv_eq_ediv_of_nonneg hf.1
 have t2:(m.rf / 128).tmod 2=m.rf / 128%2:=Int.tmod_eq_emod_of_nonneg (by omega)
 have t3:IntKind.i64.wrap (m.rf / 128)=m.rf / 128:=by rw [IntKind.wrap_i64];omega
 have t4:(m.rf / 128%2 == 0)=decide (m.rf / 128%2=0):=by by_cases h:m.rf / 128%2=0 <;> simp [h]
 have q1:=h.cell 1 _ rfl
 clear h hg hf
 generalize m.rf / 128%2=r at *
 generalize decide (r=0)=bb at *
 go_enter func76,ntmps76
 go_wp2
 go_ret
 exact ⟨rfl,by repeat (with_reducible first|exact zRf|refine zGr ?_ _|refine below_drewN ?_ _|refine Below.drew ?_)⟩
theorem cond_1 (g:SG) (m:M) (full:Bool) (w:World) (h:InS g w m full) (hg:Stpq.Good m) :
  Calls prog 76 #[.pointer (some ⟨g.X,0,none⟩),.int .i64 1] w fun e w'=>e=.returned (.bool (decide (m.rf / 128%2=1)))/\Below w.heap.size w w':=by
 have hf:=hg.f
 have t1:m.rf.tdiv 128=m.rf / 128:=Int.tdiv_eq_ediv_of_nonneg hf.1
 have t2:(m.rf / 128).tmod 2=m.rf / 128%2:=Int.tmod_eq_emod_of_nonneg (by omega)
 have t3:IntKind.i64.wrap (m.rf / 128)=m.rf / 128:=by rw [IntKind.wrap_i64];omega
 have t4:(m.rf / 128%2 == 1)=decide (m.rf / 128%2=1):=by by_cases h:m.rf / 128%2=1 <;> simp [h]
 have q1:=h.cell 1 _ rfl
 clear h hg hf
 generalize m.rf / 128%2=r at *
 generalize decide (r=1)=bb at *
 go_enter func76,ntmps76
 go_wp2
 go_ret
 exact ⟨rfl,by repeat (with_reducible first|exact zRf|refine zGr ?_ _|refine below_drewN ?_ _|refine Below.drew ?_)⟩
theorem cond_2 (g:SG) (m:M) (full:Bool) (w:World) (h:InS g w m full) (hg:Stpq.Good m) :
  Calls prog 76 #[.pointer (some ⟨g.X,0,none⟩),.int .i64 2] w fun e w'=>e=.returned (.bool (decide (m.rf / 16%2=0)))/\Below w.heap.size w w':=by
 have hf:=hg.f
 have t1:m.rf.tdiv 16=m.rf / 16:=Int.tdiv_eq_ediv_of_nonneg hf.1
 have t2:(m.rf / 16).tmod 2=m.rf / 16%2:=Int.tmod_eq_emod_of_nonneg (by omega)
 have t3:IntKind.i64.wrap (m.rf / 16)=m.rf / 16:=by rw [IntKind.wrap_i64];omega
 have t4:(m.rf / 16%2 == 0)=decide (m.rf / 16%2=0):=by by_cases h:m.rf / 16%2=0 <;> simp [h]
 have q1:=h.cell 1 _ rfl
 clear h hg hf
 generalize m.rf / 16%2=r at *
 generalize decide (r=0)=bb at *
 go_enter func76,ntmps76
 go_wp2
 go_ret
 exact ⟨rfl,by repeat (with_reducible first|exact zRf|refine zGr ?_ _|refine below_drewN ?_ _|refine Below.drew ?_)⟩
theorem cond_3 (g:SG) (m:M) (full:Bool) (w:World) (h:InS g w m full) (hg:Stpq.Good m) :
  Calls prog 76 #[.pointer (some ⟨g.X,0,none⟩),.int .i64 3] w fun e w'=>e=.returned (.bool (decide (m.rf / 16%2=1)))/\Below w.heap.size w w':=by
 have hf:=hg.f
 have t1:m.rf.tdiv 16=m.rf / 16:=Int.tdiv_eq_ediv_of_nonneg hf.1
 have t2:(m.rf / 16).tmod 2=m.rf / 16%2:=Int.tmod_eq_emod_of_nonneg (by omega)
 have t3:IntKind.i64.wrap (m.rf / 16)=m.rf / 16:=by rw [IntKind.wrap_i64];omega
 have t4:(m.rf / 16%2 == 1)=decide (m.rf / 16%2=1):=by by_cases h:m.rf / 16%2=1 <;> simp [h]
 have q1:=h.cell 1 _ rfl
 clear h hg hf
 generalize m.rf / 16%2=r at *
 generalize decide (r=1)=bb at *
 go_enter func76,ntmps76
 go_wp2
 go_ret
 exact ⟨rfl,by repeat (with_reducible first|exact zRf|refine zGr ?_ _|refine below_drewN ?_ _|refine Below.drew ?_)⟩
theorem condS (g:SG) (m:M) (full:Bool) (k:Int) (w:World) (h:InS g w m full) (hg:Stpq.Good m) (k0:0<=k) (k1:k<=3) :
  Calls prog 76 #[.pointer (some ⟨g.X,0,none⟩),.int .i64 k] w fun e w'=>e=.returned (.bool (Stpp.cond m k))/\Below w.heap.size w w':=by
 rcases cases4 k0 k1 with rfl|rfl|rfl|rfl
 ·exact cond_0 g m full w h hg
 ·exact cond_1 g m full w h hg
 ·exact cond_2 g m full w h hg
 ·exact cond_3 g m full w h hg
end Go.Proofs.YtkfehdkjeodbmaaGreatDoor.Stb
namespace Go.Proofs.YtkfehdkjeodbmaaGreatDoor.Tabs
open Signed (inB l1In_any)
def at8 (l:List ByteArray) (i:Int):ByteArray:=l.getD i.toNat ⟨#[]⟩
theorem cases8 {y:Int} (h0:0<=y) (h1:y<=7):y=0 \/ y=1 \/ y=2 \/ y=3 \/ y=4 \/ y=5 \/ y=6 \/ y=7:=by omega
theorem cases4 {y:Int} (h0:0<=y) (h1:y<=3):y=0 \/ y=1 \/ y=2 \/ y=3:=by omega
theorem ret_str {a b:ByteArray} (h:a=b):Ending.returned (.string a)=.returned (.string b):=by rw [h]
def bitW:List ByteArray:=[⟨#[]⟩,⟨#[98,105,116,32]⟩,⟨#[114,101,115,32]⟩,⟨#[115,101,116,32]⟩]
def decs:List ByteArray:=[⟨#[48]⟩,⟨#[49]⟩,⟨#[50]⟩,⟨#[51]⟩,⟨#[52]⟩,⟨#[53]⟩,⟨#[54]⟩,⟨#[55]⟩]
def regs:List ByteArray:=[⟨#[98]⟩,⟨#[99]⟩,⟨#[100]⟩,⟨#[101]⟩,⟨#[104]⟩,⟨#[108]⟩,⟨#[91,104,108,93]⟩,⟨#[97]⟩]
theorem regs_any (w:World) :
  Calls prog 192 #[] w fun e w'=>e=.returned (.slice (some ⟨w.heap.size,0,none⟩) 8 8)/\w'=w.alloc (.cells #[.string ⟨#[98]⟩,.string ⟨#[99]⟩,.string ⟨#[100]⟩,.string ⟨#[101]⟩,.string ⟨#[104]⟩,.string ⟨#[108]⟩,.string ⟨#[91,104,108,93]⟩,.string ⟨#[97]⟩] 9):=by
 go_enter func192,ntmps192
 go_wp2
 go_ret
 exact ⟨rfl,rfl⟩
theorem pairs_any (w:World) :
  Calls prog 207 #[] w fun e w'=>e=.returned (.slice (some ⟨w.heap.size,0,none⟩) 4 4)/\w'=w.alloc (.cells #[.string ⟨#[98,99]⟩,.string ⟨#[100,101]⟩,.string ⟨#[104,108]⟩,.string ⟨#[115,112]⟩] 9):=by
 go_enter func207,ntmps207
 go_wp2
 go_ret
 exact ⟨rfl,rfl⟩
theorem conds_any (w:World) :
  Calls prog 206 #[] w fun e w'=>e=.returned (.slice (some ⟨w.heap.size,0,none⟩) 4 4)/\w'=w.alloc (.cells #[.string ⟨#[110,122]⟩,.string ⟨#[122]⟩,.string ⟨#[110,99]⟩,.string ⟨#[99]⟩] 9):=by
 go_enter func206,ntmps206
 go_wp2
 go_ret
 exact ⟨rfl,rfl⟩
def alus:List ByteArray:=[⟨#[97,100,100]⟩,⟨#[97,100,99]⟩,⟨#[115,117,98]⟩,⟨#[115,98,99]⟩,⟨#[97,110,100]⟩,⟨#[120,111,114]⟩,⟨#[111,114]⟩,⟨#[99,112]⟩]
theorem alus_any (w:World) :
  Calls prog 195 #[] w fun e w'=>e=.returned (.slice (some ⟨w.heap.size,0,none⟩) 8 8)/\w'=w.alloc (.cells #[.string ⟨#[97,100,100]⟩,.string ⟨#[97,100,99]⟩,.string ⟨#[115,117,98]⟩,.string ⟨#[115,98,99]⟩,.string ⟨#[97,110,100]⟩,.string ⟨#[120,111,114]⟩,.string ⟨#[111,114]⟩,.string ⟨#[99,112]⟩] 9):=by
 go_enter func195,ntmps195
 go_wp2
 go_ret
 exact ⟨rfl,rfl⟩
def turns:List ByteArray:=[⟨#[114,108,99]⟩,⟨#[114,114,99]⟩,⟨#[114,108]⟩,⟨#[114,114]⟩,⟨#[115,108,97]⟩,⟨#[115,114,97]⟩,⟨#[115,119,97,112]⟩,⟨#[115,114,108]⟩]
theorem turns_any (w:World) :
  Calls prog 191 #[] w fun e w'=>e=.returned (.slice (some ⟨w.heap.size,0,none⟩) 8 8)/\w'=w.alloc (.cells #[.string ⟨#[114,108,99]⟩,.string ⟨#[114,114,99]⟩,.string ⟨#[114,108]⟩,.string ⟨#[114,114]⟩,.string ⟨#[115,108,97]⟩,.string ⟨#[115,114,97]⟩,.string ⟨#[115,119,97,112]⟩,.string ⟨#[115,114,108]⟩] 9):=by
 go_enter func191,ntmps191
 go_wp2
 go_ret
 exact ⟨rfl,rfl⟩
theorem regs_get {i:Int} (h0:0<=i) (h1:i<=7):(∀ h,([.string ⟨#[98]⟩,.string ⟨#[99]⟩,.string ⟨#[100]⟩,.string ⟨#[101]⟩,.string ⟨#[104]⟩,.string ⟨#[108]⟩,.string ⟨#[91,104,108,93]⟩,.string ⟨#[97]⟩]:List Value)[i.toNat]'h=.string (at8 regs i))/\(at8 regs i).size<=4:=by
 rcases cases8 h0 h1 with rfl|rfl|rfl|rfl|rfl|rfl|rfl|rfl
 all_goals exact ⟨fun _=>rfl,by decide⟩
theorem alus_get {i:Int} (h0:0<=i) (h1:i<=7):(∀ h,([.string ⟨#[97,100,100]⟩,.string ⟨#[97,100,99]⟩,.string ⟨#[115,117,98]⟩,.string ⟨#[115,98,99]⟩,.string ⟨#[97,110,100]⟩,.string ⟨#[120,111,114]⟩,.string ⟨#[111,114]⟩,.string ⟨#[99,112]⟩]:List Value)[i.toNat]'h=.string (at8 alus i))/\(at8 alus i).size<=4:=by
 rcases cases8 h0 h1 with rfl|rfl|rfl|rfl|rfl|rfl|rfl|rfl
 all_goals exact ⟨fun _=>rfl,by decide⟩
theorem turns_get {i:Int} (h0:0<=i) (h1:i<=7):(∀ h,([.string ⟨#[114,108,99]⟩,.string ⟨#[114,114,99]⟩,.string ⟨#[114,108]⟩,.string ⟨#[114,114]⟩,.string ⟨#[115,108,97]⟩,.string ⟨#[115,114,97]⟩,.string ⟨#[115,119,97,112]⟩,.string ⟨#[115,114,108]⟩]:List Value)[i.toNat]'h=.string (at8 turns i))/\(at8 turns i).size<=4:=by
 rcases cases8 h0 h1 with rfl|rfl|rfl|rfl|rfl|rfl|rfl|rfl
 all_goals exact ⟨fun _=>rfl,by decide⟩
theorem bitW_get {i:Int} (h0:0<=i) (h1:i<=3):(∀ h,([.string ⟨#[]⟩,.string ⟨#[98,105,116,32]⟩,.string ⟨#[114,101,115,32]⟩,.string ⟨#[115,101,116,32]⟩]:List Value)[i.toNat]'h=.string (at8 bitW i))/\(at8 bitW i).size<=4:=by
 rcases cases4 h0 h1 with rfl|rfl|rfl|rfl
 all_goals exact ⟨fun _=>rfl,by decide⟩
set_option maxRecDepth 100000 in
theorem dec_any (y:Int) (w:World) (h0:0<=y) (h1:y<=7) :
  Calls prog 193 #[.int .i64 y] w fun e w'=>e=.returned (.string (at8 decs y))/\w'=w.alloc (.cells #[.int .u8 (48+y)] 5):=by
 have hcv:∀ (u:World) (x:Int),(convert 109 9 (.slice (some ⟨u.heap.size,0,none⟩) 1 1)).run prog (u.alloc (.cells #[.int .u8 x] 5))=.ok (.string (strOfNums [x])) (u.alloc (.cells #[.int .u8 x] 5)):=fun u x =>
  run_convert_bytes_arg _ 109 5 underlying109 underlying5 u.heap.size 0 1 1 [x] rfl (fun i hi=>by
   rw [Nat.zero_add,World.cell?_alloc_new]
   match i,hi with
   | 0,_=>rfl) 9 underlying9
 have hsz:∀ x:Int,(strOfNums [x]).size=1:=fun _=>strOfNums_size _
 rcases cases8 h0 h1 with rfl|rfl|rfl|rfl|rfl|rfl|rfl|rfl
 all_goals
  go_enter func193,ntmps193
  go_wp2
  refine wp_loop_rounds 1 ?_
  rw [rounds_succ]
  go_wp2
  go_ret
  exact ⟨ret_str rfl,rfl⟩
def hex8:List ByteArray:=[⟨#[36,48,48]⟩,⟨#[36,48,56]⟩,⟨#[36,49,48]⟩,⟨#[36,49,56]⟩,⟨#[36,50,48]⟩,⟨#[36,50,56]⟩,⟨#[36,51,48]⟩,⟨#[36,51,56]⟩]
set_option maxRecDepth 100000 in
theorem hex_any (n:Int) (w:World) (h:n=0 \/ n=8 \/ n=16 \/ n=24 \/ n=32 \/ n=40 \/ n=48 \/ n=56) :
  Calls prog 208 #[.int .i64 n,.int .i64 2] w fun e w'=>e=.returned (.string (at8 hex8 (n / 8)))/\w'=w:=by
 have hd:inB 2 1 4=true:=rfl
 rcases h with rfl|rfl|rfl|rfl|rfl|rfl|rfl|rfl
 all_goals
  go_enter func208,ntmps208
  go_wp2_with (go_at_call 36;refine (l1In_any _ _ _ _).mono ?_;rintro e w' ⟨rfl,rfl⟩)
  refine wp_loop_rounds 3 ?_
  rw [rounds_succ]
  go_wp2
  rw [rounds_succ]
  go_wp2
  rw [rounds_succ]
  go_wp2
  go_ret
  exact ⟨ret_str (by kernel_rfl),rfl⟩
end Go.Proofs.YtkfehdkjeodbmaaGreatDoor.Tabs
namespace Go.Proofs.YtkfehdkjeodbmaaGreatDoor.Hole
theorem below_drewN {B:Nat} {a b:World} (h:Below B a b) (n:Nat):Below B a (b.drewN n):=⟨h.os,h.tape,h.output,h.size,h.block⟩
theorem slice_3 (s:ByteArray) (k:Nat) (h:k+3<=s.size) (w:World):(Instr.slice 9 (.string s) (some (.int .i64 (k:Int))) (some (.int .i64 ((k:Int)+3))) none).run prog w=.ok (.string (s.extract k (k+3))) w:=by
 have:=run_slice_string (P:=prog) w 9 s .i64 .i64 (k:Int) ((k:Int)+3) underlying9 (by omega) (by omega) (by omega)
 rw [show ((k:Int)+3).toNat=k+3 by omega,Int.toNat_natCast] at this
 exact this
theorem slice_2 (s:ByteArray) (k:Nat) (h:k+2<=s.size) (w:World):(Instr.slice 9 (.string s) (some (.int .i64 (k:Int))) (some (.int .i64 ((k:Int)+2))) none).run prog w=.ok (.string (s.extract k (k+2))) w:=by
 have:=run_slice_string (P:=prog) w 9 s .i64 .i64 (k:Int) ((k:Int)+2) underlying9 (by omega) (by omega) (by omega)
 rw [show ((k:Int)+2).toNat=k+2 by omega,Int.toNat_natCast] at this
 exact this
def Told (e:Ending):Prop:=∃ (i:Int) (h:ByteArray),e=.returned (.tuple #[.int .i64 i,.string h])
theorem hole_any (t:ByteArray) (w:World) (ht:t.size<=1000) :
  Calls prog 175 #[.string t] w fun e w'=>Told e/\Below w.heap.size w w':=by
 go_enter func175,ntmps175
 go_wp2
 have HB:Hid (Below w.heap.size w (w.alloc (.cells #[.string ⟨#[110,49,54]⟩,.string ⟨#[110,56]⟩,.string ⟨#[101,56]⟩] 9))):=zAl _ _
 have c0:(w.alloc (.cells #[.string ⟨#[110,49,54]⟩,.string ⟨#[110,56]⟩,.string ⟨#[101,56]⟩] 9)).cell? ⟨w.heap.size,0,none⟩=some (.string ⟨#[110,49,54]⟩):=World.cell?_alloc_new _ _ _ _
 have c1:(w.alloc (.cells #[.string ⟨#[110,49,54]⟩,.string ⟨#[110,56]⟩,.string ⟨#[101,56]⟩] 9)).cell? ⟨w.heap.size,1,none⟩=some (.string ⟨#[110,56]⟩):=World.cell?_alloc_new _ _ _ _
 have c2:(w.alloc (.cells #[.string ⟨#[110,49,54]⟩,.string ⟨#[110,56]⟩,.string ⟨#[101,56]⟩] 9)).cell? ⟨w.heap.size,2,none⟩=some (.string ⟨#[101,56]⟩):=World.cell?_alloc_new _ _ _ _
 generalize w.alloc (.cells #[.string ⟨#[110,49,54]⟩,.string ⟨#[110,56]⟩,.string ⟨#[101,56]⟩] 9)=W at *
 go_loopw [5] (fun i wr=>∃ n:Nat,(i=.int .i64 0 \/ i=.int .i64 1 \/ i=.int .i64 2 \/ i=.int .i64 3)/\wr=W.drewN n) (fun i _=>3-(intOf i).toNat)
 case atStart=>exact ⟨0,.inl rfl,rfl⟩
 case round =>
  obtain ⟨n,hi,rfl⟩:=hrel
  rcases hi with rfl|rfl|rfl|rfl
  ·go_wp2
   go_loopw [6] (fun i wr=>∃ m n:Nat,m<=t.size/\i=.int .i64 m/\wr=W.drewN n) (fun i _=>t.size-(intOf i).toNat)
   case atStart=>exact ⟨0,n,Nat.zero_le _,rfl,rfl⟩
   case round =>
    obtain ⟨m,n2,hm,rfl,rfl⟩:=hrel
    by_cases hlt:m+3<=t.size
    ·have s1:=slice_3 t m hlt
     have k0:(0:Int)<=(m:Int):=by omega
     have k1:(m:Int)+3<=(t.size:Int):=by omega
     have k2:(m:Int)<=(m:Int)+3:=by omega
     have k4:IntKind.i64.wrap ((m:Int)+3)=(m:Int)+3:=by rw [IntKind.wrap_i64];omega
     have HN:Hid (m+1<=t.size):=by show m+1<=t.size;omega
     go_wp2_with fail
     go_quiet (fail)
     go_wp2_with fail
     ·go_quiet (fail)
      go_wp2
      go_ret2
      exact ⟨⟨_,_,rfl⟩,by repeat' (with_reducible first|exact HB.out|refine below_drewN ?_ _)⟩
     ·go_roundw
      case rel=>exact ⟨m+1,_,HN.out,by go_num,rfl⟩
      case measure=>have:=HN.out;simp [intOf];omega
    ·go_wp2
     go_roundw
     case rel=>exact ⟨_,.inr (.inl rfl),rfl⟩
     case measure=>simp [intOf]
  ·go_wp2
   go_loopw [6] (fun i wr=>∃ m n:Nat,m<=t.size/\i=.int .i64 m/\wr=W.drewN n) (fun i _=>t.size-(intOf i).toNat)
   case atStart=>exact ⟨0,n,Nat.zero_le _,rfl,rfl⟩
   case round =>
    obtain ⟨m,n2,hm,rfl,rfl⟩:=hrel
    by_cases hlt:m+2<=t.size
    ·have s1:=slice_2 t m hlt
     have k0:(0:Int)<=(m:Int):=by omega
     have k1:(m:Int)+2<=(t.size:Int):=by omega
     have k2:(m:Int)<=(m:Int)+2:=by omega
     have k4:IntKind.i64.wrap ((m:Int)+2)=(m:Int)+2:=by rw [IntKind.wrap_i64];omega
     have HN:Hid (m+1<=t.size):=by show m+1<=t.size;omega
     go_wp2_with fail
     go_quiet (fail)
     go_wp2_with fail
     ·go_quiet (fail)
      go_wp2
      go_ret2
      exact ⟨⟨_,_,rfl⟩,by repeat' (with_reducible first|exact HB.out|refine below_drewN ?_ _)⟩
     ·go_roundw
      case rel=>exact ⟨m+1,_,HN.out,by go_num,rfl⟩
      case measure=>have:=HN.out;simp [intOf];omega
    ·go_wp2
     go_roundw
     case rel=>exact ⟨_,.inr (.inr (.inl rfl)),rfl⟩
     case measure=>simp [intOf]
  ·go_wp2
   go_loopw [6] (fun i wr=>∃ m n:Nat,m<=t.size/\i=.int .i64 m/\wr=W.drewN n) (fun i _=>t.size-(intOf i).toNat)
   case atStart=>exact ⟨0,n,Nat.zero_le _,rfl,rfl⟩
   case round =>
    obtain ⟨m,n2,hm,rfl,rfl⟩:=hrel
    by_cases hlt:m+2<=t.size
    ·have s1:=slice_2 t m hlt
     have k0:(0:Int)<=(m:Int):=by omega
     have k1:(m:Int)+2<=(t.size:Int):=by omega
     have k2:(m:Int)<=(m:Int)+2:=by omega
     have k4:IntKind.i64.wrap ((m:Int)+2)=(m:Int)+2:=by rw [IntKind.wrap_i64];omega
     have HN:Hid (m+1<=t.size):=by show m+1<=t.size;omega
     go_wp2_with fail
     go_quiet (fail)
     go_wp2_with fail
     ·go_quiet (fail)
      go_wp2
      go_ret2
      exact ⟨⟨_,_,rfl⟩,by repeat' (with_reducible first|exact HB.out|refine below_drewN ?_ _)⟩
     ·go_roundw
      case rel=>exact ⟨m+1,_,HN.out,by go_num,rfl⟩
      case measure=>have:=HN.out;simp [intOf];omega
    ·go_wp2
     go_roundw
     case rel=>exact ⟨_,.inr (.inr (.inr rfl)),rfl⟩
     case measure=>simp [intOf]
  ·go_wp2
   go_ret2
   exact ⟨⟨_,_,rfl⟩,by repeat' (with_reducible first|exact HB.out|refine below_drewN ?_ _)⟩
end Go.Proofs.YtkfehdkjeodbmaaGreatDoor.Hole
