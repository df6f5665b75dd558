import Derived.Test.YteglcgnhhoenbaaGreatDoorQ25
import Derived.Test.YteglcgnhhoenbaaGreatDoorQ26
import Derived.Test.YteglcgnhhoenbaaGreatDoorQ27
import Derived.Test.YteglcgnhhoenbaaGreatDoorQ28
import Derived.Test.YteglcgnhhoenbaaGreatDoorQ29
import Derived.Test.YteglcgnhhoenbaaGreatDoorQ30
import Derived.Test.YteglcgnhhoenbaaGreatDoorQ37
set_option linter.all false
set_option maxRecDepth 20000
set_option maxHeartbeats 8000000
open Go.ChangeShapes Go.WideShapes Go.ChangeAt Go.RowKit
open Go.Proofs.Tryz
namespace Go.Proofs.YteglcgnhhoenbaaGreatDoor
namespace Stde
open Go.Deep
open Signed (inB sgn aG aB)
open Reck ReckS ReckM ReckD TurnS
open Busw Busx Busy Stpp Stpq Stps Stcl Stcp Stcq Stcr Stcm Stcn Stco Stcs
def bF (g:SG) (r:S × Bool) (e:Ending) (w':World):Prop:=e=.returned (.bool r.2)/\InS g w' r.1.m r.1.full
theorem aQ {g:SG} {r:S × Bool} {f:FuncId} {args:Array Value} {w:World} {t:S} {b:Bool} (h:Calls prog f args w fun e w'=>e=.returned (.bool b)/\InS g w' t.m t.full) (e1:r.1=t) (e2:r.2=b):Calls prog f args w (bF g r) :=
 h.mono fun e w' h=>⟨by rw [e2];exact h.1,by rw [e1];exact h.2⟩
theorem aYX (s:S) (a v:Int):hl (wr s a v).m=hl s.m:=by rw [<- lH s a v];rfl
theorem l_0 (g:SG) (m:M) (full:Bool) (imm:Int) (i0:0<=imm) (i1:imm<=65535) (w:World) (h:InS g w m full) (hg:Stpq.Good m):Calls prog 83 #[.pointer (some ⟨g.X,0,none⟩),.agg #[.int .i64 0,.bool false,.int .i64 imm]] w (bF g (bY 0 imm ⟨m,full⟩)):=aQ (aKF g m full imm i0 i1 w h hg) rfl rfl
theorem l_1 (g:SG) (m:M) (full:Bool) (imm:Int) (i0:0<=imm) (i1:imm<=65535) (w:World) (h:InS g w m full) (hg:Stpq.Good m):Calls prog 83 #[.pointer (some ⟨g.X,0,none⟩),.agg #[.int .i64 1,.bool false,.int .i64 imm]] w (bF g (bY 1 imm ⟨m,full⟩)):=aQ (aKG g m full imm i0 i1 w h hg) rfl rfl
theorem l_2 (g:SG) (m:M) (full:Bool) (imm:Int) (i0:0<=imm) (i1:imm<=65535) (w:World) (h:InS g w m full) (hg:Stpq.Good m):Calls prog 83 #[.pointer (some ⟨g.X,0,none⟩),.agg #[.int .i64 2,.bool false,.int .i64 imm]] w (bF g (bY 2 imm ⟨m,full⟩)):=aQ (aKH g m full imm i0 i1 w h hg) rfl rfl
theorem l_8 (g:SG) (m:M) (full:Bool) (imm:Int) (i0:0<=imm) (i1:imm<=65535) (w:World) (h:InS g w m full) (hg:Stpq.Good m):Calls prog 83 #[.pointer (some ⟨g.X,0,none⟩),.agg #[.int .i64 8,.bool false,.int .i64 imm]] w (bF g (bY 8 imm ⟨m,full⟩)):=aQ (bHO g m full imm i0 i1 w h hg) rfl rfl
theorem l_9 (g:SG) (m:M) (full:Bool) (imm:Int) (i0:0<=imm) (i1:imm<=65535) (w:World) (h:InS g w m full) (hg:Stpq.Good m):Calls prog 83 #[.pointer (some ⟨g.X,0,none⟩),.agg #[.int .i64 9,.bool false,.int .i64 imm]] w (bF g (bY 9 imm ⟨m,full⟩)):=aQ (bHP g m full imm i0 i1 w h hg) rfl rfl
theorem bLT (g:SG) (m:M) (full:Bool) (imm:Int) (i0:0<=imm) (i1:imm<=65535) (w:World) (h:InS g w m full) (hg:Stpq.Good m):Calls prog 83 #[.pointer (some ⟨g.X,0,none⟩),.agg #[.int .i64 10,.bool false,.int .i64 imm]] w (bF g (bY 10 imm ⟨m,full⟩)):=aQ (bBX g m full imm i0 i1 w h hg) rfl rfl
theorem bLU (g:SG) (m:M) (full:Bool) (imm:Int) (i0:0<=imm) (i1:imm<=65535) (w:World) (h:InS g w m full) (hg:Stpq.Good m):Calls prog 83 #[.pointer (some ⟨g.X,0,none⟩),.agg #[.int .i64 16,.bool false,.int .i64 imm]] w (bF g (bY 16 imm ⟨m,full⟩)):=aQ (bCI g m full imm i0 i1 w h hg) rfl rfl
theorem bLV (g:SG) (m:M) (full:Bool) (imm:Int) (i0:0<=imm) (i1:imm<=65535) (w:World) (h:InS g w m full) (hg:Stpq.Good m):Calls prog 83 #[.pointer (some ⟨g.X,0,none⟩),.agg #[.int .i64 17,.bool false,.int .i64 imm]] w (bF g (bY 17 imm ⟨m,full⟩)):=aQ (bCK g m full imm i0 i1 w h hg) rfl rfl
theorem bLW (g:SG) (m:M) (full:Bool) (imm:Int) (i0:0<=imm) (i1:imm<=65535) (w:World) (h:InS g w m full) (hg:Stpq.Good m):Calls prog 83 #[.pointer (some ⟨g.X,0,none⟩),.agg #[.int .i64 18,.bool false,.int .i64 imm]] w (bF g (bY 18 imm ⟨m,full⟩)):=aQ (bBY g m full imm i0 i1 w h hg) rfl rfl
theorem bLX (g:SG) (m:M) (full:Bool) (imm:Int) (i0:0<=imm) (i1:imm<=65535) (w:World) (h:InS g w m full) (hg:Stpq.Good m):Calls prog 83 #[.pointer (some ⟨g.X,0,none⟩),.agg #[.int .i64 24,.bool false,.int .i64 imm]] w (bF g (bY 24 imm ⟨m,full⟩)):=aQ (bCJ g m full imm i0 i1 w h hg) rfl rfl
theorem bLY (g:SG) (m:M) (full:Bool) (imm:Int) (i0:0<=imm) (i1:imm<=65535) (w:World) (h:InS g w m full) (hg:Stpq.Good m):Calls prog 83 #[.pointer (some ⟨g.X,0,none⟩),.agg #[.int .i64 25,.bool false,.int .i64 imm]] w (bF g (bY 25 imm ⟨m,full⟩)):=aQ (bCL g m full imm i0 i1 w h hg) rfl rfl
theorem bLZ (g:SG) (m:M) (full:Bool) (imm:Int) (i0:0<=imm) (i1:imm<=65535) (w:World) (h:InS g w m full) (hg:Stpq.Good m):Calls prog 83 #[.pointer (some ⟨g.X,0,none⟩),.agg #[.int .i64 26,.bool false,.int .i64 imm]] w (bF g (bY 26 imm ⟨m,full⟩)):=aQ (bBZ g m full imm i0 i1 w h hg) rfl rfl
theorem bMA (g:SG) (m:M) (full:Bool) (imm:Int) (i0:0<=imm) (i1:imm<=65535) (w:World) (h:InS g w m full) (hg:Stpq.Good m):Calls prog 83 #[.pointer (some ⟨g.X,0,none⟩),.agg #[.int .i64 32,.bool false,.int .i64 imm]] w (bF g (bY 32 imm ⟨m,full⟩)):=by
 cases hc:Stpp.cond m 0 with
 | true =>
  have e:bY 32 imm ⟨m,full⟩=(jrE imm ⟨m,full⟩,true):=by
   unfold bY;rw [if_pos (by decide),if_neg (by decide),if_pos (.inr ⟨by decide,hc⟩)]
  exact aQ (aUF g m full imm i0 i1 hc w h hg) (by rw [e];try rfl) (by rw [e])
 | false =>
  have e:bY 32 imm ⟨m,full⟩=(⟨m,full⟩,false):=by
   unfold bY;rw [if_pos (by decide),if_neg (by decide),if_neg (by rintro (h|⟨_,h⟩);exact absurd h (by decide);exact absurd (h.symm.trans hc) (by decide))]
  exact aQ (aUG g m full imm i0 i1 hc w h hg) (by rw [e]) (by rw [e])
theorem bMB (g:SG) (m:M) (full:Bool) (imm:Int) (i0:0<=imm) (i1:imm<=65535) (w:World) (h:InS g w m full) (hg:Stpq.Good m):Calls prog 83 #[.pointer (some ⟨g.X,0,none⟩),.agg #[.int .i64 33,.bool false,.int .i64 imm]] w (bF g (bY 33 imm ⟨m,full⟩)):=aQ (bCM g m full imm i0 i1 w h hg) rfl rfl
theorem bMC (g:SG) (m:M) (full:Bool) (imm:Int) (i0:0<=imm) (i1:imm<=65535) (w:World) (h:InS g w m full) (hg:Stpq.Good m):Calls prog 83 #[.pointer (some ⟨g.X,0,none⟩),.agg #[.int .i64 34,.bool false,.int .i64 imm]] w (bF g (bY 34 imm ⟨m,full⟩)):=aQ (bCA g m full imm i0 i1 w h hg) (by show (⟨aN (wr ⟨m,full⟩ (pr m 2) m.ra).m 2 ((hl (wr ⟨m,full⟩ (pr m 2) m.ra).m+1)%65536),_⟩ : S)=_;rw [aYX];rfl) rfl
theorem bMD (g:SG) (m:M) (full:Bool) (imm:Int) (i0:0<=imm) (i1:imm<=65535) (w:World) (h:InS g w m full) (hg:Stpq.Good m):Calls prog 83 #[.pointer (some ⟨g.X,0,none⟩),.agg #[.int .i64 40,.bool false,.int .i64 imm]] w (bF g (bY 40 imm ⟨m,full⟩)):=by
 cases hc:Stpp.cond m 1 with
 | true =>
  have e:bY 40 imm ⟨m,full⟩=(jrE imm ⟨m,full⟩,true):=by
   unfold bY;rw [if_pos (by decide),if_neg (by decide),if_pos (.inr ⟨by decide,hc⟩)]
  exact aQ (aUH g m full imm i0 i1 hc w h hg) (by rw [e];try rfl) (by rw [e])
 | false =>
  have e:bY 40 imm ⟨m,full⟩=(⟨m,full⟩,false):=by
   unfold bY;rw [if_pos (by decide),if_neg (by decide),if_neg (by rintro (h|⟨_,h⟩);exact absurd h (by decide);exact absurd (h.symm.trans hc) (by decide))]
  exact aQ (aUI g m full imm i0 i1 hc w h hg) (by rw [e]) (by rw [e])
theorem bME (g:SG) (m:M) (full:Bool) (imm:Int) (i0:0<=imm) (i1:imm<=65535) (w:World) (h:InS g w m full) (hg:Stpq.Good m):Calls prog 83 #[.pointer (some ⟨g.X,0,none⟩),.agg #[.int .i64 41,.bool false,.int .i64 imm]] w (bF g (bY 41 imm ⟨m,full⟩)):=aQ (bCN g m full imm i0 i1 w h hg) rfl rfl
theorem bMF (g:SG) (m:M) (full:Bool) (imm:Int) (i0:0<=imm) (i1:imm<=65535) (w:World) (h:InS g w m full) (hg:Stpq.Good m):Calls prog 83 #[.pointer (some ⟨g.X,0,none⟩),.agg #[.int .i64 42,.bool false,.int .i64 imm]] w (bF g (bY 42 imm ⟨m,full⟩)):=aQ (bCB g m full imm i0 i1 w h hg) (rfl) rfl
theorem bMG (g:SG) (m:M) (full:Bool) (imm:Int) (i0:0<=imm) (i1:imm<=65535) (w:World) (h:InS g w m full) (hg:Stpq.Good m):Calls prog 83 #[.pointer (some ⟨g.X,0,none⟩),.agg #[.int .i64 48,.bool false,.int .i64 imm]] w (bF g (bY 48 imm ⟨m,full⟩)):=by
 cases hc:Stpp.cond m 2 with
 | true =>
  have e:bY 48 imm ⟨m,full⟩=(jrE imm ⟨m,full⟩,true):=by
   unfold bY;rw [if_pos (by decide),if_neg (by decide),if_pos (.inr ⟨by decide,hc⟩)]
  exact aQ (aUJ g m full imm i0 i1 hc w h hg) (by rw [e];try rfl) (by rw [e])
 | false =>
  have e:bY 48 imm ⟨m,full⟩=(⟨m,full⟩,false):=by
   unfold bY;rw [if_pos (by decide),if_neg (by decide),if_neg (by rintro (h|⟨_,h⟩);exact absurd h (by decide);exact absurd (h.symm.trans hc) (by decide))]
  exact aQ (aUK g m full imm i0 i1 hc w h hg) (by rw [e]) (by rw [e])
theorem bMH (g:SG) (m:M) (full:Bool) (imm:Int) (i0:0<=imm) (i1:imm<=65535) (w:World) (h:InS g w m full) (hg:Stpq.Good m):Calls prog 83 #[.pointer (some ⟨g.X,0,none⟩),.agg #[.int .i64 49,.bool false,.int .i64 imm]] w (bF g (bY 49 imm ⟨m,full⟩)):=aQ (bCO g m full imm i0 i1 w h hg) rfl rfl
theorem bMI (g:SG) (m:M) (full:Bool) (imm:Int) (i0:0<=imm) (i1:imm<=65535) (w:World) (h:InS g w m full) (hg:Stpq.Good m):Calls prog 83 #[.pointer (some ⟨g.X,0,none⟩),.agg #[.int .i64 50,.bool false,.int .i64 imm]] w (bF g (bY 50 imm ⟨m,full⟩)):=aQ (bCC g m full imm i0 i1 w h hg) (by show (⟨aN (wr ⟨m,full⟩ (pr m 2) m.ra).m 2 ((hl (wr ⟨m,full⟩ (pr m 2) m.ra).m+65535)%65536),_⟩ : S)=_;rw [aYX];rfl) rfl
theorem bMJ (g:SG) (m:M) (full:Bool) (imm:Int) (i0:0<=imm) (i1:imm<=65535) (w:World) (h:InS g w m full) (hg:Stpq.Good m):Calls prog 83 #[.pointer (some ⟨g.X,0,none⟩),.agg #[.int .i64 56,.bool false,.int .i64 imm]] w (bF g (bY 56 imm ⟨m,full⟩)):=by
 cases hc:Stpp.cond m 3 with
 | true =>
  have e:bY 56 imm ⟨m,full⟩=(jrE imm ⟨m,full⟩,true):=by
   unfold bY;rw [if_pos (by decide),if_neg (by decide),if_pos (.inr ⟨by decide,hc⟩)]
  exact aQ (aUL g m full imm i0 i1 hc w h hg) (by rw [e];try rfl) (by rw [e])
 | false =>
  have e:bY 56 imm ⟨m,full⟩=(⟨m,full⟩,false):=by
   unfold bY;rw [if_pos (by decide),if_neg (by decide),if_neg (by rintro (h|⟨_,h⟩);exact absurd h (by decide);exact absurd (h.symm.trans hc) (by decide))]
  exact aQ (aUM g m full imm i0 i1 hc w h hg) (by rw [e]) (by rw [e])
theorem bMK (g:SG) (m:M) (full:Bool) (imm:Int) (i0:0<=imm) (i1:imm<=65535) (w:World) (h:InS g w m full) (hg:Stpq.Good m):Calls prog 83 #[.pointer (some ⟨g.X,0,none⟩),.agg #[.int .i64 57,.bool false,.int .i64 imm]] w (bF g (bY 57 imm ⟨m,full⟩)):=aQ (bCP g m full imm i0 i1 w h hg) rfl rfl
theorem bML (g:SG) (m:M) (full:Bool) (imm:Int) (i0:0<=imm) (i1:imm<=65535) (w:World) (h:InS g w m full) (hg:Stpq.Good m):Calls prog 83 #[.pointer (some ⟨g.X,0,none⟩),.agg #[.int .i64 58,.bool false,.int .i64 imm]] w (bF g (bY 58 imm ⟨m,full⟩)):=aQ (bCD g m full imm i0 i1 w h hg) (rfl) rfl
theorem kC (g:SG) (m:M) (full:Bool) (c imm:Int) (c0:0<=c) (c1:c<64) (hi:rI c false imm) (w:World) (h:InS g w m full) (hg:Stpq.Good m):Calls prog 83 #[.pointer (some ⟨g.X,0,none⟩),.agg #[.int .i64 c,.bool false,.int .i64 imm]] w (bF g (bY c imm ⟨m,full⟩)):=by
 rcases hi with hi|⟨i0,i1,i2,i3⟩
 ·cases hi
 have hz:c%8=0 \/ c%8=1 \/ c%8=2 \/ c%8=3 \/ c%8=4 \/ c%8=5 \/ c%8=6 \/ c%8=7:=by omega
 rcases hz with hz|hz|hz|hz|hz|hz|hz|hz
 ·have hc:c=0 \/ c=8 \/ c=16 \/ c=24 \/ c=32 \/ c=40 \/ c=48 \/ c=56:=by omega
  rcases hc with rfl|rfl|rfl|rfl|rfl|rfl|rfl|rfl
  ·exact l_0 g m full imm i0 i1 w h hg
  ·exact l_8 g m full imm i0 i1 w h hg
  ·exact bLU g m full imm i0 i1 w h hg
  ·exact bLX g m full imm i0 i1 w h hg
  ·exact bMA g m full imm i0 i1 w h hg
  ·exact bMD g m full imm i0 i1 w h hg
  ·exact bMG g m full imm i0 i1 w h hg
  ·exact bMJ g m full imm i0 i1 w h hg
 ·have hc:c=1 \/ c=9 \/ c=17 \/ c=25 \/ c=33 \/ c=41 \/ c=49 \/ c=57:=by omega
  rcases hc with rfl|rfl|rfl|rfl|rfl|rfl|rfl|rfl
  ·exact l_1 g m full imm i0 i1 w h hg
  ·exact l_9 g m full imm i0 i1 w h hg
  ·exact bLV g m full imm i0 i1 w h hg
  ·exact bLY g m full imm i0 i1 w h hg
  ·exact bMB g m full imm i0 i1 w h hg
  ·exact bME g m full imm i0 i1 w h hg
  ·exact bMH g m full imm i0 i1 w h hg
  ·exact bMK g m full imm i0 i1 w h hg
 ·have hc:c=2 \/ c=10 \/ c=18 \/ c=26 \/ c=34 \/ c=42 \/ c=50 \/ c=58:=by omega
  rcases hc with rfl|rfl|rfl|rfl|rfl|rfl|rfl|rfl
  ·exact l_2 g m full imm i0 i1 w h hg
  ·exact bLT g m full imm i0 i1 w h hg
  ·exact bLW g m full imm i0 i1 w h hg
  ·exact bLZ g m full imm i0 i1 w h hg
  ·exact bMC g m full imm i0 i1 w h hg
  ·exact bMF g m full imm i0 i1 w h hg
  ·exact bMI g m full imm i0 i1 w h hg
  ·exact bML g m full imm i0 i1 w h hg
 ·have hq:c / 8%2=0 \/ c / 8%2=1:=by omega
  rcases hq with hq|hq
  ·refine aQ (bCQ g m full imm c (c / 8) (c / 8 / 2) c0 rfl rfl hq (by omega) (by omega) (by omega) hz i0 i1 w h hg) ?_ ?_
   all_goals
    unfold bY;rw [if_neg (by omega),if_neg (by omega),if_neg (by omega),if_pos hz];try rw [if_pos hq]
  ·refine aQ (bCR g m full imm c (c / 8) (c / 8 / 2) c0 rfl rfl hq (by omega) (by omega) (by omega) hz i0 i1 w h hg) ?_ ?_
   all_goals
    unfold bY;rw [if_neg (by omega),if_neg (by omega),if_neg (by omega),if_pos hz];try rw [if_neg (by omega)]
 ·refine aQ (bCE g m full imm c (c / 8) c0 rfl (by omega) (by omega) hz i0 i1 w h hg) ?_ ?_
  all_goals
   unfold bY;rw [if_neg (by omega),if_neg (by omega),if_neg (by omega),if_neg (by omega),if_pos hz]
 ·refine aQ (bCF g m full imm c (c / 8) c0 rfl (by omega) (by omega) hz i0 i1 w h hg) ?_ ?_
  all_goals
   unfold bY;rw [if_neg (by omega),if_neg (by omega),if_neg (by omega),if_neg (by omega),if_neg (by omega),if_pos hz]
 ·refine aQ (bCG g m full imm c (c / 8) c0 rfl (by omega) (by omega) hz (i2 c1 (by omega) (by omega)) i0 i1 w h hg) ?_ ?_
  all_goals
   unfold bY;rw [if_neg (by omega),if_neg (by omega),if_neg (by omega),if_neg (by omega),if_neg (by omega),if_neg (by omega),if_pos hz]
 ·refine aQ (bCH g m full imm c (c / 8) c0 rfl (by omega) (by omega) hz i0 i1 w h hg) ?_ ?_
  all_goals
   unfold bY;rw [if_neg (by omega),if_neg (by omega),if_neg (by omega),if_neg (by omega),if_neg (by omega),if_neg (by omega),if_neg (by omega)]
theorem bIR (g:SG) (m:M) (full:Bool) (imm:Int) (i0:0<=imm) (i1:imm<=65535) (w:World) (h:InS g w m full) (hg:Stpq.Good m):Calls prog 87 #[.pointer (some ⟨g.X,0,none⟩),.agg #[.int .i64 192,.bool false,.int .i64 imm]] w (bF g (aW 192 imm ⟨m,full⟩)):=by
 cases hc:Stpp.cond m 0 with
 | true =>
  have e:aW 192 imm ⟨m,full⟩=(aBX (decide ((192:Int)=217)) ⟨m,full⟩,true):=by
   unfold aW;rw [if_pos (.inl ⟨by decide,by decide,hc⟩)]
  exact aQ (aNO g m full imm i0 i1 hc w h hg) (by rw [e];try rfl) (by rw [e])
 | false =>
  have e:aW 192 imm ⟨m,full⟩=(⟨m,full⟩,false):=by
   unfold aW;rw [if_neg (by rintro (⟨_,_,h⟩|h|h);exact absurd (h.symm.trans hc) (by decide);exact absurd h (by decide);exact absurd h (by decide)),if_neg (by decide),if_neg (by decide),if_neg (by decide),if_neg (by decide),if_neg (by decide),if_neg (by decide),if_neg (by decide),if_neg (by decide),if_neg (by decide),if_neg (by decide),if_neg (by decide),if_neg (by decide),if_neg (by rintro (⟨h,_,_⟩|h) <;> exact absurd h (by decide)),if_neg (by decide),if_neg (by rintro (⟨h,_⟩|h) <;> exact absurd h (by decide)),if_neg (by decide),if_neg (by decide)]
  exact aQ (aNP g m full imm i0 i1 hc w h hg) (by rw [e]) (by rw [e])
theorem bIS (g:SG) (m:M) (full:Bool) (imm:Int) (i0:0<=imm) (i1:imm<=65535) (w:World) (h:InS g w m full) (hg:Stpq.Good m):Calls prog 87 #[.pointer (some ⟨g.X,0,none⟩),.agg #[.int .i64 193,.bool false,.int .i64 imm]] w (bF g (aW 193 imm ⟨m,full⟩)):=aQ (aUQ g m full imm i0 i1 w h hg) rfl rfl
theorem bIT (g:SG) (m:M) (full:Bool) (imm:Int) (i0:0<=imm) (i1:imm<=65535) (w:World) (h:InS g w m full) (hg:Stpq.Good m):Calls prog 87 #[.pointer (some ⟨g.X,0,none⟩),.agg #[.int .i64 194,.bool false,.int .i64 imm]] w (bF g (aW 194 imm ⟨m,full⟩)):=by
 cases hc:Stpp.cond m 0 with
 | true =>
  have e:aW 194 imm ⟨m,full⟩=(⟨{ m with pc:=imm },full⟩,true):=by
   unfold aW;rw [if_neg (by rintro (⟨h,_,_⟩|h|h) <;> exact absurd h (by decide)),if_neg (by decide),if_neg (by decide),if_neg (by decide),if_neg (by decide),if_neg (by decide),if_neg (by decide),if_neg (by decide),if_neg (by decide),if_neg (by decide),if_neg (by decide),if_neg (by decide),if_neg (by decide),if_pos (.inl ⟨by decide,by decide,hc⟩)]
  exact aQ (aNM g m full imm i0 i1 hc w h hg) (by rw [e];try rfl) (by rw [e])
 | false =>
  have e:aW 194 imm ⟨m,full⟩=(⟨m,full⟩,false):=by
   unfold aW;rw [if_neg (by rintro (⟨h,_,_⟩|h|h) <;> exact absurd h (by decide)),if_neg (by decide),if_neg (by decide),if_neg (by decide),if_neg (by decide),if_neg (by decide),if_neg (by decide),if_neg (by decide),if_neg (by decide),if_neg (by decide),if_neg (by decide),if_neg (by decide),if_neg (by decide),if_neg (by rintro (⟨_,_,h⟩|h);exact absurd (h.symm.trans hc) (by decide);exact absurd h (by decide)),if_neg (by decide),if_neg (by rintro (⟨h,_⟩|h) <;> exact absurd h (by decide)),if_neg (by decide),if_neg (by decide)]
  exact aQ (aNQ g m full imm i0 i1 hc w h hg) (by rw [e]) (by rw [e])
theorem bIU (g:SG) (m:M) (full:Bool) (imm:Int) (i0:0<=imm) (i1:imm<=65535) (w:World) (h:InS g w m full) (hg:Stpq.Good m):Calls prog 87 #[.pointer (some ⟨g.X,0,none⟩),.agg #[.int .i64 195,.bool false,.int .i64 imm]] w (bF g (aW 195 imm ⟨m,full⟩)):=aQ (aUS g m full imm i0 i1 w h hg) rfl rfl
theorem bIV (g:SG) (m:M) (full:Bool) (imm:Int) (i0:0<=imm) (i1:imm<=65535) (w:World) (h:InS g w m full) (hg:Stpq.Good m):Calls prog 87 #[.pointer (some ⟨g.X,0,none⟩),.agg #[.int .i64 196,.bool false,.int .i64 imm]] w (bF g (aW 196 imm ⟨m,full⟩)):=by
 cases hc:Stpp.cond m 0 with
 | true =>
  have e:aW 196 imm ⟨m,full⟩=(aR imm ⟨m,full⟩,true):=by
   unfold aW;rw [if_neg (by rintro (⟨h,_,_⟩|h|h) <;> exact absurd h (by decide)),if_neg (by decide),if_neg (by decide),if_neg (by decide),if_neg (by decide),if_neg (by decide),if_neg (by decide),if_neg (by decide),if_neg (by decide),if_neg (by decide),if_neg (by decide),if_neg (by decide),if_neg (by decide),if_neg (by rintro (⟨h,_,_⟩|h) <;> exact absurd h (by decide)),if_neg (by decide),if_pos (.inl ⟨by decide,hc⟩)]
  exact aQ (aNH g m full imm i0 i1 hc w h hg) (by rw [e];try rfl) (by rw [e])
 | false =>
  have e:aW 196 imm ⟨m,full⟩=(⟨m,full⟩,false):=by
   unfold aW;rw [if_neg (by rintro (⟨h,_,_⟩|h|h) <;> exact absurd h (by decide)),if_neg (by decide),if_neg (by decide),if_neg (by decide),if_neg (by decide),if_neg (by decide),if_neg (by decide),if_neg (by decide),if_neg (by decide),if_neg (by decide),if_neg (by decide),if_neg (by decide),if_neg (by decide),if_neg (by rintro (⟨h,_,_⟩|h) <;> exact absurd h (by decide)),if_neg (by decide),if_neg (by rintro (⟨_,h⟩|h);exact absurd (h.symm.trans hc) (by decide);exact absurd h (by decide)),if_neg (by decide),if_neg (by decide)]
  exact aQ (aNR g m full imm i0 i1 hc w h hg) (by rw [e]) (by rw [e])
theorem bIW (g:SG) (m:M) (full:Bool) (imm:Int) (i0:0<=imm) (i1:imm<=65535) (w:World) (h:InS g w m full) (hg:Stpq.Good m):Calls prog 87 #[.pointer (some ⟨g.X,0,none⟩),.agg #[.int .i64 197,.bool false,.int .i64 imm]] w (bF g (aW 197 imm ⟨m,full⟩)):=aQ (aVA g m full imm i0 i1 w h hg) rfl rfl
theorem bIX (g:SG) (m:M) (full:Bool) (imm:Int) (i0:0<=imm) (i1:imm<=65535) (ib:imm<=255) (w:World) (h:InS g w m full) (hg:Stpq.Good m):Calls prog 87 #[.pointer (some ⟨g.X,0,none⟩),.agg #[.int .i64 198,.bool false,.int .i64 imm]] w (bF g (aW 198 imm ⟨m,full⟩)):=aQ (aUT g m full imm i0 i1 ib w h hg) rfl rfl
theorem bIY (g:SG) (m:M) (full:Bool) (imm:Int) (i0:0<=imm) (i1:imm<=65535) (w:World) (h:InS g w m full) (hg:Stpq.Good m):Calls prog 87 #[.pointer (some ⟨g.X,0,none⟩),.agg #[.int .i64 199,.bool false,.int .i64 imm]] w (bF g (aW 199 imm ⟨m,full⟩)):=aQ (aVD g m full imm i0 i1 w h hg) rfl rfl
theorem bIZ (g:SG) (m:M) (full:Bool) (imm:Int) (i0:0<=imm) (i1:imm<=65535) (w:World) (h:InS g w m full) (hg:Stpq.Good m):Calls prog 87 #[.pointer (some ⟨g.X,0,none⟩),.agg #[.int .i64 200,.bool false,.int .i64 imm]] w (bF g (aW 200 imm ⟨m,full⟩)):=by
 cases hc:Stpp.cond m 1 with
 | true =>
  have e:aW 200 imm ⟨m,full⟩=(aBX (decide ((200:Int)=217)) ⟨m,full⟩,true):=by
   unfold aW;rw [if_pos (.inl ⟨by decide,by decide,hc⟩)]
  exact aQ (aNU g m full imm i0 i1 hc w h hg) (by rw [e];try rfl) (by rw [e])
 | false =>
  have e:aW 200 imm ⟨m,full⟩=(⟨m,full⟩,false):=by
   unfold aW;rw [if_neg (by rintro (⟨_,_,h⟩|h|h);exact absurd (h.symm.trans hc) (by decide);exact absurd h (by decide);exact absurd h (by decide)),if_neg (by decide),if_neg (by decide),if_neg (by decide),if_neg (by decide),if_neg (by decide),if_neg (by decide),if_neg (by decide),if_neg (by decide),if_neg (by decide),if_neg (by decide),if_neg (by decide),if_neg (by decide),if_neg (by rintro (⟨h,_,_⟩|h) <;> exact absurd h (by decide)),if_neg (by decide),if_neg (by rintro (⟨h,_⟩|h) <;> exact absurd h (by decide)),if_neg (by decide),if_neg (by decide)]
  exact aQ (aNV g m full imm i0 i1 hc w h hg) (by rw [e]) (by rw [e])
theorem bJA (g:SG) (m:M) (full:Bool) (imm:Int) (i0:0<=imm) (i1:imm<=65535) (w:World) (h:InS g w m full) (hg:Stpq.Good m):Calls prog 87 #[.pointer (some ⟨g.X,0,none⟩),.agg #[.int .i64 201,.bool false,.int .i64 imm]] w (bF g (aW 201 imm ⟨m,full⟩)):=aQ (aUN g m full imm i0 i1 w h hg) rfl rfl
theorem bJB (g:SG) (m:M) (full:Bool) (imm:Int) (i0:0<=imm) (i1:imm<=65535) (w:World) (h:InS g w m full) (hg:Stpq.Good m):Calls prog 87 #[.pointer (some ⟨g.X,0,none⟩),.agg #[.int .i64 202,.bool false,.int .i64 imm]] w (bF g (aW 202 imm ⟨m,full⟩)):=by
 cases hc:Stpp.cond m 1 with
 | true =>
  have e:aW 202 imm ⟨m,full⟩=(⟨{ m with pc:=imm },full⟩,true):=by
   unfold aW;rw [if_neg (by rintro (⟨h,_,_⟩|h|h) <;> exact absurd h (by decide)),if_neg (by decide),if_neg (by decide),if_neg (by decide),if_neg (by decide),if_neg (by decide),if_neg (by decide),if_neg (by decide),if_neg (by decide),if_neg (by decide),if_neg (by decide),if_neg (by decide),if_neg (by decide),if_pos (.inl ⟨by decide,by decide,hc⟩)]
  exact aQ (aNS g m full imm i0 i1 hc w h hg) (by rw [e];try rfl) (by rw [e])
 | false =>
  have e:aW 202 imm ⟨m,full⟩=(⟨m,full⟩,false):=by
   unfold aW;rw [if_neg (by rintro (⟨h,_,_⟩|h|h) <;> exact absurd h (by decide)),if_neg (by decide),if_neg (by decide),if_neg (by decide),if_neg (by decide),if_neg (by decide),if_neg (by decide),if_neg (by decide),if_neg (by decide),if_neg (by decide),if_neg (by decide),if_neg (by decide),if_neg (by decide),if_neg (by rintro (⟨_,_,h⟩|h);exact absurd (h.symm.trans hc) (by decide);exact absurd h (by decide)),if_neg (by decide),if_neg (by rintro (⟨h,_⟩|h) <;> exact absurd h (by decide)),if_neg (by decide),if_neg (by decide)]
  exact aQ (aNW g m full imm i0 i1 hc w h hg) (by rw [e]) (by rw [e])
theorem bJC (g:SG) (m:M) (full:Bool) (imm:Int) (i0:0<=imm) (i1:imm<=65535) (w:World) (h:InS g w m full) (hg:Stpq.Good m):Calls prog 87 #[.pointer (some ⟨g.X,0,none⟩),.agg #[.int .i64 204,.bool false,.int .i64 imm]] w (bF g (aW 204 imm ⟨m,full⟩)):=by
 cases hc:Stpp.cond m 1 with
 | true =>
  have e:aW 204 imm ⟨m,full⟩=(aR imm ⟨m,full⟩,true):=by
   unfold aW;rw [if_neg (by rintro (⟨h,_,_⟩|h|h) <;> exact absurd h (by decide)),if_neg (by decide),if_neg (by decide),if_neg (by decide),if_neg (by decide),if_neg (by decide),if_neg (by decide),if_neg (by decide),if_neg (by decide),if_neg (by decide),if_neg (by decide),if_neg (by decide),if_neg (by decide),if_neg (by rintro (⟨h,_,_⟩|h) <;> exact absurd h (by decide)),if_neg (by decide),if_pos (.inl ⟨by decide,hc⟩)]
  exact aQ (aNN g m full imm i0 i1 hc w h hg) (by rw [e];try rfl) (by rw [e])
 | false =>
  have e:aW 204 imm ⟨m,full⟩=(⟨m,full⟩,false):=by
   unfold aW;rw [if_neg (by rintro (⟨h,_,_⟩|h|h) <;> exact absurd h (by decide)),if_neg (by decide),if_neg (by decide),if_neg (by decide),if_neg (by decide),if_neg (by decide),if_neg (by decide),if_neg (by decide),if_neg (by decide),if_neg (by decide),if_neg (by decide),if_neg (by decide),if_neg (by decide),if_neg (by rintro (⟨h,_,_⟩|h) <;> exact absurd h (by decide)),if_neg (by decide),if_neg (by rintro (⟨_,h⟩|h);exact absurd (h.symm.trans hc) (by decide);exact absurd h (by decide)),if_neg (by decide),if_neg (by decide)]
  exact aQ (aNX g m full imm i0 i1 hc w h hg) (by rw [e]) (by rw [e])
theorem bJD (g:SG) (m:M) (full:Bool) (imm:Int) (i0:0<=imm) (i1:imm<=65535) (w:World) (h:InS g w m full) (hg:Stpq.Good m):Calls prog 87 #[.pointer (some ⟨g.X,0,none⟩),.agg #[.int .i64 205,.bool false,.int .i64 imm]] w (bF g (aW 205 imm ⟨m,full⟩)):=aQ (aVW g m full imm i0 i1 w h hg) rfl rfl
theorem bJE (g:SG) (m:M) (full:Bool) (imm:Int) (i0:0<=imm) (i1:imm<=65535) (ib:imm<=255) (w:World) (h:InS g w m full) (hg:Stpq.Good m):Calls prog 87 #[.pointer (some ⟨g.X,0,none⟩),.agg #[.int .i64 206,.bool false,.int .i64 imm]] w (bF g (aW 206 imm ⟨m,full⟩)):=aQ (aVN g m full imm i0 i1 ib w h hg) rfl rfl
theorem bJF (g:SG) (m:M) (full:Bool) (imm:Int) (i0:0<=imm) (i1:imm<=65535) (w:World) (h:InS g w m full) (hg:Stpq.Good m):Calls prog 87 #[.pointer (some ⟨g.X,0,none⟩),.agg #[.int .i64 207,.bool false,.int .i64 imm]] w (bF g (aW 207 imm ⟨m,full⟩)):=aQ (aVX g m full imm i0 i1 w h hg) rfl rfl
theorem bJG (g:SG) (m:M) (full:Bool) (imm:Int) (i0:0<=imm) (i1:imm<=65535) (w:World) (h:InS g w m full) (hg:Stpq.Good m):Calls prog 87 #[.pointer (some ⟨g.X,0,none⟩),.agg #[.int .i64 208,.bool false,.int .i64 imm]] w (bF g (aW 208 imm ⟨m,full⟩)):=by
 cases hc:Stpp.cond m 2 with
 | true =>
  have e:aW 208 imm ⟨m,full⟩=(aBX (decide ((208:Int)=217)) ⟨m,full⟩,true):=by
   unfold aW;rw [if_pos (.inl ⟨by decide,by decide,hc⟩)]
  exact aQ (aNC g m full imm i0 i1 hc w h hg) (by rw [e];try rfl) (by rw [e])
 | false =>
  have e:aW 208 imm ⟨m,full⟩=(⟨m,full⟩,false):=by
   unfold aW;rw [if_neg (by rintro (⟨_,_,h⟩|h|h);exact absurd (h.symm.trans hc) (by decide);exact absurd h (by decide);exact absurd h (by decide)),if_neg (by decide),if_neg (by decide),if_neg (by decide),if_neg (by decide),if_neg (by decide),if_neg (by decide),if_neg (by decide),if_neg (by decide),if_neg (by decide),if_neg (by decide),if_neg (by decide),if_neg (by decide),if_neg (by rintro (⟨h,_,_⟩|h) <;> exact absurd h (by decide)),if_neg (by decide),if_neg (by rintro (⟨h,_⟩|h) <;> exact absurd h (by decide)),if_neg (by decide),if_neg (by decide)]
  exact aQ (aND g m full imm i0 i1 hc w h hg) (by rw [e]) (by rw [e])
theorem bJH (g:SG) (m:M) (full:Bool) (imm:Int) (i0:0<=imm) (i1:imm<=65535) (w:World) (h:InS g w m full) (hg:Stpq.Good m):Calls prog 87 #[.pointer (some ⟨g.X,0,none⟩),.agg #[.int .i64 209,.bool false,.int .i64 imm]] w (bF g (aW 209 imm ⟨m,full⟩)):=aQ (aVK g m full imm i0 i1 w h hg) rfl rfl
theorem bJI (g:SG) (m:M) (full:Bool) (imm:Int) (i0:0<=imm) (i1:imm<=65535) (w:World) (h:InS g w m full) (hg:Stpq.Good m):Calls prog 87 #[.pointer (some ⟨g.X,0,none⟩),.agg #[.int .i64 210,.bool false,.int .i64 imm]] w (bF g (aW 210 imm ⟨m,full⟩)):=by
 cases hc:Stpp.cond m 2 with
 | true =>
  have e:aW 210 imm ⟨m,full⟩=(⟨{ m with pc:=imm },full⟩,true):=by
   unfold aW;rw [if_neg (by rintro (⟨h,_,_⟩|h|h) <;> exact absurd h (by decide)),if_neg (by decide),if_neg (by decide),if_neg (by decide),if_neg (by decide),if_neg (by decide),if_neg (by decide),if_neg (by decide),if_neg (by decide),if_neg (by decide),if_neg (by decide),if_neg (by decide),if_neg (by decide),if_pos (.inl ⟨by decide,by decide,hc⟩)]
  exact aQ (aNY g m full imm i0 i1 hc w h hg) (by rw [e];try rfl) (by rw [e])
 | false =>
  have e:aW 210 imm ⟨m,full⟩=(⟨m,full⟩,false):=by
   unfold aW;rw [if_neg (by rintro (⟨h,_,_⟩|h|h) <;> exact absurd h (by decide)),if_neg (by decide),if_neg (by decide),if_neg (by decide),if_neg (by decide),if_neg (by decide),if_neg (by decide),if_neg (by decide),if_neg (by decide),if_neg (by decide),if_neg (by decide),if_neg (by decide),if_neg (by decide),if_neg (by rintro (⟨_,_,h⟩|h);exact absurd (h.symm.trans hc) (by decide);exact absurd h (by decide)),if_neg (by decide),if_neg (by rintro (⟨h,_⟩|h) <;> exact absurd h (by decide)),if_neg (by decide),if_neg (by decide)]
  exact aQ (aNE g m full imm i0 i1 hc w h hg) (by rw [e]) (by rw [e])
theorem bJJ (g:SG) (m:M) (full:Bool) (imm:Int) (i0:0<=imm) (i1:imm<=65535) (w:World) (h:InS g w m full) (hg:Stpq.Good m):Calls prog 87 #[.pointer (some ⟨g.X,0,none⟩),.agg #[.int .i64 212,.bool false,.int .i64 imm]] w (bF g (aW 212 imm ⟨m,full⟩)):=by
 cases hc:Stpp.cond m 2 with
 | true =>
  have e:aW 212 imm ⟨m,full⟩=(aR imm ⟨m,full⟩,true):=by
   unfold aW;rw [if_neg (by rintro (⟨h,_,_⟩|h|h) <;> exact absurd h (by decide)),if_neg (by decide),if_neg (by decide),if_neg (by decide),if_neg (by decide),if_neg (by decide),if_neg (by decide),if_neg (by decide),if_neg (by decide),if_neg (by decide),if_neg (by decide),if_neg (by decide),if_neg (by decide),if_neg (by rintro (⟨h,_,_⟩|h) <;> exact absurd h (by decide)),if_neg (by decide),if_pos (.inl ⟨by decide,hc⟩)]
  exact aQ (aNT g m full imm i0 i1 hc w h hg) (by rw [e];try rfl) (by rw [e])
 | false =>
  have e:aW 212 imm ⟨m,full⟩=(⟨m,full⟩,false):=by
   unfold aW;rw [if_neg (by rintro (⟨h,_,_⟩|h|h) <;> exact absurd h (by decide)),if_neg (by decide),if_neg (by decide),if_neg (by decide),if_neg (by decide),if_neg (by decide),if_neg (by decide),if_neg (by decide),if_neg (by decide),if_neg (by decide),if_neg (by decide),if_neg (by decide),if_neg (by decide),if_neg (by rintro (⟨h,_,_⟩|h) <;> exact absurd h (by decide)),if_neg (by decide),if_neg (by rintro (⟨_,h⟩|h);exact absurd (h.symm.trans hc) (by decide);exact absurd h (by decide)),if_neg (by decide),if_neg (by decide)]
  exact aQ (aNF g m full imm i0 i1 hc w h hg) (by rw [e]) (by rw [e])
theorem bJK (g:SG) (m:M) (full:Bool) (imm:Int) (i0:0<=imm) (i1:imm<=65535) (w:World) (h:InS g w m full) (hg:Stpq.Good m):Calls prog 87 #[.pointer (some ⟨g.X,0,none⟩),.agg #[.int .i64 213,.bool false,.int .i64 imm]] w (bF g (aW 213 imm ⟨m,full⟩)):=aQ (aVU g m full imm i0 i1 w h hg) rfl rfl
theorem bJL (g:SG) (m:M) (full:Bool) (imm:Int) (i0:0<=imm) (i1:imm<=65535) (ib:imm<=255) (w:World) (h:InS g w m full) (hg:Stpq.Good m):Calls prog 87 #[.pointer (some ⟨g.X,0,none⟩),.agg #[.int .i64 214,.bool false,.int .i64 imm]] w (bF g (aW 214 imm ⟨m,full⟩)):=aQ (aUU g m full imm i0 i1 ib w h hg) rfl rfl
theorem bJM (g:SG) (m:M) (full:Bool) (imm:Int) (i0:0<=imm) (i1:imm<=65535) (w:World) (h:InS g w m full) (hg:Stpq.Good m):Calls prog 87 #[.pointer (some ⟨g.X,0,none⟩),.agg #[.int .i64 215,.bool false,.int .i64 imm]] w (bF g (aW 215 imm ⟨m,full⟩)):=aQ (aVE g m full imm i0 i1 w h hg) rfl rfl
theorem bJN (g:SG) (m:M) (full:Bool) (imm:Int) (i0:0<=imm) (i1:imm<=65535) (w:World) (h:InS g w m full) (hg:Stpq.Good m):Calls prog 87 #[.pointer (some ⟨g.X,0,none⟩),.agg #[.int .i64 216,.bool false,.int .i64 imm]] w (bF g (aW 216 imm ⟨m,full⟩)):=by
 cases hc:Stpp.cond m 3 with
 | true =>
  have e:aW 216 imm ⟨m,full⟩=(aBX (decide ((216:Int)=217)) ⟨m,full⟩,true):=by
   unfold aW;rw [if_pos (.inl ⟨by decide,by decide,hc⟩)]
  exact aQ (aNI g m full imm i0 i1 hc w h hg) (by rw [e];try rfl) (by rw [e])
 | false =>
  have e:aW 216 imm ⟨m,full⟩=(⟨m,full⟩,false):=by
   unfold aW;rw [if_neg (by rintro (⟨_,_,h⟩|h|h);exact absurd (h.symm.trans hc) (by decide);exact absurd h (by decide);exact absurd h (by decide)),if_neg (by decide),if_neg (by decide),if_neg (by decide),if_neg (by decide),if_neg (by decide),if_neg (by decide),if_neg (by decide),if_neg (by decide),if_neg (by decide),if_neg (by decide),if_neg (by decide),if_neg (by decide),if_neg (by rintro (⟨h,_,_⟩|h) <;> exact absurd h (by decide)),if_neg (by decide),if_neg (by rintro (⟨h,_⟩|h) <;> exact absurd h (by decide)),if_neg (by decide),if_neg (by decide)]
  exact aQ (aNJ g m full imm i0 i1 hc w h hg) (by rw [e]) (by rw [e])
theorem bJO (g:SG) (m:M) (full:Bool) (imm:Int) (i0:0<=imm) (i1:imm<=65535) (w:World) (h:InS g w m full) (hg:Stpq.Good m):Calls prog 87 #[.pointer (some ⟨g.X,0,none⟩),.agg #[.int .i64 217,.bool false,.int .i64 imm]] w (bF g (aW 217 imm ⟨m,full⟩)):=aQ (aUX g m full imm i0 i1 w h hg) rfl rfl
theorem bJP (g:SG) (m:M) (full:Bool) (imm:Int) (i0:0<=imm) (i1:imm<=65535) (w:World) (h:InS g w m full) (hg:Stpq.Good m):Calls prog 87 #[.pointer (some ⟨g.X,0,none⟩),.agg #[.int .i64 218,.bool false,.int .i64 imm]] w (bF g (aW 218 imm ⟨m,full⟩)):=by
 cases hc:Stpp.cond m 3 with
 | true =>
  have e:aW 218 imm ⟨m,full⟩=(⟨{ m with pc:=imm },full⟩,true):=by
   unfold aW;rw [if_neg (by rintro (⟨h,_,_⟩|h|h) <;> exact absurd h (by decide)),if_neg (by decide),if_neg (by decide),if_neg (by decide),if_neg (by decide),if_neg (by decide),if_neg (by decide),if_neg (by decide),if_neg (by decide),if_neg (by decide),if_neg (by decide),if_neg (by decide),if_neg (by decide),if_pos (.inl ⟨by decide,by decide,hc⟩)]
  exact aQ (aNG g m full imm i0 i1 hc w h hg) (by rw [e];try rfl) (by rw [e])
 | false =>
  have e:aW 218 imm ⟨m,full⟩=(⟨m,full⟩,false):=by
   unfold aW;rw [if_neg (by rintro (⟨h,_,_⟩|h|h) <;> exact absurd h (by decide)),if_neg (by decide),if_neg (by decide),if_neg (by decide),if_neg (by decide),if_neg (by decide),if_neg (by decide),if_neg (by decide),if_neg (by decide),if_neg (by decide),if_neg (by decide),if_neg (by decide),if_neg (by decide),if_neg (by rintro (⟨_,_,h⟩|h);exact absurd (h.symm.trans hc) (by decide);exact absurd h (by decide)),if_neg (by decide),if_neg (by rintro (⟨h,_⟩|h) <;> exact absurd h (by decide)),if_neg (by decide),if_neg (by decide)]
  exact aQ (aNK g m full imm i0 i1 hc w h hg) (by rw [e]) (by rw [e])
theorem bJQ (g:SG) (m:M) (full:Bool) (imm:Int) (i0:0<=imm) (i1:imm<=65535) (w:World) (h:InS g w m full) (hg:Stpq.Good m):Calls prog 87 #[.pointer (some ⟨g.X,0,none⟩),.agg #[.int .i64 220,.bool false,.int .i64 imm]] w (bF g (aW 220 imm ⟨m,full⟩)):=by
 cases hc:Stpp.cond m 3 with
 | true =>
  have e:aW 220 imm ⟨m,full⟩=(aR imm ⟨m,full⟩,true):=by
   unfold aW;rw [if_neg (by rintro (⟨h,_,_⟩|h|h) <;> exact absurd h (by decide)),if_neg (by decide),if_neg (by decide),if_neg (by decide),if_neg (by decide),if_neg (by decide),if_neg (by decide),if_neg (by decide),if_neg (by decide),if_neg (by decide),if_neg (by decide),if_neg (by decide),if_neg (by decide),if_neg (by rintro (⟨h,_,_⟩|h) <;> exact absurd h (by decide)),if_neg (by decide),if_pos (.inl ⟨by decide,hc⟩)]
  exact aQ (aNZ g m full imm i0 i1 hc w h hg) (by rw [e];try rfl) (by rw [e])
 | false =>
  have e:aW 220 imm ⟨m,full⟩=(⟨m,full⟩,false):=by
   unfold aW;rw [if_neg (by rintro (⟨h,_,_⟩|h|h) <;> exact absurd h (by decide)),if_neg (by decide),if_neg (by decide),if_neg (by decide),if_neg (by decide),if_neg (by decide),if_neg (by decide),if_neg (by decide),if_neg (by decide),if_neg (by decide),if_neg (by decide),if_neg (by decide),if_neg (by decide),if_neg (by rintro (⟨h,_,_⟩|h) <;> exact absurd h (by decide)),if_neg (by decide),if_neg (by rintro (⟨_,h⟩|h);exact absurd (h.symm.trans hc) (by decide);exact absurd h (by decide)),if_neg (by decide),if_neg (by decide)]
  exact aQ (aNL g m full imm i0 i1 hc w h hg) (by rw [e]) (by rw [e])
theorem bJR (g:SG) (m:M) (full:Bool) (imm:Int) (i0:0<=imm) (i1:imm<=65535) (ib:imm<=255) (w:World) (h:InS g w m full) (hg:Stpq.Good m):Calls prog 87 #[.pointer (some ⟨g.X,0,none⟩),.agg #[.int .i64 222,.bool false,.int .i64 imm]] w (bF g (aW 222 imm ⟨m,full⟩)):=aQ (aVO g m full imm i0 i1 ib w h hg) rfl rfl
theorem bJS (g:SG) (m:M) (full:Bool) (imm:Int) (i0:0<=imm) (i1:imm<=65535) (w:World) (h:InS g w m full) (hg:Stpq.Good m):Calls prog 87 #[.pointer (some ⟨g.X,0,none⟩),.agg #[.int .i64 223,.bool false,.int .i64 imm]] w (bF g (aW 223 imm ⟨m,full⟩)):=aQ (aVY g m full imm i0 i1 w h hg) rfl rfl
theorem bJT (g:SG) (m:M) (full:Bool) (imm:Int) (i0:0<=imm) (i1:imm<=65535) (w:World) (h:InS g w m full) (hg:Stpq.Good m):Calls prog 87 #[.pointer (some ⟨g.X,0,none⟩),.agg #[.int .i64 224,.bool false,.int .i64 imm]] w (bF g (aW 224 imm ⟨m,full⟩)):=aQ (aVH g m full imm i0 i1 w h hg) rfl rfl
theorem bJU (g:SG) (m:M) (full:Bool) (imm:Int) (i0:0<=imm) (i1:imm<=65535) (w:World) (h:InS g w m full) (hg:Stpq.Good m):Calls prog 87 #[.pointer (some ⟨g.X,0,none⟩),.agg #[.int .i64 225,.bool false,.int .i64 imm]] w (bF g (aW 225 imm ⟨m,full⟩)):=aQ (aUR g m full imm i0 i1 w h hg) rfl rfl
theorem bJV (g:SG) (m:M) (full:Bool) (imm:Int) (i0:0<=imm) (i1:imm<=65535) (w:World) (h:InS g w m full) (hg:Stpq.Good m):Calls prog 87 #[.pointer (some ⟨g.X,0,none⟩),.agg #[.int .i64 226,.bool false,.int .i64 imm]] w (bF g (aW 226 imm ⟨m,full⟩)):=aQ (aVR g m full imm i0 i1 w h hg) rfl rfl
theorem bJW (g:SG) (m:M) (full:Bool) (imm:Int) (i0:0<=imm) (i1:imm<=65535) (w:World) (h:InS g w m full) (hg:Stpq.Good m):Calls prog 87 #[.pointer (some ⟨g.X,0,none⟩),.agg #[.int .i64 229,.bool false,.int .i64 imm]] w (bF g (aW 229 imm ⟨m,full⟩)):=aQ (aVB g m full imm i0 i1 w h hg) rfl rfl
theorem bJX (g:SG) (m:M) (full:Bool) (imm:Int) (i0:0<=imm) (i1:imm<=65535) (ib:imm<=255) (w:World) (h:InS g w m full) (hg:Stpq.Good m):Calls prog 87 #[.pointer (some ⟨g.X,0,none⟩),.agg #[.int .i64 230,.bool false,.int .i64 imm]] w (bF g (aW 230 imm ⟨m,full⟩)):=aQ (aUV g m full imm i0 i1 ib w h hg) rfl rfl
theorem bJY (g:SG) (m:M) (full:Bool) (imm:Int) (i0:0<=imm) (i1:imm<=65535) (w:World) (h:InS g w m full) (hg:Stpq.Good m):Calls prog 87 #[.pointer (some ⟨g.X,0,none⟩),.agg #[.int .i64 231,.bool false,.int .i64 imm]] w (bF g (aW 231 imm ⟨m,full⟩)):=aQ (aVF g m full imm i0 i1 w h hg) rfl rfl
theorem bJZ (g:SG) (m:M) (full:Bool) (imm:Int) (i0:0<=imm) (i1:imm<=65535) (ib:imm<=255) (w:World) (h:InS g w m full) (hg:Stpq.Good m):Calls prog 87 #[.pointer (some ⟨g.X,0,none⟩),.agg #[.int .i64 232,.bool false,.int .i64 imm]] w (bF g (aW 232 imm ⟨m,full⟩)):=aQ (aUP g m full imm i0 i1 ib w h hg) rfl rfl
theorem bKA (g:SG) (m:M) (full:Bool) (imm:Int) (i0:0<=imm) (i1:imm<=65535) (w:World) (h:InS g w m full) (hg:Stpq.Good m):Calls prog 87 #[.pointer (some ⟨g.X,0,none⟩),.agg #[.int .i64 233,.bool false,.int .i64 imm]] w (bF g (aW 233 imm ⟨m,full⟩)):=aQ (aVT g m full imm i0 i1 w h hg) rfl rfl
theorem bKB (g:SG) (m:M) (full:Bool) (imm:Int) (i0:0<=imm) (i1:imm<=65535) (w:World) (h:InS g w m full) (hg:Stpq.Good m):Calls prog 87 #[.pointer (some ⟨g.X,0,none⟩),.agg #[.int .i64 234,.bool false,.int .i64 imm]] w (bF g (aW 234 imm ⟨m,full⟩)):=aQ (aUO g m full imm i0 i1 w h hg) rfl rfl
theorem bKC (g:SG) (m:M) (full:Bool) (imm:Int) (i0:0<=imm) (i1:imm<=65535) (ib:imm<=255) (w:World) (h:InS g w m full) (hg:Stpq.Good m):Calls prog 87 #[.pointer (some ⟨g.X,0,none⟩),.agg #[.int .i64 238,.bool false,.int .i64 imm]] w (bF g (aW 238 imm ⟨m,full⟩)):=aQ (aVP g m full imm i0 i1 ib w h hg) rfl rfl
theorem bKD (g:SG) (m:M) (full:Bool) (imm:Int) (i0:0<=imm) (i1:imm<=65535) (w:World) (h:InS g w m full) (hg:Stpq.Good m):Calls prog 87 #[.pointer (some ⟨g.X,0,none⟩),.agg #[.int .i64 239,.bool false,.int .i64 imm]] w (bF g (aW 239 imm ⟨m,full⟩)):=aQ (aVZ g m full imm i0 i1 w h hg) rfl rfl
theorem bKE (g:SG) (m:M) (full:Bool) (imm:Int) (i0:0<=imm) (i1:imm<=65535) (w:World) (h:InS g w m full) (hg:Stpq.Good m):Calls prog 87 #[.pointer (some ⟨g.X,0,none⟩),.agg #[.int .i64 240,.bool false,.int .i64 imm]] w (bF g (aW 240 imm ⟨m,full⟩)):=aQ (aUY g m full imm i0 i1 w h hg) rfl rfl
theorem bKF (g:SG) (m:M) (full:Bool) (imm:Int) (i0:0<=imm) (i1:imm<=65535) (w:World) (h:InS g w m full) (hg:Stpq.Good m):Calls prog 87 #[.pointer (some ⟨g.X,0,none⟩),.agg #[.int .i64 241,.bool false,.int .i64 imm]] w (bF g (aW 241 imm ⟨m,full⟩)):=aQ (aVL g m full imm i0 i1 w h hg) rfl rfl
theorem bKG (g:SG) (m:M) (full:Bool) (imm:Int) (i0:0<=imm) (i1:imm<=65535) (w:World) (h:InS g w m full) (hg:Stpq.Good m):Calls prog 87 #[.pointer (some ⟨g.X,0,none⟩),.agg #[.int .i64 242,.bool false,.int .i64 imm]] w (bF g (aW 242 imm ⟨m,full⟩)):=aQ (aVI g m full imm i0 i1 w h hg) rfl rfl
theorem bKH (g:SG) (m:M) (full:Bool) (imm:Int) (i0:0<=imm) (i1:imm<=65535) (w:World) (h:InS g w m full) (hg:Stpq.Good m):Calls prog 87 #[.pointer (some ⟨g.X,0,none⟩),.agg #[.int .i64 243,.bool false,.int .i64 imm]] w (bF g (aW 243 imm ⟨m,full⟩)):=aQ (aVC g m full imm i0 i1 w h hg) rfl rfl
theorem bKI (g:SG) (m:M) (full:Bool) (imm:Int) (i0:0<=imm) (i1:imm<=65535) (w:World) (h:InS g w m full) (hg:Stpq.Good m):Calls prog 87 #[.pointer (some ⟨g.X,0,none⟩),.agg #[.int .i64 245,.bool false,.int .i64 imm]] w (bF g (aW 245 imm ⟨m,full⟩)):=aQ (aVV g m full imm i0 i1 w h hg) rfl rfl
theorem bKJ (g:SG) (m:M) (full:Bool) (imm:Int) (i0:0<=imm) (i1:imm<=65535) (ib:imm<=255) (w:World) (h:InS g w m full) (hg:Stpq.Good m):Calls prog 87 #[.pointer (some ⟨g.X,0,none⟩),.agg #[.int .i64 246,.bool false,.int .i64 imm]] w (bF g (aW 246 imm ⟨m,full⟩)):=aQ (aUW g m full imm i0 i1 ib w h hg) rfl rfl
theorem bKK (g:SG) (m:M) (full:Bool) (imm:Int) (i0:0<=imm) (i1:imm<=65535) (w:World) (h:InS g w m full) (hg:Stpq.Good m):Calls prog 87 #[.pointer (some ⟨g.X,0,none⟩),.agg #[.int .i64 247,.bool false,.int .i64 imm]] w (bF g (aW 247 imm ⟨m,full⟩)):=aQ (aVG g m full imm i0 i1 w h hg) rfl rfl
theorem bKL (g:SG) (m:M) (full:Bool) (imm:Int) (i0:0<=imm) (i1:imm<=65535) (ib:imm<=255) (w:World) (h:InS g w m full) (hg:Stpq.Good m):Calls prog 87 #[.pointer (some ⟨g.X,0,none⟩),.agg #[.int .i64 248,.bool false,.int .i64 imm]] w (bF g (aW 248 imm ⟨m,full⟩)):=aQ (aUZ g m full imm i0 i1 ib w h hg) rfl rfl
theorem bKM (g:SG) (m:M) (full:Bool) (imm:Int) (i0:0<=imm) (i1:imm<=65535) (w:World) (h:InS g w m full) (hg:Stpq.Good m):Calls prog 87 #[.pointer (some ⟨g.X,0,none⟩),.agg #[.int .i64 249,.bool false,.int .i64 imm]] w (bF g (aW 249 imm ⟨m,full⟩)):=aQ (aVJ g m full imm i0 i1 w h hg) rfl rfl
theorem bKN (g:SG) (m:M) (full:Bool) (imm:Int) (i0:0<=imm) (i1:imm<=65535) (w:World) (h:InS g w m full) (hg:Stpq.Good m):Calls prog 87 #[.pointer (some ⟨g.X,0,none⟩),.agg #[.int .i64 250,.bool false,.int .i64 imm]] w (bF g (aW 250 imm ⟨m,full⟩)):=aQ (aVS g m full imm i0 i1 w h hg) rfl rfl
theorem bKO (g:SG) (m:M) (full:Bool) (imm:Int) (i0:0<=imm) (i1:imm<=65535) (w:World) (h:InS g w m full) (hg:Stpq.Good m):Calls prog 87 #[.pointer (some ⟨g.X,0,none⟩),.agg #[.int .i64 251,.bool false,.int .i64 imm]] w (bF g (aW 251 imm ⟨m,full⟩)):=aQ (aVM g m full imm i0 i1 w h hg) rfl rfl
theorem bKP (g:SG) (m:M) (full:Bool) (imm:Int) (i0:0<=imm) (i1:imm<=65535) (ib:imm<=255) (w:World) (h:InS g w m full) (hg:Stpq.Good m):Calls prog 87 #[.pointer (some ⟨g.X,0,none⟩),.agg #[.int .i64 254,.bool false,.int .i64 imm]] w (bF g (aW 254 imm ⟨m,full⟩)):=aQ (aVQ g m full imm i0 i1 ib w h hg) rfl rfl
theorem bKQ (g:SG) (m:M) (full:Bool) (imm:Int) (i0:0<=imm) (i1:imm<=65535) (w:World) (h:InS g w m full) (hg:Stpq.Good m):Calls prog 87 #[.pointer (some ⟨g.X,0,none⟩),.agg #[.int .i64 255,.bool false,.int .i64 imm]] w (bF g (aW 255 imm ⟨m,full⟩)):=aQ (aWA g m full imm i0 i1 w h hg) rfl rfl
theorem aQV:∀ k:Fin 256,192<=k.val->LenX.bV (k.val:Int) false=false->(k.val=192 \/ k.val=193 \/ k.val=194 \/ k.val=195 \/ k.val=196 \/ k.val=197 \/ k.val=198 \/ k.val=199 \/ k.val=200 \/ k.val=201 \/ k.val=202 \/ k.val=204 \/ k.val=205 \/ k.val=206 \/ k.val=207 \/ k.val=208 \/ k.val=209 \/ k.val=210 \/ k.val=212 \/ k.val=213 \/ k.val=214 \/ k.val=215 \/ k.val=216 \/ k.val=217 \/ k.val=218 \/ k.val=220 \/ k.val=222 \/ k.val=223 \/ k.val=224 \/ k.val=225 \/ k.val=226 \/ k.val=229 \/ k.val=230 \/ k.val=231 \/ k.val=232 \/ k.val=233 \/ k.val=234 \/ k.val=238 \/ k.val=239 \/ k.val=240 \/ k.val=241 \/ k.val=242 \/ k.val=243 \/ k.val=245 \/ k.val=246 \/ k.val=247 \/ k.val=248 \/ k.val=249 \/ k.val=250 \/ k.val=251 \/ k.val=254 \/ k.val=255 \/ k.val=203):=by decide +kernel
theorem mL (g:SG) (m:M) (full:Bool) (c imm:Int) (c0:192<=c) (c1:c<=255) (hn:LenX.bV c false=false) (hb:¬ c=203) (hi:rI c false imm) (w:World) (h:InS g w m full) (hg:Stpq.Good m):Calls prog 87 #[.pointer (some ⟨g.X,0,none⟩),.agg #[.int .i64 c,.bool false,.int .i64 imm]] w (bF g (aW c imm ⟨m,full⟩)):=by
 rcases hi with hi|⟨i0,i1,i2,i3⟩
 ·cases hi
 obtain ⟨k,hk⟩:=Stpc.aX (c:=c) (by omega) c1;have hc:=aQV k (by omega) (by rw [hk];exact hn);have hc2:c=192 \/ c=193 \/ c=194 \/ c=195 \/ c=196 \/ c=197 \/ c=198 \/ c=199 \/ c=200 \/ c=201 \/ c=202 \/ c=204 \/ c=205 \/ c=206 \/ c=207 \/ c=208 \/ c=209 \/ c=210 \/ c=212 \/ c=213 \/ c=214 \/ c=215 \/ c=216 \/ c=217 \/ c=218 \/ c=220 \/ c=222 \/ c=223 \/ c=224 \/ c=225 \/ c=226 \/ c=229 \/ c=230 \/ c=231 \/ c=232 \/ c=233 \/ c=234 \/ c=238 \/ c=239 \/ c=240 \/ c=241 \/ c=242 \/ c=243 \/ c=245 \/ c=246 \/ c=247 \/ c=248 \/ c=249 \/ c=250 \/ c=251 \/ c=254 \/ c=255:=by omega
 rcases hc2 with rfl|rfl|rfl|rfl|rfl|rfl|rfl|rfl|rfl|rfl|rfl|rfl|rfl|rfl|rfl|rfl|rfl|rfl|rfl|rfl|rfl|rfl|rfl|rfl|rfl|rfl|rfl|rfl|rfl|rfl|rfl|rfl|rfl|rfl|rfl|rfl|rfl|rfl|rfl|rfl|rfl|rfl|rfl|rfl|rfl|rfl|rfl|rfl|rfl|rfl|rfl|rfl
 ·exact bIR g m full imm i0 i1 w h hg
 ·exact bIS g m full imm i0 i1 w h hg
 ·exact bIT g m full imm i0 i1 w h hg
 ·exact bIU g m full imm i0 i1 w h hg
 ·exact bIV g m full imm i0 i1 w h hg
 ·exact bIW g m full imm i0 i1 w h hg
 ·exact bIX g m full imm i0 i1 (i3 (by decide)) w h hg
 ·exact bIY g m full imm i0 i1 w h hg
 ·exact bIZ g m full imm i0 i1 w h hg
 ·exact bJA g m full imm i0 i1 w h hg
 ·exact bJB g m full imm i0 i1 w h hg
 ·exact bJC g m full imm i0 i1 w h hg
 ·exact bJD g m full imm i0 i1 w h hg
 ·exact bJE g m full imm i0 i1 (i3 (by decide)) w h hg
 ·exact bJF g m full imm i0 i1 w h hg
 ·exact bJG g m full imm i0 i1 w h hg
 ·exact bJH g m full imm i0 i1 w h hg
 ·exact bJI g m full imm i0 i1 w h hg
 ·exact bJJ g m full imm i0 i1 w h hg
 ·exact bJK g m full imm i0 i1 w h hg
 ·exact bJL g m full imm i0 i1 (i3 (by decide)) w h hg
 ·exact bJM g m full imm i0 i1 w h hg
 ·exact bJN g m full imm i0 i1 w h hg
 ·exact bJO g m full imm i0 i1 w h hg
 ·exact bJP g m full imm i0 i1 w h hg
 ·exact bJQ g m full imm i0 i1 w h hg
 ·exact bJR g m full imm i0 i1 (i3 (by decide)) w h hg
 ·exact bJS g m full imm i0 i1 w h hg
 ·exact bJT g m full imm i0 i1 w h hg
 ·exact bJU g m full imm i0 i1 w h hg
 ·exact bJV g m full imm i0 i1 w h hg
 ·exact bJW g m full imm i0 i1 w h hg
 ·exact bJX g m full imm i0 i1 (i3 (by decide)) w h hg
 ·exact bJY g m full imm i0 i1 w h hg
 ·exact bJZ g m full imm i0 i1 (i3 (by decide)) w h hg
 ·exact bKA g m full imm i0 i1 w h hg
 ·exact bKB g m full imm i0 i1 w h hg
 ·exact bKC g m full imm i0 i1 (i3 (by decide)) w h hg
 ·exact bKD g m full imm i0 i1 w h hg
 ·exact bKE g m full imm i0 i1 w h hg
 ·exact bKF g m full imm i0 i1 w h hg
 ·exact bKG g m full imm i0 i1 w h hg
 ·exact bKH g m full imm i0 i1 w h hg
 ·exact bKI g m full imm i0 i1 w h hg
 ·exact bKJ g m full imm i0 i1 (i3 (by decide)) w h hg
 ·exact bKK g m full imm i0 i1 w h hg
 ·exact bKL g m full imm i0 i1 (i3 (by decide)) w h hg
 ·exact bKM g m full imm i0 i1 w h hg
 ·exact bKN g m full imm i0 i1 w h hg
 ·exact bKO g m full imm i0 i1 w h hg
 ·exact bKP g m full imm i0 i1 (i3 (by decide)) w h hg
 ·exact bKQ g m full imm i0 i1 w h hg
end Stde
namespace Stdf
open Go.Deep
open Signed (inB sgn aG aB)
open Busw Busx Busy Stpp Stpq Stps Stph Stpo
structure Fe (w W:World) (cM:Array Value) (v:Value) (k:Nat) (xs:List Value):Prop where
 box:W.heap[w.heap.size]? = some (.cells cM 30)
 res:W.heap[w.heap.size+1]? = some (.cells #[.int .i64 0,.bool false,.int .i64 0] 80)
 bel:Below w.heap.size w W
 own:W.ownsRow (w.heap.size+2) 5 1 v k xs
 sz:w.heap.size+2<=W.heap.size
theorem Fe.below {w W W':World} {cM:Array Value} {v:Value} {k:Nat} {xs:List Value} (h:Fe w W cM v k xs) (hb:Below W.heap.size W W'):Fe w W' cM v k xs :=
 ⟨(hb.block _ (zLo h.box)).trans h.box,(hb.block _ (zLo h.res)).trans h.res,HolI.after h.bel hb,h.own.kept (row:=none) ⟨hb.os,hb.tape,hb.output,hb.size,fun k hk _=>hb.block k hk⟩ (by cases hv:v.ownBlock <;> simp),Nat.le_trans h.sz hb.size⟩
theorem Fe.grown {w W W':World} {cM:Array Value} {v v':Value} {k k':Nat} {xs xs':List Value} (h:Fe w W cM v k xs) (hg:W.grownBy W' v.ownBlock) (ho:W'.ownsRow (w.heap.size+2) 5 1 v' k' xs'):Fe w W' cM v' k' xs':=by
 have hs:=h.sz;have hne:∀ b,b<w.heap.size+2->some b ≠ v.ownBlock:=fun b hb e=>by have:=(h.own.lt b e.symm).1;omega
 exact ⟨(hg.block _ (by omega) (hne _ (by omega))).trans h.box,(hg.block _ (by omega) (hne _ (by omega))).trans h.res,⟨hg.os.trans h.bel.os,hg.tape.trans h.bel.tape,hg.output.trans h.bel.output,Nat.le_trans h.bel.size hg.size,fun k hk=>(hg.block k (by have:=h.bel.size;omega) (hne k (by omega))).trans (h.bel.block k hk)⟩,ho,Nat.le_trans hs hg.size⟩
theorem aEK:(prog.info? 5).map (fun i=>(i.zero,i.size,i.bytes))=some (some (.int .u8 0),1,1):=by kernel_rfl
theorem Fe.str {w W:World} {cM:Array Value} {v:Value} {a b c:UInt8} (h:Fe w W cM v 3 [.int .u8 (a.toNat:Int),.int .u8 (b.toNat:Int),.int .u8 (c.toNat:Int)]):(convert 22 9 v).run prog W=.ok (.string ⟨#[a,b,c]⟩) W:=by
 rcases h.own.2 with ⟨_,h0⟩|⟨g,cap,cur,rfl,_,hg,hcap,_,hsz,htake⟩
 ·cases h0
 ·refine run_convert_bytes_back (P:=prog) W 22 9 5 ⟨g,0,none⟩ cap [a,b,c] underlying22 underlying5 underlying9 (fun j hj=>?_)
  have ea:(⟨g,0,none⟩ : Addr).add j=⟨g,j,none⟩:=by unfold Addr.add;split <;> simp_all
  rw [ea,cell_of_row W g j _ _ _ hg];have hj3:j<3:=hj;have e1:cur[j]? = cur.toList[j]?:=by simp
  have e2:cur.toList[j]? = (cur.toList.take (3*1))[j]?:=by rw [List.getElem?_take,if_pos (by omega)]
  rw [e1,e2,htake]
  match j,hj with
  | 0,_=>rfl
  | 1,_=>rfl
  | 2,_=>rfl
theorem aEC (m:M) (po:Option Addr) (cap:Nat) (w:World) (hr:Rt m) (hp:0<=m.pc/\m.pc<=65535) :
  Calls prog 50 #[.agg (aA m po cap)] w fun e w'=>e=.returned (.tuple #[ReadI.dZ (bU m) 0,.int .i64 (ReadI.dD (bU m) 0)])/\Below w.heap.size w w':=by
 obtain ⟨i0,hi,hz0,hz1,hz2⟩:=Busw.info_parts aEK;have CR:Hid (∀ W a,0<=a->Calls prog 100 #[.agg (aA m po cap),.int .i64 a] W fun e w'=>e=.returned (.int .i64 (rd m a))/\Below W.heap.size W w'):=fun W a ha=>eN m po cap a W hr ha
 have e0:=aIQ m 0;have e1:=aIQ m 1;have e2:=aIQ m 2;rw [show m.pc+0=m.pc by omega] at e0
 obtain ⟨c,cb,imm,hI⟩:=ReadJ.iV (bU m) 0;have CI:Hid (∀ W,Calls prog 101 #[.string (bU m),.int .i64 0] W fun e w'=>e=.returned (.tuple #[.agg #[.int .i64 c,.bool cb,.int .i64 imm],.int .i64 (ReadI.dD (bU m) 0)])/\Below W.heap.size W w'):=fun W=>by
  have h:=ReadI.uZ (bU m) 0 W (by rw [eX];decide) (by decide);unfold ReadI.Tup at h
  rw [hI] at h
  exact h
 rw [hI];generalize ReadI.dD (bU m) 0=n at *
 have hF:bU m=⟨#[u m 0,u m 1,u m 2]⟩:=rfl;rw [hF] at CI
 have b0:=(u m 0).toNat_lt;have b1:=(u m 1).toNat_lt;have b2:=(u m 2).toNat_lt;generalize u m 0=u0 at *
 generalize u m 1=u1 at *
 generalize u m 2=u2 at *
 have z0:IntKind.u8.wrap (u0.toNat:Int)=u0.toNat:=by rw [IntKind.wrap_u8];omega
 have z1:IntKind.u8.wrap (u1.toNat:Int)=u1.toNat:=by rw [IntKind.wrap_u8];omega
 have z2:IntKind.u8.wrap (u2.toNat:Int)=u2.toNat:=by rw [IntKind.wrap_u8];omega
 have d0:IntKind.i64.wrap m.pc=m.pc:=by rw [x6];omega
 have d0':wrap64 m.pc=m.pc:=by unfold wrap64;omega
 have d1:IntKind.i64.wrap (m.pc+1)=m.pc+1:=by rw [x6];omega
 have d2:IntKind.i64.wrap (m.pc+2)=m.pc+2:=by rw [x6];omega
 have t0:m.pc.tmod 65536=m.pc%65536:=x4 hp.1;have t1:(m.pc+1).tmod 65536=(m.pc+1)%65536:=x4 (by omega);have t2:(m.pc+2).tmod 65536=(m.pc+2)%65536:=x4 (by omega);have H0:Hid (∀ W,Calls prog 100 #[.agg (aA m po cap),.int .i64 (m.pc%65536)] W fun e w'=>e=.returned (.int .i64 (u0.toNat:Int))/\Below W.heap.size W w'):=fun W=>by rw [e0];exact CR.out W _ (by omega)
 have H1:Hid (∀ W,Calls prog 100 #[.agg (aA m po cap),.int .i64 ((m.pc+1)%65536)] W fun e w'=>e=.returned (.int .i64 (u1.toNat:Int))/\Below W.heap.size W w'):=fun W=>by rw [e1];exact CR.out W _ (by omega)
 have H2:Hid (∀ W,Calls prog 100 #[.agg (aA m po cap),.int .i64 ((m.pc+2)%65536)] W fun e w'=>e=.returned (.int .i64 (u2.toNat:Int))/\Below W.heap.size W w'):=fun W=>by rw [e2];exact CR.out W _ (by omega)
 obtain ⟨cM,hcM⟩ : ∃ c,c=aA m po cap:=⟨_,rfl⟩
 have HIM:Hid ((prog.info? 30).map (·.size)=some cM.size):=hcM ▸ aP m po cap;have HPC:Hid (∀ (W:World),W.heap[w.heap.size]? = some (.cells cM 30)->W.cell? ⟨w.heap.size,9,none⟩=some (.int .i64 m.pc)):=fun W h=>by rw [hcM] at h;exact eM h 9 _ rfl
 rw [<- hcM] at H0 H1 H2 |-
 obtain ⟨W0,hW0⟩ : ∃ u,u=((w.alloc (.cells cM 30)).alloc (.cells #[.int .i64 0,.bool false,.int .i64 0] 80)).alloc (.cells #[] 5):=⟨_,rfl⟩
 have F0:Hid (Fe w W0 cM (.slice (some ⟨w.heap.size+2,0,none⟩) 0 0) 0 []):=by
  have hs1:((w.alloc (.cells cM 30)).alloc (.cells #[.int .i64 0,.bool false,.int .i64 0] 80)).heap.size=w.heap.size+2:=by simp
  have ho:=World.ownsRow_lit (base:=w.heap.size+2) (e:=5) (size:=1) ((w.alloc (.cells cM 30)).alloc (.cells #[.int .i64 0,.bool false,.int .i64 0] 80)) #[] 0 (by rw [hs1];exact Nat.le_refl _) (Nat.zero_le _) rfl;rw [hs1] at ho
  have h2:=heap_alloc_last (w.alloc (.cells cM 30)) (.cells #[.int .i64 0,.bool false,.int .i64 0] 80);simp only [World.size_alloc] at h2
  rw [hW0];exact ⟨by rw [aM _ _ (by simp;omega),aM _ _ (by simp)];exact heap_alloc_last w _,by rw [aM _ _ (by simp)];exact h2,by repeat (with_reducible first|exact zRf|refine zGr ?_ _|refine below_drewN ?_ _|refine Below.drew ?_),ho,by simp⟩
 clear hcM hp hr CR e0 e1 e2 b0 b1 b2 hI hF
 go_enter func50,ntmps50
 go_wp2_with fail
 rw [<- hW0];clear hW0;refine wp_loop_rounds 4 ?_;rw [rounds_succ];have q9:=HPC.out _ F0.out.box
 go_upto_region 5 with fail
 refine wp_region_list ?_;refine wpList_plain rfl (fun K hK=>?_);go_simp;refine hK _ _ ?_;clear hK;refine wpList_load_row rfl 30 _ rfl w.heap.size rfl _ _ (0,0) _ F0.out.box underlying30 rfl HIM.out ?_
 go_wp2_with fail
 refine Calls.mono (H0.out _) ?_;rintro e x0 ⟨rfl,hb⟩;have G0:=zHd (F0.out.below hb);have GA0:Hid (Fe w (x0.alloc (.cells #[.int .u8 (u0.toNat:Int)] 5)) cM (.slice (some ⟨w.heap.size+2,0,none⟩) 0 0) 0 []):=G0.out.below (zAl _ _);clear hb F0 H0 q9 G0
 go_wp2_with (at_builtin;refine wpList_append_own _ rfl _ _ 22 rfl (w.heap.size+2) 5 i0 (.int .u8 0) 1 1 underlying22 hi hz0 hz1 hz2 rfl (by decide) _ _ _ rfl GA0.out.own ⟨x0.heap.size,0,none⟩ 1 1 [.int .u8 (u0.toNat:Int)] rfl rfl ?a0 ?b0 ?c0 ?d0 ?e0 ?_)
 case a0 =>
  intro j uu hj
  match j,hj with
  | 0,hj=>simp at hj;subst hj;simp [Addr.add]
 case b0=>intro uu hu;simp at hu;subst hu;rfl
 case c0=>unfold maxLen;omega
 case d0=>omega
 case e0=>exact GA0.out.sz
 intro v1 W1 hown hgrow _;have F1:Hid (Fe w W1 cM v1 1 [.int .u8 (u0.toNat:Int)]):=GA0.out.grown hgrow hown;clear hown hgrow GA0
 go_wp2_with fail
 rw [rounds_succ];have q9:=HPC.out _ F1.out.box
 go_upto_region 5 with fail
 refine wp_region_list ?_;refine wpList_plain rfl (fun K hK=>?_);go_simp;refine hK _ _ ?_;clear hK;refine wpList_load_row rfl 30 _ rfl w.heap.size rfl _ _ (0,0) _ F1.out.box underlying30 rfl HIM.out ?_
 go_wp2_with fail
 refine Calls.mono (H1.out _) ?_;rintro e x1 ⟨rfl,hb⟩;have G1:=zHd (F1.out.below hb);have GA1:Hid (Fe w (x1.alloc (.cells #[.int .u8 (u1.toNat:Int)] 5)) cM v1 1 [.int .u8 (u0.toNat:Int)]):=G1.out.below (zAl _ _);clear hb F1 H1 q9 G1
 go_wp2_with (at_builtin;refine wpList_append_own _ rfl _ _ 22 rfl (w.heap.size+2) 5 i0 (.int .u8 0) 1 1 underlying22 hi hz0 hz1 hz2 rfl (by decide) _ _ _ rfl GA1.out.own ⟨x1.heap.size,0,none⟩ 1 1 [.int .u8 (u1.toNat:Int)] rfl rfl ?a1 ?b1 ?c1 ?d1 ?e1 ?_)
 case a1 =>
  intro j uu hj
  match j,hj with
  | 0,hj=>simp at hj;subst hj;simp [Addr.add]
 case b1=>intro uu hu;simp at hu;subst hu;rfl
 case c1=>unfold maxLen;omega
 case d1=>omega
 case e1=>exact GA1.out.sz
 intro v2 W2 hown hgrow _;have F2:Hid (Fe w W2 cM v2 2 [.int .u8 (u0.toNat:Int),.int .u8 (u1.toNat:Int)]):=GA1.out.grown hgrow hown;clear hown hgrow GA1
 go_wp2_with fail
 rw [rounds_succ];have q9:=HPC.out _ F2.out.box
 go_upto_region 5 with fail
 refine wp_region_list ?_;refine wpList_plain rfl (fun K hK=>?_);go_simp;refine hK _ _ ?_;clear hK;refine wpList_load_row rfl 30 _ rfl w.heap.size rfl _ _ (0,0) _ F2.out.box underlying30 rfl HIM.out ?_
 go_wp2_with fail
 refine Calls.mono (H2.out _) ?_;rintro e x2 ⟨rfl,hb⟩;have G2:=zHd (F2.out.below hb);have GA2:Hid (Fe w (x2.alloc (.cells #[.int .u8 (u2.toNat:Int)] 5)) cM v2 2 [.int .u8 (u0.toNat:Int),.int .u8 (u1.toNat:Int)]):=G2.out.below (zAl _ _);clear hb F2 H2 q9 G2
 go_wp2_with (at_builtin;refine wpList_append_own _ rfl _ _ 22 rfl (w.heap.size+2) 5 i0 (.int .u8 0) 1 1 underlying22 hi hz0 hz1 hz2 rfl (by decide) _ _ _ rfl GA2.out.own ⟨x2.heap.size,0,none⟩ 1 1 [.int .u8 (u2.toNat:Int)] rfl rfl ?a2 ?b2 ?c2 ?d2 ?e2 ?_)
 case a2 =>
  intro j uu hj
  match j,hj with
  | 0,hj=>simp at hj;subst hj;simp [Addr.add]
 case b2=>intro uu hu;simp at hu;subst hu;rfl
 case c2=>unfold maxLen;omega
 case d2=>omega
 case e2=>exact GA2.out.sz
 intro v3 W3 hown hgrow _;have F3:Hid (Fe w W3 cM v3 3 [.int .u8 (u0.toNat:Int),.int .u8 (u1.toNat:Int),.int .u8 (u2.toNat:Int)]):=GA2.out.grown hgrow hown;clear hown hgrow GA2
 go_wp2_with fail
 rw [rounds_succ];have hs:=F3.out.str
 go_wp2_with fail
 refine Calls.mono (CI.out _) ?_;rintro e w4 ⟨rfl,hb⟩;have F4:=F3.out.below hb;have hR:=F4.res;have r0:=(cell_of_row w4 (w.heap.size+1) 0 _ _ _ hR).trans rfl;have r1:=(cell_of_row w4 (w.heap.size+1) 1 _ _ _ hR).trans rfl;have r2:=(cell_of_row w4 (w.heap.size+1) 2 _ _ _ hR).trans rfl;have g0:=frozen_of_row w4 (w.heap.size+1) 0 _ _ hR;have g1:=frozen_of_row w4 (w.heap.size+1) 1 _ _ hR;have g2:=frozen_of_row w4 (w.heap.size+1) 2 _ _ hR;have lR:w.heap.size+1<w4.heap.size:=(zLo hR);have B4:Hid (Below w.heap.size w w4):=F4.bel;clear hR hb F4 F3 CI hs
 go_wp2_with fail
 refine bodyPost_ret (v:=.tuple #[.agg #[.int .i64 c,.bool cb,.int .i64 imm],.int .i64 n]) (by simp [results,results50,go_sem,r0,r1,r2,lR]) rfl ⟨rfl,?_⟩;exact ((B4.out.setCell (by simp) _).setCell (by simp) _).setCell (by simp) _
end Stdf
end Go.Proofs.YteglcgnhhoenbaaGreatDoor
