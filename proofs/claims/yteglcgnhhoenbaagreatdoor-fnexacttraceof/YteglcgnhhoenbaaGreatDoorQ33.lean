import Derived.Test.YteglcgnhhoenbaaGreatDoorQ31
set_option linter.all false
set_option maxRecDepth 20000
set_option maxHeartbeats 8000000
open Go.ChangeShapes Go.WideShapes Go.ChangeAt Go.RowKit
open Go.Proofs.Tryz
namespace Go.Proofs.YteglcgnhhoenbaaGreatDoor
namespace Stpz
open Go.Deep
open Signed (inB sgn aG aB)
open Busw Busx Stpp Stpq Stpi Stpj Stpr Stpk Stpm Stpn Stpu Stpv
open Reck ReckS ReckM ReckD TurnS
theorem bDF (g:G) (m:M) (full:Bool) (by_:Int) (b0:-1<=by_) (b1:by_<=1) (w:World) (h:In g w m full) (hg:Stpq.Good m) (hk:g.p=0) :
  Calls prog 198 #[.pointer (some ⟨g.K,0,none⟩),.int .i64 by_] w fun e w'=>e=.returned (.tuple #[])/\In g w' (aN m 0 ((pr m 0+by_)%65536)) full:=by
 have c1:Hid (∀ W,In g W m full->Calls prog 174 #[.pointer (some ⟨g.K,0,none⟩),.int .i64 0] W fun e w'=>e=.returned (.agg #[.pointer (some ⟨g.B,2,none⟩),.pointer (some ⟨g.B,3,none⟩)])/\Below W.heap.size W w'):=fun W hi=>nL g W hi.k_cpu
 have bd:=eC hg 0;have c2:∀ W,In g W m full->Rg 178 #[.agg #[.pointer (some ⟨g.B,2,none⟩),.pointer (some ⟨g.B,3,none⟩)]] W (.int .i64 (pr m 0)):=fun W hi=>rg fun W' hb=>eU g m full 0 W' (hi.below hb) hg (by omega) (by omega)
 have c3:Hid (∀ W,In g W m full->Calls prog 175 #[.agg #[.pointer (some ⟨g.B,2,none⟩),.pointer (some ⟨g.B,3,none⟩)],.int .i64 (pr m 0+by_)] W fun e w'=>e=.returned (.tuple #[])/\In g w' (aN m 0 ((pr m 0+by_)%65536)) full):=fun W hi=>eD g m full 0 _ W hi (by omega) (by omega)
 generalize aN m 0 ((pr m 0+by_)%65536)=t at *
 generalize pr m 0=v at *
 have d1:IntKind.i64.wrap (v+by_)=v+by_:=by rw [x6];omega
 have q_p:=h.k_p;rw [hk] at q_p
 have HI:Hid (In g w m full):=h;have C2:Hid (∀ W,In g W m full->Rg 178 #[.agg #[.pointer (some ⟨g.B,2,none⟩),.pointer (some ⟨g.B,3,none⟩)]] W (.int .i64 v)):=c2;clear h hg bd c2
 go_enter func198,ntmps198
 go_wp2_with fail
 refine Calls.mono (c1.out _ HI.out) ?_;rintro e w1 ⟨rfl,hb1⟩;have H1:=zHd (HI.out.below hb1);clear hb1 HI c1
 go_wp2_with fail
 have hA:Below w1.heap.size w1 (w1.alloc (.cells #[.pointer (some ⟨g.B,2,none⟩),.pointer (some ⟨g.B,3,none⟩)] 184)):=zAl _ _;have hx2:(w1.alloc (.cells #[.pointer (some ⟨g.B,2,none⟩),.pointer (some ⟨g.B,3,none⟩)] 184)).heap[w1.heap.size]? = some (.cells #[.pointer (some ⟨g.B,2,none⟩),.pointer (some ⟨g.B,3,none⟩)] 184):=heap_alloc_new w1 _;have H2:=zHd (H1.out.below hA);obtain ⟨bx,hbx⟩ : ∃ b,b=w1.heap.size:=⟨_,rfl⟩
 obtain ⟨w2,hw2⟩ : ∃ u,u=w1.alloc (.cells #[.pointer (some ⟨g.B,2,none⟩),.pointer (some ⟨g.B,3,none⟩)] 184):=⟨_,rfl⟩
 rw [<- hbx] at hx2 |-
 rw [<- hw2] at hx2 H2 |-
 clear hbx hA H1 q_p hw2;have r0:=x7 ((cell_of_row w2 bx 0 _ _ _ hx2).trans rfl);have r1:=x7 ((cell_of_row w2 bx 1 _ _ _ hx2).trans rfl);have c2:=C2.out _ H2.out;clear hx2 C2;refine Qtail.aI 5 (by kernel_rfl) (by kernel_rfl) ?_;simp only [List.take_succ_cons,List.take_zero,List.drop_succ_cons,List.drop_zero]
 repeat (go_big_quiet_step (first|with_reducible exact c2 _ _))
 refine wpQuiet_nil ?_;intro _ hw';obtain ⟨⟨dq,osq⟩,hw''⟩:=hw';subst hw'';have H3:=zHd (H2.out.below (x8 w2 dq osq));generalize Go.Sort.grow (redrawn w2 dq) osq=W3 at *
 clear H2 r0 r1 c2
 go_wp2_with fail
 refine Calls.mono (c3.out _ H3.out) ?_;rintro e w4 ⟨rfl,hi1⟩;have H4:Hid (In g w4 t full):=hi1;clear hi1 H3 c3;go_wp2
 go_end0
 exact ⟨rfl,H4.out⟩
theorem bDG (g:G) (m:M) (full:Bool) (by_:Int) (b0:-1<=by_) (b1:by_<=1) (w:World) (h:In g w m full) (hg:Stpq.Good m) (hk:g.p=1) :
  Calls prog 198 #[.pointer (some ⟨g.K,0,none⟩),.int .i64 by_] w fun e w'=>e=.returned (.tuple #[])/\In g w' (aN m 1 ((pr m 1+by_)%65536)) full:=by
 have c1:Hid (∀ W,In g W m full->Calls prog 174 #[.pointer (some ⟨g.K,0,none⟩),.int .i64 1] W fun e w'=>e=.returned (.agg #[.pointer (some ⟨g.B,4,none⟩),.pointer (some ⟨g.B,5,none⟩)])/\Below W.heap.size W w'):=fun W hi=>nM g W hi.k_cpu
 have bd:=eC hg 1;have c2:∀ W,In g W m full->Rg 178 #[.agg #[.pointer (some ⟨g.B,4,none⟩),.pointer (some ⟨g.B,5,none⟩)]] W (.int .i64 (pr m 1)):=fun W hi=>rg fun W' hb=>eU g m full 1 W' (hi.below hb) hg (by omega) (by omega)
 have c3:Hid (∀ W,In g W m full->Calls prog 175 #[.agg #[.pointer (some ⟨g.B,4,none⟩),.pointer (some ⟨g.B,5,none⟩)],.int .i64 (pr m 1+by_)] W fun e w'=>e=.returned (.tuple #[])/\In g w' (aN m 1 ((pr m 1+by_)%65536)) full):=fun W hi=>eD g m full 1 _ W hi (by omega) (by omega)
 generalize aN m 1 ((pr m 1+by_)%65536)=t at *
 generalize pr m 1=v at *
 have d1:IntKind.i64.wrap (v+by_)=v+by_:=by rw [x6];omega
 have q_p:=h.k_p;rw [hk] at q_p
 have HI:Hid (In g w m full):=h;have C2:Hid (∀ W,In g W m full->Rg 178 #[.agg #[.pointer (some ⟨g.B,4,none⟩),.pointer (some ⟨g.B,5,none⟩)]] W (.int .i64 v)):=c2;clear h hg bd c2
 go_enter func198,ntmps198
 go_wp2_with fail
 refine Calls.mono (c1.out _ HI.out) ?_;rintro e w1 ⟨rfl,hb1⟩;have H1:=zHd (HI.out.below hb1);clear hb1 HI c1
 go_wp2_with fail
 have hA:Below w1.heap.size w1 (w1.alloc (.cells #[.pointer (some ⟨g.B,4,none⟩),.pointer (some ⟨g.B,5,none⟩)] 184)):=zAl _ _;have hx2:(w1.alloc (.cells #[.pointer (some ⟨g.B,4,none⟩),.pointer (some ⟨g.B,5,none⟩)] 184)).heap[w1.heap.size]? = some (.cells #[.pointer (some ⟨g.B,4,none⟩),.pointer (some ⟨g.B,5,none⟩)] 184):=heap_alloc_new w1 _;have H2:=zHd (H1.out.below hA);obtain ⟨bx,hbx⟩ : ∃ b,b=w1.heap.size:=⟨_,rfl⟩
 obtain ⟨w2,hw2⟩ : ∃ u,u=w1.alloc (.cells #[.pointer (some ⟨g.B,4,none⟩),.pointer (some ⟨g.B,5,none⟩)] 184):=⟨_,rfl⟩
 rw [<- hbx] at hx2 |-
 rw [<- hw2] at hx2 H2 |-
 clear hbx hA H1 q_p hw2;have r0:=x7 ((cell_of_row w2 bx 0 _ _ _ hx2).trans rfl);have r1:=x7 ((cell_of_row w2 bx 1 _ _ _ hx2).trans rfl);have c2:=C2.out _ H2.out;clear hx2 C2;refine Qtail.aI 5 (by kernel_rfl) (by kernel_rfl) ?_;simp only [List.take_succ_cons,List.take_zero,List.drop_succ_cons,List.drop_zero]
 repeat (go_big_quiet_step (first|with_reducible exact c2 _ _))
 refine wpQuiet_nil ?_;intro _ hw';obtain ⟨⟨dq,osq⟩,hw''⟩:=hw';subst hw'';have H3:=zHd (H2.out.below (x8 w2 dq osq));generalize Go.Sort.grow (redrawn w2 dq) osq=W3 at *
 clear H2 r0 r1 c2
 go_wp2_with fail
 refine Calls.mono (c3.out _ H3.out) ?_;rintro e w4 ⟨rfl,hi1⟩;have H4:Hid (In g w4 t full):=hi1;clear hi1 H3 c3;go_wp2
 go_end0
 exact ⟨rfl,H4.out⟩
theorem bDH (g:G) (m:M) (full:Bool) (by_:Int) (b0:-1<=by_) (b1:by_<=1) (w:World) (h:In g w m full) (hg:Stpq.Good m) (hk:g.p=2) :
  Calls prog 198 #[.pointer (some ⟨g.K,0,none⟩),.int .i64 by_] w fun e w'=>e=.returned (.tuple #[])/\In g w' (aN m 2 ((pr m 2+by_)%65536)) full:=by
 have c1:Hid (∀ W,In g W m full->Calls prog 174 #[.pointer (some ⟨g.K,0,none⟩),.int .i64 2] W fun e w'=>e=.returned (.agg #[.pointer (some ⟨g.B,6,none⟩),.pointer (some ⟨g.B,7,none⟩)])/\Below W.heap.size W w'):=fun W hi=>kS g W hi.k_cpu
 have bd:=eC hg 2;have c2:∀ W,In g W m full->Rg 178 #[.agg #[.pointer (some ⟨g.B,6,none⟩),.pointer (some ⟨g.B,7,none⟩)]] W (.int .i64 (pr m 2)):=fun W hi=>rg fun W' hb=>eU g m full 2 W' (hi.below hb) hg (by omega) (by omega)
 have c3:Hid (∀ W,In g W m full->Calls prog 175 #[.agg #[.pointer (some ⟨g.B,6,none⟩),.pointer (some ⟨g.B,7,none⟩)],.int .i64 (pr m 2+by_)] W fun e w'=>e=.returned (.tuple #[])/\In g w' (aN m 2 ((pr m 2+by_)%65536)) full):=fun W hi=>eD g m full 2 _ W hi (by omega) (by omega)
 generalize aN m 2 ((pr m 2+by_)%65536)=t at *
 generalize pr m 2=v at *
 have d1:IntKind.i64.wrap (v+by_)=v+by_:=by rw [x6];omega
 have q_p:=h.k_p;rw [hk] at q_p
 have HI:Hid (In g w m full):=h;have C2:Hid (∀ W,In g W m full->Rg 178 #[.agg #[.pointer (some ⟨g.B,6,none⟩),.pointer (some ⟨g.B,7,none⟩)]] W (.int .i64 v)):=c2;clear h hg bd c2
 go_enter func198,ntmps198
 go_wp2_with fail
 refine Calls.mono (c1.out _ HI.out) ?_;rintro e w1 ⟨rfl,hb1⟩;have H1:=zHd (HI.out.below hb1);clear hb1 HI c1
 go_wp2_with fail
 have hA:Below w1.heap.size w1 (w1.alloc (.cells #[.pointer (some ⟨g.B,6,none⟩),.pointer (some ⟨g.B,7,none⟩)] 184)):=zAl _ _;have hx2:(w1.alloc (.cells #[.pointer (some ⟨g.B,6,none⟩),.pointer (some ⟨g.B,7,none⟩)] 184)).heap[w1.heap.size]? = some (.cells #[.pointer (some ⟨g.B,6,none⟩),.pointer (some ⟨g.B,7,none⟩)] 184):=heap_alloc_new w1 _;have H2:=zHd (H1.out.below hA);obtain ⟨bx,hbx⟩ : ∃ b,b=w1.heap.size:=⟨_,rfl⟩
 obtain ⟨w2,hw2⟩ : ∃ u,u=w1.alloc (.cells #[.pointer (some ⟨g.B,6,none⟩),.pointer (some ⟨g.B,7,none⟩)] 184):=⟨_,rfl⟩
 rw [<- hbx] at hx2 |-
 rw [<- hw2] at hx2 H2 |-
 clear hbx hA H1 q_p hw2;have r0:=x7 ((cell_of_row w2 bx 0 _ _ _ hx2).trans rfl);have r1:=x7 ((cell_of_row w2 bx 1 _ _ _ hx2).trans rfl);have c2:=C2.out _ H2.out;clear hx2 C2;refine Qtail.aI 5 (by kernel_rfl) (by kernel_rfl) ?_;simp only [List.take_succ_cons,List.take_zero,List.drop_succ_cons,List.drop_zero]
 repeat (go_big_quiet_step (first|with_reducible exact c2 _ _))
 refine wpQuiet_nil ?_;intro _ hw';obtain ⟨⟨dq,osq⟩,hw''⟩:=hw';subst hw'';have H3:=zHd (H2.out.below (x8 w2 dq osq));generalize Go.Sort.grow (redrawn w2 dq) osq=W3 at *
 clear H2 r0 r1 c2
 go_wp2_with fail
 refine Calls.mono (c3.out _ H3.out) ?_;rintro e w4 ⟨rfl,hi1⟩;have H4:Hid (In g w4 t full):=hi1;clear hi1 H3 c3;go_wp2
 go_end0
 exact ⟨rfl,H4.out⟩
theorem bDI (g:G) (m:M) (full:Bool) (by_:Int) (b0:-1<=by_) (b1:by_<=1) (w:World) (h:In g w m full) (hg:Stpq.Good m) (hk:g.p=3) :
  Calls prog 198 #[.pointer (some ⟨g.K,0,none⟩),.int .i64 by_] w fun e w'=>e=.returned (.tuple #[])/\In g w' (aN m 3 ((pr m 3+by_)%65536)) full:=by
 have c1:Hid (∀ W,In g W m full->Calls prog 174 #[.pointer (some ⟨g.K,0,none⟩),.int .i64 3] W fun e w'=>e=.returned (.agg #[.pointer none,.pointer (some ⟨g.B,8,none⟩)])/\Below W.heap.size W w'):=fun W hi=>yF g W hi.k_cpu
 have bd:=eC hg 3;have c2:∀ W,In g W m full->Rg 178 #[.agg #[.pointer none,.pointer (some ⟨g.B,8,none⟩)]] W (.int .i64 (pr m 3)):=fun W hi=>rg fun W' hb=>eU g m full 3 W' (hi.below hb) hg (by omega) (by omega)
 have c3:Hid (∀ W,In g W m full->Calls prog 175 #[.agg #[.pointer none,.pointer (some ⟨g.B,8,none⟩)],.int .i64 (pr m 3+by_)] W fun e w'=>e=.returned (.tuple #[])/\In g w' (aN m 3 ((pr m 3+by_)%65536)) full):=fun W hi=>eD g m full 3 _ W hi (by omega) (by omega)
 generalize aN m 3 ((pr m 3+by_)%65536)=t at *
 generalize pr m 3=v at *
 have d1:IntKind.i64.wrap (v+by_)=v+by_:=by rw [x6];omega
 have q_p:=h.k_p;rw [hk] at q_p
 have HI:Hid (In g w m full):=h;have C2:Hid (∀ W,In g W m full->Rg 178 #[.agg #[.pointer none,.pointer (some ⟨g.B,8,none⟩)]] W (.int .i64 v)):=c2;clear h hg bd c2
 go_enter func198,ntmps198
 go_wp2_with fail
 refine Calls.mono (c1.out _ HI.out) ?_;rintro e w1 ⟨rfl,hb1⟩;have H1:=zHd (HI.out.below hb1);clear hb1 HI c1
 go_wp2_with fail
 have hA:Below w1.heap.size w1 (w1.alloc (.cells #[.pointer none,.pointer (some ⟨g.B,8,none⟩)] 184)):=zAl _ _;have hx2:(w1.alloc (.cells #[.pointer none,.pointer (some ⟨g.B,8,none⟩)] 184)).heap[w1.heap.size]? = some (.cells #[.pointer none,.pointer (some ⟨g.B,8,none⟩)] 184):=heap_alloc_new w1 _;have H2:=zHd (H1.out.below hA);obtain ⟨bx,hbx⟩ : ∃ b,b=w1.heap.size:=⟨_,rfl⟩
 obtain ⟨w2,hw2⟩ : ∃ u,u=w1.alloc (.cells #[.pointer none,.pointer (some ⟨g.B,8,none⟩)] 184):=⟨_,rfl⟩
 rw [<- hbx] at hx2 |-
 rw [<- hw2] at hx2 H2 |-
 clear hbx hA H1 q_p hw2;have r0:=x7 ((cell_of_row w2 bx 0 _ _ _ hx2).trans rfl);have r1:=x7 ((cell_of_row w2 bx 1 _ _ _ hx2).trans rfl);have c2:=C2.out _ H2.out;clear hx2 C2;refine Qtail.aI 5 (by kernel_rfl) (by kernel_rfl) ?_;simp only [List.take_succ_cons,List.take_zero,List.drop_succ_cons,List.drop_zero]
 repeat (go_big_quiet_step (first|with_reducible exact c2 _ _))
 refine wpQuiet_nil ?_;intro _ hw';obtain ⟨⟨dq,osq⟩,hw''⟩:=hw';subst hw'';have H3:=zHd (H2.out.below (x8 w2 dq osq));generalize Go.Sort.grow (redrawn w2 dq) osq=W3 at *
 clear H2 r0 r1 c2
 go_wp2_with fail
 refine Calls.mono (c3.out _ H3.out) ?_;rintro e w4 ⟨rfl,hi1⟩;have H4:Hid (In g w4 t full):=hi1;clear hi1 H3 c3;go_wp2
 go_end0
 exact ⟨rfl,H4.out⟩
theorem tI (g:G) (m:M) (full:Bool) (by_:Int) (b0:-1<=by_) (b1:by_<=1) (w:World) (h:In g w m full) (hg:Stpq.Good m) (hp:Pt g) :
  Calls prog 198 #[.pointer (some ⟨g.K,0,none⟩),.int .i64 by_] w fun e w'=>e=.returned (.tuple #[])/\In g w' (⟨aN m g.p ((pr m g.p+by_)%65536),full⟩ : S).m (⟨aN m g.p ((pr m g.p+by_)%65536),full⟩ : S).full:=by
 rcases fG hp.p.1 hp.p.2 with h4|h4|h4|h4
 ·rw [h4];exact bDF g m full by_ b0 b1 w h hg h4
 ·rw [h4];exact bDG g m full by_ b0 b1 w h hg h4
 ·rw [h4];exact bDH g m full by_ b0 b1 w h hg h4
 ·rw [h4];exact bDI g m full by_ b0 b1 w h hg h4
theorem rk5 (g:G) (m:M) (full:Bool)  (w:World) (h:In g w m full) (hg:Stpq.Good m) (hp:Pt g) :
  Calls prog 197 #[.pointer (some ⟨g.K,0,none⟩)] w fun e w'=>e=.returned (.tuple #[])/\In g w' (⟨aN m g.p ((pr m g.p+1)%65536),full⟩ : S).m (⟨aN m g.p ((pr m g.p+1)%65536),full⟩ : S).full:=by
 have c2:Hid (∀ W,In g W m full->Calls prog 198 #[.pointer (some ⟨g.K,0,none⟩),.int .i64 1] W fun e w'=>e=.returned (.tuple #[])/\In g w' (⟨aN m g.p ((pr m g.p+1)%65536),full⟩ : S).m (⟨aN m g.p ((pr m g.p+1)%65536),full⟩ : S).full):=fun W hi=>tI g m full 1 (by omega) (by omega) W hi hg hp
 generalize (⟨aN m g.p ((pr m g.p+1)%65536),full⟩ : S)=t at *
 have HI:Hid (In g w m full):=h;clear h hg hp
 go_enter func197,ntmps197
 go_wp2_with fail
 refine Calls.mono (c2.out _ HI.out) ?_;rintro e w2 ⟨rfl,hi1⟩;have H3:Hid (In g w2 t.m t.full):=hi1;clear hi1 HI c2;go_wp2
 go_end0
 exact ⟨rfl,H3.out⟩
theorem rk6 (g:G) (m:M) (full:Bool)  (w:World) (h:In g w m full) (hg:Stpq.Good m) (hp:Pt g) :
  Calls prog 199 #[.pointer (some ⟨g.K,0,none⟩)] w fun e w'=>e=.returned (.tuple #[])/\In g w' (⟨aN m g.p ((pr m g.p+(-1))%65536),full⟩ : S).m (⟨aN m g.p ((pr m g.p+(-1))%65536),full⟩ : S).full:=by
 have c2:Hid (∀ W,In g W m full->Calls prog 198 #[.pointer (some ⟨g.K,0,none⟩),.int .i64 (-1)] W fun e w'=>e=.returned (.tuple #[])/\In g w' (⟨aN m g.p ((pr m g.p+(-1))%65536),full⟩ : S).m (⟨aN m g.p ((pr m g.p+(-1))%65536),full⟩ : S).full):=fun W hi=>tI g m full (-1) (by omega) (by omega) W hi hg hp
 generalize (⟨aN m g.p ((pr m g.p+(-1))%65536),full⟩ : S)=t at *
 have HI:Hid (In g w m full):=h;clear h hg hp
 go_enter func199,ntmps199
 go_wp2_with fail
 refine Calls.mono (c2.out _ HI.out) ?_;rintro e w2 ⟨rfl,hi1⟩;have H3:Hid (In g w2 t.m t.full):=hi1;clear hi1 HI c2;go_wp2
 go_end0
 exact ⟨rfl,H3.out⟩
theorem bHU (g:G) (m:M) (full:Bool)  (w:World) (h:In g w m full) (hg:Stpq.Good m) (hp:Pt g) :
  Calls prog 200 #[.pointer (some ⟨g.K,0,none⟩)] w fun e w'=>e=.returned (.tuple #[])/\In g w' (⟨{ aN m 2 (awR (hl m) (pr m g.p) m.rf).1 with rf:=(awR (hl m) (pr m g.p) m.rf).2 },full⟩ : S).m (⟨{ aN m 2 (awR (hl m) (pr m g.p) m.rf).1 with rf:=(awR (hl m) (pr m g.p) m.rf).2 },full⟩ : S).full:=by
 have c1:Rg 177 #[.pointer (some ⟨g.K,0,none⟩)] w (.agg #[.pointer (some ⟨g.B,6,none⟩),.pointer (some ⟨g.B,7,none⟩)]):=rg fun W hb=>gU g W ((h.below hb).k_cpu)
 have c2:Rg 178 #[.agg #[.pointer (some ⟨g.B,6,none⟩),.pointer (some ⟨g.B,7,none⟩)]] w (.int .i64 (hl m)):=rg fun W hb=>yE g m full W (h.below hb) hg
 have c3:Rg 174 #[.pointer (some ⟨g.K,0,none⟩),.int .i64 g.p] w (pv g g.p):=rg fun W hb=>rM g m full g.p W (h.below hb) hp.p.1 hp.p.2
 have c4:Rg 178 #[pv g g.p] w (.int .i64 (pr m g.p)):=rg fun W hb=>eU g m full g.p W (h.below hb) hg hp.p.1 hp.p.2
 have c5:Rg 247 #[.int .i64 (hl m),.int .i64 (pr m g.p),.int .i64 m.rf] w (.tuple #[.int .i64 (awR (hl m) (pr m g.p) m.rf).1,.int .i64 (awR (hl m) (pr m g.p) m.rf).2]):=rg fun W hb=>(oE (hl m) (pr m g.p) m.rf W).mono fun e w' h=>⟨by rw [<- tD (jZ hg) (eC hg g.p) hg.f];exact h.1,by rw [h.2];exact zRf⟩
 have bd:=sY (hl m) (pr m g.p) m.rf;generalize (awR (hl m) (pr m g.p) m.rf).1=v at *
 generalize (awR (hl m) (pr m g.p) m.rf).2=f at *
 have d1:Hid (∀ W,In g W m full->Calls prog 177 #[.pointer (some ⟨g.K,0,none⟩)] W fun e w'=>e=.returned (.agg #[.pointer (some ⟨g.B,6,none⟩),.pointer (some ⟨g.B,7,none⟩)])/\Below W.heap.size W w'):=fun W hi=>gU g W hi.k_cpu
 have d2:Hid (∀ W,In g W m full->Calls prog 175 #[.agg #[.pointer (some ⟨g.B,6,none⟩),.pointer (some ⟨g.B,7,none⟩)],.int .i64 v] W fun e w'=>e=.returned (.tuple #[])/\In g w' (aN m 2 v) full):=fun W hi=>by
  have h:=eD g m full 2 v W hi (by omega) (by omega);rw [show v%65536=v by omega] at h
  exact h
 generalize aN m 2 v=t at *
 generalize hl m=x1 at *
 generalize pr m g.p=x2 at *
 generalize pv g g.p=x3 at *
 have r0:=x7 (h.k_cpu);have r1:=x7 (h.k_p);have r2:=x7 (h.c_rf);have HI:Hid (In g w m full):=h;clear h hg hp bd
 go_enter func200,ntmps200
 go_wp2_with fail
 refine wp_region_quiet_below (by kernel_rfl) (by kernel_rfl) ?_
 repeat (go_big_quiet_step (first|with_reducible exact c1 _ _|with_reducible exact c2 _ _|with_reducible exact c3 _ _|with_reducible exact c4 _ _|with_reducible exact c5 _ _))
 refine wpQuiet_nil ?_;intro _ hw';obtain ⟨⟨dq,osq⟩,hw''⟩:=hw';subst hw'';have H2:=zHd (HI.out.below (x8 w dq osq));generalize Go.Sort.grow (redrawn w dq) osq=W2 at *
 clear HI r0 r1 r2 c1 c2 c3 c4 c5
 go_wp2_with fail
 refine Calls.mono (d1.out _ H2.out) ?_;rintro e w1 ⟨rfl,hb1⟩;have H3:=zHd (H2.out.below hb1);clear hb1 H2 d1
 go_wp2_with fail
 refine Calls.mono (d2.out _ H3.out) ?_;rintro e w2 ⟨rfl,hi1⟩;have H4:Hid (In g w2 t full):=hi1;clear hi1 H3 d2;have q_k_cpu:=H4.out.k_cpu;have q_c_rf:=H4.out.c_rf;have f_rf:=H4.out.fro 1;have H3:=H4.out.s_rf f;have HF:Hid (In g (w2.setCell ⟨g.B,1,none⟩ (.int .i64 f)) { t with rf:=f } full):=H3;clear H3 H4;go_wp2
 go_end0
 exact ⟨rfl,HF.out⟩
theorem rk7 (g:G) (m:M) (full:Bool) (i0:0<=g.imm) (i1:g.imm<=255) (w:World) (h:In g w m full) (hg:Stpq.Good m) (hp:Pt g) :
  Calls prog 201 #[.pointer (some ⟨g.K,0,none⟩)] w fun e w'=>e=.returned (.tuple #[])/\In g w' (⟨{ m with sp:=(asR m.sp g.imm).1,rf:=(asR m.sp g.imm).2 },full⟩ : S).m (⟨{ m with sp:=(asR m.sp g.imm).1,rf:=(asR m.sp g.imm).2 },full⟩ : S).full:=by
 have c1:Rg 202 #[.int .i64 m.sp,.int .i64 g.imm] w (.tuple #[.int .i64 (asR m.sp g.imm).1,.int .i64 (asR m.sp g.imm).2]):=rg fun W hb=>(hZ m.sp g.imm W).mono fun e w' h=>⟨by rw [<- rK hg.sp ⟨i0,i1⟩];exact h.1,by rw [h.2];exact zRf⟩
 generalize (asR m.sp g.imm).1=a1 at *
 generalize (asR m.sp g.imm).2=f1 at *
 have r0:=x7 (h.k_cpu);have r1:=x7 (h.k_imm);have r2:=x7 (h.c_sp);have HI:Hid (In g w m full):=h;clear h hg hp i0 i1
 go_enter func201,ntmps201
 go_wp2_with fail
 refine Qflo.nY 23 24 (by kernel_rfl) (by kernel_rfl) (fun _ _ _ _ _ h=>h) ?_;simp only [List.take_succ_cons,List.take_zero,List.drop_succ_cons,List.drop_zero]
 repeat (go_big_quiet_step (first|with_reducible exact c1 _ _))
 refine wpQuiet_nil ?_;intro _ hw';obtain ⟨⟨dq,osq⟩,hw''⟩:=hw';subst hw'';have H2:=zHd (HI.out.below (x8 w dq osq));generalize Go.Sort.grow (redrawn w dq) osq=W2 at *
 clear HI r0 r1 r2 c1;have q_k_cpu:=H2.out.k_cpu;have q_c_sp:=H2.out.c_sp;have q_c_rf:=H2.out.c_rf;have f_sp:=H2.out.fro 8;have f_rf:=H2.out.fro 1;have lB:=H2.out.ltB;have HF:Hid (In g ((W2.setCell ⟨g.B,8,none⟩ (.int .i64 a1)).setCell ⟨g.B,1,none⟩ (.int .i64 f1)) { m with sp:=a1,rf:=f1 } full):=(H2.out.s_sp a1).s_rf f1;clear H2;go_wp2
 go_end0
 exact ⟨rfl,HF.out⟩
theorem rk8 (g:G) (m:M) (full:Bool)  (w:World) (h:In g w m full) (hg:Stpq.Good m) (hp:Pt g) :
  Calls prog 206 #[.pointer (some ⟨g.K,0,none⟩)] w fun e w'=>e=.returned (.tuple #[])/\In g w' (⟨{ m with ra:=(fJ m.ra m.rf).1,rf:=(fJ m.ra m.rf).2 },full⟩ : S).m (⟨{ m with ra:=(fJ m.ra m.rf).1,rf:=(fJ m.ra m.rf).2 },full⟩ : S).full:=by
 have c1:Rg 207 #[.int .i64 m.ra,.int .i64 m.rf] w (.tuple #[.int .i64 (fJ m.ra m.rf).1,.int .i64 (fJ m.ra m.rf).2]):=rg fun W hb=>(wX m.ra m.rf W).mono fun e w' h=>⟨by rw [<- bCU hg.a hg.f];exact h.1,by rw [h.2];exact zRf⟩
 generalize (fJ m.ra m.rf).1=a1 at *
 generalize (fJ m.ra m.rf).2=f1 at *
 have r0:=x7 (h.k_cpu);have r1:=x7 (h.c_ra);have r2:=x7 (h.c_rf);have HI:Hid (In g w m full):=h;clear h hg hp
 go_enter func206,ntmps206
 go_wp2_with fail
 refine Qflo.nY 25 26 (by kernel_rfl) (by kernel_rfl) (fun _ _ _ _ _ h=>h) ?_;simp only [List.take_succ_cons,List.take_zero,List.drop_succ_cons,List.drop_zero]
 repeat (go_big_quiet_step (first|with_reducible exact c1 _ _))
 refine wpQuiet_nil ?_;intro _ hw';obtain ⟨⟨dq,osq⟩,hw''⟩:=hw';subst hw'';have H2:=zHd (HI.out.below (x8 w dq osq));generalize Go.Sort.grow (redrawn w dq) osq=W2 at *
 clear HI r0 r1 r2 c1;have q_k_cpu:=H2.out.k_cpu;have q_c_ra:=H2.out.c_ra;have q_c_rf:=H2.out.c_rf;have f_ra:=H2.out.fro 0;have f_rf:=H2.out.fro 1;have lB:=H2.out.ltB;have HF:Hid (In g ((W2.setCell ⟨g.B,0,none⟩ (.int .i64 a1)).setCell ⟨g.B,1,none⟩ (.int .i64 f1)) { m with ra:=a1,rf:=f1 } full):=(H2.out.s_ra a1).s_rf f1;clear H2;go_wp2
 go_end0
 exact ⟨rfl,HF.out⟩
theorem pY (g:G) (m:M) (full:Bool)  (w:World) (h:In g w m full) (hg:Stpq.Good m) (hp:Pt g) :
  Calls prog 203 #[.pointer (some ⟨g.K,0,none⟩)] w fun e w'=>e=.returned (.tuple #[])/\In g w' (⟨{ m with ra:=(cD g.y m.ra m.rf).1,rf:=bits .andNot .i64 (cD g.y m.ra m.rf).2 128 },full⟩ : S).m (⟨{ m with ra:=(cD g.y m.ra m.rf).1,rf:=bits .andNot .i64 (cD g.y m.ra m.rf).2 128 },full⟩ : S).full:=by
 have c1:Rg 249 #[.int .i64 g.y,.int .i64 m.ra,.int .i64 m.rf] w (.tuple #[.int .i64 (cD g.y m.ra m.rf).1,.int .i64 (cD g.y m.ra m.rf).2]):=rg fun W hb=>(TurnI.kP g.y m.ra m.rf W).mono fun e w' h=>⟨by rw [<- aOE hp.y hg.a hg.f];exact h.1,h.2⟩
 generalize (cD g.y m.ra m.rf).1=a1 at *
 generalize (cD g.y m.ra m.rf).2=f0 at *
 obtain ⟨f1,hf1⟩ : ∃ f,bits .andNot .i64 f0 128=f:=⟨_,rfl⟩
 rw [hf1];have r0:=x7 (h.k_cpu);have r1:=x7 (h.k_y);have r2:=x7 (h.c_ra);have r3:=x7 (h.c_rf);have HI:Hid (In g w m full):=h;clear h hg hp
 go_enter func203,ntmps203
 go_wp2_with fail
 refine wp_region_quiet_below (by kernel_rfl) (by kernel_rfl) ?_
 repeat (go_big_quiet_step (first|with_reducible exact c1 _ _))
 refine wpQuiet_nil ?_;intro _ hw';obtain ⟨⟨dq,osq⟩,hw''⟩:=hw';subst hw'';have H2:=zHd (HI.out.below (x8 w dq osq));generalize Go.Sort.grow (redrawn w dq) osq=W2 at *
 clear HI r0 r1 r2 r3 c1;have H2':=zHd (H2.out.below zRf.drew);have q_k_cpu:=H2.out.k_cpu;have q_c_ra:=H2.out.c_ra;have q_c_rf:=H2.out.c_rf;have f_ra:=H2.out.fro 0;have f_rf:=H2.out.fro 1;have lB:=H2.out.ltB;have HF:Hid (In g (((W2.setCell ⟨g.B,0,none⟩ (.int .i64 a1)).setCell ⟨g.B,1,none⟩ (.int .i64 f1)).drew) { m with ra:=a1,rf:=f1 } full):=((H2.out.s_ra a1).s_rf f1).below zRf.drew;clear H2 H2'
 go_wp2_with fail
 go_region_with (fail)
 all_goals go_wp2
 all_goals go_end0
 all_goals exact ⟨rfl,HF.out⟩
theorem bDJ (g:G) (m:M) (full:Bool)  (w:World) (h:In g w m full) (hg:Stpq.Good m) (hp:Pt g) :
  Calls prog 204 #[.pointer (some ⟨g.K,0,none⟩)] w fun e w'=>e=.returned (.tuple #[])/\In g w' (F (put ⟨m,full⟩ g.z (cD g.y (Stpp.get m g.z) m.rf).1) (cD g.y (Stpp.get m g.z) m.rf).2).m (F (put ⟨m,full⟩ g.z (cD g.y (Stpp.get m g.z) m.rf).1) (cD g.y (Stpp.get m g.z) m.rf).2).full:=by
 have c1:Rg 171 #[.pointer (some ⟨g.K,0,none⟩),.int .i64 g.z] w (.int .i64 (Stpp.get m g.z)):=rg fun W hb=>jT g m full g.z W (h.below hb) hg hp.z.1 hp.z.2
 have c2:Rg 249 #[.int .i64 g.y,.int .i64 (Stpp.get m g.z),.int .i64 m.rf] w (.tuple #[.int .i64 (cD g.y (Stpp.get m g.z) m.rf).1,.int .i64 (cD g.y (Stpp.get m g.z) m.rf).2]):=rg fun W hb=>(TurnI.kP g.y (Stpp.get m g.z) m.rf W).mono fun e w' h=>⟨by rw [<- aOE hp.y (dN hg g.z) hg.f];exact h.1,h.2⟩
 have bd:=rA (op:=g.y) (f:=m.rf) (dN hg g.z).1 (dN hg g.z).2;generalize (cD g.y (Stpp.get m g.z) m.rf).1=v at *
 generalize (cD g.y (Stpp.get m g.z) m.rf).2=f at *
 generalize Stpp.get m g.z=x at *
 have c3:Hid (∀ W,In g W m full->Calls prog 170 #[.pointer (some ⟨g.K,0,none⟩),.int .i64 g.z,.int .i64 v] W fun e w'=>e=.returned (.tuple #[])/\In g w' (put ⟨m,full⟩ g.z v).m (put ⟨m,full⟩ g.z v).full):=fun W hi=>lM g m full _ _ W hi hg hp.z.1 hp.z.2 bd.1 bd.2.1
 generalize put ⟨m,full⟩ g.z v=t at *
 have r0:=x7 (h.k_cpu);have r1:=x7 (h.k_y);have r2:=x7 (h.k_z);have r3:=x7 (h.c_rf);have HI:Hid (In g w m full):=h;clear h hg hp bd
 go_enter func204,ntmps204
 go_wp2_with fail
 refine wp_region_quiet_below (by kernel_rfl) (by kernel_rfl) ?_
 repeat (go_big_quiet_step (first|with_reducible exact c1 _ _|with_reducible exact c2 _ _))
 refine wpQuiet_nil ?_;intro _ hw';obtain ⟨⟨dq,osq⟩,hw''⟩:=hw';subst hw'';have H2:=zHd (HI.out.below (x8 w dq osq));generalize Go.Sort.grow (redrawn w dq) osq=W2 at *
 clear HI r0 r1 r2 r3 c1 c2;have q_z:=H2.out.k_z
 go_wp2_with fail
 refine Calls.mono (c3.out _ H2.out) ?_;rintro e w1 ⟨rfl,hi1⟩;have H3':Hid (In g w1 t.m t.full):=hi1;clear hi1 H2 c3;have q_k_cpu:=H3'.out.k_cpu;have q_c_rf:=H3'.out.c_rf;have f_rf:=H3'.out.fro 1;have H3:=H3'.out.s_rf f;have HF:Hid (In g (w1.setCell ⟨g.B,1,none⟩ (.int .i64 f)) { t.m with rf:=f } t.full):=H3;clear H3 H3';go_wp2
 go_end0
 exact ⟨rfl,HF.out⟩
theorem bHV (g:G) (m:M) (full:Bool)  (w:World) (h:In g w m full) (hg:Stpq.Good m) (hp:Pt g) :
  Calls prog 208 #[.pointer (some ⟨g.K,0,none⟩)] w fun e w'=>e=.returned (.tuple #[])/\In g w' (⟨{ m with ra:=255-m.ra,rf:=bits .or .i64 m.rf 96 },full⟩ : S).m (⟨{ m with ra:=255-m.ra,rf:=bits .or .i64 m.rf 96 },full⟩ : S).full:=by
 have ha:=hg.a;have d1:IntKind.i64.wrap (255-m.ra)=255-m.ra:=by rw [x6];omega
 obtain ⟨f1,hf1⟩ : ∃ f,bits .or .i64 m.rf 96=f:=⟨_,rfl⟩
 rw [hf1];have r0:=x7 (h.k_cpu);have r1:=x7 (h.c_ra);have HI:Hid (In g w m full):=h;clear h hg hp ha
 go_enter func208,ntmps208
 go_wp2_with fail
 refine Qtail.aI 14 (by kernel_rfl) (by kernel_rfl) ?_;simp only [List.take_succ_cons,List.take_zero,List.drop_succ_cons,List.drop_zero]
 repeat (go_big_quiet_step (first|fail))
 refine wpQuiet_nil ?_;intro _ hw';obtain ⟨⟨dq,osq⟩,hw''⟩:=hw';subst hw'';have H2:=zHd (HI.out.below (x8 w dq osq));generalize Go.Sort.grow (redrawn w dq) osq=W2 at *
 clear HI r0 r1;have q_k_cpu:=H2.out.k_cpu;have q_c_ra:=H2.out.c_ra;have q_c_rf:=H2.out.c_rf;have f_ra:=H2.out.fro 0;have f_rf:=H2.out.fro 1;have H3:=H2.out.s_ra (255-m.ra);have q2:=H3.k_cpu;have q3:=H3.c_rf;have q4:=H3.fro 1;have HF:Hid (In g ((W2.setCell ⟨g.B,0,none⟩ (.int .i64 (255-m.ra))).setCell ⟨g.B,1,none⟩ (.int .i64 f1)) { m with ra:=255-m.ra,rf:=f1 } full):=H3.s_rf f1;clear H3 H2;go_wp2
 go_end0
 exact ⟨rfl,HF.out⟩
theorem rk9 (g:G) (m:M) (full:Bool)  (w:World) (h:In g w m full) (hg:Stpq.Good m) (hp:Pt g) :
  Calls prog 209 #[.pointer (some ⟨g.K,0,none⟩)] w fun e w'=>e=.returned (.tuple #[])/\In g w' (⟨{ m with rf:=bits .or .i64 (bits .and .i64 m.rf 128) 16 },full⟩ : S).m (⟨{ m with rf:=bits .or .i64 (bits .and .i64 m.rf 128) 16 },full⟩ : S).full:=by
 obtain ⟨f1,hf1⟩ : ∃ f,bits .or .i64 (bits .and .i64 m.rf 128) 16=f:=⟨_,rfl⟩
 rw [hf1];have r0:=x7 (h.k_cpu);have r1:=x7 (h.c_rf);have HI:Hid (In g w m full):=h;clear h hg hp
 go_enter func209,ntmps209
 go_wp2_with fail
 refine Qtail.aI 15 (by kernel_rfl) (by kernel_rfl) ?_;simp only [List.take_succ_cons,List.take_zero,List.drop_succ_cons,List.drop_zero]
 repeat (go_big_quiet_step (first|fail))
 refine wpQuiet_nil ?_;intro _ hw';obtain ⟨⟨dq,osq⟩,hw''⟩:=hw';subst hw'';have H2:=zHd (HI.out.below (x8 w dq osq));generalize Go.Sort.grow (redrawn w dq) osq=W2 at *
 clear HI r0 r1;have q_k_cpu:=H2.out.k_cpu;have q_c_rf:=H2.out.c_rf;have f_rf:=H2.out.fro 1;have H3:=H2.out.s_rf f1;have HF:Hid (In g (W2.setCell ⟨g.B,1,none⟩ (.int .i64 f1)) { m with rf:=f1 } full):=H3;clear H3 H2;go_wp2
 go_end0
 exact ⟨rfl,HF.out⟩
theorem bLR (g:G) (m:M) (full:Bool)  (w:World) (h:In g w m full) (hg:Stpq.Good m) (hp:Pt g) :
  Calls prog 210 #[.pointer (some ⟨g.K,0,none⟩)] w fun e w'=>e=.returned (.tuple #[])/\In g w' (⟨{ m with rf:=bits .xor .i64 (bits .and .i64 m.rf 144) 16 },full⟩ : S).m (⟨{ m with rf:=bits .xor .i64 (bits .and .i64 m.rf 144) 16 },full⟩ : S).full:=by
 obtain ⟨f1,hf1⟩ : ∃ f,bits .xor .i64 (bits .and .i64 m.rf 144) 16=f:=⟨_,rfl⟩
 rw [hf1];have r0:=x7 (h.k_cpu);have r1:=x7 (h.c_rf);have HI:Hid (In g w m full):=h;clear h hg hp
 go_enter func210,ntmps210
 go_wp2_with fail
 refine Qtail.aI 15 (by kernel_rfl) (by kernel_rfl) ?_;simp only [List.take_succ_cons,List.take_zero,List.drop_succ_cons,List.drop_zero]
 repeat (go_big_quiet_step (first|fail))
 refine wpQuiet_nil ?_;intro _ hw';obtain ⟨⟨dq,osq⟩,hw''⟩:=hw';subst hw'';have H2:=zHd (HI.out.below (x8 w dq osq));generalize Go.Sort.grow (redrawn w dq) osq=W2 at *
 clear HI r0 r1;have q_k_cpu:=H2.out.k_cpu;have q_c_rf:=H2.out.c_rf;have f_rf:=H2.out.fro 1;have H3:=H2.out.s_rf f1;have HF:Hid (In g (W2.setCell ⟨g.B,1,none⟩ (.int .i64 f1)) { m with rf:=f1 } full):=H3;clear H3 H2;go_wp2
 go_end0
 exact ⟨rfl,HF.out⟩
end Stpz
namespace Stpx
open Go.Deep
open Signed (inB sgn aG aB)
open Busw Busx Stpp Stpq Stpi Stpj Stpr Stpk Stpm Stpn Stpu
theorem bHW (w:World):(Instr.index 212 (.agg #[.int .i64 0,.int .i64 0,.int .i64 1,.int .i64 (-1)]) (.int .i64 0)).run prog w=.ok (.int .i64 (0)) w:=by kernel_rfl
theorem bDK (g:G) (m:M) (full:Bool) (w:World) (h:In g w m full) (hg:Stpq.Good m) (hk:g.p=0) :
  Calls prog 182 #[.pointer (some ⟨g.K,0,none⟩)] w fun e w'=>e=.returned (.int .i64 (pr m 0))/\In g w' (aN m 0 ((pr m 0+0)%65536)) full:=by
 have hi:=bHW;have c1:Hid (∀ W,In g W m full->Calls prog 174 #[.pointer (some ⟨g.K,0,none⟩),.int .i64 0] W fun e w'=>e=.returned (.agg #[.pointer (some ⟨g.B,2,none⟩),.pointer (some ⟨g.B,3,none⟩)])/\Below W.heap.size W w'):=fun W hi=>nL g W hi.k_cpu
 have c2:Hid (∀ W,In g W m full->Calls prog 178 #[.agg #[.pointer (some ⟨g.B,2,none⟩),.pointer (some ⟨g.B,3,none⟩)]] W fun e w'=>e=.returned (.int .i64 (pr m 0))/\Below W.heap.size W w'):=fun W hi=>eU g m full 0 W hi hg (by omega) (by omega)
 have bd:=eC hg 0;have c3:Hid (∀ W,In g W m full->Calls prog 175 #[.agg #[.pointer (some ⟨g.B,2,none⟩),.pointer (some ⟨g.B,3,none⟩)],.int .i64 (pr m 0)] W fun e w'=>e=.returned (.tuple #[])/\In g w' (aN m 0 ((pr m 0+0)%65536)) full):=fun W hi=>by have h:=eD g m full 0 (pr m 0) W hi (by omega) (by omega);rw [show pr m 0+0=pr m 0 by omega];exact h
 generalize aN m 0 ((pr m 0+0)%65536)=t at *
 generalize pr m 0=v at *
 have d1:IntKind.i64.wrap (v)=v:=by rw [x6];omega
 have q_p:=h.k_p;rw [hk] at q_p
 have HI:Hid (In g w m full):=h;clear h hg bd
 go_enter func182,ntmps182
 go_wp2_with fail
 refine Calls.mono (c1.out _ HI.out) ?_;rintro e w1 ⟨rfl,hb1⟩;have H1:=zHd (HI.out.below hb1);clear hb1 HI c1
 go_wp2_with fail
 have hA:Below w1.heap.size w1 (w1.alloc (.cells #[.pointer (some ⟨g.B,2,none⟩),.pointer (some ⟨g.B,3,none⟩)] 184)):=zAl _ _;refine Calls.mono (c2.out _ (H1.out.below hA)) ?_;rintro e w2 ⟨rfl,hb2⟩;have hx2:w2.heap[w1.heap.size]? = some (.cells #[.pointer (some ⟨g.B,2,none⟩),.pointer (some ⟨g.B,3,none⟩)] 184):=(hb2.block _ (by simp)).trans (heap_alloc_new w1 _);have H2:Hid (In g w2 m full):=(H1.out.below hA).below hb2;obtain ⟨bx,hbx⟩ : ∃ b,b=w1.heap.size:=⟨_,rfl⟩
 rw [<- hbx] at hx2 |-
 clear hbx hA hb2 H1 c2 q_p;have r0:=x7 ((cell_of_row w2 bx 0 _ _ _ hx2).trans rfl);have r1:=x7 ((cell_of_row w2 bx 1 _ _ _ hx2).trans rfl);have r2:=x7 (H2.out.k_p);rw [hk] at r2
 clear hx2
 go_wp2_with fail
 refine Qtail.aI 10 (by kernel_rfl) (by kernel_rfl) ?_;simp only [List.take_succ_cons,List.take_zero,List.drop_succ_cons,List.drop_zero]
 repeat (go_big_quiet_step (first|fail))
 refine wpQuiet_nil ?_;intro _ hw';obtain ⟨⟨dq,osq⟩,hw''⟩:=hw';subst hw'';have H3:=zHd (H2.out.below (x8 w2 dq osq));generalize Go.Sort.grow (redrawn w2 dq) osq=W3 at *
 clear H2 r0 r1 r2
 go_wp2_with fail
 refine Calls.mono (c3.out _ H3.out) ?_;rintro e w4 ⟨rfl,hi1⟩;have H4:Hid (In g w4 t full):=hi1;clear hi1 H3 c3;go_wp2;go_ret;exact ⟨rfl,H4.out⟩
theorem bHX (w:World):(Instr.index 212 (.agg #[.int .i64 0,.int .i64 0,.int .i64 1,.int .i64 (-1)]) (.int .i64 1)).run prog w=.ok (.int .i64 (0)) w:=by kernel_rfl
theorem bDL (g:G) (m:M) (full:Bool) (w:World) (h:In g w m full) (hg:Stpq.Good m) (hk:g.p=1) :
  Calls prog 182 #[.pointer (some ⟨g.K,0,none⟩)] w fun e w'=>e=.returned (.int .i64 (pr m 1))/\In g w' (aN m 1 ((pr m 1+0)%65536)) full:=by
 have hi:=bHX;have c1:Hid (∀ W,In g W m full->Calls prog 174 #[.pointer (some ⟨g.K,0,none⟩),.int .i64 1] W fun e w'=>e=.returned (.agg #[.pointer (some ⟨g.B,4,none⟩),.pointer (some ⟨g.B,5,none⟩)])/\Below W.heap.size W w'):=fun W hi=>nM g W hi.k_cpu
 have c2:Hid (∀ W,In g W m full->Calls prog 178 #[.agg #[.pointer (some ⟨g.B,4,none⟩),.pointer (some ⟨g.B,5,none⟩)]] W fun e w'=>e=.returned (.int .i64 (pr m 1))/\Below W.heap.size W w'):=fun W hi=>eU g m full 1 W hi hg (by omega) (by omega)
 have bd:=eC hg 1;have c3:Hid (∀ W,In g W m full->Calls prog 175 #[.agg #[.pointer (some ⟨g.B,4,none⟩),.pointer (some ⟨g.B,5,none⟩)],.int .i64 (pr m 1)] W fun e w'=>e=.returned (.tuple #[])/\In g w' (aN m 1 ((pr m 1+0)%65536)) full):=fun W hi=>by have h:=eD g m full 1 (pr m 1) W hi (by omega) (by omega);rw [show pr m 1+0=pr m 1 by omega];exact h
 generalize aN m 1 ((pr m 1+0)%65536)=t at *
 generalize pr m 1=v at *
 have d1:IntKind.i64.wrap (v)=v:=by rw [x6];omega
 have q_p:=h.k_p;rw [hk] at q_p
 have HI:Hid (In g w m full):=h;clear h hg bd
 go_enter func182,ntmps182
 go_wp2_with fail
 refine Calls.mono (c1.out _ HI.out) ?_;rintro e w1 ⟨rfl,hb1⟩;have H1:=zHd (HI.out.below hb1);clear hb1 HI c1
 go_wp2_with fail
 have hA:Below w1.heap.size w1 (w1.alloc (.cells #[.pointer (some ⟨g.B,4,none⟩),.pointer (some ⟨g.B,5,none⟩)] 184)):=zAl _ _;refine Calls.mono (c2.out _ (H1.out.below hA)) ?_;rintro e w2 ⟨rfl,hb2⟩;have hx2:w2.heap[w1.heap.size]? = some (.cells #[.pointer (some ⟨g.B,4,none⟩),.pointer (some ⟨g.B,5,none⟩)] 184):=(hb2.block _ (by simp)).trans (heap_alloc_new w1 _);have H2:Hid (In g w2 m full):=(H1.out.below hA).below hb2;obtain ⟨bx,hbx⟩ : ∃ b,b=w1.heap.size:=⟨_,rfl⟩
 rw [<- hbx] at hx2 |-
 clear hbx hA hb2 H1 c2 q_p;have r0:=x7 ((cell_of_row w2 bx 0 _ _ _ hx2).trans rfl);have r1:=x7 ((cell_of_row w2 bx 1 _ _ _ hx2).trans rfl);have r2:=x7 (H2.out.k_p);rw [hk] at r2
 clear hx2
 go_wp2_with fail
 refine Qtail.aI 10 (by kernel_rfl) (by kernel_rfl) ?_;simp only [List.take_succ_cons,List.take_zero,List.drop_succ_cons,List.drop_zero]
 repeat (go_big_quiet_step (first|fail))
 refine wpQuiet_nil ?_;intro _ hw';obtain ⟨⟨dq,osq⟩,hw''⟩:=hw';subst hw'';have H3:=zHd (H2.out.below (x8 w2 dq osq));generalize Go.Sort.grow (redrawn w2 dq) osq=W3 at *
 clear H2 r0 r1 r2
 go_wp2_with fail
 refine Calls.mono (c3.out _ H3.out) ?_;rintro e w4 ⟨rfl,hi1⟩;have H4:Hid (In g w4 t full):=hi1;clear hi1 H3 c3;go_wp2;go_ret;exact ⟨rfl,H4.out⟩
theorem bHY (w:World):(Instr.index 212 (.agg #[.int .i64 0,.int .i64 0,.int .i64 1,.int .i64 (-1)]) (.int .i64 2)).run prog w=.ok (.int .i64 (1)) w:=by kernel_rfl
theorem bDM (g:G) (m:M) (full:Bool) (w:World) (h:In g w m full) (hg:Stpq.Good m) (hk:g.p=2) :
  Calls prog 182 #[.pointer (some ⟨g.K,0,none⟩)] w fun e w'=>e=.returned (.int .i64 (pr m 2))/\In g w' (aN m 2 ((pr m 2+1)%65536)) full:=by
 have hi:=bHY;have c1:Hid (∀ W,In g W m full->Calls prog 174 #[.pointer (some ⟨g.K,0,none⟩),.int .i64 2] W fun e w'=>e=.returned (.agg #[.pointer (some ⟨g.B,6,none⟩),.pointer (some ⟨g.B,7,none⟩)])/\Below W.heap.size W w'):=fun W hi=>kS g W hi.k_cpu
 have c2:Hid (∀ W,In g W m full->Calls prog 178 #[.agg #[.pointer (some ⟨g.B,6,none⟩),.pointer (some ⟨g.B,7,none⟩)]] W fun e w'=>e=.returned (.int .i64 (pr m 2))/\Below W.heap.size W w'):=fun W hi=>eU g m full 2 W hi hg (by omega) (by omega)
 have bd:=eC hg 2;have c3:Hid (∀ W,In g W m full->Calls prog 175 #[.agg #[.pointer (some ⟨g.B,6,none⟩),.pointer (some ⟨g.B,7,none⟩)],.int .i64 (pr m 2+1)] W fun e w'=>e=.returned (.tuple #[])/\In g w' (aN m 2 ((pr m 2+1)%65536)) full):=fun W hi=>eD g m full 2 _ W hi (by omega) (by omega)
 generalize aN m 2 ((pr m 2+1)%65536)=t at *
 generalize pr m 2=v at *
 have d1:IntKind.i64.wrap (v+1)=v+1:=by rw [x6];omega
 have q_p:=h.k_p;rw [hk] at q_p
 have HI:Hid (In g w m full):=h;clear h hg bd
 go_enter func182,ntmps182
 go_wp2_with fail
 refine Calls.mono (c1.out _ HI.out) ?_;rintro e w1 ⟨rfl,hb1⟩;have H1:=zHd (HI.out.below hb1);clear hb1 HI c1
 go_wp2_with fail
 have hA:Below w1.heap.size w1 (w1.alloc (.cells #[.pointer (some ⟨g.B,6,none⟩),.pointer (some ⟨g.B,7,none⟩)] 184)):=zAl _ _;refine Calls.mono (c2.out _ (H1.out.below hA)) ?_;rintro e w2 ⟨rfl,hb2⟩;have hx2:w2.heap[w1.heap.size]? = some (.cells #[.pointer (some ⟨g.B,6,none⟩),.pointer (some ⟨g.B,7,none⟩)] 184):=(hb2.block _ (by simp)).trans (heap_alloc_new w1 _);have H2:Hid (In g w2 m full):=(H1.out.below hA).below hb2;obtain ⟨bx,hbx⟩ : ∃ b,b=w1.heap.size:=⟨_,rfl⟩
 rw [<- hbx] at hx2 |-
 clear hbx hA hb2 H1 c2 q_p;have r0:=x7 ((cell_of_row w2 bx 0 _ _ _ hx2).trans rfl);have r1:=x7 ((cell_of_row w2 bx 1 _ _ _ hx2).trans rfl);have r2:=x7 (H2.out.k_p);rw [hk] at r2
 clear hx2
 go_wp2_with fail
 refine Qtail.aI 10 (by kernel_rfl) (by kernel_rfl) ?_;simp only [List.take_succ_cons,List.take_zero,List.drop_succ_cons,List.drop_zero]
 repeat (go_big_quiet_step (first|fail))
 refine wpQuiet_nil ?_;intro _ hw';obtain ⟨⟨dq,osq⟩,hw''⟩:=hw';subst hw'';have H3:=zHd (H2.out.below (x8 w2 dq osq));generalize Go.Sort.grow (redrawn w2 dq) osq=W3 at *
 clear H2 r0 r1 r2
 go_wp2_with fail
 refine Calls.mono (c3.out _ H3.out) ?_;rintro e w4 ⟨rfl,hi1⟩;have H4:Hid (In g w4 t full):=hi1;clear hi1 H3 c3;go_wp2;go_ret;exact ⟨rfl,H4.out⟩
theorem bHZ (w:World):(Instr.index 212 (.agg #[.int .i64 0,.int .i64 0,.int .i64 1,.int .i64 (-1)]) (.int .i64 3)).run prog w=.ok (.int .i64 (-1)) w:=by kernel_rfl
theorem bDN (g:G) (m:M) (full:Bool) (w:World) (h:In g w m full) (hg:Stpq.Good m) (hk:g.p=3) :
  Calls prog 182 #[.pointer (some ⟨g.K,0,none⟩)] w fun e w'=>e=.returned (.int .i64 (pr m 2))/\In g w' (aN m 2 ((pr m 2+-1)%65536)) full:=by
 have hi:=bHZ;have c1:Hid (∀ W,In g W m full->Calls prog 174 #[.pointer (some ⟨g.K,0,none⟩),.int .i64 2] W fun e w'=>e=.returned (.agg #[.pointer (some ⟨g.B,6,none⟩),.pointer (some ⟨g.B,7,none⟩)])/\Below W.heap.size W w'):=fun W hi=>kS g W hi.k_cpu
 have c2:Hid (∀ W,In g W m full->Calls prog 178 #[.agg #[.pointer (some ⟨g.B,6,none⟩),.pointer (some ⟨g.B,7,none⟩)]] W fun e w'=>e=.returned (.int .i64 (pr m 2))/\Below W.heap.size W w'):=fun W hi=>eU g m full 2 W hi hg (by omega) (by omega)
 have bd:=eC hg 2;have c3:Hid (∀ W,In g W m full->Calls prog 175 #[.agg #[.pointer (some ⟨g.B,6,none⟩),.pointer (some ⟨g.B,7,none⟩)],.int .i64 (pr m 2+-1)] W fun e w'=>e=.returned (.tuple #[])/\In g w' (aN m 2 ((pr m 2+-1)%65536)) full):=fun W hi=>eD g m full 2 _ W hi (by omega) (by omega)
 generalize aN m 2 ((pr m 2+-1)%65536)=t at *
 generalize pr m 2=v at *
 have d1:IntKind.i64.wrap (v+-1)=v+-1:=by rw [x6];omega
 have q_p:=h.k_p;rw [hk] at q_p
 have HI:Hid (In g w m full):=h;clear h hg bd
 go_enter func182,ntmps182
 go_wp2_with fail
 refine Calls.mono (c1.out _ HI.out) ?_;rintro e w1 ⟨rfl,hb1⟩;have H1:=zHd (HI.out.below hb1);clear hb1 HI c1
 go_wp2_with fail
 have hA:Below w1.heap.size w1 (w1.alloc (.cells #[.pointer (some ⟨g.B,6,none⟩),.pointer (some ⟨g.B,7,none⟩)] 184)):=zAl _ _;refine Calls.mono (c2.out _ (H1.out.below hA)) ?_;rintro e w2 ⟨rfl,hb2⟩;have hx2:w2.heap[w1.heap.size]? = some (.cells #[.pointer (some ⟨g.B,6,none⟩),.pointer (some ⟨g.B,7,none⟩)] 184):=(hb2.block _ (by simp)).trans (heap_alloc_new w1 _);have H2:Hid (In g w2 m full):=(H1.out.below hA).below hb2;obtain ⟨bx,hbx⟩ : ∃ b,b=w1.heap.size:=⟨_,rfl⟩
 rw [<- hbx] at hx2 |-
 clear hbx hA hb2 H1 c2 q_p;have r0:=x7 ((cell_of_row w2 bx 0 _ _ _ hx2).trans rfl);have r1:=x7 ((cell_of_row w2 bx 1 _ _ _ hx2).trans rfl);have r2:=x7 (H2.out.k_p);rw [hk] at r2
 clear hx2
 go_wp2_with fail
 refine Qtail.aI 10 (by kernel_rfl) (by kernel_rfl) ?_;simp only [List.take_succ_cons,List.take_zero,List.drop_succ_cons,List.drop_zero]
 repeat (go_big_quiet_step (first|fail))
 refine wpQuiet_nil ?_;intro _ hw';obtain ⟨⟨dq,osq⟩,hw''⟩:=hw';subst hw'';have H3:=zHd (H2.out.below (x8 w2 dq osq));generalize Go.Sort.grow (redrawn w2 dq) osq=W3 at *
 clear H2 r0 r1 r2
 go_wp2_with fail
 refine Calls.mono (c3.out _ H3.out) ?_;rintro e w4 ⟨rfl,hi1⟩;have H4:Hid (In g w4 t full):=hi1;clear hi1 H3 c3;go_wp2;go_ret;exact ⟨rfl,H4.out⟩
end Stpx
namespace Stpy
open Go.Deep
open Signed (inB sgn aG aB)
open Busw Busx Stpp Stpq Stpi Stpj Stpr Stpk Stpm Stpn Stpu Stpx
theorem tJ {m:M} (h:Stpq.Good m) (p:Int) (h0:0<=p) (h1:p<=2):aN m p ((pr m p+0)%65536)=m:=by
 have hb:=h.b;have hc:=h.c;have hd:=h.d;have he:=h.e;have hh:=h.h;have hl:=h.l;have hn:p=0 \/ p=1 \/ p=2:=by omega
 rcases hn with rfl|rfl|rfl
 ·show ({ m with rB:=_,rC:=_ }:M)=m
  rw [show (pr m 0+0)%65536 / 256=m.rB by show (256*m.rB+m.rC+0)%65536 / 256=m.rB;omega,show (pr m 0+0)%65536%256=m.rC by show (256*m.rB+m.rC+0)%65536%256=m.rC;omega]
 ·show ({ m with rD:=_,rE:=_ }:M)=m
  rw [show (pr m 1+0)%65536 / 256=m.rD by show (256*m.rD+m.rE+0)%65536 / 256=m.rD;omega,show (pr m 1+0)%65536%256=m.rE by show (256*m.rD+m.rE+0)%65536%256=m.rE;omega]
 ·show ({ m with rH:=_,rL:=_ }:M)=m
  rw [show (pr m 2+0)%65536 / 256=m.rH by show (256*m.rH+m.rL+0)%65536 / 256=m.rH;omega,show (pr m 2+0)%65536%256=m.rL by show (256*m.rH+m.rL+0)%65536%256=m.rL;omega]
theorem yO (g:G) (m:M) (full:Bool) (w:World) (h:In g w m full) (hg:Stpq.Good m) (hp:Pt g) :
  Calls prog 182 #[.pointer (some ⟨g.K,0,none⟩)] w fun e w'=>e=.returned (.int .i64 (placeOf m g.p))/\In g w' (bZ m g.p) full:=by
 have h4:=fG hp.p.1 hp.p.2;rcases h4 with h4|h4|h4|h4
 ·have c:=bDK g m full w h hg h4
  rw [tJ hg 0 (by omega) (by omega)] at c
  rw [h4];exact c
 ·have c:=bDL g m full w h hg h4
  rw [tJ hg 1 (by omega) (by omega)] at c
  rw [h4];exact c
 ·have c:=bDM g m full w h hg h4
  rw [h4];exact c
 ·have c:=bDN g m full w h hg h4
  have e:(pr m 2+-1)%65536=(hl m+65535)%65536:=by show (256*m.rH+m.rL+-1)%65536=(256*m.rH+m.rL+65535)%65536;omega
  rw [e] at c
  rw [h4];exact c
theorem aHY (m:M) (p:Int):(bZ m p).ra=m.ra:=by
 unfold bZ aN
 repeat' split
 all_goals rfl
theorem rO (X m:M) (p:Int):bZ (eH X m) p=eH X (bZ m p):=by
 unfold bZ aN
 repeat' split
 all_goals first|rfl|contradiction
theorem yQ (m:M) (p:Int):eH m (bZ m p)=bZ m p:=by
 rw [<- rO,nD]
theorem bIA (m:M) (full:Bool) (p:Int):wr ⟨bZ m p,full⟩ (placeOf m p) m.ra=stE p ⟨m,full⟩:=by
 have h:=aBY m (bZ m p) full (placeOf m p) m.ra;rw [yQ] at h
 rw [h];unfold stE;simp only [];have h2:=lH ⟨m,full⟩ (placeOf m p) m.ra;rw [show bZ (wr ⟨m,full⟩ (placeOf m p) m.ra).m p=bZ (eH (wr ⟨m,full⟩ (placeOf m p) m.ra).m m) p by rw [h2],rO]
theorem bIB (m:M) (full:Bool) (p:Int):(⟨{ bZ m p with ra:=rd m (placeOf m p) },full⟩ : S)=ldE p ⟨m,full⟩:=by
 unfold ldE bZ aN
 repeat' split
 all_goals first|rfl|contradiction
theorem aHZ (m:M) (p a:Int):rd (bZ m p) a=rd m a:=by
 unfold bZ aN
 repeat' split
 all_goals rfl
theorem jA {m:M} (h:Stpq.Good m) (p:Int):0<=placeOf m p/\placeOf m p<=65535:=eC h _
theorem aOQ (g:G) (m:M) (full:Bool) (bx:Nat) (w:World) (h:In g w m full) (hg:Stpq.Good m) (hp:Pt g) (hb:w.cell? ⟨bx,0,none⟩=some (.func (.func 182) #[] #[])) :
  Calls prog 243 #[.pointer (some ⟨g.K,0,none⟩),.pointer (some ⟨bx,0,none⟩)] w fun e w'=>e=.returned (.tuple #[])/\In g w' (stE g.p ⟨m,full⟩).m (stE g.p ⟨m,full⟩).full:=by
 have lb:=World.block_lt_of_cell? w _ hb;rw [<- bIA];have c1:Hid (∀ W,In g W m full->Calls prog 182 #[.pointer (some ⟨g.K,0,none⟩)] W fun e w'=>e=.returned (.int .i64 (placeOf m g.p))/\In g w' (bZ m g.p) full):=fun W hi=>yO g m full W hi hg hp
 have g1:=iE hg g.p;have c2:Hid (∀ W,In g W (bZ m g.p) full->Calls prog 241 #[.pointer (some ⟨g.K,0,none⟩),.int .i64 (placeOf m g.p),.int .i64 m.ra] W fun e w'=>e=.returned (.tuple #[])/\In g w' (wr ⟨bZ m g.p,full⟩ (placeOf m g.p) m.ra).m (wr ⟨bZ m g.p,full⟩ (placeOf m g.p) m.ra).full):=fun W hi=>dV g (bZ m g.p) full _ _ W hi g1.rt hg.a.1 hg.a.2
 have HR:Hid ((bZ m g.p).ra=m.ra):=aHY m g.p;generalize wr ⟨bZ m g.p,full⟩ (placeOf m g.p) m.ra=t at *
 generalize bZ m g.p=m1 at *
 generalize placeOf m g.p=v at *
 have q0:=h.k_cpu;have q1:=h.c_ra;have HI:=zHd (h.below zRf.drew);clear h hg g1 hp
 go_enter func243,ntmps243
 go_wp2_with fail
 go_region_with (first|(go_at_call 182;refine Calls.mono (c1.out _ HI.out) ?_;rintro e w1 ⟨rfl,hi1⟩;have k1:=hi1.k_cpu;have k2:=(hi1.c_ra).trans (by rw [HR.out]);have H1:Hid (In g w1 m1 full):=hi1;clear hi1)|(go_at_call 241;refine Calls.mono (c2.out _ (by assumption:Hid (In g _ m1 full)).out) ?_;rintro e w2 ⟨rfl,hi2⟩;have H2:Hid (In g w2 t.m t.full):=hi2;clear hi2))
 all_goals go_wp2
 all_goals go_end0
 all_goals exact ⟨rfl,(by assumption:Hid (In g _ t.m t.full)).out⟩
theorem aOR (g:G) (m:M) (full:Bool) (bx:Nat) (w:World) (h:In g w m full) (hg:Stpq.Good m) (hp:Pt g) (hb:w.cell? ⟨bx,0,none⟩=some (.func (.func 182) #[] #[])) :
  Calls prog 244 #[.pointer (some ⟨g.K,0,none⟩),.pointer (some ⟨bx,0,none⟩)] w fun e w'=>e=.returned (.tuple #[])/\In g w' (ldE g.p ⟨m,full⟩).m (ldE g.p ⟨m,full⟩).full:=by
 have lb:=World.block_lt_of_cell? w _ hb;rw [<- bIB];have c1:Hid (∀ W,In g W m full->Calls prog 182 #[.pointer (some ⟨g.K,0,none⟩)] W fun e w'=>e=.returned (.int .i64 (placeOf m g.p))/\In g w' (bZ m g.p) full):=fun W hi=>yO g m full W hi hg hp
 have g1:=iE hg g.p;have pb:=jA hg g.p;have c2:Hid (∀ W,In g W (bZ m g.p) full->Calls prog 242 #[.pointer (some ⟨g.K,0,none⟩),.int .i64 (placeOf m g.p)] W fun e w'=>e=.returned (.int .i64 (rd m (placeOf m g.p)))/\Below W.heap.size W w'):=fun W hi=>by
  have h:=gT g (bZ m g.p) full (placeOf m g.p) W hi g1.rt;rw [show placeOf m g.p%65536=placeOf m g.p by omega,aHZ] at h
  exact h
 generalize rd m (placeOf m g.p)=q at *
 generalize bZ m g.p=m1 at *
 generalize placeOf m g.p=v at *
 have q0:=h.k_cpu;have HI:=zHd (h.below zRf.drew);clear h hg g1 hp pb
 go_enter func244,ntmps244
 go_wp2_with fail
 go_region_with (first|(go_at_call 182;refine Calls.mono (c1.out _ HI.out) ?_;rintro e w1 ⟨rfl,hi1⟩;have k1:=hi1.k_cpu;have H1:Hid (In g w1 m1 full):=hi1;clear hi1)|(go_at_call 242;refine Calls.mono (c2.out _ (by assumption:Hid (In g _ m1 full)).out) ?_;rintro e w2 ⟨rfl,hb2⟩;have hi2:=(by assumption:Hid (In g _ m1 full)).out.below hb2;have k3:=hi2.k_cpu;have k4:=hi2.c_ra;have k5:=hi2.fro 0;have H2:Hid (In g (w2.setCell ⟨g.B,0,none⟩ (.int .i64 q)) { m1 with ra:=q } full):=hi2.s_ra q;clear hi2 hb2))
 all_goals go_wp2
 all_goals go_end0
 all_goals exact ⟨rfl,(by assumption:Hid (In g _ { m1 with ra:=q } full)).out⟩
end Stpy
end Go.Proofs.YteglcgnhhoenbaaGreatDoor
