import Derived.Test.YteglcgnhhoenbaaGreatDoorQ24
import Derived.Test.YteglcgnhhoenbaaGreatDoorQ03
import Derived.Test.YteglcgnhhoenbaaGreatDoorQ08
set_option linter.all false
set_option maxRecDepth 20000
set_option maxHeartbeats 8000000
open Go.ChangeShapes Go.WideShapes Go.ChangeAt Go.RowKit
open Go.Proofs.Tryz
namespace Go.Proofs.YteglcgnhhoenbaaGreatDoor
namespace Stpi
open Busw
theorem In.k_cpu {g:G} {W:World} {m:M} {full:Bool} (h:In g W m full):W.cell? ⟨g.K,1,none⟩=some (.pointer (some ⟨g.B,0,none⟩)):=h.kcell 1 _ rfl
theorem In.k_imm {g:G} {W:World} {m:M} {full:Bool} (h:In g W m full):W.cell? ⟨g.K,4,none⟩=some (.int .i64 g.imm):=h.kcell 4 _ rfl
theorem In.k_x {g:G} {W:World} {m:M} {full:Bool} (h:In g W m full):W.cell? ⟨g.K,5,none⟩=some (.int .i64 g.x):=h.kcell 5 _ rfl
theorem In.k_y {g:G} {W:World} {m:M} {full:Bool} (h:In g W m full):W.cell? ⟨g.K,6,none⟩=some (.int .i64 g.y):=h.kcell 6 _ rfl
theorem In.k_z {g:G} {W:World} {m:M} {full:Bool} (h:In g W m full):W.cell? ⟨g.K,7,none⟩=some (.int .i64 g.z):=h.kcell 7 _ rfl
theorem In.k_p {g:G} {W:World} {m:M} {full:Bool} (h:In g W m full):W.cell? ⟨g.K,8,none⟩=some (.int .i64 g.p):=h.kcell 8 _ rfl
theorem In.k_full {g:G} {W:World} {m:M} {full:Bool} (h:In g W m full):W.cell? ⟨g.K,10,none⟩=some (.bool full):=h.kcell 10 _ rfl
theorem In.c_ra {g:G} {W:World} {m:M} {full:Bool} (h:In g W m full):W.cell? ⟨g.B,0,none⟩=some (.int .i64 m.ra):=h.cell 0 _ rfl
theorem In.c_rf {g:G} {W:World} {m:M} {full:Bool} (h:In g W m full):W.cell? ⟨g.B,1,none⟩=some (.int .i64 m.rf):=h.cell 1 _ rfl
theorem In.c_rB {g:G} {W:World} {m:M} {full:Bool} (h:In g W m full):W.cell? ⟨g.B,2,none⟩=some (.int .i64 m.rB):=h.cell 2 _ rfl
theorem In.c_rC {g:G} {W:World} {m:M} {full:Bool} (h:In g W m full):W.cell? ⟨g.B,3,none⟩=some (.int .i64 m.rC):=h.cell 3 _ rfl
theorem In.c_rD {g:G} {W:World} {m:M} {full:Bool} (h:In g W m full):W.cell? ⟨g.B,4,none⟩=some (.int .i64 m.rD):=h.cell 4 _ rfl
theorem In.c_rE {g:G} {W:World} {m:M} {full:Bool} (h:In g W m full):W.cell? ⟨g.B,5,none⟩=some (.int .i64 m.rE):=h.cell 5 _ rfl
theorem In.c_rH {g:G} {W:World} {m:M} {full:Bool} (h:In g W m full):W.cell? ⟨g.B,6,none⟩=some (.int .i64 m.rH):=h.cell 6 _ rfl
theorem In.c_rL {g:G} {W:World} {m:M} {full:Bool} (h:In g W m full):W.cell? ⟨g.B,7,none⟩=some (.int .i64 m.rL):=h.cell 7 _ rfl
theorem In.c_sp {g:G} {W:World} {m:M} {full:Bool} (h:In g W m full):W.cell? ⟨g.B,8,none⟩=some (.int .i64 m.sp):=h.cell 8 _ rfl
theorem In.c_pc {g:G} {W:World} {m:M} {full:Bool} (h:In g W m full):W.cell? ⟨g.B,9,none⟩=some (.int .i64 m.pc):=h.cell 9 _ rfl
theorem In.c_ime {g:G} {W:World} {m:M} {full:Bool} (h:In g W m full):W.cell? ⟨g.B,10,none⟩=some (.bool m.ime):=h.cell 10 _ rfl
theorem In.c_hal {g:G} {W:World} {m:M} {full:Bool} (h:In g W m full):W.cell? ⟨g.B,11,none⟩=some (.bool m.hal):=h.cell 11 _ rfl
end Stpi
namespace Stpn
open Go.Deep
open Signed (inB sgn aG aB)
open Busw Busx Stpp Stpq Stpi Stpj Stpr Stpk Stpm
theorem fG {n:Int} (n0:0<=n) (n1:n<=3):n=0 \/ n=1 \/ n=2 \/ n=3:=by omega
theorem rM (g:G) (m:M) (full:Bool) (n:Int) (w:World) (h:In g w m full) (n0:0<=n) (n1:n<=3) :
  Calls prog 174 #[.pointer (some ⟨g.K,0,none⟩),.int .i64 n] w fun e w'=>e=.returned (pv g n)/\Below w.heap.size w w':=by
 have k1:=h.k_cpu;rcases fG n0 n1 with rfl|rfl|rfl|rfl
 ·exact nL g w k1
 ·exact nM g w k1
 ·exact kS g w k1
 ·exact yF g w k1
theorem eU (g:G) (m:M) (full:Bool) (n:Int) (w:World) (h:In g w m full) (hg:Stpq.Good m) (n0:0<=n) (n1:n<=3) :
  Calls prog 178 #[pv g n] w fun e w'=>e=.returned (.int .i64 (pr m n))/\Below w.heap.size w w':=by
 rcases fG n0 n1 with rfl|rfl|rfl|rfl
 ·exact kR _ _ _ _ w (h.c_rB) (h.c_rC) hg.b.1 hg.b.2 hg.c.1 hg.c.2
 ·exact kR _ _ _ _ w (h.c_rD) (h.c_rE) hg.d.1 hg.d.2 hg.e.1 hg.e.2
 ·exact kR _ _ _ _ w (h.c_rH) (h.c_rL) hg.h.1 hg.h.2 hg.l.1 hg.l.2
 ·exact aNB _ _ w (h.c_sp)
theorem eD (g:G) (m:M) (full:Bool) (n v:Int) (w:World) (h:In g w m full) (n0:0<=n) (n1:n<=3) :
  Calls prog 175 #[pv g n,.int .i64 v] w fun e w'=>e=.returned (.tuple #[])/\In g w' (aN m n (v%65536)) full:=by
 rcases fG n0 n1 with rfl|rfl|rfl|rfl
 ·exact aTZ g m full v w h
 ·exact aUA g m full v w h
 ·exact aUB g m full v w h
 ·exact aUD g m full v w h
def qv (g:G) (n:Int):Value:=if n=3 then .agg #[.pointer (some ⟨g.B,0,none⟩),.pointer (some ⟨g.B,1,none⟩)] else pv g n
theorem aHO (g:G) (m:M) (full:Bool) (n:Int) (w:World) (h:In g w m full) (hg:Stpq.Good m) (n0:0<=n) (n1:n<=3) :
  Calls prog 178 #[qv g n] w fun e w'=>e=.returned (.int .i64 (prQ m n))/\Below w.heap.size w w':=by
 by_cases hn:n=3
 ·subst hn
  exact kR _ _ _ _ w (h.c_ra) (h.c_rf) hg.a.1 hg.a.2 hg.f.1 hg.f.2
 ·unfold qv prQ
  rw [if_neg hn,if_neg hn];exact eU g m full n w h hg n0 n1
def iY (m:M) (p v:Int):M:=if p=3 then { m with ra:=v / 256,rf:=v%256 } else aN m p v
theorem aHP (g:G) (m:M) (full:Bool) (n v:Int) (w:World) (h:In g w m full) (n0:0<=n) (n1:n<=3) :
  Calls prog 175 #[qv g n,.int .i64 v] w fun e w'=>e=.returned (.tuple #[])/\In g w' (iY m n (v%65536)) full:=by
 by_cases hn:n=3
 ·subst hn
  exact aUC g m full v w h
 ·unfold qv iY
  rw [if_neg hn,if_neg hn];exact eD g m full n v w h n0 n1
theorem aWB (g:G) (m:M) (full:Bool) (w:World) (h:In g w m full) :
  Calls prog 189 #[.pointer (some ⟨g.K,0,none⟩),.int .i64 0] w fun e w'=>e=.returned (.agg #[.pointer (some ⟨g.B,2,none⟩),.pointer (some ⟨g.B,3,none⟩)])/\Below w.heap.size w w':=by
 have q:w.cell? ⟨1,0,none⟩=some (.string ⟨#[98,99]⟩):=h.tb.stack 0 (by decide);have lq:=World.block_lt_of_cell? w _ q;have HC:Hid (∀ W,Below w.heap.size w W->Calls prog 174 #[.pointer (some ⟨g.K,0,none⟩),.int .i64 0] W fun e w'=>e=.returned (.agg #[.pointer (some ⟨g.B,2,none⟩),.pointer (some ⟨g.B,3,none⟩)])/\Below W.heap.size W w'):=fun W hb=>nL g W ((h.below hb).k_cpu)
 clear h
 go_enter func189,ntmps189
 go_wp2_with (go_at_call 174;refine (HC.out _ (by repeat (with_reducible first|exact zRf|refine zGr ?_ _|refine below_drewN ?_ _|refine Below.drew ?_))).mono ?_;rintro e w1 ⟨rfl,hb1⟩;have hx1:=(hb1.block w.heap.size (by simp)).trans (heap_alloc_new w _);have hb1:=CartL.after ((Below.refl _ w).alloc (Nat.le_refl _) _) hb1;have k0:=cell_of_row w1 w.heap.size 0 _ _ _ hx1;have k1:=cell_of_row w1 w.heap.size 1 _ _ _ hx1;have f0:=frozen_of_row w1 w.heap.size 0 _ _ hx1;have f1:=frozen_of_row w1 w.heap.size 1 _ _ hx1;have HX:Hid (Below w.heap.size w w1):=hb1;have lx:w.heap.size<w1.heap.size:=(zLo hx1);clear hx1 hb1;simp at k0 k1)
 refine bodyPost_ret (v:=.agg #[.pointer (some ⟨g.B,2,none⟩),.pointer (some ⟨g.B,3,none⟩)]) (by simp [results,results189,go_sem,k0,k1,lx]) rfl ⟨rfl,?_⟩;exact (HX.out.setCell (Nat.le_refl _) _).setCell (Nat.le_refl _) _
theorem aWC (g:G) (m:M) (full:Bool) (w:World) (h:In g w m full) :
  Calls prog 189 #[.pointer (some ⟨g.K,0,none⟩),.int .i64 1] w fun e w'=>e=.returned (.agg #[.pointer (some ⟨g.B,4,none⟩),.pointer (some ⟨g.B,5,none⟩)])/\Below w.heap.size w w':=by
 have q:w.cell? ⟨1,1,none⟩=some (.string ⟨#[100,101]⟩):=h.tb.stack 1 (by decide);have lq:=World.block_lt_of_cell? w _ q;have HC:Hid (∀ W,Below w.heap.size w W->Calls prog 174 #[.pointer (some ⟨g.K,0,none⟩),.int .i64 1] W fun e w'=>e=.returned (.agg #[.pointer (some ⟨g.B,4,none⟩),.pointer (some ⟨g.B,5,none⟩)])/\Below W.heap.size W w'):=fun W hb=>nM g W ((h.below hb).k_cpu)
 clear h
 go_enter func189,ntmps189
 go_wp2_with (go_at_call 174;refine (HC.out _ (by repeat (with_reducible first|exact zRf|refine zGr ?_ _|refine below_drewN ?_ _|refine Below.drew ?_))).mono ?_;rintro e w1 ⟨rfl,hb1⟩;have hx1:=(hb1.block w.heap.size (by simp)).trans (heap_alloc_new w _);have hb1:=CartL.after ((Below.refl _ w).alloc (Nat.le_refl _) _) hb1;have k0:=cell_of_row w1 w.heap.size 0 _ _ _ hx1;have k1:=cell_of_row w1 w.heap.size 1 _ _ _ hx1;have f0:=frozen_of_row w1 w.heap.size 0 _ _ hx1;have f1:=frozen_of_row w1 w.heap.size 1 _ _ hx1;have HX:Hid (Below w.heap.size w w1):=hb1;have lx:w.heap.size<w1.heap.size:=(zLo hx1);clear hx1 hb1;simp at k0 k1)
 refine bodyPost_ret (v:=.agg #[.pointer (some ⟨g.B,4,none⟩),.pointer (some ⟨g.B,5,none⟩)]) (by simp [results,results189,go_sem,k0,k1,lx]) rfl ⟨rfl,?_⟩;exact (HX.out.setCell (Nat.le_refl _) _).setCell (Nat.le_refl _) _
theorem aWD (g:G) (m:M) (full:Bool) (w:World) (h:In g w m full) :
  Calls prog 189 #[.pointer (some ⟨g.K,0,none⟩),.int .i64 2] w fun e w'=>e=.returned (.agg #[.pointer (some ⟨g.B,6,none⟩),.pointer (some ⟨g.B,7,none⟩)])/\Below w.heap.size w w':=by
 have q:w.cell? ⟨1,2,none⟩=some (.string ⟨#[104,108]⟩):=h.tb.stack 2 (by decide);have lq:=World.block_lt_of_cell? w _ q;have HC:Hid (∀ W,Below w.heap.size w W->Calls prog 174 #[.pointer (some ⟨g.K,0,none⟩),.int .i64 2] W fun e w'=>e=.returned (.agg #[.pointer (some ⟨g.B,6,none⟩),.pointer (some ⟨g.B,7,none⟩)])/\Below W.heap.size W w'):=fun W hb=>kS g W ((h.below hb).k_cpu)
 clear h
 go_enter func189,ntmps189
 go_wp2_with (go_at_call 174;refine (HC.out _ (by repeat (with_reducible first|exact zRf|refine zGr ?_ _|refine below_drewN ?_ _|refine Below.drew ?_))).mono ?_;rintro e w1 ⟨rfl,hb1⟩;have hx1:=(hb1.block w.heap.size (by simp)).trans (heap_alloc_new w _);have hb1:=CartL.after ((Below.refl _ w).alloc (Nat.le_refl _) _) hb1;have k0:=cell_of_row w1 w.heap.size 0 _ _ _ hx1;have k1:=cell_of_row w1 w.heap.size 1 _ _ _ hx1;have f0:=frozen_of_row w1 w.heap.size 0 _ _ hx1;have f1:=frozen_of_row w1 w.heap.size 1 _ _ hx1;have HX:Hid (Below w.heap.size w w1):=hb1;have lx:w.heap.size<w1.heap.size:=(zLo hx1);clear hx1 hb1;simp at k0 k1)
 refine bodyPost_ret (v:=.agg #[.pointer (some ⟨g.B,6,none⟩),.pointer (some ⟨g.B,7,none⟩)]) (by simp [results,results189,go_sem,k0,k1,lx]) rfl ⟨rfl,?_⟩;exact (HX.out.setCell (Nat.le_refl _) _).setCell (Nat.le_refl _) _
theorem aWE (g:G) (m:M) (full:Bool) (w:World) (h:In g w m full) :
  Calls prog 189 #[.pointer (some ⟨g.K,0,none⟩),.int .i64 3] w fun e w'=>e=.returned (.agg #[.pointer (some ⟨g.B,0,none⟩),.pointer (some ⟨g.B,1,none⟩)])/\Below w.heap.size w w':=by
 have q:w.cell? ⟨1,3,none⟩=some (.string ⟨#[97,102]⟩):=h.tb.stack 3 (by decide);have lq:=World.block_lt_of_cell? w _ q;have q1:=(h.below ((Below.refl _ w).alloc (Nat.le_refl _) (.cells #[.pointer none,.pointer none] 184))).k_cpu;have r1:=x7 q1;have HB:Hid (∀ d os,Below w.heap.size w (Go.Sort.grow (redrawn (w.alloc (.cells #[.pointer none,.pointer none] 184)) d) os)/\(Go.Sort.grow (redrawn (w.alloc (.cells #[.pointer none,.pointer none] 184)) d) os).heap[w.heap.size]? = some (.cells #[.pointer none,.pointer none] 184)):=fun d os=>⟨CartL.after ((Below.refl _ w).alloc (Nat.le_refl _) _) (x8 _ d os),((x8 _ d os).block w.heap.size (by simp)).trans (heap_alloc_new w _)⟩
 clear h q1
 go_enter func189,ntmps189
 go_wp2_with fail
 refine Qtail.aI 13 (by kernel_rfl) (by kernel_rfl) ?_;simp only [List.take_succ_cons,List.take_zero,List.drop_succ_cons,List.drop_zero]
 repeat (go_big_quiet_step (first|fail))
 refine wpQuiet_nil ?_;intro _ hw';obtain ⟨⟨dq,osq⟩,hw''⟩:=hw';subst hw'';obtain ⟨hb2,hx2⟩:=HB.out dq osq;generalize Go.Sort.grow (redrawn (w.alloc (.cells #[.pointer none,.pointer none] 184)) dq) osq=W2 at *
 refine wpList_store_row rfl 184 _ _ rfl w.heap.size #[.pointer (some ⟨g.B,0,none⟩),.pointer (some ⟨g.B,1,none⟩)] rfl rfl _ _ hx2 (by kernel_rfl) rfl (by simp [Value.oneCell']) ?_;refine wpList_nil ?_;have hx3:(W2.setRow w.heap.size #[.pointer (some ⟨g.B,0,none⟩),.pointer (some ⟨g.B,1,none⟩)]).heap[w.heap.size]? = some (.cells #[.pointer (some ⟨g.B,0,none⟩),.pointer (some ⟨g.B,1,none⟩)] 184):=MachT.bG hx2;have hb3:Below w.heap.size w (W2.setRow w.heap.size #[.pointer (some ⟨g.B,0,none⟩),.pointer (some ⟨g.B,1,none⟩)]):=MachT.bJ hb2 (Nat.le_refl _);generalize W2.setRow w.heap.size #[.pointer (some ⟨g.B,0,none⟩),.pointer (some ⟨g.B,1,none⟩)]=W3 at *
 go_wp2;refine bodyPost_ret (v:=.agg #[.pointer (some ⟨g.B,0,none⟩),.pointer (some ⟨g.B,1,none⟩)]) (results_cell_row results189 _ _ w.heap.size _ _ (0,0) _ rfl hx3 underlying184 rfl (by kernel_rfl)) rfl ⟨rfl,hb3⟩
theorem tE (g:G) (m:M) (full:Bool) (n:Int) (w:World) (h:In g w m full) (n0:0<=n) (n1:n<=3) :
  Calls prog 189 #[.pointer (some ⟨g.K,0,none⟩),.int .i64 n] w fun e w'=>e=.returned (qv g n)/\Below w.heap.size w w':=by
 rcases fG n0 n1 with rfl|rfl|rfl|rfl
 ·exact aWB g m full w h
 ·exact aWC g m full w h
 ·exact aWD g m full w h
 ·exact aWE g m full w h
theorem aCM (s:S) (a v:Int):wr s (a%65536) v=wr s a v:=by
 unfold wr;rw [Int.emod_emod]
theorem aYU (s:S) (a v:Int):(wr s a v).m.sp=s.m.sp:=by rw [<- lH s a v];rfl
theorem aWF (m:M) (f:Bool) (v:Int):wr (wr ⟨{ m with sp:=(m.sp-2)%65536 },f⟩ ((m.sp-2)%65536+1) (v / 256)) ((m.sp-2)%65536) (v%256)=push ⟨m,f⟩ v:=by
 have e1:((m.sp-2)%65536+1)%65536=(m.sp+65535)%65536:=by omega
 have e2:(m.sp-2)%65536=(m.sp+65534)%65536:=by omega
 have a1:∀ s u,wr s ((m.sp-2)%65536+1) u=wr s (m.sp+65535) u:=fun s u=>by rw [<- aCM s ((m.sp-2)%65536+1),e1,aCM]
 have a2:∀ s u,wr s ((m.sp-2)%65536) u=wr s (m.sp+65534) u:=fun s u=>by rw [e2,aCM]
 rw [a1,a2,e2];have h0:({ m with sp:=(m.sp+65534)%65536 }:M)=eH m { m with sp:=(m.sp+65534)%65536 }:=rfl;rw [h0,aBY,aBY];have h1:=lH (wr ⟨m,f⟩ (m.sp+65535) (v / 256)) (m.sp+65534) (v%256);have h2:=lH ⟨m,f⟩ (m.sp+65535) (v / 256);unfold push;simp only [];have e3:(⟨(wr ⟨m,f⟩ (m.sp+65535) (v / 256)).m,(wr ⟨m,f⟩ (m.sp+65535) (v / 256)).full⟩ : S)=wr ⟨m,f⟩ (m.sp+65535) (v / 256):=rfl;rw [e3];generalize wr ⟨m,f⟩ (m.sp+65535) (v / 256)=s1 at *
 generalize wr s1 (m.sp+65534) (v%256)=s2 at *
 rw [<- h1,<- h2]
 rfl
theorem yG (g:G) (m:M) (full:Bool) (v:Int) (w:World) (h:In g w m full) (hg:Stpq.Good m) (v0:0<=v) (v1:v<=65535) :
  Calls prog 188 #[.pointer (some ⟨g.K,0,none⟩),.int .i64 v] w fun e w'=>e=.returned (.tuple #[])/\In g w' (push ⟨m,full⟩ v).m (push ⟨m,full⟩ v).full:=by
 obtain ⟨s0,s1⟩:=hg.sp;rw [<- aWF];obtain ⟨q,hq⟩ : ∃ q,q=(m.sp-2)%65536:=⟨_,rfl⟩
 have q0:0<=q/\q<=65535:=by omega
 have c1:Rg 93 #[.int .i64 (m.sp-2)] w (.int .i64 q):=rg fun W hb=>(cX (m.sp-2) W).mono fun e w' h=>⟨by rw [hq];exact h.1,by rw [h.2];exact zRf⟩
 have g1:Stpq.Good { m with sp:=q }:=nE hg q q0.1 q0.2;have g2:Stpq.Good (wr ⟨{ m with sp:=q },full⟩ (q+1) (v / 256)).m:=dT g1 _ _ (by omega) (by omega);have p2:(wr ⟨{ m with sp:=q },full⟩ (q+1) (v / 256)).m.sp=q:=aYU _ _ _;have c2:Hid (∀ W,In g W { m with sp:=q } full->Calls prog 241 #[.pointer (some ⟨g.K,0,none⟩),.int .i64 (q+1),.int .i64 (v / 256)] W fun e w'=>e=.returned (.tuple #[])/\In g w' (wr ⟨{ m with sp:=q },full⟩ (q+1) (v / 256)).m (wr ⟨{ m with sp:=q },full⟩ (q+1) (v / 256)).full):=fun W hi=>dV g _ full _ _ W hi g1.rt (by omega) (by omega)
 rw [<- hq];generalize wr ⟨{ m with sp:=q },full⟩ (q+1) (v / 256)=t1 at *
 have c3:Hid (∀ W,In g W t1.m t1.full->Calls prog 241 #[.pointer (some ⟨g.K,0,none⟩),.int .i64 q,.int .i64 (v%256)] W fun e w'=>e=.returned (.tuple #[])/\In g w' (wr t1 q (v%256)).m (wr t1 q (v%256)).full):=fun W hi=>dV g _ _ _ _ W hi g2.rt (by omega) (by omega)
 generalize wr t1 q (v%256)=t2 at *
 have k1:=h.k_cpu;have r1:=x7 k1;have r8:=x7 (h.c_sp);have HI:Hid (In g w m full):=h;have d1:v.tdiv 256=v / 256:=x5 v0;have d2:v.tmod 256=v%256:=x4 v0;have d3:IntKind.i64.wrap (m.sp-2)=m.sp-2:=by rw [x6];omega
 have HP:Hid (t1.m.sp=q):=p2;clear h hq hg g1 g2 p2
 go_enter func188,ntmps188
 go_wp2_with fail
 refine Qtail.aI 15 (by kernel_rfl) (by kernel_rfl) ?_;simp only [List.take_succ_cons,List.take_zero,List.drop_succ_cons,List.drop_zero]
 repeat (go_big_quiet_step (first|with_reducible exact c1 _ _))
 refine wpQuiet_nil ?_;intro _ hw';obtain ⟨⟨dq,osq⟩,hw''⟩:=hw';subst hw'';have h2:=HI.out.below (x8 w dq osq);have e8:=h2.c_sp;have f8:=h2.fro 8;have lb:=h2.ltB;have h3:=h2.s_sp q;generalize Go.Sort.grow (redrawn w dq) osq=W2 at *
 have kk:=h3.k_cpu;have k8:=h3.c_sp;have H3:Hid (In g (W2.setCell ⟨g.B,8,none⟩ (.int .i64 q)) { m with sp:=q } full):=h3;clear h2 h3 r1 r8 c1 k1
 go_wp2_with fail
 refine Calls.mono (c2.out _ H3.out) ?_;rintro e w1 ⟨rfl,hi1⟩;have kk1:=hi1.k_cpu;have k81:=hi1.c_sp.trans (by rw [HP.out]);have H4:Hid (In g w1 t1.m t1.full):=hi1;clear hi1 H3 kk k8 e8 f8
 go_wp2_with fail
 refine Calls.mono (c3.out _ H4.out) ?_;rintro e w2 ⟨rfl,hi2⟩;have H5:Hid (In g w2 t2.m t2.full):=hi2;clear hi2;go_wp2
 go_end0
 exact ⟨rfl,H5.out⟩
theorem vM (g:G) (m:M) (full:Bool) (w:World) (h:In g w m full) (hg:Stpq.Good m) :
  Calls prog 219 #[.pointer (some ⟨g.K,0,none⟩)] w fun e w'=>e=.returned (.int .i64 (bA m))/\In g w' (aU m) full:=by
 obtain ⟨s0,s1⟩:=hg.sp;have c1:Rg 242 #[.pointer (some ⟨g.K,0,none⟩),.int .i64 m.sp] w (.int .i64 (rd m (m.sp%65536))):=rg fun W hb=>gT g m full _ W (h.below hb) hg.rt
 have c2:Rg 242 #[.pointer (some ⟨g.K,0,none⟩),.int .i64 (m.sp+1)] w (.int .i64 (rd m ((m.sp+1)%65536))):=rg fun W hb=>gT g m full _ W (h.below hb) hg.rt
 have b1:=fN m (m.sp%65536);have b2:=fN m ((m.sp+1)%65536);have e0:bA m=rd m (m.sp%65536)+256*rd m ((m.sp+1)%65536):=by unfold bA;rw [show m.sp%65536=m.sp by omega]
 rw [e0];generalize rd m (m.sp%65536)=a at *
 generalize rd m ((m.sp+1)%65536)=b at *
 clear e0;have r1:=x7 (h.k_cpu);have r8:=x7 (h.c_sp);have d1:IntKind.i64.wrap (m.sp+1)=m.sp+1:=by rw [x6];omega
 have d2:IntKind.i64.wrap (256*b)=256*b:=by rw [x6];omega
 have d3:IntKind.i64.wrap (a+256*b)=a+256*b:=by rw [x6];omega
 have d4:IntKind.i64.wrap (m.sp+2)=m.sp+2:=by rw [x6];omega
 have HI:Hid (In g w m full):=h;clear h hg
 go_enter func219,ntmps219
 go_wp2_with fail
 refine wp_region_quiet_below (by kernel_rfl) (by kernel_rfl) ?_
 repeat (go_big_quiet_step (first|with_reducible exact c1 _ _|with_reducible exact c2 _ _))
 refine wpQuiet_nil ?_;intro _ hw';obtain ⟨⟨dq,osq⟩,hw''⟩:=hw';subst hw'';have h2:=HI.out.below (x8 w dq osq);generalize Go.Sort.grow (redrawn w dq) osq=W2 at *
 have H2:Hid (In g W2 m full):=h2;clear r1 r8 c1 c2 HI;have r1:=x7 (h2.k_cpu);have r8:=x7 (h2.c_sp);have c1:Rg 93 #[.int .i64 (m.sp+2)] W2 (.int .i64 ((m.sp+2)%65536)):=rg fun W hb=>(cX (m.sp+2) W).mono fun e w' h=>⟨h.1,by rw [h.2];exact zRf⟩
 clear h2
 go_wp2_with fail
 refine Qtail.aI 15 (by kernel_rfl) (by kernel_rfl) ?_;simp only [List.take_succ_cons,List.take_zero,List.drop_succ_cons,List.drop_zero]
 repeat (go_big_quiet_step (first|with_reducible exact c1 _ _))
 refine wpQuiet_nil ?_;intro _ hw';obtain ⟨⟨dr,osr⟩,hw''⟩:=hw';subst hw'';have h3:=H2.out.below (x8 W2 dr osr);have e8:=h3.c_sp;have f8:=h3.fro 8;have h4:=h3.s_sp ((m.sp+2)%65536);generalize Go.Sort.grow (redrawn W2 dr) osr=W3 at *
 have H4:Hid (In g (W3.setCell ⟨g.B,8,none⟩ (.int .i64 ((m.sp+2)%65536))) (aU m) full):=h4;clear h3 h4 r1 r8 c1;go_wp2;go_ret;exact ⟨rfl,H4.out⟩
end Stpn
namespace Stpu
open Go.Deep
open Signed (inB sgn aG aB)
open Busw Busx Stpp Stpq Stpi Stpj Stpr Stpk Stpm Stpn
structure Pt (g:G):Prop where
 x:0<=g.x/\g.x<=3
 y:0<=g.y/\g.y<=7
 z:0<=g.z/\g.z<=7
 p:0<=g.p/\g.p<=3
theorem mv1 (g:G) (m:M) (full:Bool)  (w:World) (h:In g w m full) (hg:Stpq.Good m) (hp:Pt g) :
  Calls prog 169 #[.pointer (some ⟨g.K,0,none⟩)] w fun e w'=>e=.returned (.tuple #[])/\In g w' (put ⟨m,full⟩ g.y (Stpp.get m g.z)).m (put ⟨m,full⟩ g.y (Stpp.get m g.z)).full:=by
 have c1:Rg 171 #[.pointer (some ⟨g.K,0,none⟩),.int .i64 g.z] w (.int .i64 (Stpp.get m g.z)):=rg fun W hb=>jT g m full g.z W (h.below hb) hg hp.z.1 hp.z.2
 have bd:=dN hg g.z;have c2:Hid (∀ W,In g W m full->Calls prog 170 #[.pointer (some ⟨g.K,0,none⟩),.int .i64 g.y,.int .i64 (Stpp.get m g.z)] W fun e w'=>e=.returned (.tuple #[])/\In g w' (put ⟨m,full⟩ g.y (Stpp.get m g.z)).m (put ⟨m,full⟩ g.y (Stpp.get m g.z)).full):=fun W hi=>lM g m full _ _ W hi hg hp.y.1 hp.y.2 bd.1 bd.2
 generalize put ⟨m,full⟩ g.y (Stpp.get m g.z)=t at *
 generalize Stpp.get m g.z=v at *
 have r0:=x7 (h.k_y);have r1:=x7 (h.k_z);have HI:Hid (In g w m full):=h;clear h hg hp bd
 go_enter func169,ntmps169
 go_wp2_with fail
 refine Qtail.aI 13 (by kernel_rfl) (by kernel_rfl) ?_;simp only [List.take_succ_cons,List.take_zero,List.drop_succ_cons,List.drop_zero]
 repeat (go_big_quiet_step (first|with_reducible exact c1 _ _))
 refine wpQuiet_nil ?_;intro _ hw';obtain ⟨⟨dq,osq⟩,hw''⟩:=hw';subst hw'';have H2:=zHd (HI.out.below (x8 w dq osq));generalize Go.Sort.grow (redrawn w dq) osq=W2 at *
 clear HI r0 r1 c1
 go_wp2_with fail
 refine Calls.mono (c2.out _ H2.out) ?_;rintro e w1 ⟨rfl,hi1⟩;have H3:Hid (In g w1 t.m t.full):=hi1;clear hi1 H2 c2;go_wp2
 go_end0
 exact ⟨rfl,H3.out⟩
theorem mv2 (g:G) (m:M) (full:Bool) (i0:0<=g.imm) (i1:g.imm<=255) (w:World) (h:In g w m full) (hg:Stpq.Good m) (hp:Pt g) :
  Calls prog 172 #[.pointer (some ⟨g.K,0,none⟩)] w fun e w'=>e=.returned (.tuple #[])/\In g w' (put ⟨m,full⟩ g.y g.imm).m (put ⟨m,full⟩ g.y g.imm).full:=by
 have c2:Hid (∀ W,In g W m full->Calls prog 170 #[.pointer (some ⟨g.K,0,none⟩),.int .i64 g.y,.int .i64 g.imm] W fun e w'=>e=.returned (.tuple #[])/\In g w' (put ⟨m,full⟩ g.y g.imm).m (put ⟨m,full⟩ g.y g.imm).full):=fun W hi=>lM g m full _ _ W hi hg hp.y.1 hp.y.2 i0 i1
 generalize put ⟨m,full⟩ g.y g.imm=t at *
 have r0:=x7 (h.k_y);have r1:=x7 (h.k_imm);have HI:Hid (In g w m full):=h;clear h hg hp i0 i1
 go_enter func172,ntmps172
 go_wp2_with fail
 refine Qtail.aI 11 (by kernel_rfl) (by kernel_rfl) ?_;simp only [List.take_succ_cons,List.take_zero,List.drop_succ_cons,List.drop_zero]
 repeat (go_big_quiet_step (first|fail))
 refine wpQuiet_nil ?_;intro _ hw';obtain ⟨⟨dq,osq⟩,hw''⟩:=hw';subst hw'';have H2:=zHd (HI.out.below (x8 w dq osq));generalize Go.Sort.grow (redrawn w dq) osq=W2 at *
 clear HI r0 r1
 go_wp2_with fail
 refine Calls.mono (c2.out _ H2.out) ?_;rintro e w1 ⟨rfl,hi1⟩;have H3:Hid (In g w1 t.m t.full):=hi1;clear hi1 H2 c2;go_wp2
 go_end0
 exact ⟨rfl,H3.out⟩
theorem mv3 (g:G) (m:M) (full:Bool)  (w:World) (h:In g w m full) (hg:Stpq.Good m) (hp:Pt g) :
  Calls prog 173 #[.pointer (some ⟨g.K,0,none⟩)] w fun e w'=>e=.returned (.tuple #[])/\In g w' (⟨aN m g.p (g.imm%65536),full⟩ : S).m (⟨aN m g.p (g.imm%65536),full⟩ : S).full:=by
 have c1:Rg 174 #[.pointer (some ⟨g.K,0,none⟩),.int .i64 g.p] w (pv g g.p):=rg fun W hb=>rM g m full g.p W (h.below hb) hp.p.1 hp.p.2
 have c2:Hid (∀ W,In g W m full->Calls prog 175 #[pv g g.p,.int .i64 g.imm] W fun e w'=>e=.returned (.tuple #[])/\In g w' (⟨aN m g.p (g.imm%65536),full⟩ : S).m (⟨aN m g.p (g.imm%65536),full⟩ : S).full):=fun W hi=>eD g m full _ _ W hi hp.p.1 hp.p.2
 generalize (⟨aN m g.p (g.imm%65536),full⟩ : S)=t at *
 generalize pv g g.p=v at *
 have r0:=x7 (h.k_p);have r1:=x7 (h.k_imm);have HI:Hid (In g w m full):=h;clear h hg hp
 go_enter func173,ntmps173
 go_wp2_with fail
 refine Qtail.aI 12 (by kernel_rfl) (by kernel_rfl) ?_;simp only [List.take_succ_cons,List.take_zero,List.drop_succ_cons,List.drop_zero]
 repeat (go_big_quiet_step (first|with_reducible exact c1 _ _))
 refine wpQuiet_nil ?_;intro _ hw';obtain ⟨⟨dq,osq⟩,hw''⟩:=hw';subst hw'';have H2:=zHd (HI.out.below (x8 w dq osq));generalize Go.Sort.grow (redrawn w dq) osq=W2 at *
 clear HI r0 r1 c1
 go_wp2_with fail
 refine Calls.mono (c2.out _ H2.out) ?_;rintro e w1 ⟨rfl,hi1⟩;have H3:Hid (In g w1 t.m t.full):=hi1;clear hi1 H2 c2;go_wp2
 go_end0
 exact ⟨rfl,H3.out⟩
theorem mv4 (g:G) (m:M) (full:Bool)  (w:World) (h:In g w m full) (hg:Stpq.Good m) (hp:Pt g) :
  Calls prog 176 #[.pointer (some ⟨g.K,0,none⟩)] w fun e w'=>e=.returned (.tuple #[])/\In g w' (⟨{ m with sp:=hl m },full⟩ : S).m (⟨{ m with sp:=hl m },full⟩ : S).full:=by
 have c1:Rg 177 #[.pointer (some ⟨g.K,0,none⟩)] w (.agg #[.pointer (some ⟨g.B,6,none⟩),.pointer (some ⟨g.B,7,none⟩)]):=rg fun W hb=>gU g W ((h.below hb).k_cpu)
 have c2:Rg 178 #[.agg #[.pointer (some ⟨g.B,6,none⟩),.pointer (some ⟨g.B,7,none⟩)]] w (.int .i64 (hl m)):=rg fun W hb=>yE g m full W (h.below hb) hg
 generalize hl m=v at *
 have r0:=x7 (h.k_cpu);have HI:Hid (In g w m full):=h;clear h hg hp
 go_enter func176,ntmps176
 go_wp2_with fail
 refine Qtail.aI 9 (by kernel_rfl) (by kernel_rfl) ?_;simp only [List.take_succ_cons,List.take_zero,List.drop_succ_cons,List.drop_zero]
 repeat (go_big_quiet_step (first|with_reducible exact c1 _ _|with_reducible exact c2 _ _))
 refine wpQuiet_nil ?_;intro _ hw';obtain ⟨⟨dq,osq⟩,hw''⟩:=hw';subst hw'';have H2:=zHd (HI.out.below (x8 w dq osq));generalize Go.Sort.grow (redrawn w dq) osq=W2 at *
 clear HI r0 c1 c2;have q_k_cpu:=H2.out.k_cpu;have q_c_sp:=H2.out.c_sp;have f_sp:=H2.out.fro 8;have H3:=H2.out.s_sp v;have HF:Hid (In g (W2.setCell ⟨g.B,8,none⟩ (.int .i64 v)) { m with sp:=v } full):=H3;clear H3 H2;go_wp2
 go_end0
 exact ⟨rfl,HF.out⟩
theorem bLP (g:G) (m:M) (full:Bool) (i0:0<=g.imm) (i1:g.imm<=65535) (w:World) (h:In g w m full) (hg:Stpq.Good m) (hp:Pt g) :
  Calls prog 179 #[.pointer (some ⟨g.K,0,none⟩)] w fun e w'=>e=.returned (.tuple #[])/\In g w' (spE g.imm ⟨m,full⟩).m (spE g.imm ⟨m,full⟩).full:=by
 obtain ⟨s0,s1⟩:=hg.sp;have d1:m.sp.tmod 256=m.sp%256:=x4 s0;have d2:m.sp.tdiv 256=m.sp / 256:=x5 s0;have d3:IntKind.i64.wrap (g.imm+1)=g.imm+1:=by rw [x6];omega
 have d4:IntKind.i64.wrap (m.sp / 256)=m.sp / 256:=by rw [x6];omega
 have c1:Hid (∀ W,In g W m full->Calls prog 241 #[.pointer (some ⟨g.K,0,none⟩),.int .i64 g.imm,.int .i64 (m.sp%256)] W fun e w'=>e=.returned (.tuple #[])/\In g w' (wr ⟨m,full⟩ g.imm (m.sp%256)).m (wr ⟨m,full⟩ g.imm (m.sp%256)).full):=fun W hi=>dV g m full _ _ W hi hg.rt (by omega) (by omega)
 have g1:=dT (s:=⟨m,full⟩) hg g.imm (m.sp%256) (by omega) (by omega);have p1:=aYU ⟨m,full⟩ g.imm (m.sp%256);unfold spE;simp only [];generalize wr ⟨m,full⟩ g.imm (m.sp%256)=t at *
 have c2:Hid (∀ W,In g W t.m t.full->Calls prog 241 #[.pointer (some ⟨g.K,0,none⟩),.int .i64 (g.imm+1),.int .i64 (m.sp / 256)] W fun e w'=>e=.returned (.tuple #[])/\In g w' (wr t (g.imm+1) (m.sp / 256)).m (wr t (g.imm+1) (m.sp / 256)).full):=fun W hi=>dV g t.m t.full _ _ W hi g1.rt (by omega) (by omega)
 generalize wr t (g.imm+1) (m.sp / 256)=t2 at *
 have HP:Hid (t.m.sp=m.sp):=p1;have r0:=x7 (h.k_cpu);have r1:=x7 (h.k_imm);have r2:=x7 (h.c_sp);have HI:Hid (In g w m full):=h;clear h hg hp p1 g1 i0 i1
 go_enter func179,ntmps179
 go_wp2_with fail
 refine Qtail.aI 14 (by kernel_rfl) (by kernel_rfl) ?_;simp only [List.take_succ_cons,List.take_zero,List.drop_succ_cons,List.drop_zero]
 repeat (go_big_quiet_step (first|fail))
 refine wpQuiet_nil ?_;intro _ hw';obtain ⟨⟨dq,osq⟩,hw''⟩:=hw';subst hw'';have H2:=zHd (HI.out.below (x8 w dq osq));generalize Go.Sort.grow (redrawn w dq) osq=W2 at *
 clear HI r0 r1 r2
 go_wp2_with fail
 refine Calls.mono (c1.out _ H2.out) ?_;rintro e w1 ⟨rfl,hi1⟩;have H3:Hid (In g w1 t.m t.full):=hi1;clear hi1 H2 c1;have r0:=x7 (H3.out.k_cpu);have r1:=x7 (H3.out.k_imm);have r2:=x7 (H3.out.c_sp);rw [HP.out] at r2
 go_wp2_with fail
 refine Qtail.aI 15 (by kernel_rfl) (by kernel_rfl) ?_;simp only [List.take_succ_cons,List.take_zero,List.drop_succ_cons,List.drop_zero]
 repeat (go_big_quiet_step (first|fail))
 refine wpQuiet_nil ?_;intro _ hw';obtain ⟨⟨dq,osq⟩,hw''⟩:=hw';subst hw'';have H4:=zHd (H3.out.below (x8 w1 dq osq));generalize Go.Sort.grow (redrawn w1 dq) osq=W4 at *
 clear H3 r0 r1 r2
 go_wp2_with fail
 refine Calls.mono (c2.out _ H4.out) ?_;rintro e w2 ⟨rfl,hi1⟩;have H5:Hid (In g w2 t2.m t2.full):=hi1;clear hi1 H4 c2;go_wp2
 go_end0
 exact ⟨rfl,H5.out⟩
theorem inT {n lo hi:Int} (h:lo<=n/\n<=hi):inB n lo hi=true:=x9 h
theorem rK {a b:Int} (h1:0<=a/\a<=65535) (h2:0<=b/\b<=255):ReckM.asg a b=ReckM.asR a b:=by unfold ReckM.asg;rw [inT h1,inT h2];rfl
theorem bLQ (g:G) (m:M) (full:Bool) (i0:0<=g.imm) (i1:g.imm<=255) (w:World) (h:In g w m full) (hg:Stpq.Good m) (hp:Pt g) :
  Calls prog 180 #[.pointer (some ⟨g.K,0,none⟩)] w fun e w'=>e=.returned (.tuple #[])/\In g w' (⟨{ aN m 2 (ReckM.asR m.sp g.imm).1 with rf:=(ReckM.asR m.sp g.imm).2 },full⟩ : S).m (⟨{ aN m 2 (ReckM.asR m.sp g.imm).1 with rf:=(ReckM.asR m.sp g.imm).2 },full⟩ : S).full:=by
 have c1:Rg 202 #[.int .i64 m.sp,.int .i64 g.imm] w (.tuple #[.int .i64 (ReckM.asR m.sp g.imm).1,.int .i64 (ReckM.asR m.sp g.imm).2]):=rg fun W hb=>(ReckM.hZ m.sp g.imm W).mono fun e w' h=>⟨by rw [<- rK hg.sp ⟨i0,i1⟩];exact h.1,by rw [h.2];exact zRf⟩
 have bd:=aEU m.sp g.imm;generalize (ReckM.asR m.sp g.imm).1=v at *
 generalize (ReckM.asR m.sp g.imm).2=f at *
 have d1:Hid (∀ W,In g W m full->Calls prog 177 #[.pointer (some ⟨g.K,0,none⟩)] W fun e w'=>e=.returned (.agg #[.pointer (some ⟨g.B,6,none⟩),.pointer (some ⟨g.B,7,none⟩)])/\Below W.heap.size W w'):=fun W hi=>gU g W hi.k_cpu
 have d2:Hid (∀ W,In g W m full->Calls prog 175 #[.agg #[.pointer (some ⟨g.B,6,none⟩),.pointer (some ⟨g.B,7,none⟩)],.int .i64 v] W fun e w'=>e=.returned (.tuple #[])/\In g w' (aN m 2 v) full):=fun W hi=>by
  have h:=eD g m full 2 v W hi (by omega) (by omega);rw [show v%65536=v by omega] at h
  exact h
 generalize aN m 2 v=t at *
 have r0:=x7 (h.k_cpu);have r1:=x7 (h.k_imm);have r2:=x7 (h.c_sp);have HI:Hid (In g w m full):=h;clear h hg hp bd i0 i1
 go_enter func180,ntmps180
 go_wp2_with fail
 refine wp_region_quiet_below (by kernel_rfl) (by kernel_rfl) ?_
 repeat (go_big_quiet_step (first|with_reducible exact c1 _ _))
 refine wpQuiet_nil ?_;intro _ hw';obtain ⟨⟨dq,osq⟩,hw''⟩:=hw';subst hw'';have H2:=zHd (HI.out.below (x8 w dq osq));generalize Go.Sort.grow (redrawn w dq) osq=W2 at *
 clear HI r0 r1 r2 c1
 go_wp2_with fail
 refine Calls.mono (d1.out _ H2.out) ?_;rintro e w1 ⟨rfl,hb1⟩;have H3:=zHd (H2.out.below hb1);clear hb1 H2 d1
 go_wp2_with fail
 refine Calls.mono (d2.out _ H3.out) ?_;rintro e w2 ⟨rfl,hi1⟩;have H4:Hid (In g w2 t full):=hi1;clear hi1 H3 d2;have q_k_cpu:=H4.out.k_cpu;have q_c_rf:=H4.out.c_rf;have f_rf:=H4.out.fro 1;have H3:=H4.out.s_rf f;have HF:Hid (In g (w2.setCell ⟨g.B,1,none⟩ (.int .i64 f)) { t with rf:=f } full):=H3;clear H3 H4;go_wp2
 go_end0
 exact ⟨rfl,HF.out⟩
theorem aEZ (g:G) (m:M) (full:Bool) (w:World) (h:In g w m full) (hg:Stpq.Good m) (i0:0<=g.imm) (i1:g.imm<=65535) :
  Calls prog 186 #[.pointer (some ⟨g.K,0,none⟩)] w fun e w'=>e=.returned (.int .i64 (g.imm))/\Below w.heap.size w w':=by
 have q_k_imm:=h.k_imm;clear h hg
 go_enter func186,ntmps186
 go_wp2;go_ret;exact ⟨rfl,by repeat (with_reducible first|exact zRf|refine zGr ?_ _|refine below_drewN ?_ _|refine Below.drew ?_)⟩
theorem aFA (g:G) (m:M) (full:Bool) (w:World) (h:In g w m full) (hg:Stpq.Good m) (i0:0<=g.imm) (i1:g.imm<=65535) :
  Calls prog 184 #[.pointer (some ⟨g.K,0,none⟩)] w fun e w'=>e=.returned (.int .i64 (65280+g.imm))/\Below w.heap.size w w':=by
 have q_k_imm:=h.k_imm;have d1:IntKind.i64.wrap (65280+g.imm)=65280+g.imm:=by rw [x6];omega
 clear h hg
 go_enter func184,ntmps184
 go_wp2;go_ret;exact ⟨rfl,by repeat (with_reducible first|exact zRf|refine zGr ?_ _|refine below_drewN ?_ _|refine Below.drew ?_)⟩
theorem yH (g:G) (m:M) (full:Bool) (w:World) (h:In g w m full) (hg:Stpq.Good m) (i0:0<=g.imm) (i1:g.imm<=65535) :
  Calls prog 185 #[.pointer (some ⟨g.K,0,none⟩)] w fun e w'=>e=.returned (.int .i64 (65280+m.rC))/\Below w.heap.size w w':=by
 have q_k_cpu:=h.k_cpu;have q_c_rC:=h.c_rC;have hc:=hg.c;have d1:IntKind.i64.wrap (65280+m.rC)=65280+m.rC:=by rw [x6];omega
 clear h hg
 go_enter func185,ntmps185
 go_wp2;go_ret;exact ⟨rfl,by repeat (with_reducible first|exact zRf|refine zGr ?_ _|refine below_drewN ?_ _|refine Below.drew ?_)⟩
def tF (g:G) (m:M) (full:Bool) (F:FuncId) (v:Int):Prop:=∀ W,In g W m full->Calls prog F #[.pointer (some ⟨g.K,0,none⟩)] W fun e w'=>e=.returned (.int .i64 v)/\Below W.heap.size W w'
theorem aOA (g:G) (m:M) (full:Bool) (v:Int) (hF:tF g m full 186 v) (bx:Nat) (w:World) (h:In g w m full) (hg:Stpq.Good m) (hb:w.cell? ⟨bx,0,none⟩=some (.func (.func 186) #[] #[])) :
  Calls prog 243 #[.pointer (some ⟨g.K,0,none⟩),.pointer (some ⟨bx,0,none⟩)] w fun e w'=>e=.returned (.tuple #[])/\In g w' (wr ⟨m,full⟩ v m.ra).m (wr ⟨m,full⟩ v m.ra).full:=by
 have lb:=World.block_lt_of_cell? w _ hb;have c1:Rg 186 #[.pointer (some ⟨g.K,0,none⟩)] w (.int .i64 v):=rg fun W hb=>hF W (h.below hb)
 have c2:Hid (∀ W,In g W m full->Calls prog 241 #[.pointer (some ⟨g.K,0,none⟩),.int .i64 v,.int .i64 m.ra] W fun e w'=>e=.returned (.tuple #[])/\In g w' (wr ⟨m,full⟩ v m.ra).m (wr ⟨m,full⟩ v m.ra).full):=fun W hi=>dV g m full _ _ W hi hg.rt hg.a.1 hg.a.2
 generalize wr ⟨m,full⟩ v m.ra=t at *
 have r0:=x7 (h.k_cpu);have r1:=x7 (h.c_ra);have rb:=x7 hb;have HI:Hid (In g w m full):=h;clear h hg hF hb
 go_enter func243,ntmps243
 go_wp2_with fail
 refine Qtail.aI 11 (by kernel_rfl) (by kernel_rfl) ?_;simp only [List.take_succ_cons,List.take_zero,List.drop_succ_cons,List.drop_zero]
 repeat (go_big_quiet_step (first|with_reducible exact c1 _ _))
 refine wpQuiet_nil ?_;intro _ hw';obtain ⟨⟨dq,osq⟩,hw''⟩:=hw';subst hw'';have H2:=zHd (HI.out.below (x8 w dq osq));generalize Go.Sort.grow (redrawn w dq) osq=W2 at *
 clear HI r0 r1 rb c1
 go_wp2_with fail
 refine Calls.mono (c2.out _ H2.out) ?_;rintro e w1 ⟨rfl,hi1⟩;have H3:Hid (In g w1 t.m t.full):=hi1;clear hi1 H2 c2;go_wp2
 go_end0
 exact ⟨rfl,H3.out⟩
theorem aOB (g:G) (m:M) (full:Bool) (v:Int) (hF:tF g m full 186 v) (v0:0<=v) (v1:v<=65535) (bx:Nat) (w:World) (h:In g w m full) (hg:Stpq.Good m) (hb:w.cell? ⟨bx,0,none⟩=some (.func (.func 186) #[] #[])) :
  Calls prog 244 #[.pointer (some ⟨g.K,0,none⟩),.pointer (some ⟨bx,0,none⟩)] w fun e w'=>e=.returned (.tuple #[])/\In g w' (⟨{ m with ra:=rd m v },full⟩ : S).m (⟨{ m with ra:=rd m v },full⟩ : S).full:=by
 have lb:=World.block_lt_of_cell? w _ hb;have c1:Rg 186 #[.pointer (some ⟨g.K,0,none⟩)] w (.int .i64 v):=rg fun W hb=>hF W (h.below hb)
 have c2:Rg 242 #[.pointer (some ⟨g.K,0,none⟩),.int .i64 v] w (.int .i64 (rd m v)):=rg fun W hb=>by
  have h:=gT g m full v W (h.below hb) hg.rt;rw [show v%65536=v by omega] at h
  exact h
 generalize rd m v=q at *
 have r0:=x7 (h.k_cpu);have rb:=x7 hb;have HI:Hid (In g w m full):=h;clear h hg hF hb
 go_enter func244,ntmps244
 go_wp2_with fail
 refine Qtail.aI 11 (by kernel_rfl) (by kernel_rfl) ?_;simp only [List.take_succ_cons,List.take_zero,List.drop_succ_cons,List.drop_zero]
 repeat (go_big_quiet_step (first|with_reducible exact c1 _ _|with_reducible exact c2 _ _))
 refine wpQuiet_nil ?_;intro _ hw';obtain ⟨⟨dq,osq⟩,hw''⟩:=hw';subst hw'';have H2:=zHd (HI.out.below (x8 w dq osq));generalize Go.Sort.grow (redrawn w dq) osq=W2 at *
 clear HI r0 rb c1 c2;have q_k_cpu:=H2.out.k_cpu;have q_c_ra:=H2.out.c_ra;have f_ra:=H2.out.fro 0;have H3:=H2.out.s_ra q;have HF:Hid (In g (W2.setCell ⟨g.B,0,none⟩ (.int .i64 q)) { m with ra:=q } full):=H3;clear H3 H2;go_wp2
 go_end0
 exact ⟨rfl,HF.out⟩
theorem aOC (g:G) (m:M) (full:Bool) (v:Int) (hF:tF g m full 184 v) (bx:Nat) (w:World) (h:In g w m full) (hg:Stpq.Good m) (hb:w.cell? ⟨bx,0,none⟩=some (.func (.func 184) #[] #[])) :
  Calls prog 243 #[.pointer (some ⟨g.K,0,none⟩),.pointer (some ⟨bx,0,none⟩)] w fun e w'=>e=.returned (.tuple #[])/\In g w' (wr ⟨m,full⟩ v m.ra).m (wr ⟨m,full⟩ v m.ra).full:=by
 have lb:=World.block_lt_of_cell? w _ hb;have c1:Rg 184 #[.pointer (some ⟨g.K,0,none⟩)] w (.int .i64 v):=rg fun W hb=>hF W (h.below hb)
 have c2:Hid (∀ W,In g W m full->Calls prog 241 #[.pointer (some ⟨g.K,0,none⟩),.int .i64 v,.int .i64 m.ra] W fun e w'=>e=.returned (.tuple #[])/\In g w' (wr ⟨m,full⟩ v m.ra).m (wr ⟨m,full⟩ v m.ra).full):=fun W hi=>dV g m full _ _ W hi hg.rt hg.a.1 hg.a.2
 generalize wr ⟨m,full⟩ v m.ra=t at *
 have r0:=x7 (h.k_cpu);have r1:=x7 (h.c_ra);have rb:=x7 hb;have HI:Hid (In g w m full):=h;clear h hg hF hb
 go_enter func243,ntmps243
 go_wp2_with fail
 refine Qtail.aI 11 (by kernel_rfl) (by kernel_rfl) ?_;simp only [List.take_succ_cons,List.take_zero,List.drop_succ_cons,List.drop_zero]
 repeat (go_big_quiet_step (first|with_reducible exact c1 _ _))
 refine wpQuiet_nil ?_;intro _ hw';obtain ⟨⟨dq,osq⟩,hw''⟩:=hw';subst hw'';have H2:=zHd (HI.out.below (x8 w dq osq));generalize Go.Sort.grow (redrawn w dq) osq=W2 at *
 clear HI r0 r1 rb c1
 go_wp2_with fail
 refine Calls.mono (c2.out _ H2.out) ?_;rintro e w1 ⟨rfl,hi1⟩;have H3:Hid (In g w1 t.m t.full):=hi1;clear hi1 H2 c2;go_wp2
 go_end0
 exact ⟨rfl,H3.out⟩
theorem aOD (g:G) (m:M) (full:Bool) (v:Int) (hF:tF g m full 184 v) (v0:0<=v) (v1:v<=65535) (bx:Nat) (w:World) (h:In g w m full) (hg:Stpq.Good m) (hb:w.cell? ⟨bx,0,none⟩=some (.func (.func 184) #[] #[])) :
  Calls prog 244 #[.pointer (some ⟨g.K,0,none⟩),.pointer (some ⟨bx,0,none⟩)] w fun e w'=>e=.returned (.tuple #[])/\In g w' (⟨{ m with ra:=rd m v },full⟩ : S).m (⟨{ m with ra:=rd m v },full⟩ : S).full:=by
 have lb:=World.block_lt_of_cell? w _ hb;have c1:Rg 184 #[.pointer (some ⟨g.K,0,none⟩)] w (.int .i64 v):=rg fun W hb=>hF W (h.below hb)
 have c2:Rg 242 #[.pointer (some ⟨g.K,0,none⟩),.int .i64 v] w (.int .i64 (rd m v)):=rg fun W hb=>by
  have h:=gT g m full v W (h.below hb) hg.rt;rw [show v%65536=v by omega] at h
  exact h
 generalize rd m v=q at *
 have r0:=x7 (h.k_cpu);have rb:=x7 hb;have HI:Hid (In g w m full):=h;clear h hg hF hb
 go_enter func244,ntmps244
 go_wp2_with fail
 refine Qtail.aI 11 (by kernel_rfl) (by kernel_rfl) ?_;simp only [List.take_succ_cons,List.take_zero,List.drop_succ_cons,List.drop_zero]
 repeat (go_big_quiet_step (first|with_reducible exact c1 _ _|with_reducible exact c2 _ _))
 refine wpQuiet_nil ?_;intro _ hw';obtain ⟨⟨dq,osq⟩,hw''⟩:=hw';subst hw'';have H2:=zHd (HI.out.below (x8 w dq osq));generalize Go.Sort.grow (redrawn w dq) osq=W2 at *
 clear HI r0 rb c1 c2;have q_k_cpu:=H2.out.k_cpu;have q_c_ra:=H2.out.c_ra;have f_ra:=H2.out.fro 0;have H3:=H2.out.s_ra q;have HF:Hid (In g (W2.setCell ⟨g.B,0,none⟩ (.int .i64 q)) { m with ra:=q } full):=H3;clear H3 H2;go_wp2
 go_end0
 exact ⟨rfl,HF.out⟩
theorem aHQ (g:G) (m:M) (full:Bool) (v:Int) (hF:tF g m full 185 v) (bx:Nat) (w:World) (h:In g w m full) (hg:Stpq.Good m) (hb:w.cell? ⟨bx,0,none⟩=some (.func (.func 185) #[] #[])) :
  Calls prog 243 #[.pointer (some ⟨g.K,0,none⟩),.pointer (some ⟨bx,0,none⟩)] w fun e w'=>e=.returned (.tuple #[])/\In g w' (wr ⟨m,full⟩ v m.ra).m (wr ⟨m,full⟩ v m.ra).full:=by
 have lb:=World.block_lt_of_cell? w _ hb;have c1:Rg 185 #[.pointer (some ⟨g.K,0,none⟩)] w (.int .i64 v):=rg fun W hb=>hF W (h.below hb)
 have c2:Hid (∀ W,In g W m full->Calls prog 241 #[.pointer (some ⟨g.K,0,none⟩),.int .i64 v,.int .i64 m.ra] W fun e w'=>e=.returned (.tuple #[])/\In g w' (wr ⟨m,full⟩ v m.ra).m (wr ⟨m,full⟩ v m.ra).full):=fun W hi=>dV g m full _ _ W hi hg.rt hg.a.1 hg.a.2
 generalize wr ⟨m,full⟩ v m.ra=t at *
 have r0:=x7 (h.k_cpu);have r1:=x7 (h.c_ra);have rb:=x7 hb;have HI:Hid (In g w m full):=h;clear h hg hF hb
 go_enter func243,ntmps243
 go_wp2_with fail
 refine Qtail.aI 11 (by kernel_rfl) (by kernel_rfl) ?_;simp only [List.take_succ_cons,List.take_zero,List.drop_succ_cons,List.drop_zero]
 repeat (go_big_quiet_step (first|with_reducible exact c1 _ _))
 refine wpQuiet_nil ?_;intro _ hw';obtain ⟨⟨dq,osq⟩,hw''⟩:=hw';subst hw'';have H2:=zHd (HI.out.below (x8 w dq osq));generalize Go.Sort.grow (redrawn w dq) osq=W2 at *
 clear HI r0 r1 rb c1
 go_wp2_with fail
 refine Calls.mono (c2.out _ H2.out) ?_;rintro e w1 ⟨rfl,hi1⟩;have H3:Hid (In g w1 t.m t.full):=hi1;clear hi1 H2 c2;go_wp2
 go_end0
 exact ⟨rfl,H3.out⟩
theorem aHR (g:G) (m:M) (full:Bool) (v:Int) (hF:tF g m full 185 v) (v0:0<=v) (v1:v<=65535) (bx:Nat) (w:World) (h:In g w m full) (hg:Stpq.Good m) (hb:w.cell? ⟨bx,0,none⟩=some (.func (.func 185) #[] #[])) :
  Calls prog 244 #[.pointer (some ⟨g.K,0,none⟩),.pointer (some ⟨bx,0,none⟩)] w fun e w'=>e=.returned (.tuple #[])/\In g w' (⟨{ m with ra:=rd m v },full⟩ : S).m (⟨{ m with ra:=rd m v },full⟩ : S).full:=by
 have lb:=World.block_lt_of_cell? w _ hb;have c1:Rg 185 #[.pointer (some ⟨g.K,0,none⟩)] w (.int .i64 v):=rg fun W hb=>hF W (h.below hb)
 have c2:Rg 242 #[.pointer (some ⟨g.K,0,none⟩),.int .i64 v] w (.int .i64 (rd m v)):=rg fun W hb=>by
  have h:=gT g m full v W (h.below hb) hg.rt;rw [show v%65536=v by omega] at h
  exact h
 generalize rd m v=q at *
 have r0:=x7 (h.k_cpu);have rb:=x7 hb;have HI:Hid (In g w m full):=h;clear h hg hF hb
 go_enter func244,ntmps244
 go_wp2_with fail
 refine Qtail.aI 11 (by kernel_rfl) (by kernel_rfl) ?_;simp only [List.take_succ_cons,List.take_zero,List.drop_succ_cons,List.drop_zero]
 repeat (go_big_quiet_step (first|with_reducible exact c1 _ _|with_reducible exact c2 _ _))
 refine wpQuiet_nil ?_;intro _ hw';obtain ⟨⟨dq,osq⟩,hw''⟩:=hw';subst hw'';have H2:=zHd (HI.out.below (x8 w dq osq));generalize Go.Sort.grow (redrawn w dq) osq=W2 at *
 clear HI r0 rb c1 c2;have q_k_cpu:=H2.out.k_cpu;have q_c_ra:=H2.out.c_ra;have f_ra:=H2.out.fro 0;have H3:=H2.out.s_ra q;have HF:Hid (In g (W2.setCell ⟨g.B,0,none⟩ (.int .i64 q)) { m with ra:=q } full):=H3;clear H3 H2;go_wp2
 go_end0
 exact ⟨rfl,HF.out⟩
theorem bCS (g:G) (m:M) (full:Bool)  (w:World) (h:In g w m full) (hg:Stpq.Good m) (hp:Pt g) :
  Calls prog 187 #[.pointer (some ⟨g.K,0,none⟩)] w fun e w'=>e=.returned (.tuple #[])/\In g w' (push ⟨m,full⟩ (prQ m g.p)).m (push ⟨m,full⟩ (prQ m g.p)).full:=by
 have c1:Hid (∀ W,In g W m full->Calls prog 189 #[.pointer (some ⟨g.K,0,none⟩),.int .i64 g.p] W fun e w'=>e=.returned (qv g g.p)/\Below W.heap.size W w'):=fun W hi=>tE g m full g.p W hi hp.p.1 hp.p.2
 have c2:Hid (∀ W,In g W m full->Calls prog 178 #[qv g g.p] W fun e w'=>e=.returned (.int .i64 (prQ m g.p))/\Below W.heap.size W w'):=fun W hi=>aHO g m full g.p W hi hg hp.p.1 hp.p.2
 have bd:=mC hg g.p;have c3:Hid (∀ W,In g W m full->Calls prog 188 #[.pointer (some ⟨g.K,0,none⟩),.int .i64 (prQ m g.p)] W fun e w'=>e=.returned (.tuple #[])/\In g w' (push ⟨m,full⟩ (prQ m g.p)).m (push ⟨m,full⟩ (prQ m g.p)).full):=fun W hi=>yG g m full _ W hi hg bd.1 bd.2
 generalize push ⟨m,full⟩ (prQ m g.p)=t at *
 generalize prQ m g.p=v at *
 generalize qv g g.p=pq at *
 have q_p:=h.k_p;have HI:Hid (In g w m full):=h;clear h hg hp bd
 go_enter func187,ntmps187
 go_wp2_with fail
 refine Calls.mono (c1.out _ HI.out) ?_;rintro e w1 ⟨rfl,hb1⟩;have H1:=zHd (HI.out.below hb1);clear hb1 HI c1
 go_wp2_with fail
 refine Calls.mono (c2.out _ H1.out) ?_;rintro e w2 ⟨rfl,hb1⟩;have H2:=zHd (H1.out.below hb1);clear hb1 H1 c2
 go_wp2_with fail
 refine Calls.mono (c3.out _ H2.out) ?_;rintro e w3 ⟨rfl,hi1⟩;have H3:Hid (In g w3 t.m t.full):=hi1;clear hi1 H2 c3;go_wp2
 go_end0
 exact ⟨rfl,H3.out⟩
theorem bHQ (g:G) (m:M) (full:Bool)  (w:World) (h:In g w m full) (hg:Stpq.Good m) (hp:Pt g) :
  Calls prog 190 #[.pointer (some ⟨g.K,0,none⟩)] w fun e w'=>e=.returned (.tuple #[])/\In g w' (⟨{ iY (aU m) g.p (bA m%65536) with rf:=bits .and .i64 (iY (aU m) g.p (bA m%65536)).rf 240 },full⟩ : S).m (⟨{ iY (aU m) g.p (bA m%65536) with rf:=bits .and .i64 (iY (aU m) g.p (bA m%65536)).rf 240 },full⟩ : S).full:=by
 have c1:Hid (∀ W,In g W m full->Calls prog 189 #[.pointer (some ⟨g.K,0,none⟩),.int .i64 g.p] W fun e w'=>e=.returned (qv g g.p)/\Below W.heap.size W w'):=fun W hi=>tE g m full g.p W hi hp.p.1 hp.p.2
 have c2:Hid (∀ W,In g W m full->Calls prog 219 #[.pointer (some ⟨g.K,0,none⟩)] W fun e w'=>e=.returned (.int .i64 (bA m))/\In g w' (aU m) full):=fun W hi=>vM g m full W hi hg
 have c3:Hid (∀ W,In g W (aU m) full->Calls prog 175 #[qv g g.p,.int .i64 (bA m)] W fun e w'=>e=.returned (.tuple #[])/\In g w' (iY (aU m) g.p (bA m%65536)) full):=fun W hi=>aHP g (aU m) full g.p (bA m) W hi hp.p.1 hp.p.2
 generalize iY (aU m) g.p (bA m%65536)=t at *
 generalize aU m=m1 at *
 generalize bA m=v at *
 generalize qv g g.p=pq at *
 obtain ⟨fv,hfv⟩ : ∃ f,bits .and .i64 t.rf 240=f:=⟨_,rfl⟩
 rw [hfv];have q_p:=h.k_p;have HI:Hid (In g w m full):=h;clear h hg hp
 go_enter func190,ntmps190
 go_wp2_with fail
 refine Calls.mono (c1.out _ HI.out) ?_;rintro e w1 ⟨rfl,hb1⟩;have H1:=zHd (HI.out.below hb1);clear hb1 HI c1
 go_wp2_with fail
 refine Calls.mono (c2.out _ H1.out) ?_;rintro e w2 ⟨rfl,hi1⟩;have H2:Hid (In g w2 m1 full):=hi1;clear hi1 H1 c2
 go_wp2_with fail
 refine Calls.mono (c3.out _ H2.out) ?_;rintro e w3 ⟨rfl,hi1⟩;have H3':Hid (In g w3 t full):=hi1;clear hi1 H2 c3;have q_k_cpu:=H3'.out.k_cpu;have q_c_rf:=H3'.out.c_rf;have f_rf:=H3'.out.fro 1;have H3:=H3'.out.s_rf fv;have HF:Hid (In g (w3.setCell ⟨g.B,1,none⟩ (.int .i64 fv)) { t with rf:=fv } full):=H3;clear H3 H3';go_wp2
 go_end0
 exact ⟨rfl,HF.out⟩
end Stpu
namespace Stpv
open Go.Deep
open Signed (inB sgn aG aB)
open Busw Busx Stpp Stpq Stpi Stpj Stpr Stpk Stpm Stpn Stpu
open Reck ReckS ReckM ReckD TurnS
theorem bCT {o a b f:Int} (h0:0<=o/\o<=7) (h1:0<=a/\a<=255) (h2:0<=b/\b<=255) (h3:0<=f/\f<=255):alu o a b f=aS o a b f:=by unfold alu;rw [inT h0,inT h1,inT h2,inT h3];rfl
theorem vK {v f:Int} {d:Bool} (h1:0<=v/\v<=255) (h3:0<=f/\f<=255):st8 v f d=cP v f d:=by unfold st8;rw [inT h1,inT h3];rfl
theorem tD {a b f:Int} (h1:0<=a/\a<=65535) (h2:0<=b/\b<=65535) (h3:0<=f/\f<=255):aw a b f=awR a b f:=by unfold aw;rw [inT h1,inT h2,inT h3];rfl
theorem bCU {a f:Int} (h1:0<=a/\a<=255) (h3:0<=f/\f<=255):daa a f=fJ a f:=by unfold daa;rw [inT h1,inT h3];rfl
theorem aOE {o v f:Int} (h0:0<=o/\o<=7) (h1:0<=v/\v<=255) (h3:0<=f/\f<=255):trn o v f=cD o v f:=by unfold trn;rw [inT h0,inT h1,inT h3];rfl
theorem reckon (g:G) (m:M) (full:Bool) (v:Int) (v0:0<=v) (v1:v<=255) (w:World) (h:In g w m full) (hg:Stpq.Good m) (hp:Pt g) :
  Calls prog 192 #[.pointer (some ⟨g.K,0,none⟩),.int .i64 v] w fun e w'=>e=.returned (.tuple #[])/\In g w' (⟨{ m with ra:=(aS g.y m.ra v m.rf).1,rf:=(aS g.y m.ra v m.rf).2 },full⟩ : S).m (⟨{ m with ra:=(aS g.y m.ra v m.rf).1,rf:=(aS g.y m.ra v m.rf).2 },full⟩ : S).full:=by
 have c1:Rg 245 #[.int .i64 g.y,.int .i64 m.ra,.int .i64 v,.int .i64 m.rf] w (.tuple #[.int .i64 (aS g.y m.ra v m.rf).1,.int .i64 (aS g.y m.ra v m.rf).2]):=rg fun W hb=>(AluI.wZ g.y m.ra v m.rf W).mono fun e w' h=>⟨by rw [<- bCT hp.y hg.a ⟨v0,v1⟩ hg.f];exact h.1,h.2⟩
 generalize (aS g.y m.ra v m.rf).1=a1 at *
 generalize (aS g.y m.ra v m.rf).2=f1 at *
 have r0:=x7 (h.k_cpu);have r1:=x7 (h.k_y);have r2:=x7 (h.c_ra);have r3:=x7 (h.c_rf);have HI:Hid (In g w m full):=h;clear h hg hp v0 v1
 go_enter func192,ntmps192
 go_wp2_with fail
 refine Qflo.nY 31 32 (by kernel_rfl) (by kernel_rfl) (fun _ _ _ _ _ h=>h) ?_;simp only [List.take_succ_cons,List.take_zero,List.drop_succ_cons,List.drop_zero]
 repeat (go_big_quiet_step (first|with_reducible exact c1 _ _))
 refine wpQuiet_nil ?_;intro _ hw';obtain ⟨⟨dq,osq⟩,hw''⟩:=hw';subst hw'';have H2:=zHd (HI.out.below (x8 w dq osq));generalize Go.Sort.grow (redrawn w dq) osq=W2 at *
 clear HI r0 r1 r2 r3 c1;have q_k_cpu:=H2.out.k_cpu;have q_c_ra:=H2.out.c_ra;have q_c_rf:=H2.out.c_rf;have f_ra:=H2.out.fro 0;have f_rf:=H2.out.fro 1;have lB:=H2.out.ltB;have HF:Hid (In g ((W2.setCell ⟨g.B,0,none⟩ (.int .i64 a1)).setCell ⟨g.B,1,none⟩ (.int .i64 f1)) { m with ra:=a1,rf:=f1 } full):=(H2.out.s_ra a1).s_rf f1;clear H2;go_wp2
 go_end0
 exact ⟨rfl,HF.out⟩
theorem rk1 (g:G) (m:M) (full:Bool)  (w:World) (h:In g w m full) (hg:Stpq.Good m) (hp:Pt g) :
  Calls prog 191 #[.pointer (some ⟨g.K,0,none⟩)] w fun e w'=>e=.returned (.tuple #[])/\In g w' (⟨{ m with ra:=(aS g.y m.ra (Stpp.get m g.z) m.rf).1,rf:=(aS g.y m.ra (Stpp.get m g.z) m.rf).2 },full⟩ : S).m (⟨{ m with ra:=(aS g.y m.ra (Stpp.get m g.z) m.rf).1,rf:=(aS g.y m.ra (Stpp.get m g.z) m.rf).2 },full⟩ : S).full:=by
 have c1:Hid (∀ W,In g W m full->Calls prog 171 #[.pointer (some ⟨g.K,0,none⟩),.int .i64 g.z] W fun e w'=>e=.returned (.int .i64 (Stpp.get m g.z))/\Below W.heap.size W w'):=fun W hi=>jT g m full g.z W hi hg hp.z.1 hp.z.2
 have bd:=dN hg g.z;have c2:Hid (∀ W,In g W m full->Calls prog 192 #[.pointer (some ⟨g.K,0,none⟩),.int .i64 (Stpp.get m g.z)] W fun e w'=>e=.returned (.tuple #[])/\In g w' (⟨{ m with ra:=(aS g.y m.ra (Stpp.get m g.z) m.rf).1,rf:=(aS g.y m.ra (Stpp.get m g.z) m.rf).2 },full⟩ : S).m (⟨{ m with ra:=(aS g.y m.ra (Stpp.get m g.z) m.rf).1,rf:=(aS g.y m.ra (Stpp.get m g.z) m.rf).2 },full⟩ : S).full):=fun W hi=>reckon g m full _ bd.1 bd.2 W hi hg hp
 generalize (⟨{ m with ra:=(aS g.y m.ra (Stpp.get m g.z) m.rf).1,rf:=(aS g.y m.ra (Stpp.get m g.z) m.rf).2 },full⟩ : S)=t at *
 generalize Stpp.get m g.z=v at *
 have q_z:=h.k_z;have HI:Hid (In g w m full):=h;clear h hg hp bd
 go_enter func191,ntmps191
 go_wp2_with fail
 refine Calls.mono (c1.out _ HI.out) ?_;rintro e w1 ⟨rfl,hb1⟩;have H1:=zHd (HI.out.below hb1);clear hb1 HI c1
 go_wp2_with fail
 refine Calls.mono (c2.out _ H1.out) ?_;rintro e w2 ⟨rfl,hi1⟩;have H3:Hid (In g w2 t.m t.full):=hi1;clear hi1 H1 c2;go_wp2
 go_end0
 exact ⟨rfl,H3.out⟩
theorem rk2 (g:G) (m:M) (full:Bool) (i0:0<=g.imm) (i1:g.imm<=255) (w:World) (h:In g w m full) (hg:Stpq.Good m) (hp:Pt g) :
  Calls prog 193 #[.pointer (some ⟨g.K,0,none⟩)] w fun e w'=>e=.returned (.tuple #[])/\In g w' (⟨{ m with ra:=(aS g.y m.ra g.imm m.rf).1,rf:=(aS g.y m.ra g.imm m.rf).2 },full⟩ : S).m (⟨{ m with ra:=(aS g.y m.ra g.imm m.rf).1,rf:=(aS g.y m.ra g.imm m.rf).2 },full⟩ : S).full:=by
 have c2:Hid (∀ W,In g W m full->Calls prog 192 #[.pointer (some ⟨g.K,0,none⟩),.int .i64 g.imm] W fun e w'=>e=.returned (.tuple #[])/\In g w' (⟨{ m with ra:=(aS g.y m.ra g.imm m.rf).1,rf:=(aS g.y m.ra g.imm m.rf).2 },full⟩ : S).m (⟨{ m with ra:=(aS g.y m.ra g.imm m.rf).1,rf:=(aS g.y m.ra g.imm m.rf).2 },full⟩ : S).full):=fun W hi=>reckon g m full _ i0 i1 W hi hg hp
 generalize (⟨{ m with ra:=(aS g.y m.ra g.imm m.rf).1,rf:=(aS g.y m.ra g.imm m.rf).2 },full⟩ : S)=t at *
 have q_i:=h.k_imm;have HI:Hid (In g w m full):=h;clear h hg hp i0 i1
 go_enter func193,ntmps193
 go_wp2_with fail
 refine Calls.mono (c2.out _ HI.out) ?_;rintro e w2 ⟨rfl,hi1⟩;have H3:Hid (In g w2 t.m t.full):=hi1;clear hi1 HI c2;go_wp2
 go_end0
 exact ⟨rfl,H3.out⟩
theorem yI (g:G) (m:M) (full:Bool) (down:Bool) (w:World) (h:In g w m full) (hg:Stpq.Good m) (hp:Pt g) :
  Calls prog 195 #[.pointer (some ⟨g.K,0,none⟩),.bool down] w fun e w'=>e=.returned (.tuple #[])/\In g w' (F (put ⟨m,full⟩ g.y (cP (Stpp.get m g.y) m.rf down).1) (cP (Stpp.get m g.y) m.rf down).2).m (F (put ⟨m,full⟩ g.y (cP (Stpp.get m g.y) m.rf down).1) (cP (Stpp.get m g.y) m.rf down).2).full:=by
 have c1:Rg 171 #[.pointer (some ⟨g.K,0,none⟩),.int .i64 g.y] w (.int .i64 (Stpp.get m g.y)):=rg fun W hb=>jT g m full g.y W (h.below hb) hg hp.y.1 hp.y.2
 have c2:Rg 246 #[.int .i64 (Stpp.get m g.y),.int .i64 m.rf,.bool down] w (.tuple #[.int .i64 (cP (Stpp.get m g.y) m.rf down).1,.int .i64 (cP (Stpp.get m g.y) m.rf down).2]):=rg fun W hb=>(oD (Stpp.get m g.y) m.rf down W).mono fun e w' h=>⟨by rw [<- vK (dN hg g.y) hg.f];exact h.1,by rw [h.2];exact zRf⟩
 have bd:=qZ (v:=Stpp.get m g.y) (f:=m.rf) down;generalize (cP (Stpp.get m g.y) m.rf down).1=v at *
 generalize (cP (Stpp.get m g.y) m.rf down).2=f at *
 generalize Stpp.get m g.y=x at *
 have c3:Hid (∀ W,In g W m full->Calls prog 170 #[.pointer (some ⟨g.K,0,none⟩),.int .i64 g.y,.int .i64 v] W fun e w'=>e=.returned (.tuple #[])/\In g w' (put ⟨m,full⟩ g.y v).m (put ⟨m,full⟩ g.y v).full):=fun W hi=>lM g m full _ _ W hi hg hp.y.1 hp.y.2 bd.1 bd.2.1
 generalize put ⟨m,full⟩ g.y v=t at *
 have r0:=x7 (h.k_cpu);have r1:=x7 (h.k_y);have r2:=x7 (h.c_rf);have HI:Hid (In g w m full):=h;clear h hg hp bd
 go_enter func195,ntmps195
 go_wp2_with fail
 refine wp_region_quiet_below (by kernel_rfl) (by kernel_rfl) ?_
 repeat (go_big_quiet_step (first|with_reducible exact c1 _ _|with_reducible exact c2 _ _))
 refine wpQuiet_nil ?_;intro _ hw';obtain ⟨⟨dq,osq⟩,hw''⟩:=hw';subst hw'';have H2:=zHd (HI.out.below (x8 w dq osq));generalize Go.Sort.grow (redrawn w dq) osq=W2 at *
 clear HI r0 r1 r2 c1 c2;have q_y:=H2.out.k_y
 go_wp2_with fail
 refine Calls.mono (c3.out _ H2.out) ?_;rintro e w1 ⟨rfl,hi1⟩;have H3':Hid (In g w1 t.m t.full):=hi1;clear hi1 H2 c3;have q_k_cpu:=H3'.out.k_cpu;have q_c_rf:=H3'.out.c_rf;have f_rf:=H3'.out.fro 1;have H3:=H3'.out.s_rf f;have HF:Hid (In g (w1.setCell ⟨g.B,1,none⟩ (.int .i64 f)) { t.m with rf:=f } t.full):=H3;clear H3 H3';go_wp2
 go_end0
 exact ⟨rfl,HF.out⟩
theorem rk3 (g:G) (m:M) (full:Bool)  (w:World) (h:In g w m full) (hg:Stpq.Good m) (hp:Pt g) :
  Calls prog 194 #[.pointer (some ⟨g.K,0,none⟩)] w fun e w'=>e=.returned (.tuple #[])/\In g w' (F (put ⟨m,full⟩ g.y (cP (Stpp.get m g.y) m.rf false).1) (cP (Stpp.get m g.y) m.rf false).2).m (F (put ⟨m,full⟩ g.y (cP (Stpp.get m g.y) m.rf false).1) (cP (Stpp.get m g.y) m.rf false).2).full:=by
 have c2:Hid (∀ W,In g W m full->Calls prog 195 #[.pointer (some ⟨g.K,0,none⟩),.bool false] W fun e w'=>e=.returned (.tuple #[])/\In g w' (F (put ⟨m,full⟩ g.y (cP (Stpp.get m g.y) m.rf false).1) (cP (Stpp.get m g.y) m.rf false).2).m (F (put ⟨m,full⟩ g.y (cP (Stpp.get m g.y) m.rf false).1) (cP (Stpp.get m g.y) m.rf false).2).full):=fun W hi=>yI g m full false W hi hg hp
 generalize F (put ⟨m,full⟩ g.y (cP (Stpp.get m g.y) m.rf false).1) (cP (Stpp.get m g.y) m.rf false).2=t at *
 have HI:Hid (In g w m full):=h;clear h hg hp
 go_enter func194,ntmps194
 go_wp2_with fail
 refine Calls.mono (c2.out _ HI.out) ?_;rintro e w2 ⟨rfl,hi1⟩;have H3:Hid (In g w2 t.m t.full):=hi1;clear hi1 HI c2;go_wp2
 go_end0
 exact ⟨rfl,H3.out⟩
theorem rk4 (g:G) (m:M) (full:Bool)  (w:World) (h:In g w m full) (hg:Stpq.Good m) (hp:Pt g) :
  Calls prog 196 #[.pointer (some ⟨g.K,0,none⟩)] w fun e w'=>e=.returned (.tuple #[])/\In g w' (F (put ⟨m,full⟩ g.y (cP (Stpp.get m g.y) m.rf true).1) (cP (Stpp.get m g.y) m.rf true).2).m (F (put ⟨m,full⟩ g.y (cP (Stpp.get m g.y) m.rf true).1) (cP (Stpp.get m g.y) m.rf true).2).full:=by
 have c2:Hid (∀ W,In g W m full->Calls prog 195 #[.pointer (some ⟨g.K,0,none⟩),.bool true] W fun e w'=>e=.returned (.tuple #[])/\In g w' (F (put ⟨m,full⟩ g.y (cP (Stpp.get m g.y) m.rf true).1) (cP (Stpp.get m g.y) m.rf true).2).m (F (put ⟨m,full⟩ g.y (cP (Stpp.get m g.y) m.rf true).1) (cP (Stpp.get m g.y) m.rf true).2).full):=fun W hi=>yI g m full true W hi hg hp
 generalize F (put ⟨m,full⟩ g.y (cP (Stpp.get m g.y) m.rf true).1) (cP (Stpp.get m g.y) m.rf true).2=t at *
 have HI:Hid (In g w m full):=h;clear h hg hp
 go_enter func196,ntmps196
 go_wp2_with fail
 refine Calls.mono (c2.out _ HI.out) ?_;rintro e w2 ⟨rfl,hi1⟩;have H3:Hid (In g w2 t.m t.full):=hi1;clear hi1 HI c2;go_wp2
 go_end0
 exact ⟨rfl,H3.out⟩
end Stpv
end Go.Proofs.YteglcgnhhoenbaaGreatDoor
