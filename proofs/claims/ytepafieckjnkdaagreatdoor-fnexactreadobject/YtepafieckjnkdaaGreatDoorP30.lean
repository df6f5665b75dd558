import Derived.Test.YtepafieckjnkdaaGreatDoorP29
set_option linter.all false
set_option maxRecDepth 20000
set_option maxHeartbeats 8000000
open Go.ChangeShapes Go.WideShapes Go.ChangeAt Go.RowKit
open Go.Proofs.Tryz
namespace Go.Proofs.YtepafieckjnkdaaGreatDoor
namespace Rmkg
open Go.Deep
open Rown Rowo Rmkb Rmkc Rmke Rmkf
def es (ss:List Sd):List Value:=ss.flatMap (fun s=>s.ps.map (·.e))
theorem mkSs_es:∀ (ss:List Sd) (k:Int),es (mkSs k ss)=es ss
 | [],_=>rfl
 | s :: r,k=>by
  show (mkPs (k+5) s.ps).map (·.e) ++ es (mkSs (nS k s) r)=s.ps.map (·.e) ++ es r
  rw [mkPs_e,mkSs_es r]
def Bs (sv:Value) (ss:List Sd) (b:Nat):Prop:=sv.ownBlock=some b \/ ∃ s ∈ ss,Of s b
def Ba (aa:List Ad) (b:Nat):Prop:=∃ x ∈ aa,x.e.ownBlock=some b
def All (sv:Value) (ss:List Sd) (yv:Value) (aa:List Ad) (b:Nat):Prop:=Bs sv ss b \/ yv.ownBlock=some b \/ Ba aa b
theorem of_es {s:Sd} {ss:List Sd} (hs:s ∈ ss) {p:Pd} (hp:p ∈ s.ps):p.e ∈ es ss:=List.mem_flatMap.2 ⟨s,hs,List.mem_map_of_mem hp⟩
theorem sx_other {w:World} {base base':Nat} {sv:Value} {ss:List Sd} {e:TypeId} {size n:Nat} {v:Value} {xs:List Value} (h:Sx w base sv ss) (hx:w.ownsRow base' e size v n xs) (h1:e ≠ 35) (h2:e ≠ 72) (h3:e ≠ 111):∀ b,v.ownBlock=some b->¬ Bs sv ss b:=fun b hb hp=>by
 rcases hp with hp|⟨s,hs,hp|⟨p,hp,he⟩⟩
 ·exact apart_ne (own_ne hx h.row h1) hb hp
 ·exact apart_ne (own_ne hx (h.pt s hs).row h2) hb hp
 ·exact apart_ne (own_ne hx ((h.pt s hs).ex p hp).1 h3) hb he
theorem sx_ex {w:World} {base:Nat} {sv:Value} {ss:List Sd} {v:Value} {L:List Stepx.Node} (h:Sx w base sv ss) (hx:ExOwn w base v L) (hc:∀ u ∈ es ss,Apart u v):∀ b,v.ownBlock=some b->¬ Bs sv ss b:=fun b hb hp=>by
 rcases hp with hp|⟨s,hs,hp|⟨p,hp,he⟩⟩
 ·exact apart_ne (own_ne hx.1 h.row (by decide)) hb hp
 ·exact apart_ne (own_ne hx.1 (h.pt s hs).row (by decide)) hb hp
 ·exact apart_ne (hc _ (of_es hs hp)) he hb
theorem sx_ge {w:World} {base:Nat} {sv:Value} {ss:List Sd} (h:Sx w base sv ss):∀ b,Bs sv ss b->base<=b:=fun b hp=>by
 rcases hp with hp|⟨s,hs,hp|⟨p,hp,he⟩⟩
 ·exact (h.row.lt b hp).1
 ·exact ((h.pt s hs).row.lt b hp).1
 ·exact (((h.pt s hs).ex p hp).1.lt b he).1
theorem aw_ge {w:World} {base:Nat} {av:Value} {aa:List Ad} (h:Aw w base av aa):∀ b,Ba aa b->base<=b:=fun b ⟨x,hx,he⟩=>((h.ex x hx).1.lt b he).1
theorem sx_fr {P:Nat->Prop} {w w':World} {base:Nat} {sv:Value} {ss:List Sd} (h:Sx w base sv ss) (hf:Fr P w w') (hn:∀ b,Bs sv ss b->¬ P b):Sx w' base sv ss :=
 ⟨own_fr h.row hf (fun b hb=>hn b (.inl hb)),fun s hs=>ptFr (h.pt s hs) hf (fun b hb=>hn b (.inr ⟨s,hs,.inl hb⟩)) (fun p hp b hb=>hn b (.inr ⟨s,hs,.inr ⟨p,hp,hb⟩⟩)),h.pvs,h.evs⟩
theorem aw_fr {P:Nat->Prop} {w w':World} {base:Nat} {av:Value} {aa:List Ad} (h:Aw w base av aa) (hf:Fr P w w') (hn:∀ b,av.ownBlock=some b->¬ P b) (h2:∀ a ∈ aa,∀ b,a.e.ownBlock=some b->¬ P b):Aw w' base av aa :=
 ⟨own_fr h.row hf hn,fun a ha=>⟨own_fr (h.ex a ha).1 hf (h2 a ha),(h.ex a ha).2⟩,h.ap⟩
theorem sx_of {w:World} {base:Nat} {sv yv av:Value} {ss:List Sd} {ys:List Osyr.X} {aa:List Ad} (h:Ob w base sv ss yv ys av aa):Sx w base sv ss:=by
 have he:=h.rw.evs
 rw [List.pairwise_append] at he
 refine ⟨h.sec,fun s hs=>⟨h.rw.pat s hs,h.rw.pex s hs,?_⟩,h.rw.pvs,he.1⟩
 have h1:=he.1
 clear he
 have hpw:∀ (l:List Sd),(es l).Pairwise Apart->∀ s ∈ l,(s.ps.map (·.e)).Pairwise Apart:=fun l=>by
  induction l with
  | nil=>intro _ s hs;cases hs
  | cons x r ih =>
   intro hl s hs
   have hl:(x.ps.map (·.e) ++ es r).Pairwise Apart:=hl
   rw [List.pairwise_append] at hl
   rcases List.mem_cons.1 hs with rfl|hs
   ·exact hl.1
   ·exact ih hl.2.1 s hs
 exact hpw ss h1 s hs
theorem aw_of {w:World} {base:Nat} {sv yv av:Value} {ss:List Sd} {ys:List Osyr.X} {aa:List Ad} (h:Ob w base sv ss yv ys av aa):Aw w base av aa:=by
 have he:=h.rw.evs
 rw [List.pairwise_append] at he
 exact ⟨h.rw.ass,h.rw.aex,he.2.1⟩
theorem cross {w:World} {base:Nat} {sv yv av:Value} {ss:List Sd} {ys:List Osyr.X} {aa:List Ad} (h:Ob w base sv ss yv ys av aa):∀ u ∈ es ss,∀ a ∈ aa,Apart u a.e:=by
 have he:=h.rw.evs
 rw [List.pairwise_append] at he
 exact fun u hu a ha=>he.2.2 u hu a.e (List.mem_map_of_mem ha)
structure Lob (ss:List Sd) (ys:List Osyr.X) (aa:List Ad):Prop where
 s:ss.length<=1000
 sl:∀ s ∈ ss,Lim s
 y:ys.length<=10000
 a:aa.length<=256
 al:∀ a ∈ aa,a.l.length<=30
def q2 (k:Int) (ss:List Sd) (ys:List Osyr.X):Int:=nSs k ss+4*(ys.length:Int)
def q3 (k:Int) (ss:List Sd) (ys:List Osyr.X) (aa:List Ad):Int:=nAs (q2 k ss ys) aa
theorem q_le {ss:List Sd} {ys:List Osyr.X} {aa:List Ad} {k:Int} (hl:Lob ss ys aa) (h0:0<k) (h1:k<=1000000):0<nSs k ss/\nSs k ss<=30000000/\0<q2 k ss ys/\q2 k ss ys<=40000000/\0<q3 k ss ys aa/\q3 k ss ys aa<=50000000:=by
 have a1:=nSs_le ss k hl.sl
 have a2:=nAs_le aa (q2 k ss ys) hl.al
 have:=hl.s
 have:=hl.y
 have:=hl.a
 have e2:q2 k ss ys=nSs k ss+4*(ys.length:Int):=rfl
 have e3:q3 k ss ys aa=nAs (q2 k ss ys) aa:=rfl
 rw [e3]
 omega
structure Mo (w:World) (base:Nat) (k:Int) (sv:Value) (ss:List Sd) (yv:Value) (ys:List Osyr.X) (av:Value) (aa:List Ad):Prop where
 s:Sx w base sv (mkSs k ss)
 y:w.ownsRow base 49 4 yv ys.length (Rmkd.cellsOf (Rmkd.marks (nSs k ss) ys.length))
 a:Aw w base av (mkAs (q2 k ss ys) aa)
theorem Mo.below {w w':World} {base:Nat} {k:Int} {sv yv av:Value} {ss:List Sd} {ys:List Osyr.X} {aa:List Ad} (h:Mo w base k sv ss yv ys av aa) (hb:Below w.heap.size w w'):Mo w' base k sv ss yv ys av aa:=⟨h.s.below hb,own_below h.y hb,h.a.below hb⟩
theorem bs_mk {sv:Value} {ss:List Sd} {k:Int} {w:World} {base:Nat} (h:Sx w base sv (mkSs k ss)) {aa:List Ad} (hc:∀ u ∈ es ss,∀ a ∈ aa,Apart u a.e) (hx:∀ a ∈ aa,∃ L,ExOwn w base a.e L):∀ b,Bs sv (mkSs k ss) b->¬ Ba aa b:=fun b hb ⟨a,ha,he⟩=>by
 obtain ⟨L,hL⟩:=hx a ha
 exact sx_ex h hL (fun u hu=>hc u (by rw [mkSs_es] at hu;exact hu) a ha) b he hb
theorem sx_lt {w:World} {base:Nat} {sv:Value} {ss:List Sd} (h:Sx w base sv ss):∀ b,Bs sv ss b->b<w.heap.size:=fun b hp=>by
 rcases hp with hp|⟨s,hs,hp|⟨p,hp,he⟩⟩
 ·exact (h.row.lt b hp).2
 ·exact ((h.pt s hs).row.lt b hp).2
 ·exact (((h.pt s hs).ex p hp).1.lt b he).2
theorem alloc_top {w:World} {o:Obj}:Below w.heap.size w (w.alloc o)/\(w.alloc o).heap[w.heap.size]? = some o:=⟨zAl _ _,heap_alloc_last w o⟩
theorem size_of_at {w:World} {b:Nat} {o:Obj} (h:w.heap[b]? = some o):b<w.heap.size:=(zLo h)
theorem markO_any (base:Nat) (sv yv av:Value) (ss:List Sd) (ys:List Osyr.X) (aa:List Ad) (k:Int) (w:World) (h:Ob w base sv ss yv ys av aa) (hbs:base<=w.heap.size) (hl:Lob ss ys aa) (h0:0<k) (h1:k<=1000000) :
  Calls prog 19 #[.agg #[sv,yv,av],.int .i64 k] w fun e w'=>e=.returned (.int .i64 (q3 k ss ys aa))/\Mo w' base k sv ss yv ys av aa/\Below base w w'/\Fr (All sv ss yv aa) w w':=by
 have HL:=(show Hid _ from hl)
 have HQ:=(show Hid _ from q_le hl h0 h1)
 have LB:Hid ((∀ b,Bs sv ss b->b<w.heap.size)/\(∀ b,yv.ownBlock=some b->b<w.heap.size)/\∀ b,Ba aa b->b<w.heap.size):=⟨sx_lt (sx_of h),fun b hb=>(h.rw.sym.lt b hb).2,fun b ⟨x,hx,he⟩=>((h.rw.aex x hx).1.lt b he).2⟩
 have HW:Hid (∀ u,u=w.alloc (.cells #[sv,yv,av] 28)->Ob u base sv ss yv ys av aa/\Below w.heap.size w u/\u.heap[w.heap.size]? = some (.cells #[sv,yv,av] 28 (0,0))):=fun u hu=>by
  subst hu
  exact ⟨h.below alloc_top.1,alloc_top.1,alloc_top.2⟩
 obtain ⟨k1,hk1⟩ : ∃ x,x=nSs k ss:=⟨_,rfl⟩
 obtain ⟨k2,hk2⟩ : ∃ x,x=q2 k ss ys:=⟨_,rfl⟩
 obtain ⟨k3,hk3⟩ : ∃ x,x=q3 k ss ys aa:=⟨_,rfl⟩
 have K1:Hid (k1=nSs k ss):=hk1
 have K2:Hid (k2=q2 k ss ys):=hk2
 have K3:Hid (k3=q3 k ss ys aa):=hk3
 rw [<- hk1,<- hk2,<- hk3] at HQ
 rw [<- hk3]
 clear hk1 hk2 hk3 h
 go_enter func19,ntmps19
 go_wp2_with fail
 obtain ⟨w0,hw0⟩ : ∃ u,u=w.alloc (.cells #[sv,yv,av] 28):=⟨_,rfl⟩
 rw [<- hw0]
 obtain ⟨h,b0,c0⟩:=HW.out w0 hw0
 have B0:Hid (Below w.heap.size w w0):=b0
 have C0:Hid (w0.heap[w.heap.size]? = _):=c0
 have SX:=(show Hid _ from sx_of h)
 have AW:=(show Hid _ from aw_of h)
 have HC:=(show Hid _ from cross h)
 have HY:=(show Hid (w0.ownsRow base 49 4 yv ys.length (Rmkd.cellsOf ys)) from h.rw.sym)
 have cm1:=markSs_any base sv ss k w0 SX.out h0 h1 hl.s hl.sl
 rw [<- K1.out] at cm1
 clear hw0 h b0 c0 HW
 refine cm1.mono ?_
 rintro e w1 ⟨rfl,s1,f1⟩
 have S1:=(show Hid _ from s1)
 have Y1:Hid (w1.ownsRow base 49 4 yv ys.length (Rmkd.cellsOf ys)):=own_fr HY.out f1 (sx_other SX.out HY.out (by decide) (by decide) (by decide))
 have A1:Hid (Aw w1 base av aa):=aw_fr AW.out f1 (sx_other SX.out AW.out.row (by decide) (by decide) (by decide)) (fun a ha=>sx_ex SX.out (AW.out.ex a ha) (fun u hu=>HC.out u hu a ha))
 have B1:Hid (Below base w w1):=(B0.out.mono hbs).trans (f1.bel (by have:=B0.out.size;omega) (sx_ge SX.out))
 have C1:Hid (w1.heap[w.heap.size]? = _):=(f1.block _ (size_of_at C0.out) (fun hp=>Nat.lt_irrefl _ (LB.out.1 _ hp))).trans C0.out
 have G1:Hid (Fr (All sv ss yv aa) w w1):=(Fr.below B0.out).trans (f1.imp (fun b hb=>.inl hb))
 have c1:w1.cell? ⟨w.heap.size,1,none⟩=some yv:=by rw [cell_of_row _ _ _ _ _ _ C1.out];rfl
 have cm2:=Rmkd.markY_any k1 HQ.out.1 (by have:=HQ.out.2.1;omega) yv ys.length ys base w1 Y1.out rfl HL.out.y
 have e2:k1+4*(ys.length:Int)=k2:=by rw [K2.out,K1.out];rfl
 rw [e2] at cm2
 clear s1 f1 SX AW HY cm1 e2 B0 C0
 go_wp2_with fail
 refine cm2.mono ?_
 rintro e w2 ⟨rfl,y2,g2⟩
 have F2:Fr (fun b=>yv.ownBlock=some b) w1 w2:=Fr.grown g2 (fun r hr=>hr)
 have Y2:=(show Hid _ from y2)
 have S2:Hid (Sx w2 base sv (mkSs k ss)):=sx_fr S1.out F2 (fun b hb hp=>sx_other S1.out Y1.out (by decide) (by decide) (by decide) b hp hb)
 have A2:Hid (Aw w2 base av aa):=aw_fr A1.out F2 (fun b hb hp=>apart_ne (own_ne A1.out.row Y1.out (by decide)) hb hp) (fun a ha b hb hp=>apart_ne (own_ne (A1.out.ex a ha).1 Y1.out (by decide)) hb hp)
 have B2:Hid (Below base w w2):=B1.out.trans (F2.bel (by have:=B1.out.size;omega) (fun b hb=>(Y1.out.lt b hb).1))
 have G2:Hid (Fr (All sv ss yv aa) w w2):=G1.out.trans (F2.imp (fun b hb=>.inr (.inl hb)))
 have C2:Hid (w2.heap[w.heap.size]? = _):=(F2.block _ (size_of_at C1.out) (fun hp=>Nat.lt_irrefl _ (LB.out.2.1 _ hp))).trans C1.out
 have c2:w2.cell? ⟨w.heap.size,2,none⟩=some av:=by rw [cell_of_row _ _ _ _ _ _ C2.out];rfl
 have cm3:=markAs_any base av aa k2 w2 A2.out HQ.out.2.2.1 (by have:=HQ.out.2.2.2.1;omega) HL.out.a HL.out.al
 have e3:nAs k2 aa=k3:=by rw [K3.out,K2.out];rfl
 rw [e3] at cm3
 clear y2 g2 F2 S1 Y1 A1 B1 cm2 e3 C1 c1 C2
 go_wp2_with fail
 refine cm3.mono ?_
 rintro e w3 ⟨rfl,a3,f3⟩
 have f3:Fr (Ba aa) w2 w3:=f3
 have PO:Hid (Mo w3 base k sv ss yv ys av aa/\Below base w w3/\Fr (All sv ss yv aa) w w3):=by
  refine ⟨⟨sx_fr S2.out f3 (bs_mk S2.out HC.out (fun a ha=>⟨_,A2.out.ex a ha⟩)),?_,?_⟩,B2.out.trans (f3.bel (by have:=B2.out.size;omega) (aw_ge A2.out)),G2.out.trans (f3.imp (fun b hb=>.inr (.inr hb)))⟩
  ·rw [<- K1.out]
   exact own_fr Y2.out f3 (fun b hb ⟨a,ha,he⟩=>apart_ne (own_ne Y2.out (A2.out.ex a ha).1 (by decide)) hb he)
  ·rw [<- K2.out];exact a3
 clear a3 f3 S2 Y2 A2 B2 cm3
 go_wp2
 go_ret
 exact ⟨rfl,PO.out⟩
theorem heldO_any (base:Nat) (sv yv av:Value) (ss:List Sd) (ys:List Osyr.X) (aa:List Ad) (k:Int) (w:World) (h:Mo w base k sv ss yv ys av aa) (hl:Lob ss ys aa) (h0:0<k) (h1:k<=1000000) :
  Calls prog 20 #[.agg #[sv,yv,av],.int .i64 k] w fun e w'=>e=.returned (.int .i64 (q3 k ss ys aa))/\Below w.heap.size w w':=by
 have HL:=(show Hid _ from hl)
 have HQ:=(show Hid _ from q_le hl h0 h1)
 have H:=(show Hid _ from h)
 have HW:Hid (∀ u,u=w.alloc (.cells #[sv,yv,av] 28)->Mo u base k sv ss yv ys av aa/\Below w.heap.size w u/\u.heap[w.heap.size]? = some (.cells #[sv,yv,av] 28 (0,0))):=fun u hu=>by
  subst hu
  exact ⟨h.below alloc_top.1,alloc_top.1,alloc_top.2⟩
 obtain ⟨k1,hk1⟩ : ∃ x,x=nSs k ss:=⟨_,rfl⟩
 obtain ⟨k2,hk2⟩ : ∃ x,x=q2 k ss ys:=⟨_,rfl⟩
 obtain ⟨k3,hk3⟩ : ∃ x,x=q3 k ss ys aa:=⟨_,rfl⟩
 have K1:Hid (k1=nSs k ss):=hk1
 have K2:Hid (k2=q2 k ss ys):=hk2
 have K3:Hid (k3=q3 k ss ys aa):=hk3
 rw [<- hk1,<- hk2,<- hk3] at HQ
 rw [<- hk3]
 have d1:decide (k1<0)=false:=decide_eq_false (by have:=HQ.out.1;omega)
 have d2:decide (k2<0)=false:=decide_eq_false (by have:=HQ.out.2.2.1;omega)
 have d3:decide (k3<0)=false:=decide_eq_false (by have:=HQ.out.2.2.2.2.1;omega)
 clear hk1 hk2 hk3 h
 go_enter func20,ntmps20
 go_wp2_with fail
 obtain ⟨w0,hw0⟩ : ∃ u,u=w.alloc (.cells #[sv,yv,av] 28):=⟨_,rfl⟩
 rw [<- hw0]
 obtain ⟨m0,b0,c0⟩:=HW.out w0 hw0
 have B0:Hid (Below w.heap.size w w0):=b0
 have C0:Hid (w0.heap[w.heap.size]? = _):=c0
 have cm1:=heldSs_any base sv ss k w0 m0.s h0 h1 HL.out.s HL.out.sl
 rw [<- K1.out] at cm1
 clear hw0 m0 b0 c0 HW
 refine cm1.mono ?_
 rintro e w1 ⟨rfl,b1⟩
 have B1:Hid (Below w.heap.size w w1):=B0.out.trans (b1.mono B0.out.size)
 have C1:Hid (w1.heap[w.heap.size]? = _):=(b1.block _ (size_of_at C0.out)).trans C0.out
 have c1:w1.cell? ⟨w.heap.size,1,none⟩=some yv:=by rw [cell_of_row _ _ _ _ _ _ C1.out];rfl
 have m1:=H.out.below B1.out
 have cm2:=Rmkd.heldY_any k1 HQ.out.1 (by have:=HQ.out.2.1;omega) yv ys.length base w1 (by rw [K1.out];exact m1.y) HL.out.y
 have e2:k1+4*(ys.length:Int)=k2:=by rw [K2.out,K1.out];rfl
 rw [e2] at cm2
 clear b1 m1 cm1 e2 B0 C0
 go_wp2_with fail
 refine cm2.mono ?_
 rintro e w2 ⟨rfl,b2⟩
 have B2:Hid (Below w.heap.size w w2):=B1.out.trans (b2.mono B1.out.size)
 have C2:Hid (w2.heap[w.heap.size]? = _):=(b2.block _ (size_of_at C1.out)).trans C1.out
 have c2:w2.cell? ⟨w.heap.size,2,none⟩=some av:=by rw [cell_of_row _ _ _ _ _ _ C2.out];rfl
 have m2:=H.out.below B2.out
 have cm3:=heldAs_any base av aa k2 w2 (by rw [K2.out];exact m2.a) HQ.out.2.2.1 (by have:=HQ.out.2.2.2.1;omega) HL.out.a HL.out.al
 have e3:nAs k2 aa=k3:=by rw [K3.out,K2.out];rfl
 rw [e3] at cm3
 clear b2 m2 cm2 e3 B1 C1 c1 C2
 go_wp2_with fail
 refine cm3.mono ?_
 rintro e w3 ⟨rfl,b3⟩
 have B3:Hid (Below w.heap.size w w3):=B2.out.trans (b3.mono B2.out.size)
 clear b3 cm3 B2
 go_wp2
 go_ret
 exact ⟨rfl,B3.out⟩
theorem not_all {w:World} {base:Nat} {sv yv av:Value} {ss:List Sd} {ys:List Osyr.X} {aa:List Ad} (h:Ob w base sv ss yv ys av aa) {B:Nat} {cs:Array Value} (hB:w.heap[B]? = some (.cells cs 28 (0,0))):¬ All sv ss yv aa B:=fun hp=>by
 have hs:=sx_of h
 rcases hp with (hp|⟨s,hs',hp|⟨p,hp,he⟩⟩)|hp|⟨a,ha,he⟩
 ·exact own_ne_block hs.row hB (by decide) hp
 ·exact own_ne_block (hs.pt s hs').row hB (by decide) hp
 ·exact own_ne_block ((hs.pt s hs').ex p hp).1 hB (by decide) he
 ·exact own_ne_block h.rw.sym hB (by decide) hp
 ·exact own_ne_block (h.rw.aex a ha).1 hB (by decide) he
end Rmkg
namespace Rime
open Go.Deep
open Rown Rowo Rliq Rlip Rlsa Rima Rimb Rimc
open Wors (outI)
open Worr (W)
open Otxa (after)
theorem SN_len (s:ByteArray):(SN s).length<=3:=by
 have:=Lib.splitB_length_le Worr.sp 0 (min 3 (s.size+1)-1) s
 unfold SN;omega
theorem SN_sz (s:ByteArray) (i:Nat):(gt (SN s) i).size<=s.size:=by
 unfold gt
 rw [List.getD_eq_getElem?_getD]
 cases hk:(SN s)[i]? with
 | none=>exact Nat.zero_le _
 | some y=>exact SN_le _ s y (List.mem_of_getElem? hk)
theorem splitN_any (s:ByteArray) (w:World) (hs:s.size<=1048576) (hm:Wort.MaxL w) :
  Calls prog 106 #[.string s,.string ⟨#[32]⟩,.int .i64 3] w fun e w'=>(∃ c,(SN s).length<=c/\e=.returned (.slice (some ⟨w.heap.size,0,none⟩) (SN s).length c))/\Below w.heap.size w w'/\w'.heap.size=w.heap.size+1/\∀ i,i<(SN s).length->w'.cell? ⟨w.heap.size,i,none⟩=some (.string (gt (SN s) i)):=by
 obtain ⟨m,hm⟩:=hm
 refine (Tryz.strings_SplitN s ⟨#[32]⟩ 3 m w (by omega) hm (by decide) (by decide) (by decide)).mono ?_
 rintro e w' ⟨rfl,rfl⟩
 refine ⟨⟨_,?_,rfl⟩,zAl _ _,by simp,fun i hi=>?_⟩
 ·have:=Lib.splitB_length_le Worr.sp 0 (min 3 (s.size+1)-1) s
  unfold SN;omega
 rw [World.cell?_alloc_new]
 unfold Lib.cellsOf
 have hi':i<((SN s).map Value.string).length:=by rw [List.length_map];exact hi
 have e:(Lib.splitB ⟨#[32]⟩ 0 (min 3 (s.size+1)-1) s)=SN s:=rfl
 rw [e,List.getElem?_toArray,List.getElem?_append_left hi',List.getElem?_eq_getElem hi',List.getElem_map,gt_at hi]
theorem readPatch_any (bs db:Nat) (bx:List Nat) (sv:Value) (ss:List Sd) (yv:Value) (ys:List Osyr.X) (av:Value) (aa:List Ad) (s:ByteArray) (w:World) (h:Dr bs db bx sv ss yv ys av aa w) (hbs:bs<=w.heap.size) (hC:Cx w) (hs:s.size<=1048576) (hla:ss.length<=100000) (hlp:∀ x ∈ ss,x.ps.length<=100000) :
  Calls prog 67 #[.pointer (some ⟨db,0,none⟩),.string s] w (PostI bs db w (patI (objX ss ys aa) s)):=by
 obtain ⟨R,hR⟩ : ∃ R,R=patI (objX ss ys aa) s:=⟨_,rfl⟩
 rw [<- hR]
 have HR:Hid (R=patI (objX ss ys aa) s):=hR
 have HD:=(show Hid _ from h)
 have HB:Hid (bs<=w.heap.size):=hbs
 have HC:=(show Hid _ from hC)
 have cs:=splitN_any s w hs hC.ml
 obtain ⟨n,hn⟩ : ∃ n,(SN s).length=n:=⟨_,rfl⟩
 have HN:Hid ((SN s).length=n):=hn
 rw [hn] at cs
 have hn3:n<=3:=by rw [<- hn];exact SN_len s
 have HZ:Hid (∀ i,(gt (SN s) i).size<=1048576):=fun i=>by have:=SN_sz s i;omega
 clear hn hR
 by_cases hk:ss.length=0
 ·have hss:ss=[]:=List.eq_nil_of_length_eq_zero hk
  obtain ⟨a0,c0,hav⟩:=own_slice h.sec
  rw [hk] at hav
  subst hav
  have k0:∀ u,Below w.heap.size w u->u.cell? ⟨db,0,none⟩=some (.slice a0 0 c0):=fun u hu=>by rw [cell_of_row _ _ _ _ _ _ (HD.out.below hu).cd];rfl
  have HK:=(show Hid _ from k0)
  have HN0:Hid (R=none):=(show R=none from by rw [HR.out];unfold patI;rw [if_pos (.inl (by show (ss.map Sd.x).length=0;rw [List.length_map];exact hk))])
  clear h hbs hC k0 hk hss HR hla hlp
  go_enter func67,ntmps67
  go_wp2_with fail
  refine cs.mono ?_
  rintro e w1 ⟨⟨c,_,rfl⟩,b1,_,_⟩
  have B1:Hid (Below w.heap.size w w1):=b1
  clear b1 cs
  go_wp2_with fail
  refine (Rlas.last_none db a0 c0 w1 (HK.out w1 B1.out)).mono ?_
  rintro e w2 ⟨rfl,q,rfl⟩
  go_wp2
  go_ret
  exact ⟨KB.of HB.out (Seco.drewN_below B1.out q),by rw [HN0.out];rfl⟩
 obtain ⟨S,s0,hss⟩ : ∃ S s0,ss=S ++ [s0]:=by
  rcases List.eq_nil_or_concat ss with e|⟨S,s0,e⟩
  ·exact absurd (by rw [e];rfl) hk
  ·exact ⟨S,s0,by rw [e,List.concat_eq_append]⟩
 obtain ⟨B0,b0,hbx⟩ : ∃ B0 b0,bx=B0 ++ [b0]:=by
  rcases List.eq_nil_or_concat bx with e|⟨B0,b0,e⟩
  ·exact absurd (by rw [<- h.len,e];rfl) hk
  ·exact ⟨B0,b0,by rw [e,List.concat_eq_append]⟩
 subst hss hbx
 obtain ⟨k,hkS⟩ : ∃ k,k=S.length:=⟨_,rfl⟩
 have HKS:Hid (S.length=k):=hkS.symm
 have hBl:B0.length=S.length:=by have:=h.len;simp at this;omega
 have HBL:Hid (B0.length=S.length):=hBl
 obtain ⟨g0,c0,hv0,hb0,hg0⟩:=World.ownsRow.form h.sec (by simp)
 have hlen:(S ++ [s0]).length=k+1:=by simp [hkS]
 rw [hlen] at hv0 hla
 subst hv0
 obtain ⟨nm,sk,sb,sa,sd,pv,ps⟩:=s0
 obtain ⟨pa,pc,hpv⟩:=own_slice (h.rw.pat ⟨nm,sk,sb,sa,sd,pv,ps⟩ (by simp))
 have hpv:pv=.slice pa ps.length pc:=hpv
 subst hpv
 have lp:ps.length<=100000:=hlp ⟨nm,sk,sb,sa,sd,.slice pa ps.length pc,ps⟩ (by simp)
 have k0:∀ u,Below w.heap.size w u->u.cell? ⟨db,0,none⟩=some (.slice (some ⟨g0,0,none⟩) (k+1) c0)/\u.cell? ⟨g0,k,none⟩=some (.pointer (some ⟨b0,0,none⟩))/\u.heap[b0]? = some (.cells #[.string nm,.int .i64 sk,.int .i64 sb,.int .i64 sa,.string sd,.slice pa ps.length pc] 35 (0,0)):=fun u hu=>by
  have hd:=HD.out.below hu
  refine ⟨by rw [cell_of_row _ _ _ _ _ _ hd.cd];rfl,?_,?_⟩
  ·have hsec:=hd.sec
   rw [hlen] at hsec
   refine (row_cells hsec).2.2.2 k _ ?_
   rw [List.map_append,List.getElem?_append_right (by simp [hBl,hkS])]
   simp [hBl,hkS]
  ·have:=(hd.box S.length (by simp)).2
   rw [snocD,hBl,if_neg (Nat.lt_irrefl _),if_pos rfl,List.getElem_append_right (Nat.le_refl _)] at this
   simp only [Nat.sub_self,List.getElem_cons_zero] at this
   exact this
 have HK:=(show Hid _ from k0)
 clear h hbs hC k0 hk hkS hBl hb0 hg0 hlen hlp
 go_enter func67,ntmps67
 go_wp2_with fail
 refine cs.mono ?_
 rintro e w1 ⟨⟨c,hc,rfl⟩,b1,zz1,x1⟩
 have B1:Hid (Below w.heap.size w w1):=b1
 have Z1:Hid (w1.heap.size=w.heap.size+1):=zz1
 have X1:Hid (∀ i,i<n->w1.cell? ⟨w.heap.size,i,none⟩=some (.string (gt (SN s) i))):=x1
 clear b1 zz1 x1 cs
 go_wp2_with fail
 refine (Rlas.last_some db g0 k c0 (.pointer (some ⟨b0,0,none⟩)) w1 (by omega) (HK.out w1 B1.out).1 (HK.out w1 B1.out).2.1).mono ?_
 rintro e w2 ⟨rfl,q,hw2⟩
 have B2':Hid (Below w1.heap.size w1 w2):=(show Below _ _ _ from by rw [hw2];exact Seco.drewN_below zRf q)
 have Z2:Hid (w2.heap.size=w.heap.size+1):=(show _=_ from by rw [hw2];exact Z1.out)
 have B2:Hid (Below w.heap.size w w2):=B1.out.trans (B2'.out.mono (by have:=Z1.out;omega))
 have X2:Hid (∀ i,i<n->w2.cell? ⟨w.heap.size,i,none⟩=some (.string (gt (SN s) i))):=fun i hi=>(B2'.out.cell (p:=⟨w.heap.size,i,none⟩) (by have:=Z1.out;show w.heap.size<_;omega)).trans (X1.out i hi)
 clear hw2 B2' X1 B1 Z1
 by_cases h3:¬ n=3
 ·have d3:decide ((n:Int)=3)=false:=decide_eq_false (by omega)
  have d3':((n:Int) == 3)=false:=by simp;omega
  have HN0:Hid (R=none):=(show R=none from by rw [HR.out];unfold patI;rw [if_pos (.inr (by rw [HN.out];exact h3))])
  clear HR
  go_wp2
  go_ret
  exact ⟨KB.of HB.out B2.out,by rw [HN0.out];rfl⟩
 have h3:n=3:=Decidable.of_not_not h3
 subst h3
 have x2:=X2.out 2 (by omega)
 have z2:=HZ.out 2
 have d0:decide ((3:Int)=3)=true:=rfl
 have lw:w.heap.size<w2.heap.size:=by rw [Z2.out];omega
 have xa:∀ o,(w2.alloc o).cell? ⟨w.heap.size,2,none⟩=some (.string (gt (SN s) 2)):=fun o=>(((Below.refl w2.heap.size w2).alloc (Nat.le_refl _) o).cell (p:=⟨w.heap.size,2,none⟩) lw).trans x2
 have LW:=(show Hid _ from lw)
 obtain ⟨q5,hq5⟩ : ∃ q,(outI (gt (SN s) 2)).isSome=q:=⟨_,rfl⟩
 obtain ⟨L,hL⟩ : ∃ L,Wors.lst (outI (gt (SN s) 2))=L:=⟨_,rfl⟩
 have H5:Hid ((outI (gt (SN s) 2)).isSome=q5/\Wors.lst (outI (gt (SN s) 2))=L):=⟨hq5,hL⟩
 have ce:=fun W (hc:Cx W)=>Wort.implRead_any (gt (SN s) 2) W z2 hc.op hc.pow hc.hex hc.ml
 unfold Wors.Left at ce
 rw [hq5,hL] at ce
 clear hq5 hL z2 lw
 generalize hg2:gt (SN s) 2=X at x2 xa ce
 have HG2:Hid (gt (SN s) 2=X):=hg2
 have PB:Hid (∀ o,Below w2.heap.size w2 (w2.alloc o)):=fun o=>zAl _ _
 have HPB:Hid (∀ o,(w2.alloc o).heap[w2.heap.size]? = some o):=fun o=>heap_alloc_last w2 o
 clear hg2
 go_wp2_with fail
 refine (ce _ (HC.out.below (B2.out.trans ((PB.out _).mono B2.out.size)))).mono ?_
 rintro e w4 ⟨ae,ce',rfl,oe,ze,le,b4⟩
 have B4':Hid (Below w2.heap.size w2 w4):=(PB.out _).trans (b4.mono (PB.out _).size)
 have B4:Hid (Below w.heap.size w w4):=B2.out.trans (B4'.out.mono B2.out.size)
 have CB:Hid (w4.heap[w2.heap.size]? = some (.cells #[.int .i64 0,.int .i64 0,.slice none 0 0] 72 (0,0))):=(b4.block _ (by simp)).trans (HPB.out _)
 have Z4:Hid (w2.heap.size<w4.heap.size):=(show _<_ from by have:=b4.size;simp at this;omega)
 have HAP:=(show Hid _ from (HD.out.below (B2.out.trans ((PB.out _).mono B2.out.size))).rw.fresh oe)
 have HEX:Hid (w4.ownsRow (w2.heap.size+1) 111 3 (.slice ae L.length ce') L.length (Nodm.cellsOf L)/\∀ x ∈ L,x.2.2.size<=1048576):=⟨own_mono (by simp) oe,ze⟩
 have X4:Hid (∀ i,i<3->w4.cell? ⟨w.heap.size,i,none⟩=some (.string (gt (SN s) i))):=fun i hi=>(B4'.out.cell (p:=⟨w.heap.size,i,none⟩) LW.out).trans (X2.out i hi)
 clear oe ze le b4 ce x2 xa X2 PB HPB
 obtain ⟨nE,hnE⟩ : ∃ n,n=L.length:=⟨_,rfl⟩
 have HE1:Hid (nE=L.length):=hnE
 rw [<- hnE] at HEX HAP |-
 clear hnE
 cases q5 with
 | false =>
  have HN0:Hid (R=none):=(show R=none from by
   rw [HR.out];unfold patI;rw [if_neg (by rintro (q|q);exact absurd q (by show ¬ ((S ++ [_]).map Sd.x).length=0;simp);exact q HN.out),opt_no H5.out.1])
  clear HR
  go_wp2
  go_ret
  exact ⟨KB.of HB.out B4.out,by rw [HN0.out];rfl⟩
 | true =>
  have HL:Hid (∀ o,Below w4.heap.size w4 (w4.alloc o)):=fun o=>zAl _ _
  have cn:Calls prog 105 #[.slice (some ⟨w.heap.size,0,none⟩) 2 c,.slice (some ⟨w4.heap.size,0,none⟩) 2 2] (w4.alloc (.cells #[.pointer (some ⟨w2.heap.size,0,none⟩),.pointer (some ⟨w2.heap.size,1,none⟩)] 142)) (ToldN (w4.alloc (.cells #[.pointer (some ⟨w2.heap.size,0,none⟩),.pointer (some ⟨w2.heap.size,1,none⟩)] 142)) w2.heap.size 72 #[.int .i64 0,.int .i64 0,.slice none 0 0] [0,1] [gt (SN s) 0,gt (SN s) 1]):=by
   have z2:=Z2.out
   have z4:=Z4.out
   have hE:=(HC.out.below B4.out).er
   refine numbers_any w.heap.size 0 c w4.heap.size 2 w2.heap.size 72 #[.int .i64 0,.int .i64 0,.slice none 0 0] [0,1] [gt (SN s) 0,gt (SN s) 1] _ (hE.below (HL.out _)) (fun i hi=>?_) (fun i hi=>?_) ?_ (fun i hi=>?_) (by omega) (by omega) (by simp) (fun i hi=>?_) rfl ?_
   ·have hi:i<2:=hi
    refine ((HL.out _).cell (p:=⟨w.heap.size,0+i,none⟩) (by show w.heap.size<w4.heap.size;omega)).trans ((X4.out (0+i) (by omega)).trans ?_)
    match i,hi with
    | 0,_=>rfl
    | 1,_=>rfl
   ·have hi:i<2:=hi
    rw [World.cell?_alloc_new]
    match i,hi with
    | 0,_=>rfl
    | 1,_=>rfl
   ·exact ((HL.out _).block _ (by omega)).trans CB.out
   ·have hi:i<2:=hi
    match i,hi with
    | 0,_=>exact (by decide:0<3)
    | 1,_=>exact (by decide:1<3)
   ·have hi:i<2:=hi
    match i,hi with
    | 0,_=>exact HZ.out 0
    | 1,_=>exact HZ.out 1
   ·obtain ⟨⟨t,p,e1⟩,⟨t',p',e2⟩⟩:=HC.out.er
    have l1:=World.block_lt_of_cell? w ⟨_,0,none⟩ e1
    have l2:=World.block_lt_of_cell? w ⟨_,0,none⟩ e2
    have l1:6<w.heap.size:=l1
    have l2:7<w.heap.size:=l2
    omega
  have FN:Hid (∀ (e:Ending) (u:World),ToldN (w4.alloc (.cells #[.pointer (some ⟨w2.heap.size,0,none⟩),.pointer (some ⟨w2.heap.size,1,none⟩)] 142)) w2.heap.size 72 #[.int .i64 0,.int .i64 0,.slice none 0 0] [0,1] [gt (SN s) 0,gt (SN s) 1] e u->Below w.heap.size w u/\u.ownsRow (w2.heap.size+1) 111 3 (.slice ae nE ce') nE (Nodm.cellsOf L)/\((e=.returned (.bool false)/\R=none) \/ (e=.returned (.bool true)/\∃ m1 m2,R=some (objX (S ++ [⟨nm,sk,sb,sa,sd,.slice pa ps.length pc,ps ++ [⟨m1,m2,L,.slice ae nE ce'⟩]⟩]) ys aa)/\u.heap[w2.heap.size]? = some (.cells #[.int .i64 m1,.int .i64 m2,.slice none 0 0] 72 (0,0))))):=fun e u hN=>by
   have z2:=Z2.out
   have z4:=Z4.out
   obtain ⟨hg3,hN⟩:=hN
   have BL:Below w.heap.size w (w4.alloc (.cells #[.pointer (some ⟨w2.heap.size,0,none⟩),.pointer (some ⟨w2.heap.size,1,none⟩)] 142)):=B4.out.trans ((HL.out _).mono (by omega))
   refine ⟨BL.grown hg3 (by simp;omega) (fun r hr=>by cases hr;omega),((HEX.out.1).alloc _).kept hg3 ?_,?_⟩
   ·cases hb:(Value.slice ae nE ce').ownBlock with
    | none=>exact .inl rfl
    | some g=>exact .inr (fun q=>by have:=(HEX.out.1.lt g hb).1;have:=Option.some.inj q;omega)
   rcases hN with ⟨rfl,hq⟩|⟨rfl,i,hi,hnone⟩
   ·right
    have y1:(numP (gt (SN s) 0)).isSome=true:=hq.y 0 (by simp)
    have y2:(numP (gt (SN s) 1)).isSome=true:=hq.y 1 (by simp)
    obtain ⟨m1,hm1⟩:=Option.isSome_iff_exists.1 y1
    obtain ⟨m2,hm2⟩:=Option.isSome_iff_exists.1 y2
    obtain ⟨D,hD⟩:=Option.isSome_iff_exists.1 H5.out.1
    have hDL:D=L:=by have h:=H5.out.2;rw [hD] at h;exact h
    refine ⟨rfl,m1,m2,?_,?_⟩
    ·rw [HR.out];unfold patI;rw [if_neg (by rintro (q|q);exact absurd q (by show ¬ ((S ++ [_]).map Sd.x).length=0;simp);exact q HN.out),hD,hm1,hm2,hDL]
     unfold objX
     rw [List.map_append,List.map_append]
     show some (Objr.X.mk (addP (S.map Sd.x ++ [Sd.x ⟨nm,sk,sb,sa,sd,.slice pa ps.length pc,ps⟩]) _) _ _)=_
     rw [addP_on]
     show _=some (Objr.X.mk (S.map Sd.x ++ [Sd.x ⟨nm,sk,sb,sa,sd,.slice pa ps.length pc,ps ++ [⟨m1,m2,L,.slice ae nE ce'⟩]⟩]) _ _)
     unfold Sd.x
     simp only [List.map_append,List.map_cons,List.map_nil,Pd.x]
    ·have h:u.heap[w2.heap.size]? = some (.cells (putN #[.int .i64 0,.int .i64 0,.slice none 0 0] [0,1] [gt (SN s) 0,gt (SN s) 1] 2) 72 (0,0)):=hq.c
     have e:putN #[.int .i64 0,.int .i64 0,.slice none 0 0] [0,1] [gt (SN s) 0,gt (SN s) 1] 2=#[.int .i64 ((numP (gt (SN s) 0)).getD 0),.int .i64 ((numP (gt (SN s) 1)).getD 0),.slice none 0 0]:=rfl
     rw [e,hm1,hm2] at h
     exact h
   ·left
    refine ⟨rfl,?_⟩
    rw [HR.out];unfold patI;rw [if_neg (by rintro (q|q);exact absurd q (by show ¬ ((S ++ [_]).map Sd.x).length=0;simp);exact q HN.out)]
    have hi:i<2:=hi
    match i,hi with
    | 0,_ =>
     have h:numP (gt (SN s) 0)=none:=hnone
     rw [h];cases outI (gt (SN s) 2) <;> rfl
    | 1,_ =>
     have h:numP (gt (SN s) 1)=none:=hnone
     rw [h];cases outI (gt (SN s) 2) <;> cases numP (gt (SN s) 0) <;> rfl
  have c2:(2:Int)<=(c:Int):=by omega
  cases R with
  | none =>
   have cn0:Calls prog 105 #[.slice (some ⟨w.heap.size,0,none⟩) 2 c,.slice (some ⟨w4.heap.size,0,none⟩) 2 2] (w4.alloc (.cells #[.pointer (some ⟨w2.heap.size,0,none⟩),.pointer (some ⟨w2.heap.size,1,none⟩)] 142)) fun e u=>e=.returned (.bool false)/\Below w.heap.size w u:=cn.mono (fun e u hN=>by
    obtain ⟨b5,_,hc⟩:=FN.out e u hN
    rcases hc with ⟨rfl,_⟩|⟨rfl,m1,m2,hR1,_⟩
    ·exact ⟨rfl,b5⟩
    ·cases hR1)
   clear cn FN HL CB X4 HR
   go_wp2_with (go_at_call 105;refine cn0.mono ?_;rintro e w5 ⟨rfl,b5⟩;have B5:Hid (Below w.heap.size w w5):=b5;clear b5)
   go_ret
   exact ⟨KB.of HB.out B5.out,rfl⟩
  | some x =>
   have cn1:Calls prog 105 #[.slice (some ⟨w.heap.size,0,none⟩) 2 c,.slice (some ⟨w4.heap.size,0,none⟩) 2 2] (w4.alloc (.cells #[.pointer (some ⟨w2.heap.size,0,none⟩),.pointer (some ⟨w2.heap.size,1,none⟩)] 142)) fun e u=>e=.returned (.bool true)/\Below w.heap.size w u/\u.ownsRow (w2.heap.size+1) 111 3 (.slice ae nE ce') nE (Nodm.cellsOf L)/\∃ m1 m2 v,some x=some (objX (S ++ [⟨nm,sk,sb,sa,sd,.slice pa ps.length pc,ps ++ [⟨m1,m2,L,.slice ae nE ce'⟩]⟩]) ys aa)/\u.heap[w2.heap.size]? = some (.cells #[.int .i64 m1,.int .i64 m2,.slice none 0 0] 72 (0,0))/\u.cell? ⟨w2.heap.size,2,none⟩=some v/\u.frozen? ⟨w2.heap.size,2,none⟩=false:=cn.mono (fun e u hN=>by
    obtain ⟨b5,o5,hc⟩:=FN.out e u hN
    rcases hc with ⟨rfl,hno⟩|⟨rfl,m1,m2,hR1,hc1⟩
    ·cases hno
    ·exact ⟨rfl,b5,o5,m1,m2,.slice none 0 0,hR1,hc1,by rw [cell_of_row _ _ _ _ _ _ hc1];rfl,frozen_of_row _ _ _ _ _ hc1⟩)
   clear cn FN HL CB X4 HR
   go_upto_region 10 with (go_at_call 105;refine cn1.mono ?_;rintro e w5 ⟨rfl,b5,o5,m1,m2,v2,hR1,hc1,s2,f2⟩;have B5:Hid (Below w.heap.size w w5):=b5;have O5:=(show Hid _ from o5);have HR1:Hid (some x=_):=hR1;have C5:Hid (w5.heap[w2.heap.size]? = _):=hc1;clear b5 o5 hR1 hc1)
   have W6:Hid (∀ u,u=w5.setCell ⟨w2.heap.size,2,none⟩ (.slice ae nE ce')->Below w.heap.size w u/\u.heap[w2.heap.size]? = some (.cells #[.int .i64 m1,.int .i64 m2,.slice ae nE ce'] 72 (0,0))/\u.ownsRow (w2.heap.size+1) 111 3 (.slice ae nE ce') nE (Nodm.cellsOf L)):=fun u hu=>by
    subst hu
    refine ⟨B5.out.setCell (p:=⟨w2.heap.size,2,none⟩) (show w.heap.size<=w2.heap.size by have:=Z2.out;omega) _,heap_setCell_same _ _ _ _ _ _ C5.out,World.ownsRow.kept O5.out (Nodm.grown_set _ _ _ _) ?_⟩
    cases hb:(Value.slice ae nE ce').ownBlock with
    | none=>exact Or.inl rfl
    | some g =>
     refine Or.inr (fun q=>?_)
     have:=(World.ownsRow.lt O5.out g hb).1
     have:=Option.some.inj q
     omega
   obtain ⟨w6,hw6⟩ : ∃ u,u=w5.setCell ⟨w2.heap.size,2,none⟩ (.slice ae nE ce'):=⟨_,rfl⟩
   rw [<- hw6]
   obtain ⟨b6,c6,o6⟩:=W6.out w6 hw6
   have B6:Hid (Below w.heap.size w w6):=b6
   have C6:Hid (w6.heap[w2.heap.size]? = _):=c6
   have O6:=(show Hid _ from o6)
   have D6:=(show Hid _ from HD.out.below b6)
   clear hw6 b6 c6 o6 W6 s2 f2 v2
   have p0:w6.cell? ⟨w2.heap.size,0,none⟩=some (.int .i64 m1):=by rw [cell_of_row _ _ _ _ _ _ C6.out];rfl
   have p1:w6.cell? ⟨w2.heap.size,1,none⟩=some (.int .i64 m2):=by rw [cell_of_row _ _ _ _ _ _ C6.out];rfl
   have p2:w6.cell? ⟨w2.heap.size,2,none⟩=some (.slice ae nE ce'):=by rw [cell_of_row _ _ _ _ _ _ C6.out];rfl
   have h0:=(HK.out w6 B6.out).2.2
   have y5:w6.cell? ⟨b0,5,none⟩=some (.slice pa ps.length pc):=by rw [cell_of_row _ _ _ _ _ _ h0];rfl
   have lb0:b0<w6.heap.size:=(zLo h0)
   obtain ⟨i0,hi,hz0,hz1,hz2⟩:=info_parts infoP
   have GB:Hid (∀ o,Below w6.heap.size w6 ((w6.alloc o).drew)):=fun o=>(zAl _ _).drew
   have OWN:Hid (∀ o,((w6.alloc o).drew).ownsRow bs 72 3 (.slice pa ps.length pc) ps.length (ps.flatMap Pd.cells)):=fun o=>(D6.out.below (GB.out o)).rw.pat ⟨nm,sk,sb,sa,sd,.slice pa ps.length pc,ps⟩ (by simp)
   have hbs6:Hid (∀ o,bs<=((w6.alloc o).drew).heap.size):=fun o=>by have:=HB.out;have:=B6.out.size;have:=(GB.out o).size;omega
   have FIN:Hid (∀ (o:Obj) (w7:World) (g' c':Nat),w7.ownsRow bs 72 3 (.slice (some ⟨g',0,none⟩) (ps.length+1) c') (ps.length+1) (ps.flatMap Pd.cells ++ [.int .i64 m1,.int .i64 m2,.slice ae nE ce'])->((w6.alloc o).drew).grownBy w7 (Value.slice pa ps.length pc).ownBlock->((Value.slice pa ps.length pc).ownBlock=some g' \/ g'=((w6.alloc o).drew).heap.size) ->
     Dr bs db (B0 ++ [b0]) (.slice (some ⟨g0,0,none⟩) (k+1) c0) (S ++ [⟨nm,sk,sb,sa,sd,.slice (some ⟨g',0,none⟩) (ps.length+1) c',ps ++ [⟨m1,m2,L,.slice ae nE ce'⟩]⟩]) yv ys av aa (w7.setCell ⟨b0,5,none⟩ (.slice (some ⟨g',0,none⟩) (ps.length+1) c'))/\KB bs db w (w7.setCell ⟨b0,5,none⟩ (.slice (some ⟨g',0,none⟩) (ps.length+1) c'))/\w7.cell? ⟨b0,5,none⟩=some (.slice pa ps.length pc)/\w7.frozen? ⟨b0,5,none⟩=false):=fun o w7 g' c' ho hg hv=>by
    have hd:=D6.out.below (GB.out o)
    obtain ⟨q1,q2⟩:=hd.addP HBL.out ⟨m1,m2,L,.slice ae nE ce'⟩ (⟨by
     have h:=own_mono (b':=bs) (by have:=HB.out;have:=Z2.out;omega) (own_below O6.out (GB.out o))
     rw [HE1.out] at h |-
     exact h,HEX.out.2⟩) HAP.out ho hg (hv.elim (fun e=>.inl e.symm) (fun e=>.inr (by rw [<- e];rfl)))
    have q2:w7.heap[b0]? = some (.cells #[.string nm,.int .i64 sk,.int .i64 sb,.int .i64 sa,.string sd,.slice pa ps.length pc] 35 (0,0)):=q2
    refine ⟨q1,?_,by rw [cell_of_row _ _ _ _ _ _ q2];rfl,frozen_of_row _ _ _ _ _ q2⟩
    have hbb:bs<=b0:=by
     have:=(HD.out.box S.length (by simp)).1
     rw [snocD,HBL.out,if_neg (Nat.lt_irrefl _),if_pos rfl] at this
     exact this
    have k1:=(KB.of (db:=db) HB.out (B6.out.trans ((GB.out o).mono B6.out.size))).trans (KB.grown (hbs6.out o) hg (fun r hr=>((OWN.out o).lt r hr).1))
    refine k1.trans (KB.grown (by have:=k1.size;have:=HB.out;omega) (Nodm.grown_set _ _ _ _) (fun r hr=>by cases hr;exact hbb))
   have kA:∀ o,(w6.alloc o).cell? ⟨b0,5,none⟩=some (.slice pa ps.length pc):=fun o=>(((Below.refl w6.heap.size w6).alloc (Nat.le_refl _) o).cell (p:=⟨b0,5,none⟩) lb0).trans y5
   have hl63:ps.length+1<=maxLen:=by unfold maxLen;omega
   clear GB h0 lb0 HAP
   go_wp2_with fail
   go_region_law (first
    | (refine step_append_lies _ rfl (.tmp 45) (.tmp 47) 33 rfl bs 72 i0 (.agg #[.int .i64 0,.int .i64 0,.slice none 0 0]) 3 40 underlying33 hi hz0 hz1 hz2 rfl (by decide) (.slice pa ps.length pc) ps.length (ps.flatMap Pd.cells) rfl (OWN.out _) ⟨w6.heap.size,0,none⟩ 1 1 [.int .i64 m1,.int .i64 m2,.slice ae nE ce'] rfl rfl (newN w6 [.int .i64 m1,.int .i64 m2,.slice ae nE ce'] 72) (by intro u hu;simp at hu;rcases hu with rfl|rfl|rfl <;> rfl) (by decide) hl63 (by omega) (hbs6.out _) _ rfl ?_;intro g' c' w7 hown' hgrow hat hlt';obtain ⟨p7,kb7,d0,f0⟩:=FIN.out _ w7 g' c' hown' hgrow (by first|exact hat|simpa using hat);have S7:=(show Hid _ from And.intro p7 kb7);clear p7 kb7 hown' hgrow hat hlt')
    | fail)
   all_goals
    go_wp2
    go_ret
    refine ⟨S7.out.2,?_⟩
    rw [HR1.out]
    exact ⟨_,_,_,yv,ys,av,aa,by unfold objX;rw [List.map_append,List.map_append];rfl,S7.out.1,rfl⟩
end Rime
end Go.Proofs.YtepafieckjnkdaaGreatDoor
