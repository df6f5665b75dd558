import Derived.Test.YtepafieckjnkdaaGreatDoorP26
import Derived.Test.YtepafieckjnkdaaGreatDoorP27
import Derived.Deep.DeepCutAuto
set_option linter.all false
set_option maxRecDepth 20000
set_option maxHeartbeats 8000000
open Go.ChangeShapes Go.WideShapes Go.ChangeAt Go.RowKit
open Go.Proofs.Tryz
namespace Go.Proofs.YtepafieckjnkdaaGreatDoor
namespace Rmke
open Go.Deep
open Rown Rowo Rmkb Rmkc
open Nodm (markText_any)
def pre (k:Int) (s:Sd):Sd:=⟨Nodm.mark k,k+1,k+2,k+3,Nodm.mark (k+4),s.pv,s.ps⟩
def mkS (k:Int) (s:Sd):Sd:=⟨Nodm.mark k,k+1,k+2,k+3,Nodm.mark (k+4),s.pv,mkPs (k+5) s.ps⟩
def nS (k:Int) (s:Sd):Int:=nPs (k+5) s.ps
def mkSs:Int->List Sd->List Sd
 | _,[]=>[]
 | k,p :: r=>mkS k p :: mkSs (nS k p) r
def nSs:Int->List Sd->Int
 | k,[]=>k
 | k,p :: r=>nSs (nS k p) r
theorem nSs_app:∀ (A B:List Sd) (k:Int),nSs k (A ++ B)=nSs (nSs k A) B
 | [],B,k=>rfl
 | p :: A,B,k=>nSs_app A B (nS k p)
theorem mkSs_app:∀ (A B:List Sd) (k:Int),mkSs k (A ++ B)=mkSs k A ++ mkSs (nSs k A) B
 | [],B,k=>rfl
 | p :: A,B,k=>by
  show mkS k p :: mkSs (nS k p) (A ++ B)=mkS k p :: mkSs (nS k p) A ++ _
  rw [mkSs_app A B (nS k p)];rfl
theorem mkSs_len:∀ (A:List Sd) (k:Int),(mkSs k A).length=A.length
 | [],_=>rfl
 | p :: A,k=>by show (mkSs (nS k p) A).length+1=_;rw [mkSs_len A];rfl
def Lim (s:Sd):Prop:=s.ps.length<=256/\∀ p ∈ s.ps,p.l.length<=30
theorem nS_le (k:Int) (s:Sd) (h:Lim s):k<=nS k s/\nS k s<=k+24000:=by
 have h1:=nPs_le s.ps (k+5) h.2
 have h2:=h.1
 unfold nS
 omega
theorem nSs_le:∀ (A:List Sd) (k:Int),(∀ p ∈ A,Lim p)->k<=nSs k A/\nSs k A<=k+24000*(A.length:Int)
 | [],k,_=>by show k<=k/\k<=k+24000*((0:Nat):Int);omega
 | p :: A,k,h=>by
  have h1:=nSs_le A (nS k p) (fun q hq=>h q (List.mem_cons_of_mem _ hq))
  have h2:=nS_le k p (h p (List.mem_cons_self ..))
  have e:nSs k (p :: A)=nSs (nS k p) A:=rfl
  rw [e,List.length_cons]
  omega
structure Sx (w:World) (base:Nat) (sv:Value) (ss:List Sd):Prop where
 row:w.ownsRow base 35 6 sv ss.length (ss.flatMap Sd.cells)
 pt:∀ s ∈ ss,Pt w base s.pv s.ps
 pvs:(ss.map (·.pv)).Pairwise Apart
 evs:(ss.flatMap (fun s=>s.ps.map (·.e))).Pairwise Apart
theorem clash {a b:Value} (h:Apart a b \/ Apart b a) {g:Nat} (ha:a.ownBlock=some g) (hb:b.ownBlock=some g):False:=by
 rcases h with h|h
 ·exact apart_ne h ha hb
 ·exact apart_ne h hb ha
theorem ptFr {P:Nat->Prop} {w w':World} {base:Nat} {pv:Value} {ps:List Pd} (h:Pt w base pv ps) (hf:Fr P w w') (h1:∀ b,pv.ownBlock=some b->¬ P b) (h2:∀ p ∈ ps,∀ b,p.e.ownBlock=some b->¬ P b):Pt w' base pv ps:=⟨own_fr h.row hf h1,fun p hp=>⟨own_fr (h.ex p hp).1 hf (h2 p hp),(h.ex p hp).2⟩,h.ap⟩
theorem Sx.below {w w':World} {base:Nat} {sv:Value} {ss:List Sd} (h:Sx w base sv ss) (hb:Below w.heap.size w w'):Sx w' base sv ss :=
 ⟨own_below h.row hb,fun s hs=>ptFr (h.pt s hs) (P:=fun _=>False) (Fr.below hb) (fun _ _ h=>h) (fun _ _ _ _ h=>h),h.pvs,h.evs⟩
def Of (s:Sd) (b:Nat):Prop:=s.pv.ownBlock=some b \/ ∃ p ∈ s.ps,p.e.ownBlock=some b
theorem Sx.turn {w w1 w2:World} {base:Nat} {sv:Value} {A B:List Sd} {s:Sd} {k:Int} {g:Nat} (h:Sx w base sv (A ++ s :: B)) (hg:sv.ownBlock=some g) (f1:Fr (fun b=>b=g) w w1)
  (r1:w1.ownsRow base 35 6 sv (A ++ s :: B).length ((A ++ pre k s :: B).flatMap Sd.cells)) (p2:Pt w2 base s.pv (mkPs (k+5) s.ps)) (f2:Fr (Of s) w1 w2):Sx w2 base sv (A ++ mkS k s :: B):=by
 have hs:=h.pt s (by simp)
 have tp:∀ q ∈ A ++ s :: B,q.pv.ownBlock ≠ some g:=fun q hq=>apart_ne (own_ne h.row (h.pt q hq).row (by decide)) hg
 have te:∀ q ∈ A ++ s :: B,∀ p ∈ q.ps,p.e.ownBlock ≠ some g:=fun q hq p hp=>apart_ne (own_ne h.row ((h.pt q hq).ex p hp).1 (by decide)) hg
 have P1:∀ q ∈ A ++ s :: B,Pt w1 base q.pv q.ps:=fun q hq=>ptFr (h.pt q hq) f1 (fun b hb e=>tp q hq (by rw [hb,e])) (fun p hp b hb e=>te q hq p hp (by rw [hb,e]))
 have hpv:=h.pvs
 rw [List.map_append,List.map_cons,List.pairwise_append] at hpv
 obtain ⟨a1,a2,a3⟩:=hpv
 obtain ⟨a4,a5⟩:=List.pairwise_cons.1 a2
 have hev:=h.evs
 rw [List.flatMap_append,List.flatMap_cons,List.pairwise_append,List.pairwise_append] at hev
 obtain ⟨b1,⟨b2,b3,b4⟩,b5⟩:=hev
 have V:∀ q,q ∈ A \/ q ∈ B->Apart q.pv s.pv \/ Apart s.pv q.pv:=fun q hq=>by
  rcases hq with hq|hq
  ·exact .inl (a3 q.pv (List.mem_map_of_mem hq) s.pv (by simp))
  ·exact .inr (a4 q.pv (List.mem_map_of_mem hq))
 have E:∀ q,q ∈ A \/ q ∈ B->∀ x ∈ q.ps,∀ p ∈ s.ps,Apart x.e p.e \/ Apart p.e x.e:=fun q hq x hx p hp=>by
  have m1:p.e ∈ s.ps.map (·.e):=List.mem_map_of_mem hp
  rcases hq with hq|hq
  ·exact .inl (b5 x.e (List.mem_flatMap.2 ⟨q,hq,List.mem_map_of_mem hx⟩) p.e (List.mem_append_left _ m1))
  ·exact .inr (b4 p.e m1 x.e (List.mem_flatMap.2 ⟨q,hq,List.mem_map_of_mem hx⟩))
 have other:∀ q,q ∈ A \/ q ∈ B->Pt w2 base q.pv q.ps:=fun q hq=>by
  have hm:q ∈ A ++ s :: B:=by rcases hq with hq|hq <;> simp [hq]
  refine ptFr (P1 q hm) f2 (fun b hb hp=>?_) (fun x hx b hb hp=>?_)
  ·rcases hp with hp|⟨p,hp,he⟩
   ·exact clash (V q hq) hb hp
   ·exact apart_ne (own_ne (P1 q hm).row ((P1 s (by simp)).ex p hp).1 (by decide)) hb he
  ·rcases hp with hp|⟨p,hp,he⟩
   ·exact apart_ne (own_ne ((P1 q hm).ex x hx).1 (P1 s (by simp)).row (by decide)) hb hp
   ·exact clash (E q hq x hx p hp) hb he
 refine ⟨?_,fun q hq=>?_,?_,?_⟩
 ·have e:(A ++ mkS k s :: B).flatMap Sd.cells=(A ++ pre k s :: B).flatMap Sd.cells:=by rw [List.flatMap_append,List.flatMap_append,List.flatMap_cons,List.flatMap_cons];rfl
  have e2:(A ++ mkS k s :: B).length=(A ++ s :: B).length:=by simp
  rw [e,e2]
  refine own_fr r1 f2 (fun b hb hp=>?_)
  rcases hp with hp|⟨p,hp,he⟩
  ·exact apart_ne (own_ne r1 (P1 s (by simp)).row (by decide)) hb hp
  ·exact apart_ne (own_ne r1 ((P1 s (by simp)).ex p hp).1 (by decide)) hb he
 ·rcases List.mem_append.1 hq with hq|hq
  ·exact other q (.inl hq)
  ·rcases List.mem_cons.1 hq with rfl|hq
   ·exact p2
   ·exact other q (.inr hq)
 ·have:=h.pvs
  simpa [mkS] using this
 ·have:=h.evs
  rw [List.flatMap_append,List.flatMap_cons] at this |-
  have e:(mkS k s).ps.map (·.e)=s.ps.map (·.e):=mkPs_e s.ps (k+5)
  rw [e]
  exact this
theorem set5 (P R:List Sd) (x:Sd) (k:Int) (j:Nat) (h:P.length=j):((((((P ++ x :: R).flatMap Sd.cells).set (j*6) (.string (Nodm.mark k))).set (j*6+1) (.int .i64 (k+1))).set (j*6+2) (.int .i64 (k+2))).set (j*6+3) (.int .i64 (k+3))).set (j*6+4) (.string (Nodm.mark (k+4)))=(P ++ pre k x :: R).flatMap Sd.cells:=by
 have e:∀ z:Sd,(P ++ z :: R).flatMap Sd.cells=P.flatMap Sd.cells ++ (.string z.nm :: .int .i64 z.k :: .int .i64 z.b :: .int .i64 z.a :: .string z.d :: z.pv :: R.flatMap Sd.cells):=fun z=>by rw [List.flatMap_append,List.flatMap_cons];rfl
 have hl:(P.flatMap Sd.cells).length=j*6:=by rw [<- h];exact flat_len Sd.cells 6 (fun _=>rfl) P
 rw [e,e]
 rw [List.set_append_right _ _ (by omega),List.set_append_right _ _ (by omega),List.set_append_right _ _ (by omega),List.set_append_right _ _ (by omega),List.set_append_right _ _ (by omega),hl]
 rw [show j*6-j*6=0 by omega,show j*6+1-j*6=1 by omega,show j*6+2-j*6=2 by omega,show j*6+3-j*6=3 by omega,show j*6+4-j*6=4 by omega]
 rfl
theorem cell5 {w:World} {base g n cap:Nat} {A B:List Sd} {x:Sd} (h:w.ownsRow base 35 6 (.slice (some ⟨g,0,none⟩) n cap) n ((A ++ x :: B).flatMap Sd.cells)) (hn:n=(A ++ x :: B).length) {j:Nat} (hA:A.length=j) (i:Nat) (hi:i<6):w.cell? ⟨g,j*6+i,none⟩=x.cells[i]?:=by
 have hl:j<n:=by rw [hn,List.length_append,List.length_cons];omega
 rw [h.cellAt (j*6+i) (by omega)]
 have hf:=flat_at Sd.cells 6 (fun _=>rfl) (A ++ x :: B) j (by rw [<- hn];exact hl) i hi
 rw [hf,List.getElem_append_right (by omega)]
 simp only [hA,Nat.sub_self,List.getElem_cons_zero]
theorem markSs_any (base:Nat) (sv:Value) (ss:List Sd) (k:Int) (w:World) (h:Sx w base sv ss) (h0:0<k) (h1:k<=1000000) (hn:ss.length<=1000) (hl:∀ p ∈ ss,Lim p) :
  Calls prog 52 #[sv,.int .i64 k] w fun e w'=>e=.returned (.int .i64 (nSs k ss))/\Sx w' base sv (mkSs k ss)/\Fr (fun b=>sv.ownBlock=some b \/ ∃ s ∈ ss,Of s b) w w':=by
 rcases h.row.2 with ⟨rfl,hz⟩|⟨g,cap,cur,rfl,_⟩
 ·have hnil:ss=[]:=List.eq_nil_of_length_eq_zero hz
  subst hnil
  have H:=(show Hid _ from h)
  go_enter func52,ntmps52
  go_wp2
  go_loopw [1,5] (fun c i wr=>c=.int .i64 k/\i=.int .i64 0/\wr=w) (fun _ _ _=>0)
  case atStart=>exact ⟨rfl,rfl,rfl⟩
  case round =>
   obtain ⟨rfl,rfl,rfl⟩:=hrel
   go_wp2
   go_ret
   exact ⟨rfl,H.out,Fr.refl _ _⟩
 ·obtain ⟨n,hn'⟩ : ∃ n,n=ss.length:=⟨_,rfl⟩
  have HN:Hid (n=ss.length):=hn'
  rw [<- hn'] at h hn |-
  have H:=(show Hid _ from h)
  have HLL:=(show Hid _ from hl)
  clear h hl hn'
  go_enter func52,ntmps52
  go_wp2
  go_loopw [1,5] (fun c i wr=>∃ (A B:List Sd) (q:Int) (j:Nat),j<=n/\i=.int .i64 (j:Int)/\c=.int .i64 q/\0<q/\q<=30000000/\Hid (ss=A ++ B/\A.length=j/\q=nSs k A)/\Hid (Sx wr base (.slice (some ⟨g,0,none⟩) n cap) (mkSs k A ++ B))/\Hid (Fr (fun b=>some g=some b \/ ∃ s ∈ ss,Of s b) w wr)) (fun _ i _=>n-(intOf i).toNat)
  case atStart=>exact ⟨[],ss,k,0,Nat.zero_le _,rfl,rfl,h0,by omega,⟨rfl,rfl,rfl⟩,H.out,Fr.refl _ _⟩
  case round =>
   obtain ⟨A,B,q,j,hj,rfl,rfl,hq0,hq1,HA,HP,HF⟩:=hrel
   clear H
   by_cases hlt:j<n
   ·obtain ⟨p,B',hB⟩ : ∃ p B',B=p :: B':=by
     cases B with
     | nil =>
      exfalso
      have h1:=HA.out.1
      have h2:=HA.out.2.1
      have h3:=HN.out
      rw [h1] at h3
      simp at h3;omega
     | cons p B'=>exact ⟨p,B',rfl⟩
    subst hB
    have hAl:(mkSs k A).length=j:=by rw [mkSs_len];exact HA.out.2.1
    have hpm:p ∈ ss:=by rw [HA.out.1];simp
    have HLP:Hid (Lim p):=HLL.out p hpm
    have HPM:Hid (p ∈ ss):=hpm
    have HNL:Hid (n=(mkSs k A ++ p :: B').length):=(show _=_ from by rw [HN.out,HA.out.1,List.length_append,List.length_append,mkSs_len])
    have NX:Hid (nSs k (A ++ [p])=nS q p/\mkSs k (A ++ [p])=mkSs k A ++ [mkS q p]/\ss=(A ++ [p]) ++ B'/\(A ++ [p]).length=j+1):=by
     refine ⟨?_,?_,?_,by simp [HA.out.2.1]⟩
     ·rw [nSs_app,<- HA.out.2.2];rfl
     ·rw [mkSs_app,<- HA.out.2.2];rfl
     ·rw [HA.out.1];simp
    have QB:Hid (0<nS q p/\nS q p<=30000000):=by
     have h1:=nSs_le (A ++ [p]) k (fun x hx=>HLL.out x (by rw [NX.out.2.2.1];exact List.mem_append_left _ hx))
     have h2:=nS_le q p HLP.out
     rw [NX.out.1,NX.out.2.2.2] at h1
     show _/\_
     have:=h1.2
     have hjn:((j+1:Nat):Int)<=1000:=by omega
     omega
    have h0:=HP.out.row
    rw [<- HNL.out] at h0
    have HS:Hid (_=_):=set5 (mkSs k A) B' p q j hAl
    have HAL:Hid ((mkSs k A).length=j):=hAl
    have cm1:=fun w=>markText_any q w (by omega) (by omega)
    have cm2:=fun w=>markText_any (q+4) w (by omega) (by omega)
    generalize Nodm.mark q=t1 at cm1 HS
    generalize Nodm.mark (q+4)=t2 at cm2 HS
    have i0:(0:Int)<=(j:Int):=by omega
    have i1:(j:Int)<(n:Int):=by omega
    have e1:q+1+1=q+2:=by omega
    have e2:q+2+1=q+3:=by omega
    have e3:q+3+1=q+4:=by omega
    have e4:q+4+1=q+5:=by omega
    clear hpm HA hAl
    go_wp2_with fail
    refine (cm1 _).mono ?_
    rintro e w1 ⟨rfl,hb1⟩
    have r0:=own_below h0 hb1
    have l0:=r0.1
    have f0:∀ i,w1.frozen? ⟨g,i,none⟩=false:=fun i=>r0.frozenAt i
    obtain ⟨x0,c0⟩ : ∃ x,w1.cell? ⟨g,j*6,none⟩=some x:=⟨_,(r0.cellAt (j*6) (by omega)).trans (List.getElem?_eq_getElem (by first|omega|(simp only [List.length_set];omega)))⟩
    have r1:=(r0.stored (j*6) (.string t1)).1
    have f1:∀ i,(w1.setCell ⟨g,j*6,none⟩ (.string t1)).frozen? ⟨g,i,none⟩=false:=fun i=>r1.frozenAt i
    obtain ⟨x1,c1⟩ : ∃ x,(w1.setCell ⟨g,j*6,none⟩ (.string t1)).cell? ⟨g,j*6+1,none⟩=some x:=⟨_,(r1.cellAt (j*6+1) (by omega)).trans (List.getElem?_eq_getElem (by first|omega|(simp only [List.length_set];omega)))⟩
    have r2:=(r1.stored (j*6+1) (.int .i64 (q+1))).1
    have f2:∀ i,((w1.setCell ⟨g,j*6,none⟩ (.string t1)).setCell ⟨g,j*6+1,none⟩ (.int .i64 (q+1))).frozen? ⟨g,i,none⟩=false:=fun i=>r2.frozenAt i
    obtain ⟨x2,c2⟩ : ∃ x,((w1.setCell ⟨g,j*6,none⟩ (.string t1)).setCell ⟨g,j*6+1,none⟩ (.int .i64 (q+1))).cell? ⟨g,j*6+2,none⟩=some x:=⟨_,(r2.cellAt (j*6+2) (by omega)).trans (List.getElem?_eq_getElem (by first|omega|(simp only [List.length_set];omega)))⟩
    have r3:=(r2.stored (j*6+2) (.int .i64 (q+2))).1
    have f3:∀ i,(((w1.setCell ⟨g,j*6,none⟩ (.string t1)).setCell ⟨g,j*6+1,none⟩ (.int .i64 (q+1))).setCell ⟨g,j*6+2,none⟩ (.int .i64 (q+2))).frozen? ⟨g,i,none⟩=false:=fun i=>r3.frozenAt i
    obtain ⟨x3,c3⟩ : ∃ x,(((w1.setCell ⟨g,j*6,none⟩ (.string t1)).setCell ⟨g,j*6+1,none⟩ (.int .i64 (q+1))).setCell ⟨g,j*6+2,none⟩ (.int .i64 (q+2))).cell? ⟨g,j*6+3,none⟩=some x:=⟨_,(r3.cellAt (j*6+3) (by omega)).trans (List.getElem?_eq_getElem (by first|omega|(simp only [List.length_set];omega)))⟩
    have r4:=(r3.stored (j*6+3) (.int .i64 (q+3))).1
    have R4:Hid (World.ownsRow ((((w1.setCell ⟨g,j*6,none⟩ (.string t1)).setCell ⟨g,j*6+1,none⟩ (.int .i64 (q+1))).setCell ⟨g,j*6+2,none⟩ (.int .i64 (q+2))).setCell ⟨g,j*6+3,none⟩ (.int .i64 (q+3))) base 35 6 (.slice (some ⟨g,0,none⟩) n cap) n _):=r4
    have F4:Hid (Fr (fun b=>b=g) wr ((((w1.setCell ⟨g,j*6,none⟩ (.string t1)).setCell ⟨g,j*6+1,none⟩ (.int .i64 (q+1))).setCell ⟨g,j*6+2,none⟩ (.int .i64 (q+2))).setCell ⟨g,j*6+3,none⟩ (.int .i64 (q+3)))):=(Fr.below hb1).trans (Fr.grown (row:=some g) (((Nodm.grown_set _ _ _ _).trans (Nodm.grown_set _ _ _ _)).trans ((Nodm.grown_set _ _ _ _).trans (Nodm.grown_set _ _ _ _))) (fun r hr=>(Option.some.inj hr).symm))
    clear r0 r1 r2 r3 r4 l0 h0 hb1 cm1
    go_wp2_with fail
    refine (cm2 _).mono ?_
    rintro e w2 ⟨rfl,hb2⟩
    have q4:=own_below R4.out hb2
    have l4:=q4.1
    have f4:∀ i,w2.frozen? ⟨g,i,none⟩=false:=fun i=>q4.frozenAt i
    obtain ⟨x4,c4⟩ : ∃ x,w2.cell? ⟨g,j*6+4,none⟩=some x:=⟨_,(q4.cellAt (j*6+4) (by omega)).trans (List.getElem?_eq_getElem (by omega))⟩
    have q5:=(q4.stored (j*6+4) (.string t2)).1
    rw [HS.out] at q5
    have F5:Hid (Fr (fun b=>b=g) wr (w2.setCell ⟨g,j*6+4,none⟩ (.string t2))):=(F4.out.trans (Fr.below hb2)).trans (Fr.grown (row:=some g) (Nodm.grown_set _ _ _ _) (fun r hr=>(Option.some.inj hr).symm))
    have c5:(w2.setCell ⟨g,j*6+4,none⟩ (.string t2)).cell? ⟨g,j*6+5,none⟩=some p.pv:=(cell5 q5 (by rw [HNL.out];simp) HAL.out 5 (by omega)).trans rfl
    have R5:Hid (World.ownsRow (w2.setCell ⟨g,j*6+4,none⟩ (.string t2)) base 35 6 (.slice (some ⟨g,0,none⟩) n cap) n ((mkSs k A ++ pre q p :: B').flatMap Sd.cells)):=q5
    have P5:Pt (w2.setCell ⟨g,j*6+4,none⟩ (.string t2)) base p.pv p.ps:=ptFr (HP.out.pt p (by simp)) F5.out (fun b hb e=>apart_ne (own_ne HP.out.row (HP.out.pt p (by simp)).row (by decide)) (g:=g) rfl (by rw [hb,e])) (fun x hx b hb e=>apart_ne (own_ne HP.out.row ((HP.out.pt p (by simp)).ex x hx).1 (by decide)) (g:=g) rfl (by rw [hb,e]))
    have cm3:=markPs_any base p.pv p.ps (q+5) _ P5 (by omega) (by omega) HLP.out.1 HLP.out.2
    clear q4 l4 q5 P5 R4 F4 hb2 cm2 c0 c1 c2 c3 f0 f1 f2 f3 HS
    go_wp2_with fail
    refine cm3.mono ?_
    rintro e w3 ⟨rfl,p3,g3⟩
    have PT3:Hid (Sx w3 base (.slice (some ⟨g,0,none⟩) n cap) (mkSs k (A ++ [p]) ++ B')):=by
     have f3:Fr (Of p) _ w3:=⟨g3.os,g3.tape,g3.output,g3.size,fun b hb hp=>g3.block b hb (fun e=>hp (.inl e)) (fun e he1 he2=>hp (.inr (by obtain ⟨x,hx,rfl⟩:=List.mem_map.1 he1;exact ⟨x,hx,he2⟩)))⟩
     have h:=HP.out.turn (k:=q) (g:=g) rfl F5.out (by rw [<- HNL.out];exact R5.out) p3 f3
     show Sx _ _ _ _
     rw [NX.out.2.1,List.append_assoc]
     exact h
    have FP3:Hid (Fr (fun b=>some g=some b \/ ∃ s ∈ ss,Of s b) w w3):=(HF.out.trans (F5.out.imp (fun b hb=>.inl (by rw [hb])))).trans (Fr.imp (P:=Of p) ⟨g3.os,g3.tape,g3.output,g3.size,fun b hb hp=>g3.block b hb (fun e=>hp (.inl e)) (fun e he1 he2=>hp (.inr (by obtain ⟨x,hx,rfl⟩:=List.mem_map.1 he1;exact ⟨x,hx,he2⟩)))⟩ (fun b hb=>.inr ⟨p,HPM.out,hb⟩))
    have hk:nPs (q+5) p.ps=nS q p:=rfl
    rw [hk]
    clear HP HF p3 g3 cm3 hk F5 R5 c4 c5 f4
    go_wp2_with fail
    go_roundw
    case rel=>exact ⟨A ++ [p],B',nS q p,j+1,by omega,by go_num,by first|rfl|(congr 1;omega),QB.out.1,QB.out.2,⟨NX.out.2.2.1,NX.out.2.2.2,NX.out.1.symm⟩,PT3.out,FP3.out⟩
    case measure=>simp [intOf];omega
   ·have e:j=n:=by omega
    have hB:B=[]:=by
     have h1:=HA.out.1
     have h2:=HA.out.2.1
     have h3:=HN.out
     rw [h1,List.length_append] at h3
     exact List.eq_nil_of_length_eq_zero (by omega)
    subst hB
    have hA:ss=A:=by rw [HA.out.1,List.append_nil]
    have HQ:Hid (q=nSs k ss):=(show _=_ from by rw [HA.out.2.2,hA])
    have HP2:Hid (Sx wr base (.slice (some ⟨g,0,none⟩) n cap) (mkSs k ss)):=(show Sx _ _ _ _ from by have h:=HP.out;rw [List.append_nil,<- hA] at h;exact h)
    clear HA hA HP
    subst e
    go_wp2
    go_ret
    exact ⟨by rw [<- HQ.out];rfl,HP2.out,HF.out⟩
end Rmke
namespace Rimc
open Go.Deep
open Rown Rowo Rliq Rlip Rlsa Rima Rimb
open Wors (outI)
open Worr (W)
open Otxa (after)
structure Cx (w:World):Prop where
 op:Optx.OpTab w
 pow:Optx.Pow w
 hex:Nums.Tab w
 ml:Wort.MaxL w
 er:Er w
theorem Cx.below {w w':World} (h:Cx w) (hb:Below w.heap.size w w'):Cx w':=⟨h.op.below hb,h.pow.below hb,Nodi.tab_below h.hex hb,h.ml.below hb,h.er.below hb⟩
theorem readAssert_any (bs db:Nat) (bx:List Nat) (sv:Value) (ss:List Sd) (yv:Value) (ys:List Osyr.X) (av:Value) (aa:List Ad) (s:ByteArray) (w:World) (h:Dr bs db bx sv ss yv ys av aa w) (hbs:bs<=w.heap.size) (hC:Cx w) (hs:s.size<=1048576) (hla:aa.length<=100000) :
  Calls prog 69 #[.pointer (some ⟨db,0,none⟩),.string s] w (PostI bs db w (assI (objX ss ys aa) s)):=by
 obtain ⟨a2,c2,hav⟩:=own_slice h.rw.ass
 obtain ⟨nA,hnA⟩ : ∃ n,n=aa.length:=⟨_,rfl⟩
 have HNA:Hid (nA=aa.length):=hnA
 rw [<- hnA] at hav hla
 subst hav
 obtain ⟨R,hR⟩ : ∃ R,R=assI (objX ss ys aa) s:=⟨_,rfl⟩
 rw [<- hR]
 have HR:Hid (R=assI (objX ss ys aa) s):=hR
 obtain ⟨q5,hq5⟩ : ∃ q,(outI s).isSome=q:=⟨_,rfl⟩
 obtain ⟨L,hL⟩ : ∃ L,Wors.lst (outI s)=L:=⟨_,rfl⟩
 have H5:Hid ((outI s).isSome=q5/\Wors.lst (outI s)=L):=⟨hq5,hL⟩
 have ce:=Wort.implRead_any s w hs hC.op hC.pow hC.hex hC.ml
 unfold Wors.Left at ce
 rw [hq5,hL] at ce
 have HD:=(show Hid _ from h)
 have HB:Hid (bs<=w.heap.size):=hbs
 clear hq5 hL hR hnA h hbs hC
 go_enter func69,ntmps69
 go_wp2_with fail
 refine ce.mono ?_
 rintro e w6 ⟨ae,ce',rfl,oe,ze,le,b6⟩
 have D6:=(show Hid _ from HD.out.below b6)
 have B6:Hid (Below w.heap.size w w6):=b6
 have HE:Hid (ExOwn w6 bs (.slice ae L.length ce') L):=⟨own_mono HB.out oe,ze⟩
 have HAP:=(show Hid _ from HD.out.rw.fresh oe)
 clear oe ze le b6 ce
 obtain ⟨nE,hnE⟩ : ∃ n,n=L.length:=⟨_,rfl⟩
 rw [<- hnE] at HE HAP |-
 clear hnE
 have k2:w6.cell? ⟨db,2,none⟩=some (.slice a2 nA c2):=by rw [cell_of_row _ _ _ _ _ _ D6.out.cd];rfl
 obtain ⟨i0,hi,hz0,hz1,hz2⟩:=info_parts infoE
 have GB:Hid (∀ o,Below w6.heap.size w6 (w6.alloc o)):=fun o=>zAl _ _
 have OWN:Hid (∀ o,(w6.alloc o).ownsRow bs 53 1 (.slice a2 nA c2) nA (aa.map (·.e))):=fun o=>by
  have h:=(D6.out.below (GB.out o)).rw.ass
  rwa [<- HNA.out] at h
 have hbs6:Hid (∀ o,bs<=(w6.alloc o).heap.size):=fun o=>by have:=HB.out;have:=B6.out.size;have:=(GB.out o).size;omega
 have FIN:Hid (∀ (o:Obj) (w7:World) (g' c':Nat),w7.ownsRow bs 53 1 (.slice (some ⟨g',0,none⟩) (nA+1) c') (nA+1) (aa.map (·.e) ++ [.slice ae nE ce'])->(w6.alloc o).grownBy w7 (Value.slice a2 nA c2).ownBlock ->
   Dr bs db bx sv ss yv ys (.slice (some ⟨g',0,none⟩) (nA+1) c') (aa ++ [⟨L,.slice ae nE ce'⟩]) (w7.setCell ⟨db,2,none⟩ (.slice (some ⟨g',0,none⟩) (nA+1) c'))/\KB bs db w (w7.setCell ⟨db,2,none⟩ (.slice (some ⟨g',0,none⟩) (nA+1) c'))/\w7.cell? ⟨db,2,none⟩=some (.slice a2 nA c2)/\w7.frozen? ⟨db,2,none⟩=false):=fun o w7 g' c' ho hg=>by
  have hd:=D6.out.below (GB.out o)
  obtain ⟨p1,p2⟩:=hd.addA ⟨L,.slice ae nE ce'⟩ ⟨own_below HE.out.1 (GB.out o),HE.out.2⟩ (fun u hu=>(HAP.out u hu).1) (by rw [<- HNA.out];exact ho) hg
  refine ⟨p1,?_,by rw [cell_of_row _ _ _ _ _ _ p2];rfl,frozen_of_row _ _ _ _ _ p2⟩
  exact ((KB.of HB.out (B6.out.trans ((GB.out o).mono B6.out.size))).trans (KB.grown (hbs6.out o) hg (fun r hr=>((OWN.out o).lt r hr).1))).trans KB.cell
 have kA:∀ o,(w6.alloc o).cell? ⟨db,2,none⟩=some (.slice a2 nA c2):=fun o=>((GB.out o).cell (p:=⟨db,2,none⟩) (zLo D6.out.cd)).trans k2
 have hl63:nA+1<=maxLen:=by unfold maxLen;omega
 clear GB
 go_wp2_with (first|(at_builtin;refine wpList_append_lies _ rfl (.tmp 16) (.tmp 18) 26 rfl bs 53 i0 (.slice none 0 0) 1 24 underlying26 hi hz0 hz1 hz2 rfl (by decide) (.slice a2 nA c2) nA (aa.map (·.e)) rfl (OWN.out _) ⟨w6.heap.size,0,none⟩ 1 1 [.slice ae nE ce'] rfl rfl (newP w6 [.slice ae nE ce'] 53) (by intro u hu;simp at hu;subst hu;rfl) (by decide) hl63 (by omega) (hbs6.out _) _ rfl ?_)|fail)
 intro g' c' w7 hown' hgrow hat hlt'
 obtain ⟨p7,kb7,d0,f0⟩:=FIN.out _ w7 g' c' hown' hgrow
 have S7:=(show Hid _ from And.intro p7 kb7)
 clear p7 kb7 hown' hgrow hat hlt'
 go_wp2
 go_ret
 refine ⟨S7.out.2,?_⟩
 rw [HR.out]
 unfold assI
 cases hO:outI s with
 | none =>
  have hq:q5=false:=by rw [<- H5.out.1,hO];rfl
  rw [hq];rfl
 | some D =>
  have hq:q5=true:=by rw [<- H5.out.1,hO];rfl
  have hDL:D=L:=by have h:=H5.out.2;rw [hO] at h;exact h
  rw [hq,hDL]
  exact ⟨bx,sv,ss,yv,ys,_,_,by unfold objX;rw [List.map_append];rfl,S7.out.1,rfl⟩
theorem gt_w {L:List ByteArray} {i:Nat} (h:i<L.length):(L.map Value.string).toArray[i]? = some (.string (gt L i)):=by
 rw [gt_at h];simp [h]
theorem W_sz (s:ByteArray) (i:Nat):(gt (W s) i).size<=s.size:=by
 unfold gt
 rw [List.getD_eq_getElem?_getD]
 cases hk:(W s)[i]? with
 | none=>exact Nat.zero_le _
 | some y=>exact Wors.W_le _ s (Nat.le_refl _) y (List.mem_of_getElem? hk)
theorem readSymbol_any (bs db:Nat) (bx:List Nat) (sv:Value) (ss:List Sd) (yv:Value) (ys:List Osyr.X) (av:Value) (aa:List Ad) (s:ByteArray) (w:World) (h:Dr bs db bx sv ss yv ys av aa w) (hbs:bs<=w.heap.size) (hC:Cx w) (hs:s.size<=1048576) (hla:ys.length<=100000) :
  Calls prog 68 #[.pointer (some ⟨db,0,none⟩),.string s] w (PostI bs db w (symI (objX ss ys aa) s)):=by
 obtain ⟨a1,c1,hav⟩:=own_slice h.rw.sym
 obtain ⟨nY,hnY⟩ : ∃ n,n=ys.length:=⟨_,rfl⟩
 have HNY:Hid (nY=ys.length):=hnY
 rw [<- hnY] at hav hla
 subst hav
 obtain ⟨R,hR⟩ : ∃ R,R=symI (objX ss ys aa) s:=⟨_,rfl⟩
 rw [<- hR]
 have HR:Hid (R=symI (objX ss ys aa) s):=hR
 have HD:=(show Hid _ from h)
 have HB:Hid (bs<=w.heap.size):=hbs
 have HC:=(show Hid _ from hC)
 have cs:=Wort.split_any s w hs hC.ml
 obtain ⟨n,hn⟩ : ∃ n,(W s).length=n:=⟨_,rfl⟩
 have HN:Hid ((W s).length=n):=hn
 rw [hn] at cs
 have HZ:Hid (∀ i,(gt (W s) i).size<=1048576):=fun i=>by have:=W_sz s i;omega
 have hnl:n<=1048577:=by have:=Wort.W_len_le s;omega
 clear hn hR hnY h hbs hC
 go_enter func68,ntmps68
 go_wp2_with fail
 refine cs.mono ?_
 rintro e w1 ⟨rfl,hw1⟩
 have B1:Hid (Below w.heap.size w w1):=(show Below _ _ _ from by rw [hw1];exact zAl _ _)
 have Z1:Hid (w1.heap.size=w.heap.size+1):=(show _=_ from by rw [hw1];simp)
 have X1:Hid (∀ i,i<n->w1.cell? ⟨w.heap.size,i,none⟩=some (.string (gt (W s) i))):=fun i hi=>by rw [hw1,World.cell?_alloc_new];exact gt_w (by rw [HN.out];exact hi)
 clear hw1 cs
 by_cases h4:n=4
 ·have d4:decide ((n:Int)=4)=true:=decide_eq_true (by omega)
  have d4':((n:Int) == 4)=true:=by simp;omega
  subst h4
  have x0:=X1.out 0 (by omega)
  have x3:=X1.out 3 (by omega)
  have L4:(w.heap.size)<w1.heap.size:=by rw [Z1.out];omega
  have xa:∀ i,i<4->∀ o,(w1.alloc o).cell? ⟨w.heap.size,i,none⟩=some (.string (gt (W s) i)):=fun i hi o=>(((Below.refl w1.heap.size w1).alloc (Nat.le_refl _) o).cell (p:=⟨w.heap.size,i,none⟩) L4).trans (X1.out i hi)
  have xa0:=xa 0 (by omega)
  have xa3:=xa 3 (by omega)
  generalize hg0:gt (W s) 0=X0 at x0 xa0
  have HG0:Hid (gt (W s) 0=X0):=hg0
  obtain ⟨f3,hf3⟩ : ∃ f,((gt (W s) 3).toList == [49])=f:=⟨_,rfl⟩
  have HF3:Hid (oneB (gt (W s) 3)=f3):=hf3
  clear hg0 xa
  go_upto_region 4 with fail
  go_cut [6] (fun p wx=>p=.pointer (some ⟨w1.heap.size,0,none⟩)/\Hid (wx=(w1.alloc (.cells #[.string X0,.int .i64 0,.int .i64 0,.bool f3] 49)).drew))
  case first =>
   go_region_with (fail)
   all_goals
    go_wp2_with fail
    go_meet
    exact ⟨rfl,rfl⟩
  case rest =>
  obtain ⟨rfl,hw2⟩:=hcut
  have B2:Hid (Below w.heap.size w wc):=(show Below _ _ _ from by rw [hw2.out];exact (B1.out.alloc (by rw [Z1.out];omega) _).drew)
  have Z2:Hid (wc.heap.size=w.heap.size+2):=(show _=_ from by rw [hw2.out];simp [Z1.out])
  have CB:Hid (wc.heap[w1.heap.size]? = some (.cells #[.string X0,.int .i64 0,.int .i64 0,.bool f3] 49 (0,0))):=(show _=_ from by rw [hw2.out];exact heap_alloc_last w1 _)
  have X2:Hid (∀ i,i<4->wc.cell? ⟨w.heap.size,i,none⟩=some (.string (gt (W s) i))):=fun i hi=>by
   rw [hw2.out]
   exact (((Below.refl w1.heap.size w1).alloc (Nat.le_refl _) (.cells #[.string X0,.int .i64 0,.int .i64 0,.bool f3] 49)).drew.cell (p:=⟨w.heap.size,i,none⟩) L4).trans (X1.out i hi)
  have z1:=Z1.out
  have z2:=Z2.out
  clear hw2 x0 x3 xa0 xa3 X1 B1
  have HL:Hid (∀ o,Below wc.heap.size wc (wc.alloc o)):=fun o=>zAl _ _
  have cn:Calls prog 105 #[.slice (some ⟨w.heap.size,1,none⟩) 2 3,.slice (some ⟨wc.heap.size,0,none⟩) 2 2] (wc.alloc (.cells #[.pointer (some ⟨w1.heap.size,1,none⟩),.pointer (some ⟨w1.heap.size,2,none⟩)] 142)) (ToldN (wc.alloc (.cells #[.pointer (some ⟨w1.heap.size,1,none⟩),.pointer (some ⟨w1.heap.size,2,none⟩)] 142)) w1.heap.size 49 #[.string X0,.int .i64 0,.int .i64 0,.bool f3] [1,2] [gt (W s) 1,gt (W s) 2]):=by
   have hE:=(HC.out.below B2.out).er
   refine numbers_any w.heap.size 1 3 wc.heap.size 2 w1.heap.size 49 #[.string X0,.int .i64 0,.int .i64 0,.bool f3] [1,2] [gt (W s) 1,gt (W s) 2] _ (hE.below (HL.out _)) (fun i hi=>?_) (fun i hi=>?_) ?_ (fun i hi=>?_) (by omega) (by omega) (by simp) (fun i hi=>?_) rfl ?_
   ·have hi:i<2:=hi
    refine ((HL.out _).cell (p:=⟨w.heap.size,1+i,none⟩) (by show w.heap.size<wc.heap.size;omega)).trans ((X2.out (1+i) (by omega)).trans ?_)
    match i,hi with
    | 0,_=>rfl
    | 1,_=>rfl
   ·have hi:i<2:=hi
    rw [World.cell?_alloc_new]
    match i,hi with
    | 0,_=>rfl
    | 1,_=>rfl
   ·exact ((HL.out _).block _ (by omega)).trans CB.out
   ·have hi:i<2:=hi
    match i,hi with
    | 0,_=>exact (by decide:1<4)
    | 1,_=>exact (by decide:2<4)
   ·have hi:i<2:=hi
    match i,hi with
    | 0,_=>exact HZ.out 1
    | 1,_=>exact HZ.out 2
   ·obtain ⟨⟨t,p,e1⟩,⟨t',p',e2⟩⟩:=HC.out.er
    have l1:=World.block_lt_of_cell? w ⟨_,0,none⟩ e1
    have l2:=World.block_lt_of_cell? w ⟨_,0,none⟩ e2
    have l1:6<w.heap.size:=l1
    have l2:7<w.heap.size:=l2
    omega
  clear z1 z2
  go_wp2_with fail
  refine cn.mono ?_
  intro e w3 hN
  obtain ⟨hg3,hN⟩:=hN
  have z1:=Z1.out
  have z2:=Z2.out
  have BL:Below w.heap.size w (wc.alloc (.cells #[.pointer (some ⟨w1.heap.size,1,none⟩),.pointer (some ⟨w1.heap.size,2,none⟩)] 142)):=B2.out.trans ((HL.out _).mono (by omega))
  have B3:Hid (Below w.heap.size w w3):=BL.grown hg3 (by simp;omega) (fun r hr=>by cases hr;omega)
  clear BL cn hg3 z1 z2
  rcases hN with ⟨rfl,hq⟩|⟨rfl,hno⟩
  ·have y1:=hq.y 0 (by simp)
   have y2:=hq.y 1 (by simp)
   have y1:(numP (gt (W s) 1)).isSome=true:=y1
   have y2:(numP (gt (W s) 2)).isSome=true:=y2
   obtain ⟨m1,hm1⟩:=Option.isSome_iff_exists.1 y1
   obtain ⟨m2,hm2⟩:=Option.isSome_iff_exists.1 y2
   have c3:w3.heap[w1.heap.size]? = some (.cells #[.string X0,.int .i64 m1,.int .i64 m2,.bool f3] 49 (0,0)):=by
    have h:=hq.c
    have e:putN #[.string X0,.int .i64 0,.int .i64 0,.bool f3] [1,2] [gt (W s) 1,gt (W s) 2] 2=#[.string X0,.int .i64 ((numP (gt (W s) 1)).getD 0),.int .i64 ((numP (gt (W s) 2)).getD 0),.bool f3]:=rfl
    have h:w3.heap[w1.heap.size]? = some (.cells (putN #[.string X0,.int .i64 0,.int .i64 0,.bool f3] [1,2] [gt (W s) 1,gt (W s) 2] 2) 49 (0,0)):=h
    rw [e,hm1,hm2] at h
    exact h
   have HRy:Hid (R=some (objX ss (ys ++ [⟨X0,m1,m2,f3⟩]) aa)):=(show R=_ from by
    rw [HR.out];unfold symI;rw [if_pos HN.out,hm1,hm2,HG0.out,HF3.out];rfl)
   have q0:w3.cell? ⟨w1.heap.size,0,none⟩=some (.string X0):=by rw [cell_of_row _ _ _ _ _ _ c3];rfl
   have q1:w3.cell? ⟨w1.heap.size,1,none⟩=some (.int .i64 m1):=by rw [cell_of_row _ _ _ _ _ _ c3];rfl
   have q2:w3.cell? ⟨w1.heap.size,2,none⟩=some (.int .i64 m2):=by rw [cell_of_row _ _ _ _ _ _ c3];rfl
   have q3:w3.cell? ⟨w1.heap.size,3,none⟩=some (.bool f3):=by rw [cell_of_row _ _ _ _ _ _ c3];rfl
   have D3:=(show Hid _ from HD.out.below B3.out)
   have k1:w3.cell? ⟨db,1,none⟩=some (.slice a1 nY c1):=by rw [cell_of_row _ _ _ _ _ _ D3.out.cd];rfl
   obtain ⟨i0,hi,hz0,hz1,hz2⟩:=info_parts infoYs
   have GB:Hid (∀ o,Below w3.heap.size w3 ((w3.alloc o).drew)):=fun o=>(zAl _ _).drew
   have OWN:Hid (∀ o,((w3.alloc o).drew).ownsRow bs 49 4 (.slice a1 nY c1) nY (ys.flatMap yCells)):=fun o=>by
    have h:=(D3.out.below (GB.out o)).rw.sym
    rwa [<- HNY.out] at h
   have hbs6:Hid (∀ o,bs<=((w3.alloc o).drew).heap.size):=fun o=>by have:=HB.out;have:=B3.out.size;have:=(GB.out o).size;omega
   have FIN:Hid (∀ (o:Obj) (w7:World) (g' c':Nat),w7.ownsRow bs 49 4 (.slice (some ⟨g',0,none⟩) (nY+1) c') (nY+1) (ys.flatMap yCells ++ [.string X0,.int .i64 m1,.int .i64 m2,.bool f3])->((w3.alloc o).drew).grownBy w7 (Value.slice a1 nY c1).ownBlock ->
     Dr bs db bx sv ss (.slice (some ⟨g',0,none⟩) (nY+1) c') (ys ++ [⟨X0,m1,m2,f3⟩]) av aa (w7.setCell ⟨db,1,none⟩ (.slice (some ⟨g',0,none⟩) (nY+1) c'))/\KB bs db w (w7.setCell ⟨db,1,none⟩ (.slice (some ⟨g',0,none⟩) (nY+1) c'))/\w7.cell? ⟨db,1,none⟩=some (.slice a1 nY c1)/\w7.frozen? ⟨db,1,none⟩=false):=fun o w7 g' c' ho hg=>by
    have hd:=D3.out.below (GB.out o)
    obtain ⟨p1,p2⟩:=hd.addY ⟨X0,m1,m2,f3⟩ (by rw [<- HNY.out];exact ho) hg
    refine ⟨p1,?_,by rw [cell_of_row _ _ _ _ _ _ p2];rfl,frozen_of_row _ _ _ _ _ p2⟩
    exact ((KB.of HB.out (B3.out.trans ((GB.out o).mono B3.out.size))).trans (KB.grown (hbs6.out o) hg (fun r hr=>((OWN.out o).lt r hr).1))).trans KB.cell
   have kA:∀ o,(w3.alloc o).cell? ⟨db,1,none⟩=some (.slice a1 nY c1):=fun o=>(((Below.refl w3.heap.size w3).alloc (Nat.le_refl _) o).cell (p:=⟨db,1,none⟩) (zLo D3.out.cd)).trans k1
   have hl63:nY+1<=maxLen:=by unfold maxLen;omega
   clear GB hq c3 y1 y2 hm1 hm2 HR X2 CB L4 hf3
   go_wp2_with fail
   go_region_law (first
    | (refine step_append_lies _ rfl (.tmp 31) (.tmp 33) 25 rfl bs 49 i0 (.agg #[.string ⟨#[]⟩,.int .i64 0,.int .i64 0,.bool false]) 4 40 underlying25 hi hz0 hz1 hz2 rfl (by decide) (.slice a1 nY c1) nY (ys.flatMap yCells) rfl (OWN.out _) ⟨w3.heap.size,0,none⟩ 1 1 [.string X0,.int .i64 m1,.int .i64 m2,.bool f3] rfl rfl (newN w3 [.string X0,.int .i64 m1,.int .i64 m2,.bool f3] 49) (by intro u hu;simp at hu;rcases hu with rfl|rfl|rfl|rfl <;> rfl) (by decide) hl63 (by omega) (hbs6.out _) _ rfl ?_;intro g' c' w7 hown' hgrow hat hlt';obtain ⟨p7,kb7,d0,f0⟩:=FIN.out _ w7 g' c' hown' hgrow;have S7:=(show Hid _ from And.intro p7 kb7);clear p7 kb7 hown' hgrow hat hlt')
    | fail)
   all_goals
    go_wp2
    go_ret
    refine ⟨S7.out.2,?_⟩
    rw [HRy.out]
    exact ⟨bx,sv,ss,_,_,av,aa,rfl,S7.out.1,rfl⟩
  ·have HN0:Hid (R=none):=(show R=none from by
    rw [HR.out];unfold symI;rw [if_pos HN.out]
    obtain ⟨i,hi,h⟩:=hno
    have hi:i<2:=hi
    match i,hi with
    | 0,_ =>
     have h:numP (gt (W s) 1)=none:=h
     rw [h]
    | 1,_ =>
     have h:numP (gt (W s) 2)=none:=h
     rw [h];cases numP (gt (W s) 1) <;> rfl)
   clear HR hno
   go_wp2
   go_ret
   exact ⟨KB.of HB.out B3.out,by rw [HN0.out];rfl⟩
 ·have d4:decide ((n:Int)=4)=false:=decide_eq_false (by omega)
  have d4':((n:Int) == 4)=false:=by simp;omega
  have HN0:Hid (R=none):=(show R=none from by rw [HR.out];unfold symI;rw [if_neg (by rw [HN.out];exact h4)])
  clear HR
  go_wp2
  go_ret
  exact ⟨KB.of HB.out B1.out,by rw [HN0.out];rfl⟩
end Rimc
end Go.Proofs.YtepafieckjnkdaaGreatDoor
