import Derived.Test.YtepafieckjnkdaaGreatDoorP21
set_option linter.all false
set_option maxRecDepth 20000
set_option maxHeartbeats 8000000
open Go.ChangeShapes Go.WideShapes Go.ChangeAt Go.RowKit
open Go.Proofs.Tryz
namespace Go.Proofs.YtepafieckjnkdaaGreatDoor
namespace Rmkb
open Go.Deep
open Rown Rowo
def mkP (k:Int) (p:Pd):Pd:=⟨k,k+1,Rmka.marks (k+2) p.l.length,p.e⟩
def nP (k:Int) (p:Pd):Int:=k+2+3*(p.l.length:Int)
def mkPs:Int->List Pd->List Pd
 | _,[]=>[]
 | k,p :: r=>mkP k p :: mkPs (nP k p) r
def nPs:Int->List Pd->Int
 | k,[]=>k
 | k,p :: r=>nPs (nP k p) r
theorem nPs_app:∀ (A B:List Pd) (k:Int),nPs k (A ++ B)=nPs (nPs k A) B
 | [],B,k=>rfl
 | p :: A,B,k=>nPs_app A B (nP k p)
theorem mkPs_app:∀ (A B:List Pd) (k:Int),mkPs k (A ++ B)=mkPs k A ++ mkPs (nPs k A) B
 | [],B,k=>rfl
 | p :: A,B,k=>by
  show mkP k p :: mkPs (nP k p) (A ++ B)=mkP k p :: mkPs (nP k p) A ++ _
  rw [mkPs_app A B (nP k p)];rfl
theorem mkPs_len:∀ (A:List Pd) (k:Int),(mkPs k A).length=A.length
 | [],_=>rfl
 | p :: A,k=>by show (mkPs (nP k p) A).length+1=_;rw [mkPs_len A];rfl
theorem mkPs_e:∀ (A:List Pd) (k:Int),(mkPs k A).map (·.e)=A.map (·.e)
 | [],_=>rfl
 | p :: A,k=>by show p.e :: (mkPs (nP k p) A).map (·.e)=_;rw [mkPs_e A];rfl
theorem nPs_le:∀ (A:List Pd) (k:Int),(∀ p ∈ A,p.l.length<=30)->k<=nPs k A/\nPs k A<=k+92*(A.length:Int)
 | [],k,_=>by show k<=k/\k<=k+92*((0:Nat):Int);omega
 | p :: A,k,h=>by
  have h1:=nPs_le A (nP k p) (fun q hq=>h q (List.mem_cons_of_mem _ hq))
  have h2:=h p (List.mem_cons_self ..)
  have e:nPs k (p :: A)=nPs (nP k p) A:=rfl
  rw [e,List.length_cons]
  unfold nP at h1 |-
  omega
structure Pt (w:World) (base:Nat) (pv:Value) (ps:List Pd):Prop where
 row:w.ownsRow base 72 3 pv ps.length (ps.flatMap Pd.cells)
 ex:∀ p ∈ ps,ExOwn w base p.e p.l
 ap:(ps.map (·.e)).Pairwise Apart
structure Fp (pv:Value) (es:List Value) (w w':World):Prop where
 os:w'.os=w.os
 tape:w'.tape=w.tape
 output:w'.output=w.output
 size:w.heap.size<=w'.heap.size
 block:∀ b,b<w.heap.size->pv.ownBlock ≠ some b->(∀ e ∈ es,e.ownBlock ≠ some b)->w'.heap[b]? = w.heap[b]?
theorem Fp.refl (pv:Value) (es:List Value) (w:World):Fp pv es w w:=⟨rfl,rfl,rfl,Nat.le_refl _,fun _ _ _ _=>rfl⟩
theorem Fp.trans {pv:Value} {es:List Value} {a b c:World} (h:Fp pv es a b) (k:Fp pv es b c):Fp pv es a c:=⟨k.os.trans h.os,k.tape.trans h.tape,k.output.trans h.output,Nat.le_trans h.size k.size,fun i h1 h2 h3=>(k.block i (Nat.lt_of_lt_of_le h1 h.size) h2 h3).trans (h.block i h1 h2 h3)⟩
theorem Fp.grown {pv:Value} {es:List Value} {w w':World} {row:Option Nat} (hg:w.grownBy w' row) (h:row=pv.ownBlock \/ ∃ e ∈ es,row=e.ownBlock):Fp pv es w w' :=
 ⟨hg.os,hg.tape,hg.output,hg.size,fun b hb h1 h2=>hg.block b hb (fun e=>by
  rcases h with h|⟨x,hx,h⟩
  ·exact h1 (by rw [<- h,<- e])
  ·exact h2 x hx (by rw [<- h,<- e]))⟩
theorem Fp.below {pv:Value} {es:List Value} {w w':World} (hb:Below w.heap.size w w'):Fp pv es w w':=⟨hb.os,hb.tape,hb.output,hb.size,fun b h _ _=>hb.block b h⟩
theorem cells_mid (A B:List Pd) (p:Pd):(A ++ p :: B).flatMap Pd.cells=A.flatMap Pd.cells ++ (.int .i64 p.p0 :: .int .i64 p.p1 :: p.e :: B.flatMap Pd.cells):=by rw [List.flatMap_append,List.flatMap_cons];rfl
theorem Pt.turn {w:World} {base g cap n:Nat} {A B:List Pd} {p:Pd} {k m:Int} (h:Pt w base (.slice (some ⟨g,0,none⟩) n cap) (A ++ p :: B)) (hn:n=(A ++ p :: B).length) :
  Pt ((w.setCell ⟨g,A.length*3,none⟩ (.int .i64 k)).setCell ⟨g,A.length*3+1,none⟩ (.int .i64 m)) base (.slice (some ⟨g,0,none⟩) n cap) (A ++ ⟨k,m,p.l,p.e⟩ :: B):=by
 have hrow:=h.row
 rw [<- hn] at hrow
 have h2:=((hrow.stored (A.length*3) (.int .i64 k)).1.stored (A.length*3+1) (.int .i64 m)).1
 have hl:(A.flatMap Pd.cells).length=A.length*3:=flat_len Pd.cells 3 (fun _=>rfl) A
 have e:(((A ++ p :: B).flatMap Pd.cells).set (A.length*3) (.int .i64 k)).set (A.length*3+1) (.int .i64 m)=(A ++ ⟨k,m,p.l,p.e⟩ :: B).flatMap Pd.cells:=by
  rw [cells_mid,cells_mid,List.set_append_right _ _ (by omega),List.set_append_right _ _ (by omega),hl,Nat.sub_self,show A.length*3+1-A.length*3=1 by omega]
  rfl
 rw [e] at h2
 have hg:w.grownBy ((w.setCell ⟨g,A.length*3,none⟩ (.int .i64 k)).setCell ⟨g,A.length*3+1,none⟩ (.int .i64 m)) (some g):=(Nodm.grown_set _ _ _ _).trans (Nodm.grown_set _ _ _ _)
 have e2:(A ++ (⟨k,m,p.l,p.e⟩ : Pd) :: B).length=n:=by rw [hn];simp
 refine ⟨by rw [e2];exact h2,fun q hq=>?_,?_⟩
 ·have kept:∀ x ∈ A ++ p :: B,ExOwn ((w.setCell ⟨g,A.length*3,none⟩ (.int .i64 k)).setCell ⟨g,A.length*3+1,none⟩ (.int .i64 m)) base x.e x.l:=fun x hx=>⟨(h.ex x hx).1.kept hg (own_ne (h.ex x hx).1 hrow (by decide)),(h.ex x hx).2⟩
  rcases List.mem_append.1 hq with hq|hq
  ·exact kept q (List.mem_append_left _ hq)
  ·rcases List.mem_cons.1 hq with rfl|hq
   ·exact kept p (by simp)
   ·exact kept q (by simp [hq])
 ·have:=h.ap
  simpa using this
theorem dg_size:∀ (d:Nat) (n:Int) (t:ByteArray),n<10 ^ d->(Nodm.dg n t).size<=t.size+d
 | 0,n,t,h=>by
  have h:n<1:=h
  rw [Nodm.dg_end (by omega)];omega
 | d+1,n,t,h=>by
  by_cases hn:n<=0
  ·rw [Nodm.dg_end hn];omega
  ·have h2:n / 10<10 ^ d:=by
    have e:(10:Int) ^ (d+1)=10 ^ d*10:=by rw [Int.pow_succ]
    rw [e] at h
    omega
   rw [Nodm.dg_step hn]
   have:=dg_size d (n / 10) (strOfNums [48+n%10] ++ t) h2
   rw [Nodm.cat_size] at this
   omega
theorem mark_size {k:Int} (h:k<=1000000000):(Nodm.mark k).size<=11:=by
 unfold Nodm.mark
 have e:(10:Int) ^ 10=10000000000:=by decide
 have:=dg_size 10 k ⟨#[]⟩ (by rw [e];omega)
 rw [ByteArray.size_append]
 have e1:(⟨#[109]⟩ : ByteArray).size=1:=rfl
 have e2:(⟨#[]⟩ : ByteArray).size=0:=rfl
 omega
theorem mark_small {q:Int} {n:Nat} (hq:q<=500000000) (hn:n<=10000):∀ x ∈ Rmka.marks q n,x.2.2.size<=1048576:=fun x hx=>by
 unfold Rmka.marks at hx
 obtain ⟨i,hi,rfl⟩:=List.mem_map.1 hx
 have hi:=List.mem_range.1 hi
 have:=mark_size (k:=q+2+3*(i:Int)) (by omega)
 show (Nodm.mark (q+2+3*(i:Int))).size<=_
 omega
theorem Pt.turnE {w w':World} {base:Nat} {pv:Value} {A B:List Pd} {p:Pd} {L:List Stepx.Node} (h:Pt w base pv (A ++ p :: B)) (hL:∀ x ∈ L,x.2.2.size<=1048576) (ho:Nodm.Own w' base p.e L) (hg:w.grownBy w' p.e.ownBlock):Pt w' base pv (A ++ ⟨p.p0,p.p1,L,p.e⟩ :: B):=by
 have hp:=(h.ex p (by simp)).1
 have hap:=h.ap
 rw [List.map_append,List.map_cons,List.pairwise_append] at hap
 obtain ⟨a1,a2,a3⟩:=hap
 obtain ⟨a4,a5⟩:=List.pairwise_cons.1 a2
 refine ⟨?_,fun q hq=>?_,?_⟩
 ·have e:(A ++ (⟨p.p0,p.p1,L,p.e⟩ : Pd) :: B).flatMap Pd.cells=(A ++ p :: B).flatMap Pd.cells:=by rw [cells_mid,cells_mid]
  have e2:(A ++ (⟨p.p0,p.p1,L,p.e⟩ : Pd) :: B).length=(A ++ p :: B).length:=by simp
  rw [e,e2]
  exact h.row.kept hg (own_ne h.row hp (by decide))
 ·rcases List.mem_append.1 hq with hq|hq
  ·have:=h.ex q (List.mem_append_left _ hq)
   exact ⟨this.1.kept hg (a3 q.e (List.mem_map_of_mem hq) p.e (by simp)),this.2⟩
  ·rcases List.mem_cons.1 hq with rfl|hq
   ·exact ⟨ho,hL⟩
   ·have:=h.ex q (by simp [hq])
    have hne:=a4 q.e (List.mem_map_of_mem hq)
    refine ⟨this.1.kept hg ?_,this.2⟩
    cases hb:q.e.ownBlock with
    | none=>exact .inl rfl
    | some b =>
     refine .inr fun e=>?_
     rcases hne with h1|h1
     ·rw [h1] at e;cases e
     ·exact h1 (by rw [hb];exact e.symm)
 ·have:=h.ap
  simpa using this
theorem markPs_any (base:Nat) (pv:Value) (ps:List Pd) (k:Int) (w:World) (h:Pt w base pv ps) (h0:0<k) (h1:k<=400000000) (hn:ps.length<=256) (hl:∀ p ∈ ps,p.l.length<=30) :
  Calls prog 94 #[pv,.int .i64 k] w fun e w'=>e=.returned (.int .i64 (nPs k ps))/\Pt w' base pv (mkPs k ps)/\Fp pv (ps.map (·.e)) w w':=by
 rcases h.row.2 with ⟨rfl,hz⟩|⟨g,cap,cur,rfl,_⟩
 ·have hnil:ps=[]:=List.eq_nil_of_length_eq_zero hz
  subst hnil
  have H:=(show Hid _ from h)
  go_enter func94,ntmps94
  go_wp2
  go_loopw [1,5] (fun c i wr=>c=.int .i64 k/\i=.int .i64 0/\wr=w) (fun _ _ _=>0)
  case atStart=>exact ⟨rfl,rfl,rfl⟩
  case round =>
   obtain ⟨rfl,rfl,rfl⟩:=hrel
   go_wp2
   go_ret
   exact ⟨rfl,H.out,Fp.refl _ _ _⟩
 ·obtain ⟨n,hn'⟩ : ∃ n,n=ps.length:=⟨_,rfl⟩
  have HN:Hid (n=ps.length):=hn'
  rw [<- hn'] at h hn |-
  have H:=(show Hid _ from h)
  have HLL:=(show Hid _ from hl)
  clear h hl hn'
  go_enter func94,ntmps94
  go_wp2
  go_loopw [1,5] (fun c i wr=>∃ (A B:List Pd) (q:Int) (j:Nat),j<=n/\i=.int .i64 (j:Int)/\c=.int .i64 q/\0<q/\q<=450000000/\Hid (ps=A ++ B/\A.length=j/\q=nPs k A)/\Hid (Pt wr base (.slice (some ⟨g,0,none⟩) n cap) (mkPs k A ++ B))/\Hid (Fp (.slice (some ⟨g,0,none⟩) n cap) (ps.map (·.e)) w wr)) (fun _ i _=>n-(intOf i).toNat)
  case atStart=>exact ⟨[],ps,k,0,Nat.zero_le _,rfl,rfl,h0,by omega,⟨rfl,rfl,rfl⟩,H.out,Fp.refl _ _ _⟩
  case round =>
   obtain ⟨A,B,q,j,hj,rfl,rfl,hq0,hq1,HA,HP,HF⟩:=hrel
   clear H
   by_cases hlt:j<n
   ·obtain ⟨p,B',hB⟩ : ∃ p B',B=p :: B':=by
     cases B with
     | nil =>
      exfalso
      have:=HA.out.1
      have h2:=HA.out.2.1
      have h3:=HN.out
      rw [this] at h3
      simp at h3;omega
     | cons p B'=>exact ⟨p,B',rfl⟩
    subst hB
    have hAl:(mkPs k A).length=j:=by rw [mkPs_len];exact HA.out.2.1
    have hpm:p ∈ ps:=by rw [HA.out.1];simp
    have lpl:=HLL.out p hpm
    have hnl:n=(mkPs k A ++ p :: B').length:=by
     rw [HN.out,HA.out.1,List.length_append,List.length_append,mkPs_len]
    have hrow:=HP.out.row
    rw [<- hnl] at hrow
    have hc:∀ (i:Nat),i<n*3->∃ v,wr.cell? ⟨g,i,none⟩=some v:=fun i hi=>⟨_,(hrow.cellAt i hi).trans (List.getElem?_eq_getElem (by rw [hrow.1];exact hi))⟩
    obtain ⟨v0,c0⟩:=hc (j*3) (by omega)
    have f0:∀ i,wr.frozen? ⟨g,i,none⟩=false:=fun i=>hrow.frozenAt i
    have r1:=(hrow.stored (j*3) (.int .i64 q)).1
    obtain ⟨v1,c1⟩ : ∃ v,(wr.setCell ⟨g,j*3,none⟩ (.int .i64 q)).cell? ⟨g,j*3+1,none⟩=some v:=⟨_,(r1.cellAt (j*3+1) (by omega)).trans (List.getElem?_eq_getElem (by rw [r1.1];omega))⟩
    have f1:∀ i,(wr.setCell ⟨g,j*3,none⟩ (.int .i64 q)).frozen? ⟨g,i,none⟩=false:=fun i=>r1.frozenAt i
    have pt2:=HP.out.turn (k:=q) (m:=q+1) hnl
    rw [hAl] at pt2
    have c2:((wr.setCell ⟨g,j*3,none⟩ (.int .i64 q)).setCell ⟨g,j*3+1,none⟩ (.int .i64 (q+1))).cell? ⟨g,j*3+2,none⟩=some p.e:=by
     have h:=pt2.row
     have e:(mkPs k A ++ (⟨q,q+1,p.l,p.e⟩ : Pd) :: B').length=n:=by rw [hnl];simp
     rw [e] at h
     rw [h.cellAt (j*3+2) (by omega)]
     have hf:=flat_at Pd.cells 3 (fun _=>rfl) (mkPs k A ++ (⟨q,q+1,p.l,p.e⟩ : Pd) :: B') j (by rw [e];omega) 2 (by omega)
     rw [hf,List.getElem_append_right (by omega)]
     simp only [hAl,Nat.sub_self,List.getElem_cons_zero]
     rfl
    have fp2:Fp (.slice (some ⟨g,0,none⟩) n cap) (ps.map (·.e)) w ((wr.setCell ⟨g,j*3,none⟩ (.int .i64 q)).setCell ⟨g,j*3+1,none⟩ (.int .i64 (q+1))):=HF.out.trans (Fp.grown (row:=some g) ((Nodm.grown_set _ _ _ _).trans (Nodm.grown_set _ _ _ _)) (.inl rfl))
    have PT2:=(show Hid _ from pt2)
    have FP2:=(show Hid _ from fp2)
    have HP2:Hid (p.e ∈ ps.map (·.e)):=List.mem_map_of_mem hpm
    have NX:Hid (nPs k (A ++ [p])=q+2+3*(p.l.length:Int)/\mkPs k (A ++ [p])=mkPs k A ++ [⟨q,q+1,Rmka.marks (q+2) p.l.length,p.e⟩]/\ps=(A ++ [p]) ++ B'/\(A ++ [p]).length=j+1):=by
     refine ⟨?_,?_,?_,by simp [HA.out.2.1]⟩
     ·rw [nPs_app,<- HA.out.2.2];rfl
     ·rw [mkPs_app,<- HA.out.2.2];rfl
     ·rw [HA.out.1];simp
    have hex:=(pt2.ex ⟨q,q+1,p.l,p.e⟩ (by simp))
    have cm:=Rmka.markE_any (q+2) (by omega) (by omega) p.e p.l.length p.l base _ hex.1 rfl (by omega)
    have QB:Hid (q+2+3*(p.l.length:Int)<=450000000):=by
     have h1:=nPs_le (A ++ [p]) k (fun x hx=>HLL.out x (by rw [NX.out.2.2.1];exact List.mem_append_left _ hx))
     rw [NX.out.1,NX.out.2.2.2] at h1
     show _<=_
     have:=h1.2
     have hjn:((j+1:Nat):Int)<=256:=by omega
     omega
    clear pt2 fp2 hex r1 hrow hc hnl hpm HP HF HA hAl
    have i0:(0:Int)<=(j:Int):=by omega
    have i1:(j:Int)<(n:Int):=by omega
    have w1:IntKind.i64.wrap (q+1)=q+1:=by rw [IntKind.wrap_i64];omega
    have w2:IntKind.i64.wrap (q+1+1)=q+2:=by rw [IntKind.wrap_i64];omega
    have e11:q+1+1=q+2:=by omega
    go_wp2_with fail
    refine cm.mono ?_
    rintro e w3 ⟨rfl,ho3,hg3⟩
    have PT3:Hid (Pt w3 base (.slice (some ⟨g,0,none⟩) n cap) (mkPs k (A ++ [p]) ++ B')):=by
     have h:=PT2.out.turnE (mark_small (q:=q+2) (n:=p.l.length) (by omega) (by omega)) (by
      show World.ownsRow _ _ _ _ _ _ _
      rw [Rmka.marks_len];exact ho3) hg3
     show Pt _ _ _ _
     rw [NX.out.2.1,List.append_assoc]
     exact h
    have FP3:Hid (Fp (.slice (some ⟨g,0,none⟩) n cap) (ps.map (·.e)) w w3):=FP2.out.trans (Fp.grown hg3 (.inr ⟨p.e,HP2.out,rfl⟩))
    clear PT2 FP2 ho3 hg3 cm
    go_wp2_with fail
    go_roundw
    case rel=>exact ⟨A ++ [p],B',q+2+3*(p.l.length:Int),j+1,by omega,by go_num,by first|rfl|(congr 1;omega),by omega,QB.out,⟨NX.out.2.2.1,NX.out.2.2.2,NX.out.1.symm⟩,PT3.out,FP3.out⟩
    case measure=>simp [intOf];omega
   ·have e:j=n:=by omega
    have hB:B=[]:=by
     have h1:=HA.out.1
     have h2:=HA.out.2.1
     have h3:=HN.out
     rw [h1,List.length_append] at h3
     exact List.eq_nil_of_length_eq_zero (by omega)
    subst hB
    have hA:ps=A:=by rw [HA.out.1,List.append_nil]
    have HQ:Hid (q=nPs k ps):=(show _=_ from by rw [HA.out.2.2,hA])
    have HP2:Hid (Pt wr base (.slice (some ⟨g,0,none⟩) n cap) (mkPs k ps)):=(show Pt _ _ _ _ from by have h:=HP.out;rw [List.append_nil,<- hA] at h;exact h)
    clear HA hA HP
    subst e
    go_wp2
    go_ret
    exact ⟨by rw [<- HQ.out];rfl,HP2.out,HF.out⟩
theorem mk_at (A B:List Pd) (p:Pd) (k:Int):mkPs k (A ++ p :: B)=mkPs k A ++ mkP (nPs k A) p :: mkPs (nP (nPs k A) p) B:=by rw [mkPs_app];rfl
theorem heldPs_any (base:Nat) (pv:Value) (ps:List Pd) (k:Int) (w:World) (h:Pt w base pv (mkPs k ps)) (h0:0<k) (h1:k<=400000000) (hn:ps.length<=256) (hl:∀ p ∈ ps,p.l.length<=30) :
  Calls prog 96 #[pv,.int .i64 k] w fun e w'=>e=.returned (.int .i64 (nPs k ps))/\Below w.heap.size w w':=by
 have hlen:=mkPs_len ps k
 rcases h.row.2 with ⟨rfl,hz⟩|⟨g,cap,cur,rfl,_⟩
 ·have hnil:ps=[]:=List.eq_nil_of_length_eq_zero (by omega)
  subst hnil
  go_enter func96,ntmps96
  go_wp2
  go_loopw [1,5] (fun c i wr=>c=.int .i64 k/\i=.int .i64 0/\wr=w) (fun _ _ _=>0)
  case atStart=>exact ⟨rfl,rfl,rfl⟩
  case round =>
   obtain ⟨rfl,rfl,rfl⟩:=hrel
   go_wp2
   go_ret
   exact ⟨rfl,Below.refl _ _⟩
 ·obtain ⟨n,hn'⟩ : ∃ n,n=ps.length:=⟨_,rfl⟩
  have HN:Hid (n=ps.length):=hn'
  rw [hlen,<- hn'] at h
  rw [<- hn'] at hn
  rw [hlen,<- hn']
  have H:=(show Hid _ from h)
  have HLL:=(show Hid _ from hl)
  clear h hl hn' hlen
  go_enter func96,ntmps96
  go_wp2
  go_loopw [1,5] (fun c i wr=>∃ (A B:List Pd) (q:Int) (j:Nat),j<=n/\i=.int .i64 (j:Int)/\c=.int .i64 q/\0<q/\q<=450000000/\Hid (ps=A ++ B/\A.length=j/\q=nPs k A)/\Hid (Below w.heap.size w wr)) (fun _ i _=>n-(intOf i).toNat)
  case atStart=>exact ⟨[],ps,k,0,Nat.zero_le _,rfl,rfl,h0,by omega,⟨rfl,rfl,rfl⟩,Below.refl _ _⟩
  case round =>
   obtain ⟨A,B,q,j,hj,rfl,rfl,hq0,hq1,HA,HB⟩:=hrel
   by_cases hlt:j<n
   ·obtain ⟨p,B',hB⟩ : ∃ p B',B=p :: B':=by
     cases B with
     | nil =>
      exfalso
      have h1:=HA.out.1
      have h2:=HA.out.2.1
      have h3:=HN.out
      rw [h1] at h3
      simp at h3;omega
     | cons p B'=>exact ⟨p,B',rfl⟩
    subst hB
    have hAl:(mkPs k A).length=j:=by rw [mkPs_len];exact HA.out.2.1
    have hpm:p ∈ ps:=by rw [HA.out.1];simp
    have lpl:=HLL.out p hpm
    have hmk:mkPs k ps=mkPs k A ++ mkP q p :: mkPs (nP q p) B':=by rw [HA.out.1,mk_at,<- HA.out.2.2]
    have NX:Hid (nPs k (A ++ [p])=q+2+3*(p.l.length:Int)/\ps=(A ++ [p]) ++ B'/\(A ++ [p]).length=j+1):=by
     refine ⟨?_,?_,by simp [HA.out.2.1]⟩
     ·rw [nPs_app,<- HA.out.2.2];rfl
     ·rw [HA.out.1];simp
    have QB:Hid (q+2+3*(p.l.length:Int)<=450000000):=by
     have h1:=nPs_le (A ++ [p]) k (fun x hx=>HLL.out x (by rw [NX.out.2.1];exact List.mem_append_left _ hx))
     rw [NX.out.1,NX.out.2.2] at h1
     show _<=_
     have:=h1.2
     have hjn:((j+1:Nat):Int)<=256:=by omega
     omega
    have hrow:=H.out.row
    rw [mkPs_len,<- HN.out,hmk] at hrow
    have glt:g<w.heap.size:=(hrow.lt g rfl).2
    have hcl:∀ (i:Nat) (v:Value),i<3->(Pd.cells (mkP q p))[i]? = some v->wr.cell? ⟨g,j*3+i,none⟩=some v:=fun i v hi hv=>by
     refine (HB.out.cell (p:=⟨g,j*3+i,none⟩) glt).trans ?_
     rw [hrow.cellAt (j*3+i) (by omega)]
     have e:(mkPs k A ++ mkP q p :: mkPs (nP q p) B').length=n:=by rw [<- hmk,mkPs_len];exact HN.out.symm
     rw [flat_at Pd.cells 3 (fun _=>rfl) _ j (by rw [e];omega) i hi,List.getElem_append_right (by omega)]
     simp only [hAl,Nat.sub_self,List.getElem_cons_zero]
     exact hv
    have c0:wr.cell? ⟨g,j*3,none⟩=some (.int .i64 q):=hcl 0 _ (by omega) rfl
    have c1:wr.cell? ⟨g,j*3+1,none⟩=some (.int .i64 (q+1)):=hcl 1 _ (by omega) rfl
    have c2:wr.cell? ⟨g,j*3+2,none⟩=some p.e:=hcl 2 _ (by omega) rfl
    have hex:=(H.out.ex (mkP q p) (by rw [hmk];simp)).1
    have hex2:wr.ownsRow base 111 3 p.e p.l.length (Nodm.cellsOf (Rmka.marks (q+2) p.l.length)):=by
     have h:w.ownsRow base 111 3 p.e (Rmka.marks (q+2) p.l.length).length (Nodm.cellsOf (Rmka.marks (q+2) p.l.length)):=hex
     rw [Rmka.marks_len] at h
     exact own_below h HB.out
    have cm:=Rmka.heldE_any (q+2) (by omega) (by omega) p.e p.l.length base wr hex2 (by omega)
    have i0:(0:Int)<=(j:Int):=by omega
    have i1:(j:Int)<(n:Int):=by omega
    have w1:IntKind.i64.wrap (q+1)=q+1:=by rw [IntKind.wrap_i64];omega
    have w2:IntKind.i64.wrap (q+1+1)=q+2:=by rw [IntKind.wrap_i64];omega
    have e11:q+1+1=q+2:=by omega
    have dneg:decide (q+2+3*(p.l.length:Int)<0)=false:=decide_eq_false (by omega)
    clear hAl hpm hmk hrow hcl hex hex2
    go_wp2_with fail
    refine cm.mono ?_
    rintro e w3 ⟨rfl,b3⟩
    have B3:Hid (Below w.heap.size w w3):=HB.out.trans (b3.mono HB.out.size)
    clear b3 cm
    go_wp2_with fail
    go_roundw
    case rel=>exact ⟨A ++ [p],B',q+2+3*(p.l.length:Int),j+1,by omega,by go_num,by first|rfl|(congr 1;omega),by omega,QB.out,⟨NX.out.2.1,NX.out.2.2,NX.out.1.symm⟩,B3.out⟩
    case measure=>simp [intOf];omega
   ·have e:j=n:=by omega
    have hB:B=[]:=by
     have h1:=HA.out.1
     have h2:=HA.out.2.1
     have h3:=HN.out
     rw [h1,List.length_append] at h3
     exact List.eq_nil_of_length_eq_zero (by omega)
    subst hB
    have hA:ps=A:=by rw [HA.out.1,List.append_nil]
    have HQ:Hid (q=nPs k ps):=(show _=_ from by rw [HA.out.2.2,hA])
    clear HA hA
    subst e
    go_wp2
    go_ret
    exact ⟨by rw [<- HQ.out];rfl,HB.out⟩
end Rmkb
end Go.Proofs.YtepafieckjnkdaaGreatDoor
