import Derived.Test.YtickfkphhngagaaGreatDoorP20
set_option linter.all false
set_option maxRecDepth 20000
set_option maxHeartbeats 8000000
open Go.ChangeShapes Go.WideShapes Go.ChangeAt Go.RowKit
open Go.Proofs.Tryz
namespace Go.Proofs.YtickfkphhngagaaGreatDoor
namespace Rowo
open Go.Deep
open Rown Rliq Rlip
theorem flat_at {α:Type} (f:α->List Value) (n:Nat) (hf:∀ x,(f x).length=n):∀ (L:List α) (i:Nat) (h:i<L.length) (j:Nat),j<n->(L.flatMap f)[i*n+j]? = (f L[i])[j]?
 | [],i,h,_,_=>absurd h (Nat.not_lt_zero _)
 | x :: L,0,_,j,hj=>by
  rw [List.flatMap_cons,Nat.zero_mul,Nat.zero_add,List.getElem?_append_left (by rw [hf];exact hj)];rfl
 | x :: L,i+1,h,j,hj=>by
  rw [List.flatMap_cons,List.getElem?_append_right (by rw [hf,Nat.succ_mul];omega),hf]
  have e:(i+1)*n+j-n=i*n+j:=by rw [Nat.succ_mul];omega
  rw [e,flat_at f n hf L i (by simpa using h) j hj]
  rfl
theorem flat_len {α:Type} (f:α->List Value) (n:Nat) (hf:∀ x,(f x).length=n):∀ (L:List α),(L.flatMap f).length=L.length*n
 | []=>by simp
 | x :: L=>by rw [List.flatMap_cons,List.length_append,flat_len f n hf L,hf,List.length_cons,Nat.succ_mul];omega
theorem row_cells {w:World} {base:Nat} {T:TypeId} {size n:Nat} {xs:List Value} {g off cap:Nat} (h:w.ownsRow base T size (.slice (some ⟨g,off,none⟩) n cap) n xs):off=0/\base<=g/\g<w.heap.size/\∀ (j:Nat) (u:Value),xs[j]? = some u->w.cell? ⟨g,j,none⟩=some u:=by
 have hl:=h.lt g rfl
 have hc:=h.cells (g:=g) rfl
 rcases h.2 with ⟨hv,_⟩|⟨g',c,cur,hv,_⟩
 ·cases hv
 ·cases hv
  refine ⟨rfl,hl.1,hl.2,fun j u hu=>?_⟩
  have:=hc j u hu
  have hadd:(⟨g,0,none⟩ : Addr).add j=⟨g,j,none⟩:=by unfold Addr.add;split <;> simp_all
  rwa [hadd] at this
theorem ex_slice {w:World} {base:Nat} {e:Value} {L:List Stepx.Node} (h:ExOwn w base e L):∃ a c,e=.slice a L.length c/\Nodw.Row base w a L:=by
 obtain ⟨a,c,rfl⟩:=own_slice h.1
 refine ⟨a,c,rfl,Nodm.nodes_own h.1 h.2,?_⟩
 rcases h.1.2 with ⟨hv,hn⟩|⟨g,cap,cur,hv,hb,_⟩
 ·exact .inl (List.eq_nil_of_length_eq_zero hn)
 ·cases hv
  exact .inr ⟨_,rfl,hb⟩
theorem pat_row {w:World} {base:Nat} {a:Option Addr} {c:Nat} {P:List Pd} (h:w.ownsRow base 80 3 (.slice a P.length c) P.length (P.flatMap Pd.cells)) (hx:∀ p ∈ P,ExOwn w base p.e p.l) (hl:∀ p ∈ P,p.l.length<=801):Patr.Row base w a (P.map Pd.x):=by
 by_cases h0:P=[]
 ·exact .inl (by rw [h0];rfl)
 match a,h with
 | none,h =>
  rcases h.2 with ⟨_,hn⟩|⟨g,cap,cur,hv,_⟩
  ·exact absurd (List.eq_nil_of_length_eq_zero hn) h0
  ·cases hv
 | some ⟨g,off,sp⟩,h =>
  have hsp:sp=none:=by
   rcases h.2 with ⟨hv,_⟩|⟨g',cap,cur,hv,_⟩
   ·cases hv
   ·cases hv;rfl
  subst hsp
  obtain ⟨rfl,hb,hlt,hc⟩:=row_cells h
  refine .inr ⟨g,0,rfl,hb,hlt,fun i hi=>?_⟩
  have hi':i<P.length:=by simpa using hi
  have hmem:P[i] ∈ P:=List.getElem_mem hi'
  obtain ⟨ea,ec,he,hr⟩:=ex_slice (hx _ hmem)
  have f:=flat_at Pd.cells 3 (fun _=>rfl) P i hi'
  rw [List.getElem_map,Nat.zero_add]
  refine ⟨ea,ec,hc _ _ ((f 0 (by omega)).trans rfl),hc _ _ ((f 1 (by omega)).trans rfl),hc _ _ ((f 2 (by omega)).trans (by show some P[i].e=_;rw [he];rfl)),hr,?_⟩
  have:=hl _ hmem
  show P[i].l.length<=_
  unfold maxLen;omega
theorem sec_row {w:World} {base:Nat} {a:Option Addr} {c:Nat} {ss:List Sd} {yv av:Value} {ys:List Osyr.X} {aa:List Ad} (h:w.ownsRow base 38 6 (.slice a ss.length c) ss.length (ss.flatMap Sd.cells)) (hr:Rw w base ss yv ys av aa) {m:Nat} (hm:m<=1048576) (hs:Sm m (objX ss ys aa)):Secr.Row base w a (ss.map Sd.x):=by
 by_cases h0:ss=[]
 ·exact .inl (by rw [h0];rfl)
 match a,h with
 | none,h =>
  rcases h.2 with ⟨_,hn⟩|⟨g,cap,cur,hv,_⟩
  ·exact absurd (List.eq_nil_of_length_eq_zero hn) h0
  ·cases hv
 | some ⟨g,off,sp⟩,h =>
  have hsp:sp=none:=by
   rcases h.2 with ⟨hv,_⟩|⟨g',cap,cur,hv,_⟩
   ·cases hv
   ·cases hv;rfl
  subst hsp
  obtain ⟨rfl,hb,hlt,hc⟩:=row_cells h
  refine .inr ⟨g,0,rfl,hb,hlt,fun i hi=>?_⟩
  have hi':i<ss.length:=by simpa using hi
  have hmem:ss[i] ∈ ss:=List.getElem_mem hi'
  have hmx:ss[i].x ∈ (objX ss ys aa).f0:=List.mem_map_of_mem hmem
  obtain ⟨z1,z2,z3⟩:=hs.sx _ hmx
  obtain ⟨pa,pc,hpv⟩:=own_slice (hr.pat _ hmem)
  have hrow:=hr.pat _ hmem
  rw [hpv] at hrow
  have hR:=pat_row hrow (hr.pex _ hmem) (fun p hp=>(hs.px _ hmx p.x (List.mem_map_of_mem hp)).1)
  have f:=flat_at Sd.cells 6 (fun _=>rfl) ss i hi'
  rw [List.getElem_map,Nat.zero_add]
  refine ⟨pa,pc,hc _ _ ((f 0 (by omega)).trans rfl),hc _ _ ((f 1 (by omega)).trans rfl),hc _ _ ((f 2 (by omega)).trans rfl),hc _ _ ((f 3 (by omega)).trans rfl),hc _ _ ((f 4 (by omega)).trans rfl),hc _ _ ((f 5 (by omega)).trans (by show some ss[i].pv=_;rw [hpv];show _=some (Value.slice pa (ss[i].ps.map Pd.x).length pc);rw [List.length_map])),hR,?_,?_,?_⟩
  ·unfold maxLen;omega
  ·unfold maxLen;omega
  ·unfold maxLen;omega
theorem sym_row {w:World} {base:Nat} {a:Option Addr} {c:Nat} {ys:List Osyr.X} (h:w.ownsRow base 63 4 (.slice a ys.length c) ys.length (ys.flatMap yCells)) (hz:∀ y ∈ ys,y.f0.size<=1048576):Osyr.Row base w a ys:=by
 by_cases h0:ys=[]
 ·exact .inl h0
 match a,h with
 | none,h =>
  rcases h.2 with ⟨_,hn⟩|⟨g,cap,cur,hv,_⟩
  ·exact absurd (List.eq_nil_of_length_eq_zero hn) h0
  ·cases hv
 | some ⟨g,off,sp⟩,h =>
  have hsp:sp=none:=by
   rcases h.2 with ⟨hv,_⟩|⟨g',cap,cur,hv,_⟩
   ·cases hv
   ·cases hv;rfl
  subst hsp
  obtain ⟨rfl,hb,hlt,hc⟩:=row_cells h
  refine .inr ⟨g,0,rfl,hb,hlt,fun i hi=>?_⟩
  have f:=flat_at yCells 4 (fun _=>rfl) ys i hi
  have:=hz _ (List.getElem_mem hi)
  rw [Nat.zero_add]
  refine ⟨hc _ _ ((f 0 (by omega)).trans rfl),hc _ _ ((f 1 (by omega)).trans rfl),hc _ _ ((f 2 (by omega)).trans rfl),hc _ _ ((f 3 (by omega)).trans rfl),?_⟩
  show ys[i].f0.size<=_
  unfold maxLen;omega
theorem ass_row {w:World} {base:Nat} {a:Option Addr} {c:Nat} {aa:List Ad} (h:w.ownsRow base 67 1 (.slice a aa.length c) aa.length (aa.map (·.e))) (hx:∀ x ∈ aa,ExOwn w base x.e x.l) (hl:∀ x ∈ aa,x.l.length<=801):Assr.Row base w a (aa.map Ad.x):=by
 by_cases h0:aa=[]
 ·exact .inl (by rw [h0];rfl)
 match a,h with
 | none,h =>
  rcases h.2 with ⟨_,hn⟩|⟨g,cap,cur,hv,_⟩
  ·exact absurd (List.eq_nil_of_length_eq_zero hn) h0
  ·cases hv
 | some ⟨g,off,sp⟩,h =>
  have hsp:sp=none:=by
   rcases h.2 with ⟨hv,_⟩|⟨g',cap,cur,hv,_⟩
   ·cases hv
   ·cases hv;rfl
  subst hsp
  obtain ⟨rfl,hb,hlt,hc⟩:=row_cells h
  refine .inr ⟨g,0,rfl,hb,hlt,fun i hi=>?_⟩
  have hi':i<aa.length:=by simpa using hi
  have hmem:aa[i] ∈ aa:=List.getElem_mem hi'
  obtain ⟨ea,ec,he,hr⟩:=ex_slice (hx _ hmem)
  rw [List.getElem_map,Nat.zero_add]
  refine ⟨ea,ec,hc i _ (by rw [List.getElem?_map,List.getElem?_eq_getElem hi'];show some aa[i].e=_;rw [he];rfl),hr,?_⟩
  have:=hl _ hmem
  show aa[i].l.length<=_
  unfold maxLen;omega
theorem has_of {w:World} {base:Nat} {ss:List Sd} {ys:List Osyr.X} {aa:List Ad} {a0 a1 a2:Option Addr} {c0 c1 c2:Nat} (h:Ob w base (.slice a0 ss.length c0) ss (.slice a1 ys.length c1) ys (.slice a2 aa.length c2) aa) {m:Nat} (hm:m<=1048576) (hs:Sm m (objX ss ys aa)):Objr.Has base w (objX ss ys aa) a0 a1 a2:=by
 have z0:=hs.s
 have z1:=hs.y
 have z2:=hs.a
 refine ⟨sec_row h.sec h.rw hm hs,by unfold maxLen;omega,sym_row h.rw.sym hs.yx,by unfold maxLen;omega,ass_row h.rw.ass h.rw.aex (fun x hx=>(hs.ax _ (List.mem_map_of_mem hx)).1),by unfold maxLen;omega⟩
theorem small_of {x:Objr.X} {m:Nat} (hm:m<=1048576) (hs:Sm m x):Objr.SmallX x:=by
 have z0:=hs.s
 have z1:=hs.y
 have z2:=hs.a
 refine ⟨⟨by omega,fun i hi=>?_⟩,⟨by omega,fun i hi=>hs.yx _ (List.getElem_mem hi)⟩,⟨by omega,fun i hi=>?_⟩⟩
 ·have hmem:=List.getElem_mem hi
  obtain ⟨q1,q2,q3⟩:=hs.sx _ hmem
  refine ⟨⟨by omega,fun j hj=>?_⟩,q1,q2⟩
  have:=(hs.px _ hmem _ (List.getElem_mem hj)).1
  show _<=1048576
  omega
 ·have:=(hs.ax _ (List.getElem_mem hi)).1
  show _<=1048576
  omega
theorem Sm.le {m m':Nat} {x:Objr.X} (h:Sm m x) (hle:m<=m'):Sm m' x :=
 ⟨by have:=h.s;omega,by have:=h.y;omega,by have:=h.a;omega,fun s hs=>⟨(h.sx s hs).1,(h.sx s hs).2.1,by have:=(h.sx s hs).2.2;omega⟩,h.px,h.yx,h.ax⟩
theorem sm_addS {m:Nat} {x:Objr.X} (h:Sm m x) (s:Secr.X) (h0:s.f0.size<=1048576) (h4:s.f4.size<=1048576) (h5:s.f5=[]):Sm (m+1) ⟨x.f0 ++ [s],x.f1,x.f2⟩:=by
 have h':=Sm.le h (Nat.le_succ m)
 refine ⟨by have:=h.s;simp;omega,h'.y,h'.a,fun t ht=>?_,fun t ht=>?_,h'.yx,h'.ax⟩
 ·rcases List.mem_append.1 ht with ht|ht
  ·exact h'.sx t ht
  ·rw [List.mem_singleton.1 ht,h5];exact ⟨h0,h4,Nat.zero_le _⟩
 ·rcases List.mem_append.1 ht with ht|ht
  ·exact h'.px t ht
  ·rw [List.mem_singleton.1 ht,h5];intro p hp;cases hp
theorem sm_addP {m:Nat} {x:Objr.X} (h:Sm m x) (p:Patr.X) (hp:p.f2.length<=801/\∀ n ∈ p.f2,n.2.2.size<=1048576):Sm (m+1) ⟨addP x.f0 p,x.f1,x.f2⟩:=by
 have h':=Sm.le h (Nat.le_succ m)
 rcases List.eq_nil_or_concat x.f0 with e|⟨S,s,e⟩
 ·rw [e];refine ⟨Nat.zero_le _,h'.y,h'.a,fun t ht=>?_,fun t ht=>?_,h'.yx,h'.ax⟩ <;> cases ht
 ·rw [List.concat_eq_append] at e
  have hl:=h.s
  have hsx:=h.sx
  have hpx:=h.px
  rw [e] at hl hsx hpx
  rw [e,addP_on]
  have hin:s ∈ S ++ [s]:=by simp
  refine ⟨by simp at hl |-;omega,h'.y,h'.a,fun t ht=>?_,fun t ht=>?_,h'.yx,h'.ax⟩
  ·rcases List.mem_append.1 ht with ht|ht
   ·obtain ⟨q1,q2,q3⟩:=hsx t (List.mem_append_left _ ht)
    exact ⟨q1,q2,by omega⟩
   ·rw [List.mem_singleton.1 ht]
    obtain ⟨q1,q2,q3⟩:=hsx s hin
    exact ⟨q1,q2,by simp;omega⟩
  ·rcases List.mem_append.1 ht with ht|ht
   ·exact hpx t (List.mem_append_left _ ht)
   ·rw [List.mem_singleton.1 ht]
    intro q hq
    rcases List.mem_append.1 hq with hq|hq
    ·exact hpx s hin q hq
    ·rw [List.mem_singleton.1 hq];exact hp
theorem sm_addY {m:Nat} {x:Objr.X} (h:Sm m x) (y:Osyr.X) (hy:y.f0.size<=1048576):Sm (m+1) ⟨x.f0,x.f1 ++ [y],x.f2⟩:=by
 have h':=Sm.le h (Nat.le_succ m)
 refine ⟨h'.s,by have:=h.y;simp;omega,h'.a,h'.sx,h'.px,fun z hz=>?_,h'.ax⟩
 rcases List.mem_append.1 hz with hz|hz
 ·exact h'.yx z hz
 ·rw [List.mem_singleton.1 hz];exact hy
theorem sm_addA {m:Nat} {x:Objr.X} (h:Sm m x) (a:Assr.X) (ha:a.f0.length<=801/\∀ n ∈ a.f0,n.2.2.size<=1048576):Sm (m+1) ⟨x.f0,x.f1,x.f2 ++ [a]⟩:=by
 have h':=Sm.le h (Nat.le_succ m)
 refine ⟨h'.s,h'.y,by have:=h.a;simp;omega,h'.sx,h'.px,h'.yx,fun z hz=>?_⟩
 rcases List.mem_append.1 hz with hz|hz
 ·exact h'.ax z hz
 ·rw [List.mem_singleton.1 hz];exact ha
end Rowo
namespace Rlsa
open Go.Deep
open Rown Rowo Rliq Rlip
open Rwor (wordsL)
open Rint (intS)
open Rbyt (byO)
open Txts (Texts)
open Otxa (after)
theorem words_texts {w:World} {base n:Nat} {L:List ByteArray} {g off cap:Nat} (h:w.ownsRow base 9 1 (.slice (some ⟨g,off,none⟩) n cap) L.length (L.map Value.string)):off=0/\n=L.length/\base<=g/\g<w.heap.size/\∀ (i:Nat) (hi:i<L.length),w.cell? ⟨g,i,none⟩=some (.string L[i]):=by
 obtain ⟨po,c,e⟩:=own_slice h
 cases e
 obtain ⟨h0,h1,h2,h3⟩:=row_cells h
 exact ⟨h0,rfl,h1,h2,fun i hi=>h3 i _ (by simp [hi])⟩
theorem gt_at {L:List ByteArray} {i:Nat} (hi:i<L.length):gt L i=L[i]:=by
 unfold gt;rw [List.getD_eq_getElem?_getD,List.getElem?_eq_getElem hi];rfl
theorem words_ne (r:Nat) (s:ByteArray):0<(wordsL r s).length:=by
 cases r with
 | zero=>unfold wordsL;exact Nat.zero_lt_one
 | succ r=>rw [Rwor.words_succ];split <;> simp
theorem words_le (r:Nat):∀ (s:ByteArray),∀ x ∈ wordsL r s,x.size<=s.size:=by
 induction r with
 | zero=>intro s x hx;unfold wordsL at hx;rw [List.mem_singleton.1 hx];exact Nat.le_refl _
 | succ r ih =>
  intro s x hx
  rw [Rwor.words_succ] at hx
  split at hx
  ·rcases List.mem_cons.1 hx with rfl|hx
   ·exact Cuts.cutA_le s 32
   ·have:=ih _ x hx;have:=Rwor.cutB_le s 32;omega
  ·rw [List.mem_singleton.1 hx];exact Nat.le_refl _
structure Wd (w:World) (g n cap:Nat) (L:List ByteArray):Prop where
 n:n=L.length
 lt:g<w.heap.size
 c:∀ (i:Nat),i<L.length->w.cell? ⟨g,i,none⟩=some (.string (gt L i))
theorem Wd.below {w w':World} {g n cap:Nat} {L:List ByteArray} (h:Wd w g n cap L) (hb:Below w.heap.size w w'):Wd w' g n cap L :=
 ⟨h.n,Nat.lt_of_lt_of_le h.lt hb.size,fun i hi=>(hb.cell (p:=⟨g,i,none⟩) h.lt).trans (h.c i hi)⟩
theorem Wd.texts {w:World} {g n cap:Nat} {L:List ByteArray} (h:Wd w g n cap L):Texts w (some ⟨g,0,none⟩) L :=
 .inr ⟨g,0,rfl,h.lt,fun i hi=>by rw [Nat.zero_add,h.c i hi,gt_at hi]⟩
theorem words_any (M:Nat) (hM:M<100) (h1:1<=M) (s:ByteArray) (w:World) (hs:s.size<=1048576) :
  Calls prog 58 #[.string s,.int .i64 (M:Int)] w fun e w'=>(∃ g n cap,e=.returned (.slice (some ⟨g,0,none⟩) n cap)/\Wd w' g n cap (wordsL M s))/\Below w.heap.size w w':=by
 refine (Rwor.specWords_any M hM h1 s w hs).mono ?_
 rintro e w' ⟨v,rfl,ho,hb⟩
 refine ⟨?_,hb⟩
 have hn:=words_ne M s
 obtain ⟨po,cap,rfl⟩:=own_slice ho
 match po,ho with
 | none,ho =>
  rcases ho.2 with ⟨_,h0⟩|⟨g,c,cur,hv,_⟩
  ·omega
  ·cases hv
 | some ⟨g,off,sp⟩,ho =>
  have hsp:sp=none:=by
   rcases ho.2 with ⟨hv,_⟩|⟨g',c,cur,hv,_⟩
   ·cases hv
   ·cases hv;rfl
  subst hsp
  obtain ⟨rfl,_,_,hlt,hc⟩:=words_texts ho
  exact ⟨g,_,cap,rfl,rfl,hlt,fun i hi=>by rw [hc i hi,gt_at hi]⟩
theorem int_any (g n cap:Nat) (L:List ByteArray) (k:Nat) (w:World) (h:Wd w g n cap L) (hl:L.length<=1048576) (hk:k<=100) (hz:∀ x ∈ L,x.size<=1048576) :
  Calls prog 59 #[.slice (some ⟨g,0,none⟩) n cap,.int .i64 (k:Int)] w fun e w'=>e=.returned (.tuple #[.int .i64 ((intS L k).getD 0),.bool (intS L k).isSome])/\Below w.heap.size w w':=by
 have:=Rint.l9Int_any (some ⟨g,0,none⟩) cap L k w h.texts hl hk hz
 rw [h.n];exact this
def Post (bs:Nat) (w:World) (X:Option Objr.X) (e:Ending) (w':World):Prop :=
 Below bs w w'/\w.heap.size<=w'.heap.size/\match X with
 | none=>∃ a0 n0 c0 a1 n1 c1 a2 n2 c2,e=.returned (.tuple #[.agg #[.slice a0 n0 c0,.slice a1 n1 c1,.slice a2 n2 c2],.bool false])
 | some x=>∃ ss ys aa a0 c0 a1 c1 a2 c2,objX ss ys aa=x/\Ob w' bs (.slice a0 ss.length c0) ss (.slice a1 ys.length c1) ys (.slice a2 aa.length c2) aa/\e=.returned (.tuple #[.agg #[.slice a0 ss.length c0,.slice a1 ys.length c1,.slice a2 aa.length c2],.bool true])
theorem lit (x:ByteArray) (l:List UInt8):(x.toList == l)=decide (x=wB l):=by
 rw [ByteArray.toList_eq]
 by_cases h:x=wB l
 ·rw [decide_eq_true h,h,wB_list];simp
 ·rw [decide_eq_false h]
  simp only [beq_eq_false_iff_ne,ne_eq]
  exact fun q=>h (bx (by rw [q,wB_list]))
structure St (w:World) (bs:Nat) (box:Array Value) (sv:Value) (ss:List Sd) (yv:Value) (ys:List Osyr.X) (av:Value) (aa:List Ad) (w1:World):Prop where
 b:Below bs w w1
 z:w.heap.size+1<w1.heap.size
 k1:w1.heap[w.heap.size]? = some (.cells box 26 (0,0))
 k2:w1.heap[w.heap.size+1]? = some (.cells #[.slice none 0 0,.slice none 0 0,.slice none 0 0] 26 (0,0))
 ob:Ob w1 bs sv ss yv ys av aa
theorem St.below {w w1 w2:World} {bs:Nat} {box:Array Value} {sv yv av:Value} {ss:List Sd} {ys:List Osyr.X} {aa:List Ad} (h:St w bs box sv ss yv ys av aa w1) (hbs:bs<=w.heap.size) (hb:Below w1.heap.size w1 w2):St w bs box sv ss yv ys av aa w2 :=
 ⟨h.b.trans (hb.mono (by have:=h.z;omega)),Nat.lt_of_lt_of_le h.z hb.size,(hb.block _ (by have:=h.z;omega)).trans h.k1,(hb.block _ h.z).trans h.k2,h.ob.below hb⟩
theorem st_zero {w:World} {bs:Nat} {sv yv av:Value} {ss:List Sd} {ys:List Osyr.X} {aa:List Ad} (hbs:bs<=w.heap.size) (h:Ob w bs sv ss yv ys av aa) :
  St w bs #[sv,yv,av] sv ss yv ys av aa ((w.alloc (.cells #[sv,yv,av] 26)).alloc (.cells #[.slice none 0 0,.slice none 0 0,.slice none 0 0] 26)):=by
 have b:Below w.heap.size w ((w.alloc (.cells #[sv,yv,av] 26)).alloc (.cells #[.slice none 0 0,.slice none 0 0,.slice none 0 0] 26)):=(zAl _ _).alloc (by simp) _
 refine ⟨b.mono hbs,by simp,?_,?_,h.below b⟩
 ·rw [Below.heap_alloc _ _ _ (by simp)];exact heap_alloc_last w _
 ·have h2:=heap_alloc_last (w.alloc (.cells #[sv,yv,av] 26)) (.cells #[.slice none 0 0,.slice none 0 0,.slice none 0 0] 26)
  simpa using h2
theorem Ob.cell {w:World} {base:Nat} {sv:Value} {ss:List Sd} {yv av:Value} {ys:List Osyr.X} {aa:List Ad} {T:TypeId} {g i:Nat} {cur:Array Value} {m:Nat × Nat} {u:Value} (h:Ob w base sv ss yv ys av aa) (ho:w.heap[g]? = some (.cells cur T m))
  (h0:38 ≠ T) (h1:80 ≠ T) (h2:63 ≠ T) (h3:67 ≠ T) (h4:122 ≠ T):Ob (w.setCell ⟨g,i,none⟩ u) base sv ss yv ys av aa :=
 ⟨h.sec.kept (Nodm.grown_set _ _ _ _) (.inr (own_ne_block h.sec ho h0)),h.rw.cell ho h1 h2 h3 h4⟩
theorem St.store {w w5 w6:World} {bs i:Nat} {box:Array Value} {sv yv av sv' yv' av' u:Value} {ss ss':List Sd} {ys ys':List Osyr.X} {aa aa':List Ad} {row:Option Nat} (h:St w bs box sv ss yv ys av aa w5) (hbs:bs<=w.heap.size) (hg:w5.grownBy w6 row)
  (hr:∀ r,row=some r->bs<=r/\r ≠ w.heap.size/\r ≠ w.heap.size+1) (ho:Ob w6 bs sv' ss' yv' ys' av' aa'):St w bs (box.setIfInBounds i u) sv' ss' yv' ys' av' aa' (w6.setCell ⟨w.heap.size,i,none⟩ u):=by
 have z5:=h.z
 have e1:w6.heap[w.heap.size]? = w5.heap[w.heap.size]?:=hg.block _ (by omega) (fun e=>(hr _ e.symm).2.1 rfl)
 have e2:w6.heap[w.heap.size+1]? = w5.heap[w.heap.size+1]?:=hg.block _ h.z (fun e=>(hr _ e.symm).2.2 rfl)
 have k1:=e1.trans h.k1
 have k2:=e2.trans h.k2
 refine ⟨?_,by rw [World.size_setCell];exact Nat.lt_of_lt_of_le h.z hg.size,heap_setCell_same _ _ _ _ _ _ k1,?_,Ob.cell ho k1 (by decide) (by decide) (by decide) (by decide) (by decide)⟩
 ·refine (h.b.grown hg (by omega) (fun r hr'=>(hr r hr').1)).setCell (p:=⟨w.heap.size,i,none⟩) hbs _
 ·rw [Below.heap_setCell _ _ _ _ (by simp)];exact k2
theorem St.row {w w5:World} {bs:Nat} {box:Array Value} {sv yv av:Value} {ss:List Sd} {ys:List Osyr.X} {aa:List Ad} {T:TypeId} {size n:Nat} {v:Value} {xs:List Value} (h:St w bs box sv ss yv ys av aa w5) (ho:w5.ownsRow bs T size v n xs) (hne:T ≠ 26):∀ r,v.ownBlock=some r->bs<=r/\r ≠ w.heap.size/\r ≠ w.heap.size+1:=fun r hr =>
 ⟨(ho.lt r hr).1,fun e=>own_ne_block ho h.k1 hne (by rw [hr,e]),fun e=>own_ne_block ho h.k2 hne (by rw [hr,e])⟩
theorem Ob.addS {w w':World} {base:Nat} {sv:Value} {ss:List Sd} {yv av:Value} {ys:List Osyr.X} {aa:List Ad} (h:Ob w base sv ss yv ys av aa) (nm d:ByteArray) (k b a:Int) (v':Value)
  (ho:w'.ownsRow base 38 6 v' (ss.length+1) (ss.flatMap Sd.cells ++ [.string nm,.int .i64 k,.int .i64 b,.int .i64 a,.string d,.slice none 0 0])) (hg:w.grownBy w' sv.ownBlock):Ob w' base v' (ss ++ [⟨nm,k,b,a,d,.slice none 0 0,[]⟩]) yv ys av aa:=by
 refine ⟨?_,(h.rw.type h.sec hg (by decide) (by decide) (by decide) (by decide)).addS nm d k b a⟩
 rw [cells_snoc,List.length_append]
 exact ho
theorem Ob.addY {w w':World} {base:Nat} {sv:Value} {ss:List Sd} {yv av:Value} {ys:List Osyr.X} {aa:List Ad} (h:Ob w base sv ss yv ys av aa) (y:Osyr.X) (v':Value)
  (ho:w'.ownsRow base 63 4 v' (ys.length+1) (ys.flatMap yCells ++ yCells y)) (hg:w.grownBy w' yv.ownBlock):Ob w' base sv ss v' (ys ++ [y]) av aa :=
 ⟨h.sec.kept hg (own_ne h.sec h.rw.sym (by decide)),h.rw.addY y v' ho hg⟩
theorem Ob.addA {w w':World} {base:Nat} {sv:Value} {ss:List Sd} {yv av:Value} {ys:List Osyr.X} {aa:List Ad} (h:Ob w base sv ss yv ys av aa) (x:Ad) (v':Value) (hx:ExOwn w base x.e x.l)
  (hap:∀ u ∈ ss.flatMap (fun s=>s.ps.map (·.e)) ++ aa.map (·.e),Apart u x.e)
  (ho:w'.ownsRow base 67 1 v' (aa.length+1) (aa.map (·.e) ++ [x.e])) (hg:w.grownBy w' av.ownBlock):Ob w' base sv ss yv ys v' (aa ++ [x]) :=
 ⟨h.sec.kept hg (own_ne h.sec h.rw.ass (by decide)),h.rw.addA x v' hx hap ho hg⟩
theorem set6 (P:List Value) (k:Nat) (h:P.length=k) (o0 o1 o2 o3 o4 o5 v0 v1 v2 v3 v4 v5:Value):((((((P ++ [o0,o1,o2,o3,o4,o5]).set k v0).set (k+1) v1).set (k+1+1) v2).set (k+1+1+1) v3).set (k+1+1+1+1) v4).set (k+1+1+1+1+1) v5=P ++ [v0,v1,v2,v3,v4,v5]:=by
 rw [List.set_append_right _ _ (by omega),List.set_append_right _ _ (by omega),List.set_append_right _ _ (by omega),List.set_append_right _ _ (by omega),List.set_append_right _ _ (by omega),List.set_append_right _ _ (by omega),h]
 rw [show k-k=0 by omega,show k+1-k=1 by omega,show k+1+1-k=2 by omega,show k+1+1+1-k=3 by omega,show k+1+1+1+1-k=4 by omega,show k+1+1+1+1+1-k=5 by omega]
 rfl
theorem put6 {w:World} {base g n cap:Nat} {T:TypeId} {P:List Value} {o v:Sd} (h:w.ownsRow base T 6 (.slice (some ⟨g,0,none⟩) (n+1) cap) (n+1) (P ++ o.cells)) (hP:P.length=n*6) :
  (w.setCells g (n*6) v.cells).ownsRow base T 6 (.slice (some ⟨g,0,none⟩) (n+1) cap) (n+1) (P ++ v.cells)/\w.grownBy (w.setCells g (n*6) v.cells) (some g):=by
 have e:=set6 P (n*6) hP (.string o.nm) (.int .i64 o.k) (.int .i64 o.b) (.int .i64 o.a) (.string o.d) o.pv (.string v.nm) (.int .i64 v.k) (.int .i64 v.b) (.int .i64 v.a) (.string v.d) v.pv
 have h1:=((((((h.stored (n*6) (.string v.nm)).1.stored (n*6+1) (.int .i64 v.k)).1.stored (n*6+1+1) (.int .i64 v.b)).1.stored (n*6+1+1+1) (.int .i64 v.a)).1.stored (n*6+1+1+1+1) (.string v.d)).1.stored (n*6+1+1+1+1+1) v.pv).1
 have e2:P ++ v.cells=P ++ [.string v.nm,.int .i64 v.k,.int .i64 v.b,.int .i64 v.a,.string v.d,v.pv]:=rfl
 rw [e2,<- e]
 refine ⟨h1,?_⟩
 exact ((((((World.grownBy.refl w (some g)).trans (Nodm.grown_set _ _ _ _)).trans (Nodm.grown_set _ _ _ _)).trans (Nodm.grown_set _ _ _ _)).trans (Nodm.grown_set _ _ _ _)).trans (Nodm.grown_set _ _ _ _)).trans (Nodm.grown_set _ _ _ _)
theorem post_yes {w w7:World} {bs:Nat} {ss:List Sd} {ys:List Osyr.X} {aa:List Ad} {a0 a1 a2:Option Addr} {nS nY nA c0 c1 c2:Nat} {X:Option Objr.X} (h:St w bs #[.slice a0 nS c0,.slice a1 nY c1,.slice a2 nA c2] (.slice a0 nS c0) ss (.slice a1 nY c1) ys (.slice a2 nA c2) aa w7) (hbs:bs<=w.heap.size)
  (h0:nS=ss.length) (h1:nY=ys.length) (h2:nA=aa.length) (hX:X=some (objX ss ys aa)) :
  Post bs w X (.returned (.tuple #[.agg #[.slice a0 nS c0,.slice a1 nY c1,.slice a2 nA c2],.bool true])) (w7.setRow (w.heap.size+1) #[.slice a0 nS c0,.slice a1 nY c1,.slice a2 nA c2]):=by
 subst hX h0 h1 h2
 have hg:w7.grownBy (w7.setRow (w.heap.size+1) #[.slice a0 ss.length c0,.slice a1 ys.length c1,.slice a2 aa.length c2]) (some (w.heap.size+1)):=⟨rfl,rfl,rfl,by simp,fun k _ hk=>setRow_other _ _ _ _ (fun e=>hk (by rw [e]))⟩
 refine ⟨below_setRow h.b (by omega) _,by rw [setRow_size];have:=h.z;omega,ss,ys,aa,a0,c0,a1,c1,a2,c2,rfl,⟨h.ob.sec.kept hg (.inr (own_ne_block h.ob.sec h.k2 (by decide))),h.ob.rw.other hg fun e size v n xs he hv=>.inr ?_⟩,rfl⟩
 rcases he with rfl|rfl|rfl|rfl <;> exact own_ne_block hv h.k2 (by decide)
theorem post_no {w w7:World} {bs:Nat} {box:Array Value} {sv yv av:Value} {ss:List Sd} {ys:List Osyr.X} {aa:List Ad} {a0 a1 a2:Option Addr} {n0 n1 n2 c0 c1 c2:Nat} {cs:Array Value} {X:Option Objr.X} (h:St w bs box sv ss yv ys av aa w7) (hbs:bs<=w.heap.size) (hX:X=none) :
  Post bs w X (.returned (.tuple #[.agg #[.slice a0 n0 c0,.slice a1 n1 c1,.slice a2 n2 c2],.bool false])) (w7.setRow (w.heap.size+1) cs):=by
 subst hX
 exact ⟨below_setRow h.b (by omega) _,by rw [setRow_size];have:=h.z;omega,a0,n0,c0,a1,n1,c1,a2,n2,c2,rfl⟩
theorem results_two {P:Program} {fn:Func} {p q:Tmp} {ty:TypeId} (h:fn.results=#[.cell p ty,.tmp q]) (tmps:Array Value) (w:World) (g:Nat) (t:TypeId) (cs:Array Value) (fr:Nat × Nat) (d:TypeDesc) (v:Value)
  (hp:tmps.getD p undef=.pointer (some ⟨g,0,none⟩)) (hq:tmps.getD q undef=v) (hg:w.heap[g]? = some (.cells cs t fr))
  (hu:P.underlying ty=some d) (hd:(match d with|.struct _|.array _ _=>true|_=>false)=true) (hi:(P.info? ty).map (·.size)=some cs.size) :
  (results fn tmps).run P w=.ok (.tuple #[.agg cs,v]) w:=by
 have hp':tmps[p]?.getD undef=.pointer (some ⟨g,0,none⟩):=by simpa using hp
 have hq':tmps[q]?.getD undef=v:=by simpa using hq
 simp [results,h,hp',hq',asAddr,run_loadVar_row w g t ty cs fr d hg hu hd hi]
theorem opt_yes {o:Option Int} {i:Int} (h:o.isSome=true) (hi:o.getD 0=i):o=some i:=by
 cases o with
 | none=>cases h
 | some x=>rw [<- hi];rfl
theorem opt_no {α:Type} {o:Option α} (h:o.isSome=false):o=none:=by
 cases o with
 | none=>rfl
 | some x=>cases h
theorem newN (W:World) (cs:List Value) (t:TypeId):∀ j u,cs[j]? = some u->(W.alloc (.cells cs.toArray t)).drew.cell? ((⟨W.heap.size,0,none⟩ : Addr).add j)=some u:=fun j u hu=>by
 have e:(⟨W.heap.size,0,none⟩ : Addr).add j=⟨W.heap.size,j,none⟩:=by unfold Addr.add;split <;> simp_all
 rw [e]
 show World.cell? (W.alloc _) ⟨W.heap.size,j,none⟩=_
 rw [World.cell?_alloc_new]
 simpa using hu
theorem newP (W:World) (cs:List Value) (t:TypeId):∀ j u,cs[j]? = some u->(W.alloc (.cells cs.toArray t)).cell? ((⟨W.heap.size,0,none⟩ : Addr).add j)=some u:=fun j u hu=>newN W cs t j u hu
theorem infoS:(prog.info? 38).map (fun i=>(i.zero,i.size,i.bytes))=some (some (.agg #[.string ⟨#[]⟩,.int .i64 0,.int .i64 0,.int .i64 0,.string ⟨#[]⟩,.slice none 0 0]),6,80):=by kernel_rfl
theorem infoP:(prog.info? 80).map (fun i=>(i.zero,i.size,i.bytes))=some (some (.agg #[.int .i64 0,.int .i64 0,.slice none 0 0]),3,40):=by kernel_rfl
theorem infoYs:(prog.info? 63).map (fun i=>(i.zero,i.size,i.bytes))=some (some (.agg #[.string ⟨#[]⟩,.int .i64 0,.int .i64 0,.bool false]),4,40):=by kernel_rfl
theorem infoE:(prog.info? 67).map (fun i=>(i.zero,i.size,i.bytes))=some (some (.slice none 0 0),1,24):=by kernel_rfl
theorem St.addP {w w7 w8:World} {bs g0 k c0 g' c':Nat} {S:List Sd} {s0:Sd} {yv av:Value} {ys:List Osyr.X} {aa:List Ad} {lit:Obj}
  (h:St w bs #[.slice (some ⟨g0,0,none⟩) (k+1) c0,yv,av] (.slice (some ⟨g0,0,none⟩) (k+1) c0) (S ++ [s0]) yv ys av aa w7) (hbs:bs<=w.heap.size) (hk:S.length=k) (p:Pd) (hx:ExOwn w7 bs p.e p.l)
  (hap:∀ u ∈ (S ++ [s0]).flatMap (fun s=>s.ps.map (·.e)) ++ aa.map (·.e),Apart u p.e/\Apart p.e u)
  (ho:w8.ownsRow bs 80 3 (.slice (some ⟨g',0,none⟩) (s0.ps.length+1) c') (s0.ps.length+1) (s0.ps.flatMap Pd.cells ++ p.cells))
  (hg:((w7.alloc (.cells s0.cells.toArray 38)).alloc lit).grownBy w8 s0.pv.ownBlock)
  (hv:s0.pv.ownBlock=some g' \/ g'=((w7.alloc (.cells s0.cells.toArray 38)).alloc lit).heap.size) :
  w8.heap[w7.heap.size]? = some (.cells s0.cells.toArray 38 (0,0)) /\
  w8.heap[w.heap.size]? = some (.cells #[.slice (some ⟨g0,0,none⟩) (k+1) c0,yv,av] 26 (0,0))/\w.heap.size<w7.heap.size /\
  (w8.setCell ⟨w7.heap.size,5,none⟩ (.slice (some ⟨g',0,none⟩) (s0.ps.length+1) c')).there g0 (k*6) 6 /\
  St w bs #[.slice (some ⟨g0,0,none⟩) (k+1) c0,yv,av] (.slice (some ⟨g0,0,none⟩) (k+1) c0) (S ++ [⟨s0.nm,s0.k,s0.b,s0.a,s0.d,.slice (some ⟨g',0,none⟩) (s0.ps.length+1) c',s0.ps ++ [p]⟩]) yv ys av aa
   ((w8.setCell ⟨w7.heap.size,5,none⟩ (.slice (some ⟨g',0,none⟩) (s0.ps.length+1) c')).setCells g0 (k*6) [.string s0.nm,.int .i64 s0.k,.int .i64 s0.b,.int .i64 s0.a,.string s0.d,.slice (some ⟨g',0,none⟩) (s0.ps.length+1) c']):=by
 obtain ⟨W,hW⟩ : ∃ W,W=(w7.alloc (.cells s0.cells.toArray 38)).alloc lit:=⟨_,rfl⟩
 have bW:Below w7.heap.size w7 W:=by rw [hW];exact (zAl _ _).alloc (by simp) _
 have zW:W.heap.size=w7.heap.size+2:=by rw [hW];simp
 have cW:W.heap[w7.heap.size]? = some (.cells s0.cells.toArray 38 (0,0)):=by rw [hW,Below.heap_alloc _ _ _ (by simp)];exact heap_alloc_last w7 _
 rw [<- hW] at hg hv
 clear hW
 have z7:=h.z
 have hS:=h.below hbs bW
 have hpat:=hS.ob.rw.pat s0 (by simp)
 have hr:=hS.row hpat (by decide)
 have ne:∀ {T:TypeId} {size n:Nat} {v:Value} {xs:List Value},W.ownsRow bs T size v n xs->T ≠ 80->w8.ownsRow bs T size v n xs:=fun {T size n v xs} q hne=>q.kept hg (own_ne q hpat hne)
 have hsec:=hS.ob.sec
 rw [cells_snoc,List.length_append,hk] at hsec
 have hsec:W.ownsRow bs 38 6 (.slice (some ⟨g0,0,none⟩) (k+1) c0) (k+1) (S.flatMap Sd.cells ++ s0.cells):=hsec
 have h7sec:=h.ob.sec
 have g0lt:g0<w7.heap.size:=(h7sec.lt g0 rfl).2
 have sec8:=ne hsec (by decide)
 have nC:s0.pv.ownBlock ≠ some w7.heap.size:=fun e=>by
  have:=((h.ob.rw.pat s0 (by simp)).lt _ e).2;omega
 have c8:w8.heap[w7.heap.size]? = some (.cells s0.cells.toArray 38 (0,0)):=(hg.block _ (by omega) (fun e=>nC e.symm)).trans cW
 have k8:=(hg.block w.heap.size (by omega) (fun e=>(hr _ e.symm).2.1 rfl)).trans hS.k1
 have k8':=(hg.block (w.heap.size+1) (by omega) (fun e=>(hr _ e.symm).2.2 rfl)).trans hS.k2
 have z8:=hg.size
 have rw8:=hS.ob.rw.addP p (.slice (some ⟨g',0,none⟩) (s0.ps.length+1) c') ⟨own_below hx.1 bW,hx.2⟩ hap ho hg (hv.elim (fun e=>.inl e.symm) (fun e=>.inr (by rw [<- e];rfl)))
 have g9:=Nodm.grown_set w8 w7.heap.size 5 (.slice (some ⟨g',0,none⟩) (s0.ps.length+1) c')
 have rw9:=rw8.cell (i:=5) (u:=.slice (some ⟨g',0,none⟩) (s0.ps.length+1) c') c8 (by decide) (by decide) (by decide) (by decide)
 have sec9:=sec8.kept g9 (.inr (by show some g0 ≠ some _;intro e;have:=Option.some.inj e;omega))
 have lP:(S.flatMap Sd.cells).length=k*6:=by rw [Rowo.flat_len Sd.cells 6 (fun _=>rfl),hk]
 obtain ⟨sec10,g10⟩:=put6 (v:=⟨s0.nm,s0.k,s0.b,s0.a,s0.d,.slice (some ⟨g',0,none⟩) (s0.ps.length+1) c',s0.ps ++ [p]⟩) sec9 lP
 have e9:∀ b,b ≠ w7.heap.size->(w8.setCell ⟨w7.heap.size,5,none⟩ (.slice (some ⟨g',0,none⟩) (s0.ps.length+1) c')).heap[b]? = w8.heap[b]?:=fun b hb=>Below.heap_setCell _ _ _ _ hb
 have n1:w.heap.size ≠ g0:=fun e=>own_ne_block h7sec h.k1 (by decide) (by rw [e];rfl)
 have n2:w.heap.size+1 ≠ g0:=fun e=>own_ne_block h7sec h.k2 (by decide) (by rw [e];rfl)
 refine ⟨c8,k8,by omega,fun j hj=>⟨?_,sec9.frozenAt _⟩,?_,?_,?_,?_,?_,rw9.type sec9 g10 (by decide) (by decide) (by decide) (by decide)⟩
 ·have hl:k*6+j<(k+1)*6:=by omega
  rw [sec9.cellAt (k*6+j) hl,List.getElem?_eq_getElem (by rw [sec9.1];exact hl)];rfl
 ·have b8:=hS.b.grown hg (by omega) (fun r hr'=>(hr r hr').1)
  have b9:=b8.setCell (p:=⟨w7.heap.size,5,none⟩) (show bs<=w7.heap.size by omega) (.slice (some ⟨g',0,none⟩) (s0.ps.length+1) c')
  exact b9.grown g10 (by rw [World.size_setCell];omega) (fun r hr'=>by have e:=Option.some.inj hr';rw [<- e];exact (h7sec.lt g0 rfl).1)
 ·have:=g10.size;rw [World.size_setCell] at this;exact Nat.lt_of_lt_of_le (show w.heap.size+1<w8.heap.size by omega) this
 ·refine (g10.block _ (by rw [World.size_setCell];omega) (fun e=>n1 (Option.some.inj e))).trans ((e9 _ (by omega)).trans k8)
 ·refine (g10.block _ (by rw [World.size_setCell];omega) (fun e=>n2 (Option.some.inj e))).trans ((e9 _ (by omega)).trans k8')
 ·rw [cells_snoc,List.length_append,hk]
  exact sec10
end Rlsa
end Go.Proofs.YtickfkphhngagaaGreatDoor
