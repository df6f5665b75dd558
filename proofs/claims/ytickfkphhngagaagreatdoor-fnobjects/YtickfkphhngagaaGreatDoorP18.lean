import Derived.Test.YtickfkphhngagaaGreatDoorP17
import Derived.Lib.IndexMore
set_option linter.all false
set_option maxRecDepth 20000
set_option maxHeartbeats 8000000
open Go.ChangeShapes Go.WideShapes Go.ChangeAt Go.RowKit
open Go.Proofs.Tryz
namespace Go.Proofs.YtickfkphhngagaaGreatDoor
namespace Otxq
open Go.Deep
open Signed (inB)
open Names (nameB)
open Stepx (exprB)
open Otxa Otxb Otxt Otxp Seco Secp Obje
theorem name_le {s:ByteArray} (h:nameB s=true):s.size<=16:=(of_decide_eq_true h).2.1
theorem in_of {n a b:Int} (h:inB n a b=true):a<=n/\n<=b:=of_decide_eq_true h
theorem expr_le {L:List Stepx.Node} (h:exprB L=true):L.length<=30:=by
 unfold exprB at h
 rw [Bool.and_eq_true] at h
 exact of_decide_eq_true h.1
theorem sec_b {s:Secr.X} (h:secB s=true):SecB s:=by
 unfold secB at h
 simp only [Bool.and_eq_true] at h
 obtain ⟨⟨⟨⟨⟨h1,h2⟩,h3⟩,h4⟩,h5⟩,h6⟩:=h
 unfold roomB at h3
 unfold bankB at h4
 unfold patchesB at h6
 simp only [Bool.and_eq_true] at h3 h6
 have k:=in_of h2
 have d:=of_decide_eq_true h3.1
 have hb:0<=base s.f1/\base s.f1<=49152:=by unfold base;repeat' split <;> omega
 have a:-1<=s.f3/\s.f3<=50000:=by
  have:=h3.2
  rw [Bool.or_eq_true] at this
  rcases this with h|h
  ·have:=eq_of_beq h;omega
  ·have:=in_of h;omega
 have bk:-1<=s.f2/\s.f2<=15:=by
  rw [Bool.or_eq_true] at h4
  rcases h4 with h|h
  ·have:=eq_of_beq h;omega
  ·rw [Bool.and_eq_true] at h
   have:=in_of h.2;omega
 have pn:=of_decide_eq_true h6.1.1
 refine ⟨name_le h1,by omega,by omega,by omega,by omega,by omega,by omega,d,pn,fun i hi=>?_⟩
 have hp:=List.all_eq_true.1 h6.2 s.f5[i] (List.getElem_mem hi)
 unfold patchB at hp
 simp only [Bool.and_eq_true] at hp
 have p1:=in_of hp.1.1
 have p0:=in_of hp.1.2
 have ps:1<=psize s.f5[i].f1:=by unfold psize;split <;> omega
 exact ⟨by omega,by omega,by omega,by omega,expr_le hp.2⟩
structure SymB (y:Osyr.X):Prop where
 nm:y.f0.size<=16
 s0:-4000000000<=y.f1
 s1:y.f1<=4000000000
 a0:-4000000000<=y.f2
 a1:y.f2<=4000000000
theorem sym_b {S:List Secr.X} {y:Osyr.X} (hS:S.length<=12) (hs:∀ i (h:i<S.length),secB S[i]=true) (h:symB S y=true):SymB y:=by
 unfold symB at h
 rw [Bool.and_eq_true] at h
 have n:=name_le h.1
 have h2:=h.2
 unfold placeB at h2
 split at h2
 ·have:=in_of h2
  exact ⟨n,by omega,by omega,by omega,by omega⟩
 ·rw [Bool.and_eq_true] at h2
  have a:=of_decide_eq_true h2.1
  have b:=in_of h2.2
  have d:dataLen S y.f1.toNat<=256:=by
   unfold dataLen
   split
   ·rename_i s hs'
    obtain ⟨hi,rfl⟩:=List.getElem?_eq_some_iff.1 hs'
    exact (sec_b (hs _ hi)).dt
   ·omega
  exact ⟨n,by omega,by omega,by omega,by omega⟩
theorem symT_le {y:Osyr.X} (h:SymB y):(symT y).length<=100:=sym_len h.nm h.s0 h.s1 h.a0 h.a1
theorem take_flat {α:Type} (f:α->List UInt8) (n m:Nat) (L:List α) (hL:L.length<=m) (h:∀ i (hi:i<L.length),(f L[i]).length<=n) (k:Nat):((L.take k).flatMap f).length<=n*m:=by
 have:=flat_le f n (L.take k) (fun x hx=>by
  obtain ⟨i,hi,rfl⟩:=List.getElem_of_mem (List.mem_of_mem_take hx)
  exact h i hi)
 have h2:(L.take k).length<=m:=by rw [List.length_take];omega
 exact Nat.le_trans this (Nat.mul_le_mul_left _ h2)
theorem all_flat {α:Type} (f:α->List UInt8) (n m:Nat) (L:List α) (hL:L.length<=m) (h:∀ i (hi:i<L.length),(f L[i]).length<=n):(L.flatMap f).length<=n*m:=by
 have:=take_flat f n m L hL h L.length
 rwa [List.take_length] at this
noncomputable def objV (o:Objr.X):ByteArray:=if objB o=true then ⟨(objT o).toArray⟩ else ⟨#[]⟩
theorem objV_no {o:Objr.X} (h:objB o=false):objV o=⟨#[]⟩:=if_neg (by rw [h];decide)
theorem objV_yes {o:Objr.X} (h:objB o=true):objV o=⟨(objT o).toArray⟩:=if_pos h
theorem right_of {o:Objr.X} (h:objB o=true):Right o:=by
 by_cases hr:Right o
 ·exact hr
 ·rw [obj_no hr] at h;exact absurd h (by decide)
end Otxq
namespace Rlip
open Go.Deep
open Optx (decW wordB)
open Extx (exprT)
open Worr Wors Rint Rbyt Rwor
open Otxa Otxb Otxt Otxp Otxq Obje
def brk (c:UInt8):List UInt8->List UInt8 × List UInt8 × Bool
 | []=>([],[],false)
 | d :: r=>if d=c then ([],r,true) else (d :: (brk c r).1,(brk c r).2.1,(brk c r).2.2)
theorem brk_app {c:UInt8}:∀ (X Y:List UInt8),(∀ d ∈ X,d ≠ c)->brk c (X ++ c :: Y)=(X,Y,true)
 | [],Y,_=>by rw [List.nil_append,brk,if_pos rfl]
 | d :: X,Y,h=>by
  rw [List.cons_append,brk,if_neg (h d (List.mem_cons_self ..)),brk_app X Y (fun e he=>h e (List.mem_cons_of_mem _ he))]
theorem brk_none {c:UInt8}:∀ l:List UInt8,(∀ d ∈ l,d ≠ c)->brk c l=(l,[],false)
 | [],_=>rfl
 | d :: r,h=>by rw [brk,if_neg (h d (List.mem_cons_self ..)),brk_none r (fun e he=>h e (List.mem_cons_of_mem _ he))]
theorem brk_le {c:UInt8}:∀ l:List UInt8,(brk c l).1.length<=l.length/\(l ≠ []->(brk c l).2.1.length<l.length)
 | []=>⟨Nat.le_refl _,fun h=>absurd rfl h⟩
 | d :: r=>by
  rw [brk]
  by_cases h:d=c
  ·rw [if_pos h];exact ⟨Nat.zero_le _,fun _=>Nat.lt_succ_self _⟩
  ·rw [if_neg h]
   have:=brk_le (c:=c) r
   refine ⟨Nat.succ_le_succ this.1,fun _=>?_⟩
   show (brk c r).2.1.length<r.length+1
   by_cases hr:r=[]
   ·subst hr;exact Nat.succ_pos _
   ·have:=this.2 hr;omega
theorem cut_brk (c:UInt8):∀ l:List UInt8,Lib.cut l [c]=brk c l
 | []=>rfl
 | d :: r=>by
  have ih:=cut_brk c r
  unfold Lib.cut at ih |-
  rw [brk]
  by_cases h:d=c
  ·subst h
   rw [if_pos rfl]
   have e:Lib.index (d :: r) [d]=0:=by unfold Lib.index;simp
   rw [e];simp
  ·rw [if_neg h]
   have e:Lib.index (d :: r) [c]=if Lib.index r [c] == -1 then -1 else Lib.index r [c]+1:=by
    conv=>lhs;unfold Lib.index
    rw [if_neg (by simp;exact fun h'=>h h'.symm)]
   have hge:=Lib.index_ge r [c]
   by_cases h0:0<=Lib.index r [c]
   ·rw [if_pos h0] at ih
    have e2:Lib.index (d :: r) [c]=Lib.index r [c]+1:=by rw [e,if_neg (by simp;omega)]
    rw [e2,if_pos (by omega),<- ih]
    have e3:(Lib.index r [c]+1).toNat=(Lib.index r [c]).toNat+1:=by omega
    rw [e3]
    simp
   ·rw [if_neg h0] at ih
    have e2:Lib.index (d :: r) [c] = -1:=by rw [e,if_pos (by simp;omega)]
    rw [e2,if_neg (by decide),<- ih]
def wB (l:List UInt8):ByteArray:=⟨l.toArray⟩
theorem bx {a b:ByteArray} (h:a.data.toList=b.data.toList):a=b:=ByteArray.ext (Array.toList_inj.1 h)
theorem wB_list (l:List UInt8):(wB l).data.toList=l:=by unfold wB;simp
theorem wB_size (l:List UInt8):(wB l).size=l.length:=by rw [<- size_list,wB_list]
theorem wB_of (s:ByteArray):wB s.data.toList=s:=bx (wB_list _)
def bA (c:UInt8) (s:ByteArray):ByteArray:=wB (brk c s.data.toList).1
def bB (c:UInt8) (s:ByteArray):ByteArray:=wB (brk c s.data.toList).2.1
def bF (c:UInt8) (s:ByteArray):Bool:=(brk c s.data.toList).2.2
theorem bA_le (c:UInt8) (s:ByteArray):(bA c s).size<=s.size:=by
 have:=(brk_le (c:=c) s.data.toList).1
 rw [size_list] at this
 unfold bA;rw [wB_size];exact this
theorem bB_lt {c:UInt8} {s:ByteArray} (h:¬ s.size=0):(bB c s).size<s.size:=by
 have:=(brk_le (c:=c) s.data.toList).2 (fun e=>h (by rw [<- size_list,e];rfl))
 rw [size_list] at this
 unfold bB;rw [wB_size];exact this
theorem bB_le (c:UInt8) (s:ByteArray):(bB c s).size<=s.size:=by
 by_cases h:s.size=0
 ·have:s.data.toList=[]:=List.eq_nil_of_length_eq_zero (by rw [size_list];exact h)
  unfold bB;rw [this];exact Nat.zero_le _
 ·exact Nat.le_of_lt (bB_lt h)
theorem cutI_at {s:ByteArray} {c:Int}:∀ (n k:Nat),s.size-k<=n->k<=s.size->(Cuts.cutI s c k<s.size->(Fill.numAt s (Cuts.cutI s c k):Int)=c)/\k<=Cuts.cutI s c k/\∀ j,k<=j->j<Cuts.cutI s c k->(Fill.numAt s j:Int) ≠ c
 | n,k,hn,hk=>by
  by_cases h:k<s.size
  ·by_cases hc:(s[k].toNat:Int)=c
   ·have e:=Cuts.cutI_here h hc
    rw [e]
    exact ⟨fun _=>by rw [Fill.numAt_of h];exact hc,Nat.le_refl _,fun j h1 h2=>by omega⟩
   ·have e:=Cuts.cutI_next h hc
    rw [e]
    match n,hn with
    | 0,hn=>omega
    | n+1,hn =>
     obtain ⟨a,b,d⟩:=cutI_at (s:=s) (c:=c) n (k+1) (by omega) (by omega)
     refine ⟨a,by omega,fun j h1 h2=>?_⟩
     by_cases hj:j=k
     ·subst hj;rw [Fill.numAt_of h];exact hc
     ·exact d j (by omega) h2
  ·have e:=Cuts.cutI_end (c:=c) h
   rw [e]
   exact ⟨fun h'=>by omega,by omega,fun j h1 h2=>by omega⟩
theorem at_num {s:ByteArray} {c:UInt8} {k:Nat} (h:k<s.size):(Fill.numAt s k:Int)=(c.toNat:Int) ↔ s.data.toList[k]? = some c:=by
 rw [Fill.numAt_of h,at_list s k h]
 constructor
 ·intro e
  have:s[k]=c:=UInt8.toNat_inj.1 (by omega)
  rw [this]
 ·intro e
  rw [Option.some.inj e]
theorem cut_b (s:ByteArray) (c:UInt8):Cuts.cutA s (c.toNat:Int)=bA c s/\Cuts.cutB s (c.toNat:Int)=bB c s/\Cuts.cutF s (c.toNat:Int)=bF c s:=by
 obtain ⟨h1,_,h3⟩:=cutI_at (s:=s) (c:=(c.toNat:Int)) s.size 0 (by omega) (Nat.zero_le _)
 have hle:=Cuts.cutI_le s (c.toNat:Int) 0
 unfold Cuts.cutA Cuts.cutB Cuts.cutF
 generalize Cuts.cutI s (c.toNat:Int) 0=k at *
 by_cases hk:k<s.size
 ·have hc:=(at_num hk).1 (h1 hk)
  have e:s.data.toList=s.data.toList.take k ++ c :: s.data.toList.drop (k+1):=by
   have hl:k<s.data.toList.length:=by rw [size_list];exact hk
   have:=List.drop_eq_getElem_cons hl
   rw [List.getElem?_eq_getElem hl] at hc
   rw [Option.some.inj hc] at this
   rw [<- this,List.take_append_drop]
  have hb:brk c s.data.toList=(s.data.toList.take k,s.data.toList.drop (k+1),true):=by
   conv=>lhs;rw [e]
   refine brk_app _ _ fun d hd=>?_
   obtain ⟨j,hj,rfl⟩:=List.getElem_of_mem hd
   rw [List.length_take] at hj
   rw [List.getElem_take]
   intro ee
   exact h3 j (Nat.zero_le _) (by omega) ((at_num (by omega)).2 (by rw [List.getElem?_eq_getElem (by rw [size_list];omega),ee]))
  rw [decide_eq_true hk,if_pos rfl,if_pos rfl]
  refine ⟨bx ?_,bx ?_,?_⟩
  ·unfold bA;rw [wB_list,hb,Woru.ext_list];simp
  ·unfold bB;rw [wB_list,hb,Woru.ext_list,List.take_of_length_le (by rw [List.length_drop,size_list];omega)]
  ·unfold bF;rw [hb]
 ·have hb:brk c s.data.toList=(s.data.toList,[],false):=brk_none _ fun d hd=>by
   obtain ⟨j,hj,rfl⟩:=List.getElem_of_mem hd
   rw [size_list] at hj
   intro ee
   exact h3 j (Nat.zero_le _) (by omega) ((at_num hj).2 (by rw [List.getElem?_eq_getElem (by rw [size_list];exact hj),ee]))
  rw [decide_eq_false hk,if_neg (by decide),if_neg (by decide)]
  refine ⟨bx ?_,bx ?_,?_⟩
  ·unfold bA;rw [wB_list,hb]
  ·unfold bB;rw [wB_list,hb]
  ·unfold bF;rw [hb]
theorem sp_b (s:ByteArray):A s=bA 32 s/\B s=bB 32 s/\F s=bF 32 s:=by
 cases h:F s with
 | true =>
  obtain ⟨h1,h2⟩:=Woru.cut_eq h
  have hb:brk 32 s.data.toList=((A s).data.toList,(B s).data.toList,true):=by rw [h1];exact brk_app _ _ h2
  refine ⟨bx ?_,bx ?_,?_⟩
  ·unfold bA;rw [wB_list,hb]
  ·unfold bB;rw [wB_list,hb]
  ·unfold bF;rw [hb]
 | false =>
  obtain ⟨h1,h2⟩:=Woru.no_cut h
  have hb:brk 32 s.data.toList=(s.data.toList,[],false):=brk_none _ h2
  have hB:B s=⟨#[]⟩:=by
   have h':ix s = -1:=Decidable.of_not_not (of_decide_eq_false h)
   unfold B;rw [if_pos h']
  refine ⟨bx ?_,bx ?_,?_⟩
  ·unfold bA;rw [wB_list,hb,h1]
  ·unfold bB;rw [wB_list,hb,hB]
  ·unfold bF;rw [hb]
def lnB (ws:List ByteArray):ByteArray:=wB (Lib.join (ws.map (·.data.toList)) [32])
def Free (c:UInt8) (s:ByteArray):Prop:=∀ d ∈ s.data.toList,d ≠ c
theorem line_b (ws:List ByteArray):line ws=(lnB ws).data.toList ++ [10]:=by unfold line lnB;rw [wB_list]
theorem ln_cons {x:ByteArray} {ws:List ByteArray} (h:ws ≠ []):(lnB (x :: ws)).data.toList=x.data.toList ++ 32 :: (lnB ws).data.toList:=by
 unfold lnB
 rw [wB_list,wB_list,List.map_cons,Woru.join_cons (by simpa using h)]
theorem ln_one (x:ByteArray):lnB [x]=x:=bx (by unfold lnB;rw [wB_list];exact Woru.join_one _)
theorem ln_cut {x:ByteArray} {ws:List ByteArray} (h:ws ≠ []) (hx:Free 32 x):bA 32 (lnB (x :: ws))=x/\bB 32 (lnB (x :: ws))=lnB ws/\bF 32 (lnB (x :: ws))=true:=by
 have hb:brk 32 (lnB (x :: ws)).data.toList=(x.data.toList,(lnB ws).data.toList,true):=by rw [ln_cons h];exact brk_app _ _ hx
 refine ⟨bx ?_,bx ?_,?_⟩
 ·unfold bA;rw [wB_list,hb]
 ·unfold bB;rw [wB_list,hb]
 ·unfold bF;rw [hb]
theorem ln_cut0 {x:ByteArray} (hx:Free 32 x):bA 32 (lnB [x])=x/\bB 32 (lnB [x])=⟨#[]⟩/\bF 32 (lnB [x])=false:=by
 rw [ln_one]
 have hb:brk 32 x.data.toList=(x.data.toList,[],false):=brk_none _ hx
 refine ⟨bx ?_,bx ?_,?_⟩
 ·unfold bA;rw [wB_list,hb]
 ·unfold bB;rw [wB_list,hb]
 ·unfold bF;rw [hb]
theorem W_ln:∀ {ws:List ByteArray},ws ≠ []->(∀ x ∈ ws,Free 32 x)->W (lnB ws)=ws
 | [],h,_=>absurd rfl h
 | [x],_,hf=>by
  obtain ⟨a,b,c⟩:=ln_cut0 (hf x (List.mem_cons_self ..))
  obtain ⟨p,q,r⟩:=sp_b (lnB [x])
  rw [W_no (by rw [r,c]),p,a]
 | x :: y :: ws,_,hf=>by
  obtain ⟨a,b,c⟩:=ln_cut (x:=x) (ws:=y :: ws) (by simp) (hf x (List.mem_cons_self ..))
  obtain ⟨p,q,r⟩:=sp_b (lnB (x :: y :: ws))
  rw [W_on (by rw [r,c]),p,a,q,b,W_ln (by simp) (fun z hz=>hf z (List.mem_cons_of_mem _ hz))]
theorem words_on {r:Nat} {x:ByteArray} {ws:List ByteArray} (h1:1<=r) (h:ws ≠ []) (hx:Free 32 x):wordsL (r+1) (lnB (x :: ws))=x :: wordsL r (lnB ws):=by
 obtain ⟨a,b,c⟩:=ln_cut h hx
 obtain ⟨p,q,s⟩:=cut_b (lnB (x :: ws)) 32
 rw [words_succ]
 have e:((32:UInt8).toNat:Int)=32:=rfl
 rw [e] at p q s
 rw [if_pos ⟨h1,by rw [s,c]⟩,p,a,q,b]
theorem words_one {r:Nat} {x:ByteArray} (hx:Free 32 x):wordsL (r+1) (lnB [x])=[x]:=by
 obtain ⟨a,b,c⟩:=ln_cut0 hx
 obtain ⟨p,q,s⟩:=cut_b (lnB [x]) 32
 rw [words_succ]
 have e:((32:UInt8).toNat:Int)=32:=rfl
 rw [e] at s
 rw [if_neg (fun h=>by have:=h.2;rw [s,c] at this;cases this),ln_one]
def SN (s:ByteArray):List ByteArray:=Lib.splitB sp 0 (min 3 (s.size+1)-1) s
theorem split_on {k:Nat} {s:ByteArray} (h:F s=true):Lib.splitB sp 0 (k+1) s=A s :: Lib.splitB sp 0 k (B s):=by
 have h:=of_decide_eq_true h
 rcases ix_cases s with h'|⟨i,hi,hr⟩
 ·exact absurd h' h
 ·unfold A B
  rw [if_neg h,if_neg h,Lib.splitB_hit sp 0 _ s i hi,hi]
  rfl
theorem SN_ln {a b e:ByteArray} (ha:Free 32 a) (hb:Free 32 b):SN (lnB [a,b,e])=[a,b,e]:=by
 have hz:2<=(lnB [a,b,e]).size:=by
  rw [<- size_list,ln_cons (by simp),ln_cons (by simp)];simp;omega
 have e1:min 3 ((lnB [a,b,e]).size+1)-1=2:=by omega
 obtain ⟨p,q,r⟩:=ln_cut (x:=a) (ws:=[b,e]) (by simp) ha
 obtain ⟨p',q',r'⟩:=sp_b (lnB [a,b,e])
 obtain ⟨p2,q2,r2⟩:=ln_cut (x:=b) (ws:=[e]) (by simp) hb
 obtain ⟨p2',q2',r2'⟩:=sp_b (lnB [b,e])
 unfold SN
 rw [e1,split_on (by rw [r',r]),p',p,q',q,split_on (by rw [r2',r2]),p2',p2,q2',q2,ln_one]
 rfl
theorem SN_le:∀ (k:Nat) (s:ByteArray),∀ x ∈ Lib.splitB sp 0 k s,x.size<=s.size
 | 0,s,x,hx=>by
  rw [Lib.splitB_zero,List.mem_singleton] at hx
  rw [hx];exact Nat.le_refl _
 | k+1,s,x,hx=>by
  cases h:F s with
  | true =>
   rw [split_on h] at hx
   rcases List.mem_cons.1 hx with rfl|hx
   ·exact A_le s
   ·have:=SN_le k (B s) x hx
    have:=B_le s
    omega
  | false =>
   have h':ix s = -1:=Decidable.of_not_not (of_decide_eq_false h)
   rw [Lib.splitB_miss _ _ _ _ h',List.mem_singleton] at hx
   rw [hx];exact Nat.le_refl _
def numP (s:ByteArray):Option Int:=match Lib.parseIntB 64 s.data.toList with|.ok n=>some n|_=>none
theorem numP_dec {n:Int} (h0:-4000000000<=n) (h1:n<=4000000000):numP (decW n)=some n:=by
 have e:(decW n).data.toList=Lib.itoa n:=by unfold decW;simp
 unfold numP
 rw [e,Pint.parse_itoa h0 h1]
theorem numS_dec {n:Int} (h0:-4000000000<=n) (h1:n<=4000000000):Pint.numS (decW n).data.toList=some n:=by
 have e:(decW n).data.toList=Lib.itoa n:=by unfold decW;simp
 have:=decW_le h0 h1
 rw [e,Pint.numS_itoa (by rw [<- e,size_list];exact this)]
theorem by_two:∀ c:Fin 256,dS ((two (UInt8.ofNat c.val)).getD 0 0) ≠ 99/\dS ((two (UInt8.ofNat c.val)).getD 1 0) ≠ 99/\UInt8.ofNat (16*dS ((two (UInt8.ofNat c.val)).getD 0 0)+dS ((two (UInt8.ofNat c.val)).getD 1 0)).toNat=UInt8.ofNat c.val:=by decide +kernel
theorem by_flat:∀ l:List UInt8,byO (l.flatMap two)=some l
 | []=>rfl
 | c :: l=>by
  have h:=by_two ⟨c.toNat,c.toNat_lt⟩
  have e:UInt8.ofNat c.toNat=c:=by simp
  simp only [e] at h
  rw [List.flatMap_cons]
  have e2:two c ++ l.flatMap two=(two c).getD 0 0 :: (two c).getD 1 0 :: l.flatMap two:=rfl
  rw [e2,byO_cons,if_neg (fun q=>q.elim h.1 h.2.1),by_flat l,h.2.2]
  rfl
theorem by_hex (s:ByteArray):byO (hexA s).data.toList=some s.data.toList:=by
 have e:(hexA s).data.toList=s.data.toList.flatMap two:=by unfold hexA;simp
 rw [e];exact by_flat _
theorem free_of {s:ByteArray} {c:UInt8} (h:∀ d ∈ s.data.toList,33<=d.toNat) (hc:c.toNat<33):Free c s:=fun d hd e=>by
 have:=h d hd;rw [e] at this;omega
def Gr (s:ByteArray):Prop:=∀ d ∈ s.data.toList,33<=d.toNat
theorem gr_digits:∀ (k u:Nat),u<=k->∀ c ∈ Lib.decDigits u,33<=c.toNat
 | k,u,hk,c,hc=>by
  have one:∀ d,d<10->33<=(UInt8.ofNat (48+d)).toNat:=by decide
  rw [Lib.decDigits] at hc
  by_cases h:u<10
  ·rw [dif_pos h,List.mem_singleton] at hc
   rw [hc];exact one u h
  ·rw [dif_neg h] at hc
   match k,hk with
   | 0,hk=>omega
   | k+1,hk =>
    rcases List.mem_append.1 hc with hc|hc
    ·exact gr_digits k (u / 10) (by omega) c hc
    ·rw [List.mem_singleton.1 hc]
     exact one (u%10) (by omega)
theorem gr_dec (n:Int):Gr (decW n):=fun c hc=>by
 have e:(decW n).data.toList=Lib.itoa n:=by unfold decW;simp
 rw [e] at hc
 unfold Lib.itoa at hc
 split at hc
 ·rcases List.mem_cons.1 hc with rfl|hc
  ·decide
  ·exact gr_digits _ _ (Nat.le_refl _) c hc
 ·exact gr_digits _ _ (Nat.le_refl _) c hc
theorem gr_name {s:ByteArray} (h:Names.nameB s=true):Gr s:=by
 have h:=(of_decide_eq_true h).2.2.2
 intro c hc
 obtain ⟨j,hj,hj2⟩:=List.getElem_of_mem hc
 rw [size_list] at hj
 have h:=h j hj
 have e2:s[j]=c:=by rw [<- hj2,Array.getElem_toList];rfl
 rw [e2] at h
 have all:∀ d:Fin 256,Names.nbB ((UInt8.ofNat d.val).toNat:Int)=true->33<=(UInt8.ofNat d.val).toNat:=by decide +kernel
 have:=all ⟨c.toNat,c.toNat_lt⟩
 have e:UInt8.ofNat c.toNat=c:=by simp
 simp only [e] at this
 exact this h
theorem gr_two:∀ c:Fin 256,∀ d ∈ two (UInt8.ofNat c.val),33<=d.toNat:=by decide +kernel
theorem gr_hex (s:ByteArray):Gr (hexA s):=fun d hd=>by
 have e:(hexA s).data.toList=s.data.toList.flatMap two:=by unfold hexA;simp
 rw [e] at hd
 obtain ⟨c,_,hc⟩:=List.mem_flatMap.1 hd
 have:=gr_two ⟨c.toNat,c.toNat_lt⟩
 have e2:UInt8.ofNat c.toNat=c:=by simp
 simp only [e2] at this
 exact this d hc
theorem ops_gr:∀ k,k<15->∀ c ∈ (Optx.opTab.getD k ⟨#[]⟩).data.toList,33<=c.toNat:=by decide
theorem gr_word {x:Stepx.Node} (h:Extx.NodeOk x):Gr (wordB x):=by
 obtain ⟨kd,n,s⟩:=x
 have h:Steps.nodeB kd n s=true:=h
 have name:(kd=2 \/ kd=3)->Names.nameB s=true:=fun hk=>by
  unfold Steps.nodeB at h
  rw [if_neg (by omega),if_pos hk] at h
  exact (Bool.and_eq_true_iff.1 h).2
 rcases Extx.kinds_of h with rfl|rfl|rfl|hk|hk
 ·have e:wordB (1,n,s)=decW n:=by unfold wordB;simp
  rw [e];exact gr_dec n
 ·have e:wordB (2,n,s)=s:=by unfold wordB;simp
  rw [e];exact gr_name (name (.inl rfl))
 ·have e:(wordB (3,n,s)).data.toList=35 :: s.data.toList:=by unfold wordB;simp
  intro c hc
  rw [e] at hc
  rcases List.mem_cons.1 hc with rfl|hc
  ·decide
  ·exact gr_name (name (.inr rfl)) c hc
 ·rw [Extx.word_op (by omega)]
  exact ops_gr (kd-4).toNat (by omega)
 ·rw [Extx.word_op (by omega)]
  exact ops_gr (kd-4).toNat (by omega)
theorem join_ge:∀ (X:List (List UInt8)),(∀ x ∈ X,∀ c ∈ x,32<=c.toNat)->∀ c ∈ Lib.join X [32],32<=c.toNat
 | [],_,c,hc=>by cases hc
 | [x],h,c,hc=>by rw [Woru.join_one] at hc;exact h x (List.mem_cons_self ..) c hc
 | x :: y :: X,h,c,hc=>by
  rw [Woru.join_cons (by simp)] at hc
  rcases List.mem_append.1 hc with hc|hc
  ·exact h x (List.mem_cons_self ..) c hc
  ·rcases List.mem_cons.1 hc with rfl|hc
   ·decide
   ·exact join_ge (y :: X) (fun z hz=>h z (List.mem_cons_of_mem _ hz)) c hc
theorem gr_expr (L:List Stepx.Node):∀ c ∈ (exprT L).data.toList,32<=c.toNat:=by
 cases hx:Stepx.exprB L with
 | false =>
  intro c hc
  unfold exprT at hc
  rw [hx,if_neg (by decide)] at hc
  cases hc
 | true =>
  rw [Woru.text_of hx]
  refine join_ge _ fun x hx' c hc=>?_
  obtain ⟨y,hy,rfl⟩:=List.mem_map.1 hx'
  unfold Extx.words at hy
  obtain ⟨z,hz,rfl⟩:=List.mem_map.1 hy
  have:=gr_word ((Woru.ok_all hx).2 z hz) c hc
  omega
theorem ln_ten {ws:List ByteArray} (h:∀ x ∈ ws,∀ c ∈ x.data.toList,32<=c.toNat):Free 10 (lnB ws):=fun c hc e=>by
 unfold lnB at hc
 rw [wB_list] at hc
 have:=join_ge _ (fun x hx d hd=>by obtain ⟨y,hy,rfl⟩:=List.mem_map.1 hx;exact h y hy d hd) c hc
 rw [e] at this
 exact absurd this (by decide)
end Rlip
namespace Otxc
open Go.Deep
open Optx (decW Pow OpTab)
open Extx (exprT)
open Lib (byteCells strCells)
open Bld (Holds)
open Otxa Otxb Otxt Otxp Seco
open Sta0 (Rg rg)
structure Tabs (w:World):Prop where
 op:OpTab w
 pow:Pow w
 hex:Nums.Tab w
theorem Tabs.below {w w':World} (h:Tabs w) (hb:Below w.heap.size w w'):Tabs w':=⟨h.op.below hb,h.pow.below hb,fun i hi=>(hb.cell (p:=⟨_,_,none⟩) (Hex.size_pos h.hex)).trans (h.hex i hi)⟩
theorem row_lit {w:World} {vs:Array Value} {T:TypeId} {ws:List ByteArray} (h:vs.toList=ws.map Value.string):∀ (j:Nat) x,ws[j]? = some x->(w.alloc (.cells vs T)).cell? ⟨w.heap.size,j,none⟩=some (.string x):=fun j x hj=>by
 rw [World.cell?_alloc_new,<- Array.getElem?_toList,h,List.getElem?_map,hj];rfl
theorem flat_snoc {α:Type} (f:α->List UInt8) (l:List UInt8) (L:List α) (k:Nat) (h:k<L.length):(l ++ (L.take k).flatMap f) ++ f L[k]=l ++ (L.take (k+1)).flatMap f:=by
 rw [List.take_succ_eq_append_getElem h,List.flatMap_append]
 simp
theorem flat_all {α:Type} (f:α->List UInt8) (l:List UInt8) (L:List α):l ++ (L.take L.length).flatMap f=l ++ L.flatMap f:=by rw [List.take_length]
theorem tellSec_any (w0:World) (B b:Nat) (l:List UInt8) (x:Secr.X) (a5:Option Addr) (c5 sb so:Nat) (w:World) (kB:AtC w0 sb so x a5 c5) (hh:Secr.Has 0 w0 x a5) (hsb:SecB x) (hT:Tabs w0) (hw:Below w0.heap.size w0 w) (hB0:w0.heap.size<=B) (h:Holds B b (byteCells l) w) (hBw:B<=w.heap.size) (hlen:l.length<=50000000) :
  Calls prog 36 #[.pointer (some ⟨b,0,none⟩),.pointer (some ⟨sb,so,none⟩)] w fun e w'=>e=.returned (.tuple #[])/\Holds B b (byteCells (l ++ secT x)) w'/\Below B w w':=by
 have HT:Hid (Tabs w0):=hT
 have HK:Hid (AtC w0 sb so x a5 c5):=kB
 have HR:Hid (Patr.Row 0 w0 a5 x.f5):=hh.1
 have HS:Hid (SecB x):=hsb
 have HW:Hid (Below w0.heap.size w0 w):=hw
 have HB0:Hid (w0.heap.size<=B):=hB0
 have HH:Hid (Holds B b (byteCells l) w):=h
 have HBw:Hid (B<=w.heap.size):=hBw
 clear hT kB hh hsb hw hB0 h hBw
 have kw:=HK.out.below HW.out
 have r0:=cell_regrown kw.c0
 have r1:=cell_regrown kw.c1
 have r2:=cell_regrown kw.c2
 have r3:=cell_regrown kw.c3
 have r4:=cell_regrown kw.c4
 have k1:Rg 38 #[.int .i64 x.f1] w (.string (decW x.f1)):=rg fun W hb=>decimal_any x.f1 W (HT.out.below (after HW.out hb)).pow (by have:=HS.out.k0;omega) (by have:=HS.out.k1;omega)
 have k2:Rg 38 #[.int .i64 x.f2] w (.string (decW x.f2)):=rg fun W hb=>decimal_any x.f2 W (HT.out.below (after HW.out hb)).pow (by have:=HS.out.b0;omega) (by have:=HS.out.b1;omega)
 have k3:Rg 38 #[.int .i64 x.f3] w (.string (decW x.f3)):=rg fun W hb=>decimal_any x.f3 W (HT.out.below (after HW.out hb)).pow (by have:=HS.out.a0;omega) (by have:=HS.out.a1;omega)
 have k4:Rg 75 #[.string x.f4] w (.string (hexA x.f4)):=rg fun W hb=>digits_any x.f4 W (HT.out.below (after HW.out hb)).hex (by have:=HS.out.dt;omega)
 have hhl:=head_len HS.out
 have HHD:Hid (headT x=line [wSection,x.f0,decW x.f1,decW x.f2,decW x.f3,hexA x.f4]):=(show _=_ from rfl)
 clear kw
 go_enter func36,ntmps36
 go_upto_region 0 with fail
 refine Qmov.tail_move 0 25 (by kernel_rfl) (by kernel_rfl) (fun _ _ _ _ _ h=>h) ?_
 simp only [List.take_succ_cons,List.take_zero,List.drop_succ_cons,List.drop_zero]
 generalize decW x.f1=D1 at k1 HHD
 generalize decW x.f2=D2 at k2 HHD
 generalize decW x.f3=D3 at k3 HHD
 generalize hexA x.f4=D4 at k4 HHD
 repeat (go_big_quiet_step (first|fail|with_reducible exact k1 _ _|with_reducible exact k2 _ _|with_reducible exact k3 _ _|with_reducible exact k4 _ _))
 refine wpQuiet_nil ?_
 intro _ hw'
 obtain ⟨⟨dq,osq⟩,hw''⟩:=hw'
 subst hw''
 have hbr:=below_regrown w dq osq
 generalize Go.Sort.grow (redrawn w dq) osq=W1 at hbr |-
 have HH1:Hid (Holds B b (byteCells l) W1):=Bld.holds_below HH.out hbr
 have V1:Hid (Below B w W1):=hbr.mono HBw.out
 have HB1:Hid (B<=W1.heap.size):=Nat.le_trans HBw.out hbr.size
 clear hbr r0 r1 r2 r3 r4 k1 k2 k3 k4 HH
 go_wp2_with fail
 refine (tell_any B b W1.heap.size 6 l [wSection,x.f0,D1,D2,D3,D4] _ (Bld.holds_below HH1.out (zAl _ _)) (by have:=HB1.out;simp;omega) (row_lit rfl) (by simp) (Nat.le_refl _) (by simp) (by rw [<- HHD.out];omega)).mono ?_
 rintro e w2 ⟨rfl,h2,b2⟩
 rw [<- HHD.out] at h2
 have HH2:Hid (Holds B b (byteCells ((l ++ headT x) ++ (x.f5.take 0).flatMap patT)) w2):=(show Holds _ _ _ _ from by rw [List.take_zero,List.flatMap_nil,List.append_nil];exact h2)
 have hb2:Below B W1 w2:=((zAl _ _).mono HB1.out).trans b2
 have V2:Hid (Below B w w2):=V1.out.trans hb2
 have HB2:Hid (B<=w2.heap.size):=Nat.le_trans HB1.out hb2.size
 have HW2:Hid (Below w0.heap.size w0 w2):=HW.out.trans (V2.out.mono HB0.out)
 have HBW:Hid (w0.heap.size<=w.heap.size):=Nat.le_trans HB0.out HBw.out
 have cp5:=(HK.out.below HW2.out).c5
 have HPN:Hid (x.f5.length<=256):=HS.out.pn
 have hpl:=pats_len HS.out
 have HSE:Hid ((l ++ headT x) ++ (x.f5.take x.f5.length).flatMap patT=l ++ secT x):=(show _=_ from by rw [List.take_length];unfold secT;rw [List.append_assoc])
 obtain ⟨l2,hl2⟩ : ∃ z,z=l ++ headT x:=⟨_,rfl⟩
 rw [<- hl2] at HH2 HSE
 have hl2n:l2.length<=50000700:=by rw [hl2,List.length_append];omega
 clear h2 b2 hb2 V1 HB1 HH1 HHD hhl hl2 HBw
 obtain ⟨N,hN⟩ : ∃ n,n=x.f5.length:=⟨_,rfl⟩
 rw [<- hN] at cp5
 have hN256:N<=256:=by rw [hN];exact HPN.out
 have HN:Hid (N=x.f5.length):=hN
 clear hN
 go_wp2_with fail
 go_loopw [38] (fun i wr=>∃ k:Nat,k<=N/\i=.int .i64 (k:Int)/\Hid (Holds B b (byteCells (l2 ++ (x.f5.take k).flatMap patT)) wr)/\Hid (Below B w wr)/\Hid (Below w0.heap.size w0 wr)/\Hid (B<=wr.heap.size)) (fun i _=>N-(intOf i).toNat)
 case atStart=>exact ⟨0,Nat.zero_le _,rfl,HH2.out,V2.out,HW2.out,HB2.out⟩
 case round =>
  obtain ⟨k,hk,rfl,HHk,Vk,HWk,HBk⟩:=hrel
  clear HH2 V2 HW2 HB2
  by_cases hlt:k<N
  ·have hkx:k<x.f5.length:=by rw [<- HN.out];exact hlt
   rcases HR.out with hnil|⟨pb,po,rfl,_,hpb,hat⟩
   ·exfalso;rw [hnil] at hkx;exact absurd hkx (by simp)
   obtain ⟨a2,c2,d0,d1,d2,hrow,hml⟩:=hat k hkx
   obtain ⟨f0l,f0h,f1l,f1h,f2n⟩:=HS.out.pb k hkx
   have HFS:Hid ((l2 ++ (x.f5.take k).flatMap patT) ++ patT x.f5[k]=l2 ++ (x.f5.take (k+1)).flatMap patT):=flat_snoc patT l2 x.f5 k hkx
   have HPT:Hid (patT x.f5[k]=line [wPatch,decW x.f5[k].f0,decW x.f5[k].f1,exprT x.f5[k].f2]):=(show _=_ from rfl)
   have hptl:=pat_len f0l f0h f1l f1h
   have hpk:=hpl k
   have e0:=(HWk.out.cell (p:=⟨pb,_,none⟩) hpb).trans d0
   have e1:=(HWk.out.cell (p:=⟨pb,_,none⟩) hpb).trans d1
   have e2:=(HWk.out.cell (p:=⟨pb,_,none⟩) hpb).trans d2
   clear hat d0 d1 d2
   generalize x.f5[k]=P at *
   obtain ⟨u,hu⟩ : ∃ u,u=wr.alloc (.cells #[.int .i64 P.f0,.int .i64 P.f1,.slice a2 P.f2.length c2] 80):=⟨_,rfl⟩
   obtain ⟨bp,hbp⟩ : ∃ n,n=wr.heap.size:=⟨_,rfl⟩
   have q0:u.cell? ⟨bp,0,none⟩=some (.int .i64 P.f0):=by rw [hu,hbp];exact World.cell?_alloc_new _ _ _ _
   have q1:u.cell? ⟨bp,1,none⟩=some (.int .i64 P.f1):=by rw [hu,hbp];exact World.cell?_alloc_new _ _ _ _
   have q2:u.cell? ⟨bp,2,none⟩=some (.slice a2 P.f2.length c2):=by rw [hu,hbp];exact World.cell?_alloc_new _ _ _ _
   have hub:Below wr.heap.size wr u:=by rw [hu];exact zAl _ _
   have HWu:Hid (Below w0.heap.size w0 u):=after HWk.out hub
   have k1:Rg 38 #[.int .i64 P.f0] u (.string (decW P.f0)):=rg fun W hb=>decimal_any P.f0 W (HT.out.below (after HWu.out hb)).pow (by omega) (by omega)
   have k2:Rg 38 #[.int .i64 P.f1] u (.string (decW P.f1)):=rg fun W hb=>decimal_any P.f1 W (HT.out.below (after HWu.out hb)).pow (by omega) (by omega)
   have k3:Rg 40 #[.slice a2 P.f2.length c2] u (.string (exprT P.f2)):=rg fun W hb=>Extx.implText_any a2 c2 P.f2 W (hrow.below (after HWu.out hb)).1 (by omega) (HT.out.below (after HWu.out hb)).op (HT.out.below (after HWu.out hb)).pow
   have r0:=cell_regrown q0
   have r1:=cell_regrown q1
   have r2:=cell_regrown q2
   have HHu:Hid (Holds B b (byteCells (l2 ++ (x.f5.take k).flatMap patT)) u):=Bld.holds_below HHk.out hub
   have Vu:Hid (Below B w u):=Vk.out.trans (hub.mono HBk.out)
   have HBu:Hid (B<=u.heap.size):=Nat.le_trans HBk.out hub.size
   have dl:decide ((k:Int)<(N:Int))=true:=decide_eq_true (by omega)
   have dk:IntKind.i64.wrap ((k:Int)+1)=((k+1:Nat):Int):=by rw [IntKind.wrap_i64];omega
   have z0:(0:Int)<=(k:Int):=by omega
   have z1:(k:Int)<(N:Int):=by omega
   clear hub hrow
   go_upto_region 4 with fail
   rw [<- hu,<- hbp]
   clear hu hbp e0 e1 e2 q0 q1 q2 HHk Vk HWk HBk
   refine Qmov.tail_move 0 10 (by kernel_rfl) (by kernel_rfl) (fun _ _ _ _ _ h=>h) ?_
   simp only [List.take_succ_cons,List.take_zero,List.drop_succ_cons,List.drop_zero]
   generalize decW P.f0=D1 at k1 HPT
   generalize decW P.f1=D2 at k2 HPT
   generalize exprT P.f2=D3 at k3 HPT
   repeat (go_big_quiet_step (first|fail|with_reducible exact k1 _ _|with_reducible exact k2 _ _|with_reducible exact k3 _ _))
   refine wpQuiet_nil ?_
   intro _ hw'
   obtain ⟨⟨dq,osq⟩,hw''⟩:=hw'
   subst hw''
   have hbr:=below_regrown u dq osq
   generalize Go.Sort.grow (redrawn u dq) osq=W3 at hbr |-
   have HH3:Hid (Holds B b (byteCells (l2 ++ (x.f5.take k).flatMap patT)) W3):=Bld.holds_below HHu.out hbr
   have V3:Hid (Below B w W3):=Vu.out.trans (hbr.mono HBu.out)
   have HB3:Hid (B<=W3.heap.size):=Nat.le_trans HBu.out hbr.size
   clear hbr r0 r1 r2 k1 k2 k3 HHu Vu HBu HWu
   go_wp2_with fail
   refine (tell_any B b W3.heap.size 4 _ [wPatch,D1,D2,D3] _ (Bld.holds_below HH3.out (zAl _ _)) (by have:=HB3.out;simp;omega) (row_lit rfl) (by simp) (Nat.le_refl _) (by simp) (by rw [<- HPT.out,List.length_append];omega)).mono ?_
   rintro e w4 ⟨rfl,h4,b4⟩
   rw [<- HPT.out,HFS.out] at h4
   have HH4:Hid (Holds B b (byteCells (l2 ++ (x.f5.take (k+1)).flatMap patT)) w4):=h4
   have hb4:Below B W3 w4:=((zAl _ _).mono HB3.out).trans b4
   have V4:Hid (Below B w w4):=V3.out.trans hb4
   have HB4:Hid (B<=w4.heap.size):=Nat.le_trans HB3.out hb4.size
   have HW4:Hid (Below w0.heap.size w0 w4):=HW.out.trans (V4.out.mono HB0.out)
   clear h4 b4 hb4 V3 HB3 HH3
   go_wp2
   go_roundw
   case rel=>exact ⟨k+1,by omega,by go_num,HH4.out,V4.out,HW4.out,HB4.out⟩
   case measure=>simp [intOf];omega
  ·have e:k=N:=by omega
   subst e
   have dl:decide ((k:Int)<(k:Int))=false:=decide_eq_false (by omega)
   have HF:Hid (Holds B b (byteCells (l ++ secT x)) wr):=(show Holds _ _ _ _ from by rw [<- HSE.out,<- HN.out];exact HHk.out)
   clear HHk
   go_wp2
   first|go_end0|refine bodyPost_ret (results_none rfl _ _ _) rfl ?_
   exact ⟨rfl,HF.out,Vk.out⟩
end Otxc
end Go.Proofs.YtickfkphhngagaaGreatDoor
