import Derived.Test.YtepafieckjnkdaaGreatDoorP17
import Derived.Lib.IndexMore
set_option linter.all false
set_option maxRecDepth 20000
set_option maxHeartbeats 8000000
open Go.ChangeShapes Go.WideShapes Go.ChangeAt Go.RowKit
open Go.Proofs.Tryz
namespace Go.Proofs.YtepafieckjnkdaaGreatDoor
namespace Rlip
open Go.Deep
open Optx (decW wordB)
open Extx (exprT)
open Worr Wors Rint Rbyt Rwor
open Otxa Otxb Otxt Otxp Otxq Obje
def brk (c:UInt8):List UInt8->List UInt8 × List UInt8 × Bool
 | []=>([],[],false)
 | d :: r=>if d=c then ([],r,true) else (d :: (brk c r).1,(brk c r).2.1,(brk c r).2.2)
theorem brk_app {c:UInt8}:∀ (X Y:List UInt8),(∀ d ∈ X,d ≠ c)->brk c (X ++ c :: Y)=(X,Y,true)
 | [],Y,_=>by rw [List.nil_append,brk,if_pos rfl]
 | d :: X,Y,h=>by
  rw [List.cons_append,brk,if_neg (h d (List.mem_cons_self ..)),brk_app X Y (fun e he=>h e (List.mem_cons_of_mem _ he))]
theorem brk_none {c:UInt8}:∀ l:List UInt8,(∀ d ∈ l,d ≠ c)->brk c l=(l,[],false)
 | [],_=>rfl
 | d :: r,h=>by rw [brk,if_neg (h d (List.mem_cons_self ..)),brk_none r (fun e he=>h e (List.mem_cons_of_mem _ he))]
theorem brk_le {c:UInt8}:∀ l:List UInt8,(brk c l).1.length<=l.length/\(l ≠ []->(brk c l).2.1.length<l.length)
 | []=>⟨Nat.le_refl _,fun h=>absurd rfl h⟩
 | d :: r=>by
  rw [brk]
  by_cases h:d=c
  ·rw [if_pos h];exact ⟨Nat.zero_le _,fun _=>Nat.lt_succ_self _⟩
  ·rw [if_neg h]
   have:=brk_le (c:=c) r
   refine ⟨Nat.succ_le_succ this.1,fun _=>?_⟩
   show (brk c r).2.1.length<r.length+1
   by_cases hr:r=[]
   ·subst hr;exact Nat.succ_pos _
   ·have:=this.2 hr;omega
theorem cut_brk (c:UInt8):∀ l:List UInt8,Lib.cut l [c]=brk c l
 | []=>rfl
 | d :: r=>by
  have ih:=cut_brk c r
  unfold Lib.cut at ih |-
  rw [brk]
  by_cases h:d=c
  ·subst h
   rw [if_pos rfl]
   have e:Lib.index (d :: r) [d]=0:=by unfold Lib.index;simp
   rw [e];simp
  ·rw [if_neg h]
   have e:Lib.index (d :: r) [c]=if Lib.index r [c] == -1 then -1 else Lib.index r [c]+1:=by
    conv=>lhs;unfold Lib.index
    rw [if_neg (by simp;exact fun h'=>h h'.symm)]
   have hge:=Lib.index_ge r [c]
   by_cases h0:0<=Lib.index r [c]
   ·rw [if_pos h0] at ih
    have e2:Lib.index (d :: r) [c]=Lib.index r [c]+1:=by rw [e,if_neg (by simp;omega)]
    rw [e2,if_pos (by omega),<- ih]
    have e3:(Lib.index r [c]+1).toNat=(Lib.index r [c]).toNat+1:=by omega
    rw [e3]
    simp
   ·rw [if_neg h0] at ih
    have e2:Lib.index (d :: r) [c] = -1:=by rw [e,if_pos (by simp;omega)]
    rw [e2,if_neg (by decide),<- ih]
def wB (l:List UInt8):ByteArray:=⟨l.toArray⟩
theorem bx {a b:ByteArray} (h:a.data.toList=b.data.toList):a=b:=ByteArray.ext (Array.toList_inj.1 h)
theorem wB_list (l:List UInt8):(wB l).data.toList=l:=by unfold wB;simp
theorem wB_size (l:List UInt8):(wB l).size=l.length:=by rw [<- size_list,wB_list]
theorem wB_of (s:ByteArray):wB s.data.toList=s:=bx (wB_list _)
def bA (c:UInt8) (s:ByteArray):ByteArray:=wB (brk c s.data.toList).1
def bB (c:UInt8) (s:ByteArray):ByteArray:=wB (brk c s.data.toList).2.1
def bF (c:UInt8) (s:ByteArray):Bool:=(brk c s.data.toList).2.2
theorem bA_le (c:UInt8) (s:ByteArray):(bA c s).size<=s.size:=by
 have:=(brk_le (c:=c) s.data.toList).1
 rw [size_list] at this
 unfold bA;rw [wB_size];exact this
theorem bB_lt {c:UInt8} {s:ByteArray} (h:¬ s.size=0):(bB c s).size<s.size:=by
 have:=(brk_le (c:=c) s.data.toList).2 (fun e=>h (by rw [<- size_list,e];rfl))
 rw [size_list] at this
 unfold bB;rw [wB_size];exact this
theorem bB_le (c:UInt8) (s:ByteArray):(bB c s).size<=s.size:=by
 by_cases h:s.size=0
 ·have:s.data.toList=[]:=List.eq_nil_of_length_eq_zero (by rw [size_list];exact h)
  unfold bB;rw [this];exact Nat.zero_le _
 ·exact Nat.le_of_lt (bB_lt h)
theorem cutI_at {s:ByteArray} {c:Int}:∀ (n k:Nat),s.size-k<=n->k<=s.size->(Cuts.cutI s c k<s.size->(Fill.numAt s (Cuts.cutI s c k):Int)=c)/\k<=Cuts.cutI s c k/\∀ j,k<=j->j<Cuts.cutI s c k->(Fill.numAt s j:Int) ≠ c
 | n,k,hn,hk=>by
  by_cases h:k<s.size
  ·by_cases hc:(s[k].toNat:Int)=c
   ·have e:=Cuts.cutI_here h hc
    rw [e]
    exact ⟨fun _=>by rw [Fill.numAt_of h];exact hc,Nat.le_refl _,fun j h1 h2=>by omega⟩
   ·have e:=Cuts.cutI_next h hc
    rw [e]
    match n,hn with
    | 0,hn=>omega
    | n+1,hn =>
     obtain ⟨a,b,d⟩:=cutI_at (s:=s) (c:=c) n (k+1) (by omega) (by omega)
     refine ⟨a,by omega,fun j h1 h2=>?_⟩
     by_cases hj:j=k
     ·subst hj;rw [Fill.numAt_of h];exact hc
     ·exact d j (by omega) h2
  ·have e:=Cuts.cutI_end (c:=c) h
   rw [e]
   exact ⟨fun h'=>by omega,by omega,fun j h1 h2=>by omega⟩
theorem at_num {s:ByteArray} {c:UInt8} {k:Nat} (h:k<s.size):(Fill.numAt s k:Int)=(c.toNat:Int) ↔ s.data.toList[k]? = some c:=by
 rw [Fill.numAt_of h,at_list s k h]
 constructor
 ·intro e
  have:s[k]=c:=UInt8.toNat_inj.1 (by omega)
  rw [this]
 ·intro e
  rw [Option.some.inj e]
theorem cut_b (s:ByteArray) (c:UInt8):Cuts.cutA s (c.toNat:Int)=bA c s/\Cuts.cutB s (c.toNat:Int)=bB c s/\Cuts.cutF s (c.toNat:Int)=bF c s:=by
 obtain ⟨h1,_,h3⟩:=cutI_at (s:=s) (c:=(c.toNat:Int)) s.size 0 (by omega) (Nat.zero_le _)
 have hle:=Cuts.cutI_le s (c.toNat:Int) 0
 unfold Cuts.cutA Cuts.cutB Cuts.cutF
 generalize Cuts.cutI s (c.toNat:Int) 0=k at *
 by_cases hk:k<s.size
 ·have hc:=(at_num hk).1 (h1 hk)
  have e:s.data.toList=s.data.toList.take k ++ c :: s.data.toList.drop (k+1):=by
   have hl:k<s.data.toList.length:=by rw [size_list];exact hk
   have:=List.drop_eq_getElem_cons hl
   rw [List.getElem?_eq_getElem hl] at hc
   rw [Option.some.inj hc] at this
   rw [<- this,List.take_append_drop]
  have hb:brk c s.data.toList=(s.data.toList.take k,s.data.toList.drop (k+1),true):=by
   conv=>lhs;rw [e]
   refine brk_app _ _ fun d hd=>?_
   obtain ⟨j,hj,rfl⟩:=List.getElem_of_mem hd
   rw [List.length_take] at hj
   rw [List.getElem_take]
   intro ee
   exact h3 j (Nat.zero_le _) (by omega) ((at_num (by omega)).2 (by rw [List.getElem?_eq_getElem (by rw [size_list];omega),ee]))
  rw [decide_eq_true hk,if_pos rfl,if_pos rfl]
  refine ⟨bx ?_,bx ?_,?_⟩
  ·unfold bA;rw [wB_list,hb,Woru.ext_list];simp
  ·unfold bB;rw [wB_list,hb,Woru.ext_list,List.take_of_length_le (by rw [List.length_drop,size_list];omega)]
  ·unfold bF;rw [hb]
 ·have hb:brk c s.data.toList=(s.data.toList,[],false):=brk_none _ fun d hd=>by
   obtain ⟨j,hj,rfl⟩:=List.getElem_of_mem hd
   rw [size_list] at hj
   intro ee
   exact h3 j (Nat.zero_le _) (by omega) ((at_num hj).2 (by rw [List.getElem?_eq_getElem (by rw [size_list];exact hj),ee]))
  rw [decide_eq_false hk,if_neg (by decide),if_neg (by decide)]
  refine ⟨bx ?_,bx ?_,?_⟩
  ·unfold bA;rw [wB_list,hb]
  ·unfold bB;rw [wB_list,hb]
  ·unfold bF;rw [hb]
theorem sp_b (s:ByteArray):A s=bA 32 s/\B s=bB 32 s/\F s=bF 32 s:=by
 cases h:F s with
 | true =>
  obtain ⟨h1,h2⟩:=Woru.cut_eq h
  have hb:brk 32 s.data.toList=((A s).data.toList,(B s).data.toList,true):=by rw [h1];exact brk_app _ _ h2
  refine ⟨bx ?_,bx ?_,?_⟩
  ·unfold bA;rw [wB_list,hb]
  ·unfold bB;rw [wB_list,hb]
  ·unfold bF;rw [hb]
 | false =>
  obtain ⟨h1,h2⟩:=Woru.no_cut h
  have hb:brk 32 s.data.toList=(s.data.toList,[],false):=brk_none _ h2
  have hB:B s=⟨#[]⟩:=by
   have h':ix s = -1:=Decidable.of_not_not (of_decide_eq_false h)
   unfold B;rw [if_pos h']
  refine ⟨bx ?_,bx ?_,?_⟩
  ·unfold bA;rw [wB_list,hb,h1]
  ·unfold bB;rw [wB_list,hb,hB]
  ·unfold bF;rw [hb]
def lnB (ws:List ByteArray):ByteArray:=wB (Lib.join (ws.map (·.data.toList)) [32])
def Free (c:UInt8) (s:ByteArray):Prop:=∀ d ∈ s.data.toList,d ≠ c
theorem line_b (ws:List ByteArray):line ws=(lnB ws).data.toList ++ [10]:=by unfold line lnB;rw [wB_list]
theorem ln_cons {x:ByteArray} {ws:List ByteArray} (h:ws ≠ []):(lnB (x :: ws)).data.toList=x.data.toList ++ 32 :: (lnB ws).data.toList:=by
 unfold lnB
 rw [wB_list,wB_list,List.map_cons,Woru.join_cons (by simpa using h)]
theorem ln_one (x:ByteArray):lnB [x]=x:=bx (by unfold lnB;rw [wB_list];exact Woru.join_one _)
theorem ln_cut {x:ByteArray} {ws:List ByteArray} (h:ws ≠ []) (hx:Free 32 x):bA 32 (lnB (x :: ws))=x/\bB 32 (lnB (x :: ws))=lnB ws/\bF 32 (lnB (x :: ws))=true:=by
 have hb:brk 32 (lnB (x :: ws)).data.toList=(x.data.toList,(lnB ws).data.toList,true):=by rw [ln_cons h];exact brk_app _ _ hx
 refine ⟨bx ?_,bx ?_,?_⟩
 ·unfold bA;rw [wB_list,hb]
 ·unfold bB;rw [wB_list,hb]
 ·unfold bF;rw [hb]
theorem ln_cut0 {x:ByteArray} (hx:Free 32 x):bA 32 (lnB [x])=x/\bB 32 (lnB [x])=⟨#[]⟩/\bF 32 (lnB [x])=false:=by
 rw [ln_one]
 have hb:brk 32 x.data.toList=(x.data.toList,[],false):=brk_none _ hx
 refine ⟨bx ?_,bx ?_,?_⟩
 ·unfold bA;rw [wB_list,hb]
 ·unfold bB;rw [wB_list,hb]
 ·unfold bF;rw [hb]
theorem W_ln:∀ {ws:List ByteArray},ws ≠ []->(∀ x ∈ ws,Free 32 x)->W (lnB ws)=ws
 | [],h,_=>absurd rfl h
 | [x],_,hf=>by
  obtain ⟨a,b,c⟩:=ln_cut0 (hf x (List.mem_cons_self ..))
  obtain ⟨p,q,r⟩:=sp_b (lnB [x])
  rw [W_no (by rw [r,c]),p,a]
 | x :: y :: ws,_,hf=>by
  obtain ⟨a,b,c⟩:=ln_cut (x:=x) (ws:=y :: ws) (by simp) (hf x (List.mem_cons_self ..))
  obtain ⟨p,q,r⟩:=sp_b (lnB (x :: y :: ws))
  rw [W_on (by rw [r,c]),p,a,q,b,W_ln (by simp) (fun z hz=>hf z (List.mem_cons_of_mem _ hz))]
theorem words_on {r:Nat} {x:ByteArray} {ws:List ByteArray} (h1:1<=r) (h:ws ≠ []) (hx:Free 32 x):wordsL (r+1) (lnB (x :: ws))=x :: wordsL r (lnB ws):=by
 obtain ⟨a,b,c⟩:=ln_cut h hx
 obtain ⟨p,q,s⟩:=cut_b (lnB (x :: ws)) 32
 rw [words_succ]
 have e:((32:UInt8).toNat:Int)=32:=rfl
 rw [e] at p q s
 rw [if_pos ⟨h1,by rw [s,c]⟩,p,a,q,b]
theorem words_one {r:Nat} {x:ByteArray} (hx:Free 32 x):wordsL (r+1) (lnB [x])=[x]:=by
 obtain ⟨a,b,c⟩:=ln_cut0 hx
 obtain ⟨p,q,s⟩:=cut_b (lnB [x]) 32
 rw [words_succ]
 have e:((32:UInt8).toNat:Int)=32:=rfl
 rw [e] at s
 rw [if_neg (fun h=>by have:=h.2;rw [s,c] at this;cases this),ln_one]
def SN (s:ByteArray):List ByteArray:=Lib.splitB sp 0 (min 3 (s.size+1)-1) s
theorem split_on {k:Nat} {s:ByteArray} (h:F s=true):Lib.splitB sp 0 (k+1) s=A s :: Lib.splitB sp 0 k (B s):=by
 have h:=of_decide_eq_true h
 rcases ix_cases s with h'|⟨i,hi,hr⟩
 ·exact absurd h' h
 ·unfold A B
  rw [if_neg h,if_neg h,Lib.splitB_hit sp 0 _ s i hi,hi]
  rfl
theorem SN_ln {a b e:ByteArray} (ha:Free 32 a) (hb:Free 32 b):SN (lnB [a,b,e])=[a,b,e]:=by
 have hz:2<=(lnB [a,b,e]).size:=by
  rw [<- size_list,ln_cons (by simp),ln_cons (by simp)];simp;omega
 have e1:min 3 ((lnB [a,b,e]).size+1)-1=2:=by omega
 obtain ⟨p,q,r⟩:=ln_cut (x:=a) (ws:=[b,e]) (by simp) ha
 obtain ⟨p',q',r'⟩:=sp_b (lnB [a,b,e])
 obtain ⟨p2,q2,r2⟩:=ln_cut (x:=b) (ws:=[e]) (by simp) hb
 obtain ⟨p2',q2',r2'⟩:=sp_b (lnB [b,e])
 unfold SN
 rw [e1,split_on (by rw [r',r]),p',p,q',q,split_on (by rw [r2',r2]),p2',p2,q2',q2,ln_one]
 rfl
theorem SN_le:∀ (k:Nat) (s:ByteArray),∀ x ∈ Lib.splitB sp 0 k s,x.size<=s.size
 | 0,s,x,hx=>by
  rw [Lib.splitB_zero,List.mem_singleton] at hx
  rw [hx];exact Nat.le_refl _
 | k+1,s,x,hx=>by
  cases h:F s with
  | true =>
   rw [split_on h] at hx
   rcases List.mem_cons.1 hx with rfl|hx
   ·exact A_le s
   ·have:=SN_le k (B s) x hx
    have:=B_le s
    omega
  | false =>
   have h':ix s = -1:=Decidable.of_not_not (of_decide_eq_false h)
   rw [Lib.splitB_miss _ _ _ _ h',List.mem_singleton] at hx
   rw [hx];exact Nat.le_refl _
def numP (s:ByteArray):Option Int:=match Lib.parseIntB 64 s.data.toList with|.ok n=>some n|_=>none
theorem numP_dec {n:Int} (h0:-4000000000<=n) (h1:n<=4000000000):numP (decW n)=some n:=by
 have e:(decW n).data.toList=Lib.itoa n:=by unfold decW;simp
 unfold numP
 rw [e,Pint.parse_itoa h0 h1]
theorem numS_dec {n:Int} (h0:-4000000000<=n) (h1:n<=4000000000):Pint.numS (decW n).data.toList=some n:=by
 have e:(decW n).data.toList=Lib.itoa n:=by unfold decW;simp
 have:=decW_le h0 h1
 rw [e,Pint.numS_itoa (by rw [<- e,size_list];exact this)]
theorem by_two:∀ c:Fin 256,dS ((two (UInt8.ofNat c.val)).getD 0 0) ≠ 99/\dS ((two (UInt8.ofNat c.val)).getD 1 0) ≠ 99/\UInt8.ofNat (16*dS ((two (UInt8.ofNat c.val)).getD 0 0)+dS ((two (UInt8.ofNat c.val)).getD 1 0)).toNat=UInt8.ofNat c.val:=by decide +kernel
theorem by_flat:∀ l:List UInt8,byO (l.flatMap two)=some l
 | []=>rfl
 | c :: l=>by
  have h:=by_two ⟨c.toNat,c.toNat_lt⟩
  have e:UInt8.ofNat c.toNat=c:=by simp
  simp only [e] at h
  rw [List.flatMap_cons]
  have e2:two c ++ l.flatMap two=(two c).getD 0 0 :: (two c).getD 1 0 :: l.flatMap two:=rfl
  rw [e2,byO_cons,if_neg (fun q=>q.elim h.1 h.2.1),by_flat l,h.2.2]
  rfl
theorem by_hex (s:ByteArray):byO (hexA s).data.toList=some s.data.toList:=by
 have e:(hexA s).data.toList=s.data.toList.flatMap two:=by unfold hexA;simp
 rw [e];exact by_flat _
theorem free_of {s:ByteArray} {c:UInt8} (h:∀ d ∈ s.data.toList,33<=d.toNat) (hc:c.toNat<33):Free c s:=fun d hd e=>by
 have:=h d hd;rw [e] at this;omega
def Gr (s:ByteArray):Prop:=∀ d ∈ s.data.toList,33<=d.toNat
theorem gr_digits:∀ (k u:Nat),u<=k->∀ c ∈ Lib.decDigits u,33<=c.toNat
 | k,u,hk,c,hc=>by
  have one:∀ d,d<10->33<=(UInt8.ofNat (48+d)).toNat:=by decide
  rw [Lib.decDigits] at hc
  by_cases h:u<10
  ·rw [dif_pos h,List.mem_singleton] at hc
   rw [hc];exact one u h
  ·rw [dif_neg h] at hc
   match k,hk with
   | 0,hk=>omega
   | k+1,hk =>
    rcases List.mem_append.1 hc with hc|hc
    ·exact gr_digits k (u / 10) (by omega) c hc
    ·rw [List.mem_singleton.1 hc]
     exact one (u%10) (by omega)
theorem gr_dec (n:Int):Gr (decW n):=fun c hc=>by
 have e:(decW n).data.toList=Lib.itoa n:=by unfold decW;simp
 rw [e] at hc
 unfold Lib.itoa at hc
 split at hc
 ·rcases List.mem_cons.1 hc with rfl|hc
  ·decide
  ·exact gr_digits _ _ (Nat.le_refl _) c hc
 ·exact gr_digits _ _ (Nat.le_refl _) c hc
theorem gr_name {s:ByteArray} (h:Names.nameB s=true):Gr s:=by
 have h:=(of_decide_eq_true h).2.2.2
 intro c hc
 obtain ⟨j,hj,hj2⟩:=List.getElem_of_mem hc
 rw [size_list] at hj
 have h:=h j hj
 have e2:s[j]=c:=by rw [<- hj2,Array.getElem_toList];rfl
 rw [e2] at h
 have all:∀ d:Fin 256,Names.nbB ((UInt8.ofNat d.val).toNat:Int)=true->33<=(UInt8.ofNat d.val).toNat:=by decide +kernel
 have:=all ⟨c.toNat,c.toNat_lt⟩
 have e:UInt8.ofNat c.toNat=c:=by simp
 simp only [e] at this
 exact this h
theorem gr_two:∀ c:Fin 256,∀ d ∈ two (UInt8.ofNat c.val),33<=d.toNat:=by decide +kernel
theorem gr_hex (s:ByteArray):Gr (hexA s):=fun d hd=>by
 have e:(hexA s).data.toList=s.data.toList.flatMap two:=by unfold hexA;simp
 rw [e] at hd
 obtain ⟨c,_,hc⟩:=List.mem_flatMap.1 hd
 have:=gr_two ⟨c.toNat,c.toNat_lt⟩
 have e2:UInt8.ofNat c.toNat=c:=by simp
 simp only [e2] at this
 exact this d hc
theorem ops_gr:∀ k,k<15->∀ c ∈ (Optx.opTab.getD k ⟨#[]⟩).data.toList,33<=c.toNat:=by decide
theorem gr_word {x:Stepx.Node} (h:Extx.NodeOk x):Gr (wordB x):=by
 obtain ⟨kd,n,s⟩:=x
 have h:Steps.nodeB kd n s=true:=h
 have name:(kd=2 \/ kd=3)->Names.nameB s=true:=fun hk=>by
  unfold Steps.nodeB at h
  rw [if_neg (by omega),if_pos hk] at h
  exact (Bool.and_eq_true_iff.1 h).2
 rcases Extx.kinds_of h with rfl|rfl|rfl|hk|hk
 ·have e:wordB (1,n,s)=decW n:=by unfold wordB;simp
  rw [e];exact gr_dec n
 ·have e:wordB (2,n,s)=s:=by unfold wordB;simp
  rw [e];exact gr_name (name (.inl rfl))
 ·have e:(wordB (3,n,s)).data.toList=35 :: s.data.toList:=by unfold wordB;simp
  intro c hc
  rw [e] at hc
  rcases List.mem_cons.1 hc with rfl|hc
  ·decide
  ·exact gr_name (name (.inr rfl)) c hc
 ·rw [Extx.word_op (by omega)]
  exact ops_gr (kd-4).toNat (by omega)
 ·rw [Extx.word_op (by omega)]
  exact ops_gr (kd-4).toNat (by omega)
theorem join_ge:∀ (X:List (List UInt8)),(∀ x ∈ X,∀ c ∈ x,32<=c.toNat)->∀ c ∈ Lib.join X [32],32<=c.toNat
 | [],_,c,hc=>by cases hc
 | [x],h,c,hc=>by rw [Woru.join_one] at hc;exact h x (List.mem_cons_self ..) c hc
 | x :: y :: X,h,c,hc=>by
  rw [Woru.join_cons (by simp)] at hc
  rcases List.mem_append.1 hc with hc|hc
  ·exact h x (List.mem_cons_self ..) c hc
  ·rcases List.mem_cons.1 hc with rfl|hc
   ·decide
   ·exact join_ge (y :: X) (fun z hz=>h z (List.mem_cons_of_mem _ hz)) c hc
theorem gr_expr (L:List Stepx.Node):∀ c ∈ (exprT L).data.toList,32<=c.toNat:=by
 cases hx:Stepx.exprB L with
 | false =>
  intro c hc
  unfold exprT at hc
  rw [hx,if_neg (by decide)] at hc
  cases hc
 | true =>
  rw [Woru.text_of hx]
  refine join_ge _ fun x hx' c hc=>?_
  obtain ⟨y,hy,rfl⟩:=List.mem_map.1 hx'
  unfold Extx.words at hy
  obtain ⟨z,hz,rfl⟩:=List.mem_map.1 hy
  have:=gr_word ((Woru.ok_all hx).2 z hz) c hc
  omega
theorem ln_ten {ws:List ByteArray} (h:∀ x ∈ ws,∀ c ∈ x.data.toList,32<=c.toNat):Free 10 (lnB ws):=fun c hc e=>by
 unfold lnB at hc
 rw [wB_list] at hc
 have:=join_ge _ (fun x hx d hd=>by obtain ⟨y,hy,rfl⟩:=List.mem_map.1 hx;exact h y hy d hd) c hc
 rw [e] at this
 exact absurd this (by decide)
end Rlip
namespace Otxd
open Go.Deep
open Optx (decW Pow OpTab)
open Extx (exprT)
open Lib (byteCells strCells)
open Bld (Holds)
open Otxa Otxb Otxt Otxp Otxq Otxc Seco Obje
open Sta0 (Rg rg)
structure Inv (w:World) (B:Nat) (cs:Array Value) (l:List UInt8) (wr:World):Prop where
 hold:Holds B B (byteCells l) wr
 bel:Below w.heap.size w wr
 box:wr.heap[w.heap.size]? = some (.cells cs 28)
 le:B<=wr.heap.size
theorem Inv.step {w wr w':World} {B:Nat} {cs:Array Value} {l l':List UInt8} (h:Inv w B cs l wr) (hw:w.heap.size<B) (hb:Below B wr w') (hh:Holds B B (byteCells l') w'):Inv w B cs l' w' :=
 ⟨hh,h.bel.trans (hb.mono (Nat.le_of_lt hw)),(hb.block _ hw).trans h.box,Nat.le_trans h.le hb.size⟩
theorem Inv.below {w wr w':World} {B:Nat} {cs:Array Value} {l:List UInt8} (h:Inv w B cs l wr) (hw:w.heap.size<B) (hb:Below wr.heap.size wr w'):Inv w B cs l w':=h.step hw (hb.mono h.le) (Bld.holds_below h.hold hb)
theorem implText_any (x:Objr.X) (a0:Option Addr) (c0:Nat) (a1:Option Addr) (c1:Nat) (a2:Option Addr) (c2:Nat) (w:World) (hh:Objr.Has 0 w x a0 a1 a2) (hsm:Objr.SmallX x) (hT:Tabs w) :
  Calls prog 7 #[.agg (ocells x a0 c0 a1 c1 a2 c2)] w fun e w'=>e=.returned (.string (objV x))/\Below w.heap.size w w':=by
 have HT:Hid (Tabs w):=hT
 obtain ⟨u0,hu0⟩ : ∃ u,u=w.alloc (.cells (ocells x a0 c0 a1 c1 a2 c2) 28):=⟨_,rfl⟩
 have hb0:Below w.heap.size w u0:=by rw [hu0];exact zAl _ _
 have co:=fun W (hb:Below w.heap.size w W)=>implObj_any x a0 c0 a1 c1 a2 c2 W (hh.below hb) hsm
 have HB0:Hid (Below w.heap.size w u0):=hb0
 have hbx:u0.heap[w.heap.size]? = some (.cells (ocells x a0 c0 a1 c1 a2 c2) 28):=by rw [hu0];exact (MapKept.heap_alloc w _).1
 have HBX:Hid (u0.heap[w.heap.size]? = some (.cells (ocells x a0 c0 a1 c1 a2 c2) 28)):=hbx
 have HSZ:Hid (w.heap.size<u0.heap.size):=by show _<_;rw [hu0];simp
 have HHas:Hid (Objr.Has 0 w x a0 a1 a2):=hh
 clear hT hb0 hbx hh hsm
 cases hok:objB x
 ·rw [objV_no hok]
  rw [hok] at co
  clear hok
  go_enter func7,ntmps7
  go_upto_region 1 with fail
  rw [<- hu0]
  clear hu0
  have l0:=cel HBX.out 0 (.slice a0 x.f0.length c0) rfl
  have l1:=cel HBX.out 1 (.slice a1 x.f1.length c1) rfl
  have l2:=cel HBX.out 2 (.slice a2 x.f2.length c2) rfl
  go_wp2_with fail
  refine (co _ HB0.out).mono ?_
  rintro e w1 ⟨rfl,b1⟩
  have B1:Hid (Below w.heap.size w w1):=after HB0.out b1
  clear b1
  go_wp2
  go_ret
  exact ⟨rfl,B1.out⟩
 rw [objV_yes hok]
 have HR:Hid (Right x):=right_of hok
 rw [hok] at co
 clear hok
 go_enter func7,ntmps7
 go_upto_region 1 with fail
 rw [<- hu0]
 clear hu0
 have l0:=cel HBX.out 0 (.slice a0 x.f0.length c0) rfl
 have l1:=cel HBX.out 1 (.slice a1 x.f1.length c1) rfl
 have l2:=cel HBX.out 2 (.slice a2 x.f2.length c2) rfl
 go_wp2_with fail
 refine (co _ HB0.out).mono ?_
 rintro e wb ⟨rfl,b1⟩
 have HBb:Hid (Below w.heap.size w wb):=after HB0.out b1
 have HXb:Hid (wb.heap[w.heap.size]? = some (.cells (ocells x a0 c0 a1 c1 a2 c2) 28)):=(b1.block _ HSZ.out).trans HBX.out
 have HSb:Hid (w.heap.size<wb.heap.size):=Nat.lt_of_lt_of_le HSZ.out b1.size
 clear b1 co l0 l1 l2 HB0 HBX HSZ
 go_upto_region 4 with fail
 obtain ⟨u1,hu1⟩ : ∃ u,u=wb.alloc (.cells #[.pointer none,.slice none 0 0] 45):=⟨_,rfl⟩
 obtain ⟨B,hB⟩ : ∃ n,n=wb.heap.size:=⟨_,rfl⟩
 have HH:Hid (Holds B B (byteCells ([] ++ (x.f0.take 0).flatMap secT)) u1):=(show Holds _ _ _ _ from by rw [hu1,hB];exact Bld.holds_new wb)
 have hbu:Below wb.heap.size wb u1:=by rw [hu1];exact zAl _ _
 have HB1:Hid (Below w.heap.size w u1):=after HBb.out hbu
 have HX1:Hid (u1.heap[w.heap.size]? = some (.cells (ocells x a0 c0 a1 c1 a2 c2) 28)):=(hbu.block _ HSb.out).trans HXb.out
 have HwB:Hid (w.heap.size<B):=by show _<_;rw [hB];exact HSb.out
 have HBu:Hid (B<=u1.heap.size):=by show _<=_;rw [hB];exact hbu.size
 rw [<- hu1,<- hB]
 clear hu1 hbu hB HBb HXb HSb
 have HI:Hid (Inv w B (ocells x a0 c0 a1 c1 a2 c2) ([] ++ (x.f0.take 0).flatMap secT) u1):=⟨HH.out,HB1.out,HX1.out,HBu.out⟩
 clear HH HB1 HX1 HBu
 have hn0:=HR.out.l0
 have hn1:=HR.out.l1
 have hn2:=HR.out.l2
 have HL0:Hid (∀ k,((x.f0.take k).flatMap secT).length<=180000*12):=take_flat secT 180000 12 x.f0 hn0 (fun i hi=>sec_len (sec_b (HR.out.sec i hi)))
 have HL1:Hid (∀ k,((x.f1.take k).flatMap symT).length<=100*200):=take_flat symT 100 200 x.f1 hn1 (fun i hi=>symT_le (sym_b hn0 HR.out.sec (HR.out.sym i hi).sym))
 have HL2:Hid (∀ k,((x.f2.take k).flatMap assT).length<=700*12):=take_flat assT 700 12 x.f2 hn2 (fun i hi=>ass_len)
 obtain ⟨n0,hm0⟩ : ∃ n,n=x.f0.length:=⟨_,rfl⟩
 obtain ⟨n1,hm1⟩ : ∃ n,n=x.f1.length:=⟨_,rfl⟩
 obtain ⟨n2,hm2⟩ : ∃ n,n=x.f2.length:=⟨_,rfl⟩
 have HM:Hid (n0=x.f0.length/\n1=x.f1.length/\n2=x.f2.length):=⟨hm0,hm1,hm2⟩
 rw [<- hm0] at hn0
 rw [<- hm1] at hn1
 rw [<- hm2] at hn2
 have l0:u1.cell? ⟨w.heap.size,0,none⟩=some (.slice a0 n0 c0):=by rw [hm0];exact cel HI.out.box 0 _ rfl
 clear hm0 hm1 hm2
 go_wp2_with fail
 go_loopw [15] (fun i wr=>∃ k:Nat,k<=n0/\i=.int .i64 (k:Int)/\Hid (Inv w B (ocells x a0 c0 a1 c1 a2 c2) ([] ++ (x.f0.take k).flatMap secT) wr)) (fun i _=>n0-(intOf i).toNat)
 case atStart=>exact ⟨0,Nat.zero_le _,rfl,HI.out⟩
 case round =>
  obtain ⟨k,hk,rfl,HIk⟩:=hrel
  clear HI l0
  by_cases hlt:k<n0
  ·have hkx:k<x.f0.length:=by rw [<- HM.out.1];exact hlt
   rcases HHas.out.1 with hnil|⟨sb,so,rfl,_,hsb,hat⟩
   ·exfalso;rw [hnil] at hkx;exact absurd hkx (by simp)
   obtain ⟨a5,c5,kA,kH⟩:=sec_at (hat k hkx) hsb
   have hlk:=HL0.out k
   have ct:=tellSec_any w B B ([] ++ (x.f0.take k).flatMap secT) x.f0[k] a5 c5 sb (so+k*6) wr kA kH (sec_b (HR.out.sec k hkx)) HT.out HIk.out.bel (Nat.le_of_lt HwB.out) HIk.out.hold HIk.out.le (by rw [List.nil_append];omega)
   rw [flat_snoc secT [] x.f0 k hkx] at ct
   have l0:wr.cell? ⟨w.heap.size,0,none⟩=some (.slice (some ⟨sb,so,none⟩) n0 c0):=by rw [HM.out.1];exact cel HIk.out.box 0 _ rfl
   have dl:decide ((k:Int)<(n0:Int))=true:=decide_eq_true (by omega)
   have dk:IntKind.i64.wrap ((k:Int)+1)=((k+1:Nat):Int):=by rw [IntKind.wrap_i64];omega
   have z0:(0:Int)<=(k:Int):=by omega
   have z1:(k:Int)<(n0:Int):=by omega
   clear hat kA kH
   go_wp2_with fail
   refine ct.mono ?_
   rintro e w2 ⟨rfl,h2,b2⟩
   have HI2:Hid (Inv w B (ocells x (some ⟨sb,so,none⟩) c0 a1 c1 a2 c2) ([] ++ (x.f0.take (k+1)).flatMap secT) w2):=HIk.out.step HwB.out b2 h2
   clear ct h2 b2 HIk l0
   go_wp2
   go_roundw
   case rel=>exact ⟨k+1,by omega,by go_num,HI2.out⟩
   case measure=>simp [intOf];omega
  ·have e:k=n0:=by omega
   subst e
   have dl:decide ((k:Int)<(k:Int))=false:=decide_eq_false (by omega)
   have hT0:=HL0.out k
   rw [HM.out.1,flat_all,List.nil_append] at HIk
   rw [HM.out.1,List.take_length] at hT0
   have HT1:Hid (objT x=x.f0.flatMap secT ++ x.f1.flatMap symT ++ x.f2.flatMap assT):=(show _=_ from rfl)
   generalize x.f0.flatMap secT=T0 at HIk hT0 HT1
   have HI:Hid (Inv w B (ocells x a0 c0 a1 c1 a2 c2) (T0 ++ (x.f1.take 0).flatMap symT) wr):=(show Inv _ _ _ _ _ from by rw [List.take_zero,List.flatMap_nil,List.append_nil];exact HIk.out)
   have l1:wr.cell? ⟨w.heap.size,1,none⟩=some (.slice a1 n1 c1):=by rw [HM.out.2.1];exact cel HI.out.box 1 _ rfl
   clear HIk HL0
   go_wp2_with fail
   go_loopw [27] (fun i wq=>∃ q:Nat,q<=n1/\i=.int .i64 (q:Int)/\Hid (Inv w B (ocells x a0 c0 a1 c1 a2 c2) (T0 ++ (x.f1.take q).flatMap symT) wq)) (fun i _=>n1-(intOf i).toNat)
   case atStart=>exact ⟨0,Nat.zero_le _,rfl,HI.out⟩
   case round =>
    obtain ⟨q,hq,rfl,HIq⟩:=hrel
    clear HI l1
    by_cases hlq:q<n1
    ·have hqx:q<x.f1.length:=by rw [<- HM.out.2.1];exact hlq
     rcases HHas.out.2.2.1 with hnil|⟨sb,so,rfl,_,hsb,hat⟩
     ·exfalso;rw [hnil] at hqx;exact absurd hqx (by simp)
     obtain ⟨d0,d1,d2,d3,_⟩:=hat q hqx
     have hsy:=sym_b (by have:=HR.out.l0;exact this) HR.out.sec (HR.out.sym q hqx).sym
     have HFS:Hid ((T0 ++ (x.f1.take q).flatMap symT) ++ symT x.f1[q]=T0 ++ (x.f1.take (q+1)).flatMap symT):=flat_snoc symT T0 x.f1 q hqx
     have HPT:Hid (symT x.f1[q]=line [wSymbol,x.f1[q].f0,decW x.f1[q].f1,decW x.f1[q].f2,decW (outN x.f1[q].f3)]):=(show _=_ from rfl)
     have hptl:=symT_le hsy
     have hpk:=HL1.out q
     have e0:=(HIq.out.bel.cell (p:=⟨sb,_,none⟩) hsb).trans d0
     have e1:=(HIq.out.bel.cell (p:=⟨sb,_,none⟩) hsb).trans d1
     have e2:=(HIq.out.bel.cell (p:=⟨sb,_,none⟩) hsb).trans d2
     have e3:=(HIq.out.bel.cell (p:=⟨sb,_,none⟩) hsb).trans d3
     obtain ⟨_,s0,s1,t0,t1⟩:=hsy
     clear hat d0 d1 d2 d3
     generalize x.f1[q]=P at *
     obtain ⟨u,hu⟩ : ∃ u,u=wr.alloc (.cells #[.string P.f0,.int .i64 P.f1,.int .i64 P.f2,.bool P.f3] 49):=⟨_,rfl⟩
     obtain ⟨bp,hbp⟩ : ∃ n,n=wr.heap.size:=⟨_,rfl⟩
     have q0:u.cell? ⟨bp,0,none⟩=some (.string P.f0):=by rw [hu,hbp];exact World.cell?_alloc_new _ _ _ _
     have q1:u.cell? ⟨bp,1,none⟩=some (.int .i64 P.f1):=by rw [hu,hbp];exact World.cell?_alloc_new _ _ _ _
     have q2:u.cell? ⟨bp,2,none⟩=some (.int .i64 P.f2):=by rw [hu,hbp];exact World.cell?_alloc_new _ _ _ _
     have q3:u.cell? ⟨bp,3,none⟩=some (.bool P.f3):=by rw [hu,hbp];exact World.cell?_alloc_new _ _ _ _
     have hub:Below wr.heap.size wr u:=by rw [hu];exact zAl _ _
     have HIu:=(show Hid _ from HIq.out.below HwB.out hub)
     have k1:Rg 24 #[.int .i64 P.f1] u (.string (decW P.f1)):=rg fun W hb=>decimal_any P.f1 W (HT.out.below (after HIu.out.bel hb)).pow (by omega) (by omega)
     have k2:Rg 24 #[.int .i64 P.f2] u (.string (decW P.f2)):=rg fun W hb=>decimal_any P.f2 W (HT.out.below (after HIu.out.bel hb)).pow (by omega) (by omega)
     have k3:Rg 24 #[.int .i64 (outN P.f3)] u (.string (decW (outN P.f3))):=rg fun W hb=>decimal_any (outN P.f3) W (HT.out.below (after HIu.out.bel hb)).pow (by unfold outN;split <;> omega) (by unfold outN;split <;> omega)
     have k4:Rg 25 #[.bool P.f3,.int .i64 1,.int .i64 0] u (.int .i64 (outN P.f3)):=rg fun W hb=>(chosen_any P.f3 1 0 W).mono fun e w' h=>⟨h.1,by rw [h.2];exact zRf⟩
     have r0:=cell_regrown q0
     have r1:=cell_regrown q1
     have r2:=cell_regrown q2
     have r3:=cell_regrown q3
     have dl:decide ((q:Int)<(n1:Int))=true:=decide_eq_true (by omega)
     have dk:IntKind.i64.wrap ((q:Int)+1)=((q+1:Nat):Int):=by rw [IntKind.wrap_i64];omega
     have z0:(0:Int)<=(q:Int):=by omega
     have z1:(q:Int)<(n1:Int):=by omega
     clear hub
     go_upto_region 12 with fail
     rw [<- hu,<- hbp]
     clear hu hbp e0 e1 e2 e3 q0 q1 q2 q3 HIq
     refine Qtail.tail_below 12 (by kernel_rfl) (by kernel_rfl) ?_
     simp only [List.take_succ_cons,List.take_zero,List.drop_succ_cons,List.drop_zero]
     generalize decW P.f1=D1 at k1 HPT
     generalize decW P.f2=D2 at k2 HPT
     generalize decW (outN P.f3)=D3 at k3 HPT
     generalize outN P.f3=on3 at k3 k4
     repeat (go_big_quiet_step (first|fail|with_reducible exact k1 _ _|with_reducible exact k2 _ _|with_reducible exact k3 _ _|with_reducible exact k4 _ _))
     refine wpQuiet_nil ?_
     intro _ hw'
     obtain ⟨⟨dq,osq⟩,hw''⟩:=hw'
     subst hw''
     have hbr:=below_regrown u dq osq
     generalize Go.Sort.grow (redrawn u dq) osq=W3 at hbr |-
     have HI3:=(show Hid _ from HIu.out.below HwB.out hbr)
     clear hbr r0 r1 r2 r3 k1 k2 k3 k4 HIu
     have HI3':=(show Hid _ from HI3.out.below HwB.out ((Below.refl W3.heap.size W3).alloc (Nat.le_refl _) (.cells #[.string ⟨#[115,121,109,98,111,108]⟩,.string P.f0,.string D1,.string D2,.string D3] 9)))
     go_wp2_with fail
     refine (tell_any B B W3.heap.size 5 _ [wSymbol,P.f0,D1,D2,D3] _ HI3'.out.hold HI3'.out.le (row_lit rfl) (by simp) (Nat.le_refl _) (by simp) (by rw [<- HPT.out,List.length_append];omega)).mono ?_
     rintro e w4 ⟨rfl,h4,b4⟩
     rw [<- HPT.out,HFS.out] at h4
     have HI4:=(show Hid _ from HI3'.out.step HwB.out b4 h4)
     clear h4 b4 HI3 HI3'
     go_wp2
     go_roundw
     case rel=>exact ⟨q+1,by omega,by go_num,HI4.out⟩
     case measure=>simp [intOf];omega
    ·have e:q=n1:=by omega
     subst e
     have dq:decide ((q:Int)<(q:Int))=false:=decide_eq_false (by omega)
     have hT1:=HL1.out q
     rw [HM.out.2.1,flat_all] at HIq
     rw [HM.out.2.1,List.take_length] at hT1
     generalize x.f1.flatMap symT=T1 at HIq hT1 HT1
     have HI:Hid (Inv w B (ocells x a0 c0 a1 c1 a2 c2) ((T0 ++ T1) ++ (x.f2.take 0).flatMap assT) wr):=(show Inv _ _ _ _ _ from by rw [List.take_zero,List.flatMap_nil,List.append_nil];exact HIq.out)
     have l2:wr.cell? ⟨w.heap.size,2,none⟩=some (.slice a2 n2 c2):=by rw [HM.out.2.2];exact cel HI.out.box 2 _ rfl
     have hTT:(T0 ++ T1).length<=180000*12+100*200:=by rw [List.length_append];omega
     generalize T0 ++ T1=T01 at HI HT1 hTT
     clear HIq HL1
     go_wp2_with fail
     go_loopw [49] (fun i wq=>∃ z:Nat,z<=n2/\i=.int .i64 (z:Int)/\Hid (Inv w B (ocells x a0 c0 a1 c1 a2 c2) (T01 ++ (x.f2.take z).flatMap assT) wq)) (fun i _=>n2-(intOf i).toNat)
     case atStart=>exact ⟨0,Nat.zero_le _,rfl,HI.out⟩
     case round =>
      obtain ⟨z,hz,rfl,HIz⟩:=hrel
      clear HI l2
      by_cases hlz:z<n2
      ·have hzx:z<x.f2.length:=by rw [<- HM.out.2.2];exact hlz
       rcases HHas.out.2.2.2.2.1 with hnil|⟨sb,so,rfl,_,hsb,hat⟩
       ·exfalso;rw [hnil] at hzx;exact absurd hzx (by simp)
       obtain ⟨ae,ce,d0,hrow,_⟩:=hat z hzx
       have hel:=expr_le (HR.out.ass z hzx)
       have HFS:Hid ((T01 ++ (x.f2.take z).flatMap assT) ++ assT x.f2[z]=T01 ++ (x.f2.take (z+1)).flatMap assT):=flat_snoc assT T01 x.f2 z hzx
       have HPT:Hid (assT x.f2[z]=line [wAssert,exprT x.f2[z].f0]):=(show _=_ from rfl)
       have hptl:=ass_len (a:=x.f2[z])
       have hpk:=HL2.out z
       have e0:=(HIz.out.bel.cell (p:=⟨sb,_,none⟩) hsb).trans d0
       clear hat d0
       generalize x.f2[z]=P at *
       have cx:=Extx.implText_any ae ce P.f0 wr (hrow.below HIz.out.bel).1 (by omega) (HT.out.below HIz.out.bel).op (HT.out.below HIz.out.bel).pow
       have dl:decide ((z:Int)<(n2:Int))=true:=decide_eq_true (by omega)
       have dk:IntKind.i64.wrap ((z:Int)+1)=((z+1:Nat):Int):=by rw [IntKind.wrap_i64];omega
       have z0:(0:Int)<=(z:Int):=by omega
       have z1:(z:Int)<(n2:Int):=by omega
       generalize exprT P.f0=D1 at cx HPT
       clear hrow
       go_wp2_with fail
       refine cx.mono ?_
       rintro e W3 ⟨rfl,hbr⟩
       have HI3:=(show Hid _ from HIz.out.below HwB.out hbr)
       have HI3':=(show Hid _ from HI3.out.below HwB.out ((Below.refl W3.heap.size W3).alloc (Nat.le_refl _) (.cells #[.string ⟨#[97,115,115,101,114,116]⟩,.string D1] 9)))
       clear hbr cx e0 HIz HI3
       go_wp2_with fail
       refine (tell_any B B W3.heap.size 2 _ [wAssert,D1] _ HI3'.out.hold HI3'.out.le (row_lit rfl) (by simp) (Nat.le_refl _) (by simp) (by rw [<- HPT.out,List.length_append];omega)).mono ?_
       rintro e w4 ⟨rfl,h4,b4⟩
       rw [<- HPT.out,HFS.out] at h4
       have HI4:=(show Hid _ from HI3'.out.step HwB.out b4 h4)
       clear h4 b4 HI3'
       go_wp2
       go_roundw
       case rel=>exact ⟨z+1,by omega,by go_num,HI4.out⟩
       case measure=>simp [intOf];omega
      ·have e:z=n2:=by omega
       subst e
       have dz:decide ((z:Int)<(z:Int))=false:=decide_eq_false (by omega)
       rw [HM.out.2.2,flat_all,<- HT1.out] at HIz
       have cs:=Tryz.Builder_String_any B B (objT x) wr HIz.out.hold HIz.out.le
       have HBW:Hid (Below w.heap.size w wr):=HIz.out.bel
       obtain ⟨R,hR⟩ : ∃ R,R=(⟨(objT x).toArray⟩ : ByteArray):=⟨_,rfl⟩
       rw [<- hR] at cs
       have HRR:Hid ((⟨(objT x).toArray⟩ : ByteArray)=R):=hR.symm
       clear hR
       clear HIz
       go_wp2_with fail
       refine cs.mono ?_
       rintro e w5 ⟨rfl,b5⟩
       have B5:Hid (Below w.heap.size w w5):=HBW.out.trans (b5.mono (Nat.le_of_lt HwB.out))
       clear b5 cs
       go_wp2
       go_ret
       exact ⟨ret_str HRR.out,B5.out⟩
end Otxd
end Go.Proofs.YtepafieckjnkdaaGreatDoor
