import Derived.Test.YtickfkphhngagaaGreatDoorP14
import Derived.Test.YtickfkphhngagaaGreatDoorP21
set_option linter.all false
set_option maxRecDepth 20000
set_option maxHeartbeats 8000000
open Go.ChangeShapes Go.WideShapes Go.ChangeAt Go.RowKit
open Go.Proofs.Tryz
namespace Go.Proofs.YtickfkphhngagaaGreatDoor
namespace Cmpf
open Go.Deep
open Rdr (Rd Post)
open Fine Cmpe
open Nodm (cellsOf Own)
theorem infix_any (rb:Nat) (w:World) (h:Rd w rb):Calls prog 115 #[.pointer (some ⟨rb,0,none⟩),.int .i64 1] w (IQ 82 w rb) :=
 infix_step rb 1 38 w h (by decide) (by decide) (by decide) (by decide) fun w h =>
  infix_step rb 2 16 w h (by decide) (by decide) (by decide) (by decide) fun w h =>
   infix_step rb 3 5 w h (by decide) (by decide) (by decide) (by decide) fun w h=>infix_deep rb w h
def Plain (t:ByteArray):Prop:=t ≠ ⟨#[110,101,103]⟩/\t ≠ ⟨#[110,111,116]⟩/\t ≠ ⟨#[104,105,103,104]⟩/\t ≠ ⟨#[108,111,119]⟩/\t ≠ ⟨#[122,122]⟩
theorem drop_pre {s t:ByteArray} {i:Nat} (h:Cmpa.here s i t=true):∃ r,s.data.toList.drop i=t.data.toList ++ r:=by
 obtain ⟨h1,h2⟩:=of_decide_eq_true h
 refine ⟨s.data.toList.drop (i+t.size),?_⟩
 have e:t.data.toList=(s.data.toList.drop i).take t.size:=by
  conv=>lhs;rw [<- h2]
  rw [ByteArray.data_extract,Array.toList_extract,List.extract_eq_take_drop]
  congr 1
  omega
 rw [e,<- List.drop_drop,List.take_append_drop]
theorem pre_here {s t:ByteArray} {i:Nat} {r:List UInt8} (hi:i<=s.size) (h:s.data.toList.drop i=t.data.toList ++ r):Cmpa.here s i t=true:=by
 have hl:s.data.toList.length-i=t.data.toList.length+r.length:=by have:=congrArg List.length h;simpa using this
 have e1:s.data.toList.length=s.size:=rfl
 have e2:t.data.toList.length=t.size:=rfl
 refine decide_eq_true ⟨by omega,?_⟩
 refine ByteArray.ext (Array.ext' ?_)
 rw [ByteArray.data_extract,Array.toList_extract,List.extract_eq_take_drop,h,show i+t.size-i=t.size by omega,<- e2,List.take_left]
theorem isPre {p l r:List UInt8} (h:l=p ++ r):p.isPrefixOf l=true:=by rw [h];exact List.isPrefixOf_iff_prefix.2 ⟨r,rfl⟩
theorem preIs {p l:List UInt8} (h:p.isPrefixOf l=true):∃ r,l=p ++ r:=by obtain ⟨r,hr⟩:=List.isPrefixOf_iff_prefix.1 h;exact ⟨r,hr.symm⟩
theorem plain_of {s t:ByteArray} (hf:F s) (h:Cmpa.Nm s t) (h0:t.size ≠ 0):Plain t:=by
 obtain ⟨i,h1,h2⟩:=h
 have hs:=(of_decide_eq_true h1).1
 have hi:i<s.data.toList.length:=by show i<s.size;omega
 have ok:=fine_at i hf hi
 obtain ⟨r,hr⟩:=drop_pre h1
 unfold okAt at ok
 simp only [Bool.and_eq_true,Bool.or_eq_true,Bool.not_eq_true'] at ok
 obtain ⟨⟨⟨⟨⟨⟨k1,k2⟩,k3⟩,k4⟩,k5⟩,k6⟩,k7⟩:=ok
 have no:∀ p:List UInt8,t=⟨p.toArray⟩->p.isPrefixOf (s.data.toList.drop i)=true:=fun p e=>by
  subst e;exact isPre (r:=r) (by rw [hr])
 have hlo:∀ (p pb bp:List UInt8) (tb:ByteArray),tb.data.toList=pb->bp=Cmpa.tBank.data.toList ++ p->(p.isPrefixOf (s.data.toList.drop i)=false \/ pb.isPrefixOf (s.data.toList.drop i)=true)->(Cmpa.here s i tb=false \/ ∃ j,i=j+5/\Cmpa.here s j Cmpa.tBank=true)->(∀ j,j<s.data.toList.length->bp.isPrefixOf (s.data.toList.drop j)=false)->t ≠ ⟨p.toArray⟩:=by
  intro p pb bp tb e1 e2 a1 a2 a3 e
  have hp:=no p e
  rcases a2 with a2|⟨j,hj,hb⟩
  ·rcases a1 with a1|a1
   ·rw [hp] at a1;cases a1
   ·obtain ⟨q,hq⟩:=preIs a1
    rw [<- e1] at hq
    rw [pre_here (by show i<=s.size;omega) hq] at a2
    cases a2
  ·obtain ⟨q,hq⟩:=drop_pre hb
   have hq5:s.data.toList.drop i=q:=by
    rw [hj,<- List.drop_drop,hq]
    exact List.drop_left' rfl
   obtain ⟨q',hq'⟩:=preIs hp
   rw [hq5] at hq'
   have:=a3 j (by omega)
   rw [isPre (r:=q') (by rw [hq,hq',e2,List.append_assoc])] at this
   cases this
 have bh:∀ j,j<s.data.toList.length->pBh.isPrefixOf (s.data.toList.drop j)=false/\pBl.isPrefixOf (s.data.toList.drop j)=false:=fun j hj=>by
  have ok:=fine_at j hf hj
  unfold okAt at ok
  simp only [Bool.and_eq_true,Bool.or_eq_true,Bool.not_eq_true'] at ok
  exact ⟨ok.1.1.2,ok.1.2⟩
 refine ⟨fun e=>?_,fun e=>?_,?_,?_,fun e=>?_⟩
 ·rw [no pNeg e] at k1;cases k1
 ·rw [no pNot e] at k2;cases k2
 ·exact hlo pHi pHiB pBh Cmpa.tHigh rfl rfl k3 (h2.elim (fun x=>.inl x.1) .inr) (fun j hj=>(bh j hj).1)
 ·exact hlo pLo pLoB pBl Cmpa.tLow rfl rfl k4 (h2.elim (fun x=>.inl x.2) .inr) (fun j hj=>(bh j hj).2)
 ·rw [no pZz e] at k7;cases k7
def Nice (x:Stepx.Node):Prop:=x.2.2.size<=200/\Plain x.2.2
theorem plain0:Plain ⟨#[]⟩:=⟨by decide,by decide,by decide,by decide,by decide⟩
theorem nice_of {s:ByteArray} {x:Stepx.Node} (hf:F s) (h:Cmpa.Good s x):Nice x:=by
 refine ⟨h.1,?_⟩
 by_cases h0:x.2.2.size=0
 ·have:x.2.2=⟨#[]⟩:=ByteArray.ext (Array.eq_empty_of_size_eq_zero h0)
  rw [this];exact plain0
 ·rcases h.2 with h|h
  ·exact absurd h h0
  ·exact plain_of hf h h0
theorem cells_set:∀ (L:List Stepx.Node) (k:Nat) (h:k<L.length) (v:Int),(cellsOf L).set (k*3) (.int .i64 v)=cellsOf (L.set k (v,L[k].2))
 | [],k,h,_=>absurd h (Nat.not_lt_zero _)
 | x :: L,0,_,v=>rfl
 | x :: L,k+1,h,v=>by
  have ih:=cells_set L k (by simpa using h) v
  have e:∀ (y:Stepx.Node) R,cellsOf (y :: R)=.int .i64 y.1 :: .int .i64 y.2.1 :: .string y.2.2 :: cellsOf R:=fun _ _=>rfl
  rw [show (k+1)*3=k*3+1+1+1 by omega]
  simp only [e,List.set_cons_succ,List.getElem_cons_succ]
  rw [ih]
theorem post_below {w w':World} {rb:Nat} (h:Rd w rb) (hb:Below w.heap.size w w'):Post w rb w' :=
 ⟨h.kept fun k hk=>hb.block k (Nat.lt_of_le_of_lt hk h.lt),⟨hb.os,hb.tape,hb.output,hb.size,fun k hk _=>hb.block k hk⟩⟩
theorem post_set {w w':World} {rb g i:Nat} {v:Value} (h:Post w rb w') (hg:w.heap.size<=g) (hr:rb<w.heap.size):Post w rb (w'.setCell ⟨g,i,none⟩ v) :=
 ⟨h.1.kept fun k hk=>Below.heap_setCell w' _ _ k (fun e=>by have e:k=g:=e;omega),⟨h.2.os,h.2.tape,h.2.output,by have:=h.2.size;simpa [World.setCell] using this,fun k hk hne=>(Below.heap_setCell w' _ _ k (fun e=>by have e:k=g:=e;omega)).trans (h.2.block k hk hne)⟩⟩
def EX (w:World) (rb:Nat) (e:Ending) (w':World):Prop:=(∃ (a:Option Addr) (cap:Nat) (L:List Stepx.Node),e=.returned (.slice a L.length cap)/\Nodm.Own w' w.heap.size (.slice a L.length cap) L/\L.length<=30/\∀ x ∈ L,Nice x)/\Post w rb w'
theorem expr_ne {L:List Stepx.Node} (h:Stepx.exprB L=true):0<L.length:=by
 cases L with
 | nil=>exact absurd h (by decide)
 | cons x L=>exact Nat.succ_pos _
theorem expr_any (rb:Nat) (w:World) (h:Rd w rb):Calls prog 83 #[.pointer (some ⟨rb,0,none⟩)] w (EX w rb):=by
 have H:Hid (Rd w rb):=h
 have hrl:=h.lt
 clear h
 go_enter func83,ntmps83
 go_wp2_with fail
 refine (infix_any _ _ H.out).mono ?_
 rintro e w1 ⟨⟨s,hs,rfl⟩,hp1⟩
 have P1:Hid (Post w rb w1):=hp1
 have h1:rb<w1.heap.size:=hp1.1.lt
 have hw1:w.heap.size<=w1.heap.size:=hp1.2.size
 clear hp1
 go_wp2_with fail
 refine (Cmpd.compiled_any s _ (Nat.le_trans hs.2 (by decide))).mono ?_
 rintro e w2 ⟨he,hb2⟩
 have P2:Hid (Post w rb w2):=P1.out.trans (post_below P1.out.1 hb2)
 have hw2:w1.heap.size<=w2.heap.size:=hb2.size
 clear hb2
 rcases he with rfl|⟨a,cap,L,rfl,ho,hl,hx,hg⟩
 ·have OW:Hid (Nodm.Own (w2.alloc (.cells #[.int .i64 1,.int .i64 5,.string ⟨#[]⟩] 122)) w.heap.size (.slice (some ⟨w2.heap.size,0,none⟩) 1 1) [(1,5,⟨#[]⟩)]):=World.ownsRow_lit w2 #[.int .i64 1,.int .i64 5,.string ⟨#[]⟩] 1 (by omega) (by decide) rfl
  go_wp2_with fail
  go_ret
  exact ⟨⟨_,1,[(1,5,⟨#[]⟩)],rfl,OW.out,by decide,fun x hx=>by rw [List.mem_singleton.1 hx];exact ⟨by decide,plain0⟩⟩,P2.out.alloc _⟩
 ·have N:Hid (∀ x ∈ L,Nice x):=fun x hx=>nice_of hs.1 (hg x hx)
  have hne:=expr_ne hx
  clear hx hg
  rcases ho.2 with ⟨hv,h0⟩|⟨g,c,cur,hv,hgb,_⟩
  ·omega
  ·cases hv
   have O2:Hid (Nodm.Own w2 w.heap.size (.slice (some ⟨g,0,none⟩) L.length cap) L):=Cmpd.own_low ho (by omega)
   have gn:g ≠ rb:=by omega
   clear ho
   go_wp2_with fail
   refine (Rdr.once_any _ _ _ P2.out.1 (by decide) (by decide)).mono ?_
   rintro e w3 ⟨⟨b,rfl⟩,hp3⟩
   have P3:Hid (Post w rb w3):=P2.out.trans hp3
   have O3:Hid (Nodm.Own w3 w.heap.size (.slice (some ⟨g,0,none⟩) L.length cap) L):=O2.out.kept hp3.2 (.inr (fun e=>gn (by simpa [Value.ownBlock] using e)))
   clear hp3 O2
   cases b with
   | false =>
    go_wp2_with fail
    go_ret
    exact ⟨⟨_,cap,L,rfl,O3.out,hl,N.out⟩,P3.out⟩
   | true =>
    go_wp2_with fail
    refine (Rdr.below_any _ _ _ P3.out.1 (by omega) (by omega)).mono ?_
    rintro e w4 ⟨⟨y,y0,y1,rfl⟩,hp4⟩
    have P4:Hid (Post w rb w4):=P3.out.trans hp4
    have O4:Hid (Nodm.Own w4 w.heap.size (.slice (some ⟨g,0,none⟩) L.length cap) L):=O3.out.kept hp4.2 (.inr (fun e=>gn (by simpa [Value.ownBlock] using e)))
    clear hp4 O3
    go_wp2_with fail
    refine (Rdr.off_any _ _ _ _ P4.out.1 (by decide) (by decide) (by decide)).mono ?_
    rintro e w5 ⟨⟨v,hv,rfl⟩,hp5⟩
    have P5:Hid (Post w rb w5):=P4.out.trans hp5
    have O5:=O4.out.kept hp5.2 (.inr (fun e=>gn (by simpa [Value.ownBlock] using e)))
    obtain ⟨k,rfl⟩:=Int.eq_ofNat_of_zero_le y0
    have hk:k<L.length:=by omega
    have hlen:(cellsOf L).length=L.length*3:=Nodm.cells_len L
    have f0:w5.frozen? ⟨g,k*3,none⟩=false:=O5.frozenAt _
    obtain ⟨x0,c0⟩ : ∃ x,w5.cell? ⟨g,k*3,none⟩=some x:=⟨_,(O5.cellAt (k*3) (by omega)).trans (List.getElem?_eq_getElem (by omega))⟩
    have h6:=(O5.stored (k*3) (.int .i64 v)).1
    rw [cells_set L k hk v] at h6
    have eL:(L.set k (v,L[k].2)).length=L.length:=List.length_set ..
    have O6:Hid (Nodm.Own (w5.setCell ⟨g,k*3,none⟩ (.int .i64 v)) w.heap.size (.slice (some ⟨g,0,none⟩) L.length cap) (L.set k (v,L[k].2))):=by show World.ownsRow _ _ _ _ _ _ _;rw [eL];exact h6
    have N6:Hid (∀ x ∈ L.set k (v,L[k].2),Nice x):=fun x hx=>by
     rcases List.mem_or_eq_of_mem_set hx with h|h
     ·exact N.out x h
     ·rw [h];exact N.out L[k] (List.getElem_mem hk)
    have P6:Hid (Post w rb (w5.setCell ⟨g,k*3,none⟩ (.int .i64 v))):=post_set P5.out (by omega) hrl
    have EL:Hid ((L.set k (v,L[k].2)).length=L.length):=eL
    have k1:(k:Int)<(L.length:Int):=by omega
    clear hp5 O5 h6 O4 eL y0 y1 N hlen P5 P4
    generalize L.set k (v,L[k].2)=L' at *
    go_wp2_with fail
    go_ret
    refine ⟨⟨_,cap,L',?_,by rw [EL.out];exact O6.out,by rw [EL.out];exact hl,N6.out⟩,P6.out⟩
    rw [EL.out];rfl
def DX (w:World) (e:Ending) (w':World):Prop:=(∃ (a:Option Addr) (cap:Nat) (L:List Stepx.Node),e=.returned (.slice a L.length cap)/\Nodm.Own w' w.heap.size (.slice a L.length cap) L/\L.length<=30/\∀ x ∈ L,Nice x)/\Below w.heap.size w w'
end Cmpf
namespace Back
open Go.Deep
open Optx Extx Exts Nodi Worr Wors Woru
open Stepx (exprB)
open Names (nameB nbB decB)
open Cmpf (Plain)
theorem word_snoc (b:Int):∀ (l:List UInt8) (n m:Int) (c:UInt8),Nums.word b n l=some m->Nums.digS (c.toNat:Int)<b->m*b+Nums.digS (c.toNat:Int)<=65535->Nums.word b n (l ++ [c])=some (m*b+Nums.digS (c.toNat:Int))
 | [],n,m,c,h,h1,h2=>by
  have e:n=m:=by simpa [Nums.word] using h
  subst e
  show (if _ then _ else _)=_
  rw [if_neg (by omega),if_neg (by omega)]
  rfl
 | a :: l,n,m,c,h,h1,h2=>by
  unfold Nums.word at h
  show (if _ then _ else _)=_
  split at h
  ·cases h
  ·rename_i g1
   rw [if_neg g1]
   split at h
   ·cases h
   ·rename_i g2
    rw [if_neg g2]
    exact word_snoc b l _ m c h h1 h2
theorem dig_at (d:Nat) (h:d<10):Nums.digS ((UInt8.ofNat (48+d)).toNat:Int)=(d:Int):=by
 have:d=0 \/ d=1 \/ d=2 \/ d=3 \/ d=4 \/ d=5 \/ d=6 \/ d=7 \/ d=8 \/ d=9:=by omega
 rcases this with rfl|rfl|rfl|rfl|rfl|rfl|rfl|rfl|rfl|rfl <;> decide
theorem word_dec:∀ (k u:Nat),u<=k->u<=65535->Nums.word 10 0 (Lib.decDigits u)=some (u:Int)
 | 0,u,hk,h=>by
  have e:u=0:=by omega
  subst e
  rw [Lib.decDigits,dif_pos (by decide)]
  decide
 | k+1,u,hk,h=>by
  by_cases h10:u<10
  ·rw [Lib.decDigits,dif_pos h10]
   have hd:=dig_at u h10
   show (if _ then _ else _)=_
   rw [hd,if_neg (by omega),if_neg (by omega)]
   show some _=_
   congr 1
   omega
  ·rw [Lib.decDigits,dif_neg h10]
   have ih:=word_dec k (u / 10) (by omega) (by omega)
   have hd:=dig_at (u%10) (by omega)
   rw [word_snoc 10 _ _ _ _ ih (by rw [hd];omega) (by rw [hd];omega),hd]
   congr 1
   omega
theorem dec_ne (u:Nat):∃ c l,Lib.decDigits u=c :: l/\48<=c.toNat/\c.toNat<=57:=by
 induction u using Nat.strongRecOn with
 | _ u ih =>
  by_cases h10:u<10
  ·refine ⟨UInt8.ofNat (48+u),[],by rw [Lib.decDigits,dif_pos h10],?_⟩
   have e:(UInt8.ofNat (48+u)).toNat=48+u:=by rw [UInt8.toNat_ofNat'];omega
   rw [e];omega
  ·obtain ⟨c,l,e,h1,h2⟩:=ih (u / 10) (by omega)
   exact ⟨c,l ++ [UInt8.ofNat (48+u%10)],by rw [Lib.decDigits,dif_neg h10,e];rfl,h1,h2⟩
theorem num_dec {n:Int} (h0:0<=n) (h1:n<=65535):Nums.num (decW n)=some n:=by
 have e:Lib.itoa n=Lib.decDigits n.toNat:=by unfold Lib.itoa;rw [if_neg (by omega)]
 have hl:=Extx.itoa_len h0 h1
 obtain ⟨c,l,ec,c0,c1⟩:=dec_ne n.toNat
 have hw:=word_dec n.toNat n.toNat (Nat.le_refl _) (by omega)
 rw [<- e] at ec hw
 have ed:(decW n).data.toList=Lib.itoa n:=rfl
 have hs:(decW n).size=(Lib.itoa n).length:=rfl
 have hpos:0<(Lib.itoa n).length:=by rw [ec];exact Nat.succ_pos _
 have hf:(decW n).data.getD 0 0=c:=by
  show (Lib.itoa n).toArray.getD 0 0=c
  rw [ec];rfl
 unfold Nums.num
 rw [if_neg (by omega),hf,if_neg (by omega),if_neg (by omega)]
 unfold Nums.base
 rw [if_neg (by omega),ed,hw]
 congr 1
 omega
theorem ops_num:∀ j,j<14->Nums.num (opTab.getD j ⟨#[]⟩)=none/\Nodi.hash (opTab.getD j ⟨#[]⟩)=false/\opI (opTab.getD j ⟨#[]⟩)=some j:=by decide +kernel
theorem ops_name:∀ j,4<=j->j<14->nameB (opTab.getD j ⟨#[]⟩)=false:=by
 intro j h0 h1
 have:j=4 \/ j=5 \/ j=6 \/ j=7 \/ j=8 \/ j=9 \/ j=10 \/ j=11 \/ j=12 \/ j=13:=by omega
 rcases this with rfl|rfl|rfl|rfl|rfl|rfl|rfl|rfl|rfl|rfl
 all_goals
  refine Names.name_no fun h=>?_
  have:=h.2.2.2 0 (by decide)
  exact absurd this (by decide)
theorem op_at {w:ByteArray} {j:Nat} (h:opI w=some j):j<14/\w=opTab.getD j ⟨#[]⟩:=by
 obtain ⟨h1,h2⟩:=op_of h
 refine ⟨h1,?_⟩
 unfold opW at h2
 rw [show (4+(j:Int)-4).toNat=j by omega] at h2
 exact h2.symm
theorem name_hash {s:ByteArray} (h:nameB s=true):Nodi.hash s=false:=by
 obtain ⟨h1,h2,h3,h4⟩:=of_decide_eq_true h
 refine decide_eq_false fun ⟨hp,e⟩=>?_
 rw [Nums.getD_at s hp] at e
 have:=h4 0 hp
 have e':(s[0].toNat:Int)=35:=by omega
 rw [e'] at this
 exact absurd this (by decide)
theorem empty_of {s:ByteArray} (h:s.toList.isEmpty=true):s=⟨#[]⟩:=by
 rw [ByteArray.toList_eq] at h
 exact ByteArray.ext (Array.toList_inj.1 (List.isEmpty_iff.1 h))
theorem node_back {x:Stepx.Node} (h:NodeOk x) (hp:Plain x.2.2):nodeI (wordB x)=x:=by
 obtain ⟨kd,n,s⟩:=x
 have hn:Steps.nodeB kd n s=true:=h
 change Plain s at hp
 by_cases k1:kd=1
 ·subst k1
  have hr:=Extx.word_of hn
  have hs:s=⟨#[]⟩:=by
   unfold Steps.nodeB at hn
   rw [if_pos rfl] at hn
   exact empty_of (Bool.and_eq_true_iff.1 hn).2
  subst hs
  have e:wordB (1,n,⟨#[]⟩)=decW n:=by unfold wordB;simp
  have hnum:=num_dec hr.1 hr.2
  have ho:opI (decW n)=none:=by
   cases ho:opI (decW n) with
   | none=>rfl
   | some j =>
    obtain ⟨j1,j2⟩:=op_at ho
    have:=(ops_num j j1).1
    rw [<- j2,hnum] at this
    cases this
  have hi:numI (decW n)=some n:=by unfold numI;rw [hnum];dsimp only;rw [if_pos (eqB.2 rfl)]
  rw [e]
  unfold nodeI
  rw [ho,hi]
 by_cases k2:kd=2
 ·subst k2
  have hh:n=0/\nameB s=true:=by
   unfold Steps.nodeB at hn
   rw [if_neg (show ¬ (2:Int)=1 by decide),if_pos (.inl rfl)] at hn
   obtain ⟨a,b⟩:=Bool.and_eq_true_iff.1 hn
   exact ⟨eq_of_beq a,b⟩
  obtain ⟨rfl,hnm⟩:=hh
  have e:wordB (2,0,s)=s:=by unfold wordB;simp
  have ho:opI s=none:=by
   cases ho:opI s with
   | none=>rfl
   | some j =>
    obtain ⟨j1,j2⟩:=op_at ho
    by_cases j4:4<=j
    ·rw [j2,ops_name j j4 j1] at hnm;cases hnm
    ·have:j=0 \/ j=1 \/ j=2 \/ j=3:=by omega
     rcases this with rfl|rfl|rfl|rfl
     ·exact absurd j2 hp.1
     ·exact absurd j2 hp.2.1
     ·exact absurd j2 hp.2.2.1
     ·exact absurd j2 hp.2.2.2.1
  have hi:numI s=none:=by
   cases hi:numI s with
   | none=>rfl
   | some m=>rw [(num_first (num_of hi).1).2] at hnm;cases hnm
  rw [e]
  unfold nodeI
  rw [ho,hi]
  dsimp only
  rw [name_hash hnm]
  rfl
 by_cases k3:kd=3
 ·subst k3
  have hh:n=0/\nameB s=true:=by
   unfold Steps.nodeB at hn
   rw [if_neg (show ¬ (3:Int)=1 by decide),if_pos (.inr rfl)] at hn
   obtain ⟨a,b⟩:=Bool.and_eq_true_iff.1 hn
   exact ⟨eq_of_beq a,b⟩
  obtain ⟨rfl,hnm⟩:=hh
  have e:wordB (3,0,s)=⟨#[35]⟩ ++ s:=by unfold wordB;simp
  obtain ⟨w,hw⟩ : ∃ w:ByteArray,w=⟨#[35]⟩ ++ s:=⟨_,rfl⟩
  have hl:w.data.toList=35 :: s.data.toList:=by rw [hw,ByteArray.data_append,Array.toList_append];rfl
  have hsz:w.size=s.size+1:=by rw [<- len_size,hl,List.length_cons,len_size]
  have hh:Nodi.hash w=true:=by
   refine decide_eq_true ⟨by omega,?_⟩
   have:w.data.getD 0 0=35:=by rw [Array.getD_eq_getD_getElem?,<- Array.getElem?_toList,hl];rfl
   rw [this];rfl
  have ho:opI w=none:=by
   cases ho:opI w with
   | none=>rfl
   | some j =>
    obtain ⟨j1,j2⟩:=op_at ho
    rw [j2,(ops_num j j1).2.1] at hh;cases hh
  have hi:numI w=none:=by
   cases hi:numI w with
   | none=>rfl
   | some m=>rw [(num_first (num_of hi).1).1] at hh;cases hh
  rw [e,<- hw]
  unfold nodeI
  rw [ho,hi]
  dsimp only
  rw [hh]
  have hx:w.extract 1 w.size=s:=by
   apply ByteArray.ext
   apply Array.toList_inj.1
   rw [ext_list,hl,List.drop_succ_cons,List.drop_zero,List.take_of_length_le (by rw [len_size];omega)]
  simp [hx]
 ·have hk:4<=kd/\kd<=17:=by
   have:=kinds_of hn
   omega
  have hh:n=0/\s=⟨#[]⟩:=by
   unfold Steps.nodeB at hn
   rw [if_neg k1,if_neg (by omega),if_pos hk] at hn
   obtain ⟨a,b⟩:=Bool.and_eq_true_iff.1 hn
   exact ⟨eq_of_beq a,empty_of b⟩
  obtain ⟨rfl,rfl⟩:=hh
  rw [word_op hk.1]
  unfold opW
  obtain ⟨j,hj⟩ : ∃ j:Nat,(kd-4).toNat=j:=⟨_,rfl⟩
  rw [hj]
  unfold nodeI
  rw [(ops_num j (by omega)).2.2]
  show ((4+(j:Int)),_,_)=_
  rw [show 4+(j:Int)=kd by omega]
theorem map_inj:∀ {X Y:List ByteArray},X.map (·.data.toList)=Y.map (·.data.toList)->X=Y
 | [],[],_=>rfl
 | [],_ :: _,h=>by cases h
 | _ :: _,[],h=>by cases h
 | a :: X,b :: Y,h=>by
  simp only [List.map_cons,List.cons.injEq] at h
  rw [ByteArray.ext (Array.toList_inj.1 h.1),map_inj h.2]
theorem words_ne {L:List Stepx.Node} (h:exprB L=true):L ≠ []:=fun e=>by subst e;exact absurd h (by decide)
theorem text_back {L:List Stepx.Node} (h:exprB L=true) (hp:∀ x ∈ L,Plain x.2.2):outI (exprT L)=some L:=by
 obtain ⟨h30,hok⟩:=ok_all h
 obtain ⟨jw,fw⟩:=join_W (exprT L).size (exprT L) (Nat.le_refl _)
 have hX:(W (exprT L)).map (·.data.toList)=(words L).map (·.data.toList):=by
  refine join_inj _ _ ?_ ?_ ?_ ?_ (by rw [jw,text_of h])
  ·intro e;exact W_ne _ (List.map_eq_nil_iff.1 e)
  ·intro e;exact words_ne h (List.map_eq_nil_iff.1 (List.map_eq_nil_iff.1 e))
  ·intro x hx
   obtain ⟨y,hy,rfl⟩:=List.mem_map.1 hx
   exact fw y hy
  ·intro x hx
   obtain ⟨y,hy,rfl⟩:=List.mem_map.1 hx
   obtain ⟨z,hz,rfl⟩:=List.mem_map.1 hy
   exact word_free (hok z hz)
 have hW:W (exprT L)=words L:=by
  exact map_inj hX
 have hm:(W (exprT L)).map nodeI=L:=by
  rw [hW]
  unfold words
  rw [List.map_map]
  exact (List.map_congr_left fun x hx=>node_back (hok x hx) (hp x hx)).trans (List.map_id _)
 unfold outI
 rw [hm,if_pos h]
end Back
namespace DrawE
open Go.Deep
open Rdr (Rd Post)
open Optx Extx Exts Nodi Worr Wors Woru
open Stepx (Nodes exprB)
theorem out_empty:outI ⟨#[]⟩=none:=by
 rw [same];unfold outS;rw [if_pos (.inl rfl)]
theorem out_text {L:List Stepx.Node} (hp:∀ x ∈ L,Cmpf.Plain x.2.2):(outI (exprT L)).isSome=exprB L/\(exprB L=true->lst (outI (exprT L))=L):=by
 cases h:exprB L with
 | true=>rw [Back.text_back h hp];exact ⟨rfl,fun _=>rfl⟩
 | false =>
  have e:exprT L=⟨#[]⟩:=by unfold exprT;rw [if_neg (by rw [h];decide)]
  rw [e,out_empty];exact ⟨rfl,fun h=>by cases h⟩
theorem sameExpr_any (a a':Option Addr) (cap cap':Nat) (L:List Stepx.Node) (w:World) (hN:Nodes w a L) (hN':Nodes w a' L) (hlen:L.length<=1048576) :
  Calls prog 54 #[.slice a L.length cap,.slice a' L.length cap'] w fun e w'=>e=.returned (.bool true)/\Below w.heap.size w w':=by
 obtain ⟨len,hl⟩ : ∃ len,len=L.length:=⟨_,rfl⟩
 have HL:Hid (len=L.length):=hl
 rw [<- hl] at hlen |-
 clear hl
 go_enter func54,ntmps54
 go_wp2
 go_loopw [5] (fun i wr=>∃ k:Nat,k<=len/\i=.int .i64 k/\Hid (Below w.heap.size w wr)) (fun i _=>len-(intOf i).toNat)
 case atStart=>exact ⟨0,Nat.zero_le _,rfl,Below.refl _ _⟩
 case round =>
  obtain ⟨k,hk,rfl,hbel⟩:=hrel
  by_cases hlt:k<len
  ·have hkL:k<L.length:=by have:=HL.out;omega
   rcases hN with hnil|⟨b,off,rfl,hb,hc⟩
   ·exfalso;rw [hnil] at hkL;exact absurd hkL (by simp)
   rcases hN' with hnil|⟨b',off',rfl,hb',hc'⟩
   ·exfalso;rw [hnil] at hkL;exact absurd hkL (by simp)
   obtain ⟨c0,c1,c2⟩ : wr.cell? ⟨b,off+k*3,none⟩=some (.int .i64 L[k].1)/\wr.cell? ⟨b,off+k*3+1,none⟩=some (.int .i64 L[k].2.1)/\wr.cell? ⟨b,off+k*3+2,none⟩=some (.string L[k].2.2):=by
    obtain ⟨d0,d1,d2,d3⟩:=hc k hkL
    exact ⟨(hbel.out.cell (p:=⟨b,_,none⟩) hb).trans d0,(hbel.out.cell (p:=⟨b,_,none⟩) hb).trans d1,(hbel.out.cell (p:=⟨b,_,none⟩) hb).trans d2⟩
   obtain ⟨e0,e1,e2⟩ : wr.cell? ⟨b',off'+k*3,none⟩=some (.int .i64 L[k].1)/\wr.cell? ⟨b',off'+k*3+1,none⟩=some (.int .i64 L[k].2.1)/\wr.cell? ⟨b',off'+k*3+2,none⟩=some (.string L[k].2.2):=by
    obtain ⟨d0,d1,d2,d3⟩:=hc' k hkL
    exact ⟨(hbel.out.cell (p:=⟨b',_,none⟩) hb').trans d0,(hbel.out.cell (p:=⟨b',_,none⟩) hb').trans d1,(hbel.out.cell (p:=⟨b',_,none⟩) hb').trans d2⟩
   clear hc hc'
   generalize L[k].1=kd at c0 e0
   generalize L[k].2.1=n at c1 e1
   generalize L[k].2.2=s at c2 e2
   have k0:(0:Int)<=(k:Int):=by omega
   have k1:(k:Int)<(len:Int):=by omega
   go_wp2_with fail
   go_quiet (fail)
   go_wp2_with fail
   go_roundw
   case rel=>exact ⟨k+1,by omega,by go_num,below_drewN hbel.out _⟩
   case measure=>simp [intOf];omega
  ·clear hN hN'
   go_wp2
   go_ret
   exact ⟨rfl,hbel.out⟩
end DrawE
namespace Drob
open Go.Deep
open Rown Rowo Rliq Rlip Otxp Otxq Obje Seco
open Rdr (Rd Post)
structure Sw (w:World) (base:Nat) (s:Sd):Prop where
 pat:w.ownsRow base 80 3 s.pv s.ps.length (s.ps.flatMap Pd.cells)
 pex:∀ p ∈ s.ps,ExOwn w base p.e p.l
theorem Sw.below {w w':World} {base:Nat} {s:Sd} (h:Sw w base s) (hb:Below w.heap.size w w'):Sw w' base s:=⟨own_below h.pat hb,fun p hp=>⟨own_below (h.pex p hp).1 hb,(h.pex p hp).2⟩⟩
theorem Sw.mono {w:World} {b b':Nat} {s:Sd} (hle:b'<=b) (h:Sw w b s):Sw w b' s:=⟨own_mono hle h.pat,fun p hp=>⟨own_mono hle (h.pex p hp).1,(h.pex p hp).2⟩⟩
theorem Sw.other {w w':World} {base:Nat} {s:Sd} {row:Option Nat} (h:Sw w base s) (hg:w.grownBy w' row)
  (hr:∀ (e:TypeId) (size:Nat) (v:Value) (n:Nat) (xs:List Value),(e=80 \/ e=122)->w.ownsRow base e size v n xs->v.ownBlock=none \/ v.ownBlock ≠ row):Sw w' base s :=
 ⟨h.pat.kept hg (hr _ _ _ _ _ (.inl rfl) h.pat),fun p hp=>⟨(h.pex p hp).1.kept hg (hr _ _ _ _ _ (.inr rfl) (h.pex p hp).1),(h.pex p hp).2⟩⟩
theorem own_post {w:World} {base rb:Nat} {e:TypeId} {size:Nat} {v:Value} {n:Nat} {xs:List Value} (h:w.ownsRow base e size v n xs) (hrb:rb<base):v.ownBlock=none \/ v.ownBlock ≠ some rb:=by
 cases hv:v.ownBlock with
 | none=>exact .inl rfl
 | some g=>exact .inr fun q=>by have:=(h.lt g hv).1;have:=Option.some.inj q;omega
theorem Sw.post {w w':World} {base rb:Nat} {s:Sd} (h:Sw w base s) (hp:Post w rb w') (hrb:rb<base):Sw w' base s:=h.other hp.2 fun _ _ _ _ _ _ hv=>own_post hv hrb
theorem Sw.type {w w':World} {base base':Nat} {s:Sd} {T:TypeId} {size n:Nat} {v:Value} {xs:List Value} (h:Sw w base s) (ho:w.ownsRow base' T size v n xs) (hg:w.grownBy w' v.ownBlock)
  (h1:80 ≠ T) (h2:122 ≠ T):Sw w' base s :=
 h.other hg fun e size v n xs he hv=>by
  rcases he with rfl|rfl
  ·exact own_ne hv ho h1
  ·exact own_ne hv ho h2
theorem Sw.box {w w':World} {base:Nat} {s:Sd} {T:TypeId} {g:Nat} {cur:Array Value} {m:Nat × Nat} (h:Sw w base s) (ho:w.heap[g]? = some (.cells cur T m)) (hg:w.grownBy w' (some g))
  (h1:80 ≠ T) (h2:122 ≠ T):Sw w' base s :=
 h.other hg fun e size v n xs he hv=>.inr (by
  rcases he with rfl|rfl
  ·exact own_ne_block hv ho h1
  ·exact own_ne_block hv ho h2)
theorem Sw.add {w w':World} {base:Nat} {s:Sd} (h:Sw w base s) (p:Pd) (v':Value) (hx:ExOwn w base p.e p.l)
  (ho:w'.ownsRow base 80 3 v' (s.ps.length+1) (s.ps.flatMap Pd.cells ++ p.cells)) (hg:w.grownBy w' s.pv.ownBlock):Sw w' base ⟨s.nm,s.k,s.b,s.a,s.d,v',s.ps ++ [p]⟩:=by
 have keepX:∀ {e:Value} {l:List Stepx.Node},ExOwn w base e l->ExOwn w' base e l:=fun {e l} hh=>⟨hh.1.kept hg (own_ne hh.1 h.pat (by decide)),hh.2⟩
 refine ⟨?_,fun q hq=>?_⟩
 ·show w'.ownsRow _ _ _ v' (s.ps ++ [p]).length ((s.ps ++ [p]).flatMap Pd.cells)
  rw [pcells_snoc,List.length_append]
  exact ho
 ·rcases List.mem_append.1 hq with hq|hq
  ·exact keepX (h.pex q hq)
  ·rw [List.mem_singleton.1 hq];exact keepX hx
structure Xn (s:Secr.X):Prop where
 nm:s.f0.size<=16
 d:s.f4.size<=16
 pn:s.f5.length<=2
 px:∀ p ∈ s.f5,p.f2.length<=30/\∀ x ∈ p.f2,Cmpf.Nice x
structure Dn (x:Objr.X):Prop where
 s:x.f0.length<=3
 sx:∀ s ∈ x.f0,Xn s
 y:x.f1.length<=4
 yx:∀ y ∈ x.f1,y.f0.size<=16
 a:x.f2.length<=1
 ax:∀ a ∈ x.f2,a.f0.length<=30/\∀ n ∈ a.f0,Cmpf.Nice n
theorem sm_of {x:Objr.X} (h:Dn x):Sm 4 x :=
 ⟨by have:=h.s;omega,h.y,by have:=h.a;omega,fun s hs=>by have:=h.sx s hs;exact ⟨by have:=this.nm;omega,by have:=this.d;omega,by have:=this.pn;omega⟩,
 fun s hs p hp=>by obtain ⟨l,n⟩:=(h.sx s hs).px p hp;exact ⟨by omega,fun y hy=>Nat.le_trans (n y hy).1 (by decide)⟩,
 fun y hy=>by have:=h.yx y hy;omega,fun a ha=>by obtain ⟨l,n⟩:=h.ax a ha;exact ⟨by omega,fun y hy=>Nat.le_trans (n y hy).1 (by decide)⟩⟩
theorem small_dn {x:Objr.X} (h:Dn x):Objr.SmallX x:=small_of (m:=4) (by decide) (sm_of h)
theorem small_xn {s:Secr.X} (h:Xn s):Secr.SmallX s:=by
 have a:=h.nm
 have b:=h.d
 have c:=h.pn
 refine ⟨⟨by omega,fun j hj=>?_⟩,by omega,by omega⟩
 have:=(h.px _ (List.getElem_mem hj)).1
 show _<=1048576
 omega
theorem rd_nice {L:List Stepx.Node} (h:Stepx.exprB L=true) (hn:∀ x ∈ L,Cmpf.Nice x):Rliq.Rd L:=by
 obtain ⟨h1,h2⟩:=DrawE.out_text (fun x hx=>(hn x hx).2)
 unfold Rliq.Rd
 rw [h] at h1
 obtain ⟨M,hM⟩:=Option.isSome_iff_exists.1 h1
 rw [hM]
 have:=h2 h
 rw [hM] at this
 exact congrArg some this
theorem rdo_of {x:Objr.X} (h:objB x=true) (hd:Dn x):RdO x:=by
 have R:=Otxq.right_of h
 refine ⟨fun s hs p hp=>?_,fun a ha=>?_⟩
 ·obtain ⟨i,hi,rfl⟩:=List.getElem_of_mem hs
  have b:=R.sec i hi
  unfold secB patchesB at b
  simp only [Bool.and_eq_true] at b
  have hb:=List.all_eq_true.1 b.2.2 p hp
  unfold patchB at hb
  simp only [Bool.and_eq_true] at hb
  exact rd_nice hb.2 ((hd.sx _ hs).px p hp).2
 ·obtain ⟨i,hi,rfl⟩:=List.getElem_of_mem ha
  exact rd_nice (R.ass i hi) (hd.ax _ ha).2
theorem size_of {x:Objr.X} (hd:Dn x):(objV x).size<=60000:=by
 cases h:objB x with
 | false=>rw [objV_no h];exact Nat.zero_le _
 | true =>
  have R:=Otxq.right_of h
  rw [objV_yes h]
  show (List.toArray _).size<=_
  rw [List.size_toArray]
  unfold objT
  rw [List.length_append,List.length_append]
  have l0:=all_flat secT 2100 3 x.f0 hd.s (fun i hi=>by
   have b:=sec_b (R.sec i hi)
   have q:=(hd.sx _ (List.getElem_mem hi)).pn
   have h1:=head_len b
   have h2:=all_flat patT 700 2 x.f0[i].f5 q (fun j hj=>by
    obtain ⟨a,b,c,d,_⟩:=b.pb j hj
    exact pat_len a b c d)
   unfold secT
   rw [List.length_append]
   omega)
  have l1:=all_flat symT 100 4 x.f1 hd.y (fun i hi=>symT_le (Otxq.sym_b R.l0 (fun i hi=>R.sec i hi) (R.sym i hi).1))
  have l2:=all_flat assT 700 1 x.f2 hd.a (fun i hi=>ass_len)
  omega
theorem again_dn {x:Objr.X} (h:objB x=true) (hd:Dn x):outI9 (objV x)=some x:=again h (rdo_of h hd) (size_of hd)
theorem px_of {s:Sd} (h:Xn s.x):∀ p ∈ s.ps,p.l.length<=30/\∀ x ∈ p.l,Cmpf.Nice x:=fun p hp=>h.px p.x (by show p.x ∈ s.ps.map Pd.x;exact List.mem_map_of_mem hp)
theorem sec_has {w:World} {base:Nat} {s:Sd} {a:Option Addr} {c:Nat} (h:Sw w base s) (hx:Xn s.x) (hv:s.pv=.slice a s.ps.length c):Secr.Has base w s.x a:=by
 have hrow:=h.pat
 rw [hv] at hrow
 have hR:=pat_row hrow h.pex (fun p hp=>by have:=(px_of hx p hp).1;omega)
 have a1:=hx.nm
 have a2:=hx.d
 have a3:=hx.pn
 exact ⟨hR,by unfold maxLen;omega,by unfold maxLen;omega,by unfold maxLen;omega⟩
theorem sec_row {w:World} {base:Nat} {a:Option Addr} {c:Nat} {ss:List Sd} (h:w.ownsRow base 38 6 (.slice a ss.length c) ss.length (ss.flatMap Sd.cells)) (hr:∀ s ∈ ss,Sw w base s) (hs:∀ s ∈ ss,Xn s.x):Secr.Row base w a (ss.map Sd.x):=by
 by_cases h0:ss=[]
 ·exact .inl (by rw [h0];rfl)
 match a,h with
 | none,h =>
  rcases h.2 with ⟨_,hn⟩|⟨g,cap,cur,hv,_⟩
  ·exact absurd (List.eq_nil_of_length_eq_zero hn) h0
  ·cases hv
 | some ⟨g,off,sp⟩,h =>
  have hsp:sp=none:=by
   rcases h.2 with ⟨hv,_⟩|⟨g',cap,cur,hv,_⟩
   ·cases hv
   ·cases hv;rfl
  subst hsp
  obtain ⟨rfl,hb,hlt,hc⟩:=row_cells h
  refine .inr ⟨g,0,rfl,hb,hlt,fun i hi=>?_⟩
  have hi':i<ss.length:=by simpa using hi
  have hmem:ss[i] ∈ ss:=List.getElem_mem hi'
  obtain ⟨pa,pc,hpv⟩:=own_slice (hr _ hmem).pat
  have hH:=sec_has (hr _ hmem) (hs _ hmem) hpv
  have f:=flat_at Sd.cells 6 (fun _=>rfl) ss i hi'
  rw [List.getElem_map,Nat.zero_add]
  exact ⟨pa,pc,hc _ _ ((f 0 (by omega)).trans rfl),hc _ _ ((f 1 (by omega)).trans rfl),hc _ _ ((f 2 (by omega)).trans rfl),hc _ _ ((f 3 (by omega)).trans rfl),hc _ _ ((f 4 (by omega)).trans rfl),hc _ _ ((f 5 (by omega)).trans (by show some ss[i].pv=_;rw [hpv];show _=some (Value.slice pa (ss[i].ps.map Pd.x).length pc);rw [List.length_map])),hH⟩
structure Dw (w:World) (base:Nat) (sv:Value) (ss:List Sd) (yv:Value) (ys:List Osyr.X) (av:Value) (aa:List Ad):Prop where
 sec:w.ownsRow base 38 6 sv ss.length (ss.flatMap Sd.cells)
 secs:∀ s ∈ ss,Sw w base s
 sym:w.ownsRow base 63 4 yv ys.length (ys.flatMap yCells)
 ass:w.ownsRow base 67 1 av aa.length (aa.map (·.e))
 aex:∀ a ∈ aa,ExOwn w base a.e a.l
theorem Dw.other {w w':World} {base:Nat} {sv yv av:Value} {ss:List Sd} {ys:List Osyr.X} {aa:List Ad} {row:Option Nat} (h:Dw w base sv ss yv ys av aa) (hg:w.grownBy w' row)
  (hr:∀ (e:TypeId) (size:Nat) (v:Value) (n:Nat) (xs:List Value),(e=80 \/ e=122 \/ e=38 \/ e=63 \/ e=67)->w.ownsRow base e size v n xs->v.ownBlock=none \/ v.ownBlock ≠ row):Dw w' base sv ss yv ys av aa :=
 ⟨h.sec.kept hg (hr _ _ _ _ _ (.inr (.inr (.inl rfl))) h.sec),fun s hs=>(h.secs s hs).other hg fun e size v n xs he hv=>hr e size v n xs (he.elim .inl fun q=>.inr (.inl q)) hv,h.sym.kept hg (hr _ _ _ _ _ (.inr (.inr (.inr (.inl rfl)))) h.sym),h.ass.kept hg (hr _ _ _ _ _ (.inr (.inr (.inr (.inr rfl)))) h.ass),fun a ha=>⟨(h.aex a ha).1.kept hg (hr _ _ _ _ _ (.inr (.inl rfl)) (h.aex a ha).1),(h.aex a ha).2⟩⟩
theorem Dw.below {w w':World} {base:Nat} {sv yv av:Value} {ss:List Sd} {ys:List Osyr.X} {aa:List Ad} (h:Dw w base sv ss yv ys av aa) (hb:Below w.heap.size w w'):Dw w' base sv ss yv ys av aa :=
 ⟨own_below h.sec hb,fun s hs=>(h.secs s hs).below hb,own_below h.sym hb,own_below h.ass hb,fun a ha=>⟨own_below (h.aex a ha).1 hb,(h.aex a ha).2⟩⟩
theorem Dw.post {w w':World} {base rb:Nat} {sv yv av:Value} {ss:List Sd} {ys:List Osyr.X} {aa:List Ad} (h:Dw w base sv ss yv ys av aa) (hp:Post w rb w') (hrb:rb<base):Dw w' base sv ss yv ys av aa:=h.other hp.2 fun _ _ _ _ _ _ hv=>own_post hv hrb
theorem Dw.box {w w':World} {base:Nat} {sv yv av:Value} {ss:List Sd} {ys:List Osyr.X} {aa:List Ad} {T:TypeId} {g:Nat} {cur:Array Value} {m:Nat × Nat} (h:Dw w base sv ss yv ys av aa) (ho:w.heap[g]? = some (.cells cur T m)) (hg:w.grownBy w' (some g))
  (h1:80 ≠ T) (h2:122 ≠ T) (h3:38 ≠ T) (h4:63 ≠ T) (h5:67 ≠ T):Dw w' base sv ss yv ys av aa :=
 h.other hg fun e size v n xs he hv=>.inr (by
  rcases he with rfl|rfl|rfl|rfl|rfl
  ·exact own_ne_block hv ho h1
  ·exact own_ne_block hv ho h2
  ·exact own_ne_block hv ho h3
  ·exact own_ne_block hv ho h4
  ·exact own_ne_block hv ho h5)
theorem Dw.addS {w w':World} {base:Nat} {sv yv av:Value} {ss:List Sd} {ys:List Osyr.X} {aa:List Ad} (h:Dw w base sv ss yv ys av aa) (s:Sd) (v':Value) (hs:Sw w base s)
  (ho:w'.ownsRow base 38 6 v' (ss.length+1) (ss.flatMap Sd.cells ++ s.cells)) (hg:w.grownBy w' sv.ownBlock):Dw w' base v' (ss ++ [s]) yv ys av aa:=by
 refine ⟨by rw [cells_snoc,List.length_append];exact ho,fun t ht=>?_,h.sym.kept hg (own_ne h.sym h.sec (by decide)),h.ass.kept hg (own_ne h.ass h.sec (by decide)),fun a ha=>⟨(h.aex a ha).1.kept hg (own_ne (h.aex a ha).1 h.sec (by decide)),(h.aex a ha).2⟩⟩
 rcases List.mem_append.1 ht with ht|ht
 ·exact (h.secs t ht).type h.sec hg (by decide) (by decide)
 ·rw [List.mem_singleton.1 ht];exact hs.type h.sec hg (by decide) (by decide)
theorem Dw.addY {w w':World} {base:Nat} {sv yv av:Value} {ss:List Sd} {ys:List Osyr.X} {aa:List Ad} (h:Dw w base sv ss yv ys av aa) (y:Osyr.X) (v':Value)
  (ho:w'.ownsRow base 63 4 v' (ys.length+1) (ys.flatMap yCells ++ yCells y)) (hg:w.grownBy w' yv.ownBlock):Dw w' base sv ss v' (ys ++ [y]) av aa :=
 ⟨h.sec.kept hg (own_ne h.sec h.sym (by decide)),fun t ht=>(h.secs t ht).type h.sym hg (by decide) (by decide),by rw [ycells_snoc,List.length_append];exact ho,h.ass.kept hg (own_ne h.ass h.sym (by decide)),fun a ha=>⟨(h.aex a ha).1.kept hg (own_ne (h.aex a ha).1 h.sym (by decide)),(h.aex a ha).2⟩⟩
theorem Dw.addA {w w':World} {base:Nat} {sv yv av:Value} {ss:List Sd} {ys:List Osyr.X} {aa:List Ad} (h:Dw w base sv ss yv ys av aa) (x:Ad) (v':Value) (hx:ExOwn w base x.e x.l)
  (ho:w'.ownsRow base 67 1 v' (aa.length+1) (aa.map (·.e) ++ [x.e])) (hg:w.grownBy w' av.ownBlock):Dw w' base sv ss yv ys v' (aa ++ [x]):=by
 refine ⟨h.sec.kept hg (own_ne h.sec h.ass (by decide)),fun t ht=>(h.secs t ht).type h.ass hg (by decide) (by decide),h.sym.kept hg (own_ne h.sym h.ass (by decide)),by rw [List.map_append,List.length_append];exact ho,fun a ha=>?_⟩
 have keep:∀ {e:Value} {l:List Stepx.Node},ExOwn w base e l->ExOwn w' base e l:=fun {e l} hh=>⟨hh.1.kept hg (own_ne hh.1 h.ass (by decide)),hh.2⟩
 rcases List.mem_append.1 ha with ha|ha
 ·exact keep (h.aex a ha)
 ·rw [List.mem_singleton.1 ha];exact keep hx
theorem dw0 (w:World) (base:Nat):Dw w base (.slice none 0 0) [] (.slice none 0 0) [] (.slice none 0 0) [] :=
 ⟨World.ownsRow_nil _ _ _ _,fun s hs=>(by cases hs),World.ownsRow_nil _ _ _ _,World.ownsRow_nil _ _ _ _,fun a ha=>(by cases ha)⟩
theorem has_dw {w:World} {base:Nat} {ss:List Sd} {ys:List Osyr.X} {aa:List Ad} {a0 a1 a2:Option Addr} {c0 c1 c2:Nat} (h:Dw w base (.slice a0 ss.length c0) ss (.slice a1 ys.length c1) ys (.slice a2 aa.length c2) aa) (hs:Dn (objX ss ys aa)):Objr.Has base w (objX ss ys aa) a0 a1 a2:=by
 have z0:=hs.s
 have z1:=hs.y
 have z2:=hs.a
 exact ⟨sec_row h.sec h.secs (fun s hm=>hs.sx _ (List.mem_map_of_mem hm)),by unfold maxLen;omega,sym_row h.sym (fun y hy=>by have:=hs.yx y hy;omega),by unfold maxLen;omega,ass_row h.ass h.aex (fun x hx=>by have:=(hs.ax _ (List.mem_map_of_mem hx)).1;show x.l.length<=801;have e:x.x.f0=x.l:=rfl;rw [e] at this;omega),by unfold maxLen;omega⟩
end Drob
end Go.Proofs.YtickfkphhngagaaGreatDoor
