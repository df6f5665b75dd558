import Derived.Test.YtepafieckjnkdaaGreatDoorP13
set_option linter.all false
set_option maxRecDepth 20000
set_option maxHeartbeats 8000000
open Go.ChangeShapes Go.WideShapes Go.ChangeAt Go.RowKit
open Go.Proofs.Tryz
namespace Go.Proofs.YtepafieckjnkdaaGreatDoor
namespace Woru
open Go.Deep
open Optx Extx Exts Nodi Worr Wors
open Stepx (exprB)
open Names (nameB nbB decB)
theorem ext_list (s:ByteArray) (i j:Nat):(s.extract i j).data.toList=(s.data.toList.drop i).take (j-i):=by
 rw [ByteArray.data_extract,Array.toList_extract,List.extract_eq_take_drop]
theorem len_size (s:ByteArray):s.data.toList.length=s.size:=Array.length_toList
theorem cut_eq {s:ByteArray} (h:F s=true):s.data.toList=(A s).data.toList ++ 32 :: (B s).data.toList/\∀ c ∈ (A s).data.toList,c ≠ 32:=by
 have h:=of_decide_eq_true h
 rcases ix_cases s with h'|⟨i,hi,hr⟩
 ·exact absurd h' h
 ·obtain ⟨h1,h2⟩:=ix_some hi
  unfold A B
  rw [if_neg h,if_neg h,hi,Int.toNat_natCast,ext_list,ext_list,List.drop_zero,Nat.sub_zero]
  rw [List.take_of_length_le (l:=s.data.toList.drop (i+1)) (by rw [List.length_drop,len_size];omega)]
  constructor
  ·have hl:i<s.data.toList.length:=by rw [len_size];omega
   have e:s.data.toList[i]=32:=by
    rw [List.getElem?_eq_getElem hl] at h1
    exact Option.some.inj h1
   have:=List.drop_eq_getElem_cons hl
   rw [e] at this
   rw [<- this,List.take_append_drop]
  ·intro c hc
   obtain ⟨j,hj,rfl⟩:=List.getElem_of_mem hc
   rw [List.length_take] at hj
   rw [List.getElem_take]
   intro e
   exact h2 j (by omega) (by rw [List.getElem?_eq_getElem (by omega),e])
theorem no_cut {s:ByteArray} (h:F s=false):A s=s/\∀ c ∈ s.data.toList,c ≠ 32:=by
 have h:ix s = -1:=Decidable.of_not_not (of_decide_eq_false h)
 refine ⟨by unfold A;rw [if_pos h],fun c hc e=>?_⟩
 obtain ⟨j,hj,rfl⟩:=List.getElem_of_mem hc
 exact ix_none h j (by rw [List.getElem?_eq_getElem hj,e])
theorem join_cons {x:List UInt8} {X:List (List UInt8)} (h:X ≠ []):Lib.join (x :: X) [32]=x ++ 32 :: Lib.join X [32]:=by
 cases X with
 | nil=>exact absurd rfl h
 | cons y X=>unfold Lib.join;simp [List.intercalate,List.intersperse]
theorem join_one (x:List UInt8):Lib.join [x] [32]=x:=by unfold Lib.join;simp [List.intercalate]
theorem W_ne (s:ByteArray):W s ≠ []:=by
 cases h:F s with
 | false=>rw [W_no h];simp
 | true=>rw [W_on h];simp
theorem join_W:∀ (n:Nat) (s:ByteArray),s.size<=n->Lib.join ((W s).map (·.data.toList)) [32]=s.data.toList/\∀ x ∈ W s,∀ c ∈ x.data.toList,c ≠ 32
 | n,s,hn=>by
  cases h:F s with
  | false =>
   obtain ⟨h1,h2⟩:=no_cut h
   rw [W_no h,h1]
   refine ⟨join_one _,fun x hx=>?_⟩
   rw [List.mem_singleton.1 hx];exact h2
  | true =>
   have hb:=B_lt h
   match n,hn with
   | 0,hn=>omega
   | n+1,hn =>
    obtain ⟨i1,i2⟩:=join_W n (B s) (by omega)
    obtain ⟨h1,h2⟩:=cut_eq h
    rw [W_on h]
    refine ⟨?_,fun x hx=>?_⟩
    ·rw [List.map_cons,join_cons (by simpa using W_ne (B s)),i1];exact h1.symm
    ·rcases List.mem_cons.1 hx with rfl|hx
     ·exact h2
     ·exact i2 x hx
theorem split_inj:∀ (x y p q:List UInt8),(∀ c ∈ x,c ≠ 32)->(∀ c ∈ y,c ≠ 32)->x ++ 32 :: p=y ++ 32 :: q->x=y/\p=q
 | [],[],p,q,_,_,h=>⟨rfl,(List.cons.inj h).2⟩
 | [],d :: y,p,q,_,hy,h=>absurd (List.cons.inj h).1.symm (hy d (List.mem_cons_self ..))
 | c :: x,[],p,q,hx,_,h=>absurd (List.cons.inj h).1 (hx c (List.mem_cons_self ..))
 | c :: x,d :: y,p,q,hx,hy,h=>by
  obtain ⟨h1,h2⟩:=List.cons.inj h
  obtain ⟨i1,i2⟩:=split_inj x y p q (fun e he=>hx e (List.mem_cons_of_mem _ he)) (fun e he=>hy e (List.mem_cons_of_mem _ he)) h2
  exact ⟨by rw [h1,i1],i2⟩
theorem join_inj:∀ (X Y:List (List UInt8)),X ≠ []->Y ≠ []->(∀ x ∈ X,∀ c ∈ x,c ≠ 32)->(∀ x ∈ Y,∀ c ∈ x,c ≠ 32)->Lib.join X [32]=Lib.join Y [32]->X=Y
 | [],_,h,_,_,_,_=>absurd rfl h
 | _,[],_,h,_,_,_=>absurd rfl h
 | [x],[y],_,_,_,_,h=>by rw [join_one,join_one] at h;rw [h]
 | [x],y :: y' :: Y,_,_,hx,_,h=>by
  rw [join_one,join_cons (by simp)] at h
  exact absurd rfl (hx x (List.mem_singleton.2 rfl) 32 (by rw [h];simp))
 | x :: x' :: X,[y],_,_,_,hy,h=>by
  rw [join_one,join_cons (by simp)] at h
  exact absurd rfl (hy y (List.mem_singleton.2 rfl) 32 (by rw [<- h];simp))
 | x :: x' :: X,y :: y' :: Y,_,_,hx,hy,h=>by
  rw [join_cons (x:=x) (X:=x' :: X) (by simp),join_cons (x:=y) (X:=y' :: Y) (by simp)] at h
  obtain ⟨h1,h2⟩:=split_inj _ _ _ _ (hx x (List.mem_cons_self ..)) (hy y (List.mem_cons_self ..)) h
  rw [h1,join_inj (x' :: X) (y' :: Y) (by simp) (by simp) (fun z hz=>hx z (List.mem_cons_of_mem _ hz)) (fun z hz=>hy z (List.mem_cons_of_mem _ hz)) h2]
theorem digits_free:∀ (k u:Nat),u<=k->∀ c ∈ Lib.decDigits u,c ≠ 32
 | k,u,hk,c,hc=>by
  have one:∀ d,d<10->UInt8.ofNat (48+d) ≠ 32:=by decide
  rw [Lib.decDigits] at hc
  by_cases h:u<10
  ·rw [dif_pos h,List.mem_singleton] at hc
   rw [hc];exact one u h
  ·rw [dif_neg h] at hc
   match k,hk with
   | 0,hk=>omega
   | k+1,hk =>
    rcases List.mem_append.1 hc with hc|hc
    ·exact digits_free k (u / 10) (by omega) c hc
    ·rw [List.mem_singleton.1 hc]
     exact one (u%10) (by omega)
theorem ops_free:∀ k,k<15->∀ c ∈ (opTab.getD k ⟨#[]⟩).data.toList,c ≠ 32:=by decide
theorem name_free {s:ByteArray} (h:nameB s=true):∀ c ∈ s.data.toList,c ≠ 32:=by
 have h:=(of_decide_eq_true h).2.2.2
 intro c hc e
 obtain ⟨j,hj,hj2⟩:=List.getElem_of_mem hc
 rw [len_size] at hj
 have h:=h j hj
 have e2:s[j]=c:=by rw [<- hj2,Array.getElem_toList];rfl
 rw [e2,e] at h
 exact absurd h (by decide)
theorem word_free {x:Stepx.Node} (h:NodeOk x):∀ c ∈ (wordB x).data.toList,c ≠ 32:=by
 obtain ⟨kd,n,s⟩:=x
 have h:Steps.nodeB kd n s=true:=h
 have name:(kd=2 \/ kd=3)->nameB s=true:=fun hk=>by
  unfold Steps.nodeB at h
  rw [if_neg (by omega),if_pos hk] at h
  exact (Bool.and_eq_true_iff.1 h).2
 rcases kinds_of h with rfl|rfl|rfl|hk|hk
 ·intro c hc
  have hc:c ∈ Lib.itoa n:=by
   have e:(wordB (1,n,s)).data.toList=Lib.itoa n:=by unfold wordB decW;simp
   rwa [e] at hc
  obtain ⟨h0,h1⟩:=word_of h
  unfold Lib.itoa at hc
  rw [if_neg (by omega)] at hc
  exact digits_free _ _ (Nat.le_refl _) c hc
 ·have e:wordB (2,n,s)=s:=by unfold wordB;simp
  rw [e];exact name_free (name (.inl rfl))
 ·have e:(wordB (3,n,s)).data.toList=35 :: s.data.toList:=by unfold wordB;simp
  rw [e]
  intro c hc
  rcases List.mem_cons.1 hc with rfl|hc
  ·decide
  ·exact name_free (name (.inr rfl)) c hc
 ·rw [word_op (by omega)]
  exact ops_free (kd-4).toNat (by omega)
 ·rw [word_op (by omega)]
  exact ops_free (kd-4).toNat (by omega)
theorem num_first {s:ByteArray} {n:Int} (h:Nums.num s=some n):Nodi.hash s=false/\nameB s=false:=by
 have hz:¬ s.size=0:=fun e=>by unfold Nums.num at h;rw [if_pos (.inl e)] at h;cases h
 have hp:0<s.size:=Nat.pos_of_ne_zero hz
 have first:(s[0].toNat:Int)=36 \/ (s[0].toNat:Int)=37 \/ (48<=(s[0].toNat:Int)/\(s[0].toNat:Int)<=57):=by
  unfold Nums.num at h
  split at h
  ·cases h
  split at h
  ·rename_i h1;rw [Nums.getD_at s hp] at h1;exact .inl (by omega)
  split at h
  ·rename_i h1;rw [Nums.getD_at s hp] at h1;exact .inr (.inl (by omega))
  ·refine .inr (.inr ?_)
   unfold Nums.base at h
   rw [if_neg hz] at h
   have e:s.data.toList=s[0] :: s.data.toList.drop 1:=by
    have:=Nums.drop_at s 0 hp
    rwa [List.drop_zero] at this
   rw [e,Nums.word] at h
   split at h
   ·cases h
   ·rename_i h2
    unfold Nums.digS at h2
    split at h2
    ·assumption
    split at h2 <;> omega
 constructor
 ·refine decide_eq_false fun h'=>?_
  have h2:=h'.2
  rw [Nums.getD_at s hp] at h2
  omega
 ·refine Names.name_no fun h'=>?_
  have h3:=h'.2.2.1 hp
  have h4:=h'.2.2.2 0 hp
  unfold Names.decB at h3
  unfold Names.nbB at h4
  have h3:=of_decide_eq_false h3
  have h4:=of_decide_eq_true h4
  omega
theorem eqB {a b:ByteArray}:(a.toList == b.toList)=true ↔ a=b:=Wors.eq_list
theorem op_of {w:ByteArray} {j:Nat} (h:opI w=some j):j<14/\opW (4+(j:Int))=w:=by
 unfold opI at h
 have h1:=List.find?_some h
 have h2:=List.mem_range.1 (List.mem_of_find?_eq_some h)
 refine ⟨h2,?_⟩
 unfold opW
 rw [show (4+(j:Int)-4).toNat=j by omega]
 exact eqB.1 h1
theorem num_of {w:ByteArray} {n:Int} (h:numI w=some n):Nums.num w=some n/\decW n=w:=by
 unfold numI at h
 cases hn:Nums.num w with
 | none=>rw [hn] at h;cases h
 | some m =>
  rw [hn] at h
  dsimp only at h
  split at h
  ·rename_i hq;cases h;exact ⟨rfl,eqB.1 hq⟩
  ·cases h
theorem hash_eq {w:ByteArray} (h:Nodi.hash w=true):(⟨#[35]⟩ ++ w.extract 1 w.size:ByteArray)=w:=by
 obtain ⟨hp,h35⟩:=of_decide_eq_true h
 rw [Nums.getD_at w hp] at h35
 apply ByteArray.ext
 apply Array.toList_inj.1
 have e:w.data.toList=w[0] :: w.data.toList.drop 1:=by
  have:=Nums.drop_at w 0 hp
  rwa [List.drop_zero] at this
 rw [ByteArray.data_append,Array.toList_append,ext_list,List.take_of_length_le (by rw [List.length_drop,len_size];omega)]
 conv=>rhs;rw [e]
 have e2:w[0]=35:=UInt8.toNat_inj.1 h35
 rw [e2];rfl
theorem back_word {w:ByteArray}:wordB (nodeI w)=w:=by
 unfold nodeI
 split
 ·rename_i j h
  rw [word_op (by omega)];exact (op_of h).2
 split
 ·rename_i n h
  have e:wordB (1,n,⟨#[]⟩)=decW n:=by unfold wordB;simp
  rw [e];exact (num_of h).2
 split
 ·rename_i h
  have e:wordB (3,0,w.extract 1 w.size)=⟨#[35]⟩ ++ w.extract 1 w.size:=by unfold wordB;simp
  rw [e];exact hash_eq h
 ·unfold wordB;simp
theorem S_of_I {w:ByteArray} (h:NodeOk (nodeI w)):nodeS w=nodeI w:=by
 cases ho:opI w with
 | some j=>unfold nodeS nodeI;rw [ho]
 | none =>
  cases hn:Nums.num w with
  | none =>
   have hi:numI w=none:=by unfold numI;rw [hn]
   unfold nodeS nodeI;rw [ho,hi,hn]
  | some n =>
   obtain ⟨f1,f2⟩:=num_first hn
   cases hi:numI w with
   | some m =>
    have:=(num_of hi).1
    rw [hn] at this
    cases this
    unfold nodeS nodeI;rw [ho,hi,hn]
   | none =>
    exfalso
    have e:nodeI w=(2,0,w):=by unfold nodeI;rw [ho];dsimp only;rw [hi];dsimp only;rw [f1];rfl
    rw [e] at h
    have h:Steps.nodeB 2 0 w=true:=h
    unfold Steps.nodeB at h
    rw [if_neg (by decide),if_pos (.inl rfl)] at h
    have:=(Bool.and_eq_true_iff.1 h).2
    rw [f2] at this
    cases this
theorem I_of_S {w:ByteArray} (h:wordB (nodeS w)=w):nodeI w=nodeS w:=by
 cases ho:opI w with
 | some j=>unfold nodeS nodeI;rw [ho]
 | none =>
  cases hn:Nums.num w with
  | none =>
   have hi:numI w=none:=by unfold numI;rw [hn]
   unfold nodeS nodeI;rw [ho,hi,hn]
  | some n =>
   have e:nodeS w=(1,n,⟨#[]⟩):=by unfold nodeS;rw [ho];dsimp only;rw [hn]
   rw [e] at h
   have e2:wordB (1,n,⟨#[]⟩)=decW n:=by unfold wordB;simp
   rw [e2] at h
   have hi:numI w=some n:=by unfold numI;rw [hn];dsimp only;rw [if_pos (eqB.2 h)]
   unfold nodeS nodeI;rw [ho,hi,hn]
theorem ok_all {L:List Stepx.Node} (h:exprB L=true):L.length<=30/\∀ x ∈ L,NodeOk x:=by
 unfold Stepx.exprB at h
 obtain ⟨h1,h2⟩:=Bool.and_eq_true_iff.1 h
 exact ⟨of_decide_eq_true h1,nodes_ok (eq_of_beq h2)⟩
theorem text_of {L:List Stepx.Node} (h:exprB L=true):(exprT L).data.toList=Lib.join ((words L).map (·.data.toList)) [32]:=by
 unfold exprT;rw [if_pos h]
theorem same (s:ByteArray):outI s=outS s:=by
 obtain ⟨jw,fw⟩:=join_W s.size s (Nat.le_refl _)
 by_cases hI:exprB ((W s).map nodeI)=true
 ·obtain ⟨h30,hok⟩:=ok_all hI
  rw [List.length_map] at h30
  have hS:(W s).map nodeS=(W s).map nodeI:=List.map_congr_left fun x hx=>S_of_I (hok _ (List.mem_map_of_mem hx))
  have ht:(W s).take 31=W s:=List.take_of_length_le (by omega)
  have hw:words ((W s).map nodeI)=W s:=by
   unfold words
   rw [List.map_map]
   exact (List.map_congr_left fun x _=>back_word).trans (List.map_id _)
  have hx:exprT ((W s).map nodeI)=s:=by
   apply ByteArray.ext
   apply Array.toList_inj.1
   rw [text_of hI,hw,jw]
  have hz:¬ s.size=0:=fun e=>by
   have hf:F s=false:=by
    cases hf:F s with
    | false=>rfl
    | true=>have:=B_lt hf;omega
   have hA:=(no_cut hf).1
   have hm:NodeOk (nodeI s):=hok _ (by rw [W_no hf,hA];simp)
   have ho:opI s=none:=op_none fun j hj=>by
    cases hb:opAtB s j with
    | false=>rfl
    | true =>
     have:=eqB.1 hb
     have sz:∀ j,j<14->¬ (opTab.getD j ⟨#[]⟩).size=0:=by decide
     exact absurd (by rw [this];exact e) (sz j hj)
   have hn:Nums.num s=none:=by unfold Nums.num;rw [if_pos (.inl e)]
   have hi:numI s=none:=by unfold numI;rw [hn]
   have hh:Nodi.hash s=false:=decide_eq_false (by omega)
   have en:nodeI s=(2,0,s):=by unfold nodeI;rw [ho];dsimp only;rw [hi];dsimp only;rw [hh];rfl
   rw [en] at hm
   have hm:Steps.nodeB 2 0 s=true:=hm
   unfold Steps.nodeB at hm
   rw [if_neg (by decide),if_pos (.inl rfl)] at hm
   have h1:=(of_decide_eq_true (Bool.and_eq_true_iff.1 hm).2).1
   omega
  unfold outI outS
  rw [if_pos hI,ht,hS,hx,if_neg (fun h=>h.elim hz (fun h2=>h2 rfl))]
 ·unfold outI outS
  rw [if_neg hI]
  by_cases hc:s.size=0 \/ ¬ exprT (((W s).take 31).map nodeS)=s
  ·rw [if_pos hc]
  ·exfalso
   have hz:¬ s.size=0:=fun h=>hc (.inl h)
   have hx:exprT (((W s).take 31).map nodeS)=s:=Decidable.of_not_not fun h=>hc (.inr h)
   have hB:exprB (((W s).take 31).map nodeS)=true:=by
    cases hb:exprB (((W s).take 31).map nodeS) with
    | true=>rfl
    | false =>
     unfold exprT at hx
     rw [hb] at hx
     rw [if_neg (by decide)] at hx
     exact absurd (by rw [<- hx];rfl) hz
   obtain ⟨h30,hok⟩:=ok_all hB
   rw [List.length_map,List.length_take] at h30
   have ht:(W s).take 31=W s:=List.take_of_length_le (by omega)
   rw [ht] at hx hB hok
   have hj:=text_of hB
   rw [hx,<- jw] at hj
   have e:=join_inj _ _ (by simpa using W_ne s) (by unfold words;simpa using W_ne s) (fun x hx=>by
    obtain ⟨y,hy,rfl⟩:=List.mem_map.1 hx
    exact fw y hy) (fun x hx=>by
    obtain ⟨y,hy,rfl⟩:=List.mem_map.1 hx
    unfold words at hy
    obtain ⟨z,hz,rfl⟩:=List.mem_map.1 hy
    exact word_free (hok z hz)) hj
   have hwd:∀ x ∈ W s,wordB (nodeS x)=x:=fun x hx=>by
    obtain ⟨i,hi,rfl⟩:=List.getElem_of_mem hx
    have h1:=congrArg (fun l=>l[i]?) e
    simp only [words,List.getElem?_map,List.getElem?_eq_getElem hi,Option.map_some] at h1
    apply ByteArray.ext
    apply Array.toList_inj.1
    exact (Option.some.inj h1).symm
   have hS:(W s).map nodeI=(W s).map nodeS:=List.map_congr_left fun x hx=>I_of_S (hwd x hx)
   rw [hS] at hI
   exact hI hB
end Woru
namespace Otxt
open Go.Deep
open Optx (decW Pow)
open Lib (byteCells strCells)
open Bld (Holds)
open Otxa
def line (ws:List ByteArray):List UInt8:=Lib.join (ws.map (·.data.toList)) [32] ++ [10]
theorem tell_any (B b g c:Nat) (l:List UInt8) (ws:List ByteArray) (w:World) (h:Holds B b (byteCells l) w) (hBw:B<=w.heap.size) (hcells:∀ (j:Nat) x,ws[j]? = some x->w.cell? ⟨g,j,none⟩=some (.string x)) (hg:g<w.heap.size) (hcap:ws.length<=c) (hw:ws.length<=100) (hlen:l.length+(line ws).length<=100000000) :
  Calls prog 23 #[.pointer (some ⟨b,0,none⟩),.slice (some ⟨g,0,none⟩) ws.length c] w fun e w'=>e=.returned (.tuple #[])/\Holds B b (byteCells (l ++ line ws)) w'/\Below B w w':=by
 have hjl:(Lib.join (ws.map (·.data.toList)) [32]).length+1=(line ws).length:=by unfold line;rw [List.length_append];rfl
 have cj:=Tryz.strings_Join g 0 c ws ⟨#[32]⟩ w (fun j x hj=>by rw [Nat.zero_add];exact hcells j x hj) hg (by omega) hcap (by show (Lib.join (ws.map (·.data.toList)) [32]).length<=_;omega)
 obtain ⟨J,hJ⟩ : ∃ J,J=(⟨(Lib.join (ws.map (·.data.toList)) [32]).toArray⟩ : ByteArray):=⟨_,rfl⟩
 have cq:Calls prog 60 #[.slice (some ⟨g,0,none⟩) ws.length c,.string ⟨#[32]⟩] w fun e w'=>e=.returned (.string J)/\Below w.heap.size w w':=by rw [hJ];exact cj
 have HC:Hid ((byteCells l ++ strCells J) ++ [.int .u8 10]=byteCells (l ++ line ws)):=(show _=_ from by
  rw [hJ];unfold byteCells strCells line
  simp)
 have hjs:J.size+1=(line ws).length:=by rw [hJ,<- hjl];show (List.toArray _).size+1=_;rw [List.size_toArray]
 have hbl:(byteCells l).length=l.length:=Lib.byteCells_length l
 have HH:Hid (Holds B b (byteCells l) w):=h
 have HB:Hid (B<=w.heap.size):=hBw
 clear cj hJ hcells h hjl hBw
 go_enter func23,ntmps23
 go_wp2_with fail
 refine cq.mono ?_
 rintro e w1 ⟨rfl,b1⟩
 have H1:Hid (Holds B b (byteCells l) w1):=Bld.holds_below HH.out b1
 have V1:Hid (Below B w w1):=b1.mono HB.out
 have HB1:Hid (B<=w1.heap.size):=Nat.le_trans HB.out b1.size
 clear b1 cq HH
 go_wp2_with fail
 refine (Bld.str_any B b _ J w1 H1.out (by rw [hbl];omega) HB1.out).mono ?_
 rintro e w2 ⟨rfl,h2,b2⟩
 have H2:Hid (Holds B b (byteCells l ++ strCells J) w2):=h2
 have V2:Hid (Below B w w2):=V1.out.trans b2
 have HB2:Hid (B<=w2.heap.size):=Nat.le_trans HB1.out b2.size
 clear h2 b2 H1 V1
 go_wp2_with fail
 refine (Bld.byte_any B b _ 10 w2 H2.out (by rw [List.length_append,hbl,Lib.strCells_length];omega) HB2.out).mono ?_
 rintro e w3 ⟨rfl,h3,b3⟩
 have H3:Hid (Holds B b (byteCells (l ++ line ws)) w3):=(show Holds _ _ _ _ from by rw [<- HC.out];exact h3)
 have V3:Hid (Below B w w3):=V2.out.trans b3
 clear h3 b3 H2 V2
 go_wp2
 first|go_end0|refine bodyPost_ret (results_none rfl _ _ _) rfl ?_
 exact ⟨rfl,H3.out,V3.out⟩
end Otxt
namespace Rbyt
open Go.Deep
open Lib (byteCells)
open Otxa
def dS (c:UInt8):Int:=Nums.digS (c.toNat:Int)
def byO:List UInt8->Option (List UInt8)
 | []=>some []
 | [_]=>none
 | a :: b :: r=>if dS a=99 \/ dS b=99 then none else (byO r).map fun l=>UInt8.ofNat (16*dS a+dS b).toNat :: l
theorem byO_cons (a b:UInt8) (r:List UInt8):byO (a :: b :: r)=if dS a=99 \/ dS b=99 then none else (byO r).map fun l=>UInt8.ofNat (16*dS a+dS b).toNat :: l:=rfl
theorem byO_odd:∀ (n:Nat) (l:List UInt8),l.length<=n->l.length%2=1->byO l=none
 | n,[],_,h=>by simp at h
 | n,[_],_,_=>rfl
 | 0,a :: b :: r,hn,_=>by simp at hn
 | n+1,a :: b :: r,hn,h=>by
  simp only [List.length_cons] at hn h
  unfold byO
  rw [byO_odd n r (by omega) (by omega)]
  split <;> rfl
theorem drop_two (s:ByteArray) (i:Nat) (h:i+1<s.size):s.data.toList.drop i=s[i] :: s[i+1] :: s.data.toList.drop (i+2):=by
 rw [List.drop_eq_getElem_cons (show i<s.data.toList.length from Nat.lt_of_succ_lt h),List.drop_eq_getElem_cons (show i+1<s.data.toList.length from h)]
 rfl
def St (s:ByteArray) (i:Nat) (D:List UInt8):Prop:=i=2*D.length/\i<=s.size/\byO s.data.toList=(byO (s.data.toList.drop i)).map fun l=>D ++ l
theorem St.start (s:ByteArray):St s 0 []:=⟨rfl,Nat.zero_le _,by rw [List.drop_zero];cases byO s.data.toList <;> rfl⟩
theorem St.bad {s:ByteArray} {i:Nat} {D:List UInt8} (h:St s i D) (hi:i+1<s.size) (hd:dS s[i]=99 \/ dS s[i+1]=99):byO s.data.toList=none:=by
 rw [h.2.2,drop_two s i hi,byO_cons,if_pos hd];rfl
theorem St.on {s:ByteArray} {i:Nat} {D:List UInt8} (h:St s i D) (hi:i+1<s.size) (hd:¬ (dS s[i]=99 \/ dS s[i+1]=99)):St s (i+2) (D ++ [UInt8.ofNat (16*dS s[i]+dS s[i+1]).toNat]):=by
 refine ⟨by have:=h.1;simp only [List.length_append,List.length_singleton];omega,by omega,?_⟩
 have e:=h.2.2
 rw [drop_two s i hi,byO_cons,if_neg hd] at e
 rw [e]
 cases byO (s.data.toList.drop (i+2)) with
 | none=>rfl
 | some l=>simp
theorem St.fin {s:ByteArray} {i:Nat} {D:List UInt8} (h:St s i D) (hi:s.size<=i):byO s.data.toList=some D:=by
 rw [h.2.2,List.drop_eq_nil_of_le (show s.data.toList.length<=i from hi)]
 show some (D ++ [])=_
 rw [List.append_nil]
theorem St.odd {s:ByteArray} (h:s.size%2=1):byO s.data.toList=none:=byO_odd s.size _ (Nat.le_refl _) h
def Told9 (s:ByteArray) (w:World) (e:Ending) (w':World):Prop:=(∃ x:ByteArray,e=.returned (.tuple #[.string x,.bool (byO s.data.toList).isSome])/\∀ l,byO s.data.toList=some l->x=⟨l.toArray⟩)/\Below w.heap.size w w'
theorem Told9.no {s x:ByteArray} {w w':World} (h:byO s.data.toList=none) (hb:Below w.heap.size w w'):Told9 s w (.returned (.tuple #[.string x,.bool false])) w':=⟨⟨x,by rw [h];rfl,fun l hl=>by rw [h] at hl;cases hl⟩,hb⟩
theorem Told9.yes {s:ByteArray} {D:List UInt8} {w w':World} (h:byO s.data.toList=some D) (hb:Below w.heap.size w w'):Told9 s w (.returned (.tuple #[.string ⟨D.toArray⟩,.bool true])) w':=⟨⟨_,by rw [h];rfl,fun l hl=>by rw [h] at hl;cases hl;rfl⟩,hb⟩
theorem byte_cell {x:Int} (h0:0<=x) (h1:x<=255) (D:List UInt8):byteCells (D ++ [UInt8.ofNat x.toNat])=byteCells D ++ [.int .u8 x]:=by
 unfold byteCells
 rw [List.map_append]
 have e:(((UInt8.ofNat x.toNat).toNat:Nat):Int)=x:=by simp;omega
 simp only [List.map_cons,List.map_nil]
 rw [e]
theorem specBytes_any (s:ByteArray) (w:World) (hs:s.size<=1048576):Calls prog 88 #[.string s] w (Told9 s w):=by
 obtain ⟨i0,hi,hz0,hz1,hz2⟩:=info_parts Obuf.info5
 have OW0:Hid ((w.alloc (.cells #[] 5)).ownsRow w.heap.size 5 1 (.slice (some ⟨w.heap.size,0,none⟩) 0 0) 0 []):=World.ownsRow_lit w #[] 0 (Nat.le_refl _) (by decide) rfl
 go_enter func88,ntmps88
 go_wp2
 go_loopw [4,5] (fun v i wr=>∃ (k:Nat) (D:List UInt8),i=.int .i64 (k:Int)/\Hid (St s k D)/\Hid (wr.ownsRow w.heap.size 5 1 v D.length (byteCells D))/\Hid (Below w.heap.size w wr)) (fun _ i _=>s.size-(intOf i).toNat)
 case atStart=>exact ⟨0,[],rfl,St.start s,OW0.out,zAl _ _⟩
 case round =>
  obtain ⟨k,D,rfl,hst,hown,hbel⟩:=hrel
  clear OW0
  have hks:=hst.out.2.1
  have hDl:D.length<=1048576:=by have:=hst.out.1;omega
  have p1:IntKind.i64.wrap ((k:Int)+1)=(k:Int)+1:=by rw [IntKind.wrap_i64];omega
  by_cases hlt:k+1<s.size
  ·have hlt0:k<s.size:=by omega
   obtain ⟨ca,hca⟩ : ∃ c:Int,c=(s[k].toNat:Int):=⟨_,rfl⟩
   obtain ⟨cb,hcb⟩ : ∃ c:Int,c=(s[k+1].toNat:Int):=⟨_,rfl⟩
   have ba:0<=ca/\ca<=255:=by have:=s[k].toNat_lt;omega
   have bb:0<=cb/\cb<=255:=by have:=s[k+1].toNat_lt;omega
   have ix0:∀ w,(Instr.index 9 (.string s) (.int .i64 (k:Int))).run prog w=.ok (.int .u8 ca) w:=fun w=>by
    rw [run_index_string (P:=prog) w 9 s .i64 (k:Int) underlying9,dif_pos ⟨by omega,by omega⟩,hca];rfl
   have ix1:∀ w,(Instr.index 9 (.string s) (.int .i64 ((k:Int)+1))).run prog w=.ok (.int .u8 cb) w:=fun w=>by
    rw [run_index_string (P:=prog) w 9 s .i64 ((k:Int)+1) underlying9,dif_pos ⟨by omega,by omega⟩,hcb];rfl
   obtain ⟨x,hx⟩ : ∃ x,x=Nums.digS ca:=⟨_,rfl⟩
   obtain ⟨y,hy⟩ : ∃ x,x=Nums.digS cb:=⟨_,rfl⟩
   have xb:=Nums.digS_bd ca
   have yb:=Nums.digS_bd cb
   have cl0:=fun W=>Nums.l1Digit_any ca W ba.1 ba.2
   have cl1:=fun W=>Nums.l1Digit_any cb W bb.1 bb.2
   rw [<- hx] at cl0 xb
   rw [<- hy] at cl1 yb
   have HX:Hid (dS s[k]=x):=(show dS _=_ from by unfold dS;rw [<- hca,hx])
   have HY:Hid (dS s[k+1]=y):=(show dS _=_ from by unfold dS;rw [<- hcb,hy])
   have e0:decide ((k:Int)+1<(s.size:Int))=true:=decide_eq_true (by omega)
   have e0n:decide (k+1<s.size)=true:=decide_eq_true hlt
   clear hca hcb hx hy
   by_cases q1:15<x
   ·have d1:decide (15<x)=true:=decide_eq_true q1
    have HN:Hid (byO s.data.toList=none):=hst.out.bad hlt (.inl (by rw [HX.out];omega))
    go_wp2_with fail
    refine (cl0 _).mono ?_
    rintro e w1 ⟨rfl,hw⟩
    have hw:=hw.symm
    subst hw
    go_wp2_with fail
    refine (cl1 _).mono ?_
    rintro e w2 ⟨rfl,hw⟩
    have hw:=hw.symm
    subst hw
    go_wp2
    go_ret2
    exact Told9.no HN.out hbel.out
   ·have d1:decide (15<x)=false:=decide_eq_false q1
    by_cases q2:15<y
    ·have d2:decide (15<y)=true:=decide_eq_true q2
     have HN:Hid (byO s.data.toList=none):=hst.out.bad hlt (.inr (by rw [HY.out];omega))
     go_wp2_with fail
     refine (cl0 _).mono ?_
     rintro e w1 ⟨rfl,hw⟩
     have hw:=hw.symm
     subst hw
     go_wp2_with fail
     refine (cl1 _).mono ?_
     rintro e w2 ⟨rfl,hw⟩
     have hw:=hw.symm
     subst hw
     go_wp2
     go_ret2
     exact Told9.no HN.out hbel.out
    ·have d2:decide (15<y)=false:=decide_eq_false q2
     have p3:IntKind.i64.wrap (16*x)=16*x:=by rw [IntKind.wrap_i64];omega
     have p4:IntKind.i64.wrap (16*x+y)=16*x+y:=by rw [IntKind.wrap_i64];omega
     have p5:IntKind.u8.wrap (16*x+y)=16*x+y:=by rw [IntKind.wrap_u8];omega
     have p6:IntKind.i64.wrap ((k:Int)+2)=(k:Int)+2:=by rw [IntKind.wrap_i64];omega
     have vb:0<=16*x+y/\16*x+y<=255:=by omega
     have HS2:Hid (St s (k+2) (D ++ [UInt8.ofNat (16*x+y).toNat])):=(show St _ _ _ from by
      have:=hst.out.on hlt (by rw [HX.out,HY.out];omega)
      rw [HX.out,HY.out] at this;exact this)
     clear hst
     have own1:Hid (∀ o,(wr.alloc o).ownsRow w.heap.size 5 1 u4 D.length (byteCells D)):=fun o=>hown.out.alloc o
     have hlt2:=hown.out.lt
     go_wp2_with fail
     refine (cl0 _).mono ?_
     rintro e w1 ⟨rfl,hw⟩
     have hw:=hw.symm
     subst hw
     go_wp2_with fail
     refine (cl1 _).mono ?_
     rintro e w2 ⟨rfl,hw⟩
     have hw:=hw.symm
     subst hw
     go_wp2_with (first|((at_builtin;refine wpList_append_own _ rfl _ _ 22 rfl w.heap.size 5 i0 (.int .u8 0) 1 1 underlying22 hi hz0 hz1 hz2 rfl (by decide) _ D.length (byteCells D) rfl (own1.out _) ⟨wr.heap.size,0,none⟩ 1 1 [.int .u8 (16*x+y)] rfl rfl ?n2 ?n3 ?n4 ?n5 ?n6 ?_))|fail)
     case n2=>intro j u hu;rw [Addr.add_lit,Nat.zero_add,World.cell?_alloc_new];simpa using hu
     case n3=>intro u hu;simp at hu;subst hu;rfl
     case n4=>unfold maxLen;omega
     case n5=>omega
     case n6=>have:=hbel.out.size;simp;omega
     intro v' w9 hown' hgrow _
     have own9:Hid (w9.ownsRow w.heap.size 5 1 v' (D ++ [UInt8.ofNat (16*x+y).toNat]).length (byteCells (D ++ [UInt8.ofNat (16*x+y).toNat]))):=(show World.ownsRow _ _ _ _ _ _ _ from by
      rw [byte_cell vb.1 vb.2,List.length_append];exact hown')
     have bel9:Hid (Below w.heap.size w w9):=(hbel.out.alloc hbel.out.size _).grown hgrow (by have:=hbel.out.size;simp;omega) (fun j hj=>(hlt2 j hj).1)
     clear hown' hgrow hlt2 own1 hown hbel
     go_wp2
     go_roundw
     case rel=>exact ⟨k+2,D ++ [UInt8.ofNat (16*x+y).toNat],by go_num,HS2.out,own9.out,bel9.out⟩
     case measure=>simp [intOf];omega
  ·have e0:decide ((k:Int)+1<(s.size:Int))=false:=decide_eq_false (by omega)
   have e0n:decide (k+1<s.size)=false:=decide_eq_false hlt
   have hcv:=Obuf.str_own (W:=wr) (l:=D) hown.out
   by_cases hev:s.size%2=0
   ·have d1:((s.size:Int).tmod 2 == 0)=true:=by rw [Int.tmod_eq_emod_of_nonneg (by omega)];simp;omega
    have d3:(s.size:Int).tmod 2=0:=by rw [Int.tmod_eq_emod_of_nonneg (by omega)];omega
    have HF:Hid (byO s.data.toList=some D):=hst.out.fin (by have:=hst.out.1;omega)
    clear hown
    go_wp2
    go_ret2
    exact Told9.yes HF.out hbel.out
   ·have d3:(s.size:Int).tmod 2=1:=by rw [Int.tmod_eq_emod_of_nonneg (by omega)];omega
    have HF:Hid (byO s.data.toList=none):=St.odd (by omega)
    clear hown
    go_wp2
    go_ret2
    exact Told9.no HF.out hbel.out
end Rbyt
end Go.Proofs.YtepafieckjnkdaaGreatDoor
