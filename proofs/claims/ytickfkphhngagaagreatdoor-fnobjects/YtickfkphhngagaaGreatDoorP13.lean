import Derived.Test.YtickfkphhngagaaGreatDoorP12
import Derived.Test.YtickfkphhngagaaGreatDoorP08
set_option linter.all false
set_option maxRecDepth 20000
set_option maxHeartbeats 8000000
open Go.ChangeShapes Go.WideShapes Go.ChangeAt Go.RowKit
open Go.Proofs.Tryz
namespace Go.Proofs.YtickfkphhngagaaGreatDoor
namespace Wort
open Go.Deep
open Optx Extx Exts Nodi Worr Nodm Wors
open Stepx (Nodes exprB)
def MaxL (w:World):Prop:=∃ m,w.cell? ⟨2,0,none⟩=some (.int .i64 m)
theorem MaxL.below {w w':World} (h:MaxL w) (hb:Below w.heap.size w w'):MaxL w':=by
 obtain ⟨m,hm⟩:=h
 have hl:2<w.heap.size:=World.block_lt_of_cell? w ⟨2,0,none⟩ hm
 exact ⟨m,(hb.cell (p:=⟨2,0,none⟩) hl).trans hm⟩
theorem own_mono {w:World} {b b':Nat} {v:Value} {L:List Stepx.Node} (hle:b'<=b) (h:Nodm.Own w b v L):Nodm.Own w b' v L :=
 ⟨h.1,h.2.imp id fun ⟨g,c,cur,hv,hb,rest⟩=>⟨g,c,cur,hv,Nat.le_trans hle hb,rest⟩⟩
theorem W_len (s:ByteArray):(W s).length=Lib.countB s sp+1:=Lib.splitB_all sp (by decide) 0 _ s rfl
theorem W_len_le (s:ByteArray):(W s).length<=s.size+1:=by
 have:=Lib.countB_le sp (by decide) s.size s (Nat.le_refl _)
 rw [W_len];omega
theorem split_any (s:ByteArray) (w:World) (hs:s.size<=1048576) (hm:MaxL w) :
  Calls prog 101 #[.string s,.string ⟨#[32]⟩] w fun e w'=>e=.returned (.slice (some ⟨w.heap.size,0,none⟩) (W s).length (W s).length)/\w'=w.alloc (.cells ((W s).map Value.string).toArray 9):=by
 obtain ⟨m,hm⟩:=hm
 rw [W_len]
 exact Tryz.strings_Split s ⟨#[32]⟩ m w (by omega) hm (by decide)
theorem stepsOf_long (a:Option Addr) (cap:Nat) (L:List Stepx.Node) (w:World) (h30:30<L.length) (hlen:L.length<=1048577) :
  Calls prog 80 #[.slice a L.length cap] w fun e w'=>(∃ v,e=.returned (.tuple #[v,.bool false]))/\Below w.heap.size w w':=by
 go_enter func80,ntmps80
 go_wp2
 go_ret2
 exact ⟨⟨_,rfl⟩,Below.refl _ _⟩
theorem implOk_all (a:Option Addr) (cap:Nat) (L:List Stepx.Node) (w:World) (hN:Stepx.Nodes w a L) (hlen:L.length<=1048577) :
  Calls prog 47 #[.slice a L.length cap] w fun e w'=>e=.returned (.bool (Stepx.exprB L))/\Below w.heap.size w w':=by
 by_cases h30:30<L.length
 ·have hx:Stepx.exprB L=false:=by unfold Stepx.exprB;rw [decide_eq_false (by omega)];rfl
  rw [hx]
  have cs:=stepsOf_long a cap L w h30 hlen
  go_enter func47,ntmps47
  go_wp2_with (go_at_call 80;refine cs.mono ?_;rintro e w1 ⟨⟨v,rfl⟩,hb⟩)
  go_ret
  exact ⟨rfl,hb⟩
 ·exact implOk_any a cap L w hN (by omega)
def intV:Value->Nat
 | .int _ n=>n.toNat
 | _=>0
theorem implRead_any (s:ByteArray) (w:World) (hs:s.size<=1048576) (hT:OpTab w) (hP:Pow w) (hX:Nums.Tab w) (hm:MaxL w) :
  Calls prog 106 #[.string s] w fun e w'=>Wors.Left w w' e (outI s):=by
 obtain ⟨i0,hi,hz0,hz1,hz2⟩:=info_parts infoN
 have cs:=split_any s w hs hm
 have HT:Hid (OpTab w/\Pow w/\Nums.Tab w):=⟨hT,hP,hX⟩
 have HZ:Hid (∀ x ∈ W s,x.size<=s.size):=W_le _ s (Nat.le_refl _)
 have HW:=W_len_le s
 have HO:Hid ((exprB ((W s).map nodeI)=true->outI s=some ((W s).map nodeI))/\(exprB ((W s).map nodeI)=false->outI s=none)):=⟨fun h=>by unfold outI;rw [if_pos h],fun h=>by unfold outI;rw [h];rfl⟩
 have CE:Hid (∀ k (h:k<(W s).length),(w.alloc (.cells ((W s).map Value.string).toArray 9)).cell? ⟨w.heap.size,k,none⟩=some (.string (W s)[k])):=fun k h=>by
  rw [World.cell?_alloc_new];simp [h]
 have B0:Hid (Below w.heap.size w (w.alloc (.cells ((W s).map Value.string).toArray 9))):=zAl _ _
 have S0:Hid ((w.alloc (.cells ((W s).map Value.string).toArray 9)).heap.size=w.heap.size+1):=by show _=_;simp
 clear hT hP hX hm
 go_enter func106,ntmps106
 go_wp2_with (go_at_call 101;refine cs.mono ?_;rintro e w1 ⟨rfl,rfl⟩)
 generalize w.alloc (.cells ((W s).map Value.string).toArray 9)=W1 at CE B0 S0 |-
 generalize W s=ws at *
 go_loopw [4,10] (fun x y wr=>∃ (k:Nat) (ao:Option Addr) (cap:Nat),k<=ws.length/\x=.slice ao k cap/\y=.int .i64 (k:Int)/\Hid (wr.ownsRow W1.heap.size 122 3 (.slice ao k cap) k (cellsOf ((ws.take k).map nodeI)))/\Hid (Below W1.heap.size W1 wr)) (fun _ y _=>ws.length-intV y)
 case atStart=>exact ⟨0,none,0,Nat.zero_le _,rfl,rfl,World.ownsRow_nil _ _ _ _,Below.refl _ _⟩
 case round =>
  obtain ⟨k,ao,cap,hk,rfl,rfl,hown,hbel⟩:=hrel
  have BW1:Hid (Below w.heap.size w wr):=B0.out.trans (hbel.out.mono (by rw [S0.out];omega))
  by_cases hlt:k<ws.length
  ·have c0:wr.cell? ⟨w.heap.size,k,none⟩=some (.string ws[k]):=(hbel.out.cell (p:=⟨w.heap.size,k,none⟩) (by show w.heap.size<_;rw [S0.out];omega)).trans (CE.out k hlt)
   have zx:=HZ.out _ (List.getElem_mem hlt)
   have cn:=nodeOf_any ws[k] wr (by omega) (HT.out.1.below BW1.out) (HT.out.2.1.below BW1.out) (tab_below HT.out.2.2 BW1.out)
   have HL:Hid (∀ x,nodeI ws[k]=x->cellsOf ((ws.take (k+1)).map nodeI)=cellsOf ((ws.take k).map nodeI) ++ [.int .i64 x.1,.int .i64 x.2.1,.string x.2.2]):=fun x hx=>by
    rw [List.take_add_one,List.getElem?_eq_getElem hlt,List.map_append,cells_app]
    show _ ++ cellsOf [nodeI ws[k]]=_
    rw [hx];rfl
   generalize hN:nodeI ws[k]=N at cn HL
   have HN:Hid (nodeI ws[k]=N):=hN
   clear hN
   generalize ws[k]=X at *
   obtain ⟨nk,nn,ns⟩:=N
   have HC:=(show Hid _ from HL.out _ rfl)
   clear HL HN
   unfold nodeV at cn
   dsimp only at cn
   have k0:(0:Int)<=(k:Int):=by omega
   have k1:(k:Int)<(ws.length:Int):=by omega
   generalize cellsOf ((ws.take k).map nodeI)=cl at *
   have own1:Hid (∀ W o,Below wr.heap.size wr W->(W.alloc o).ownsRow W1.heap.size 122 3 (.slice ao k cap) k cl):=fun W o hb=>(own_belowG hown.out hb).alloc o
   go_wp2_with (first|(go_at_call 132;refine cn.mono ?_;rintro e w2 ⟨rfl,b2⟩;have B2:Hid (Below wr.heap.size wr w2):=b2;clear b2)|(at_builtin;refine wpList_append_own _ rfl _ _ 67 rfl W1.heap.size 122 i0 (.agg #[.int .i64 0,.int .i64 0,.string ⟨#[]⟩]) 3 32 underlying67 hi hz0 hz1 hz2 rfl (by decide) (.slice ao k cap) k cl rfl (own1.out _ _ B2.out) ⟨w2.heap.size,0,none⟩ 1 1 [.int .i64 nk,.int .i64 nn,.string ns] rfl rfl ?c1 ?c2 ?c3 ?c4 ?c5 ?_)|fail)
   case c1 =>
    intro j u hj
    match j,hj with
    | 0,hj=>simp at hj;subst hj;show World.cell? _ ⟨w2.heap.size,0,none⟩=_;rw [World.cell?_alloc_new];rfl
    | 1,hj=>simp at hj;subst hj;show World.cell? _ ⟨w2.heap.size,1,none⟩=_;rw [World.cell?_alloc_new];rfl
    | 2,hj=>simp at hj;subst hj;show World.cell? _ ⟨w2.heap.size,2,none⟩=_;rw [World.cell?_alloc_new];rfl
   case c2=>intro u hu;simp at hu;rcases hu with rfl|rfl|rfl <;> rfl
   case c3=>unfold maxLen;omega
   case c4=>omega
   case c5=>simp;have:=hbel.out.size;have:=B2.out.size;omega
   intro v' w3 hown' hgrow _
   have OW:Hid (w3.ownsRow W1.heap.size 122 3 v' (k+1) (cellsOf ((ws.take (k+1)).map nodeI))):=by
    show World.ownsRow _ _ _ _ _ _ _
    rw [HC.out];exact hown'
   have BB:Below W1.heap.size W1 w2:=hbel.out.trans (B2.out.mono hbel.out.size)
   have BW:Hid (Below W1.heap.size W1 w3):=(BB.alloc BB.size _).grown hgrow (by have:=BB.size;simp;omega) (fun k hk=>((own1.out w2 (.cells #[] 0) B2.out).lt k hk).1)
   obtain ⟨ao',cap',rfl⟩ : ∃ ao' cap',v'=.slice ao' (k+1) cap':=by
    rcases hown'.2 with ⟨_,h⟩|⟨g,c,cur,hv,_⟩
    ·omega
    ·exact ⟨_,_,hv⟩
   clear hown' hgrow own1 hown hbel cn BB
   go_wp2_with fail
   go_roundw
   case rel=>exact ⟨k+1,ao',cap',by omega,rfl,by first|go_num|(congr 1;omega)|rfl,OW.out,BW.out⟩
   case measure=>simp [intV];omega
  ·have e:k=ws.length:=by omega
   subst e
   have hl:(ws.map nodeI).length=ws.length:=List.length_map ..
   have OW:Hid (Nodm.Own wr W1.heap.size (.slice ao ws.length cap) (ws.map nodeI)):=by
    have h:=hown.out
    rw [List.take_length] at h
    show World.ownsRow _ _ _ _ _ _ _
    rw [hl];exact h
   have SM:Hid (∀ x ∈ ws.map nodeI,x.2.2.size<=1048576):=fun x hx=>by
    obtain ⟨y,hy,rfl⟩:=List.mem_map.1 hx
    have:=nodeI_sz y
    have:=HZ.out y hy
    omega
   have co:=implOk_all ao cap (ws.map nodeI) wr (nodes_own OW.out SM.out) (by rw [hl];omega)
   rw [hl] at co
   have H30:Hid (exprB (ws.map nodeI)=true->ws.length<=801):=fun h=>by
    unfold Stepx.exprB at h
    have:=of_decide_eq_true (Bool.and_eq_true_iff.1 h).1
    rw [hl] at this
    omega
   have HL:Hid ((ws.map nodeI).length=ws.length):=hl
   clear hl hown
   cases hx:exprB (ws.map nodeI) with
   | true =>
    rw [hx] at co
    have HO2:Hid (outI s=some (ws.map nodeI)):=HO.out.1 hx
    have h801:=H30.out hx
    clear hx
    go_wp2_with (go_at_call 47;refine co.mono ?_;rintro e w4 ⟨rfl,b4⟩;have B4:Hid (Below w.heap.size w w4/\Nodm.Own w4 w.heap.size (.slice ao ws.length cap) (ws.map nodeI)):=⟨BW1.out.trans (b4.mono BW1.out.size),own_mono (by rw [S0.out];omega) (Nodm.own_below OW.out b4)⟩;clear b4)
    go_ret2
    have hf:=left_some (ao:=ao) (cap:=cap) HO2.out (by rw [HL.out];exact B4.out.2) SM.out (by rw [HL.out];exact h801) B4.out.1
    rw [HL.out] at hf
    exact hf
   | false =>
    rw [hx] at co
    have HO2:Hid (outI s=none):=HO.out.2 hx
    clear hx
    go_wp2_with (go_at_call 47;refine co.mono ?_;rintro e w4 ⟨rfl,b4⟩;have B4:Hid (Below w.heap.size w w4):=BW1.out.trans (b4.mono BW1.out.size);clear b4)
    go_ret2
    exact left_none HO2.out B4.out
end Wort
namespace Woru
open Go.Deep
open Optx Extx Exts Nodi Worr Wors
open Stepx (exprB)
open Names (nameB nbB decB)
theorem ext_list (s:ByteArray) (i j:Nat):(s.extract i j).data.toList=(s.data.toList.drop i).take (j-i):=by
 rw [ByteArray.data_extract,Array.toList_extract,List.extract_eq_take_drop]
theorem len_size (s:ByteArray):s.data.toList.length=s.size:=Array.length_toList
theorem cut_eq {s:ByteArray} (h:F s=true):s.data.toList=(A s).data.toList ++ 32 :: (B s).data.toList/\∀ c ∈ (A s).data.toList,c ≠ 32:=by
 have h:=of_decide_eq_true h
 rcases ix_cases s with h'|⟨i,hi,hr⟩
 ·exact absurd h' h
 ·obtain ⟨h1,h2⟩:=ix_some hi
  unfold A B
  rw [if_neg h,if_neg h,hi,Int.toNat_natCast,ext_list,ext_list,List.drop_zero,Nat.sub_zero]
  rw [List.take_of_length_le (l:=s.data.toList.drop (i+1)) (by rw [List.length_drop,len_size];omega)]
  constructor
  ·have hl:i<s.data.toList.length:=by rw [len_size];omega
   have e:s.data.toList[i]=32:=by
    rw [List.getElem?_eq_getElem hl] at h1
    exact Option.some.inj h1
   have:=List.drop_eq_getElem_cons hl
   rw [e] at this
   rw [<- this,List.take_append_drop]
  ·intro c hc
   obtain ⟨j,hj,rfl⟩:=List.getElem_of_mem hc
   rw [List.length_take] at hj
   rw [List.getElem_take]
   intro e
   exact h2 j (by omega) (by rw [List.getElem?_eq_getElem (by omega),e])
theorem no_cut {s:ByteArray} (h:F s=false):A s=s/\∀ c ∈ s.data.toList,c ≠ 32:=by
 have h:ix s = -1:=Decidable.of_not_not (of_decide_eq_false h)
 refine ⟨by unfold A;rw [if_pos h],fun c hc e=>?_⟩
 obtain ⟨j,hj,rfl⟩:=List.getElem_of_mem hc
 exact ix_none h j (by rw [List.getElem?_eq_getElem hj,e])
theorem join_cons {x:List UInt8} {X:List (List UInt8)} (h:X ≠ []):Lib.join (x :: X) [32]=x ++ 32 :: Lib.join X [32]:=by
 cases X with
 | nil=>exact absurd rfl h
 | cons y X=>unfold Lib.join;simp [List.intercalate,List.intersperse]
theorem join_one (x:List UInt8):Lib.join [x] [32]=x:=by unfold Lib.join;simp [List.intercalate]
theorem W_ne (s:ByteArray):W s ≠ []:=by
 cases h:F s with
 | false=>rw [W_no h];simp
 | true=>rw [W_on h];simp
theorem join_W:∀ (n:Nat) (s:ByteArray),s.size<=n->Lib.join ((W s).map (·.data.toList)) [32]=s.data.toList/\∀ x ∈ W s,∀ c ∈ x.data.toList,c ≠ 32
 | n,s,hn=>by
  cases h:F s with
  | false =>
   obtain ⟨h1,h2⟩:=no_cut h
   rw [W_no h,h1]
   refine ⟨join_one _,fun x hx=>?_⟩
   rw [List.mem_singleton.1 hx];exact h2
  | true =>
   have hb:=B_lt h
   match n,hn with
   | 0,hn=>omega
   | n+1,hn =>
    obtain ⟨i1,i2⟩:=join_W n (B s) (by omega)
    obtain ⟨h1,h2⟩:=cut_eq h
    rw [W_on h]
    refine ⟨?_,fun x hx=>?_⟩
    ·rw [List.map_cons,join_cons (by simpa using W_ne (B s)),i1];exact h1.symm
    ·rcases List.mem_cons.1 hx with rfl|hx
     ·exact h2
     ·exact i2 x hx
theorem split_inj:∀ (x y p q:List UInt8),(∀ c ∈ x,c ≠ 32)->(∀ c ∈ y,c ≠ 32)->x ++ 32 :: p=y ++ 32 :: q->x=y/\p=q
 | [],[],p,q,_,_,h=>⟨rfl,(List.cons.inj h).2⟩
 | [],d :: y,p,q,_,hy,h=>absurd (List.cons.inj h).1.symm (hy d (List.mem_cons_self ..))
 | c :: x,[],p,q,hx,_,h=>absurd (List.cons.inj h).1 (hx c (List.mem_cons_self ..))
 | c :: x,d :: y,p,q,hx,hy,h=>by
  obtain ⟨h1,h2⟩:=List.cons.inj h
  obtain ⟨i1,i2⟩:=split_inj x y p q (fun e he=>hx e (List.mem_cons_of_mem _ he)) (fun e he=>hy e (List.mem_cons_of_mem _ he)) h2
  exact ⟨by rw [h1,i1],i2⟩
theorem join_inj:∀ (X Y:List (List UInt8)),X ≠ []->Y ≠ []->(∀ x ∈ X,∀ c ∈ x,c ≠ 32)->(∀ x ∈ Y,∀ c ∈ x,c ≠ 32)->Lib.join X [32]=Lib.join Y [32]->X=Y
 | [],_,h,_,_,_,_=>absurd rfl h
 | _,[],_,h,_,_,_=>absurd rfl h
 | [x],[y],_,_,_,_,h=>by rw [join_one,join_one] at h;rw [h]
 | [x],y :: y' :: Y,_,_,hx,_,h=>by
  rw [join_one,join_cons (by simp)] at h
  exact absurd rfl (hx x (List.mem_singleton.2 rfl) 32 (by rw [h];simp))
 | x :: x' :: X,[y],_,_,_,hy,h=>by
  rw [join_one,join_cons (by simp)] at h
  exact absurd rfl (hy y (List.mem_singleton.2 rfl) 32 (by rw [<- h];simp))
 | x :: x' :: X,y :: y' :: Y,_,_,hx,hy,h=>by
  rw [join_cons (x:=x) (X:=x' :: X) (by simp),join_cons (x:=y) (X:=y' :: Y) (by simp)] at h
  obtain ⟨h1,h2⟩:=split_inj _ _ _ _ (hx x (List.mem_cons_self ..)) (hy y (List.mem_cons_self ..)) h
  rw [h1,join_inj (x' :: X) (y' :: Y) (by simp) (by simp) (fun z hz=>hx z (List.mem_cons_of_mem _ hz)) (fun z hz=>hy z (List.mem_cons_of_mem _ hz)) h2]
theorem digits_free:∀ (k u:Nat),u<=k->∀ c ∈ Lib.decDigits u,c ≠ 32
 | k,u,hk,c,hc=>by
  have one:∀ d,d<10->UInt8.ofNat (48+d) ≠ 32:=by decide
  rw [Lib.decDigits] at hc
  by_cases h:u<10
  ·rw [dif_pos h,List.mem_singleton] at hc
   rw [hc];exact one u h
  ·rw [dif_neg h] at hc
   match k,hk with
   | 0,hk=>omega
   | k+1,hk =>
    rcases List.mem_append.1 hc with hc|hc
    ·exact digits_free k (u / 10) (by omega) c hc
    ·rw [List.mem_singleton.1 hc]
     exact one (u%10) (by omega)
theorem ops_free:∀ k,k<15->∀ c ∈ (opTab.getD k ⟨#[]⟩).data.toList,c ≠ 32:=by decide
theorem name_free {s:ByteArray} (h:nameB s=true):∀ c ∈ s.data.toList,c ≠ 32:=by
 have h:=(of_decide_eq_true h).2.2.2
 intro c hc e
 obtain ⟨j,hj,hj2⟩:=List.getElem_of_mem hc
 rw [len_size] at hj
 have h:=h j hj
 have e2:s[j]=c:=by rw [<- hj2,Array.getElem_toList];rfl
 rw [e2,e] at h
 exact absurd h (by decide)
theorem word_free {x:Stepx.Node} (h:NodeOk x):∀ c ∈ (wordB x).data.toList,c ≠ 32:=by
 obtain ⟨kd,n,s⟩:=x
 have h:Steps.nodeB kd n s=true:=h
 have name:(kd=2 \/ kd=3)->nameB s=true:=fun hk=>by
  unfold Steps.nodeB at h
  rw [if_neg (by omega),if_pos hk] at h
  exact (Bool.and_eq_true_iff.1 h).2
 rcases kinds_of h with rfl|rfl|rfl|hk|hk
 ·intro c hc
  have hc:c ∈ Lib.itoa n:=by
   have e:(wordB (1,n,s)).data.toList=Lib.itoa n:=by unfold wordB decW;simp
   rwa [e] at hc
  obtain ⟨h0,h1⟩:=word_of h
  unfold Lib.itoa at hc
  rw [if_neg (by omega)] at hc
  exact digits_free _ _ (Nat.le_refl _) c hc
 ·have e:wordB (2,n,s)=s:=by unfold wordB;simp
  rw [e];exact name_free (name (.inl rfl))
 ·have e:(wordB (3,n,s)).data.toList=35 :: s.data.toList:=by unfold wordB;simp
  rw [e]
  intro c hc
  rcases List.mem_cons.1 hc with rfl|hc
  ·decide
  ·exact name_free (name (.inr rfl)) c hc
 ·rw [word_op (by omega)]
  exact ops_free (kd-4).toNat (by omega)
 ·rw [word_op (by omega)]
  exact ops_free (kd-4).toNat (by omega)
theorem num_first {s:ByteArray} {n:Int} (h:Nums.num s=some n):Nodi.hash s=false/\nameB s=false:=by
 have hz:¬ s.size=0:=fun e=>by unfold Nums.num at h;rw [if_pos (.inl e)] at h;cases h
 have hp:0<s.size:=Nat.pos_of_ne_zero hz
 have first:(s[0].toNat:Int)=36 \/ (s[0].toNat:Int)=37 \/ (48<=(s[0].toNat:Int)/\(s[0].toNat:Int)<=57):=by
  unfold Nums.num at h
  split at h
  ·cases h
  split at h
  ·rename_i h1;rw [Nums.getD_at s hp] at h1;exact .inl (by omega)
  split at h
  ·rename_i h1;rw [Nums.getD_at s hp] at h1;exact .inr (.inl (by omega))
  ·refine .inr (.inr ?_)
   unfold Nums.base at h
   rw [if_neg hz] at h
   have e:s.data.toList=s[0] :: s.data.toList.drop 1:=by
    have:=Nums.drop_at s 0 hp
    rwa [List.drop_zero] at this
   rw [e,Nums.word] at h
   split at h
   ·cases h
   ·rename_i h2
    unfold Nums.digS at h2
    split at h2
    ·assumption
    split at h2 <;> omega
 constructor
 ·refine decide_eq_false fun h'=>?_
  have h2:=h'.2
  rw [Nums.getD_at s hp] at h2
  omega
 ·refine Names.name_no fun h'=>?_
  have h3:=h'.2.2.1 hp
  have h4:=h'.2.2.2 0 hp
  unfold Names.decB at h3
  unfold Names.nbB at h4
  have h3:=of_decide_eq_false h3
  have h4:=of_decide_eq_true h4
  omega
theorem eqB {a b:ByteArray}:(a.toList == b.toList)=true ↔ a=b:=Wors.eq_list
theorem op_of {w:ByteArray} {j:Nat} (h:opI w=some j):j<14/\opW (4+(j:Int))=w:=by
 unfold opI at h
 have h1:=List.find?_some h
 have h2:=List.mem_range.1 (List.mem_of_find?_eq_some h)
 refine ⟨h2,?_⟩
 unfold opW
 rw [show (4+(j:Int)-4).toNat=j by omega]
 exact eqB.1 h1
theorem num_of {w:ByteArray} {n:Int} (h:numI w=some n):Nums.num w=some n/\decW n=w:=by
 unfold numI at h
 cases hn:Nums.num w with
 | none=>rw [hn] at h;cases h
 | some m =>
  rw [hn] at h
  dsimp only at h
  split at h
  ·rename_i hq;cases h;exact ⟨rfl,eqB.1 hq⟩
  ·cases h
theorem hash_eq {w:ByteArray} (h:Nodi.hash w=true):(⟨#[35]⟩ ++ w.extract 1 w.size:ByteArray)=w:=by
 obtain ⟨hp,h35⟩:=of_decide_eq_true h
 rw [Nums.getD_at w hp] at h35
 apply ByteArray.ext
 apply Array.toList_inj.1
 have e:w.data.toList=w[0] :: w.data.toList.drop 1:=by
  have:=Nums.drop_at w 0 hp
  rwa [List.drop_zero] at this
 rw [ByteArray.data_append,Array.toList_append,ext_list,List.take_of_length_le (by rw [List.length_drop,len_size];omega)]
 conv=>rhs;rw [e]
 have e2:w[0]=35:=UInt8.toNat_inj.1 h35
 rw [e2];rfl
theorem back_word {w:ByteArray}:wordB (nodeI w)=w:=by
 unfold nodeI
 split
 ·rename_i j h
  rw [word_op (by omega)];exact (op_of h).2
 split
 ·rename_i n h
  have e:wordB (1,n,⟨#[]⟩)=decW n:=by unfold wordB;simp
  rw [e];exact (num_of h).2
 split
 ·rename_i h
  have e:wordB (3,0,w.extract 1 w.size)=⟨#[35]⟩ ++ w.extract 1 w.size:=by unfold wordB;simp
  rw [e];exact hash_eq h
 ·unfold wordB;simp
theorem S_of_I {w:ByteArray} (h:NodeOk (nodeI w)):nodeS w=nodeI w:=by
 cases ho:opI w with
 | some j=>unfold nodeS nodeI;rw [ho]
 | none =>
  cases hn:Nums.num w with
  | none =>
   have hi:numI w=none:=by unfold numI;rw [hn]
   unfold nodeS nodeI;rw [ho,hi,hn]
  | some n =>
   obtain ⟨f1,f2⟩:=num_first hn
   cases hi:numI w with
   | some m =>
    have:=(num_of hi).1
    rw [hn] at this
    cases this
    unfold nodeS nodeI;rw [ho,hi,hn]
   | none =>
    exfalso
    have e:nodeI w=(2,0,w):=by unfold nodeI;rw [ho];dsimp only;rw [hi];dsimp only;rw [f1];rfl
    rw [e] at h
    have h:Steps.nodeB 2 0 w=true:=h
    unfold Steps.nodeB at h
    rw [if_neg (by decide),if_pos (.inl rfl)] at h
    have:=(Bool.and_eq_true_iff.1 h).2
    rw [f2] at this
    cases this
theorem I_of_S {w:ByteArray} (h:wordB (nodeS w)=w):nodeI w=nodeS w:=by
 cases ho:opI w with
 | some j=>unfold nodeS nodeI;rw [ho]
 | none =>
  cases hn:Nums.num w with
  | none =>
   have hi:numI w=none:=by unfold numI;rw [hn]
   unfold nodeS nodeI;rw [ho,hi,hn]
  | some n =>
   have e:nodeS w=(1,n,⟨#[]⟩):=by unfold nodeS;rw [ho];dsimp only;rw [hn]
   rw [e] at h
   have e2:wordB (1,n,⟨#[]⟩)=decW n:=by unfold wordB;simp
   rw [e2] at h
   have hi:numI w=some n:=by unfold numI;rw [hn];dsimp only;rw [if_pos (eqB.2 h)]
   unfold nodeS nodeI;rw [ho,hi,hn]
theorem ok_all {L:List Stepx.Node} (h:exprB L=true):L.length<=30/\∀ x ∈ L,NodeOk x:=by
 unfold Stepx.exprB at h
 obtain ⟨h1,h2⟩:=Bool.and_eq_true_iff.1 h
 exact ⟨of_decide_eq_true h1,nodes_ok (eq_of_beq h2)⟩
theorem text_of {L:List Stepx.Node} (h:exprB L=true):(exprT L).data.toList=Lib.join ((words L).map (·.data.toList)) [32]:=by
 unfold exprT;rw [if_pos h]
theorem same (s:ByteArray):outI s=outS s:=by
 obtain ⟨jw,fw⟩:=join_W s.size s (Nat.le_refl _)
 by_cases hI:exprB ((W s).map nodeI)=true
 ·obtain ⟨h30,hok⟩:=ok_all hI
  rw [List.length_map] at h30
  have hS:(W s).map nodeS=(W s).map nodeI:=List.map_congr_left fun x hx=>S_of_I (hok _ (List.mem_map_of_mem hx))
  have ht:(W s).take 31=W s:=List.take_of_length_le (by omega)
  have hw:words ((W s).map nodeI)=W s:=by
   unfold words
   rw [List.map_map]
   exact (List.map_congr_left fun x _=>back_word).trans (List.map_id _)
  have hx:exprT ((W s).map nodeI)=s:=by
   apply ByteArray.ext
   apply Array.toList_inj.1
   rw [text_of hI,hw,jw]
  have hz:¬ s.size=0:=fun e=>by
   have hf:F s=false:=by
    cases hf:F s with
    | false=>rfl
    | true=>have:=B_lt hf;omega
   have hA:=(no_cut hf).1
   have hm:NodeOk (nodeI s):=hok _ (by rw [W_no hf,hA];simp)
   have ho:opI s=none:=op_none fun j hj=>by
    cases hb:opAtB s j with
    | false=>rfl
    | true =>
     have:=eqB.1 hb
     have sz:∀ j,j<14->¬ (opTab.getD j ⟨#[]⟩).size=0:=by decide
     exact absurd (by rw [this];exact e) (sz j hj)
   have hn:Nums.num s=none:=by unfold Nums.num;rw [if_pos (.inl e)]
   have hi:numI s=none:=by unfold numI;rw [hn]
   have hh:Nodi.hash s=false:=decide_eq_false (by omega)
   have en:nodeI s=(2,0,s):=by unfold nodeI;rw [ho];dsimp only;rw [hi];dsimp only;rw [hh];rfl
   rw [en] at hm
   have hm:Steps.nodeB 2 0 s=true:=hm
   unfold Steps.nodeB at hm
   rw [if_neg (by decide),if_pos (.inl rfl)] at hm
   have h1:=(of_decide_eq_true (Bool.and_eq_true_iff.1 hm).2).1
   omega
  unfold outI outS
  rw [if_pos hI,ht,hS,hx,if_neg (fun h=>h.elim hz (fun h2=>h2 rfl))]
 ·unfold outI outS
  rw [if_neg hI]
  by_cases hc:s.size=0 \/ ¬ exprT (((W s).take 31).map nodeS)=s
  ·rw [if_pos hc]
  ·exfalso
   have hz:¬ s.size=0:=fun h=>hc (.inl h)
   have hx:exprT (((W s).take 31).map nodeS)=s:=Decidable.of_not_not fun h=>hc (.inr h)
   have hB:exprB (((W s).take 31).map nodeS)=true:=by
    cases hb:exprB (((W s).take 31).map nodeS) with
    | true=>rfl
    | false =>
     unfold exprT at hx
     rw [hb] at hx
     rw [if_neg (by decide)] at hx
     exact absurd (by rw [<- hx];rfl) hz
   obtain ⟨h30,hok⟩:=ok_all hB
   rw [List.length_map,List.length_take] at h30
   have ht:(W s).take 31=W s:=List.take_of_length_le (by omega)
   rw [ht] at hx hB hok
   have hj:=text_of hB
   rw [hx,<- jw] at hj
   have e:=join_inj _ _ (by simpa using W_ne s) (by unfold words;simpa using W_ne s) (fun x hx=>by
    obtain ⟨y,hy,rfl⟩:=List.mem_map.1 hx
    exact fw y hy) (fun x hx=>by
    obtain ⟨y,hy,rfl⟩:=List.mem_map.1 hx
    unfold words at hy
    obtain ⟨z,hz,rfl⟩:=List.mem_map.1 hy
    exact word_free (hok z hz)) hj
   have hwd:∀ x ∈ W s,wordB (nodeS x)=x:=fun x hx=>by
    obtain ⟨i,hi,rfl⟩:=List.getElem_of_mem hx
    have h1:=congrArg (fun l=>l[i]?) e
    simp only [words,List.getElem?_map,List.getElem?_eq_getElem hi,Option.map_some] at h1
    apply ByteArray.ext
    apply Array.toList_inj.1
    exact (Option.some.inj h1).symm
   have hS:(W s).map nodeI=(W s).map nodeS:=List.map_congr_left fun x hx=>I_of_S (hwd x hx)
   rw [hS] at hI
   exact hI hB
end Woru
namespace Fine
def pNeg:List UInt8:=[110,101,103]
def pNot:List UInt8:=[110,111,116]
def pHi:List UInt8:=[104,105,103,104]
def pHiB:List UInt8:=[104,105,103,104,40]
def pLo:List UInt8:=[108,111,119]
def pLoB:List UInt8:=[108,111,119,40]
def pBh:List UInt8:=[98,97,110,107,40,104,105,103,104]
def pBl:List UInt8:=[98,97,110,107,40,108,111,119]
def pZz:List UInt8:=[122,122]
def okAt (l:List UInt8):Bool:=!pNeg.isPrefixOf l && !pNot.isPrefixOf l && (!pHi.isPrefixOf l || pHiB.isPrefixOf l) && (!pLo.isPrefixOf l || pLoB.isPrefixOf l) && !pBh.isPrefixOf l && !pBl.isPrefixOf l && !pZz.isPrefixOf l
def fine:List UInt8->Bool
 | []=>true
 | c :: l=>okAt (c :: l) && fine l
def apart (c:UInt8):Bool:=!(pNeg ++ pNot ++ pHiB ++ pLoB ++ pBh ++ pBl ++ pZz).contains c
theorem prefix_apart:∀ (p X:List UInt8) (c:UInt8) (t:List UInt8),p.contains c=false->p.isPrefixOf (X ++ c :: t)=p.isPrefixOf X
 | [],X,c,t,_=>by simp [List.isPrefixOf]
 | a :: p,[],c,t,h=>by
  simp at h
  have:(a == c)=false:=by simp;exact fun e=>h.1 e.symm
  simp [List.isPrefixOf,this]
 | a :: p,b :: X,c,t,h=>by
  simp at h
  have ih:=prefix_apart p X c t (by simp;exact h.2)
  simp only [List.cons_append,List.isPrefixOf,ih]
theorem okAt_apart {X:List UInt8} {c:UInt8} {t:List UInt8} (h:apart c=true):okAt (X ++ c :: t)=okAt X:=by
 unfold apart at h
 simp only [Bool.not_eq_true',List.contains_eq_mem,List.mem_append,decide_eq_false_iff_not,not_or] at h
 obtain ⟨⟨⟨⟨⟨⟨h1,h2⟩,h3⟩,h4⟩,h5⟩,h6⟩,h7⟩:=h
 have h3':¬ c ∈ pHi:=fun e=>h3 (List.mem_append_left [40] e)
 have h4':¬ c ∈ pLo:=fun e=>h4 (List.mem_append_left [40] e)
 have k:∀ p:List UInt8,¬ c ∈ p->p.isPrefixOf (X ++ c :: t)=p.isPrefixOf X:=fun p hp=>prefix_apart p X c t (by simpa using hp)
 unfold okAt
 rw [k _ h1,k _ h2,k _ h3,k _ h4,k _ h5,k _ h6,k _ h3',k _ h4',k _ h7]
theorem fine_apart:∀ {X:List UInt8} {c:UInt8} {t:List UInt8},apart c=true->fine X=true->fine (c :: t)=true->fine (X ++ c :: t)=true
 | [],c,t,_,_,h=>h
 | b :: X,c,t,hc,hX,h=>by
  have hX':okAt (b :: X)=true/\fine X=true:=by simpa [fine] using hX
  show (okAt (b :: (X ++ c :: t)) && fine (X ++ c :: t))=true
  rw [fine_apart hc hX'.2 h,show okAt (b :: (X ++ c :: t))=okAt (b :: X) from okAt_apart (X:=b :: X) hc,hX'.1]
  rfl
theorem fine_at:∀ {X:List UInt8} (i:Nat),fine X=true->i<X.length->okAt (X.drop i)=true
 | [],i,_,h=>absurd h (Nat.not_lt_zero _)
 | b :: X,0,h,_=>by
  have:okAt (b :: X)=true/\fine X=true:=by simpa [fine] using h
  exact this.1
 | b :: X,i+1,h,hi=>by
  have:okAt (b :: X)=true/\fine X=true:=by simpa [fine] using h
  exact fine_at i this.2 (by simpa using hi)
def F (t:ByteArray):Prop:=fine t.data.toList=true
theorem data_app (a b:ByteArray):(a ++ b).data.toList=a.data.toList ++ b.data.toList:=by rw [ByteArray.data_append,Array.toList_append]
theorem F_minus {x:ByteArray} (h:F x):F (⟨#[45]⟩ ++ x):=by
 unfold F at *;rw [data_app];exact (show fine (45 :: x.data.toList)=fine x.data.toList by kernel_rfl).trans h
theorem F_not {x:ByteArray} (h:F x):F (⟨#[126]⟩ ++ x):=by
 unfold F at *;rw [data_app];exact (show fine (126 :: x.data.toList)=fine x.data.toList by kernel_rfl).trans h
theorem F_open {x:ByteArray} (h:F x):F (⟨#[40]⟩ ++ x):=by
 unfold F at *;rw [data_app];exact (show fine (40 :: x.data.toList)=fine x.data.toList by kernel_rfl).trans h
theorem F_close {x:ByteArray} (h:F x):F (x ++ ⟨#[41]⟩):=by
 unfold F at *;rw [data_app];exact fine_apart (t:=[]) (by decide) h (by decide)
theorem F_high {x:ByteArray} (h:F x):F (⟨#[104,105,103,104,40]⟩ ++ x):=by
 unfold F at *;rw [data_app];exact (show fine (104 :: 105 :: 103 :: 104 :: 40 :: x.data.toList)=fine x.data.toList by kernel_rfl).trans h
theorem F_low {x:ByteArray} (h:F x):F (⟨#[108,111,119,40]⟩ ++ x):=by
 unfold F at *;rw [data_app];exact (show fine (108 :: 111 :: 119 :: 40 :: x.data.toList)=fine x.data.toList by kernel_rfl).trans h
def names:List ByteArray:=[⟨#[97,49]⟩,⟨#[108,111,111,112]⟩,⟨#[120,46,121]⟩,⟨#[101,110,100,95]⟩]
theorem F_names:∀ t ∈ names,F t/\t.size<=4/\F (⟨#[98,97,110,107,40]⟩ ++ t ++ ⟨#[41]⟩):=by
 intro t h
 simp only [names,List.mem_cons,List.not_mem_nil,or_false] at h
 rcases h with rfl|rfl|rfl|rfl <;> exact ⟨by unfold F;decide +kernel,by decide +kernel,by unfold F;rw [data_app,data_app];decide +kernel⟩
def ops:List ByteArray:=[⟨#[43]⟩,⟨#[45]⟩,⟨#[42]⟩,⟨#[47]⟩,⟨#[37]⟩,⟨#[38]⟩,⟨#[94]⟩,⟨#[124]⟩,⟨#[60,60]⟩,⟨#[62,62]⟩]
theorem F_ops {x y:ByteArray} (hx:F x) (hy:F y):∀ t ∈ ops,F (x ++ t ++ y)/\t.size<=2:=by
 intro t h
 have one:∀ c:UInt8,apart c=true->fine (c :: y.data.toList)=true->F (x ++ ⟨#[c]⟩ ++ y):=fun c h1 h2=>by
  unfold F at *;rw [data_app,data_app,List.append_assoc];exact fine_apart h1 hx h2
 have two:∀ c:UInt8,apart c=true->fine (c :: c :: y.data.toList)=true->F (x ++ ⟨#[c,c]⟩ ++ y):=fun c h1 h2=>by
  unfold F at *;rw [data_app,data_app,List.append_assoc];exact fine_apart (t:=c :: y.data.toList) h1 hx h2
 have hy':fine y.data.toList=true:=hy
 simp only [ops,List.mem_cons,List.not_mem_nil,or_false] at h
 rcases h with rfl|rfl|rfl|rfl|rfl|rfl|rfl|rfl|rfl|rfl
 all_goals refine ⟨?_,by decide⟩
 all_goals first
  | exact one _ (by decide) ((show _=fine y.data.toList by kernel_rfl).trans hy')
  | exact two _ (by decide) ((show _=fine y.data.toList by kernel_rfl).trans hy')
end Fine
namespace Cmpb
open Go.Deep
open Cmpa
def opLen (k:Int):Nat:=if 16<=k then 2 else 1
def opTab:List ByteArray:=[⟨#[]⟩,⟨#[]⟩,⟨#[]⟩,⟨#[]⟩,⟨#[110,101,103]⟩,⟨#[110,111,116]⟩,⟨#[104,105,103,104]⟩,⟨#[108,111,119]⟩,⟨#[43]⟩,⟨#[45]⟩,⟨#[42]⟩,⟨#[47]⟩,⟨#[37]⟩,⟨#[38]⟩,⟨#[94]⟩,⟨#[124]⟩,⟨#[60,60]⟩,⟨#[62,62]⟩]
def wordsA:Array Value:=(opTab.map Value.string).toArray
theorem tab_at:∀ k:Nat,8<=k->k<=17->(opTab.getD k ⟨#[]⟩).size=opLen (k:Int):=by
 intro k h0 h1
 have:k=8 \/ k=9 \/ k=10 \/ k=11 \/ k=12 \/ k=13 \/ k=14 \/ k=15 \/ k=16 \/ k=17:=by omega
 rcases this with rfl|rfl|rfl|rfl|rfl|rfl|rfl|rfl|rfl|rfl <;> rfl
theorem words_at (k:Nat) (h:k<18):wordsA[k]? = some (.string (opTab.getD k ⟨#[]⟩)):=by
 unfold wordsA
 simp [List.getElem?_map,List.getD_eq_getElem?_getD,List.getElem?_eq_getElem (show k<opTab.length from h)]
theorem words_any (w:World):Calls prog 118 #[] w fun e w'=>e=.returned (.slice (some ⟨w.heap.size,0,none⟩) 18 18)/\w'=w.alloc (.cells wordsA 9):=by
 go_enter func118,ntmps118
 go_wp2
 go_ret
 exact ⟨rfl,rfl⟩
theorem l2Level_any (k:Int) (w:World):Calls prog 169 #[.int .i64 k] w fun e w'=>(∃ z:Int,1<=z/\z<=6/\e=.returned (.int .i64 z))/\w'=w:=by
 go_enter func169,ntmps169
 go_wp2
 all_goals go_ret
 all_goals exact ⟨⟨_,by decide,by decide,rfl⟩,rfl⟩
theorem op_any (pb k:Nat) (s:ByteArray) (bad:Bool) (w:World) (h:PS w pb s k bad) :
  Calls prog 168 #[.pointer (some ⟨pb,0,none⟩)] w fun e w'=>(∃ z:Int,(z=0 \/ 8<=z/\z<=17/\k+opLen z<=s.size)/\e=.returned (.int .i64 z))/\PS w' pb s k bad/\Below pb w w':=by
 have H:Hid (PS w pb s k bad):=h
 have hlt:=h.lt
 have HR:Hid (∀ q:Nat,8<=q->q<=17->∃ t:ByteArray,t.size=opLen (q:Int)/\∀ W,Below (w.alloc (.cells wordsA 9)).heap.size (w.alloc (.cells wordsA 9)) W->W.cell? ⟨w.heap.size,q,none⟩=some (.string t)):=fun q h0 h1=>by
  refine ⟨_,tab_at q h0 h1,fun W hW=>?_⟩
  rw [hW.cell (p:=⟨w.heap.size,q,none⟩) (by simp),World.cell?_alloc_new]
  exact words_at q (by omega)
 have HA:Hid (∀ W,Below (w.alloc (.cells wordsA 9)).heap.size (w.alloc (.cells wordsA 9)) W->PS W pb s k bad/\Below pb w W):=fun W hW=>⟨(h.kept (zAl _ _)).kept hW,(zRf.alloc (Nat.le_of_lt hlt) _).trans (hW.mono (by simp;omega))⟩
 obtain ⟨a,cap,L,c0,c1,c2,c3,cf,hk,hs,hl30,hg,ho⟩:=h
 clear ho hg hl30 c2 c3 cf c0 c1
 obtain ⟨W0,hW0⟩ : ∃ W,W=w.alloc (.cells wordsA 9):=⟨_,rfl⟩
 rw [<- hW0] at HR HA
 go_enter func168,ntmps168
 go_wp2_with (go_at_call 118;refine (words_any _).mono ?_;rw [<- hW0];clear hW0;rintro e w1 ⟨rfl,rfl⟩)
 go_loopw [4] (fun v wr=>∃ q:Nat,v=.int .i64 (q:Int)/\7<=q/\q<=17/\Hid (Below w1.heap.size w1 wr)) (fun v _=>(intOf v).toNat)
 case atStart=>exact ⟨17,rfl,by decide,by decide,Below.refl _ _⟩
 case round =>
  obtain ⟨q,rfl,h7,h17,hb⟩:=hrel
  by_cases h8:8<=q
  ·obtain ⟨t,ht,hc⟩:=HR.out q h8 h17
   have hps:=HA.out wr hb.out
   obtain ⟨⟨a,cap,L,c0,c1,_⟩,_⟩:=hps
   have ct:=hc wr hb.out
   have ho:opLen (q:Int)<=2:=by unfold opLen;split <;> omega
   have FIN:Hid (k+t.size<=s.size->k+opLen (q:Int)<=s.size):=fun h=>by rw [<- ht];exact h
   have p1:IntKind.i64.wrap ((s.size:Int)-(k:Int))=(s.size:Int)-(k:Int):=by rw [IntKind.wrap_i64];omega
   have p2:IntKind.i64.wrap ((k:Int)+(t.size:Int))=(k:Int)+(t.size:Int):=by rw [IntKind.wrap_i64];omega
   rw [<- ht] at ho
   clear hc ht HR
   by_cases h0:(t.size:Int)<=(s.size:Int)-(k:Int)
   ·have d0:decide ((t.size:Int)<=(s.size:Int)-(k:Int))=true:=decide_eq_true h0
    have s1:∀ w,(Instr.slice 9 (.string s) (some (.int .i64 (k:Int))) (some (.int .i64 ((k:Int)+(t.size:Int)))) none).run prog w=.ok (.string (s.extract k (k+t.size))) w:=fun w=>by
     have:=run_slice_string (P:=prog) w 9 s .i64 .i64 (k:Int) ((k:Int)+(t.size:Int)) underlying9 (by omega) (by omega) (by omega)
     rwa [show ((k:Int)+(t.size:Int)).toNat=k+t.size by omega,show ((k:Int)).toNat=k by omega] at this
    cases q1:((s.extract k (k+t.size)).toList == t.toList) with
    | true =>
     go_wp2_with fail
     go_quiet (fail)
     go_wp2
     go_ret
     exact ⟨⟨q,.inr ⟨by omega,by omega,FIN.out (by omega)⟩,rfl⟩,HA.out _ (below_drewN hb.out _)⟩
    | false =>
     go_wp2_with fail
     go_quiet (fail)
     go_wp2
     go_roundw
     case rel=>exact ⟨q-1,by congr 1;omega,by omega,by omega,below_drewN hb.out _⟩
     case measure=>simp [intOf];omega
   ·have d0:decide ((t.size:Int)<=(s.size:Int)-(k:Int))=false:=decide_eq_false h0
    go_wp2_with fail
    go_quiet (fail)
    go_wp2
    go_roundw
    case rel=>exact ⟨q-1,by congr 1;omega,by omega,by omega,below_drewN hb.out _⟩
    case measure=>simp [intOf];omega
  ·have _hk:=0
   go_wp2_with fail
   go_ret
   exact ⟨⟨0,.inl rfl,rfl⟩,HA.out _ hb.out⟩
end Cmpb
end Go.Proofs.YtickfkphhngagaaGreatDoor
