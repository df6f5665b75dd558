import Derived.Test.YtbofcepdckpkkaaGreatDoorP16
import Derived.Test.YtbofcepdckpkkaaGreatDoorP18
import Derived.Lib.AppendIntMem
import Derived.Deep.DeepFit
set_option linter.all false
set_option maxRecDepth 20000
set_option maxHeartbeats 8000000
open Go.ChangeShapes Go.WideShapes Go.ChangeAt Go.RowKit
open Go.Proofs.Tryz
namespace Go.Proofs.YtbofcepdckpkkaaGreatDoor
namespace Cmxb
open Go.Deep
open Prsp Prsl Xima Cmxa
section pure
variable {s:ByteArray} {k j:Nat} {v l:St->Option St} {L:List Stepx.Node}
theorem ext_take (s:ByteArray) (k n:Nat):(s.extract k (k+n)).data.toList=(s.data.toList.drop k).take n:=by
 rw [ByteArray.data_extract,Array.toList_extract,List.extract_eq_take_drop,show k+n-k=n by omega]
theorem here_take (t:List UInt8) (ht:t ≠ []):here s k ⟨t.toArray⟩=decide ((s.data.toList.drop k).take t.length=t):=by
 have hsz:(⟨t.toArray⟩ : ByteArray).size=t.length:=rfl
 have h0:0<t.length:=List.length_pos_iff.2 ht
 by_cases h:(s.data.toList.drop k).take t.length=t
 ·rw [decide_eq_true h]
  have:=congrArg List.length h
  rw [List.length_take,List.length_drop] at this
  have e2:s.data.toList.length=s.size:=rfl
  refine decide_eq_true ⟨by rw [hsz];omega,?_⟩
  refine ByteArray.ext (Array.ext' ?_)
  rw [hsz,ext_take,h]
 ·rw [decide_eq_false h]
  refine decide_eq_false (fun q=>h ?_)
  have:=congrArg (fun x:ByteArray=>x.data.toList) q.2
  simp only [] at this
  rw [hsz,ext_take] at this
  exact this
theorem here_one (c:UInt8) (hc:(c.toNat:Int) ≠ 0):here s k ⟨#[c]⟩=decide (hd (s.data.toList.drop k)=(c.toNat:Int)):=by
 have:=here_take (s:=s) (k:=k) [c] (by simp)
 refine this.trans ?_
 generalize s.data.toList.drop k=m
 cases m with
 | nil=>exact (decide_eq_false (by simp)).trans (decide_eq_false (fun h=>hc (by rw [<- h];rfl))).symm
 | cons b r =>
  by_cases h:b=c
  ·subst h;exact (decide_eq_true (by simp)).trans (decide_eq_true rfl).symm
  ·refine (decide_eq_false (fun q=>h ?_)).trans (decide_eq_false (fun q=>h (UInt8.toNat_inj.1 (by have:(b.toNat:Int)=c.toNat:=q;omega)))).symm
   have q:(b :: r).take 1=[c]:=q
   simpa using q
theorem here_opens (t:List UInt8) (ht:∀ c ∈ t,isW c=true):here s k ⟨(t ++ [40]).toArray⟩=opens (s.data.toList.drop k) t:=by
 refine (here_take (t ++ [40]) (by simp)).trans ?_
 generalize s.data.toList.drop k=m
 unfold opens
 by_cases h:m.take (t ++ [40]).length=t ++ [40]
 ·rw [decide_eq_true h]
  refine (decide_eq_true ?_).symm
  have e:m=t ++ 40 :: m.drop (t ++ [40]).length:=by
   have:=List.take_append_drop (t ++ [40]).length m
   rw [h,List.append_assoc] at this
   exact this.symm
  rw [e]
  constructor
  ·unfold af;rw [List.dropWhile_append_of_pos ht];rfl
  ·unfold wd;rw [List.takeWhile_append_of_pos ht,List.takeWhile_cons,if_neg (by decide),List.append_nil]
 ·rw [decide_eq_false h]
  refine (decide_eq_false (fun q=>h ?_)).symm
  obtain ⟨c,r,e1,e2⟩:=Prsm.hd_cons q.1 (by decide)
  have e:=wd_af m
  rw [q.2,e1] at e
  have hc:c=40:=UInt8.toNat_inj.1 (by have:((40:UInt8).toNat:Int)=40:=rfl;omega)
  rw [<- e,hc]
  have:t ++ 40 :: r=(t ++ [40]) ++ r:=by simp
  rw [this,List.take_left]
theorem here_idx {t:List UInt8} (h:here s k ⟨t.toArray⟩=true) (i:Nat) (hi:i<t.length):∃ hh:k+i<s.size,s[k+i]=t[i]:=by
 obtain ⟨h1,h2⟩:=of_decide_eq_true h
 have hsz:(⟨t.toArray⟩ : ByteArray).size=t.length:=rfl
 rw [hsz] at h1 h2
 have hh:k+i<s.size:=by omega
 refine ⟨hh,?_⟩
 have e:=congrArg (fun x:ByteArray=>x.data.toList) h2
 simp only [] at e
 rw [ext_take] at e
 have e3:((s.data.toList.drop k).take t.length)[i]? = t[i]?:=by rw [e]
 rw [List.getElem?_take,if_pos hi,List.getElem?_drop,List.getElem?_eq_getElem hi,List.getElem?_eq_getElem (show k+i<s.data.toList.length from hh)] at e3
 exact Option.some.inj e3
theorem opens_hd {m t:List UInt8} (h:opens m t=true) (ht:t ≠ []):hd m=hd t:=by
 have q:=of_decide_eq_true h
 have e:=wd_af m
 rw [q.2] at e
 rw [<- e]
 cases t with
 | nil=>exact absurd rfl ht
 | cons c r=>rfl
theorem opens_len {t:List UInt8} (h:opens (s.data.toList.drop k) t=true):af (s.data.toList.drop k)=s.data.toList.drop (k+t.length)/\hd (s.data.toList.drop (k+t.length))=40:=by
 have q:=of_decide_eq_true h
 have e:=wd_af (s.data.toList.drop k)
 rw [q.2] at e
 have e2:(s.data.toList.drop k).drop t.length=af (s.data.toList.drop k):=by rw [<- e,List.drop_left,<- q.2,wd_af]
 rw [List.drop_drop] at e2
 exact ⟨e2.symm,by rw [e2];exact q.1⟩
theorem val_neg (h:hd (s.data.toList.drop k)=45):valueF v l (s.data.toList.drop k,L)=(v (s.data.toList.drop (k+1),L)).bind (put (4,0,E0)):=by
 unfold valueF;rw [if_pos h,tl]
theorem val_not (h:hd (s.data.toList.drop k)=126):valueF v l (s.data.toList.drop k,L)=(v (s.data.toList.drop (k+1),L)).bind (put (5,0,E0)):=by
 unfold valueF
 rw [if_neg (by show ¬ hd (s.data.toList.drop k)=45;omega),if_pos h,tl]
theorem val_br (h:hd (s.data.toList.drop k)=40):valueF v l (s.data.toList.drop k,L)=(l (s.data.toList.drop (k+1),L)).bind close:=by
 unfold valueF
 rw [if_neg (by show ¬ hd (s.data.toList.drop k)=45;omega),if_neg (by show ¬ hd (s.data.toList.drop k)=126;omega),if_pos h]
 unfold brF
 rw [tl]
theorem val_word (h1:¬ hd (s.data.toList.drop k)=45) (h2:¬ hd (s.data.toList.drop k)=126) (h3:¬ hd (s.data.toList.drop k)=40):valueF v l (s.data.toList.drop k,L)=wordF l (s.data.toList.drop k,L):=by
 unfold valueF
 rw [if_neg h1,if_neg h2,if_neg h3]
theorem no_sign (h1:¬ hd (s.data.toList.drop k)=36) (h2:¬ hd (s.data.toList.drop k)=37):signed (s.data.toList.drop k)=false:=decide_eq_false (fun h=>by omega)
theorem val_hi (h:opens (s.data.toList.drop k) high=true):valueF v l (s.data.toList.drop k,L)=((l (s.data.toList.drop (k+5),L)).bind close).bind (put (6,0,E0)):=by
 have h1:hd (s.data.toList.drop k)=104:=opens_hd h (by decide)
 obtain ⟨h2,h3⟩:=opens_len h
 rw [val_word (by omega) (by omega) (by omega)]
 rw [Xime.word_high (j:=k+4) (no_sign (by omega) (by omega)) h2 (by rw [hdK_def];exact h3) (of_decide_eq_true h).2]
 unfold brF
 rw [tl]
theorem val_lo (h:opens (s.data.toList.drop k) low=true):valueF v l (s.data.toList.drop k,L)=((l (s.data.toList.drop (k+4),L)).bind close).bind (put (7,0,E0)):=by
 have h1:hd (s.data.toList.drop k)=108:=opens_hd h (by decide)
 obtain ⟨h2,h3⟩:=opens_len h
 rw [val_word (by omega) (by omega) (by omega)]
 rw [Xime.word_low (j:=k+3) (no_sign (by omega) (by omega)) h2 (by rw [hdK_def];exact h3) (of_decide_eq_true h).2]
 unfold brF
 rw [tl]
theorem val_bank (h:opens (s.data.toList.drop k) bank=true):valueF v l (s.data.toList.drop k,L)=bankF (s.data.toList.drop (k+5),L):=by
 have h1:hd (s.data.toList.drop k)=98:=opens_hd h (by decide)
 obtain ⟨h2,h3⟩:=opens_len h
 rw [val_word (by omega) (by omega) (by omega)]
 rw [Xime.word_bank (j:=k+4) (no_sign (by omega) (by omega)) h2 (by rw [hdK_def];exact h3) (of_decide_eq_true h).2]
theorem val_leaf (hk:k<=j) (hj:j<=s.size) (haf:af (s.data.toList.drop k)=s.data.toList.drop j) (h1:¬ hd (s.data.toList.drop k)=45) (h2:¬ hd (s.data.toList.drop k)=126) (h3:¬ hd (s.data.toList.drop k)=40)
  (h4:¬ hd (s.data.toList.drop k)=36) (h5:¬ hd (s.data.toList.drop k)=37) (o1:opens (s.data.toList.drop k) high=false) (o2:opens (s.data.toList.drop k) low=false) (o3:opens (s.data.toList.drop k) bank=false) :
  valueF v l (s.data.toList.drop k,L)=leafF (s.extract k j) (s.data.toList.drop j,L):=by
 rw [val_word h1 h2 h3]
 refine Xime.word_leaf hk hj (no_sign h4 h5) haf ?_
 by_cases h:hdK s j=40
 ·refine .inr ⟨fun q=>?_,fun q=>?_,fun q=>?_⟩
  ·rw [Xime.opens_yes haf _ h q] at o1;cases o1
  ·rw [Xime.opens_yes haf _ h q] at o2;cases o2
  ·rw [Xime.opens_yes haf _ h q] at o3;cases o3
 ·exact .inl h
theorem val_sign (hk:k+1<=j) (hj:j<=s.size) (h:hd (s.data.toList.drop k)=36 \/ hd (s.data.toList.drop k)=37) (haf:af (s.data.toList.drop (k+1))=s.data.toList.drop j) :
  valueF v l (s.data.toList.drop k,L)=leafF (s.extract k j) (s.data.toList.drop j,L):=by
 rw [val_word (by omega) (by omega) (by omega)]
 exact Xime.word_signed hk hj (by rw [hdK_def];exact h) haf
theorem cat_sign {c:UInt8} (hk:k+1<=j) (hj:j<=s.size) (h:hd (s.data.toList.drop k)=(c.toNat:Int)):(⟨#[c]⟩ : ByteArray) ++ s.extract (k+1) j=s.extract k j:=by
 have hk':k<s.size:=by omega
 rw [hd_in s k hk'] at h
 have e:s[k]=c:=UInt8.toNat_inj.1 (by omega)
 refine ByteArray.ext (Array.ext' ?_)
 rw [ByteArray.data_append,Array.toList_append,ByteArray.data_extract,ByteArray.data_extract,Array.toList_extract,Array.toList_extract,List.extract_eq_take_drop,List.extract_eq_take_drop,Nums.drop_at s k hk',e]
 rw [show j-k=(j-(k+1))+1 by omega,List.take_succ_cons]
 rfl
theorem name_sign {c:UInt8} (hk:k<j) (hj:j<=s.size) (h:hd (s.data.toList.drop k)=(c.toNat:Int)) (hc:Names.nbB (c.toNat:Int)=false):Names.nameB (s.extract k j)=false:=by
 have hk':k<s.size:=by omega
 have hz:(s.extract k j).size=j-k:=by rw [ByteArray.size_extract];omega
 refine Names.name_no (fun q=>?_)
 have q4:=q.2.2.2 0 (by omega)
 have e:(s.extract k j)[0]'(by omega)=s[k]:=by
  show (s.extract k j).data[0]'_=s.data[k]
  simp only [ByteArray.data_extract]
  rw [Array.getElem_extract]
  simp
 rw [e] at q4
 rw [hd_in s k hk'] at h
 rw [h,hc] at q4
 cases q4
theorem op_single {A B:Prop} [Decidable A] [Decidable B] {h:Int} (hA:A->h=60) (hB:B->h=62) (c q:Int) (hq:(c,q) ∈ [((43:Int),(8:Int)),(45,9),(42,10),(47,11),(37,12),(38,13),(94,14),(124,15)]) :
  (if A then (16:Int) else if B then 17 else if h=42 then 10 else if h=47 then 11 else if h=37 then 12 else if h=43 then 8 else if h=45 then 9 else if h=38 then 13 else if h=94 then 14 else if h=124 then 15 else 0)=q ↔ h=c:=by
 simp only [List.mem_cons,Prod.mk.injEq,List.not_mem_nil,or_false] at hq
 by_cases a:A
 ·have:=hA a;rw [if_pos a];omega
 ·rw [if_neg a]
  by_cases b:B
  ·have:=hB b;rw [if_pos b];omega
  ·rw [if_neg b]
   repeat' split
   all_goals omega
end pure
def opLen (k:Int):Nat:=if 16<=k then 2 else 1
def opTab:List ByteArray:=[⟨#[]⟩,⟨#[]⟩,⟨#[]⟩,⟨#[]⟩,⟨#[110,101,103]⟩,⟨#[110,111,116]⟩,⟨#[104,105,103,104]⟩,⟨#[108,111,119]⟩,⟨#[43]⟩,⟨#[45]⟩,⟨#[42]⟩,⟨#[47]⟩,⟨#[37]⟩,⟨#[38]⟩,⟨#[94]⟩,⟨#[124]⟩,⟨#[60,60]⟩,⟨#[62,62]⟩]
def wordsA:Array Value:=(opTab.map Value.string).toArray
theorem tab_at:∀ k:Nat,8<=k->k<=17->(opTab.getD k ⟨#[]⟩).size=opLen (k:Int):=by
 intro k h0 h1
 have:k=8 \/ k=9 \/ k=10 \/ k=11 \/ k=12 \/ k=13 \/ k=14 \/ k=15 \/ k=16 \/ k=17:=by omega
 rcases this with rfl|rfl|rfl|rfl|rfl|rfl|rfl|rfl|rfl|rfl <;> rfl
theorem words_at (k:Nat) (h:k<18):wordsA[k]? = some (.string (opTab.getD k ⟨#[]⟩)):=by
 unfold wordsA
 simp [List.getElem?_map,List.getD_eq_getElem?_getD,List.getElem?_eq_getElem (show k<opTab.length from h)]
theorem words_any (w:World):Calls prog 101 #[] w fun e w'=>e=.returned (.slice (some ⟨w.heap.size,0,none⟩) 18 18)/\w'=w.alloc (.cells wordsA 9):=by
 go_enter func101,ntmps101
 go_wp2
 go_ret
 exact ⟨rfl,rfl⟩
theorem level_any (k:Int) (h:8<=k/\k<=17) (w:World):Calls prog 100 #[.int .i64 k] w fun e w'=>e=.returned (.int .i64 (tgt k))/\w'=w:=by
 have:k=8 \/ k=9 \/ k=10 \/ k=11 \/ k=12 \/ k=13 \/ k=14 \/ k=15 \/ k=16 \/ k=17:=by omega
 rcases this with rfl|rfl|rfl|rfl|rfl|rfl|rfl|rfl|rfl|rfl
 ·go_enter func100,ntmps100
  go_wp2
  go_ret
  exact ⟨by rw [show tgt 8=5 from by decide];rfl,rfl⟩
 ·go_enter func100,ntmps100
  go_wp2
  go_ret
  exact ⟨by rw [show tgt 9=5 from by decide];rfl,rfl⟩
 ·go_enter func100,ntmps100
  go_wp2
  go_ret
  exact ⟨by rw [show tgt 10=6 from by decide];rfl,rfl⟩
 ·go_enter func100,ntmps100
  go_wp2
  go_ret
  exact ⟨by rw [show tgt 11=6 from by decide];rfl,rfl⟩
 ·go_enter func100,ntmps100
  go_wp2
  go_ret
  exact ⟨by rw [show tgt 12=6 from by decide];rfl,rfl⟩
 ·go_enter func100,ntmps100
  go_wp2
  go_ret
  exact ⟨by rw [show tgt 13=3 from by decide];rfl,rfl⟩
 ·go_enter func100,ntmps100
  go_wp2
  go_ret
  exact ⟨by rw [show tgt 14=2 from by decide];rfl,rfl⟩
 ·go_enter func100,ntmps100
  go_wp2
  go_ret
  exact ⟨by rw [show tgt 15=1 from by decide];rfl,rfl⟩
 ·go_enter func100,ntmps100
  go_wp2
  go_ret
  exact ⟨by rw [show tgt 16=4 from by decide];rfl,rfl⟩
 ·go_enter func100,ntmps100
  go_wp2
  go_ret
  exact ⟨by rw [show tgt 17=4 from by decide];rfl,rfl⟩
theorem take2 {m:List UInt8} {c:UInt8} (h:m.take 2=[c,c]):hd m=(c.toNat:Int):=by
 cases m with
 | nil=>simp at h
 | cons b r =>
  rw [List.take_succ_cons] at h
  have:=(List.cons.inj h).1
  show (b.toNat:Int)=_
  rw [this]
theorem op_here (s:ByteArray) (k:Nat):∀ q:Nat,8<=q->q<=17->here s k (opTab.getD q ⟨#[]⟩)=decide (opK (s.data.toList.drop k)=(q:Int)):=by
 intro q h0 h1
 have hA:(s.data.toList.drop k).take 2=[60,60]->hd (s.data.toList.drop k)=60:=fun h=>take2 h
 have hB:(s.data.toList.drop k).take 2=[62,62]->hd (s.data.toList.drop k)=62:=fun h=>take2 h
 have single:∀ (c:UInt8) (z:Int),((c.toNat:Int),z) ∈ [((43:Int),(8:Int)),(45,9),(42,10),(47,11),(37,12),(38,13),(94,14),(124,15)]->(c.toNat:Int) ≠ 0->here s k ⟨#[c]⟩=decide (opK (s.data.toList.drop k)=z):=fun c z hm hc=>by
  rw [here_one c hc]
  exact decide_eq_decide.2 (op_single hA hB _ _ hm).symm
 have:q=8 \/ q=9 \/ q=10 \/ q=11 \/ q=12 \/ q=13 \/ q=14 \/ q=15 \/ q=16 \/ q=17:=by omega
 rcases this with rfl|rfl|rfl|rfl|rfl|rfl|rfl|rfl|rfl|rfl
 ·exact single 43 8 (by decide) (by decide)
 ·exact single 45 9 (by decide) (by decide)
 ·exact single 42 10 (by decide) (by decide)
 ·exact single 47 11 (by decide) (by decide)
 ·exact single 37 12 (by decide) (by decide)
 ·exact single 38 13 (by decide) (by decide)
 ·exact single 94 14 (by decide) (by decide)
 ·exact single 124 15 (by decide) (by decide)
 ·refine (here_take [60,60] (by simp)).trans (decide_eq_decide.2 ?_)
  show (s.data.toList.drop k).take 2=[60,60] ↔ opK (s.data.toList.drop k)=16
  unfold opK
  by_cases a:(s.data.toList.drop k).take 2=[60,60]
  ·rw [if_pos a];exact ⟨fun _=>rfl,fun _=>a⟩
  ·rw [if_neg a]
   refine ⟨fun h=>absurd h a,fun h=>?_⟩
   exfalso
   revert h
   repeat' split
   all_goals (intro h;omega)
 ·refine (here_take [62,62] (by simp)).trans (decide_eq_decide.2 ?_)
  show (s.data.toList.drop k).take 2=[62,62] ↔ opK (s.data.toList.drop k)=17
  unfold opK
  by_cases a:(s.data.toList.drop k).take 2=[60,60]
  ·rw [if_pos a]
   exact ⟨fun h=>by rw [a] at h;exact absurd h (by decide),fun h=>absurd h (by decide)⟩
  ·rw [if_neg a]
   by_cases b:(s.data.toList.drop k).take 2=[62,62]
   ·rw [if_pos b];exact ⟨fun _=>rfl,fun _=>b⟩
   ·rw [if_neg b]
    refine ⟨fun h=>absurd h b,fun h=>?_⟩
    exfalso
    revert h
    repeat' split
    all_goals (intro h;omega)
theorem op_any (pb k:Nat) (s:ByteArray) (L:List Stepx.Node) (w:World) (h:PX w pb s k (some (s.data.toList.drop k,L))) :
  Calls prog 99 #[.pointer (some ⟨pb,0,none⟩)] w fun e w'=>e=.returned (.int .i64 (opK (s.data.toList.drop k)))/\PX w' pb s k (some (s.data.toList.drop k,L))/\Below pb w w':=by
 have H:Hid (PX w pb s k (some (s.data.toList.drop k,L))):=h
 have hlt:=h.lt
 have HR:Hid (∀ q:Nat,8<=q->q<=17->∃ t:ByteArray,t.size=opLen (q:Int)/\here s k t=decide (opK (s.data.toList.drop k)=(q:Int))/\∀ W,Below (w.alloc (.cells wordsA 9)).heap.size (w.alloc (.cells wordsA 9)) W->W.cell? ⟨w.heap.size,q,none⟩=some (.string t)):=fun q h0 h1=>by
  refine ⟨_,tab_at q h0 h1,op_here s k q h0 h1,fun W hW=>?_⟩
  rw [hW.cell (p:=⟨w.heap.size,q,none⟩) (by simp),World.cell?_alloc_new]
  exact words_at q (by omega)
 have HA:Hid (∀ W,Below (w.alloc (.cells wordsA 9)).heap.size (w.alloc (.cells wordsA 9)) W->PX W pb s k (some (s.data.toList.drop k,L))/\Below pb w W):=fun W hW=>⟨(h.kept (zAl _ _)).kept hW,(zRf.alloc (Nat.le_of_lt hlt) _).trans (hW.mono (by simp;omega))⟩
 have hk:=h.sz.1
 have hs:=h.sz.2
 have OB:Hid (opK (s.data.toList.drop k)=0 \/ 8<=opK (s.data.toList.drop k)/\opK (s.data.toList.drop k)<=17):=op_bd _
 clear h
 obtain ⟨O,hO⟩ : ∃ O,O=opK (s.data.toList.drop k):=⟨_,rfl⟩
 rw [<- hO] at HR OB
 rw [<- hO]
 clear hO
 obtain ⟨W0,hW0⟩ : ∃ W,W=w.alloc (.cells wordsA 9):=⟨_,rfl⟩
 rw [<- hW0] at HR HA
 go_enter func99,ntmps99
 go_wp2_with (go_at_call 101;refine (words_any _).mono ?_;rw [<- hW0];clear hW0;rintro e w1 ⟨rfl,rfl⟩)
 go_loopw [4] (fun v wr=>∃ q:Nat,v=.int .i64 (q:Int)/\7<=q/\q<=17/\Hid (Below w1.heap.size w1 wr)/\Hid (∀ p:Nat,q<p->p<=17->O ≠ (p:Int))) (fun v _=>(intOf v).toNat)
 case atStart=>exact ⟨17,rfl,by decide,by decide,Below.refl _ _,fun p h1 h2=>by omega⟩
 case round =>
  obtain ⟨q,rfl,h7,h17,hb,hnot⟩:=hrel
  by_cases h8:8<=q
  ·obtain ⟨t,ht,hh,hc⟩:=HR.out q h8 h17
   have HH:Hid (here s k t=decide (O=(q:Int))):=hh
   clear hh
   have hps:=HA.out wr hb.out
   have c0:=hps.1.c0
   have c1:=hps.1.c1
   clear hps
   have ct:=hc wr hb.out
   have ho:opLen (q:Int)<=2:=by unfold opLen;split <;> omega
   have p1:IntKind.i64.wrap ((s.size:Int)-(k:Int))=(s.size:Int)-(k:Int):=by rw [IntKind.wrap_i64];omega
   have p2:IntKind.i64.wrap ((k:Int)+(t.size:Int))=(k:Int)+(t.size:Int):=by rw [IntKind.wrap_i64];omega
   rw [<- ht] at ho
   clear hc ht HR
   by_cases h0:(t.size:Int)<=(s.size:Int)-(k:Int)
   ·have d0:decide ((t.size:Int)<=(s.size:Int)-(k:Int))=true:=decide_eq_true h0
    have s1:∀ w,(Instr.slice 9 (.string s) (some (.int .i64 (k:Int))) (some (.int .i64 ((k:Int)+(t.size:Int)))) none).run prog w=.ok (.string (s.extract k (k+t.size))) w:=fun w=>by
     have:=run_slice_string (P:=prog) w 9 s .i64 .i64 (k:Int) ((k:Int)+(t.size:Int)) underlying9 (by omega) (by omega) (by omega)
     rwa [show ((k:Int)+(t.size:Int)).toNat=k+t.size by omega,show ((k:Int)).toNat=k by omega] at this
    cases q1:((s.extract k (k+t.size)).toList == t.toList) with
    | true =>
     have YES:Hid (O=(q:Int)):=(show O=(q:Int) from by have e:=HH.out;rw [show here s k t=true from decide_eq_true ⟨by omega,eq_list.1 q1⟩] at e;exact of_decide_eq_true e.symm)
     go_wp2_with fail
     go_quiet (fail)
     go_wp2
     go_ret
     exact ⟨by rw [YES.out];rfl,HA.out _ (below_drewN hb.out _)⟩
    | false =>
     have NX:Hid (∀ p:Nat,q-1<p->p<=17->O ≠ (p:Int)):=fun p h1 h2=>by
      by_cases hp:p=q
      ·subst hp;have e:=HH.out;rw [show here s k t=false from decide_eq_false (fun h=>by have:=eq_list.2 h.2;rw [q1] at this;cases this)] at e;exact (of_decide_eq_false e.symm)
      ·exact hnot.out p (by omega) h2
     go_wp2_with fail
     go_quiet (fail)
     go_wp2
     go_roundw
     case rel=>exact ⟨q-1,by congr 1;omega,by omega,by omega,below_drewN hb.out _,NX.out⟩
     case measure=>simp [intOf];omega
   ·have d0:decide ((t.size:Int)<=(s.size:Int)-(k:Int))=false:=decide_eq_false h0
    have NX:Hid (∀ p:Nat,q-1<p->p<=17->O ≠ (p:Int)):=fun p h1 h2=>by
     by_cases hp:p=q
     ·subst hp;have e:=HH.out;rw [show here s k t=false from decide_eq_false (fun h=>by omega)] at e;exact (of_decide_eq_false e.symm)
     ·exact hnot.out p (by omega) h2
    go_wp2_with fail
    go_quiet (fail)
    go_wp2
    go_roundw
    case rel=>exact ⟨q-1,by congr 1;omega,by omega,by omega,below_drewN hb.out _,NX.out⟩
    case measure=>simp [intOf];omega
  ·have _hk:=0
   go_wp2_with fail
   go_ret
   exact ⟨by rw [show O=0 from by rcases OB.out with h|h;exact h;exact absurd (show O=((O.toNat:Nat):Int) by omega) (hnot.out O.toNat (by omega) (by omega))];rfl,HA.out _ hb.out⟩
end Cmxb
namespace InsX
open Signed (isByte_any)
open Signed (inB l1In_any ret_bool)
open Leng (empty_yes empty_no tmpl_le)
open HoleX (n8 n16 e8 holeT holeP)
open HolI LenX
theorem isWord_any (n:Int) (w:World) :
  Calls prog 58 #[.int .i64 n] w fun e w'=>e=.returned (.bool (inB n 0 65535))/\w'=w:=by
 go_enter func58,ntmps58
 go_wp2
 all_goals
  go_ret
  exact ⟨ret_bool (by unfold inB;first|(simp;omega)|simp_all),rfl⟩
theorem lenV_ne (cb:Bool) (h:ByteArray):¬ lenV false cb h=0:=by
 unfold lenV
 rw [if_neg (by decide)]
 by_cases h1:cb=true
 ·rw [if_pos h1];decide
 rw [if_neg h1]
 by_cases h2:h.size=0
 ·rw [if_pos h2];decide
 rw [if_neg h2]
 by_cases h3:h=n16
 ·rw [if_pos h3];decide
 ·rw [if_neg h3];decide
def okV (code:Int) (cb:Bool) (imm:Int):Bool:=if none? code cb=true then false else if (hole code cb).size=0 then decide (imm=0) else if hole code cb=n16 then inB imm 0 65535 else inB imm 0 255
theorem none_impl {code:Int} {cb:Bool}:none? code cb=true->(Shape.shape code cb).size=0:=by
 intro h
 cases hb:inB code 0 255
 ·rw [shape_out hb];rfl
 ·obtain ⟨h0,h1⟩:=of_decide_eq_true hb
  rw [shape_in hb]
  unfold none? at h
  rw [hb] at h
  exact (same_at code cb h0 h1).1.1 (by simpa using h)
theorem some_impl {code:Int} {cb:Bool} (h:none? code cb=false):inB code 0 255=true/\¬ (Shape.shape code cb).size=0/\holeI (Shape.shape code cb)=hole code cb/\(Shape.shape code cb).size<=40:=by
 unfold none? at h
 cases hb:inB code 0 255
 ·rw [hb] at h;simp at h
 ·rw [hb] at h
  obtain ⟨h0,h1⟩:=of_decide_eq_true hb
  obtain ⟨h2,h3,h4⟩:=same_at code cb h0 h1
  rw [shape_in hb]
  refine ⟨rfl,fun hz=>?_,h3,h4⟩
  have:=h2.2 hz
  simp [this] at h
theorem hole_cases (code:Int) (cb:Bool):hole code cb=⟨#[110,56]⟩ \/ hole code cb=⟨#[110,49,54]⟩ \/ hole code cb=⟨#[101,56]⟩ \/ hole code cb=⟨#[]⟩:=holeT_cases _
theorem ok_n16 {code:Int} {cb:Bool} {imm:Int} (h:none? code cb=false) (hx:hole code cb=⟨#[110,49,54]⟩):okV code cb imm=inB imm 0 65535:=by unfold okV;rw [h,hx];rfl
theorem ok_n8 {code:Int} {cb:Bool} {imm:Int} (h:none? code cb=false) (hx:hole code cb=⟨#[110,56]⟩):okV code cb imm=inB imm 0 255:=by unfold okV;rw [h,hx];rfl
theorem ok_e8 {code:Int} {cb:Bool} {imm:Int} (h:none? code cb=false) (hx:hole code cb=⟨#[101,56]⟩):okV code cb imm=inB imm 0 255:=by unfold okV;rw [h,hx];rfl
theorem ok_no {code:Int} {cb:Bool} {imm:Int} (h:none? code cb=false) (hx:hole code cb=⟨#[]⟩):okV code cb imm=decide (imm=0):=by unfold okV;rw [h,hx];rfl
theorem implOk_any (code:Int) (cb:Bool) (imm:Int) (w:World) (hm:MaxL w) :
  Calls prog 27 #[.agg #[.int .i64 code,.bool cb,.int .i64 imm]] w fun e w'=>e=.returned (.bool (okV code cb imm))/\Below w.heap.size w w':=by
 have c:=fun w=>Shape.shapeOf_any code cb w
 have HM:Hid (MaxL w):=hm
 clear hm
 cases hn:none? code cb
 ·obtain ⟨_,hz,hh,h4⟩:=some_impl hn
  have he:=empty_no hz
  have ch:=fun w hm=>holeOf_any (Shape.shape code cb) w (by omega) hm
  rw [hh] at ch
  clear hz hh h4
  generalize Shape.shape code cb=T at c ch he
  have ib:=fun w=>isByte_any imm w
  have iw:=fun w=>isWord_any imm w
  rcases hole_cases code cb with hx|hx|hx|hx
  all_goals
   first|rw [ok_n8 hn hx]|rw [ok_n16 hn hx]|rw [ok_e8 hn hx]|rw [ok_no hn hx]
   rw [hx] at ch
   clear hx hn
   go_enter func27,ntmps27
   go_wp2_with fail
   refine (c _).mono ?_
   rintro e w1 ⟨rfl,b1⟩
   have B1:Hid (Below _ _ w1):=b1
   have k1:=box b1 2 _ rfl
   clear b1 c
   go_wp2_with fail
   refine (ch _ (HM.out.below (unbox B1.out))).mono ?_
   rintro e w2 ⟨rfl,b2⟩
   have B2:Hid (Below _ _ w2):=after B1.out b2
   have k2:=box B2.out 2 _ rfl
   clear b2 ch B1 k1
   go_wp2_with first|(go_at_call 53;refine (ib _).mono ?_;rintro e w' ⟨rfl,hw⟩;subst hw)|(go_at_call 58;refine (iw _).mono ?_;rintro e w' ⟨rfl,hw⟩;subst hw)
   go_ret
   exact ⟨by first|rfl|(rw [<- beqZ]),unbox B2.out⟩
 ·have he:=empty_yes (none_impl hn)
  have hv:okV code cb imm=false:=by unfold okV;rw [hn];rfl
  rw [hv]
  generalize Shape.shape code cb=T at c he
  go_enter func27,ntmps27
  go_wp2_with fail
  refine (c _).mono ?_
  rintro e w1 ⟨rfl,b1⟩
  have B1:Hid (Below _ _ w1):=b1
  clear b1 c
  go_wp2
  go_ret
  exact ⟨rfl,unbox B1.out⟩
theorem specOk_any (code:Int) (cb:Bool) (imm:Int) (w:World) :
  Calls prog 12 #[.agg #[.int .i64 code,.bool cb,.int .i64 imm]] w fun e w'=>e=.returned (.bool (okV code cb imm))/\Below w.heap.size w w':=by
 have c:=fun w=>specLength_any code cb w
 cases hn:none? code cb
 ·obtain ⟨hb,_,_,_⟩:=some_impl hn
  obtain ⟨h0,h1⟩:=of_decide_eq_true hb
  have ct:=fun w=>Tmpl.template_any code cb w h0 h1
  have hz:=tmpl_le code cb h0 h1
  have ch:=fun w=>HoleX.hole_any (Tmpl.tmplS code cb) w (by omega)
  unfold HoleX.ret at ch
  rw [hn] at c
  have hl:¬ lenV false cb (hole code cb)=0:=lenV_ne _ _
  generalize lenV false cb (hole code cb)=V at c hl
  rcases hole_cases code cb with hx|hx|hx|hx
  all_goals
   first|rw [ok_n8 hn hx]|rw [ok_n16 hn hx]|rw [ok_e8 hn hx]|rw [ok_no hn hx]
   unfold hole at hx
   rw [hx] at ch
   clear hx hn hz hb
   generalize holeP (Tmpl.tmplS code cb)=Q at ch
   generalize Tmpl.tmplS code cb=T at ct ch
   go_enter func12,ntmps12
   go_wp2_with fail
   refine (c _).mono ?_
   rintro e w1 ⟨rfl,b1⟩
   have B1:Hid (Below _ _ w1):=b1
   have k0:=box b1 0 _ rfl
   have k1:=box b1 1 _ rfl
   have k2:=box b1 2 _ rfl
   clear b1 c
   go_wp2_with fail
   refine (ct _).mono ?_
   rintro e w2 ⟨rfl,b2⟩
   have B2:Hid (Below _ _ w2):=after B1.out b2
   clear b2 ct B1 k0 k1 k2
   have k2:=box B2.out 2 _ rfl
   go_wp2_with fail
   refine (ch _).mono ?_
   rintro e w3 ⟨rfl,b3⟩
   have B3:Hid (Below _ _ w3):=after B2.out b3
   clear b3 ch B2 k2
   have k2:=box B3.out 2 _ rfl
   go_wp2_with (go_at_call 33;refine (l1In_any _ _ _ _).mono ?_;rintro e w' ⟨rfl,hw⟩;subst hw)
   go_ret
   exact ⟨by first|rfl|(rw [<- beqZ]),unbox B3.out⟩
 ·have hv:okV code cb imm=false:=by unfold okV;rw [hn];rfl
  rw [hv]
  rw [hn] at c
  have hl:lenV true cb (hole code cb)=0:=rfl
  rw [hl] at c
  go_enter func12,ntmps12
  go_wp2_with fail
  refine (c _).mono ?_
  rintro e w1 ⟨rfl,b1⟩
  have B1:Hid (Below _ _ w1):=b1
  clear b1 c
  go_wp2
  go_ret
  exact ⟨rfl,unbox B1.out⟩
end InsX
namespace Texi
open Signed (inB l1In_any isByte_any sgn)
open HoleX (n8 n16 e8 holeT holeP)
open HolI LenX InsX
def Pow (w:World):Prop:=Lib.TabIs prog w "internal/strconv.uint64pow10" .u64 Lib.pow10Tab
theorem gPow:prog.globalNamed "internal/strconv.uint64pow10" = some 12:=by kernel_rfl
theorem Pow.below {w w':World} (h:Pow w) (b:Below w.heap.size w w'):Pow w':=by
 unfold Pow Lib.TabIs World.var? at *
 rw [gPow] at h |-
 simp only [Option.bind_some] at h |-
 have hlt:12<w.heap.size:=by
  rcases Nat.lt_or_ge 12 w.heap.size with h'|h'
  ·exact h'
  ·rw [Array.getElem?_eq_none h'] at h;cases h
 rw [b.block _ hlt]
 exact h
def newV (h:ByteArray) (imm:Int):ByteArray:=if h=n16 then Hex.hexS imm 4 else if h=e8 then Deci.decE (sgn imm) else Hex.hexS imm 2
theorem sgn_bd (n:Int):-128<=sgn n/\sgn n<=127:=by
 unfold sgn
 split
 ·omega
 split
 ·omega
 ·omega
theorem fill_n16 (imm:Int) (w:World) (hT:PartN.Tables w) :
  Calls prog 30 #[.string ⟨#[110,49,54]⟩,.int .i64 imm] w fun e w'=>e=.returned (.string (Hex.hexS imm 4))/\Below w.heap.size w w':=by
 have c:=Hex.implHex_any imm 4 w hT.hex
 clear hT
 generalize Hex.hexS imm 4=V at c |-
 go_enter func30,ntmps30
 go_wp2_with fail
 refine c.mono ?_
 rintro e w1 ⟨rfl,b1⟩
 have B1:Hid (Below w.heap.size w w1):=b1
 clear b1
 go_wp2
 go_ret
 exact ⟨rfl,B1.out⟩
theorem fill_n8 (imm:Int) (w:World) (hT:PartN.Tables w) :
  Calls prog 30 #[.string ⟨#[110,56]⟩,.int .i64 imm] w fun e w'=>e=.returned (.string (Hex.hexS imm 2))/\Below w.heap.size w w':=by
 have c:=Hex.implHex_any imm 2 w hT.hex
 clear hT
 generalize Hex.hexS imm 2=V at c |-
 go_enter func30,ntmps30
 go_wp2_with fail
 refine c.mono ?_
 rintro e w1 ⟨rfl,b1⟩
 have B1:Hid (Below w.heap.size w w1):=b1
 clear b1
 go_wp2
 go_ret
 exact ⟨rfl,B1.out⟩
theorem fill_e8 (imm:Int) (w:World) (hP:Pow w) :
  Calls prog 30 #[.string ⟨#[101,56]⟩,.int .i64 imm] w fun e w'=>e=.returned (.string (Deci.decE (sgn imm)))/\Below w.heap.size w w':=by
 have cs:=fun w=>Signed.implSigned_any imm w
 have bd:=sgn_bd imm
 generalize sgn imm=m at cs bd |-
 have c:Calls prog 69 #[.int .i64 m,.int .i64 10] w fun e w'=>e=.returned (.string (Deci.decE m))/\Below w.heap.size w w' :=
  (Tryz.strconv_FormatInt_10 m (by omega) (by omega) w hP).mono (by
   rintro e w' ⟨rfl,k,os,rfl⟩
   exact ⟨by rw [Deci.itoa_at bd.1 bd.2],Lib.below_grow _ _ (Nat.le_refl _) k os⟩)
 clear hP
 generalize Deci.decE m=V at c |-
 go_enter func30,ntmps30
 go_wp2_with first|(go_at_call 70;refine (cs _).mono ?_;rintro e w' ⟨rfl,hw⟩;have hw:=hw.symm;subst hw)|fail
 refine c.mono ?_
 rintro e w1 ⟨rfl,b1⟩
 have B1:Hid (Below w.heap.size w w1):=b1
 clear b1 c
 go_wp2
 go_ret
 exact ⟨rfl,B1.out⟩
theorem hole_all:∀ (c:Fin 256) (b:Bool),¬ (Tmpl.tmplS (c.val:Int) b).size=0->holeI (Tmpl.tmplS (c.val:Int) b)=holeT (Tmpl.tmplS (c.val:Int) b) /\
  (¬ (holeT (Tmpl.tmplS (c.val:Int) b)).size=0->Lib.countB (Tmpl.tmplS (c.val:Int) b) (holeT (Tmpl.tmplS (c.val:Int) b))=1/\Lib.replaceNum (Tmpl.tmplS (c.val:Int) b).data.toList (holeT (Tmpl.tmplS (c.val:Int) b)).data.toList 1=1 /\
   Lib.index (Tmpl.tmplS (c.val:Int) b).data.toList (holeT (Tmpl.tmplS (c.val:Int) b)).data.toList=holeP (Tmpl.tmplS (c.val:Int) b)/\0<=holeP (Tmpl.tmplS (c.val:Int) b)/\(holeP (Tmpl.tmplS (c.val:Int) b)).toNat+(holeT (Tmpl.tmplS (c.val:Int) b)).size<=(Tmpl.tmplS (c.val:Int) b).size):=by decide +kernel
def put (T h new:ByteArray) (p:Int):ByteArray:=T.extract 0 p.toNat ++ new ++ T.extract (p.toNat+h.size) T.size
theorem put_eq (T h new:ByteArray) (p:Int) (h0:0<=p) (h1:p.toNat+h.size<=T.size) (hi:Lib.index T.data.toList h.data.toList=p):(⟨(Lib.replaceK h.data.toList new.data.toList 1 T.data.toList).toArray⟩ : ByteArray)=put T h new p:=by
 rw [Lib.replaceK_hit _ _ 0 _ p.toNat (by rw [hi];omega)]
 apply ByteArray.ext
 apply Array.ext'
 unfold put
 simp only [ByteArray.data_append,ByteArray.data_extract,Array.toList_append,Array.toList_extract,Lib.replaceK,List.extract_eq_take_drop,List.drop_zero,Nat.sub_zero]
 have e1:h.data.toList.length=h.size:=Array.length_toList
 have e2:T.data.toList.length=T.size:=Array.length_toList
 rw [e1,List.take_of_length_le (l:=List.drop (p.toNat+h.size) T.data.toList) (by rw [List.length_drop];omega)]
def textV (code:Int) (cb:Bool) (imm:Int):ByteArray:=if okV code cb imm=false then ⟨#[]⟩ else if (hole code cb).size=0 then Tmpl.tmplS code cb else put (Tmpl.tmplS code cb) (hole code cb) (newV (hole code cb) imm) (holeP (Tmpl.tmplS code cb))
theorem at_hole {code:Int} {cb:Bool} {imm:Int} (h:okV code cb imm=true):0<=code/\code<=255/\¬ (Tmpl.tmplS code cb).size=0/\holeI (Tmpl.tmplS code cb)=hole code cb/\(Tmpl.tmplS code cb).size<=40/\TmplI.tmpl code cb=Tmpl.tmplS code cb /\
  (¬ (hole code cb).size=0->Lib.countB (Tmpl.tmplS code cb) (hole code cb)=1/\Lib.replaceNum (Tmpl.tmplS code cb).data.toList (hole code cb).data.toList 1=1/\Lib.index (Tmpl.tmplS code cb).data.toList (hole code cb).data.toList=holeP (Tmpl.tmplS code cb)/\0<=holeP (Tmpl.tmplS code cb)/\(holeP (Tmpl.tmplS code cb)).toNat+(hole code cb).size<=(Tmpl.tmplS code cb).size):=by
 have hn:none? code cb=false:=by
  cases hn:none? code cb
  ·rfl
  ·unfold okV at h;rw [hn,if_pos rfl] at h;exact absurd h (by decide)
 obtain ⟨hb,_⟩:=some_impl hn
 obtain ⟨h0,h1⟩:=of_decide_eq_true hb
 have hz:¬ (Tmpl.tmplS code cb).size=0:=by
  unfold none? at hn
  rw [hb,beqN] at hn
  simpa using hn
 have ha:=hole_all ⟨code.toNat,by omega⟩ cb
 rw [show ((⟨code.toNat,by omega⟩ : Fin 256).val:Int)=code by show ((code.toNat:Nat):Int)=code;omega] at ha
 obtain ⟨a1,a2⟩:=ha hz
 exact ⟨h0,h1,hz,a1,Leng.tmpl_le code cb h0 h1,by unfold TmplI.tmpl;rw [if_pos hb],a2⟩
theorem dec_ne:∀ k:Fin 256,Deci.decE ((k.val:Int)-128) ≠ ⟨#[101,56]⟩/\(Deci.decE ((k.val:Int)-128)).size<=5:=by decide +kernel
theorem dec_ne_at {m:Int} (h0:-128<=m) (h1:m<=127):Deci.decE m ≠ ⟨#[101,56]⟩/\(Deci.decE m).size<=5:=by
 have:=dec_ne ⟨(m+128).toNat,by omega⟩
 rwa [show (((⟨(m+128).toNat,by omega⟩ : Fin 256).val:Int)-128)=m by show (((m+128).toNat:Nat):Int)-128=m;omega] at this
theorem digs_len:∀ (k:Nat) (n:Int),(Hex.digs n k).length=k
 | 0,_=>rfl
 | k+1,n=>by
  simp only [Hex.digs,List.length_append,List.length_cons,List.length_nil]
  rw [digs_len k]
theorem hex_size (n d:Int) (hd:0<=d):(Hex.hexS n d).size=0 \/ (Hex.hexS n d).size=d.toNat+1:=by
 unfold Hex.hexS
 split
 ·right;rw [strOfNums_size,List.length_cons,digs_len]
 ·left;rfl
theorem new_8 (imm:Int):(⟨#[110,56]⟩ : ByteArray) ≠ Hex.hexS imm 2/\(Hex.hexS imm 2).size<=5:=by
 have:=hex_size imm 2 (by omega)
 refine ⟨fun h=>?_,by omega⟩
 rw [<- h] at this
 revert this
 decide
theorem new_16 (imm:Int):(⟨#[110,49,54]⟩ : ByteArray) ≠ Hex.hexS imm 4/\(Hex.hexS imm 4).size<=5:=by
 have:=hex_size imm 4 (by omega)
 refine ⟨fun h=>?_,by omega⟩
 rw [<- h] at this
 revert this
 decide
end Texi
namespace Uniq
open Signed (inB)
open TmplI (tmpl)
def key (s:ByteArray):Nat:=s.data.toList.foldl (fun k b=>k*256+b.toNat) 1
def nth (k:Nat):ByteArray:=Tmpl.tmplS ((k%256:Nat):Int) (decide (256<=k))
def keys:List Nat:=(List.range 512).map fun k=>key (nth k)
def apart:List Nat->Bool
 | []=>true
 | a :: l=>(a == 1 || l.all fun b=>!(a == b)) && apart l
theorem keys_apart:apart keys=true:=by decide +kernel
theorem apart_at:∀ (l:List Nat),apart l=true->∀ (i j:Nat) (x:Nat),i<j->l[i]? = some x->l[j]? = some x->x=1
 | [],_,_,_,_,_,h,_=>by simp at h
 | a :: l,h,0,j+1,x,_,hi,hj=>by
  simp only [apart,Bool.and_eq_true,Bool.or_eq_true,beq_iff_eq] at h
  simp only [List.getElem?_cons_zero,Option.some.injEq] at hi
  simp only [List.getElem?_cons_succ] at hj
  subst hi
  rcases h.1 with h1|h1
  ·exact h1
  ·have:=List.all_eq_true.1 h1 a (List.mem_of_getElem? hj)
   simp at this
 | a :: l,h,i+1,j+1,x,hlt,hi,hj=>by
  simp only [apart,Bool.and_eq_true] at h
  simp only [List.getElem?_cons_succ] at hi hj
  exact apart_at l h.2 i j x (by omega) hi hj
theorem key_at (k:Nat) (h:k<512):keys[k]? = some (key (nth k)):=by
 unfold keys
 rw [List.getElem?_map,List.getElem?_range h]
 rfl
theorem foldl_ge:∀ (l:List UInt8) (k:Nat),k<=l.foldl (fun k b=>k*256+b.toNat) k
 | [],k=>Nat.le_refl _
 | b :: l,k=>by
  have:=foldl_ge l (k*256+b.toNat)
  simp only [List.foldl_cons]
  omega
theorem key_one {s:ByteArray} (h:key s=1):s.size=0:=by
 unfold key at h
 show s.data.size=0
 rw [<- Array.length_toList]
 cases hl:s.data.toList with
 | nil=>rfl
 | cons b l =>
  rw [hl] at h
  simp only [List.foldl_cons] at h
  have:=foldl_ge l (1*256+b.toNat)
  omega
def num (c:Int) (b:Bool):Nat:=c.toNat+(if b=true then 256 else 0)
theorem nth_num {c:Int} {b:Bool} (h0:0<=c) (h1:c<=255):nth (num c b)=Tmpl.tmplS c b:=by
 unfold nth num
 cases b
 ·simp only [Bool.false_eq_true,if_false,Nat.add_zero]
  rw [show c.toNat%256=c.toNat by omega,show decide (256<=c.toNat)=false by simp;omega,show ((c.toNat:Nat):Int)=c by omega]
 ·simp only [if_true]
  rw [show (c.toNat+256)%256=c.toNat by omega,show decide (256<=c.toNat+256)=true by simp,show ((c.toNat:Nat):Int)=c by omega]
theorem uniq {c d:Int} {a b:Bool} (hc:inB c 0 255=true) (hd:inB d 0 255=true) (h:tmpl c a=tmpl d b) (hz:¬ (tmpl c a).size=0):c=d/\a=b:=by
 obtain ⟨c0,c1⟩:=of_decide_eq_true hc
 obtain ⟨d0,d1⟩:=of_decide_eq_true hd
 have ec:tmpl c a=Tmpl.tmplS c a:=by unfold tmpl;rw [if_pos hc]
 have ed:tmpl d b=Tmpl.tmplS d b:=by unfold tmpl;rw [if_pos hd]
 rw [ec,ed] at h
 rw [ec] at hz
 have hn:num c a=num d b:=by
  have l1:num c a<512:=by unfold num;split <;> omega
  have l2:num d b<512:=by unfold num;split <;> omega
  have k1:=key_at _ l1
  have k2:=key_at _ l2
  rw [nth_num c0 c1] at k1
  rw [nth_num d0 d1,<- h] at k2
  rcases Nat.lt_trichotomy (num c a) (num d b) with hlt|he|hgt
  ·exact absurd (key_one (apart_at _ keys_apart _ _ _ hlt k1 k2)) hz
  ·exact he
  ·exact absurd (key_one (apart_at _ keys_apart _ _ _ hgt k2 k1)) hz
 unfold num at hn
 cases a <;> cases b <;> simp at hn
 ·exact ⟨by omega,rfl⟩
 ·omega
 ·omega
 ·exact ⟨by omega,rfl⟩
end Uniq
end Go.Proofs.YtbofcepdckpkkaaGreatDoor
