import Derived.Test.YtickfkphhngagaaGreatDoorP05
set_option linter.all false
set_option maxRecDepth 20000
set_option maxHeartbeats 8000000
open Go.ChangeShapes Go.WideShapes Go.ChangeAt Go.RowKit
open Go.Proofs.Tryz
namespace Go.Proofs.YtickfkphhngagaaGreatDoor
namespace Extx
open Go.Proofs.YtickfkphhngagaaGreatDoor.Stepx (Nodes takes run exprB StepsRow)
open Go.Proofs.YtickfkphhngagaaGreatDoor.Steps (nodeB stepV)
open Optx
def NodeOk (x:Stepx.Node):Prop:=nodeB x.1 x.2.1 x.2.2=true
def words (L:List Stepx.Node):List ByteArray:=L.map wordB
theorem words_get {L:List Stepx.Node} {k:Nat} (h:k<(words L).length) (h':k<L.length):(words L)[k]=wordB L[k]:=List.getElem_map ..
def exprT (L:List Stepx.Node):ByteArray:=if exprB L=true then ⟨(Lib.join ((words L).map (·.data.toList)) [32]).toArray⟩ else ⟨#[]⟩
theorem kinds_of {kd n:Int} {s:ByteArray} (hn:nodeB kd n s=true):kd=1 \/ kd=2 \/ kd=3 \/ (4<=kd/\kd<=7) \/ (8<=kd/\kd<=17):=by
 unfold nodeB at hn
 by_cases e1:kd=1
 ·exact .inl e1
 rw [if_neg e1] at hn
 by_cases e2:kd=2 \/ kd=3
 ·omega
 rw [if_neg e2] at hn
 by_cases e3:4<=kd/\kd<=17
 ·omega
 rw [if_neg e3] at hn;cases hn
theorem word_of {n:Int} {s:ByteArray} (h:nodeB 1 n s=true):0<=n/\n<=65535:=by
 unfold nodeB at h;rw [if_pos rfl] at h
 simp only [Bool.and_eq_true] at h
 exact of_decide_eq_true h.1
theorem name_of {kd n:Int} {s:ByteArray} (h:nodeB kd n s=true) (hk:kd=2 \/ kd=3):s.size<=16:=by
 unfold nodeB at h
 rw [if_neg (by omega),if_pos hk] at h
 simp only [Bool.and_eq_true] at h
 exact (of_decide_eq_true h.2).2.1
theorem itoa_len {n:Int} (h0:0<=n) (h1:n<=65535):(Lib.itoa n).length<=5:=by
 unfold Lib.itoa
 rw [if_neg (by omega)]
 have key:∀ (k u:Nat),u<10 ^ (k+1)->(Lib.decDigits u).length<=k+1:=by
  intro k
  induction k with
  | zero=>intro u hu;rw [Lib.decDigits,dif_pos (by omega)];exact Nat.le_refl _
  | succ k ih =>
   intro u hu
   rw [Lib.decDigits]
   split
   ·simp
   ·rw [List.length_append]
    have:=ih (u / 10) (by rw [Nat.pow_succ] at hu;omega)
    simp;omega
 exact key 4 _ (by omega)
theorem op_len (kd:Int):(opW kd).size<=4:=by
 unfold opW
 have:∀ i:Nat,(opTab.getD i ⟨#[]⟩).size<=4:=by
  intro i
  by_cases h:i<14
  ·exact (by decide:∀ j,j<14->(opTab.getD j ⟨#[]⟩).size<=4) i h
  ·rw [List.getD_eq_getElem?_getD,List.getElem?_eq_none (by show 14<=i;omega)];decide
 exact this _
theorem word_len {x:Stepx.Node} (h:NodeOk x):(wordB x).size<=20:=by
 obtain ⟨kd,n,s⟩:=x
 have h:nodeB kd n s=true:=h
 unfold wordB
 simp only
 split
 ·rename_i e;subst e
  have hw:=word_of h
  show ((Lib.itoa n).toArray).size<=20
  rw [List.size_toArray]
  have:=itoa_len hw.1 hw.2;omega
 split
 ·rename_i e;have:=name_of h (.inl e);omega
 split
 ·rename_i e;have:=name_of h (.inr e);rw [ByteArray.size_append];show 1+_<=_;omega
 ·have:=op_len kd;omega
theorem nodes_ok:∀ {L:List Stepx.Node} {v r:Int},run v L=some r->∀ x ∈ L,NodeOk x
 | [],_,_,_,x,hx=>by cases hx
 | y :: L,v,r,h,x,hx=>by
  rw [run] at h
  split at h
  ·rename_i hc
   rcases List.mem_cons.1 hx with rfl|hx
   ·exact hc.1
   ·exact nodes_ok h x hx
  ·cases h
theorem step_one {kd n:Int} {s:ByteArray} (h4:4<=kd) (h7:kd<=7):stepV kd n s=.iface 146 (.agg #[.int .i64 kd]):=by
 unfold stepV;rw [if_neg (by omega),if_neg (by omega),if_neg (by omega),if_pos ⟨h4,h7⟩]
theorem step_two {kd n:Int} {s:ByteArray} (h8:8<=kd) (h17:kd<=17):stepV kd n s=.iface 148 (.agg #[.int .i64 kd]):=by
 unfold stepV;rw [if_neg (by omega),if_neg (by omega),if_neg (by omega),if_neg (by omega),if_pos ⟨h8,h17⟩]
theorem word_op {kd n:Int} {s:ByteArray} (h4:4<=kd):wordB (kd,n,s)=opW kd:=by
 unfold wordB;simp only;rw [if_neg (by omega),if_neg (by omega),if_neg (by omega)]
theorem stepText_any (x:Stepx.Node) (w:World) (h:NodeOk x) (hT:OpTab w) (hP:Pow w) :
  Calls prog 81 #[stepV x.1 x.2.1 x.2.2] w fun e w'=>e=.returned (.string (wordB x))/\Below w.heap.size w w':=by
 obtain ⟨kd,n,s⟩:=x
 have h:nodeB kd n s=true:=h
 show Calls prog 81 #[stepV kd n s] w _
 rcases kinds_of h with rfl|rfl|rfl|⟨k4,k7⟩|⟨k8,k17⟩
 ·have hw:=word_of h
  exact text1 n w hw.1 hw.2 hP
 ·exact text2 s w
 ·exact text3 s w (by have:=name_of h (.inr rfl);omega)
 ·rw [step_one k4 k7,word_op k4];exact textOne kd w k4 k7 hT
 ·rw [step_two k8 k17,word_op (by omega)];exact textTwo kd w k8 k17 hT
theorem join_len:∀ (X:List ByteArray),(∀ x ∈ X,x.size<=20)->(Lib.join (X.map (·.data.toList)) [32]).length<=21*X.length
 | [],_=>Nat.zero_le _
 | [x],h=>by
  rw [List.map_cons,List.map_nil,Lib.join_one]
  have:=h x (List.mem_cons_self ..)
  rw [Array.length_toList];show x.size<=21;omega
 | x :: y :: X,h=>by
  have ih:=join_len (y :: X) (fun z hz=>h z (List.mem_cons_of_mem _ hz))
  have hx:=h x (List.mem_cons_self ..)
  have e:Lib.join ((x :: y :: X).map (·.data.toList)) [32]=x.data.toList ++ ([32] ++ Lib.join ((y :: X).map (·.data.toList)) [32]):=by
   unfold Lib.join;simp [List.intercalate]
  rw [e,List.length_append,List.length_append,Array.length_toList]
  show x.size+(1+_)<=_
  simp only [List.length_cons] at ih |-
  omega
theorem own_below {w w1:World} {base n:Nat} {v:Value} {xs:List Value} (h:w.ownsRow base 9 1 v n xs) (hb:Below w.heap.size w w1):w1.ownsRow base 9 1 v n xs :=
 h.kept (row:=none) ⟨hb.os,hb.tape,hb.output,hb.size,fun k hk _=>hb.block k hk⟩ (by cases hv:Value.ownBlock v <;> simp)
theorem implText_any (a:Option Addr) (cap:Nat) (L:List Stepx.Node) (w:World) (hN:Nodes w a L) (hlen:L.length<=1048576) (hT:OpTab w) (hP:Pow w) :
  Calls prog 40 #[.slice a L.length cap] w fun e w'=>e=.returned (.string (exprT L))/\Below w.heap.size w w':=by
 obtain ⟨i0,hi,hz0,hz1,hz2⟩:=info_parts (show (prog.info? 9).map (fun i=>(i.zero,i.size,i.bytes))=some (some (.string ⟨#[]⟩),1,16) by kernel_rfl)
 have cs:=Stepx.stepsOf_any a cap L w hN hlen
 have HT:Hid (OpTab w/\Pow w):=⟨hT,hP⟩
 clear hN hT hP
 cases hx:exprB L with
 | false =>
  have e1:exprT L=⟨#[]⟩:=by unfold exprT;rw [hx];rfl
  rw [e1]
  rw [hx] at cs
  generalize L.length=len at *
  go_enter func40,ntmps40
  go_wp2_with fail
  refine cs.mono ?_
  rintro e w1 ⟨⟨sv,rfl,hrow⟩,b1⟩
  have B1:Hid (Below w.heap.size w w1):=b1
  clear hrow b1 cs
  go_wp2
  go_ret
  exact ⟨rfl,B1.out⟩
 | true =>
  have e1:exprT L=⟨(Lib.join ((words L).map (·.data.toList)) [32]).toArray⟩:=by unfold exprT;rw [if_pos hx]
  rw [e1]
  rw [hx] at cs
  obtain ⟨R,hR⟩ : ∃ R:ByteArray,R=⟨(Lib.join ((words L).map (·.data.toList)) [32]).toArray⟩:=⟨_,rfl⟩
  have HR:Hid (R=⟨(Lib.join ((words L).map (·.data.toList)) [32]).toArray⟩):=hR
  rw [<- hR]
  clear hR e1
  have hrun:run 0 L=some 1:=by
   have:=hx
   unfold exprB at this
   simp at this
   exact this.2
  have hl30:L.length<=30:=by
   have:=hx
   unfold exprB at this
   simp at this
   exact this.1
  have HOK:Hid (∀ x ∈ L,NodeOk x):=nodes_ok hrun
  go_enter func40,ntmps40
  go_wp2_with fail
  refine cs.mono ?_
  rintro e w1 ⟨⟨sv,rfl,hrow⟩,b1⟩
  have ROW:Hid (w1.ownsRow w.heap.size 109 1 sv L.length (L.map fun x=>stepV x.1 x.2.1 x.2.2)):=hrow rfl
  have B1:Hid (Below w.heap.size w w1):=b1
  clear hrow b1 cs
  obtain ⟨gs,scap,hsv,SC,hgl⟩ : ∃ gs scap,sv=.slice (some ⟨gs,0,none⟩) L.length scap/\(∀ k (h:k<L.length),w1.cell? ⟨gs,k,none⟩=some (stepV L[k].1 L[k].2.1 L[k].2.2))/\gs<w1.heap.size:=by
   rcases ROW.out.2 with ⟨hv,h0⟩|⟨g,c,cur,hv,_⟩
   ·exfalso
    rw [List.length_eq_zero_iff.1 h0] at hrun
    cases hrun
   ·refine ⟨g,c,hv,fun k h=>?_,(ROW.out.lt g (by rw [hv];rfl)).2⟩
    have:=ROW.out
    rw [hv] at this
    exact (this.cellAt k (by omega)).trans (by simp [h])
  subst hsv
  have HSC:Hid (∀ k (h:k<L.length),w1.cell? ⟨gs,k,none⟩=some (stepV L[k].1 L[k].2.1 L[k].2.2)):=SC
  have hpos:Hid (0<L.length):=by
   show 0<L.length
   rcases Nat.eq_zero_or_pos L.length with h|h
   ·rw [List.length_eq_zero_iff.1 h] at hrun;cases hrun
   ·exact h
  obtain ⟨len,hl⟩ : ∃ len,len=L.length:=⟨_,rfl⟩
  have HL:Hid (len=L.length):=hl
  rw [<- hl] at hl30 |-
  clear hl hrun SC hx hlen ROW
  have HWL:Hid ((words L).length=len):=by show _=_;unfold words;rw [List.length_map,HL.out]
  go_wp2_with fail
  go_loopw [5,17] (fun x i wr=>∃ (k:Nat) (wo:Option Addr) (wc:Nat),k<=len/\i=.int .i64 k/\x=.slice wo k wc/\Hid (wr.ownsRow w1.heap.size 9 1 (.slice wo k wc) k (((words L).take k).map Value.string))/\Hid (Below w1.heap.size w1 wr)) (fun _ i _=>len-(intOf i).toNat)
  case atStart=>exact ⟨0,none,0,Nat.zero_le _,rfl,rfl,World.ownsRow_nil _ _ _ _,Below.refl _ _⟩
  case round =>
   obtain ⟨k,wo,wc,hk,rfl,rfl,hown,hbel⟩:=hrel
   have BW:Hid (Below w.heap.size w wr):=B1.out.trans (hbel.out.mono B1.out.size)
   by_cases hlt:k<len
   ·have hkL:k<L.length:=by have:=HL.out;omega
    have c_s:=(hbel.out.cell (p:=⟨gs,k,none⟩) hgl).trans (HSC.out k hkL)
    have c:=fun W hT hP=>stepText_any L[k] W (HOK.out _ (List.getElem_mem hkL)) hT hP
    have HTk:Hid (((words L).take (k+1)).map Value.string=((words L).take k).map Value.string ++ [.string (wordB L[k])]):=by
     show _=_
     have hk2:k<(words L).length:=by rw [HWL.out];exact hlt
     have hw:=words_get hk2 hkL
     rw [List.take_succ_eq_append_getElem hk2,List.map_append,hw];rfl
    generalize stepV L[k].1 L[k].2.1 L[k].2.2=SV at c_s c
    generalize wordB L[k]=wd at c HTk
    go_wp2_with (first
     | (go_at_call 81;refine (c _ (HT.out.1.below BW.out) (HT.out.2.below BW.out)).mono ?_;rintro e w3 ⟨rfl,b3⟩;have V3:Hid (w3.ownsRow w1.heap.size 9 1 (.slice wo k wc) k (((words L).take k).map Value.string)):=own_below hown.out b3;have B3:Hid (Below w1.heap.size w1 w3):=hbel.out.trans (b3.mono hbel.out.size);clear b3)
     | (at_builtin;refine wpList_append_own _ rfl _ _ 85 rfl w1.heap.size 9 i0 (.string ⟨#[]⟩) 1 16 underlying85 hi hz0 hz1 hz2 rfl (by decide) (.slice wo k wc) k (((words L).take k).map Value.string) rfl (V3.out.alloc _) ⟨w3.heap.size,0,none⟩ 1 1 [.string wd] rfl rfl (cell_one_new _ _ _) (by intro u hu;simp at hu;subst hu;rfl) (by unfold maxLen;omega) (by omega) (by have:=B3.out.size;simp;omega) ?_)
     | go_in)
    all_goals
     intro v' w4 hown' hgrow _
     have OW:Hid (w4.ownsRow w1.heap.size 9 1 v' (k+1) (((words L).take (k+1)).map Value.string)):=by
      show World.ownsRow _ _ _ _ _ _ _
      rw [HTk.out,List.map_take];exact hown'
     have BW4:Hid (Below w1.heap.size w1 w4):=(B3.out.alloc B3.out.size _).grown hgrow (by have:=B3.out.size;simp;omega) (fun q hq=>(V3.out.lt q hq).1)
     obtain ⟨ao',cap',rfl⟩ : ∃ ao' cap',v'=.slice ao' (k+1) cap':=by
      rcases hown'.2 with ⟨_,h⟩|⟨g',c',cur',hv',_⟩
      ·omega
      ·exact ⟨_,_,hv'⟩
     clear hown' hgrow V3 B3
     go_wp2_with fail
     go_roundw
     case rel=>exact ⟨k+1,ao',cap',by omega,by go_num,rfl,OW.out,BW4.out⟩
     case measure=>simp [intOf];omega
   ·have e:k=len:=by omega
    subst e
    have hkp:0<k:=by rw [HL.out];exact hpos.out
    have hall:(words L).take k=words L:=by rw [<- HWL.out];exact List.take_length
    obtain ⟨g,rfl,hwc⟩ : ∃ g,wo=some ⟨g,0,none⟩/\k<=wc:=by
     rcases hown.out.2 with ⟨hv,h0⟩|⟨g',c',cur',hv',_,_,hn,_⟩
     ·omega
     ·cases hv';exact ⟨_,rfl,hn⟩
    have own2:=hown.out
    rw [hall] at own2
    have cj:=Tryz.strings_Join g 0 wc (words L) ⟨#[32]⟩ wr (fun j x hj=>by
     have hj':j<k:=by rw [<- HWL.out];exact (List.getElem?_eq_some_iff.1 hj).1
     rw [Nat.zero_add,own2.cellAt j (by omega)]
     simp [hj]) (own2.lt g rfl).2 (by rw [HWL.out];omega) (by rw [HWL.out];exact hwc) (by
      have:=join_len (words L) (fun x hx=>by
       unfold words at hx
       obtain ⟨y,hy,rfl⟩:=List.mem_map.1 hx
       exact word_len (HOK.out y hy))
      rw [HWL.out] at this
      show (Lib.join ((words L).map (·.data.toList)) [32]).length<=_
      omega)
    rw [HWL.out] at cj
    have cj2:Calls prog 77 #[.slice (some ⟨g,0,none⟩) k wc,.string ⟨#[32]⟩] wr fun e w'=>e=.returned (.string R)/\Below wr.heap.size wr w':=by rw [HR.out];exact cj
    clear cj own2 hown hall
    go_wp2_with fail
    refine cj2.mono ?_
    rintro e w5 ⟨rfl,b5⟩
    have B5:Hid (Below w.heap.size w w5):=BW.out.trans (b5.mono BW.out.size)
    clear b5 cj2
    go_wp2
    go_ret
    exact ⟨rfl,B5.out⟩
end Extx
namespace Exts
open Go.Proofs.YtickfkphhngagaaGreatDoor.Stepx (Nodes takes run exprB)
open Go.Proofs.YtickfkphhngagaaGreatDoor.Steps (nodeB stepV)
open Optx Extx
def dec (n:Int) (t:ByteArray):ByteArray:=if n<10 then strOfNums [48+n] ++ t else dec (n / 10) (strOfNums [48+n%10] ++ t)
termination_by n.toNat
decreasing_by omega
theorem dec_small {n:Int} {t:ByteArray} (h:n<10):dec n t=strOfNums [48+n] ++ t:=by rw [dec,if_pos h]
theorem dec_great {n:Int} {t:ByteArray} (h:¬ n<10):dec n t=dec (n / 10) (strOfNums [48+n%10] ++ t):=by rw [dec,if_neg h]
theorem one_size (x:Int):(strOfNums [x]).size=1:=strOfNums_size _
theorem cat_size (x:Int) (t:ByteArray):(strOfNums [x] ++ t).size=t.size+1:=by rw [ByteArray.size_append,one_size];omega
theorem l1Dec_any (n:Int) (w:World) (h0:0<=n) (h1:n<=4000000000) :
  Calls prog 85 #[.int .i64 n] w fun e w'=>e=.returned (.string (dec n ⟨#[]⟩))/\Below w.heap.size w w':=by
 have hcv:∀ (u:World) (x:Int),(convert 32 9 (.slice (some ⟨u.heap.size,0,none⟩) 1 1)).run prog (u.alloc (.cells #[.int .u8 x] 5))=.ok (.string (strOfNums [x])) (u.alloc (.cells #[.int .u8 x] 5)):=fun u x =>
  run_convert_bytes_arg _ 32 5 underlying32 underlying5 u.heap.size 0 1 1 [x] rfl (fun i hi=>by
   rw [Nat.zero_add,World.cell?_alloc_new]
   match i,hi with
   | 0,_=>rfl) 9 underlying9
 have hsz:=one_size
 obtain ⟨r,hr⟩ : ∃ r,r=dec n ⟨#[]⟩:=⟨_,rfl⟩
 rw [<- hr]
 go_enter func85,ntmps85
 go_wp2
 go_loopw [0,3] (fun v t wr=>∃ (m:Int) (s:ByteArray),0<=m/\(s.size:Int)+m<=n/\v=.int .i64 m/\t=.string s/\Hid (r=dec m s)/\Hid (Below w.heap.size w wr)) (fun v _ _=>(intOf v).toNat)
 case atStart=>exact ⟨n,⟨#[]⟩,h0,by show ((0:Nat):Int)+n<=n;omega,rfl,rfl,hr,Below.refl _ _⟩
 case round =>
  clear hr
  obtain ⟨m,s,hm0,hm1,rfl,rfl,hr,hb⟩:=hrel
  by_cases hlt:10<=m
  ·have HR:Hid (r=dec (m / 10) (strOfNums [48+m%10] ++ s)):=by have:=hr.out;rw [dec_great (by omega)] at this;exact this
   clear hr
   go_wp2
   go_roundw
   case rel=>exact ⟨m / 10,strOfNums [48+m%10] ++ s,by omega,by rw [cat_size];omega,rfl,rfl,HR,hb.out.alloc hb.out.size _⟩
   case measure=>simp [intOf];omega
  ·have HR:Hid (r=strOfNums [48+m] ++ s):=by have:=hr.out;rw [dec_small (by omega)] at this;exact this
   clear hr
   go_wp2
   go_ret
   exact ⟨by rw [HR.out];rfl,hb.out.alloc hb.out.size _⟩
theorem dec_digits:∀ (k u:Nat) (t:ByteArray),u<=k->(dec (u:Int) t).data.toList=Lib.decDigits u ++ t.data.toList
 | k,u,t,hk=>by
  by_cases h:u<10
  ·rw [dec_small (by omega),Lib.decDigits,dif_pos h,ByteArray.data_append,Array.toList_append,strOfNums_data]
   have e:((48:Int)+(u:Int)).toNat=48+u:=by omega
   show [UInt8.ofNat ((48:Int)+(u:Int)).toNat] ++ _=_
   rw [e]
  ·match k,hk with
   | 0,hk=>omega
   | k+1,hk =>
    rw [dec_great (by omega),Lib.decDigits,dif_neg h]
    have e0:(u:Int) / 10=((u / 10:Nat):Int):=by omega
    rw [e0,dec_digits k (u / 10) _ (by omega),ByteArray.data_append,Array.toList_append,strOfNums_data,List.append_assoc]
    have e:((48:Int)+(u:Int)%10).toNat=48+u%10:=by omega
    show _ ++ ([UInt8.ofNat ((48:Int)+(u:Int)%10).toNat] ++ _)=_
    rw [e]
theorem dec_w {n:Int} (h0:0<=n):dec n ⟨#[]⟩=decW n:=by
 obtain ⟨u,rfl⟩ : ∃ u:Nat,n=(u:Int):=⟨n.toNat,by omega⟩
 apply ByteArray.ext
 apply Array.toList_inj.1
 rw [dec_digits u u _ (Nat.le_refl _)]
 unfold decW Lib.itoa
 rw [if_neg (by omega)]
 simp
def wordsA:Array Value:=#[.string ⟨#[]⟩,.string ⟨#[]⟩,.string ⟨#[]⟩,.string ⟨#[]⟩,.string ⟨#[110,101,103]⟩,.string ⟨#[110,111,116]⟩,.string ⟨#[104,105,103,104]⟩,.string ⟨#[108,111,119]⟩,.string ⟨#[43]⟩,.string ⟨#[45]⟩,.string ⟨#[42]⟩,.string ⟨#[47]⟩,.string ⟨#[37]⟩,.string ⟨#[38]⟩,.string ⟨#[94]⟩,.string ⟨#[124]⟩,.string ⟨#[60,60]⟩,.string ⟨#[62,62]⟩]
theorem l2Words_any (w:World):Calls prog 118 #[] w fun e w'=>e=.returned (.slice (some ⟨w.heap.size,0,none⟩) 18 18)/\w'=w.alloc (.cells wordsA 9):=by
 go_enter func118,ntmps118
 go_wp2
 go_ret
 exact ⟨rfl,rfl⟩
theorem words_at {kd:Int} (h4:4<=kd) (h17:kd<=17) (w:World):(w.alloc (.cells wordsA 9)).cell? ⟨w.heap.size,kd.toNat,none⟩=some (.string (opW kd)):=by
 rw [World.cell?_alloc_new]
 have:kd=4 \/ kd=5 \/ kd=6 \/ kd=7 \/ kd=8 \/ kd=9 \/ kd=10 \/ kd=11 \/ kd=12 \/ kd=13 \/ kd=14 \/ kd=15 \/ kd=16 \/ kd=17:=by omega
 rcases this with rfl|rfl|rfl|rfl|rfl|rfl|rfl|rfl|rfl|rfl|rfl|rfl|rfl|rfl <;> rfl
theorem join_snoc:∀ (X:List (List UInt8)) (x:List UInt8),X ≠ []->Lib.join (X ++ [x]) [32]=Lib.join X [32] ++ 32 :: x
 | [],_,h=>absurd rfl h
 | [y],x,_=>by unfold Lib.join;simp [List.intercalate]
 | y :: z :: X,x,_=>by
  have ih:=join_snoc (z :: X) x (by simp)
  have e:∀ (a b:List UInt8) (R:List (List UInt8)),Lib.join (a :: b :: R) [32]=a ++ 32 :: Lib.join (b :: R) [32]:=fun a b R=>by unfold Lib.join;simp [List.intercalate]
  rw [show (y :: z :: X) ++ [x]=y :: z :: (X ++ [x]) from rfl,e,e,show z :: (X ++ [x])=(z :: X) ++ [x] from rfl,ih]
  simp
def part (L:List Stepx.Node) (k:Nat):List UInt8:=Lib.join (((words L).take k).map (·.data.toList)) [32]
theorem part_step {L:List Stepx.Node} {k:Nat} (h:k<L.length):part L (k+1)=(if k=0 then [] else part L k ++ [32]) ++ (wordB L[k]).data.toList:=by
 have hk2:k<(words L).length:=by unfold words;rw [List.length_map];exact h
 have hw:=words_get hk2 h
 unfold part
 rw [List.take_succ_eq_append_getElem hk2,List.map_append,hw]
 by_cases h0:k=0
 ·subst h0
  rw [if_pos rfl]
  simp [Lib.join_one]
 ·rw [if_neg h0]
  show Lib.join (_ ++ [(wordB L[k]).data.toList]) [32]=_
  rw [join_snoc _ _ (by
   intro e
   have:=congrArg List.length e
   rw [List.length_map,List.length_take,Nat.min_eq_left (Nat.le_of_lt hk2)] at this
   exact h0 this)]
  simp
theorem grow {a b:World} (h:Below a.heap.size a b) (o:Obj):Below a.heap.size a (b.alloc o):=h.alloc h.size o
theorem specText_any (a:Option Addr) (cap:Nat) (L:List Stepx.Node) (w:World) (hN:Nodes w a L) (hlen:L.length<=1048576) :
  Calls prog 87 #[.slice a L.length cap] w fun e w'=>e=.returned (.string (exprT L))/\Below w.heap.size w w':=by
 have cs:=Specx.exprOk_any a cap L w hN hlen
 cases hx:exprB L with
 | false =>
  have e1:exprT L=⟨#[]⟩:=by unfold exprT;rw [hx];rfl
  rw [e1]
  rw [hx] at cs
  clear hN
  generalize L.length=len at *
  go_enter func87,ntmps87
  go_wp2_with fail
  refine cs.mono ?_
  rintro e w1 ⟨rfl,b1⟩
  have B1:Hid (Below w.heap.size w w1):=b1
  clear b1 cs
  go_wp2
  go_ret
  exact ⟨rfl,B1.out⟩
 | true =>
  have e1:exprT L=⟨(part L L.length).toArray⟩:=by
   unfold exprT part;rw [if_pos hx]
   rw [show (words L).take L.length=words L by
    have:(words L).length=L.length:=by unfold words;rw [List.length_map]
    rw [<- this];exact List.take_length]
  rw [e1]
  rw [hx] at cs
  have hrun:run 0 L=some 1:=by
   have:=hx
   unfold exprB at this
   simp at this
   exact this.2
  have hl30:L.length<=30:=by
   have:=hx
   unfold exprB at this
   simp at this
   exact this.1
  have HOK:Hid (∀ x ∈ L,NodeOk x):=nodes_ok hrun
  obtain ⟨b,off,rfl,hb,hc⟩ : ∃ b off,a=some ⟨b,off,none⟩/\b<w.heap.size/\∀ i (h:i<L.length),w.cell? ⟨b,off+i*3,none⟩=some (.int .i64 L[i].1)/\w.cell? ⟨b,off+i*3+1,none⟩=some (.int .i64 L[i].2.1)/\w.cell? ⟨b,off+i*3+2,none⟩=some (.string L[i].2.2)/\L[i].2.2.size<=maxLen:=by
   rcases hN with h|h
   ·exfalso;rw [h] at hrun;cases hrun
   ·exact h
  have HC:Hid (∀ i (h:i<L.length),w.cell? ⟨b,off+i*3,none⟩=some (.int .i64 L[i].1)/\w.cell? ⟨b,off+i*3+1,none⟩=some (.int .i64 L[i].2.1)/\w.cell? ⟨b,off+i*3+2,none⟩=some (.string L[i].2.2)/\L[i].2.2.size<=maxLen):=hc
  obtain ⟨R,hR⟩ : ∃ R:ByteArray,R=⟨(part L L.length).toArray⟩:=⟨_,rfl⟩
  have HR:Hid (R=⟨(part L L.length).toArray⟩):=hR
  rw [<- hR]
  clear hR e1 hc hrun hx
  obtain ⟨len,hl⟩ : ∃ len,len=L.length:=⟨_,rfl⟩
  have HL:Hid (len=L.length):=hl
  rw [<- hl] at hl30 cs |-
  clear hl hlen
  go_enter func87,ntmps87
  go_wp2_with fail
  refine cs.mono ?_
  rintro e w1 ⟨rfl,b1⟩
  have B1:Hid (Below w.heap.size w w1):=b1
  clear b1 cs
  have HZ:Hid (∀ i,part L i=part L i):=fun _=>rfl
  go_wp2_with fail
  go_loopw [3,4] (fun x i wr=>∃ (k:Nat) (sb:ByteArray),k<=len/\i=.int .i64 k/\x=.string sb/\Hid (sb.data.toList=part L k)/\sb.size<=22*k/\Hid (Below w.heap.size w wr)) (fun _ i _=>len-(intOf i).toNat)
  case atStart=>exact ⟨0,⟨#[]⟩,Nat.zero_le _,rfl,rfl,rfl,Nat.zero_le _,B1.out⟩
  case round =>
   clear HZ
   obtain ⟨k,sb,hk,rfl,rfl,hst,hss,hbel⟩:=hrel
   by_cases hlt:k<len
   ·have hkL:k<L.length:=by have:=HL.out;omega
    obtain ⟨c0,c1,c2⟩ : wr.cell? ⟨b,off+k*3,none⟩=some (.int .i64 L[k].1)/\wr.cell? ⟨b,off+k*3+1,none⟩=some (.int .i64 L[k].2.1)/\wr.cell? ⟨b,off+k*3+2,none⟩=some (.string L[k].2.2):=by
     obtain ⟨d0,d1,d2,d3⟩:=HC.out k hkL
     exact ⟨(hbel.out.cell (p:=⟨b,_,none⟩) hb).trans d0,(hbel.out.cell (p:=⟨b,_,none⟩) hb).trans d1,(hbel.out.cell (p:=⟨b,_,none⟩) hb).trans d2⟩
    have HP0:Hid (part L (k+1)=(if k=0 then [] else part L k ++ [32]) ++ (wordB L[k]).data.toList):=part_step hkL
    have hok:=HOK.out _ (List.getElem_mem hkL)
    have hwl:=word_len hok
    have k0:(0:Int)<=(k:Int):=by omega
    have k1:(k:Int)<(len:Int):=by omega
    obtain ⟨kd,n,s,hnode⟩ : ∃ kd n s,L[k]=(kd,n,s):=⟨_,_,_,rfl⟩
    rw [hnode] at c0 c1 c2 HP0 hok hwl
    simp only at c0 c1 c2
    have hnb:nodeB kd n s=true:=hok
    clear hnode hok
    by_cases hk0:¬ 0<k
    ·have g0:decide ((0:Int)<(k:Int))=false:=decide_eq_false (by omega)
     have HP:Hid (part L (k+1)=part L k ++ (wordB (kd,n,s)).data.toList):=by
      show _=_
      have e:part L k=[]:=by have:k=0:=(by omega);subst this;rfl
      have:=HP0.out;rw [if_pos (by omega)] at this;rw [this,e]
     clear HP0
     rcases kinds_of hnb with rfl|rfl|rfl|⟨k4,k7⟩|⟨k8,k17⟩
     ·have hw:=word_of hnb
      have cd:=fun W=>l1Dec_any n W hw.1 (by omega)
      rw [dec_w hw.1] at cd
      have hwd:wordB (1,n,s)=decW n:=rfl
      rw [hwd] at HP hwl
      generalize decW n=wd at cd HP hwl
      clear hwd hw
      go_wp2_with fail
      refine (cd _).mono ?_
      rintro e w3 ⟨rfl,b3⟩
      have B3:Hid (Below w.heap.size w w3):=hbel.out.trans (b3.mono hbel.out.size)
      clear b3 cd
      go_wp2_with fail
      go_roundw
      case rel=>exact ⟨k+1,_,by omega,by go_num,rfl,by show _=_;rw [HP.out];simp [ByteArray.data_append,hst.out],by simp only [ByteArray.size_append];have e1:(⟨#[32]⟩ : ByteArray).size=1:=rfl;have e2:(⟨#[35]⟩ : ByteArray).size=1:=rfl;omega,B3.out⟩
      case measure=>simp [intOf];omega
     ·have hwd:wordB (2,n,s)=s:=rfl
      rw [hwd] at HP hwl
      clear hwd
      go_wp2_with fail
      go_roundw
      case rel=>exact ⟨k+1,_,by omega,by go_num,rfl,by show _=_;rw [HP.out];simp [ByteArray.data_append,hst.out],by simp only [ByteArray.size_append];have e1:(⟨#[32]⟩ : ByteArray).size=1:=rfl;have e2:(⟨#[35]⟩ : ByteArray).size=1:=rfl;omega,hbel.out⟩
      case measure=>simp [intOf];omega
     ·have hsz:=name_of hnb (.inr rfl)
      have hwd:wordB (3,n,s)=⟨#[35]⟩ ++ s:=rfl
      rw [hwd] at HP hwl
      clear hwd
      go_wp2_with fail
      go_roundw
      case rel=>exact ⟨k+1,_,by omega,by go_num,rfl,by show _=_;rw [HP.out];simp [ByteArray.data_append,hst.out],by simp only [ByteArray.size_append];have e1:(⟨#[32]⟩ : ByteArray).size=1:=rfl;have e2:(⟨#[35]⟩ : ByteArray).size=1:=rfl;omega,hbel.out⟩
      case measure=>simp [intOf];omega
     ·have hwd:wordB (kd,n,s)=opW kd:=word_op (by omega)
      rw [hwd] at HP hwl
      clear hwd
      have hwa:=fun W=>words_at (kd:=kd) (by omega) (by omega) W
      obtain ⟨j,rfl⟩ : ∃ j:Nat,kd=(j:Int):=⟨kd.toNat,by omega⟩
      simp only [Int.toNat_natCast] at hwa
      generalize opW (j:Int)=wd at HP hwl hwa
      have j0:(0:Int)<=(j:Int):=by omega
      have j1:(j:Int)<18:=by omega
      have q1:((j:Int) == 1)=false:=by simp;omega
      have q2:((j:Int) == 2)=false:=by simp;omega
      have q3:((j:Int) == 3)=false:=by simp;omega
      have hcw:∀ o,(wr.alloc o).cell? ⟨b,off+k*3,none⟩=some (.int .i64 (j:Int)):=fun o=>(World.cell?_of_block (a:=⟨b,_,none⟩) (Below.heap_alloc _ _ _ (Nat.lt_of_lt_of_le hb hbel.out.size))).trans c0
      clear hnb
      go_wp2_with fail
      go_region_with (go_at_call 118;refine (l2Words_any _).mono ?_;rintro e w3 ⟨rfl,rfl⟩;have hw3:=hwa wr;have hwd:=hwa wr.drew)
      all_goals
       go_wp2_with fail
       go_roundw
       case rel=>exact ⟨k+1,_,by omega,by go_num,rfl,by show _=_;rw [HP.out];simp [ByteArray.data_append,hst.out],by simp only [ByteArray.size_append];have e1:(⟨#[32]⟩ : ByteArray).size=1:=rfl;have e2:(⟨#[35]⟩ : ByteArray).size=1:=rfl;omega,(grow hbel.out _).drew⟩
       case measure=>simp [intOf];omega
     ·have hwd:wordB (kd,n,s)=opW kd:=word_op (by omega)
      rw [hwd] at HP hwl
      clear hwd
      have hwa:=fun W=>words_at (kd:=kd) (by omega) (by omega) W
      obtain ⟨j,rfl⟩ : ∃ j:Nat,kd=(j:Int):=⟨kd.toNat,by omega⟩
      simp only [Int.toNat_natCast] at hwa
      generalize opW (j:Int)=wd at HP hwl hwa
      have j0:(0:Int)<=(j:Int):=by omega
      have j1:(j:Int)<18:=by omega
      have q1:((j:Int) == 1)=false:=by simp;omega
      have q2:((j:Int) == 2)=false:=by simp;omega
      have q3:((j:Int) == 3)=false:=by simp;omega
      have hcw:∀ o,(wr.alloc o).cell? ⟨b,off+k*3,none⟩=some (.int .i64 (j:Int)):=fun o=>(World.cell?_of_block (a:=⟨b,_,none⟩) (Below.heap_alloc _ _ _ (Nat.lt_of_lt_of_le hb hbel.out.size))).trans c0
      clear hnb
      go_wp2_with fail
      go_region_with (go_at_call 118;refine (l2Words_any _).mono ?_;rintro e w3 ⟨rfl,rfl⟩;have hw3:=hwa wr;have hwd:=hwa wr.drew)
      all_goals
       go_wp2_with fail
       go_roundw
       case rel=>exact ⟨k+1,_,by omega,by go_num,rfl,by show _=_;rw [HP.out];simp [ByteArray.data_append,hst.out],by simp only [ByteArray.size_append];have e1:(⟨#[32]⟩ : ByteArray).size=1:=rfl;have e2:(⟨#[35]⟩ : ByteArray).size=1:=rfl;omega,(grow hbel.out _).drew⟩
       case measure=>simp [intOf];omega
    ·have hk0:=Decidable.of_not_not hk0
     have g0:decide ((0:Int)<(k:Int))=true:=decide_eq_true (by omega)
     have HP:Hid (part L (k+1)=part L k ++ [32] ++ (wordB (kd,n,s)).data.toList):=by have:=HP0.out;rw [if_neg (by omega)] at this;exact this
     clear HP0
     rcases kinds_of hnb with rfl|rfl|rfl|⟨k4,k7⟩|⟨k8,k17⟩
     ·have hw:=word_of hnb
      have cd:=fun W=>l1Dec_any n W hw.1 (by omega)
      rw [dec_w hw.1] at cd
      have hwd:wordB (1,n,s)=decW n:=rfl
      rw [hwd] at HP hwl
      generalize decW n=wd at cd HP hwl
      clear hwd hw
      go_wp2_with fail
      refine (cd _).mono ?_
      rintro e w3 ⟨rfl,b3⟩
      have B3:Hid (Below w.heap.size w w3):=hbel.out.trans (b3.mono hbel.out.size)
      clear b3 cd
      go_wp2_with fail
      go_roundw
      case rel=>exact ⟨k+1,_,by omega,by go_num,rfl,by show _=_;rw [HP.out];simp [ByteArray.data_append,hst.out],by simp only [ByteArray.size_append];have e1:(⟨#[32]⟩ : ByteArray).size=1:=rfl;have e2:(⟨#[35]⟩ : ByteArray).size=1:=rfl;omega,B3.out⟩
      case measure=>simp [intOf];omega
     ·have hwd:wordB (2,n,s)=s:=rfl
      rw [hwd] at HP hwl
      clear hwd
      go_wp2_with fail
      go_roundw
      case rel=>exact ⟨k+1,_,by omega,by go_num,rfl,by show _=_;rw [HP.out];simp [ByteArray.data_append,hst.out],by simp only [ByteArray.size_append];have e1:(⟨#[32]⟩ : ByteArray).size=1:=rfl;have e2:(⟨#[35]⟩ : ByteArray).size=1:=rfl;omega,hbel.out⟩
      case measure=>simp [intOf];omega
     ·have hsz:=name_of hnb (.inr rfl)
      have hwd:wordB (3,n,s)=⟨#[35]⟩ ++ s:=rfl
      rw [hwd] at HP hwl
      clear hwd
      go_wp2_with fail
      go_roundw
      case rel=>exact ⟨k+1,_,by omega,by go_num,rfl,by show _=_;rw [HP.out];simp [ByteArray.data_append,hst.out],by simp only [ByteArray.size_append];have e1:(⟨#[32]⟩ : ByteArray).size=1:=rfl;have e2:(⟨#[35]⟩ : ByteArray).size=1:=rfl;omega,hbel.out⟩
      case measure=>simp [intOf];omega
     ·have hwd:wordB (kd,n,s)=opW kd:=word_op (by omega)
      rw [hwd] at HP hwl
      clear hwd
      have hwa:=fun W=>words_at (kd:=kd) (by omega) (by omega) W
      obtain ⟨j,rfl⟩ : ∃ j:Nat,kd=(j:Int):=⟨kd.toNat,by omega⟩
      simp only [Int.toNat_natCast] at hwa
      generalize opW (j:Int)=wd at HP hwl hwa
      have j0:(0:Int)<=(j:Int):=by omega
      have j1:(j:Int)<18:=by omega
      have q1:((j:Int) == 1)=false:=by simp;omega
      have q2:((j:Int) == 2)=false:=by simp;omega
      have q3:((j:Int) == 3)=false:=by simp;omega
      have hcw:∀ o,(wr.alloc o).cell? ⟨b,off+k*3,none⟩=some (.int .i64 (j:Int)):=fun o=>(World.cell?_of_block (a:=⟨b,_,none⟩) (Below.heap_alloc _ _ _ (Nat.lt_of_lt_of_le hb hbel.out.size))).trans c0
      clear hnb
      go_wp2_with fail
      go_region_with (go_at_call 118;refine (l2Words_any _).mono ?_;rintro e w3 ⟨rfl,rfl⟩;have hw3:=hwa wr;have hwd:=hwa wr.drew)
      all_goals
       go_wp2_with fail
       go_roundw
       case rel=>exact ⟨k+1,_,by omega,by go_num,rfl,by show _=_;rw [HP.out];simp [ByteArray.data_append,hst.out],by simp only [ByteArray.size_append];have e1:(⟨#[32]⟩ : ByteArray).size=1:=rfl;have e2:(⟨#[35]⟩ : ByteArray).size=1:=rfl;omega,(grow hbel.out _).drew⟩
       case measure=>simp [intOf];omega
     ·have hwd:wordB (kd,n,s)=opW kd:=word_op (by omega)
      rw [hwd] at HP hwl
      clear hwd
      have hwa:=fun W=>words_at (kd:=kd) (by omega) (by omega) W
      obtain ⟨j,rfl⟩ : ∃ j:Nat,kd=(j:Int):=⟨kd.toNat,by omega⟩
      simp only [Int.toNat_natCast] at hwa
      generalize opW (j:Int)=wd at HP hwl hwa
      have j0:(0:Int)<=(j:Int):=by omega
      have j1:(j:Int)<18:=by omega
      have q1:((j:Int) == 1)=false:=by simp;omega
      have q2:((j:Int) == 2)=false:=by simp;omega
      have q3:((j:Int) == 3)=false:=by simp;omega
      have hcw:∀ o,(wr.alloc o).cell? ⟨b,off+k*3,none⟩=some (.int .i64 (j:Int)):=fun o=>(World.cell?_of_block (a:=⟨b,_,none⟩) (Below.heap_alloc _ _ _ (Nat.lt_of_lt_of_le hb hbel.out.size))).trans c0
      clear hnb
      go_wp2_with fail
      go_region_with (go_at_call 118;refine (l2Words_any _).mono ?_;rintro e w3 ⟨rfl,rfl⟩;have hw3:=hwa wr;have hwd:=hwa wr.drew)
      all_goals
       go_wp2_with fail
       go_roundw
       case rel=>exact ⟨k+1,_,by omega,by go_num,rfl,by show _=_;rw [HP.out];simp [ByteArray.data_append,hst.out],by simp only [ByteArray.size_append];have e1:(⟨#[32]⟩ : ByteArray).size=1:=rfl;have e2:(⟨#[35]⟩ : ByteArray).size=1:=rfl;omega,(grow hbel.out _).drew⟩
       case measure=>simp [intOf];omega
   ·have e:k=len:=by omega
    subst e
    have HE:Hid (R=sb):=by
     show _=_
     rw [HR.out,<- HL.out,<- hst.out]
    go_wp2
    go_ret
    exact ⟨by rw [HE.out];rfl,hbel.out⟩
end Exts
namespace Mirror
open Go.Deep
open Go.Proofs.YtickfkphhngagaaGreatDoor.Stepx (Nodes)
theorem Nodes.below {w w':World} {a:Option Addr} {L:List Stepx.Node} (h:Nodes w a L) (hb:Below w.heap.size w w'):Nodes w' a L:=by
 rcases h with h|⟨b,off,ha,hl,hc⟩
 ·exact .inl h
 ·refine .inr ⟨b,off,ha,Nat.lt_of_lt_of_le hl hb.size,fun i hi=>?_⟩
  obtain ⟨d0,d1,d2,d3⟩:=hc i hi
  exact ⟨(hb.cell (p:=⟨b,_,none⟩) hl).trans d0,(hb.cell (p:=⟨b,_,none⟩) hl).trans d1,(hb.cell (p:=⟨b,_,none⟩) hl).trans d2,d3⟩
def left (m:Int) (s:ByteArray):Int:=if m-s.size<0 then -1 else m-s.size
def Part (W:World) (B len:Nat) (L:List Stepx.Node) (k:Nat):Prop :=
 (∀ i (h:i<L.length),i<k->W.cell? ⟨B,i*3,none⟩=some (.int .i64 L[i].1)/\W.cell? ⟨B,i*3+1,none⟩=some (.int .i64 L[i].2.1)/\W.cell? ⟨B,i*3+2,none⟩=some (.string L[i].2.2)) /\
 (∀ j,j<len*3->∃ u,W.cell? ⟨B,j,none⟩=some u)/\(∀ j,W.frozen? ⟨B,j,none⟩=false)/\B<W.heap.size
theorem Part.kept {W W':World} {B len k:Nat} {L:List Stepx.Node} (h:Part W B len L k) (hb:W'.heap[B]? = W.heap[B]?) (hs:W.heap.size<=W'.heap.size):Part W' B len L k:=by
 have e:∀ o,W'.cell? ⟨B,o,none⟩=W.cell? ⟨B,o,none⟩:=fun o=>World.cell?_of_block (a:=⟨B,o,none⟩) hb
 have f:∀ o,W'.frozen? ⟨B,o,none⟩=W.frozen? ⟨B,o,none⟩:=fun o=>World.frozen?_of_block (a:=⟨B,o,none⟩) hb
 refine ⟨fun i hi hk=>?_,fun j hj=>?_,fun j=>?_,Nat.lt_of_lt_of_le h.2.2.2 hs⟩
 ·rw [e,e,e];exact h.1 i hi hk
 ·rw [e];exact h.2.1 j hj
 ·rw [f];exact h.2.2.1 j
theorem Part.set {W:World} {B len k o:Nat} {L:List Stepx.Node} (h:Part W B len L k) (ho:k*3<=o) (v:Value):Part (W.setCell ⟨B,o,none⟩ v) B len L k:=by
 have ne:∀ i,i ≠ o->(W.setCell ⟨B,o,none⟩ v).cell? ⟨B,i,none⟩=W.cell? ⟨B,i,none⟩:=fun i hi=>World.cell?_setCell_other W _ _ _ (fun e=>hi (by have:=congrArg Addr.off e;exact this.symm))
 refine ⟨fun i hi hk=>?_,fun j hj=>?_,fun j=>?_,?_⟩
 ·rw [ne _ (by omega),ne _ (by omega),ne _ (by omega)];exact h.1 i hi hk
 ·by_cases e:j=o
  ·subst e
   obtain ⟨u,hu⟩:=h.2.1 j hj
   exact ⟨v,World.cell?_setCell_same W _ _ hu⟩
  ·rw [ne j e];exact h.2.1 j hj
 ·rw [World.frozen?_setCell];exact h.2.2.1 j
 ·have:=h.2.2.2;simpa [World.setCell] using this
theorem Part.store {W:World} {B len k:Nat} {L:List Stepx.Node} (h:Part W B len L k) (hk:k<len) (hl:len=L.length) (hkL:k<L.length) :
  Part (((W.setCell ⟨B,k*3,none⟩ (.int .i64 L[k].1)).setCell ⟨B,k*3+1,none⟩ (.int .i64 L[k].2.1)).setCell ⟨B,k*3+2,none⟩ (.string L[k].2.2)) B len L (k+1):=by
 have h1:=h.set (o:=k*3) (Nat.le_refl _) (.int .i64 L[k].1)
 have h2:=h1.set (o:=k*3+1) (by omega) (.int .i64 L[k].2.1)
 have h3:=h2.set (o:=k*3+2) (by omega) (.string L[k].2.2)
 refine ⟨fun i hi hik=>?_,h3.2.1,h3.2.2.1,h3.2.2.2⟩
 by_cases e:i=k
 ·subst e
  obtain ⟨u0,hu0⟩:=h.2.1 (i*3) (by omega)
  obtain ⟨u1,hu1⟩:=h1.2.1 (i*3+1) (by omega)
  obtain ⟨u2,hu2⟩:=h2.2.1 (i*3+2) (by omega)
  refine ⟨?_,?_,World.cell?_setCell_same _ _ _ hu2⟩
  ·rw [World.cell?_setCell_other _ _ _ _ (by simp),World.cell?_setCell_other _ _ _ _ (by simp)]
   exact World.cell?_setCell_same _ _ _ hu0
  ·rw [World.cell?_setCell_other _ _ _ _ (by simp)]
   exact World.cell?_setCell_same _ _ _ hu1
 ·exact h3.1 i hi (by omega)
theorem infoN:(prog.info? 122).map (fun i=>(i.zero,i.size,i.bytes))=some (some (.agg #[.int .i64 0,.int .i64 0,.string ⟨#[]⟩]),3,32):=by kernel_rfl
theorem Part.made (w:World) (len:Nat) (L:List Stepx.Node) (z:Array Value) (t:TypeId):Part (w.alloc (.cells (madeCells z (len*3)) t)) w.heap.size len L 0:=by
 refine ⟨fun i _ h=>absurd h (Nat.not_lt_zero _),fun j hj=>?_,fun j=>?_,by simp⟩
 ·rw [World.cell?_alloc_new]
  exact ⟨_,Array.getElem?_eq_getElem (by rw [size_madeCells];exact hj)⟩
 ·exact World.frozen?_alloc_at _ _ _ _ rfl
theorem below_of_drew {w w':World} (h:Below w.drew.heap.size w.drew w'):Below w.heap.size w w':=⟨h.os,h.tape,h.output,h.size,h.block⟩
end Mirror
end Go.Proofs.YtickfkphhngagaaGreatDoor
