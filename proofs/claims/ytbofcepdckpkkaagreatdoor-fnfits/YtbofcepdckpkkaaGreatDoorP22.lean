import Derived.Test.YtbofcepdckpkkaaGreatDoorP21
set_option linter.all false
set_option maxRecDepth 20000
set_option maxHeartbeats 8000000
open Go.ChangeShapes Go.WideShapes Go.ChangeAt Go.RowKit
open Go.Proofs.Tryz
namespace Go.Proofs.YtbofcepdckpkkaaGreatDoor
namespace Cmxd
open Go.Deep
open Prsp Prsl Xima Cmxa Cmxb Cmxc
def VS (pb:Nat) (s:ByteArray) (deep:Int) (f:St->Option St):Prop:=∀ k L w,PX w pb s k (some (s.data.toList.drop k,L))->Calls prog 98 #[.pointer (some ⟨pb,0,none⟩),.int .i64 deep] w (QX pb s k (f (s.data.toList.drop k,L)) w)
def LS (pb:Nat) (s:ByteArray) (deep:Int) (f:Int->St->Option St):Prop:=∀ least k L w,1<=least->least<=7->PX w pb s k (some (s.data.toList.drop k,L))->Calls prog 81 #[.pointer (some ⟨pb,0,none⟩),.int .i64 least,.int .i64 deep] w (QX pb s k (f least (s.data.toList.drop k,L)) w)
theorem level_zero (pb k:Nat) (s:ByteArray) (least:Int) (X:Option St) (w:World) (h:PX w pb s k X) :
  Calls prog 81 #[.pointer (some ⟨pb,0,none⟩),.int .i64 least,.int .i64 31] w (QX pb s k none w):=by
 go_enter func81,ntmps81
 go_wp2_with fail
 refine (value_zero pb k s X _ h).mono ?_
 clear h
 rintro e w1 ⟨rfl,⟨j,hj,p1⟩,b1⟩
 have P1:Hid (PX w1 pb s j none/\Below pb w w1):=⟨p1,b1⟩
 have c3:=p1.c3
 simp only [Option.isNone_none] at c3
 clear p1 b1
 go_wp2_with fail
 go_loopw [] (fun wr=>Hid (PX wr pb s j none/\Below pb w wr)) (fun wr=>0)
 case atStart=>exact P1
 case round =>
  clear c3
  have c3:=hrel.out.1.c3
  simp only [Option.isNone_none] at c3
  go_wp2_with fail
  first|go_end0|refine bodyPost_ret (results_none rfl _ _ _) rfl ?_
  exact QX.of rfl hj hrel.out.1 hrel.out.2
theorem opLen_eq (k:Int):opLen k=opL k:=rfl
theorem step_s {f:Int->St->Option St} {s:ByteArray} {j z:Nat} {L:List Stepx.Node} {o:Int} (ho:o=opK (s.data.toList.drop j)) (hz:z=opL o) :
  stepF f (s.data.toList.drop j,L)=(f (tgt o+1) (s.data.toList.drop (j+z),L)).bind (put (o,0,E0)):=by
 unfold stepF
 show (f (tgt (opK (s.data.toList.drop j))+1) ((s.data.toList.drop j).drop (opL (opK (s.data.toList.drop j))),L)).bind (put (opK (s.data.toList.drop j),0,E0))=_
 rw [<- ho,<- hz,List.drop_drop]
theorem level_step (pb n deep:Nat) (s:ByteArray) (hd1:1<=deep) (hd:deep<=30) (hv:VS pb s (deep:Int) (val (n+1))) (hl:LS pb s ((deep:Int)+1) (lev n)):LS pb s (deep:Int) (lev (n+1)):=by
 intro least k L w hle0 hle h
 have hs:=h.sz.2
 obtain ⟨R,hR⟩ : ∃ R,R=(val (n+1) (s.data.toList.drop k,L)).bind (loopF (lev n) least):=⟨_,rfl⟩
 have HR:Hid (R=(val (n+1) (s.data.toList.drop k,L)).bind (loopF (lev n) least)):=hR
 rw [lev_succ,<- hR]
 clear hR
 go_enter func81,ntmps81
 go_wp2_with fail
 refine (hv k L _ h).mono ?_
 clear h hv
 rintro e w1 ⟨rfl,⟨k1,q1,p1⟩,be1⟩
 obtain ⟨X1,hX1⟩ : ∃ X,X=val (n+1) (s.data.toList.drop k,L):=⟨_,rfl⟩
 rw [<- hX1] at p1 HR
 have P1:Hid (PX w1 pb s k1 X1/\Below pb w w1/\R=X1.bind (loopF (lev n) least)):=⟨p1,be1,HR.out⟩
 have c3:=p1.c3
 clear p1 be1 hX1 HR
 go_wp2_with fail
 go_loopw [] (fun wr=>∃ k2 X2,k<=k2/\Hid (PX wr pb s k2 X2/\Below pb w wr/\R=X2.bind (loopF (lev n) least))) (fun wr=>s.size-Cmxa.atOf wr pb)
 case atStart=>exact ⟨k1,X1,q1,P1⟩
 case round =>
  obtain ⟨k2,X2,q2,P2⟩:=hrel
  clear c3 P1
  have hat:=P2.out.1.atOf
  cases X2 with
  | none =>
   have c3:=P2.out.1.c3
   simp only [Option.isNone_none] at c3
   go_wp2_with fail
   first|go_end0|refine bodyPost_ret (results_none rfl _ _ _) rfl ?_
   exact QX.of P2.out.2.2 q2 P2.out.1 P2.out.2.1
  | some st2 =>
   have c3:=P2.out.1.c3
   simp only [Option.isNone_some] at c3
   obtain ⟨l2,L2⟩:=st2
   have hl2:=congrArg Prod.fst P2.out.1.st
   simp only [] at hl2
   subst hl2
   have RQ:Hid (R=loopF (lev n) least (s.data.toList.drop k2,L2)):=P2.out.2.2
   obtain ⟨z,hz⟩ : ∃ z,z=opK (s.data.toList.drop k2):=⟨_,rfl⟩
   have HZ:Hid (z=opK (s.data.toList.drop k2)):=hz
   have hzb:=op_bd (s.data.toList.drop k2)
   have co:=fun W hW=>op_any pb k2 s L2 W hW
   rw [<- hz] at hzb co
   clear hz
   go_wp2_with fail
   refine (co _ P2.out.1).mono ?_
   rintro e w3 ⟨rfl,p3,be3⟩
   have P3:Hid (PX w3 pb s k2 (some (s.data.toList.drop k2,L2))/\Below pb w w3):=⟨p3,P2.out.2.1.trans be3⟩
   clear p3 be3 c3 co P2
   rcases hzb with hz0|⟨z0,z1⟩
   ·have RS:Hid (R=some (s.data.toList.drop k2,L2)):=RQ.out.trans (loop_stop (show tgt (opK (s.data.toList.drop k2))<least from by rw [<- HZ.out,hz0,show tgt 0=0 from by decide];omega))
    clear RQ
    subst hz0
    go_wp2_with fail
    first|go_end0|refine bodyPost_ret (results_none rfl _ _ _) rfl ?_
    exact QX.of RS.out q2 P3.out.1 P3.out.2
   ·have zn:¬ z=0:=by omega
    have zb:(z == 0)=false:=by simp [zn]
    have zd:decide (z=0)=false:=decide_eq_false zn
    have hop:1<=opLen z:=by unfold opLen;split <;> omega
    have hfit:k2+opLen z<=s.size:=by
     have:=Prsm.op_len (l:=s.data.toList.drop k2) (by rw [<- HZ.out];exact z0)
     rw [<- HZ.out,drop_len] at this
     rw [opLen_eq]
     have:=(opL_bd z).1
     omega
    have c1:=P3.out.1.c1
    have f1:=P3.out.1.fz 1
    have hlt:=P3.out.1.lt
    obtain ⟨t,ht,hw⟩ : ∃ t:ByteArray,t.size=opLen z/\wordsA[z.toNat]? = some (.string t):=⟨_,by have:=tab_at z.toNat (by omega) (by omega);rwa [show ((z.toNat:Nat):Int)=z by omega] at this,words_at z.toNat (by omega)⟩
    have HZL:Hid (t.size=opL z):=ht
    rw [<- ht] at hfit hop
    have hls:=P3.out.1.sz.1
    obtain ⟨y,hy⟩ : ∃ y,y=tgt z:=⟨_,rfl⟩
    have HY:Hid (y=tgt z):=hy
    have hyb:=tight_bd ⟨z0,z1⟩
    have cl:=fun W=>level_any z ⟨z0,z1⟩ W
    rw [<- hy] at cl hyb
    clear hy
    go_wp2_with fail
    refine (cl _).mono ?_
    rintro e w4 ⟨rfl,hw4⟩
    have hw4:=hw4.symm
    subst hw4
    by_cases hyl:y<least
    ·have d1:decide (y<least)=true:=decide_eq_true hyl
     have RS:Hid (R=some (s.data.toList.drop k2,L2)):=RQ.out.trans (loop_stop (show tgt (opK (s.data.toList.drop k2))<least from by rw [<- HZ.out,<- HY.out];exact hyl))
     clear RQ
     go_wp2_with fail
     first|go_end0|refine bodyPost_ret (results_none rfl _ _ _) rfl ?_
     exact QX.of RS.out q2 P3.out.1 P3.out.2
    ·have d1:decide (y<least)=false:=decide_eq_false hyl
     have NT:∀ (Lx:List Stepx.Node),¬ tgt (opK (s.data.toList.drop k2,Lx).1)<least:=fun _=>by show ¬ tgt (opK (s.data.toList.drop k2))<least;rw [<- HZ.out,<- HY.out];exact hyl
     have ST:Hid (stepF (lev n) (s.data.toList.drop k2,L2)=(lev n (y+1) (s.data.toList.drop (k2+t.size),L2)).bind (put (z,0,E0))):=(show _=_ from by rw [HY.out];exact step_s HZ.out HZL.out)
     have NT:Hid (∀ (Lx:List Stepx.Node),¬ tgt (opK (s.data.toList.drop k2,Lx).1)<least):=NT
     have i1:IntKind.i64.wrap ((k2:Int)+(t.size:Int))=(k2:Int)+(t.size:Int):=by rw [IntKind.wrap_i64];omega
     have hz2:z<18:=by omega
     have hz3:(0:Int)<=z:=by omega
     have FIN:Hid (PX (((w3.setCell ⟨pb,1,none⟩ (.int .i64 ((k2:Int)+(t.size:Int)))).alloc (.cells wordsA 9)).drew) pb s (k2+t.size) (some (s.data.toList.drop (k2+t.size),L2))/\Below pb w (((w3.setCell ⟨pb,1,none⟩ (.int .i64 ((k2:Int)+(t.size:Int)))).alloc (.cells wordsA 9)).drew)):=by
      have h1:=P3.out.1.at_ hfit (show ((k2:Int)+(t.size:Int))=((k2+t.size:Nat):Int) by omega)
      have hb:Below (w3.setCell ⟨pb,1,none⟩ (.int .i64 ((k2:Int)+(t.size:Int)))).heap.size (w3.setCell ⟨pb,1,none⟩ (.int .i64 ((k2:Int)+(t.size:Int)))) (((w3.setCell ⟨pb,1,none⟩ (.int .i64 ((k2:Int)+(t.size:Int)))).alloc (.cells wordsA 9)).drew):=(zAl _ _).drew
      exact ⟨h1.kept hb,(P3.out.2.trans below_set).trans (hb.mono (Nat.le_of_lt h1.lt))⟩
     have hy7:IntKind.i64.wrap (y+1)=y+1:=by rw [IntKind.wrap_i64];omega
     clear ht hyl HZ HY HZL P3
     go_wp2_with fail
     go_region_with (first|(go_at_call 101;refine (words_any _).mono ?_;rintro e w5 ⟨rfl,rfl⟩)|fail)
     all_goals
      go_wp2_with fail
      refine (cl _).mono ?_
      rintro e w6 ⟨rfl,rfl⟩
      go_wp2_with fail
      refine (hl (y+1) (k2+t.size) L2 _ (by omega) (by omega) FIN.out.1).mono ?_
      rintro e w7 ⟨rfl,⟨k7,q7,p7⟩,be7⟩
      obtain ⟨X7,hX7⟩ : ∃ X,X=lev n (y+1) (s.data.toList.drop (k2+t.size),L2):=⟨_,rfl⟩
      rw [<- hX7] at p7 ST
      have P7:Hid (PX w7 pb s k7 X7/\Below pb w w7):=⟨p7,FIN.out.2.trans be7⟩
      clear p7 be7 hX7
      go_wp2_with fail
      refine (put_any pb k7 s X7 _ P7.out.1 z 0 E0).mono ?_
      rintro e w8 ⟨rfl,p8,be8⟩
      have P8:Hid (PX w8 pb s k7 (X7.bind (put (z,0,E0)))/\Below pb w w8/\R=(X7.bind (put (z,0,E0))).bind (loopF (lev n) least)):=⟨p8,P7.out.2.trans be8,by
       rw [RQ.out]
       cases hx:X7.bind (put (z,0,E0)) with
       | none=>exact loop_none (s:=(s.data.toList.drop k2,L2)) (by show ¬ tgt (opK (s.data.toList.drop k2))<least;have:=NT.out L2;omega) (by rw [ST.out];exact hx)
       | some st8 =>
        have h8:=p8
        rw [hx] at h8
        have e8:=congrArg Prod.fst h8.st
        simp only [] at e8
        exact loop_go (s:=(s.data.toList.drop k2,L2)) (s':=st8) (by show ¬ tgt (opK (s.data.toList.drop k2))<least;have:=NT.out L2;omega) (by rw [ST.out];exact hx) (by rw [e8];show (s.data.toList.drop k7).length<(s.data.toList.drop k2).length;rw [drop_len,drop_len];omega)⟩
      clear p8 be8
      go_wp2_with fail
      go_roundw
      case rel=>exact ⟨k7,X7.bind (put (z,0,E0)),by omega,P8⟩
      case measure=>rw [hat,P8.out.1.atOf];omega
theorem both_any (pb:Nat) (s:ByteArray):∀ n:Nat,n<=30->VS pb s (31-(n:Int)) (val n)/\LS pb s (31-(n:Int)) (lev n)
 | 0,_=>⟨fun k L w h=>by rw [val_zero];exact value_zero pb k s _ w h,fun least k L w _ _ h=>by rw [lev_zero];exact level_zero pb k s least _ w h⟩
 | n+1,h=>by
  obtain ⟨hv,hl⟩:=both_any pb s n (by omega)
  have e:((30-n:Nat):Int)+1=31-(n:Int):=by omega
  have e2:31-((n+1:Nat):Int)=((30-n:Nat):Int):=by omega
  rw [<- e] at hv hl
  rw [e2]
  have v:VS pb s ((30-n:Nat):Int) (val (n+1)):=fun k L w h=>value_step pb k (30-n) n s L w h (by omega) (by omega) hv (fun k L w h=>hl 1 k L w (by decide) (by decide) h)
  exact ⟨v,level_step pb n (30-n) s (by omega) (by omega) v hl⟩
open Stepx (exprB)
def outC (X:Option (List Stepx.Node)) (w:World) (e:Ending) (w':World):Prop :=
 (match X with
  | none=>e=.returned (.tuple #[.slice none 0 0,.bool false])
  | some L=>∃ (a:Option Addr) (cap:Nat),e=.returned (.tuple #[.slice a L.length cap,.bool true])/\Nodm.Own w' w.heap.size (.slice a L.length cap) L/\L.length<=30/\exprB L=true/\∀ x ∈ L,x.2.2.size<=16)/\Below w.heap.size w w'
def compV (n:Nat) (s:ByteArray):Option (List Stepx.Node):=if 200<s.size then none else comp n s.data.toList
theorem own_low {w:World} {b b':Nat} {v:Value} {L:List Stepx.Node} (h:Nodm.Own w b v L) (hb:b'<=b):Nodm.Own w b' v L:=by
 refine ⟨h.1,?_⟩
 rcases h.2 with h'|⟨g,c,cur,rfl,hg,rest⟩
 ·exact .inl h'
 ·exact .inr ⟨g,c,cur,rfl,Nat.le_trans hb hg,rest⟩
theorem outC.no {w w':World} (hb:Below w.heap.size w w'):outC none w (.returned (.tuple #[.slice none 0 0,.bool false])) w':=⟨rfl,hb⟩
theorem compiled_any (s:ByteArray) (w:World) (hs:s.size<=1048576):Calls prog 50 #[.string s] w (outC (compV 30 s) w):=by
 by_cases h2:200<s.size
 ·have HN:Hid (compV 30 s=none):=if_pos h2
  go_enter func50,ntmps50
  go_wp2_with fail
  go_ret2
  rw [HN.out]
  exact outC.no zRf
 ·have P0:Hid (PX (w.alloc (.cells #[.string s,.int .i64 0,.slice none 0 0,.bool false] 104)) w.heap.size s 0 (some (s.data.toList.drop 0,[]))):=by
   refine ⟨none,0,[],?_,?_,?_,?_,fun i=>?_,Nat.zero_le _,by omega,by decide,(fun st h=>(Option.some.inj h).symm),World.ownsRow_nil _ _ _ _⟩
   ·rw [World.cell?_alloc_new];rfl
   ·rw [World.cell?_alloc_new];rfl
   ·rw [World.cell?_alloc_new];rfl
   ·rw [World.cell?_alloc_new];rfl
   ·simp
  have HV:Hid (compV 30 s=comp 30 s.data.toList):=if_neg h2
  have cl:=(both_any w.heap.size s 30 (by decide)).2 1 0 [] (w.alloc (.cells #[.string s,.int .i64 0,.slice none 0 0,.bool false] 104)) (by decide) (by decide) P0.out
  rw [show (31:Int)-((30:Nat):Int)=1 from rfl] at cl
  obtain ⟨X,hX⟩ : ∃ X,X=lev 30 1 (s.data.toList.drop 0,([]:List Stepx.Node)):=⟨_,rfl⟩
  have HX0:Hid (X=lev 30 1 (s.data.toList,([]:List Stepx.Node))):=(show X=_ from by rw [hX,List.drop_zero])
  rw [<- hX] at cl
  clear hX P0
  go_enter func50,ntmps50
  go_wp2_with fail
  refine cl.mono ?_
  rintro e w1 ⟨rfl,⟨k1,_,p1⟩,be1⟩
  have B1:Hid (Below w.heap.size w w1):=(zAl _ _).trans be1
  clear be1 cl
  cases X with
  | none =>
   have HN:Hid (compV 30 s=none):=(show compV 30 s=none from by rw [HV.out];unfold comp;rw [<- HX0.out])
   have c3:=p1.c3
   simp only [Option.isNone_none] at c3
   clear p1 HX0 HV
   go_wp2_with fail
   go_ret2
   rw [HN.out]
   exact outC.no B1.out
  | some st =>
   obtain ⟨l1,L⟩:=st
   have hl1:=congrArg Prod.fst p1.st
   simp only [] at hl1
   subst hl1
   have hk1s:=p1.sz.1
   obtain ⟨a,cap,L',c0,c1,c2,c3,cf,hk,hs',hl30,hg,ho⟩:=p1
   have hLL:L=L':=(Prod.mk.inj (hg _ rfl)).2
   subst hLL
   simp only [Option.isNone_some] at c3
   clear hg cf c0
   have O:Hid (Nodm.Own w1 w.heap.size (.slice a L.length cap) L):=own_low ho (Nat.le_succ _)
   by_cases hk1:(k1:Int)=(s.size:Int)
   ·have d1:((k1:Int) == (s.size:Int))=true:=by simp [hk1]
    have d2:((k1:Int) != (s.size:Int))=false:=by simp [hk1]
    have d3:decide ((k1:Int)=(s.size:Int))=true:=decide_eq_true hk1
    have HK:Hid ((k1:Int)=(s.size:Int)):=hk1
    have HC:Hid (comp 30 s.data.toList=some L):=(show _=_ from by unfold comp;rw [<- HX0.out,Nums.drop_end s k1 (by omega)])
    clear hk1
    obtain ⟨x1,x2,x3⟩:=comp_right HC.out
    have G:Hid (∀ x ∈ L,x.2.2.size<=16):=x3
    have N:Hid (Stepx.Nodes w1 a L):=Nodm.nodes_own ho (fun x hx=>Nat.le_trans (x3 x hx) (by decide))
    have ce:=fun w hN=>Specx.exprOk_any a cap L w hN (by omega)
    rw [x1] at ce
    have HX:Hid (exprB L=true):=x1
    have HQ:Hid (compV 30 s=some L):=HV.out.trans HC.out
    clear x1 x3 HC HX0 HV ho
    go_wp2_with (go_at_call 82;refine (ce _ N.out).mono ?_;rintro e w2 ⟨rfl,b2⟩;have B2:Hid (Below w.heap.size w w2):=B1.out.trans (b2.mono B1.out.size);have O2:Hid (Nodm.Own w2 w.heap.size (.slice a L.length cap) L):=Nodm.own_below O.out b2;have c2b:w2.cell? ⟨w.heap.size,2,none⟩=some (.slice a L.length cap):=(b2.cell (p:=⟨w.heap.size,2,none⟩) (World.block_lt_of_cell? w1 ⟨w.heap.size,2,none⟩ c2)).trans c2;clear b2)
    go_ret2
    rw [HQ.out]
    exact ⟨⟨a,cap,rfl,O2.out,hl30,HX.out,G.out⟩,B2.out⟩
   ·have d1:((k1:Int) == (s.size:Int))=false:=by simp [hk1]
    have d2:((k1:Int) != (s.size:Int))=true:=by simp [hk1]
    have d3:decide ((k1:Int)=(s.size:Int))=false:=decide_eq_false hk1
    have HN:Hid (compV 30 s=none):=(show compV 30 s=none from by
     rw [HV.out];unfold comp;rw [<- HX0.out]
     rw [Nums.drop_at s k1 (by omega)])
    clear HX0 HV ho
    go_wp2_with fail
    go_ret2
    rw [HN.out]
    exact outC.no B1.out
end Cmxd
namespace Texj
open Signed (inB l1In_any isByte_any sgn)
open HoleX (n8 n16 e8 holeT holeP)
open HolI LenX InsX Texi
theorem implText_any (code:Int) (cb:Bool) (imm:Int) (w:World) (hT:PartN.Tables w) (hP:Pow w) (hm:MaxL w) :
  Calls prog 10 #[.agg #[.int .i64 code,.bool cb,.int .i64 imm]] w fun e w'=>e=.returned (.string (textV code cb imm))/\Below w.heap.size w w':=by
 have HX:Hid (PartN.Tables w/\Pow w/\MaxL w):=⟨hT,hP,hm⟩
 clear hT hP hm
 have co:=fun w hm=>implOk_any code cb imm w hm
 cases ho:okV code cb imm
 ·have hv:textV code cb imm=⟨#[]⟩:=by unfold textV;rw [ho];rfl
  rw [hv]
  rw [ho] at co
  go_enter func10,ntmps10
  go_wp2_with fail
  refine (co _ (HX.out.2.2.below (zAl _ _))).mono ?_
  rintro e w1 ⟨rfl,b1⟩
  have B1:Hid (Below _ _ w1):=b1
  clear b1 co
  go_wp2
  go_ret
  exact ⟨rfl,unbox B1.out⟩
 rw [ho] at co
 obtain ⟨h0,h1,hz,hh,hs,ht,ha⟩:=at_hole ho
 have hv:textV code cb imm=(if (hole code cb).size=0 then Tmpl.tmplS code cb else put (Tmpl.tmplS code cb) (hole code cb) (newV (hole code cb) imm) (holeP (Tmpl.tmplS code cb))):=by unfold textV;rw [ho];rfl
 rw [hv]
 have ct:=fun w hT=>TmplI.implTemplate_any code cb w hT
 rw [ht] at ct
 have ch:=fun w hm=>holeOf_any (Tmpl.tmplS code cb) w (by omega) hm
 rw [hh] at ch
 have HA:Hid _:=ha
 have hcs:=hole_cases code cb
 clear hv hh ht hz ha ho
 generalize holeP (Tmpl.tmplS code cb)=P at HA |-
 generalize Tmpl.tmplS code cb=T at ct ch hs HA |-
 generalize hole code cb=G at ch hcs HA |-
 go_enter func10,ntmps10
 go_wp2_with fail
 refine (co _ (HX.out.2.2.below (zAl _ _))).mono ?_
 rintro e w1 ⟨rfl,b1⟩
 have B1:Hid (Below _ _ w1):=b1
 have k0:=box b1 0 _ rfl
 have k1:=box b1 1 _ rfl
 clear b1 co
 go_wp2_with fail
 refine (ct _ (HX.out.1.below (unbox B1.out))).mono ?_
 rintro e w2 ⟨rfl,b2⟩
 have B2:Hid (Below _ _ w2):=after B1.out b2
 clear b2 ct B1 k0 k1
 go_wp2_with fail
 refine (ch _ (HX.out.2.2.below (unbox B2.out))).mono ?_
 rintro e w3 ⟨rfl,b3⟩
 have B3:Hid (Below _ _ w3):=after B2.out b3
 have k2:=box B3.out 2 _ rfl
 clear b3 ch B2
 rcases hcs with rfl|rfl|rfl|rfl
 ·have hne:=new_8 imm
  obtain ⟨a1,a2,a3,a4,a5⟩:=HA.out (by decide)
  have cf:=fun w hT=>fill_n8 imm w hT
  have HP:Hid ((if (⟨#[110,56]⟩ : ByteArray).size=0 then T else put T ⟨#[110,56]⟩ (newV ⟨#[110,56]⟩ imm) P)=⟨(Lib.replaceK (⟨#[110,56]⟩ : ByteArray).data.toList (Hex.hexS imm 2).data.toList 1 T.data.toList).toArray⟩):=(put_eq T ⟨#[110,56]⟩ (Hex.hexS imm 2) P a4 a5 a3).symm
  generalize (Hex.hexS imm 2)=V at cf hne HP
  go_wp2_with fail
  refine (cf _ (HX.out.1.below (unbox B3.out))).mono ?_
  rintro e w4 ⟨rfl,b4⟩
  have B4:Hid (Below _ _ w4):=after B3.out b4
  clear b4 cf B3 k2
  obtain ⟨mm,hmm⟩:=HX.out.2.2.below (unbox B4.out)
  have cr:=Tryz.strings_Replace_some T ⟨#[110,56]⟩ V 1 mm w4 (by omega) hmm (by decide) hne.1 (by decide) (by rw [a1];decide) (by rw [a1];have:=hne.2;omega)
  rw [a2] at cr
  clear hmm a1 a2 a3 a4 a5 hne
  go_wp2_with fail
  refine cr.mono ?_
  rintro e w5 ⟨rfl,b5⟩
  have B5:Hid (Below _ _ w5):=after B4.out b5
  clear b5 cr B4
  go_wp2
  go_ret
  exact ⟨congrArg (fun s=>Ending.returned (.string s)) HP.out.symm,unbox B5.out⟩
 ·have hne:=new_16 imm
  obtain ⟨a1,a2,a3,a4,a5⟩:=HA.out (by decide)
  have cf:=fun w hT=>fill_n16 imm w hT
  have HP:Hid ((if (⟨#[110,49,54]⟩ : ByteArray).size=0 then T else put T ⟨#[110,49,54]⟩ (newV ⟨#[110,49,54]⟩ imm) P)=⟨(Lib.replaceK (⟨#[110,49,54]⟩ : ByteArray).data.toList (Hex.hexS imm 4).data.toList 1 T.data.toList).toArray⟩):=(put_eq T ⟨#[110,49,54]⟩ (Hex.hexS imm 4) P a4 a5 a3).symm
  generalize (Hex.hexS imm 4)=V at cf hne HP
  go_wp2_with fail
  refine (cf _ (HX.out.1.below (unbox B3.out))).mono ?_
  rintro e w4 ⟨rfl,b4⟩
  have B4:Hid (Below _ _ w4):=after B3.out b4
  clear b4 cf B3 k2
  obtain ⟨mm,hmm⟩:=HX.out.2.2.below (unbox B4.out)
  have cr:=Tryz.strings_Replace_some T ⟨#[110,49,54]⟩ V 1 mm w4 (by omega) hmm (by decide) hne.1 (by decide) (by rw [a1];decide) (by rw [a1];have:=hne.2;omega)
  rw [a2] at cr
  clear hmm a1 a2 a3 a4 a5 hne
  go_wp2_with fail
  refine cr.mono ?_
  rintro e w5 ⟨rfl,b5⟩
  have B5:Hid (Below _ _ w5):=after B4.out b5
  clear b5 cr B4
  go_wp2
  go_ret
  exact ⟨congrArg (fun s=>Ending.returned (.string s)) HP.out.symm,unbox B5.out⟩
 ·have hne:=(⟨(dec_ne_at (sgn_bd imm).1 (sgn_bd imm).2).1.symm,(dec_ne_at (sgn_bd imm).1 (sgn_bd imm).2).2⟩ : (⟨#[101,56]⟩ : ByteArray) ≠ Deci.decE (sgn imm)/\(Deci.decE (sgn imm)).size<=5)
  obtain ⟨a1,a2,a3,a4,a5⟩:=HA.out (by decide)
  have cf:=fun w hT=>fill_e8 imm w hT
  have HP:Hid ((if (⟨#[101,56]⟩ : ByteArray).size=0 then T else put T ⟨#[101,56]⟩ (newV ⟨#[101,56]⟩ imm) P)=⟨(Lib.replaceK (⟨#[101,56]⟩ : ByteArray).data.toList (Deci.decE (sgn imm)).data.toList 1 T.data.toList).toArray⟩):=(put_eq T ⟨#[101,56]⟩ (Deci.decE (sgn imm)) P a4 a5 a3).symm
  generalize (Deci.decE (sgn imm))=V at cf hne HP
  go_wp2_with fail
  refine (cf _ (HX.out.2.1.below (unbox B3.out))).mono ?_
  rintro e w4 ⟨rfl,b4⟩
  have B4:Hid (Below _ _ w4):=after B3.out b4
  clear b4 cf B3 k2
  obtain ⟨mm,hmm⟩:=HX.out.2.2.below (unbox B4.out)
  have cr:=Tryz.strings_Replace_some T ⟨#[101,56]⟩ V 1 mm w4 (by omega) hmm (by decide) hne.1 (by decide) (by rw [a1];decide) (by rw [a1];have:=hne.2;omega)
  rw [a2] at cr
  clear hmm a1 a2 a3 a4 a5 hne
  go_wp2_with fail
  refine cr.mono ?_
  rintro e w5 ⟨rfl,b5⟩
  have B5:Hid (Below _ _ w5):=after B4.out b5
  clear b5 cr B4
  go_wp2
  go_ret
  exact ⟨congrArg (fun s=>Ending.returned (.string s)) HP.out.symm,unbox B5.out⟩
 ·clear HA
  go_wp2
  go_ret
  exact ⟨rfl,unbox B3.out⟩
theorem specText_any (code:Int) (cb:Bool) (imm:Int) (w:World) :
  Calls prog 16 #[.agg #[.int .i64 code,.bool cb,.int .i64 imm]] w fun e w'=>e=.returned (.string (textV code cb imm))/\Below w.heap.size w w':=by
 have co:=fun w=>specOk_any code cb imm w
 cases ho:okV code cb imm
 ·have hv:textV code cb imm=⟨#[]⟩:=by unfold textV;rw [ho];rfl
  rw [hv]
  rw [ho] at co
  go_enter func16,ntmps16
  go_wp2_with fail
  refine (co _).mono ?_
  rintro e w1 ⟨rfl,b1⟩
  have B1:Hid (Below _ _ w1):=b1
  clear b1 co
  go_wp2
  go_ret
  exact ⟨rfl,unbox B1.out⟩
 rw [ho] at co
 obtain ⟨h0,h1,hz,hh,hs,ht,ha⟩:=at_hole ho
 have hv:textV code cb imm=(if (hole code cb).size=0 then Tmpl.tmplS code cb else put (Tmpl.tmplS code cb) (hole code cb) (newV (hole code cb) imm) (holeP (Tmpl.tmplS code cb))):=by unfold textV;rw [ho];rfl
 rw [hv]
 have ct:=fun w=>Tmpl.template_any code cb w h0 h1
 have ch:=fun w=>HoleX.hole_any (Tmpl.tmplS code cb) w (by omega)
 unfold HoleX.ret at ch
 rw [show holeT (Tmpl.tmplS code cb)=hole code cb from rfl] at ch
 have HA:Hid _:=ha
 have hcs:=hole_cases code cb
 clear hv hh ht hz ha ho
 generalize holeP (Tmpl.tmplS code cb)=P at HA ch |-
 generalize Tmpl.tmplS code cb=T at ct ch hs HA |-
 generalize hole code cb=G at ch hcs HA |-
 go_enter func16,ntmps16
 go_wp2_with fail
 refine (co _).mono ?_
 rintro e w1 ⟨rfl,b1⟩
 have B1:Hid (Below _ _ w1):=b1
 have k0:=box b1 0 _ rfl
 have k1:=box b1 1 _ rfl
 clear b1 co
 go_wp2_with fail
 refine (ct _).mono ?_
 rintro e w2 ⟨rfl,b2⟩
 have B2:Hid (Below _ _ w2):=after B1.out b2
 clear b2 ct B1 k0 k1
 go_wp2_with fail
 refine (ch _).mono ?_
 rintro e w3 ⟨rfl,b3⟩
 have B3:Hid (Below _ _ w3):=after B2.out b3
 have k2:=box B3.out 2 _ rfl
 clear b3 ch B2
 rcases hcs with rfl|rfl|rfl|rfl
 ·obtain ⟨a1,a2,a3,a4,a5⟩:=HA.out (by decide)
  clear a1 a2 a3 HA
  have a5:P.toNat+2<=T.size:=a5
  have HP:Hid ((if (⟨#[110,56]⟩ : ByteArray).size=0 then T else put T ⟨#[110,56]⟩ (newV ⟨#[110,56]⟩ imm) P)=T.extract 0 P.toNat ++ Hex.hexS imm 2 ++ T.extract (P.toNat+2) T.size):=rfl
  have cx:=fun w=>Hex.specHex_any imm 2 w
  have zv:=hex_size imm 2 (by omega)
  have zv:(Hex.hexS imm 2).size<=5:=by omega
  generalize Hex.hexS imm 2=V at cx zv HP
  have s1:∀ w,(Instr.slice 9 (.string T) none (some (.int .i64 P)) none).run prog w=.ok (.string (T.extract 0 P.toNat)) w:=fun w=>run_slice_string_h w (t:=9) (s:=T) underlying9 .i64 P a4 (by omega)
  have s2:∀ w,(Instr.slice 9 (.string T) (some (.int .i64 (P+2))) none none).run prog w=.ok (.string (T.extract (P.toNat+2) T.size)) w:=fun w=>by
   have:=run_slice_string_l w (t:=9) (s:=T) underlying9 .i64 (P+2) (by omega) (by omega)
   rwa [show (P+2).toNat=P.toNat+2 by omega] at this
  have z1:(T.extract 0 P.toNat).size<=40:=by simp;omega
  have z2:(T.extract (P.toNat+2) T.size).size<=40:=by simp;omega
  generalize T.extract 0 P.toNat=A1 at s1 z1 HP
  generalize T.extract (P.toNat+2) T.size=A2 at s2 z2 HP
  have q1:¬ 9223372036854775807<A1.size+V.size:=by omega
  have q2:¬ 9223372036854775807<A1.size+V.size+A2.size:=by omega
  have p0:0<=P:=a4
  have p1:P<=(T.size:Int):=by omega
  have p2:0<=P+2:=by omega
  have p3:P+2<=(T.size:Int):=by omega
  have p4:IntKind.i64.wrap (P+2)=P+2:=by rw [IntKind.wrap_i64];omega
  have p5:wrap64 (P+2)=P+2:=by unfold wrap64;omega
  clear a4 a5
  go_wp2_with fail
  go_region_with (first
   | (go_at_call 35;refine (cx _).mono ?_;rintro e w4 ⟨rfl,rfl⟩;have B4:Hid (Below _ _ w3.drew):=B3.out.drew)
   | fail)
  all_goals
   go_wp2
   go_ret
   exact ⟨congrArg (fun s=>Ending.returned (.string s)) HP.out.symm,unbox B4.out⟩
 ·obtain ⟨a1,a2,a3,a4,a5⟩:=HA.out (by decide)
  clear a1 a2 a3 HA
  have a5:P.toNat+3<=T.size:=a5
  have HP:Hid ((if (⟨#[110,49,54]⟩ : ByteArray).size=0 then T else put T ⟨#[110,49,54]⟩ (newV ⟨#[110,49,54]⟩ imm) P)=T.extract 0 P.toNat ++ Hex.hexS imm 4 ++ T.extract (P.toNat+3) T.size):=rfl
  have cx:=fun w=>Hex.specHex_any imm 4 w
  have zv:=hex_size imm 4 (by omega)
  have zv:(Hex.hexS imm 4).size<=5:=by omega
  generalize Hex.hexS imm 4=V at cx zv HP
  have s1:∀ w,(Instr.slice 9 (.string T) none (some (.int .i64 P)) none).run prog w=.ok (.string (T.extract 0 P.toNat)) w:=fun w=>run_slice_string_h w (t:=9) (s:=T) underlying9 .i64 P a4 (by omega)
  have s2:∀ w,(Instr.slice 9 (.string T) (some (.int .i64 (P+3))) none none).run prog w=.ok (.string (T.extract (P.toNat+3) T.size)) w:=fun w=>by
   have:=run_slice_string_l w (t:=9) (s:=T) underlying9 .i64 (P+3) (by omega) (by omega)
   rwa [show (P+3).toNat=P.toNat+3 by omega] at this
  have z1:(T.extract 0 P.toNat).size<=40:=by simp;omega
  have z2:(T.extract (P.toNat+3) T.size).size<=40:=by simp;omega
  generalize T.extract 0 P.toNat=A1 at s1 z1 HP
  generalize T.extract (P.toNat+3) T.size=A2 at s2 z2 HP
  have q1:¬ 9223372036854775807<A1.size+V.size:=by omega
  have q2:¬ 9223372036854775807<A1.size+V.size+A2.size:=by omega
  have p0:0<=P:=a4
  have p1:P<=(T.size:Int):=by omega
  have p2:0<=P+3:=by omega
  have p3:P+3<=(T.size:Int):=by omega
  have p4:IntKind.i64.wrap (P+3)=P+3:=by rw [IntKind.wrap_i64];omega
  have p5:wrap64 (P+3)=P+3:=by unfold wrap64;omega
  clear a4 a5
  go_wp2_with fail
  go_region_with (first
   | (go_at_call 35;refine (cx _).mono ?_;rintro e w4 ⟨rfl,rfl⟩;have B4:Hid (Below _ _ w3.drew):=B3.out.drew)
   | fail)
  all_goals
   go_wp2
   go_ret
   exact ⟨congrArg (fun s=>Ending.returned (.string s)) HP.out.symm,unbox B4.out⟩
 ·obtain ⟨a1,a2,a3,a4,a5⟩:=HA.out (by decide)
  clear a1 a2 a3 HA
  have a5:P.toNat+2<=T.size:=a5
  have HP:Hid ((if (⟨#[101,56]⟩ : ByteArray).size=0 then T else put T ⟨#[101,56]⟩ (newV ⟨#[101,56]⟩ imm) P)=T.extract 0 P.toNat ++ Deci.decE (sgn imm) ++ T.extract (P.toNat+2) T.size):=rfl
  have cg:=fun w=>Signed.specSigned_any imm w
  have cx:=fun w=>Deci.dec_any (sgn imm) w (sgn_bd imm).1 (sgn_bd imm).2
  have zv:=(dec_ne_at (sgn_bd imm).1 (sgn_bd imm).2).2
  generalize Deci.decE (sgn imm)=V at cx zv HP
  generalize sgn imm=g at cx cg
  have s1:∀ w,(Instr.slice 9 (.string T) none (some (.int .i64 P)) none).run prog w=.ok (.string (T.extract 0 P.toNat)) w:=fun w=>run_slice_string_h w (t:=9) (s:=T) underlying9 .i64 P a4 (by omega)
  have s2:∀ w,(Instr.slice 9 (.string T) (some (.int .i64 (P+2))) none none).run prog w=.ok (.string (T.extract (P.toNat+2) T.size)) w:=fun w=>by
   have:=run_slice_string_l w (t:=9) (s:=T) underlying9 .i64 (P+2) (by omega) (by omega)
   rwa [show (P+2).toNat=P.toNat+2 by omega] at this
  have z1:(T.extract 0 P.toNat).size<=40:=by simp;omega
  have z2:(T.extract (P.toNat+2) T.size).size<=40:=by simp;omega
  generalize T.extract 0 P.toNat=A1 at s1 z1 HP
  generalize T.extract (P.toNat+2) T.size=A2 at s2 z2 HP
  have q1:¬ 9223372036854775807<A1.size+V.size:=by omega
  have q2:¬ 9223372036854775807<A1.size+V.size+A2.size:=by omega
  have p0:0<=P:=a4
  have p1:P<=(T.size:Int):=by omega
  have p2:0<=P+2:=by omega
  have p3:P+2<=(T.size:Int):=by omega
  have p4:IntKind.i64.wrap (P+2)=P+2:=by rw [IntKind.wrap_i64];omega
  have p5:wrap64 (P+2)=P+2:=by unfold wrap64;omega
  clear a4 a5
  go_wp2_with fail
  go_region_with (first
   | (go_at_call 37;refine (cg _).mono ?_;rintro e w' ⟨rfl,hw⟩;have hw:=hw.symm;subst hw)
   | (go_at_call 36;refine (cx _).mono ?_;rintro e w4 ⟨rfl,b4⟩;have B4:Hid (Below _ _ w4):=(by first|exact after B3.out.drew b4|exact after B3.out b4);clear b4)
   | fail)
  all_goals
   go_wp2
   go_ret
   exact ⟨congrArg (fun s=>Ending.returned (.string s)) HP.out.symm,unbox B4.out⟩
 ·clear HA
  go_wp2
  go_ret
  exact ⟨rfl,unbox B3.out⟩
end Texj
namespace Fits
open Signed (inB l1In_any)
open HoleX (n8 n16 e8 holeT holeP)
open HolI LenX InsX Texi
def minus:ByteArray:=⟨#[45]⟩
def hv (s:ByteArray):Int:=if Lib.hasPrefix s.data.toList minus.data.toList=true then 256-(Nums.num ⟨(Lib.trimPrefix s.data.toList minus.data.toList).toArray⟩).getD 0 else (Nums.num ⟨(Lib.trimPrefix s.data.toList minus.data.toList).toArray⟩).getD 0
theorem word_bd {b:Int} (hb:0<=b):∀ (l:List UInt8) (n m:Int),0<=n->n<=65535->Nums.word b n l=some m->0<=m/\m<=65535
 | [],n,m,h0,h1,h=>by simp only [Nums.word,Option.some.injEq] at h;omega
 | c :: r,n,m,h0,h1,h=>by
  simp only [Nums.word] at h
  split at h
  ·cases h
  split at h
  ·cases h
  ·rename_i h2 h3
   have:=(Nums.digS_bd (c.toNat:Int)).1
   have:=Int.mul_nonneg h0 hb
   exact word_bd hb r _ m (by omega) (by omega) h
theorem base_bd {b:Int} (hb:0<=b) {s:ByteArray} {m:Int} (h:Nums.base s b=some m):0<=m/\m<=65535:=by
 unfold Nums.base at h
 split at h
 ·cases h
 ·exact word_bd hb _ 0 m (by omega) (by omega) h
theorem num_some {s:ByteArray} {m:Int} (h:Nums.num s=some m):0<=m/\m<=65535:=by
 unfold Nums.num at h
 split at h
 ·cases h
 split at h
 ·exact base_bd (by omega) h
 split at h
 ·exact base_bd (by omega) h
 ·exact base_bd (by omega) h
theorem num_bd (s:ByteArray):0<=(Nums.num s).getD 0/\(Nums.num s).getD 0<=65535:=by
 cases h:Nums.num s with
 | none=>exact ⟨by decide,by decide⟩
 | some m=>exact num_some h
def im (s:ByteArray):Int :=
 if 1<s.size/\(s.data.getD 0 0).toNat=45 then (if (Nums.num (s.extract 1 s.size)).isSome=true/\1<=(Nums.num (s.extract 1 s.size)).getD 0/\(Nums.num (s.extract 1 s.size)).getD 0<=128 then 256-(Nums.num (s.extract 1 s.size)).getD 0 else -1)
 else if (Nums.num s).isSome=true then (Nums.num s).getD 0 else -1
def inner (s A Z:ByteArray):ByteArray:=⟨(Lib.trimSuffix (Lib.trimPrefix s.data.toList A.data.toList) Z.data.toList).toArray⟩
def stands (s A Z:ByteArray):Bool:=Lib.hasPrefix s.data.toList A.data.toList && Lib.hasSuffix (Lib.trimPrefix s.data.toList A.data.toList) Z.data.toList
theorem inHole_any (s T h A Z:ByteArray) (w:World) (hm:MaxL w) (hs:s.size<=1048576) (ht:T.size<=40) (hA:(⟨(Lib.cut T.data.toList h.data.toList).1.toArray⟩ : ByteArray)=A) (hZ:(⟨(Lib.cut T.data.toList h.data.toList).2.1.toArray⟩ : ByteArray)=Z) :
  Calls prog 42 #[.string s,.string T,.string h] w fun e w'=>e=.returned (.tuple #[.string (inner s A Z),.bool (stands s A Z)])/\Below w.heap.size w w':=by
 obtain ⟨mm,hmm⟩:=hm
 have cc:=Tryz.strings_Cut T h mm w (by omega) hmm
 rw [hA,hZ] at cc
 generalize (Lib.cut T.data.toList h.data.toList).2.2=f at cc
 have cp:=fun w=>Tryz.strings_CutPrefix s A w
 have hz:(Lib.trimPrefix s.data.toList A.data.toList).length<=s.size:=by
  have:=Lib.trimPrefix_le s.data.toList A.data.toList
  rwa [Array.length_toList] at this
 have cf:=fun w=>Tryz.strings_CutSuffix ⟨(Lib.trimPrefix s.data.toList A.data.toList).toArray⟩ Z w (by show (Lib.trimPrefix s.data.toList A.data.toList).toArray.size<=_;simp;omega)
 have HR:Hid ((inner s A Z=⟨(Lib.trimSuffix (⟨(Lib.trimPrefix s.data.toList A.data.toList).toArray⟩ : ByteArray).data.toList Z.data.toList).toArray⟩)/\(stands s A Z=(Lib.hasPrefix s.data.toList A.data.toList && Lib.hasSuffix (⟨(Lib.trimPrefix s.data.toList A.data.toList).toArray⟩ : ByteArray).data.toList Z.data.toList))):=⟨rfl,rfl⟩
 generalize (⟨(Lib.trimSuffix (⟨(Lib.trimPrefix s.data.toList A.data.toList).toArray⟩ : ByteArray).data.toList Z.data.toList).toArray⟩ : ByteArray)=I at cf HR
 generalize Lib.hasSuffix (⟨(Lib.trimPrefix s.data.toList A.data.toList).toArray⟩ : ByteArray).data.toList Z.data.toList=g at cf HR
 generalize (⟨(Lib.trimPrefix s.data.toList A.data.toList).toArray⟩ : ByteArray)=M at cp cf
 generalize Lib.hasPrefix s.data.toList A.data.toList=b at cp HR
 clear hA hZ hz hmm
 cases b
 all_goals
  go_enter func42,ntmps42
  go_wp2_with fail
  refine cc.mono ?_
  rintro e w1 ⟨rfl,k,hw1⟩
  subst hw1
  go_wp2_with first|(go_at_call 74;refine (cp _).mono ?_;rintro e w' ⟨rfl,hw⟩;subst hw)|(go_at_call 75;refine (cf _).mono ?_;rintro e w' ⟨rfl,hw⟩;subst hw)
  go_ret2
  exact ⟨by rw [HR.out.1,HR.out.2];rfl,Hole.below_drewN zRf k⟩
end Fits
end Go.Proofs.YtbofcepdckpkkaaGreatDoor
