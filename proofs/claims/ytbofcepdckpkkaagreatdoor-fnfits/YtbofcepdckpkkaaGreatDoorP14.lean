import Derived.Test.YtbofcepdckpkkaaGreatDoorP13
import Derived.Deep.Cut
set_option linter.all false
set_option maxRecDepth 20000
set_option maxHeartbeats 8000000
open Go.ChangeShapes Go.WideShapes Go.ChangeAt Go.RowKit
open Go.Proofs.Tryz
namespace Go.Proofs.YtbofcepdckpkkaaGreatDoor
namespace Ximd
open Go.Deep
open Prsp Xima Ximb Ximc
def pre (t p:ByteArray):Bool:=decide (p.size<=t.size) && ((t.extract 0 p.size).toList == p.toList)
theorem has_in (t p:ByteArray) (w:World) (ht:t.size<=100000) (hp:p.size<=100) :
  Calls prog 115 #[.string t,.string p] w fun e w'=>e=.returned (.bool (pre t p))/\w'=w:=by
 by_cases h:p.size<=t.size
 ·have d0:decide ((p.size:Int)<=(t.size:Int))=true:=by simp;omega
  have s1:∀ w,(Instr.slice 9 (.string t) none (some (.int .i64 (p.size:Int))) none).run prog w=.ok (.string (t.extract 0 p.size)) w:=fun w=>by
   rw [run_slice_string_to_if (P:=prog) (w:=w) 9 t .i64 (p.size:Int) underlying9,if_pos ⟨by omega,by omega⟩,show ((p.size:Int)).toNat=p.size by omega]
  cases h2:((t.extract 0 p.size).toList == p.toList) with
  | true =>
   have e:Hid (pre t p=true):=(show pre t p=true from by unfold pre;rw [h2,decide_eq_true h];rfl)
   go_enter func115,ntmps115
   go_wp2
   go_ret
   exact ⟨Names.ret_bool e.out.symm,rfl⟩
  | false =>
   have e:Hid (pre t p=false):=(show pre t p=false from by unfold pre;rw [h2,decide_eq_true h];rfl)
   go_enter func115,ntmps115
   go_wp2
   go_ret
   exact ⟨Names.ret_bool e.out.symm,rfl⟩
 ·have d0:decide ((p.size:Int)<=(t.size:Int))=false:=by simp;omega
  have e:Hid (pre t p=false):=(show pre t p=false from by unfold pre;rw [decide_eq_false h];rfl)
  go_enter func115,ntmps115
  go_wp2
  go_ret
  exact ⟨Names.ret_bool e.out.symm,rfl⟩
theorem has_any (t p:ByteArray) (w:World) (ht:t.size<=100000) (hp:p.size<=100) :
  Calls prog 120 #[.string t,.string p] w fun e w'=>e=.returned (.bool (pre t p))/\w'=w:=by
 have h:=has_in t p w ht hp
 go_enter func120,ntmps120
 go_wp2_with fail
 refine h.mono ?_
 rintro e w1 ⟨rfl,hw⟩
 have hw:=hw.symm
 subst hw
 go_wp2
 go_ret
 exact ⟨rfl,rfl⟩
theorem pre_two (t:ByteArray) (c:UInt8):pre t ⟨#[c,c]⟩=decide (t.data.toList.take 2=[c,c]):=by
 have e1:(t.extract 0 2).toList=t.data.toList.take 2:=by rw [ByteArray.toList_eq,ByteArray.data_extract,Array.toList_extract,List.extract_eq_take_drop];simp
 have e2:(⟨#[c,c]⟩ : ByteArray).toList=[c,c]:=by rw [ByteArray.toList_eq]
 unfold pre
 rw [show (⟨#[c,c]⟩ : ByteArray).size=2 from rfl,e1,e2]
 by_cases h:t.data.toList.take 2=[c,c]
 ·have hl:2<=t.size:=by have:=congrArg List.length h;simp at this;have e3:t.data.toList.length=t.size:=rfl;omega
  rw [decide_eq_true hl,decide_eq_true h,h]
  simp
 ·rw [decide_eq_false h]
  have:(t.data.toList.take 2 == [c,c])=false:=by simpa using h
  rw [this,Bool.and_false]
def opSz (k:Int):Int:=if k=0 then 0 else (opL k:Int)
def opV (k:Int):Value:=.agg #[.int .i64 k,.int .i64 (tgt k),.int .i64 (opSz k)]
theorem opAt_any (t:ByteArray) (w:World) (ht:t.size<=1000) :
  Calls prog 96 #[.string t] w fun e w'=>e=.returned (opV (opK t.data.toList))/\Below w.heap.size w w':=by
 have c1:=fun W=>has_any t ⟨#[60,60]⟩ W (by omega) (by decide)
 have c2:=fun W=>has_any t ⟨#[62,62]⟩ W (by omega) (by decide)
 rw [pre_two t 60] at c1
 rw [pre_two t 62] at c2
 have FIN:Hid (∀ (k:Int) (W:World),opK t.data.toList=k->Below w.heap.size w W->Ending.returned (opV k)=.returned (opV (opK t.data.toList))/\Below w.heap.size w W):=fun k W h1 h2=>⟨by rw [h1],h2⟩
 by_cases q1:t.data.toList.take 2=[60,60]
 ·have K:Hid (opK t.data.toList=16):=(show opK _=_ from by unfold opK;rw [if_pos q1])
  rw [decide_eq_true q1] at c1
  clear q1 c2
  go_enter func96,ntmps96
  go_wp2_with (go_at_call 120;refine (c1 _).mono ?_;rintro e w1 ⟨rfl,hw⟩;have hw:=hw.symm;subst hw)
  refine bodyPost_ret (v:=opV (16)) (by simp [results,results96,go_sem,opV,tgt,opSz,opL]) rfl (FIN.out (16) _ K.out ?_)
  exact zAl _ _
 rw [decide_eq_false q1] at c1
 by_cases q2:t.data.toList.take 2=[62,62]
 ·have K:Hid (opK t.data.toList=17):=(show opK _=_ from by unfold opK;rw [if_neg q1,if_pos q2])
  rw [decide_eq_true q2] at c2
  clear q1 q2
  go_enter func96,ntmps96
  go_wp2_with fail
  refine (c1 _).mono ?_
  rintro e w1 ⟨rfl,hw⟩
  have hw:=hw.symm
  subst hw
  go_wp2_with fail
  refine (c2 _).mono ?_
  rintro e w1 ⟨rfl,hw⟩
  have hw:=hw.symm
  subst hw
  go_wp2
  refine bodyPost_ret (v:=opV (17)) (by simp [results,results96,go_sem,opV,tgt,opSz,opL]) rfl (FIN.out (17) _ K.out ?_)
  exact zAl _ _
 rw [decide_eq_false q2] at c2
 by_cases hz:t.size=0
 ·have em:t.toList.isEmpty=true:=Nums.empty_yes hz
  have el:t.data.toList=[]:=by have:=Nums.drop_end t 0 (by omega);simpa using this
  have K:Hid (opK t.data.toList=0):=(show opK _=_ from by rw [el];decide)
  clear q1 q2 hz el
  go_enter func96,ntmps96
  go_wp2_with fail
  refine (c1 _).mono ?_
  rintro e w1 ⟨rfl,hw⟩
  have hw:=hw.symm
  subst hw
  go_wp2_with fail
  refine (c2 _).mono ?_
  rintro e w1 ⟨rfl,hw⟩
  have hw:=hw.symm
  subst hw
  go_wp2
  refine bodyPost_ret (v:=opV (0)) (by simp [results,results96,go_sem,opV,tgt,opSz,opL]) rfl (FIN.out (0) _ K.out ?_)
  exact zAl _ _
 have em:t.toList.isEmpty=false:=Nums.empty_no hz
 have hz1:0<t.size:=by omega
 obtain ⟨c,hc⟩ : ∃ c:Int,c=(t[0].toNat:Int):=⟨_,rfl⟩
 have hh:hd t.data.toList=c:=by have:=hd_in t 0 hz1;rw [List.drop_zero] at this;rw [this,hc]
 have ix:∀ w,(Instr.index 9 (.string t) (.int .i64 0)).run prog w=.ok (.int .u8 c) w:=fun w=>by
  rw [run_index_string (P:=prog) w 9 t .i64 0 underlying9,dif_pos ⟨by omega,by omega⟩,hc];rfl
 clear hc
 by_cases e42:c=42
 ·have K:Hid (opK t.data.toList=10):=(show opK _=_ from by unfold opK;rw [if_neg q1,if_neg q2,hh,if_pos e42])
  subst e42
  clear q1 q2 hh
  go_enter func96,ntmps96
  go_wp2_with fail
  refine (c1 _).mono ?_
  rintro e w1 ⟨rfl,hw⟩
  have hw:=hw.symm
  subst hw
  go_wp2_with fail
  refine (c2 _).mono ?_
  rintro e w1 ⟨rfl,hw⟩
  have hw:=hw.symm
  subst hw
  go_wp2
  refine bodyPost_ret (v:=opV (10)) (by simp [results,results96,go_sem,opV,tgt,opSz,opL]) rfl (FIN.out (10) _ K.out ?_)
  exact zAl _ _
 by_cases e47:c=47
 ·have K:Hid (opK t.data.toList=11):=(show opK _=_ from by unfold opK;rw [if_neg q1,if_neg q2,hh,if_neg e42,if_pos e47])
  subst e47
  clear q1 q2 hh
  go_enter func96,ntmps96
  go_wp2_with fail
  refine (c1 _).mono ?_
  rintro e w1 ⟨rfl,hw⟩
  have hw:=hw.symm
  subst hw
  go_wp2_with fail
  refine (c2 _).mono ?_
  rintro e w1 ⟨rfl,hw⟩
  have hw:=hw.symm
  subst hw
  go_wp2
  refine bodyPost_ret (v:=opV (11)) (by simp [results,results96,go_sem,opV,tgt,opSz,opL]) rfl (FIN.out (11) _ K.out ?_)
  exact zAl _ _
 by_cases e37:c=37
 ·have K:Hid (opK t.data.toList=12):=(show opK _=_ from by unfold opK;rw [if_neg q1,if_neg q2,hh,if_neg e42,if_neg e47,if_pos e37])
  subst e37
  clear q1 q2 hh
  go_enter func96,ntmps96
  go_wp2_with fail
  refine (c1 _).mono ?_
  rintro e w1 ⟨rfl,hw⟩
  have hw:=hw.symm
  subst hw
  go_wp2_with fail
  refine (c2 _).mono ?_
  rintro e w1 ⟨rfl,hw⟩
  have hw:=hw.symm
  subst hw
  go_wp2
  refine bodyPost_ret (v:=opV (12)) (by simp [results,results96,go_sem,opV,tgt,opSz,opL]) rfl (FIN.out (12) _ K.out ?_)
  exact zAl _ _
 by_cases e43:c=43
 ·have K:Hid (opK t.data.toList=8):=(show opK _=_ from by unfold opK;rw [if_neg q1,if_neg q2,hh,if_neg e42,if_neg e47,if_neg e37,if_pos e43])
  subst e43
  clear q1 q2 hh
  go_enter func96,ntmps96
  go_wp2_with fail
  refine (c1 _).mono ?_
  rintro e w1 ⟨rfl,hw⟩
  have hw:=hw.symm
  subst hw
  go_wp2_with fail
  refine (c2 _).mono ?_
  rintro e w1 ⟨rfl,hw⟩
  have hw:=hw.symm
  subst hw
  go_wp2
  refine bodyPost_ret (v:=opV (8)) (by simp [results,results96,go_sem,opV,tgt,opSz,opL]) rfl (FIN.out (8) _ K.out ?_)
  exact zAl _ _
 by_cases e45:c=45
 ·have K:Hid (opK t.data.toList=9):=(show opK _=_ from by unfold opK;rw [if_neg q1,if_neg q2,hh,if_neg e42,if_neg e47,if_neg e37,if_neg e43,if_pos e45])
  subst e45
  clear q1 q2 hh
  go_enter func96,ntmps96
  go_wp2_with fail
  refine (c1 _).mono ?_
  rintro e w1 ⟨rfl,hw⟩
  have hw:=hw.symm
  subst hw
  go_wp2_with fail
  refine (c2 _).mono ?_
  rintro e w1 ⟨rfl,hw⟩
  have hw:=hw.symm
  subst hw
  go_wp2
  refine bodyPost_ret (v:=opV (9)) (by simp [results,results96,go_sem,opV,tgt,opSz,opL]) rfl (FIN.out (9) _ K.out ?_)
  exact zAl _ _
 by_cases e38:c=38
 ·have K:Hid (opK t.data.toList=13):=(show opK _=_ from by unfold opK;rw [if_neg q1,if_neg q2,hh,if_neg e42,if_neg e47,if_neg e37,if_neg e43,if_neg e45,if_pos e38])
  subst e38
  clear q1 q2 hh
  go_enter func96,ntmps96
  go_wp2_with fail
  refine (c1 _).mono ?_
  rintro e w1 ⟨rfl,hw⟩
  have hw:=hw.symm
  subst hw
  go_wp2_with fail
  refine (c2 _).mono ?_
  rintro e w1 ⟨rfl,hw⟩
  have hw:=hw.symm
  subst hw
  go_wp2
  refine bodyPost_ret (v:=opV (13)) (by simp [results,results96,go_sem,opV,tgt,opSz,opL]) rfl (FIN.out (13) _ K.out ?_)
  exact zAl _ _
 by_cases e94:c=94
 ·have K:Hid (opK t.data.toList=14):=(show opK _=_ from by unfold opK;rw [if_neg q1,if_neg q2,hh,if_neg e42,if_neg e47,if_neg e37,if_neg e43,if_neg e45,if_neg e38,if_pos e94])
  subst e94
  clear q1 q2 hh
  go_enter func96,ntmps96
  go_wp2_with fail
  refine (c1 _).mono ?_
  rintro e w1 ⟨rfl,hw⟩
  have hw:=hw.symm
  subst hw
  go_wp2_with fail
  refine (c2 _).mono ?_
  rintro e w1 ⟨rfl,hw⟩
  have hw:=hw.symm
  subst hw
  go_wp2
  refine bodyPost_ret (v:=opV (14)) (by simp [results,results96,go_sem,opV,tgt,opSz,opL]) rfl (FIN.out (14) _ K.out ?_)
  exact zAl _ _
 by_cases e124:c=124
 ·have K:Hid (opK t.data.toList=15):=(show opK _=_ from by unfold opK;rw [if_neg q1,if_neg q2,hh,if_neg e42,if_neg e47,if_neg e37,if_neg e43,if_neg e45,if_neg e38,if_neg e94,if_pos e124])
  subst e124
  clear q1 q2 hh
  go_enter func96,ntmps96
  go_wp2_with fail
  refine (c1 _).mono ?_
  rintro e w1 ⟨rfl,hw⟩
  have hw:=hw.symm
  subst hw
  go_wp2_with fail
  refine (c2 _).mono ?_
  rintro e w1 ⟨rfl,hw⟩
  have hw:=hw.symm
  subst hw
  go_wp2
  refine bodyPost_ret (v:=opV (15)) (by simp [results,results96,go_sem,opV,tgt,opSz,opL]) rfl (FIN.out (15) _ K.out ?_)
  exact zAl _ _
 ·have K:Hid (opK t.data.toList=0):=(show opK _=_ from by unfold opK;rw [if_neg q1,if_neg q2,hh,if_neg e42,if_neg e47,if_neg e37,if_neg e43,if_neg e45,if_neg e38,if_neg e94,if_neg e124])
  have b42:(c == 42)=false:=by simpa using e42
  have b47:(c == 47)=false:=by simpa using e47
  have b37:(c == 37)=false:=by simpa using e37
  have b43:(c == 43)=false:=by simpa using e43
  have b45:(c == 45)=false:=by simpa using e45
  have b38:(c == 38)=false:=by simpa using e38
  have b94:(c == 94)=false:=by simpa using e94
  have b124:(c == 124)=false:=by simpa using e124
  clear q1 q2 hh e42 e47 e37 e43 e45 e38 e94 e124
  go_enter func96,ntmps96
  go_wp2_with fail
  refine (c1 _).mono ?_
  rintro e w1 ⟨rfl,hw⟩
  have hw:=hw.symm
  subst hw
  go_wp2_with fail
  refine (c2 _).mono ?_
  rintro e w1 ⟨rfl,hw⟩
  have hw:=hw.symm
  subst hw
  go_wp2
  refine bodyPost_ret (v:=opV (0)) (by simp [results,results96,go_sem,opV,tgt,opSz,opL]) rfl (FIN.out (0) _ K.out ?_)
  exact zAl _ _
theorem RI.to {pb k k':Nat} {s:ByteArray} {R:Option St} {w w1 w':World} {e:Ending} (h:RI pb s k' R w1 e w') (hk:k<=k') (hb:BK pb w w1):RI pb s k R w e w':=by
 cases R with
 | none=>exact ⟨h.1,hb.bel.trans h.2⟩
 | some st =>
  obtain ⟨h1,⟨j,hj,h2,h3⟩,h4⟩:=h
  exact ⟨h1,⟨j,by omega,h2,h3⟩,hb.trans h4⟩
theorem close_at {s:ByteArray} {j:Nat} {st:St} (h:st.1=s.data.toList.drop j):(if hdK s j=41 then some (s.data.toList.drop (j+1),st.2) else none)=close st:=by
 unfold close
 rw [hdK_def,h,tl]
theorem RI.split {pb k:Nat} {s:ByteArray} {R:Option St} {w w':World} {e:Ending} (h:RI pb s k R w e w') :
  (R=none/\(∃ u pv,e=.panicked [{ v:=.iface u pv,recovered:=false }])/\Below pb w w') \/ ∃ st j,R=some st/\e=.returned (.tuple #[])/\k<=j/\st.1=s.data.toList.drop j/\PI w' pb s j st.2/\BK pb w w':=by
 cases R with
 | none=>exact .inl ⟨rfl,h.1,h.2⟩
 | some st =>
  obtain ⟨h1,⟨j,hj,h2,h3⟩,h4⟩:=h
  exact .inr ⟨st,j,rfl,h1,hj,h2,h3,h4⟩
theorem RI.none_of {pb k:Nat} {s:ByteArray} {R:Option St} {w w':World} {u:TypeId} {pv:Value} (hR:R=none) (h:Below pb w w'):RI pb s k R w (.panicked [{ v:=.iface u pv,recovered:=false }]) w':=by rw [hR];exact RI.pan h
theorem bank_any (pb k:Nat) (s:ByteArray) (L:List Stepx.Node) (w:World) (h:PI w pb s k L) (h40:hdK s k=40) :
  Calls prog 135 #[.pointer (some ⟨pb,0,none⟩)] w (RI pb s k (bankF (s.data.toList.drop (k+1),L)) w):=by
 have H:Hid (PI w pb s k L):=h
 have hs:=h.sz
 have hk:=hdK_lt h40 (by decide)
 have sk:=fun W=>skip_any pb k s L 40 (by decide) W
 rw [if_pos h40] at sk
 obtain ⟨R,hR⟩ : ∃ R,R=bankF (s.data.toList.drop (k+1),L):=⟨_,rfl⟩
 have HR:Hid (R=bankF (s.data.toList.drop (k+1),L)):=hR
 rw [<- hR]
 clear h hR h40
 go_enter func135,ntmps135
 go_wp2_with fail
 refine (sk _ H.out).mono ?_
 rintro e w1 ⟨rfl,⟨k1,hk1,hd1,p1⟩,b1⟩
 have e1:k+1=k1:=drop_inj hk p1.sz.1 hd1
 subst e1
 have P1:Hid (PI w1 pb s (k+1) L/\BK pb w w1):=⟨p1,b1⟩
 have c1:=p1.c1
 clear p1 b1 hd1 sk
 go_wp2_with fail
 refine (run_any pb (k+1) s L _ P1.out.1).mono ?_
 rintro e w2 ⟨rfl,⟨j,hj,hj2,haf,p2⟩,b2⟩
 have P2:Hid (PI w2 pb s j L/\BK pb w w2):=⟨p2,P1.out.2.trans b2⟩
 have HW:Hid (bs (wd (s.data.toList.drop (k+1)))=s.extract (k+1) j):=bs_wd hj hj2 haf
 have HA:Hid (af (s.data.toList.drop (k+1))=s.data.toList.drop j):=haf
 have c0':=p2.c0
 have c1':=p2.c1
 have z1:(s.extract (k+1) j).size<=1000:=by rw [ByteArray.size_extract];omega
 have s1:∀ w,(Instr.slice 9 (.string s) (some (.int .i64 ((k+1:Nat):Int))) (some (.int .i64 (j:Int))) none).run prog w=.ok (.string (s.extract (k+1) j)) w:=fun w=>by
  have:=run_slice_string (P:=prog) w 9 s .i64 .i64 ((k+1:Nat):Int) (j:Int) underlying9 (by omega) (by omega) (by omega)
  rwa [show ((j:Int)).toNat=j by omega,show (((k+1:Nat):Int)).toNat=k+1 by omega] at this
 have e0:((k+1:Nat):Int)=(k:Int)+1:=by omega
 rw [e0] at s1
 clear p2 b2 haf c1 P1 e0
 generalize s.extract (k+1) j=t at *
 have r0:=fun d os=>cell_regrown c0' d os
 have r1:=fun d os=>cell_regrown c1' d os
 have nm:=fun W (hW:PI W pb s j L)=>name_any pb j s L W hW 3 t z1
 go_upto_region 3 with fail
 refine Qmov.tail_move 0 11 (by kernel_rfl) (by kernel_rfl) (fun _ _ _ _ _ h=>h) ?_
 simp only [List.take_succ_cons,List.take_zero,List.drop_succ_cons,List.drop_zero]
 repeat (go_big_quiet_step (fail))
 refine wpQuiet_nil ?_
 intro _ hw'
 obtain ⟨⟨dq,osq⟩,hw''⟩:=hw'
 subst hw''
 have hbr:=below_regrown w2 dq osq
 generalize Go.Sort.grow (redrawn w2 dq) osq=W2 at hbr |-
 have P2':Hid (PI W2 pb s j L/\BK pb w W2):=⟨P2.out.1.kept hbr,P2.out.2.trans (BK.of P2.out.1.lt hbr)⟩
 clear hbr r0 r1 c0' c1' P2 s1
 go_wp2_with fail
 refine (nm _ P2'.out.1).mono ?_
 intro e w3 h3
 rcases RI.split h3 with ⟨hn,⟨u,pv,rfl⟩,b3⟩|⟨st,j3,hn,rfl,hj3,hst,p3,b3⟩
 ·refine ⟨rfl,RI.none_of ?_ (P2'.out.2.bel.trans b3)⟩
  rw [HR.out]
  unfold bankF
  rw [HW.out,HA.out]
  split at hn
  ·rename_i hN;rw [if_pos hN,hn];rfl
  ·rename_i hN;rw [if_neg hN]
 ·have P3:Hid (PI w3 pb s j3 st.2/\BK pb w w3):=⟨p3,P2'.out.2.trans b3⟩
  have R3:Hid (R=close st):=(show R=close st from by
   rw [HR.out]
   unfold bankF
   rw [HW.out,HA.out]
   split at hn
   ·rename_i hN;rw [if_pos hN,hn];rfl
   ·cases hn)
  have sk:=fun W=>skip_any pb j3 s st.2 41 (by decide) W
  rw [close_at hst,<- R3.out] at sk
  clear p3 b3 h3 hn hst nm
  go_wp2_with fail
  refine (sk _ P3.out.1).mono ?_
  intro e w4 h4
  rcases RI.split h4 with ⟨hn,⟨u,pv,rfl⟩,b4⟩|⟨st4,j4,hn,rfl,hj4,hst4,p4,b4⟩
  ·exact ⟨rfl,RI.none_of hn (P3.out.2.bel.trans b4)⟩
  ·have F:Hid (RI pb s k R w (.returned (.tuple #[])) w4):=RI.to h4 (by omega) P3.out.2
   clear h4 p4 b4 hst4 hn
   go_wp2_with fail
   first|go_end0|refine bodyPost_ret (results_none rfl _ _ _) rfl ?_
   exact F.out
theorem tab_pb {w w':World} {pb:Nat} (hg:8<pb) (h:Nums.Tab w) (hb:Below pb w w'):Nums.Tab w':=fun i hi=>(hb.cell (p:=⟨8,i,none⟩) hg).trans (h i hi)
theorem bracket_any (pb k n:Nat) (deep:Int) (s:ByteArray) (L:List Stepx.Node) (w:World) (h:PI w pb s k L) (h40:hdK s k=40) (hd0:0<=deep) (hd1:deep<=100) (hT:Nums.Tab w) (hg:8<pb)
  (hl:∀ k L w,PI w pb s k L->Nums.Tab w->Calls prog 77 #[.pointer (some ⟨pb,0,none⟩),.int .i64 1,.int .i64 (deep+1)] w (RI pb s k (lev n 1 (s.data.toList.drop k,L)) w)) :
  Calls prog 118 #[.pointer (some ⟨pb,0,none⟩),.int .i64 deep] w (RI pb s k (brF (lev n 1) (s.data.toList.drop k,L)) w):=by
 have HT:Hid (Nums.Tab w):=hT
 clear hT
 have H:Hid (PI w pb s k L):=h
 have hs:=h.sz
 have hk:=hdK_lt h40 (by decide)
 have sk:=fun W=>skip_any pb k s L 40 (by decide) W
 rw [if_pos h40] at sk
 obtain ⟨R,hR⟩ : ∃ R,R=brF (lev n 1) (s.data.toList.drop k,L):=⟨_,rfl⟩
 have HR:Hid (R=(lev n 1 (s.data.toList.drop (k+1),L)).bind close):=(show R=_ from by rw [hR];unfold brF;rw [tl])
 rw [<- hR]
 have i1:IntKind.i64.wrap (deep+1)=deep+1:=by rw [IntKind.wrap_i64];omega
 clear h hR h40
 go_enter func118,ntmps118
 go_wp2_with fail
 refine (sk _ H.out).mono ?_
 rintro e w1 ⟨rfl,⟨k1,hk1,hd1',p1⟩,b1⟩
 have e1:k+1=k1:=drop_inj hk p1.sz.1 hd1'
 subst e1
 have P1:Hid (PI w1 pb s (k+1) L/\BK pb w w1):=⟨p1,b1⟩
 clear p1 b1 hd1' sk
 go_wp2_with fail
 refine (hl (k+1) L _ P1.out.1 (tab_pb hg HT.out P1.out.2.bel)).mono ?_
 intro e w2 h2
 rcases RI.split h2 with ⟨hn,⟨u,pv,rfl⟩,b2⟩|⟨st,j2,hn,rfl,hj2,hst,p2,b2⟩
 ·exact ⟨rfl,RI.none_of (by rw [HR.out,hn];rfl) (P1.out.2.bel.trans b2)⟩
 ·have P2:Hid (PI w2 pb s j2 st.2/\BK pb w w2):=⟨p2,P1.out.2.trans b2⟩
  have R2:Hid (R=close st):=(show R=close st from by rw [HR.out,hn];rfl)
  have sk:=fun W=>skip_any pb j2 s st.2 41 (by decide) W
  rw [close_at hst,<- R2.out] at sk
  clear p2 b2 h2 hn hst
  go_wp2_with fail
  refine (sk _ P2.out.1).mono ?_
  intro e w4 h4
  rcases RI.split h4 with ⟨hn,⟨u,pv,rfl⟩,b4⟩|⟨st4,j4,hn,rfl,hj4,hst4,p4,b4⟩
  ·exact ⟨rfl,RI.none_of hn (P2.out.2.bel.trans b4)⟩
  ·have F:Hid (RI pb s k R w (.returned (.tuple #[])) w4):=RI.to h4 (by omega) P2.out.2
   clear h4 p4 b4 hst4 hn
   go_wp2_with fail
   first|go_end0|refine bodyPost_ret (results_none rfl _ _ _) rfl ?_
   exact F.out
end Ximd
end Go.Proofs.YtbofcepdckpkkaaGreatDoor
