import Derived.Test.YtbofcepdckpkkaaGreatDoorP14
set_option linter.all false
set_option maxRecDepth 20000
set_option maxHeartbeats 8000000
open Go.ChangeShapes Go.WideShapes Go.ChangeAt Go.RowKit
open Go.Proofs.Tryz
namespace Go.Proofs.YtbofcepdckpkkaaGreatDoor
namespace Xime
open Go.Deep
open Prsp Xima Ximb Ximc Ximd
/- Pure: what a word tells, by where it ends. -/
section pure
variable {s:ByteArray} {k j:Nat} {l:St->Option St} {L:List Stepx.Node}
theorem unsigned {s:ByteArray} {k:Nat} (h36:¬ hdK s k=36) (h37:¬ hdK s k=37):signed (s.data.toList.drop k)=false:=decide_eq_false (fun h=>by rw [<- hdK_def] at h;omega)
theorem opens_no (haf:af (s.data.toList.drop k)=s.data.toList.drop j) (t:List UInt8) (h:¬ (hdK s j=40/\wd (s.data.toList.drop k)=t)):opens (s.data.toList.drop k) t=false :=
 decide_eq_false (fun q=>h (by rw [haf,<- hdK_def] at q;exact q))
theorem opens_yes (haf:af (s.data.toList.drop k)=s.data.toList.drop j) (t:List UInt8) (h:hdK s j=40) (h':wd (s.data.toList.drop k)=t):opens (s.data.toList.drop k) t=true :=
 decide_eq_true (by rw [haf,<- hdK_def];exact ⟨h,h'⟩)
theorem wd_list (hk:k<=j) (hj:j<=s.size) (haf:af (s.data.toList.drop k)=s.data.toList.drop j):(s.extract k j).toList=wd (s.data.toList.drop k):=by
 have:=bs_wd hk hj haf
 rw [ByteArray.toList_eq,<- this]
 rfl
theorem word_high (hu:signed (s.data.toList.drop k)=false) (haf:af (s.data.toList.drop k)=s.data.toList.drop j) (h:hdK s j=40) (hw:wd (s.data.toList.drop k)=high) :
  wordF l (s.data.toList.drop k,L)=(brF l (s.data.toList.drop j,L)).bind (put (6,0,E0)):=by
 unfold wordF
 rw [if_neg (by show ¬ signed (s.data.toList.drop k)=true;rw [hu];decide),if_pos (opens_yes haf _ h hw)]
 show (brF l (af (s.data.toList.drop k),L)).bind _=_
 rw [haf]
theorem word_low (hu:signed (s.data.toList.drop k)=false) (haf:af (s.data.toList.drop k)=s.data.toList.drop j) (h:hdK s j=40) (hw:wd (s.data.toList.drop k)=low) :
  wordF l (s.data.toList.drop k,L)=(brF l (s.data.toList.drop j,L)).bind (put (7,0,E0)):=by
 unfold wordF
 rw [if_neg (by show ¬ signed (s.data.toList.drop k)=true;rw [hu];decide),if_neg (by show ¬ opens (s.data.toList.drop k) high=true;rw [opens_no haf high (fun q=>by rw [hw] at q;exact absurd q.2 (by decide))];decide),if_pos (opens_yes haf _ h hw)]
 show (brF l (af (s.data.toList.drop k),L)).bind _=_
 rw [haf]
theorem word_bank (hu:signed (s.data.toList.drop k)=false) (haf:af (s.data.toList.drop k)=s.data.toList.drop j) (h:hdK s j=40) (hw:wd (s.data.toList.drop k)=bank) :
  wordF l (s.data.toList.drop k,L)=bankF (s.data.toList.drop (j+1),L):=by
 unfold wordF
 rw [if_neg (by show ¬ signed (s.data.toList.drop k)=true;rw [hu];decide),if_neg (by show ¬ opens (s.data.toList.drop k) high=true;rw [opens_no haf high (fun q=>by rw [hw] at q;exact absurd q.2 (by decide))];decide),
  if_neg (by show ¬ opens (s.data.toList.drop k) low=true;rw [opens_no haf low (fun q=>by rw [hw] at q;exact absurd q.2 (by decide))];decide),if_pos (opens_yes haf _ h hw)]
 show bankF ((af (s.data.toList.drop k)).tail,L)=_
 rw [haf,tl]
theorem word_leaf (hk:k<=j) (hj:j<=s.size) (hu:signed (s.data.toList.drop k)=false) (haf:af (s.data.toList.drop k)=s.data.toList.drop j)
  (h:¬ hdK s j=40 \/ (wd (s.data.toList.drop k) ≠ high/\wd (s.data.toList.drop k) ≠ low/\wd (s.data.toList.drop k) ≠ bank)) :
  wordF l (s.data.toList.drop k,L)=leafF (s.extract k j) (s.data.toList.drop j,L):=by
 have no:∀ t,(¬ hdK s j=40 \/ wd (s.data.toList.drop k) ≠ t)->¬ opens (s.data.toList.drop k) t=true:=fun t ht=>by
  rw [opens_no haf t (fun q=>by rcases ht with h|h;exact h q.1;exact h q.2)];decide
 unfold wordF
 rw [if_neg (by show ¬ signed (s.data.toList.drop k)=true;rw [hu];decide),if_neg (no high (h.imp id (fun h=>h.1))),if_neg (no low (h.imp id (fun h=>h.2.1))),if_neg (no bank (h.imp id (fun h=>h.2.2)))]
 show leafF (bs (wd (s.data.toList.drop k))) (af (s.data.toList.drop k),L)=_
 rw [bs_wd hk hj haf,haf]
theorem word_signed (hk:k+1<=j) (hj:j<=s.size) (hh:hdK s k=36 \/ hdK s k=37) (haf:af (s.data.toList.drop (k+1))=s.data.toList.drop j) :
  wordF l (s.data.toList.drop k,L)=leafF (s.extract k j) (s.data.toList.drop j,L):=by
 have hs:signed (s.data.toList.drop k)=true:=decide_eq_true (by rw [<- hdK_def];exact hh)
 unfold wordF
 rw [if_pos hs]
 show leafF (bs ((s.data.toList.drop k).take 1 ++ wd (s.data.toList.drop k).tail)) (af (s.data.toList.drop k).tail,L)=_
 rw [tl,haf,wd_take hk hj haf]
 congr 1
 rw [<- bs_extract s k j]
 congr 1
 have:(s.data.toList.drop k).take (j-k)=(s.data.toList.drop k).take (1+(j-(k+1))):=by congr 1;omega
 rw [this,List.take_add,List.drop_drop]
theorem ext_hd (hk:k<j) (hj:j<=s.size) (c:UInt8) (q:List UInt8) (hc:hdK s k ≠ (c.toNat:Int)):((s.extract k j).toList == c :: q)=false:=by
 cases h:((s.extract k j).toList == c :: q) with
 | false=>rfl
 | true =>
  have h:=eq_of_beq h
  rw [ByteArray.toList_eq,ByteArray.data_extract,Array.toList_extract,List.extract_eq_take_drop] at h
  have hk':k<s.size:=by omega
  rw [Nums.drop_at s k hk',show j-k=(j-k-1)+1 by omega,List.take_succ_cons] at h
  have:=(List.cons.inj h).1
  exact absurd (by rw [hdK_def,hd_in s k hk',this]) hc
theorem leaf_num {t:ByteArray} {m:Int} {st:St} (h:Nums.num t=some m):leafF t st=put (1,m,E0) st:=by unfold leafF;rw [h]
theorem leaf_name {t:ByteArray} {st:St} (h:Nums.num t=none):leafF t st=if Names.nameB t=true then put (2,0,t) st else none:=by unfold leafF;rw [h]
end pure
theorem wd_ne {a b:List UInt8} (h:a ≠ b):(a == b)=false:=by simpa using h
theorem word_any (pb k n:Nat) (deep:Int) (s:ByteArray) (L:List Stepx.Node) (w:World) (h:PI w pb s k L) (hd0:0<=deep) (hd1:deep<=100) (hT:Nums.Tab w) (hg:8<pb)
  (hl:∀ k L w,PI w pb s k L->Nums.Tab w->Calls prog 77 #[.pointer (some ⟨pb,0,none⟩),.int .i64 1,.int .i64 (deep+1)] w (RI pb s k (lev n 1 (s.data.toList.drop k,L)) w)) :
  Calls prog 119 #[.pointer (some ⟨pb,0,none⟩),.int .i64 deep] w (RI pb s k (wordF (lev n 1) (s.data.toList.drop k,L)) w):=by
 have H:Hid (PI w pb s k L):=h
 have hs:=h.sz
 have hlt:=h.lt
 have HT:Hid (Nums.Tab w):=hT
 have c1:=h.c1
 obtain ⟨R,hR⟩ : ∃ R,R=wordF (lev n 1) (s.data.toList.drop k,L):=⟨_,rfl⟩
 have HR:Hid (R=wordF (lev n 1) (s.data.toList.drop k,L)):=hR
 rw [<- hR]
 clear h hR hT
 by_cases h36:hdK s k=36
 ·have hk:=hdK_lt h36 (by decide)
  have HH:Hid (hdK s k=36 \/ hdK s k=37):=.inl h36
  have d36:(hdK s k == 36)=true:=by simpa using h36
  have d36':decide (hdK s k=36)=true:=by simpa using h36
  clear h36
  go_enter func119,ntmps119
  go_wp2_with fail
  refine (next_any pb k s L _ H.out).mono ?_
  rintro e w1 ⟨rfl,p,b⟩
  have P1:Hid (PI w1 pb s k L/\BK pb w w1):=⟨p,BK.of hlt b⟩
  clear p b
  clear H c1
  skip
  have cz:=P1.out.1.c1
  have fz:=P1.out.1.fz 1
  have i1:IntKind.i64.wrap ((k:Int)+1)=(k:Int)+1:=by rw [IntKind.wrap_i64];omega
  have P3:Hid (PI (w1.setCell ⟨pb,1,none⟩ (.int .i64 ((k:Int)+1))) pb s (k+1) L/\BK pb w (w1.setCell ⟨pb,1,none⟩ (.int .i64 ((k:Int)+1)))):=⟨P1.out.1.at_ (by omega) (by omega),P1.out.2.trans bk_set⟩
  go_wp2_with fail
  refine (run_any pb (k+1) s L _ P3.out.1).mono ?_
  rintro e wr ⟨rfl,⟨j,hj,hj2,haf,p⟩,b⟩
  have PR:Hid (PI wr pb s j L/\BK pb w wr):=⟨p,P3.out.2.trans b⟩
  have HA:Hid (af (s.data.toList.drop (k+1))=s.data.toList.drop j):=haf
  have c0':=p.c0
  have c1':=p.c1
  have z1:(s.extract k j).size<=1000:=by rw [ByteArray.size_extract];omega
  have s1:∀ w,(Instr.slice 9 (.string s) (some (.int .i64 (k:Int))) (some (.int .i64 (j:Int))) none).run prog w=.ok (.string (s.extract k j)) w:=fun w=>by
   have:=run_slice_string (P:=prog) w 9 s .i64 .i64 (k:Int) (j:Int) underlying9 (by omega) (by omega) (by omega)
   rwa [show ((j:Int)).toNat=j by omega,show ((k:Int)).toNat=k by omega] at this
  clear p b haf
  have RL:Hid (R=leafF (s.extract k j) (s.data.toList.drop j,L)):=HR.out.trans (word_signed hj hj2 HH.out HA.out)
  have hhd:hdK s k<=37:=by rcases HH.out with h|h <;> omega
  have q1:((s.extract k j).toList == [104,105,103,104])=false:=ext_hd (by omega) hj2 104 _ (by show hdK s k ≠ 104;omega)
  have q2:((s.extract k j).toList == [108,111,119])=false:=ext_hd (by omega) hj2 108 _ (by show hdK s k ≠ 108;omega)
  have q3:((s.extract k j).toList == [98,97,110,107])=false:=ext_hd (by omega) hj2 98 _ (by show hdK s k ≠ 98;omega)
  clear hhd HA HR
  have hmid:=trivial
  generalize s.extract k j=t at *
  have r0:=fun d os=>cell_regrown c0' d os
  have r1:=fun d os=>cell_regrown c1' d os
  clear c0' c1'
  go_upto_region 4 with fail
  refine wp_region_quiet_below (by kernel_rfl) (by kernel_rfl) ?_
  repeat (go_big_quiet_step (fail))
  refine wpQuiet_nil ?_
  intro _ hw'
  obtain ⟨⟨dq,osq⟩,hw''⟩:=hw'
  subst hw''
  have hbr:=below_regrown wr dq osq
  generalize Go.Sort.grow (redrawn wr dq) osq=W2 at hbr |-
  have P6:Hid (PI W2 pb s j L/\BK pb w W2):=⟨PR.out.1.kept hbr,PR.out.2.trans (BK.of PR.out.1.lt hbr)⟩
  clear hbr r0 r1 s1 PR
  go_wp2_with fail
  refine (next_any pb j s L _ P6.out.1).mono ?_
  rintro e w7 ⟨rfl,p,b⟩
  have P7:Hid (PI w7 pb s j L/\BK pb w w7):=⟨p,P6.out.2.trans (BK.of P6.out.1.lt b)⟩
  clear p b
  have cn:=Nums.implNum_any t w7 (tab_pb hg HT.out P7.out.2.bel) (by unfold maxLen;omega)
  clear P6
  by_cases ho:hdK s j=40
  ·have hmid:=trivial
   have o1:(hdK s j == 40)=true:=by simpa using ho
   have o2:decide (hdK s j=40)=true:=by simpa using ho
   clear ho
   cases hm:Nums.num t with
   | some m =>
    have RQ:Hid (R=put (1,m,E0) (s.data.toList.drop j,L)):=RL.out.trans (leaf_num hm)
    rw [hm] at cn
    clear hm RL
    simp only [Option.getD_some,Option.isSome_some] at cn
    go_wp2_with fail
    refine cn.mono ?_
    rintro e w8 ⟨rfl,hw⟩
    have hw:=hw.symm
    subst hw
    clear cn
    have ct:=put_any pb j s L _ P7.out.1 1 m E0
    rw [<- RQ.out] at ct
    go_wp2_with fail
    refine ct.mono ?_
    intro e wz hz
    rcases RI.split hz with ⟨hn,⟨u,pv,rfl⟩,bz⟩|⟨st,jz,hn,rfl,hjz,hst,pz,bz⟩
    ·exact ⟨rfl,RI.none_of hn (P7.out.2.bel.trans bz)⟩
    ·have F:Hid (RI pb s k R w (.returned (.tuple #[])) wz):=RI.to hz (by omega) P7.out.2
     clear hz pz bz hst hn ct
     go_wp2_with fail
     first|go_end0|refine bodyPost_ret (results_none rfl _ _ _) rfl ?_
     exact F.out
   | none =>
    have RQ:Hid (R=if Names.nameB t=true then put (2,0,t) (s.data.toList.drop j,L) else none):=RL.out.trans (leaf_name hm)
    rw [hm] at cn
    clear hm RL
    simp only [Option.getD_none,Option.isSome_none] at cn
    go_wp2_with fail
    refine cn.mono ?_
    rintro e w8 ⟨rfl,hw⟩
    have hw:=hw.symm
    subst hw
    clear cn
    have ct:=name_any pb j s L _ P7.out.1 2 t (by omega)
    rw [<- RQ.out] at ct
    go_wp2_with fail
    refine ct.mono ?_
    intro e wz hz
    rcases RI.split hz with ⟨hn,⟨u,pv,rfl⟩,bz⟩|⟨st,jz,hn,rfl,hjz,hst,pz,bz⟩
    ·exact ⟨rfl,RI.none_of hn (P7.out.2.bel.trans bz)⟩
    ·have F:Hid (RI pb s k R w (.returned (.tuple #[])) wz):=RI.to hz (by omega) P7.out.2
     clear hz pz bz hst hn ct
     go_wp2_with fail
     first|go_end0|refine bodyPost_ret (results_none rfl _ _ _) rfl ?_
     exact F.out
  ·have hmid:=trivial
   have o1:(hdK s j == 40)=false:=by simpa using ho
   have o2:decide (hdK s j=40)=false:=by simpa using ho
   clear ho
   cases hm:Nums.num t with
   | some m =>
    have RQ:Hid (R=put (1,m,E0) (s.data.toList.drop j,L)):=RL.out.trans (leaf_num hm)
    rw [hm] at cn
    clear hm RL
    simp only [Option.getD_some,Option.isSome_some] at cn
    go_wp2_with fail
    refine cn.mono ?_
    rintro e w8 ⟨rfl,hw⟩
    have hw:=hw.symm
    subst hw
    clear cn
    have ct:=put_any pb j s L _ P7.out.1 1 m E0
    rw [<- RQ.out] at ct
    go_wp2_with fail
    refine ct.mono ?_
    intro e wz hz
    rcases RI.split hz with ⟨hn,⟨u,pv,rfl⟩,bz⟩|⟨st,jz,hn,rfl,hjz,hst,pz,bz⟩
    ·exact ⟨rfl,RI.none_of hn (P7.out.2.bel.trans bz)⟩
    ·have F:Hid (RI pb s k R w (.returned (.tuple #[])) wz):=RI.to hz (by omega) P7.out.2
     clear hz pz bz hst hn ct
     go_wp2_with fail
     first|go_end0|refine bodyPost_ret (results_none rfl _ _ _) rfl ?_
     exact F.out
   | none =>
    have RQ:Hid (R=if Names.nameB t=true then put (2,0,t) (s.data.toList.drop j,L) else none):=RL.out.trans (leaf_name hm)
    rw [hm] at cn
    clear hm RL
    simp only [Option.getD_none,Option.isSome_none] at cn
    go_wp2_with fail
    refine cn.mono ?_
    rintro e w8 ⟨rfl,hw⟩
    have hw:=hw.symm
    subst hw
    clear cn
    have ct:=name_any pb j s L _ P7.out.1 2 t (by omega)
    rw [<- RQ.out] at ct
    go_wp2_with fail
    refine ct.mono ?_
    intro e wz hz
    rcases RI.split hz with ⟨hn,⟨u,pv,rfl⟩,bz⟩|⟨st,jz,hn,rfl,hjz,hst,pz,bz⟩
    ·exact ⟨rfl,RI.none_of hn (P7.out.2.bel.trans bz)⟩
    ·have F:Hid (RI pb s k R w (.returned (.tuple #[])) wz):=RI.to hz (by omega) P7.out.2
     clear hz pz bz hst hn ct
     go_wp2_with fail
     first|go_end0|refine bodyPost_ret (results_none rfl _ _ _) rfl ?_
     exact F.out
 by_cases h37:hdK s k=37
 ·have hk:=hdK_lt h37 (by decide)
  have HH:Hid (hdK s k=36 \/ hdK s k=37):=.inr h37
  have d36:(hdK s k == 36)=false:=by simpa using h36
  have d36':decide (hdK s k=36)=false:=by simpa using h36
  have d37:(hdK s k == 37)=true:=by simpa using h37
  have d37':decide (hdK s k=37)=true:=by simpa using h37
  clear h36 h37
  go_enter func119,ntmps119
  go_wp2_with fail
  refine (next_any pb k s L _ H.out).mono ?_
  rintro e w1 ⟨rfl,p,b⟩
  have P1:Hid (PI w1 pb s k L/\BK pb w w1):=⟨p,BK.of hlt b⟩
  clear p b
  clear H c1
  go_wp2_with fail
  refine (next_any pb k s L _ P1.out.1).mono ?_
  rintro e w2 ⟨rfl,p,b⟩
  have P2:Hid (PI w2 pb s k L/\BK pb w w2):=⟨p,P1.out.2.trans (BK.of P1.out.1.lt b)⟩
  clear p b
  have cz:=P2.out.1.c1
  have fz:=P2.out.1.fz 1
  have i1:IntKind.i64.wrap ((k:Int)+1)=(k:Int)+1:=by rw [IntKind.wrap_i64];omega
  have P3:Hid (PI (w2.setCell ⟨pb,1,none⟩ (.int .i64 ((k:Int)+1))) pb s (k+1) L/\BK pb w (w2.setCell ⟨pb,1,none⟩ (.int .i64 ((k:Int)+1)))):=⟨P2.out.1.at_ (by omega) (by omega),P2.out.2.trans bk_set⟩
  go_wp2_with fail
  refine (run_any pb (k+1) s L _ P3.out.1).mono ?_
  rintro e wr ⟨rfl,⟨j,hj,hj2,haf,p⟩,b⟩
  have PR:Hid (PI wr pb s j L/\BK pb w wr):=⟨p,P3.out.2.trans b⟩
  have HA:Hid (af (s.data.toList.drop (k+1))=s.data.toList.drop j):=haf
  have c0':=p.c0
  have c1':=p.c1
  have z1:(s.extract k j).size<=1000:=by rw [ByteArray.size_extract];omega
  have s1:∀ w,(Instr.slice 9 (.string s) (some (.int .i64 (k:Int))) (some (.int .i64 (j:Int))) none).run prog w=.ok (.string (s.extract k j)) w:=fun w=>by
   have:=run_slice_string (P:=prog) w 9 s .i64 .i64 (k:Int) (j:Int) underlying9 (by omega) (by omega) (by omega)
   rwa [show ((j:Int)).toNat=j by omega,show ((k:Int)).toNat=k by omega] at this
  clear p b haf
  have RL:Hid (R=leafF (s.extract k j) (s.data.toList.drop j,L)):=HR.out.trans (word_signed hj hj2 HH.out HA.out)
  have hhd:hdK s k<=37:=by rcases HH.out with h|h <;> omega
  have q1:((s.extract k j).toList == [104,105,103,104])=false:=ext_hd (by omega) hj2 104 _ (by show hdK s k ≠ 104;omega)
  have q2:((s.extract k j).toList == [108,111,119])=false:=ext_hd (by omega) hj2 108 _ (by show hdK s k ≠ 108;omega)
  have q3:((s.extract k j).toList == [98,97,110,107])=false:=ext_hd (by omega) hj2 98 _ (by show hdK s k ≠ 98;omega)
  clear hhd HA HR
  have hmid:=trivial
  generalize s.extract k j=t at *
  have r0:=fun d os=>cell_regrown c0' d os
  have r1:=fun d os=>cell_regrown c1' d os
  clear c0' c1'
  go_upto_region 4 with fail
  refine wp_region_quiet_below (by kernel_rfl) (by kernel_rfl) ?_
  repeat (go_big_quiet_step (fail))
  refine wpQuiet_nil ?_
  intro _ hw'
  obtain ⟨⟨dq,osq⟩,hw''⟩:=hw'
  subst hw''
  have hbr:=below_regrown wr dq osq
  generalize Go.Sort.grow (redrawn wr dq) osq=W2 at hbr |-
  have P6:Hid (PI W2 pb s j L/\BK pb w W2):=⟨PR.out.1.kept hbr,PR.out.2.trans (BK.of PR.out.1.lt hbr)⟩
  clear hbr r0 r1 s1 PR
  go_wp2_with fail
  refine (next_any pb j s L _ P6.out.1).mono ?_
  rintro e w7 ⟨rfl,p,b⟩
  have P7:Hid (PI w7 pb s j L/\BK pb w w7):=⟨p,P6.out.2.trans (BK.of P6.out.1.lt b)⟩
  clear p b
  have cn:=Nums.implNum_any t w7 (tab_pb hg HT.out P7.out.2.bel) (by unfold maxLen;omega)
  clear P6
  by_cases ho:hdK s j=40
  ·have hmid:=trivial
   have o1:(hdK s j == 40)=true:=by simpa using ho
   have o2:decide (hdK s j=40)=true:=by simpa using ho
   clear ho
   cases hm:Nums.num t with
   | some m =>
    have RQ:Hid (R=put (1,m,E0) (s.data.toList.drop j,L)):=RL.out.trans (leaf_num hm)
    rw [hm] at cn
    clear hm RL
    simp only [Option.getD_some,Option.isSome_some] at cn
    go_wp2_with fail
    refine cn.mono ?_
    rintro e w8 ⟨rfl,hw⟩
    have hw:=hw.symm
    subst hw
    clear cn
    have ct:=put_any pb j s L _ P7.out.1 1 m E0
    rw [<- RQ.out] at ct
    go_wp2_with fail
    refine ct.mono ?_
    intro e wz hz
    rcases RI.split hz with ⟨hn,⟨u,pv,rfl⟩,bz⟩|⟨st,jz,hn,rfl,hjz,hst,pz,bz⟩
    ·exact ⟨rfl,RI.none_of hn (P7.out.2.bel.trans bz)⟩
    ·have F:Hid (RI pb s k R w (.returned (.tuple #[])) wz):=RI.to hz (by omega) P7.out.2
     clear hz pz bz hst hn ct
     go_wp2_with fail
     first|go_end0|refine bodyPost_ret (results_none rfl _ _ _) rfl ?_
     exact F.out
   | none =>
    have RQ:Hid (R=if Names.nameB t=true then put (2,0,t) (s.data.toList.drop j,L) else none):=RL.out.trans (leaf_name hm)
    rw [hm] at cn
    clear hm RL
    simp only [Option.getD_none,Option.isSome_none] at cn
    go_wp2_with fail
    refine cn.mono ?_
    rintro e w8 ⟨rfl,hw⟩
    have hw:=hw.symm
    subst hw
    clear cn
    have ct:=name_any pb j s L _ P7.out.1 2 t (by omega)
    rw [<- RQ.out] at ct
    go_wp2_with fail
    refine ct.mono ?_
    intro e wz hz
    rcases RI.split hz with ⟨hn,⟨u,pv,rfl⟩,bz⟩|⟨st,jz,hn,rfl,hjz,hst,pz,bz⟩
    ·exact ⟨rfl,RI.none_of hn (P7.out.2.bel.trans bz)⟩
    ·have F:Hid (RI pb s k R w (.returned (.tuple #[])) wz):=RI.to hz (by omega) P7.out.2
     clear hz pz bz hst hn ct
     go_wp2_with fail
     first|go_end0|refine bodyPost_ret (results_none rfl _ _ _) rfl ?_
     exact F.out
  ·have hmid:=trivial
   have o1:(hdK s j == 40)=false:=by simpa using ho
   have o2:decide (hdK s j=40)=false:=by simpa using ho
   clear ho
   cases hm:Nums.num t with
   | some m =>
    have RQ:Hid (R=put (1,m,E0) (s.data.toList.drop j,L)):=RL.out.trans (leaf_num hm)
    rw [hm] at cn
    clear hm RL
    simp only [Option.getD_some,Option.isSome_some] at cn
    go_wp2_with fail
    refine cn.mono ?_
    rintro e w8 ⟨rfl,hw⟩
    have hw:=hw.symm
    subst hw
    clear cn
    have ct:=put_any pb j s L _ P7.out.1 1 m E0
    rw [<- RQ.out] at ct
    go_wp2_with fail
    refine ct.mono ?_
    intro e wz hz
    rcases RI.split hz with ⟨hn,⟨u,pv,rfl⟩,bz⟩|⟨st,jz,hn,rfl,hjz,hst,pz,bz⟩
    ·exact ⟨rfl,RI.none_of hn (P7.out.2.bel.trans bz)⟩
    ·have F:Hid (RI pb s k R w (.returned (.tuple #[])) wz):=RI.to hz (by omega) P7.out.2
     clear hz pz bz hst hn ct
     go_wp2_with fail
     first|go_end0|refine bodyPost_ret (results_none rfl _ _ _) rfl ?_
     exact F.out
   | none =>
    have RQ:Hid (R=if Names.nameB t=true then put (2,0,t) (s.data.toList.drop j,L) else none):=RL.out.trans (leaf_name hm)
    rw [hm] at cn
    clear hm RL
    simp only [Option.getD_none,Option.isSome_none] at cn
    go_wp2_with fail
    refine cn.mono ?_
    rintro e w8 ⟨rfl,hw⟩
    have hw:=hw.symm
    subst hw
    clear cn
    have ct:=name_any pb j s L _ P7.out.1 2 t (by omega)
    rw [<- RQ.out] at ct
    go_wp2_with fail
    refine ct.mono ?_
    intro e wz hz
    rcases RI.split hz with ⟨hn,⟨u,pv,rfl⟩,bz⟩|⟨st,jz,hn,rfl,hjz,hst,pz,bz⟩
    ·exact ⟨rfl,RI.none_of hn (P7.out.2.bel.trans bz)⟩
    ·have F:Hid (RI pb s k R w (.returned (.tuple #[])) wz):=RI.to hz (by omega) P7.out.2
     clear hz pz bz hst hn ct
     go_wp2_with fail
     first|go_end0|refine bodyPost_ret (results_none rfl _ _ _) rfl ?_
     exact F.out
 have HU:Hid (signed (s.data.toList.drop k)=false):=unsigned h36 h37
 have d36:(hdK s k == 36)=false:=by simpa using h36
 have d36':decide (hdK s k=36)=false:=by simpa using h36
 have d37:(hdK s k == 37)=false:=by simpa using h37
 have d37':decide (hdK s k=37)=false:=by simpa using h37
 clear h36 h37
 go_enter func119,ntmps119
 go_wp2_with fail
 refine (next_any pb k s L _ H.out).mono ?_
 rintro e w1 ⟨rfl,p,b⟩
 have P1:Hid (PI w1 pb s k L/\BK pb w w1):=⟨p,BK.of hlt b⟩
 clear p b
 clear H c1
 go_wp2_with fail
 refine (next_any pb k s L _ P1.out.1).mono ?_
 rintro e w2 ⟨rfl,p,b⟩
 have P2:Hid (PI w2 pb s k L/\BK pb w w2):=⟨p,P1.out.2.trans (BK.of P1.out.1.lt b)⟩
 clear p b
 go_wp2_with fail
 refine (run_any pb (k) s L _ P2.out.1).mono ?_
 rintro e wr ⟨rfl,⟨j,hj,hj2,haf,p⟩,b⟩
 have PR:Hid (PI wr pb s j L/\BK pb w wr):=⟨p,P2.out.2.trans b⟩
 have HA:Hid (af (s.data.toList.drop (k))=s.data.toList.drop j):=haf
 have c0':=p.c0
 have c1':=p.c1
 have z1:(s.extract k j).size<=1000:=by rw [ByteArray.size_extract];omega
 have s1:∀ w,(Instr.slice 9 (.string s) (some (.int .i64 (k:Int))) (some (.int .i64 (j:Int))) none).run prog w=.ok (.string (s.extract k j)) w:=fun w=>by
  have:=run_slice_string (P:=prog) w 9 s .i64 .i64 (k:Int) (j:Int) underlying9 (by omega) (by omega) (by omega)
  rwa [show ((j:Int)).toNat=j by omega,show ((k:Int)).toNat=k by omega] at this
 clear p b haf
 have HW:Hid ((s.extract k j).toList=wd (s.data.toList.drop k)):=wd_list hj hj2 HA.out
 have LF:Hid (¬ hdK s j=40 \/ (wd (s.data.toList.drop k) ≠ high/\wd (s.data.toList.drop k) ≠ low/\wd (s.data.toList.drop k) ≠ bank)->R=leafF (s.extract k j) (s.data.toList.drop j,L)):=fun h=>HR.out.trans (word_leaf hj hj2 HU.out HA.out h)
 have hmid:=trivial
 generalize s.extract k j=t at *
 have r0:=fun d os=>cell_regrown c0' d os
 have r1:=fun d os=>cell_regrown c1' d os
 clear c0' c1'
 go_upto_region 4 with fail
 refine wp_region_quiet_below (by kernel_rfl) (by kernel_rfl) ?_
 repeat (go_big_quiet_step (fail))
 refine wpQuiet_nil ?_
 intro _ hw'
 obtain ⟨⟨dq,osq⟩,hw''⟩:=hw'
 subst hw''
 have hbr:=below_regrown wr dq osq
 generalize Go.Sort.grow (redrawn wr dq) osq=W2 at hbr |-
 have P6:Hid (PI W2 pb s j L/\BK pb w W2):=⟨PR.out.1.kept hbr,PR.out.2.trans (BK.of PR.out.1.lt hbr)⟩
 clear hbr r0 r1 s1 PR
 go_wp2_with fail
 refine (next_any pb j s L _ P6.out.1).mono ?_
 rintro e w7 ⟨rfl,p,b⟩
 have P7:Hid (PI w7 pb s j L/\BK pb w w7):=⟨p,P6.out.2.trans (BK.of P6.out.1.lt b)⟩
 clear p b
 have cn:=Nums.implNum_any t w7 (tab_pb hg HT.out P7.out.2.bel) (by unfold maxLen;omega)
 clear P6
 by_cases ho:hdK s j=40
 ·have HO:Hid (hdK s j=40):=ho
  have o1:(hdK s j == 40)=true:=by simpa using ho
  have o2:decide (hdK s j=40)=true:=by simpa using ho
  clear ho
  by_cases w0:wd (s.data.toList.drop k)=high
  ·have W0:Hid (wd (s.data.toList.drop k)=high):=w0
   have q0:(t.toList == [104,105,103,104])=true:=by rw [HW.out,w0];decide
   clear w0 LF 
   obtain ⟨m,hm⟩ : ∃ m,m=(Nums.num t).getD 0:=⟨_,rfl⟩
   obtain ⟨mb,hmb⟩ : ∃ m,m=(Nums.num t).isSome:=⟨_,rfl⟩
   rw [<- hm,<- hmb] at cn
   clear hm hmb
   go_wp2_with fail
   refine cn.mono ?_
   rintro e w8 ⟨rfl,hw⟩
   have hw:=hw.symm
   subst hw
   clear cn
   have RQ:Hid (R=(brF (lev n 1) (s.data.toList.drop j,L)).bind (put (6,0,E0))):=HR.out.trans (word_high HU.out HA.out HO.out W0.out)
   have cb:=bracket_any pb j n deep s L w7 P7.out.1 HO.out hd0 hd1 (tab_pb hg HT.out P7.out.2.bel) hg hl
   go_wp2_with fail
   refine cb.mono ?_
   intro e w9 h9
   rcases RI.split h9 with ⟨hn,⟨u,pv,rfl⟩,b9⟩|⟨st9,j9,hn,rfl,hj9,hst9,p9,b9⟩
   ·exact ⟨rfl,RI.none_of (by rw [RQ.out,hn];rfl) (P7.out.2.bel.trans b9)⟩
   ·have P9:Hid (PI w9 pb s j9 st9.2/\BK pb w w9):=⟨p9,P7.out.2.trans b9⟩
    have RQ2:Hid (R=put (6,0,E0) (s.data.toList.drop j9,st9.2)):=(show R=_ from by rw [RQ.out,hn];show put _ st9=_;rw [<- hst9])
    clear h9 p9 b9 hst9 hn cb RQ
    have RQ:Hid (R=put (6,0,E0) (s.data.toList.drop j9,st9.2)):=RQ2.out
    clear RQ2
    have ct:=put_any pb j9 s st9.2 _ P9.out.1 6 0 E0
    rw [<- RQ.out] at ct
    go_wp2_with fail
    refine ct.mono ?_
    intro e wz hz
    rcases RI.split hz with ⟨hn,⟨u,pv,rfl⟩,bz⟩|⟨st,jz,hn,rfl,hjz,hst,pz,bz⟩
    ·exact ⟨rfl,RI.none_of hn (P9.out.2.bel.trans bz)⟩
    ·have F:Hid (RI pb s k R w (.returned (.tuple #[])) wz):=RI.to hz (by omega) P9.out.2
     clear hz pz bz hst hn ct
     go_wp2_with fail
     first|go_end0|refine bodyPost_ret (results_none rfl _ _ _) rfl ?_
     exact F.out
  by_cases w1:wd (s.data.toList.drop k)=low
  ·have W1:Hid (wd (s.data.toList.drop k)=low):=w1
   have q1:(t.toList == [108,111,119])=true:=by rw [HW.out,w1];decide
   have q0:(t.toList == [104,105,103,104])=false:=by rw [HW.out,w1];decide
   clear w1 LF w0
   obtain ⟨m,hm⟩ : ∃ m,m=(Nums.num t).getD 0:=⟨_,rfl⟩
   obtain ⟨mb,hmb⟩ : ∃ m,m=(Nums.num t).isSome:=⟨_,rfl⟩
   rw [<- hm,<- hmb] at cn
   clear hm hmb
   go_wp2_with fail
   refine cn.mono ?_
   rintro e w8 ⟨rfl,hw⟩
   have hw:=hw.symm
   subst hw
   clear cn
   have RQ:Hid (R=(brF (lev n 1) (s.data.toList.drop j,L)).bind (put (7,0,E0))):=HR.out.trans (word_low HU.out HA.out HO.out W1.out)
   have cb:=bracket_any pb j n deep s L w7 P7.out.1 HO.out hd0 hd1 (tab_pb hg HT.out P7.out.2.bel) hg hl
   go_wp2_with fail
   refine cb.mono ?_
   intro e w9 h9
   rcases RI.split h9 with ⟨hn,⟨u,pv,rfl⟩,b9⟩|⟨st9,j9,hn,rfl,hj9,hst9,p9,b9⟩
   ·exact ⟨rfl,RI.none_of (by rw [RQ.out,hn];rfl) (P7.out.2.bel.trans b9)⟩
   ·have P9:Hid (PI w9 pb s j9 st9.2/\BK pb w w9):=⟨p9,P7.out.2.trans b9⟩
    have RQ2:Hid (R=put (7,0,E0) (s.data.toList.drop j9,st9.2)):=(show R=_ from by rw [RQ.out,hn];show put _ st9=_;rw [<- hst9])
    clear h9 p9 b9 hst9 hn cb RQ
    have RQ:Hid (R=put (7,0,E0) (s.data.toList.drop j9,st9.2)):=RQ2.out
    clear RQ2
    have ct:=put_any pb j9 s st9.2 _ P9.out.1 7 0 E0
    rw [<- RQ.out] at ct
    go_wp2_with fail
    refine ct.mono ?_
    intro e wz hz
    rcases RI.split hz with ⟨hn,⟨u,pv,rfl⟩,bz⟩|⟨st,jz,hn,rfl,hjz,hst,pz,bz⟩
    ·exact ⟨rfl,RI.none_of hn (P9.out.2.bel.trans bz)⟩
    ·have F:Hid (RI pb s k R w (.returned (.tuple #[])) wz):=RI.to hz (by omega) P9.out.2
     clear hz pz bz hst hn ct
     go_wp2_with fail
     first|go_end0|refine bodyPost_ret (results_none rfl _ _ _) rfl ?_
     exact F.out
  by_cases w2:wd (s.data.toList.drop k)=bank
  ·have W2:Hid (wd (s.data.toList.drop k)=bank):=w2
   have q2:(t.toList == [98,97,110,107])=true:=by rw [HW.out,w2];decide
   have q0:(t.toList == [104,105,103,104])=false:=by rw [HW.out,w2];decide
   have q1:(t.toList == [108,111,119])=false:=by rw [HW.out,w2];decide
   clear w2 LF w0 w1
   obtain ⟨m,hm⟩ : ∃ m,m=(Nums.num t).getD 0:=⟨_,rfl⟩
   obtain ⟨mb,hmb⟩ : ∃ m,m=(Nums.num t).isSome:=⟨_,rfl⟩
   rw [<- hm,<- hmb] at cn
   clear hm hmb
   go_wp2_with fail
   refine cn.mono ?_
   rintro e w8 ⟨rfl,hw⟩
   have hw:=hw.symm
   subst hw
   clear cn
   have RQ:Hid (R=bankF (s.data.toList.drop (j+1),L)):=HR.out.trans (word_bank HU.out HA.out HO.out W2.out)
   have ct:=bank_any pb j s L _ P7.out.1 HO.out
   rw [<- RQ.out] at ct
   go_wp2_with fail
   refine ct.mono ?_
   intro e wz hz
   rcases RI.split hz with ⟨hn,⟨u,pv,rfl⟩,bz⟩|⟨st,jz,hn,rfl,hjz,hst,pz,bz⟩
   ·exact ⟨rfl,RI.none_of hn (P7.out.2.bel.trans bz)⟩
   ·have F:Hid (RI pb s k R w (.returned (.tuple #[])) wz):=RI.to hz (by omega) P7.out.2
    clear hz pz bz hst hn ct
    go_wp2_with fail
    first|go_end0|refine bodyPost_ret (results_none rfl _ _ _) rfl ?_
    exact F.out
  have RL:Hid (R=leafF t (s.data.toList.drop j,L)):=LF.out (.inr ⟨w0,w1,w2⟩)
  have q0:(t.toList == [104,105,103,104])=false:=by rw [HW.out];exact wd_ne w0
  have q1:(t.toList == [108,111,119])=false:=by rw [HW.out];exact wd_ne w1
  have q2:(t.toList == [98,97,110,107])=false:=by rw [HW.out];exact wd_ne w2
  clear w0 w1 w2 LF
  cases hm:Nums.num t with
  | some m =>
   have RQ:Hid (R=put (1,m,E0) (s.data.toList.drop j,L)):=RL.out.trans (leaf_num hm)
   rw [hm] at cn
   clear hm RL
   simp only [Option.getD_some,Option.isSome_some] at cn
   go_wp2_with fail
   refine cn.mono ?_
   rintro e w8 ⟨rfl,hw⟩
   have hw:=hw.symm
   subst hw
   clear cn
   have ct:=put_any pb j s L _ P7.out.1 1 m E0
   rw [<- RQ.out] at ct
   go_wp2_with fail
   refine ct.mono ?_
   intro e wz hz
   rcases RI.split hz with ⟨hn,⟨u,pv,rfl⟩,bz⟩|⟨st,jz,hn,rfl,hjz,hst,pz,bz⟩
   ·exact ⟨rfl,RI.none_of hn (P7.out.2.bel.trans bz)⟩
   ·have F:Hid (RI pb s k R w (.returned (.tuple #[])) wz):=RI.to hz (by omega) P7.out.2
    clear hz pz bz hst hn ct
    go_wp2_with fail
    first|go_end0|refine bodyPost_ret (results_none rfl _ _ _) rfl ?_
    exact F.out
  | none =>
   have RQ:Hid (R=if Names.nameB t=true then put (2,0,t) (s.data.toList.drop j,L) else none):=RL.out.trans (leaf_name hm)
   rw [hm] at cn
   clear hm RL
   simp only [Option.getD_none,Option.isSome_none] at cn
   go_wp2_with fail
   refine cn.mono ?_
   rintro e w8 ⟨rfl,hw⟩
   have hw:=hw.symm
   subst hw
   clear cn
   have ct:=name_any pb j s L _ P7.out.1 2 t (by omega)
   rw [<- RQ.out] at ct
   go_wp2_with fail
   refine ct.mono ?_
   intro e wz hz
   rcases RI.split hz with ⟨hn,⟨u,pv,rfl⟩,bz⟩|⟨st,jz,hn,rfl,hjz,hst,pz,bz⟩
   ·exact ⟨rfl,RI.none_of hn (P7.out.2.bel.trans bz)⟩
   ·have F:Hid (RI pb s k R w (.returned (.tuple #[])) wz):=RI.to hz (by omega) P7.out.2
    clear hz pz bz hst hn ct
    go_wp2_with fail
    first|go_end0|refine bodyPost_ret (results_none rfl _ _ _) rfl ?_
    exact F.out
 ·have RL:Hid (R=leafF t (s.data.toList.drop j,L)):=LF.out (.inl ho)
  have o1:(hdK s j == 40)=false:=by simpa using ho
  have o2:decide (hdK s j=40)=false:=by simpa using ho
  clear ho LF
  cases hm:Nums.num t with
  | some m =>
   have RQ:Hid (R=put (1,m,E0) (s.data.toList.drop j,L)):=RL.out.trans (leaf_num hm)
   rw [hm] at cn
   clear hm RL
   simp only [Option.getD_some,Option.isSome_some] at cn
   go_wp2_with fail
   refine cn.mono ?_
   rintro e w8 ⟨rfl,hw⟩
   have hw:=hw.symm
   subst hw
   clear cn
   have ct:=put_any pb j s L _ P7.out.1 1 m E0
   rw [<- RQ.out] at ct
   go_wp2_with fail
   refine ct.mono ?_
   intro e wz hz
   rcases RI.split hz with ⟨hn,⟨u,pv,rfl⟩,bz⟩|⟨st,jz,hn,rfl,hjz,hst,pz,bz⟩
   ·exact ⟨rfl,RI.none_of hn (P7.out.2.bel.trans bz)⟩
   ·have F:Hid (RI pb s k R w (.returned (.tuple #[])) wz):=RI.to hz (by omega) P7.out.2
    clear hz pz bz hst hn ct
    go_wp2_with fail
    first|go_end0|refine bodyPost_ret (results_none rfl _ _ _) rfl ?_
    exact F.out
  | none =>
   have RQ:Hid (R=if Names.nameB t=true then put (2,0,t) (s.data.toList.drop j,L) else none):=RL.out.trans (leaf_name hm)
   rw [hm] at cn
   clear hm RL
   simp only [Option.getD_none,Option.isSome_none] at cn
   go_wp2_with fail
   refine cn.mono ?_
   rintro e w8 ⟨rfl,hw⟩
   have hw:=hw.symm
   subst hw
   clear cn
   have ct:=name_any pb j s L _ P7.out.1 2 t (by omega)
   rw [<- RQ.out] at ct
   go_wp2_with fail
   refine ct.mono ?_
   intro e wz hz
   rcases RI.split hz with ⟨hn,⟨u,pv,rfl⟩,bz⟩|⟨st,jz,hn,rfl,hjz,hst,pz,bz⟩
   ·exact ⟨rfl,RI.none_of hn (P7.out.2.bel.trans bz)⟩
   ·have F:Hid (RI pb s k R w (.returned (.tuple #[])) wz):=RI.to hz (by omega) P7.out.2
    clear hz pz bz hst hn ct
    go_wp2_with fail
    first|go_end0|refine bodyPost_ret (results_none rfl _ _ _) rfl ?_
    exact F.out
end Xime
end Go.Proofs.YtbofcepdckpkkaaGreatDoor
