import Derived.Test.YtbofcepdckpkkaaGreatDoorP19
set_option linter.all false
set_option maxRecDepth 20000
set_option maxHeartbeats 8000000
open Go.ChangeShapes Go.WideShapes Go.ChangeAt Go.RowKit
open Go.Proofs.Tryz
namespace Go.Proofs.YtbofcepdckpkkaaGreatDoor
namespace Cmxc
open Go.Deep
open Prsp Prsl Xima Cmxa Cmxb
theorem is_cases (pb k:Nat) (s t:ByteArray) (L:List Stepx.Node) (w:World) (h:PX w pb s k (some (s.data.toList.drop k,L))) (ht:t.size<=10) {Q:Ending->World->Prop}
  (hT:∀ w',here s k t=true->PX w' pb s (k+t.size) (some (s.data.toList.drop (k+t.size),L))->Below pb w w'->Q (.returned (.bool true)) w') (hF:∀ w',here s k t=false->PX w' pb s k (some (s.data.toList.drop k,L))->Below pb w w'->Q (.returned (.bool false)) w') :
  Calls prog 121 #[.pointer (some ⟨pb,0,none⟩),.string t] w Q:=by
 refine (is_any pb k s t L w h ht).mono ?_
 rintro e w' ⟨rfl,p,b⟩
 cases e1:here s k t with
 | true=>unfold nx at p;rw [e1,if_pos rfl] at p;exact hT w' e1 p b
 | false=>unfold nx at p;rw [e1,if_neg (by decide)] at p;exact hF w' e1 p b
def QX (pb:Nat) (s:ByteArray) (k:Nat) (R:Option St) (w:World) (e:Ending) (w':World):Prop:=e=.returned (.tuple #[])/\(∃ j,k<=j/\PX w' pb s j R)/\Below pb w w'
theorem QX.of {pb k j:Nat} {s:ByteArray} {R X:Option St} {w w':World} (hR:R=X) (hj:k<=j) (hp:PX w' pb s j X) (hb:Below pb w w'):QX pb s k R w (.returned (.tuple #[])) w':=⟨rfl,⟨j,hj,by rw [hR];exact hp⟩,hb⟩
theorem here_size {s t:ByteArray} {k:Nat} (h:here s k t=true):k+t.size<=s.size:=(of_decide_eq_true h).1
theorem hd_of {s:ByteArray} {k:Nat} (c:UInt8) (hc:(c.toNat:Int) ≠ 0) {b:Bool} (h:here s k ⟨#[c]⟩=b):decide (hd (s.data.toList.drop k)=(c.toNat:Int))=b:=by rw [<- here_one c hc];exact h
theorem hd_yes {s:ByteArray} {k:Nat} (c:UInt8) (hc:(c.toNat:Int) ≠ 0) (h:here s k ⟨#[c]⟩=true):hd (s.data.toList.drop k)=(c.toNat:Int):=of_decide_eq_true (hd_of c hc h)
theorem hd_no {s:ByteArray} {k:Nat} (c:UInt8) (hc:(c.toNat:Int) ≠ 0) (h:here s k ⟨#[c]⟩=false):¬ hd (s.data.toList.drop k)=(c.toNat:Int):=of_decide_eq_false (hd_of c hc h)
theorem op_hi {s:ByteArray} {k:Nat} {b:Bool} (h:here s k tHigh=b):opens (s.data.toList.drop k) high=b:=(here_opens high (by decide)).symm.trans h
theorem op_lo {s:ByteArray} {k:Nat} {b:Bool} (h:here s k tLow=b):opens (s.data.toList.drop k) low=b:=(here_opens low (by decide)).symm.trans h
theorem op_ba {s:ByteArray} {k:Nat} {b:Bool} (h:here s k tBank=b):opens (s.data.toList.drop k) bank=b:=(here_opens bank (by decide)).symm.trans h
theorem close_yes {s:ByteArray} {k:Nat} {L:List Stepx.Node} (h:here s k ⟨#[41]⟩=true):close (s.data.toList.drop k,L)=some (s.data.toList.drop (k+1),L):=by
 unfold close;rw [if_pos (show hd (s.data.toList.drop k,L).1=41 from hd_yes 41 (by decide) h),tl]
theorem close_no {s:ByteArray} {k:Nat} {L:List Stepx.Node} (h:here s k ⟨#[41]⟩=false):close (s.data.toList.drop k,L)=none:=by
 unfold close;rw [if_neg (show ¬ hd (s.data.toList.drop k,L).1=41 from hd_no 41 (by decide) h)]
theorem put_close {s:ByteArray} {k:Nat} {L:List Stepx.Node} {x:Stepx.Node} (h:here s k ⟨#[41]⟩=true):(put x (s.data.toList.drop k,L)).bind close=put x (s.data.toList.drop (k+1),L):=by
 unfold put
 split
 ·exact close_yes h
 ·rfl
theorem put_close_no {s:ByteArray} {k:Nat} {L:List Stepx.Node} {x:Stepx.Node} (h:here s k ⟨#[41]⟩=false):(put x (s.data.toList.drop k,L)).bind close=none:=by
 unfold put
 split
 ·exact close_no h
 ·rfl
theorem value_zero (pb k:Nat) (s:ByteArray) (X:Option St) (w:World) (h:PX w pb s k X) :
  Calls prog 98 #[.pointer (some ⟨pb,0,none⟩),.int .i64 31] w (QX pb s k none w):=by
 have H:Hid (PX w pb s k X):=h
 have c3:=h.c3
 have f3:=h.fz 3
 clear h
 go_enter func98,ntmps98
 go_wp2
 first|go_end0|refine bodyPost_ret (results_none rfl _ _ _) rfl ?_
 exact QX.of rfl (Nat.le_refl _) H.out.bad_ below_set
theorem value_step (pb k deep n:Nat) (s:ByteArray) (L:List Stepx.Node) (w:World) (h:PX w pb s k (some (s.data.toList.drop k,L))) (hd1:1<=deep) (hd2:deep<=30)
  (hv:∀ k L w,PX w pb s k (some (s.data.toList.drop k,L))->Calls prog 98 #[.pointer (some ⟨pb,0,none⟩),.int .i64 ((deep:Int)+1)] w (QX pb s k (val n (s.data.toList.drop k,L)) w))
  (hl:∀ k L w,PX w pb s k (some (s.data.toList.drop k,L))->Calls prog 81 #[.pointer (some ⟨pb,0,none⟩),.int .i64 1,.int .i64 ((deep:Int)+1)] w (QX pb s k (lev n 1 (s.data.toList.drop k,L)) w)) :
  Calls prog 98 #[.pointer (some ⟨pb,0,none⟩),.int .i64 (deep:Int)] w (QX pb s k (val (n+1) (s.data.toList.drop k,L)) w):=by
 have P0:Hid (PX w pb s k (some (s.data.toList.drop k,L))/\Below pb w w):=⟨h,Below.refl _ _⟩
 have c3:=h.c3
 simp only [Option.isNone_some] at c3
 have hs:=h.sz.2
 have hk:=h.sz.1
 obtain ⟨R,hR⟩ : ∃ R,R=valueF (val n) (lev n 1) (s.data.toList.drop k,L):=⟨_,rfl⟩
 have HR:Hid (R=valueF (val n) (lev n 1) (s.data.toList.drop k,L)):=hR
 rw [val_succ,<- hR]
 clear h hR
 go_enter func98,ntmps98
 go_wp2_with fail
 refine is_cases pb (k) s _ L _ P0.out.1 (by decide) ?_ ?_
 ·intro w1 e1 p1 b1
  have P1:Hid (PX w1 pb s (k+1) (some (s.data.toList.drop (k+1),L))/\Below pb w w1):=⟨p1,P0.out.2.trans b1⟩
  have E1:Hid (here s (k) ⟨#[45]⟩=true):=e1
  have z1:=here_size e1
  change k+1<=s.size at z1
  clear e1 p1 b1
  have RQ:Hid (R=(val n (s.data.toList.drop (k+1),L)).bind (put (4,0,E0))):=HR.out.trans (val_neg (hd_yes 45 (by decide) E1.out))
  go_wp2_with fail
  refine (hv (k+1) L _ P1.out.1).mono ?_
  rintro e w2 ⟨rfl,⟨k2,q2,p2⟩,b2⟩
  have P2:Hid (PX w2 pb s k2 (val n (s.data.toList.drop (k+1),L))/\Below pb w w2):=⟨p2,P1.out.2.trans b2⟩
  clear p2 b2
  go_wp2_with fail
  refine (put_any pb (k2) s (val n (s.data.toList.drop (k+1),L)) _ P2.out.1 (4) (0) (E0)).mono ?_
  rintro e w3 ⟨rfl,p3,b3⟩
  have P3:Hid (PX w3 pb s (k2) (Option.bind (val n (s.data.toList.drop (k+1),L)) (put (4,0,E0)))/\Below pb w w3):=⟨p3,P2.out.2.trans b3⟩
  clear p3 b3
  go_wp2_with fail
  first|go_end0|refine bodyPost_ret (results_none rfl _ _ _) rfl ?_
  exact QX.of (RQ.out) (by omega) P3.out.1 P3.out.2
 ·intro w1 e1 p1 b1
  have P1:Hid (PX w1 pb s (k) (some (s.data.toList.drop (k),L))/\Below pb w w1):=⟨p1,P0.out.2.trans b1⟩
  have E1:Hid (here s (k) ⟨#[45]⟩=false):=e1
  clear e1 p1 b1
  have EQ45:=E1
  go_wp2_with fail
  refine is_cases pb (k) s _ L _ P1.out.1 (by decide) ?_ ?_
  ·intro w4 e4 p4 b4
   have P4:Hid (PX w4 pb s (k+1) (some (s.data.toList.drop (k+1),L))/\Below pb w w4):=⟨p4,P1.out.2.trans b4⟩
   have E4:Hid (here s (k) ⟨#[126]⟩=true):=e4
   have z4:=here_size e4
   change k+1<=s.size at z4
   clear e4 p4 b4
   have RQ:Hid (R=(val n (s.data.toList.drop (k+1),L)).bind (put (5,0,E0))):=HR.out.trans (val_not (hd_yes 126 (by decide) E4.out))
   go_wp2_with fail
   refine (hv (k+1) L _ P4.out.1).mono ?_
   rintro e w5 ⟨rfl,⟨k5,q5,p5⟩,b5⟩
   have P5:Hid (PX w5 pb s k5 (val n (s.data.toList.drop (k+1),L))/\Below pb w w5):=⟨p5,P4.out.2.trans b5⟩
   clear p5 b5
   go_wp2_with fail
   refine (put_any pb (k5) s (val n (s.data.toList.drop (k+1),L)) _ P5.out.1 (5) (0) (E0)).mono ?_
   rintro e w6 ⟨rfl,p6,b6⟩
   have P6:Hid (PX w6 pb s (k5) (Option.bind (val n (s.data.toList.drop (k+1),L)) (put (5,0,E0)))/\Below pb w w6):=⟨p6,P5.out.2.trans b6⟩
   clear p6 b6
   go_wp2_with fail
   first|go_end0|refine bodyPost_ret (results_none rfl _ _ _) rfl ?_
   exact QX.of (RQ.out) (by omega) P6.out.1 P6.out.2
  ·intro w4 e4 p4 b4
   have P4:Hid (PX w4 pb s (k) (some (s.data.toList.drop (k),L))/\Below pb w w4):=⟨p4,P1.out.2.trans b4⟩
   have E4:Hid (here s (k) ⟨#[126]⟩=false):=e4
   clear e4 p4 b4
   have EQ126:=E4
   go_wp2_with fail
   refine is_cases pb (k) s _ L _ P4.out.1 (by decide) ?_ ?_
   ·intro w7 e7 p7 b7
    have P7:Hid (PX w7 pb s (k+5) (some (s.data.toList.drop (k+5),L))/\Below pb w w7):=⟨p7,P4.out.2.trans b7⟩
    have E7:Hid (here s (k) tHigh=true):=e7
    have z7:=here_size e7
    change k+5<=s.size at z7
    clear e7 p7 b7
    have RQ:Hid (R=((lev n 1 (s.data.toList.drop (k+5),L)).bind close).bind (put (6,0,E0))):=HR.out.trans (val_hi (op_hi E7.out))
    obtain ⟨hh,hc⟩:=here_idx E7.out 3 (by decide)
    have hc2:((s[k+3]'hh).toNat:Int)=104:=by rw [hc];rfl
    have ix:∀ w,(Instr.index 9 (.string s) (.int .i64 ((k+3:Nat):Int))).run prog w=.ok (.int .u8 104) w:=fun w=>by
     rw [run_index_string (P:=prog) w 9 s .i64 ((k+3:Nat):Int) underlying9,dif_pos ⟨by omega,by omega⟩,<- hc2];simp only [show ((k+3:Nat):Int).toNat=k+3 by omega]
    clear hc hc2
    obtain ⟨K,hK⟩ : ∃ K,K=k+5:=⟨_,rfl⟩
    have hK2:k<=K:=by omega
    have hKo:((k+3:Nat):Int)=(K:Int)-2:=by omega
    rw [<- hK] at P7 z7 RQ
    rw [hKo] at ix
    have i1:IntKind.i64.wrap ((K:Int)-2)=(K:Int)-2:=by rw [IntKind.wrap_i64];omega
    have i2:wrap64 ((K:Int)-2)=(K:Int)-2:=by unfold wrap64;omega
    clear hK hKo hh
    have c0:=P7.out.1.c0
    have c1:=P7.out.1.c1
    go_wp2_with fail
    go_quiet (fail)
    have P7q:Hid (PX (World.drewN _ nq) pb s K (some (s.data.toList.drop (K),L))/\Below pb w (World.drewN _ nq)):=⟨P7.out.1.drewN nq,below_drewN P7.out.2 nq⟩
    clear c0 c1 ix
    go_wp2_with fail
    refine (hl (K) L _ P7q.out.1).mono ?_
    rintro e w8 ⟨rfl,⟨k8,q8,p8⟩,b8⟩
    have P8:Hid (PX w8 pb s k8 (lev n 1 (s.data.toList.drop (K),L))/\Below pb w w8):=⟨p8,P7q.out.2.trans b8⟩
    clear p8 b8
    obtain ⟨X8,hX8⟩ : ∃ X,X=lev n 1 (s.data.toList.drop (K),L):=⟨_,rfl⟩
    rw [<- hX8] at P8 RQ
    clear hX8
    cases X8 with
    | none =>
     have c3:=P8.out.1.c3
     simp only [Option.isNone_none] at c3
     have f3:=P8.out.1.fz 3
     have P9:Hid (PX (World.setCell _ ⟨pb,3,none⟩ (.bool true)) pb s (k8) none/\Below pb w (World.setCell _ ⟨pb,3,none⟩ (.bool true))):=⟨P8.out.1.bad_,P8.out.2.trans below_set⟩
     go_wp2_with fail
     refine (put_any pb (k8) s none _ P9.out.1 (6) (0) (E0)).mono ?_
     rintro e w10 ⟨rfl,p10,b10⟩
     have P10:Hid (PX w10 pb s (k8) (Option.bind none (put (6,0,E0)))/\Below pb w w10):=⟨p10,P9.out.2.trans b10⟩
     clear p10 b10
     go_wp2_with fail
     first|go_end0|refine bodyPost_ret (results_none rfl _ _ _) rfl ?_
     exact QX.of (RQ.out.trans (congrArg (fun o=>Option.bind o (put (6,0,E0))) (show Option.bind _ close=none from rfl))) (by omega) P10.out.1 P10.out.2
    | some st =>
     obtain ⟨l1,L1⟩:=st
     have hl1:=congrArg Prod.fst P8.out.1.st
     simp only [] at hl1
     subst hl1
     have c3:=P8.out.1.c3
     simp only [Option.isNone_some] at c3
     have f3:=P8.out.1.fz 3
     go_wp2_with fail
     refine is_cases pb (k8) s _ L1 _ P8.out.1 (by decide) ?_ ?_
     ·intro w11 e11 p11 b11
      have P11:Hid (PX w11 pb s (k8+1) (some (s.data.toList.drop (k8+1),L1))/\Below pb w w11):=⟨p11,P8.out.2.trans b11⟩
      have E11:Hid (here s (k8) ⟨#[41]⟩=true):=e11
      have z11:=here_size e11
      change k8+1<=s.size at z11
      clear e11 p11 b11
      clear c3 f3
      have c3:=P11.out.1.c3
      simp only [Option.isNone_some] at c3
      have f3:=P11.out.1.fz 3
      have P12:Hid (PX (World.setCell _ ⟨pb,3,none⟩ (.bool false)) pb s (k8+1) (some (s.data.toList.drop (k8+1),L1))/\Below pb w (World.setCell _ ⟨pb,3,none⟩ (.bool false))):=⟨P11.out.1.good_,P11.out.2.trans below_set⟩
      go_wp2_with fail
      refine (put_any pb (k8+1) s (some (s.data.toList.drop (k8+1),L1)) _ P12.out.1 (6) (0) (E0)).mono ?_
      rintro e w13 ⟨rfl,p13,b13⟩
      have P13:Hid (PX w13 pb s (k8+1) (Option.bind (some (s.data.toList.drop (k8+1),L1)) (put (6,0,E0)))/\Below pb w w13):=⟨p13,P12.out.2.trans b13⟩
      clear p13 b13
      go_wp2_with fail
      first|go_end0|refine bodyPost_ret (results_none rfl _ _ _) rfl ?_
      exact QX.of (RQ.out.trans (congrArg (fun o=>Option.bind o (put (6,0,E0))) (show Option.bind _ close=(some (s.data.toList.drop (k8+1),L1)) from close_yes E11.out))) (by omega) P13.out.1 P13.out.2
     ·intro w11 e11 p11 b11
      have P11:Hid (PX w11 pb s (k8) (some (s.data.toList.drop (k8),L1))/\Below pb w w11):=⟨p11,P8.out.2.trans b11⟩
      have E11:Hid (here s (k8) ⟨#[41]⟩=false):=e11
      clear e11 p11 b11
      clear c3 f3
      have c3:=P11.out.1.c3
      simp only [Option.isNone_some] at c3
      have f3:=P11.out.1.fz 3
      have P14:Hid (PX (World.setCell _ ⟨pb,3,none⟩ (.bool true)) pb s (k8) none/\Below pb w (World.setCell _ ⟨pb,3,none⟩ (.bool true))):=⟨P11.out.1.bad_,P11.out.2.trans below_set⟩
      go_wp2_with fail
      refine (put_any pb (k8) s none _ P14.out.1 (6) (0) (E0)).mono ?_
      rintro e w15 ⟨rfl,p15,b15⟩
      have P15:Hid (PX w15 pb s (k8) (Option.bind none (put (6,0,E0)))/\Below pb w w15):=⟨p15,P14.out.2.trans b15⟩
      clear p15 b15
      go_wp2_with fail
      first|go_end0|refine bodyPost_ret (results_none rfl _ _ _) rfl ?_
      exact QX.of (RQ.out.trans (congrArg (fun o=>Option.bind o (put (6,0,E0))) (show Option.bind _ close=none from close_no E11.out))) (by omega) P15.out.1 P15.out.2
   ·intro w7 e7 p7 b7
    have P7:Hid (PX w7 pb s (k) (some (s.data.toList.drop (k),L))/\Below pb w w7):=⟨p7,P4.out.2.trans b7⟩
    have E7:Hid (here s (k) tHigh=false):=e7
    clear e7 p7 b7
    have EH:=E7
    go_wp2_with fail
    refine is_cases pb (k) s _ L _ P7.out.1 (by decide) ?_ ?_
    ·intro w16 e16 p16 b16
     have P16:Hid (PX w16 pb s (k+4) (some (s.data.toList.drop (k+4),L))/\Below pb w w16):=⟨p16,P7.out.2.trans b16⟩
     have E16:Hid (here s (k) tLow=true):=e16
     have z16:=here_size e16
     change k+4<=s.size at z16
     clear e16 p16 b16
     have RQ:Hid (R=((lev n 1 (s.data.toList.drop (k+4),L)).bind close).bind (put (7,0,E0))):=HR.out.trans (val_lo (op_lo E16.out))
     obtain ⟨hh,hc⟩:=here_idx E16.out 2 (by decide)
     have hc2:((s[k+2]'hh).toNat:Int)=119:=by rw [hc];rfl
     have ix:∀ w,(Instr.index 9 (.string s) (.int .i64 ((k+2:Nat):Int))).run prog w=.ok (.int .u8 119) w:=fun w=>by
      rw [run_index_string (P:=prog) w 9 s .i64 ((k+2:Nat):Int) underlying9,dif_pos ⟨by omega,by omega⟩,<- hc2];simp only [show ((k+2:Nat):Int).toNat=k+2 by omega]
     clear hc hc2
     obtain ⟨K,hK⟩ : ∃ K,K=k+4:=⟨_,rfl⟩
     have hK2:k<=K:=by omega
     have hKo:((k+2:Nat):Int)=(K:Int)-2:=by omega
     rw [<- hK] at P16 z16 RQ
     rw [hKo] at ix
     have i1:IntKind.i64.wrap ((K:Int)-2)=(K:Int)-2:=by rw [IntKind.wrap_i64];omega
     have i2:wrap64 ((K:Int)-2)=(K:Int)-2:=by unfold wrap64;omega
     clear hK hKo hh
     have c0:=P16.out.1.c0
     have c1:=P16.out.1.c1
     go_wp2_with fail
     go_quiet (fail)
     have P16q:Hid (PX (World.drewN _ nq) pb s K (some (s.data.toList.drop (K),L))/\Below pb w (World.drewN _ nq)):=⟨P16.out.1.drewN nq,below_drewN P16.out.2 nq⟩
     clear c0 c1 ix
     go_wp2_with fail
     refine (hl (K) L _ P16q.out.1).mono ?_
     rintro e w17 ⟨rfl,⟨k17,q17,p17⟩,b17⟩
     have P17:Hid (PX w17 pb s k17 (lev n 1 (s.data.toList.drop (K),L))/\Below pb w w17):=⟨p17,P16q.out.2.trans b17⟩
     clear p17 b17
     obtain ⟨X17,hX17⟩ : ∃ X,X=lev n 1 (s.data.toList.drop (K),L):=⟨_,rfl⟩
     rw [<- hX17] at P17 RQ
     clear hX17
     cases X17 with
     | none =>
      have c3:=P17.out.1.c3
      simp only [Option.isNone_none] at c3
      have f3:=P17.out.1.fz 3
      have P18:Hid (PX (World.setCell _ ⟨pb,3,none⟩ (.bool true)) pb s (k17) none/\Below pb w (World.setCell _ ⟨pb,3,none⟩ (.bool true))):=⟨P17.out.1.bad_,P17.out.2.trans below_set⟩
      go_wp2_with fail
      refine (put_any pb (k17) s none _ P18.out.1 (7) (0) (E0)).mono ?_
      rintro e w19 ⟨rfl,p19,b19⟩
      have P19:Hid (PX w19 pb s (k17) (Option.bind none (put (7,0,E0)))/\Below pb w w19):=⟨p19,P18.out.2.trans b19⟩
      clear p19 b19
      go_wp2_with fail
      first|go_end0|refine bodyPost_ret (results_none rfl _ _ _) rfl ?_
      exact QX.of (RQ.out.trans (congrArg (fun o=>Option.bind o (put (7,0,E0))) (show Option.bind _ close=none from rfl))) (by omega) P19.out.1 P19.out.2
     | some st =>
      obtain ⟨l1,L1⟩:=st
      have hl1:=congrArg Prod.fst P17.out.1.st
      simp only [] at hl1
      subst hl1
      have c3:=P17.out.1.c3
      simp only [Option.isNone_some] at c3
      have f3:=P17.out.1.fz 3
      go_wp2_with fail
      refine is_cases pb (k17) s _ L1 _ P17.out.1 (by decide) ?_ ?_
      ·intro w20 e20 p20 b20
       have P20:Hid (PX w20 pb s (k17+1) (some (s.data.toList.drop (k17+1),L1))/\Below pb w w20):=⟨p20,P17.out.2.trans b20⟩
       have E20:Hid (here s (k17) ⟨#[41]⟩=true):=e20
       have z20:=here_size e20
       change k17+1<=s.size at z20
       clear e20 p20 b20
       clear c3 f3
       have c3:=P20.out.1.c3
       simp only [Option.isNone_some] at c3
       have f3:=P20.out.1.fz 3
       have P21:Hid (PX (World.setCell _ ⟨pb,3,none⟩ (.bool false)) pb s (k17+1) (some (s.data.toList.drop (k17+1),L1))/\Below pb w (World.setCell _ ⟨pb,3,none⟩ (.bool false))):=⟨P20.out.1.good_,P20.out.2.trans below_set⟩
       go_wp2_with fail
       refine (put_any pb (k17+1) s (some (s.data.toList.drop (k17+1),L1)) _ P21.out.1 (7) (0) (E0)).mono ?_
       rintro e w22 ⟨rfl,p22,b22⟩
       have P22:Hid (PX w22 pb s (k17+1) (Option.bind (some (s.data.toList.drop (k17+1),L1)) (put (7,0,E0)))/\Below pb w w22):=⟨p22,P21.out.2.trans b22⟩
       clear p22 b22
       go_wp2_with fail
       first|go_end0|refine bodyPost_ret (results_none rfl _ _ _) rfl ?_
       exact QX.of (RQ.out.trans (congrArg (fun o=>Option.bind o (put (7,0,E0))) (show Option.bind _ close=(some (s.data.toList.drop (k17+1),L1)) from close_yes E20.out))) (by omega) P22.out.1 P22.out.2
      ·intro w20 e20 p20 b20
       have P20:Hid (PX w20 pb s (k17) (some (s.data.toList.drop (k17),L1))/\Below pb w w20):=⟨p20,P17.out.2.trans b20⟩
       have E20:Hid (here s (k17) ⟨#[41]⟩=false):=e20
       clear e20 p20 b20
       clear c3 f3
       have c3:=P20.out.1.c3
       simp only [Option.isNone_some] at c3
       have f3:=P20.out.1.fz 3
       have P23:Hid (PX (World.setCell _ ⟨pb,3,none⟩ (.bool true)) pb s (k17) none/\Below pb w (World.setCell _ ⟨pb,3,none⟩ (.bool true))):=⟨P20.out.1.bad_,P20.out.2.trans below_set⟩
       go_wp2_with fail
       refine (put_any pb (k17) s none _ P23.out.1 (7) (0) (E0)).mono ?_
       rintro e w24 ⟨rfl,p24,b24⟩
       have P24:Hid (PX w24 pb s (k17) (Option.bind none (put (7,0,E0)))/\Below pb w w24):=⟨p24,P23.out.2.trans b24⟩
       clear p24 b24
       go_wp2_with fail
       first|go_end0|refine bodyPost_ret (results_none rfl _ _ _) rfl ?_
       exact QX.of (RQ.out.trans (congrArg (fun o=>Option.bind o (put (7,0,E0))) (show Option.bind _ close=none from close_no E20.out))) (by omega) P24.out.1 P24.out.2
    ·intro w16 e16 p16 b16
     have P16:Hid (PX w16 pb s (k) (some (s.data.toList.drop (k),L))/\Below pb w w16):=⟨p16,P7.out.2.trans b16⟩
     have E16:Hid (here s (k) tLow=false):=e16
     clear e16 p16 b16
     have EL:=E16
     go_wp2_with fail
     refine is_cases pb (k) s _ L _ P16.out.1 (by decide) ?_ ?_
     ·intro w25 e25 p25 b25
      have P25:Hid (PX w25 pb s (k+5) (some (s.data.toList.drop (k+5),L))/\Below pb w w25):=⟨p25,P16.out.2.trans b25⟩
      have E25:Hid (here s (k) tBank=true):=e25
      have z25:=here_size e25
      change k+5<=s.size at z25
      clear e25 p25 b25
      have RQ:Hid (R=bankF (s.data.toList.drop (k+5),L)):=HR.out.trans (val_bank (op_ba E25.out))
      go_wp2_with fail
      refine (word_any pb (k+5) s L _ P25.out.1).mono ?_
      rintro e w26 ⟨k26,q26,r26,rfl,haf,p26,b26⟩
      have P26:Hid (PX w26 pb s k26 (some (s.data.toList.drop (k26),L))/\Below pb w w26):=⟨p26,P25.out.2.trans b26⟩
      clear p26 b26
      have hz:(s.extract (k+5) k26).size<=200:=by rw [ByteArray.size_extract];omega
      have RB:Hid (R=if Names.nameB (s.extract (k+5) k26)=true then (put (3,0,s.extract (k+5) k26) (s.data.toList.drop k26,L)).bind close else none):=(show R=_ from by rw [RQ.out];unfold bankF;rw [bs_wd q26 r26 haf,haf])
      clear haf RQ
      generalize s.extract (k+5) k26=t at *
      have c3:=P26.out.1.c3
      simp only [Option.isNone_some] at c3
      have f3:=P26.out.1.fz 3
      have cn:=fun W=>Names.specName_any t W (by unfold maxLen;omega)
      cases hn:Names.nameB t with
      | false =>
       rw [hn] at cn
       have RN:Hid (R=none):=(show R=none from by rw [RB.out,if_neg (by rw [hn];decide)])
       have P27:Hid (PX (World.setCell _ ⟨pb,3,none⟩ (.bool true)) pb s (k26) none/\Below pb w (World.setCell _ ⟨pb,3,none⟩ (.bool true))):=⟨P26.out.1.bad_,P26.out.2.trans below_set⟩
       go_wp2_with fail
       refine (cn _).mono ?_
       rintro e w26a ⟨rfl,hw⟩
       have hw:=hw.symm
       subst hw
       go_wp2_with fail
       refine (put_any pb (k26) s none _ P27.out.1 (3) (0) (t)).mono ?_
       rintro e w28 ⟨rfl,p28,b28⟩
       have P28:Hid (PX w28 pb s (k26) (Option.bind none (put (3,0,t)))/\Below pb w w28):=⟨p28,P27.out.2.trans b28⟩
       clear p28 b28
       go_wp2_with fail
       first|go_end0|refine bodyPost_ret (results_none rfl _ _ _) rfl ?_
       exact QX.of (RN.out) (by omega) P28.out.1 P28.out.2
      | true =>
       rw [hn] at cn
       have RN:Hid (R=(put (3,0,t) (s.data.toList.drop k26,L)).bind close):=(show R=_ from by rw [RB.out,if_pos hn])
       go_wp2_with fail
       refine (cn _).mono ?_
       rintro e w26a ⟨rfl,hw⟩
       have hw:=hw.symm
       subst hw
       go_wp2_with fail
       refine is_cases pb (k26) s _ L _ P26.out.1 (by decide) ?_ ?_
       ·intro w29 e29 p29 b29
        have P29:Hid (PX w29 pb s (k26+1) (some (s.data.toList.drop (k26+1),L))/\Below pb w w29):=⟨p29,P26.out.2.trans b29⟩
        have E29:Hid (here s (k26) ⟨#[41]⟩=true):=e29
        have z29:=here_size e29
        change k26+1<=s.size at z29
        clear e29 p29 b29
        clear c3 f3
        have c3:=P29.out.1.c3
        simp only [Option.isNone_some] at c3
        have f3:=P29.out.1.fz 3
        have P30:Hid (PX (World.setCell _ ⟨pb,3,none⟩ (.bool false)) pb s (k26+1) (some (s.data.toList.drop (k26+1),L))/\Below pb w (World.setCell _ ⟨pb,3,none⟩ (.bool false))):=⟨P29.out.1.good_,P29.out.2.trans below_set⟩
        go_wp2_with fail
        refine (put_any pb (k26+1) s (some (s.data.toList.drop (k26+1),L)) _ P30.out.1 (3) (0) (t)).mono ?_
        rintro e w31 ⟨rfl,p31,b31⟩
        have P31:Hid (PX w31 pb s (k26+1) (Option.bind (some (s.data.toList.drop (k26+1),L)) (put (3,0,t)))/\Below pb w w31):=⟨p31,P30.out.2.trans b31⟩
        clear p31 b31
        go_wp2_with fail
        first|go_end0|refine bodyPost_ret (results_none rfl _ _ _) rfl ?_
        exact QX.of (RN.out.trans (put_close E29.out)) (by omega) P31.out.1 P31.out.2
       ·intro w29 e29 p29 b29
        have P29:Hid (PX w29 pb s (k26) (some (s.data.toList.drop (k26),L))/\Below pb w w29):=⟨p29,P26.out.2.trans b29⟩
        have E29:Hid (here s (k26) ⟨#[41]⟩=false):=e29
        clear e29 p29 b29
        clear c3 f3
        have c3:=P29.out.1.c3
        simp only [Option.isNone_some] at c3
        have f3:=P29.out.1.fz 3
        have P32:Hid (PX (World.setCell _ ⟨pb,3,none⟩ (.bool true)) pb s (k26) none/\Below pb w (World.setCell _ ⟨pb,3,none⟩ (.bool true))):=⟨P29.out.1.bad_,P29.out.2.trans below_set⟩
        go_wp2_with fail
        refine (put_any pb (k26) s none _ P32.out.1 (3) (0) (t)).mono ?_
        rintro e w33 ⟨rfl,p33,b33⟩
        have P33:Hid (PX w33 pb s (k26) (Option.bind none (put (3,0,t)))/\Below pb w w33):=⟨p33,P32.out.2.trans b33⟩
        clear p33 b33
        go_wp2_with fail
        first|go_end0|refine bodyPost_ret (results_none rfl _ _ _) rfl ?_
        exact QX.of (RN.out.trans (put_close_no E29.out)) (by omega) P33.out.1 P33.out.2
     ·intro w25 e25 p25 b25
      have P25:Hid (PX w25 pb s (k) (some (s.data.toList.drop (k),L))/\Below pb w w25):=⟨p25,P16.out.2.trans b25⟩
      have E25:Hid (here s (k) tBank=false):=e25
      clear e25 p25 b25
      have EB:=E25
      go_wp2_with fail
      refine is_cases pb (k) s _ L _ P25.out.1 (by decide) ?_ ?_
      ·intro w34 e34 p34 b34
       have P34:Hid (PX w34 pb s (k+1) (some (s.data.toList.drop (k+1),L))/\Below pb w w34):=⟨p34,P25.out.2.trans b34⟩
       have E34:Hid (here s (k) ⟨#[40]⟩=true):=e34
       have z34:=here_size e34
       change k+1<=s.size at z34
       clear e34 p34 b34
       have RQ:Hid (R=(lev n 1 (s.data.toList.drop (k+1),L)).bind close):=HR.out.trans (val_br (hd_yes 40 (by decide) E34.out))
       go_wp2_with fail
       refine (hl (k+1) L _ P34.out.1).mono ?_
       rintro e w35 ⟨rfl,⟨k35,q35,p35⟩,b35⟩
       have P35:Hid (PX w35 pb s k35 (lev n 1 (s.data.toList.drop (k+1),L))/\Below pb w w35):=⟨p35,P34.out.2.trans b35⟩
       clear p35 b35
       obtain ⟨X35,hX35⟩ : ∃ X,X=lev n 1 (s.data.toList.drop (k+1),L):=⟨_,rfl⟩
       rw [<- hX35] at P35 RQ
       clear hX35
       cases X35 with
       | none =>
        have c3:=P35.out.1.c3
        simp only [Option.isNone_none] at c3
        have f3:=P35.out.1.fz 3
        have P36:Hid (PX (World.setCell _ ⟨pb,3,none⟩ (.bool true)) pb s (k35) none/\Below pb w (World.setCell _ ⟨pb,3,none⟩ (.bool true))):=⟨P35.out.1.bad_,P35.out.2.trans below_set⟩
        go_wp2_with fail
        first|go_end0|refine bodyPost_ret (results_none rfl _ _ _) rfl ?_
        exact QX.of (RQ.out.trans (show Option.bind _ close=none from rfl)) (by omega) P36.out.1 P36.out.2
       | some st =>
        obtain ⟨l1,L1⟩:=st
        have hl1:=congrArg Prod.fst P35.out.1.st
        simp only [] at hl1
        subst hl1
        have c3:=P35.out.1.c3
        simp only [Option.isNone_some] at c3
        have f3:=P35.out.1.fz 3
        go_wp2_with fail
        refine is_cases pb (k35) s _ L1 _ P35.out.1 (by decide) ?_ ?_
        ·intro w37 e37 p37 b37
         have P37:Hid (PX w37 pb s (k35+1) (some (s.data.toList.drop (k35+1),L1))/\Below pb w w37):=⟨p37,P35.out.2.trans b37⟩
         have E37:Hid (here s (k35) ⟨#[41]⟩=true):=e37
         have z37:=here_size e37
         change k35+1<=s.size at z37
         clear e37 p37 b37
         clear c3 f3
         have c3:=P37.out.1.c3
         simp only [Option.isNone_some] at c3
         have f3:=P37.out.1.fz 3
         have P38:Hid (PX (World.setCell _ ⟨pb,3,none⟩ (.bool false)) pb s (k35+1) (some (s.data.toList.drop (k35+1),L1))/\Below pb w (World.setCell _ ⟨pb,3,none⟩ (.bool false))):=⟨P37.out.1.good_,P37.out.2.trans below_set⟩
         go_wp2_with fail
         first|go_end0|refine bodyPost_ret (results_none rfl _ _ _) rfl ?_
         exact QX.of (RQ.out.trans (show Option.bind _ close=(some (s.data.toList.drop (k35+1),L1)) from close_yes E37.out)) (by omega) P38.out.1 P38.out.2
        ·intro w37 e37 p37 b37
         have P37:Hid (PX w37 pb s (k35) (some (s.data.toList.drop (k35),L1))/\Below pb w w37):=⟨p37,P35.out.2.trans b37⟩
         have E37:Hid (here s (k35) ⟨#[41]⟩=false):=e37
         clear e37 p37 b37
         clear c3 f3
         have c3:=P37.out.1.c3
         simp only [Option.isNone_some] at c3
         have f3:=P37.out.1.fz 3
         have P39:Hid (PX (World.setCell _ ⟨pb,3,none⟩ (.bool true)) pb s (k35) none/\Below pb w (World.setCell _ ⟨pb,3,none⟩ (.bool true))):=⟨P37.out.1.bad_,P37.out.2.trans below_set⟩
         go_wp2_with fail
         first|go_end0|refine bodyPost_ret (results_none rfl _ _ _) rfl ?_
         exact QX.of (RQ.out.trans (show Option.bind _ close=none from close_no E37.out)) (by omega) P39.out.1 P39.out.2
      ·intro w34 e34 p34 b34
       have P34:Hid (PX w34 pb s (k) (some (s.data.toList.drop (k),L))/\Below pb w w34):=⟨p34,P25.out.2.trans b34⟩
       have E34:Hid (here s (k) ⟨#[40]⟩=false):=e34
       clear e34 p34 b34
       have EQ40:=E34
       go_wp2_with fail
       refine is_cases pb (k) s _ L _ P34.out.1 (by decide) ?_ ?_
       ·intro w40 e40 p40 b40
        have P40:Hid (PX w40 pb s (k+1) (some (s.data.toList.drop (k+1),L))/\Below pb w w40):=⟨p40,P34.out.2.trans b40⟩
        have E40:Hid (here s (k) ⟨#[36]⟩=true):=e40
        have z40:=here_size e40
        change k+1<=s.size at z40
        clear e40 p40 b40
        go_wp2_with fail
        refine (word_any pb (k+1) s L _ P40.out.1).mono ?_
        rintro e w41 ⟨k41,q41,r41,rfl,haf,p41,b41⟩
        have P41:Hid (PX w41 pb s k41 (some (s.data.toList.drop (k41),L))/\Below pb w w41):=⟨p41,P40.out.2.trans b41⟩
        clear p41 b41
        have hz:(s.extract (k+1) k41).size<=200:=by rw [ByteArray.size_extract];omega
        have hsg:hd (s.data.toList.drop k)=((36:UInt8).toNat:Int):=hd_yes 36 (by decide) E40.out
        have RL:Hid (R=leafF (s.extract k k41) (s.data.toList.drop k41,L)):=HR.out.trans (val_sign q41 r41 (.inl hsg) haf)
        have NN:Hid (Names.nameB (s.extract k k41)=false):=name_sign (by omega) r41 hsg (by decide)
        have CT:Hid ((⟨#[36]⟩ : ByteArray) ++ s.extract (k+1) k41=s.extract k k41):=cat_sign q41 r41 hsg
        clear hsg
        clear haf
        have hzt:(s.extract k k41).size<=201:=by rw [ByteArray.size_extract];omega
        obtain ⟨t2,ht2⟩ : ∃ t2,t2=s.extract k k41:=⟨_,rfl⟩
        rw [<- ht2] at RL CT hzt NN
        generalize s.extract (k+1) k41=t at *
        clear ht2
        have c3:=P41.out.1.c3
        simp only [Option.isNone_some] at c3
        have f3:=P41.out.1.fz 3
        have cr:=fun W=>Nums.specNum_any t2 W (by unfold maxLen;omega)
        rw [<- CT.out] at cr
        have cn:=fun W=>Names.specName_any t W (by unfold maxLen;omega)
        skip
        cases hN:Nums.num t2 with
        | some m =>
         have RQ:Hid (R=put (1,m,E0) (s.data.toList.drop k41,L)):=RL.out.trans (Xime.leaf_num hN)
         have hN2:Nums.num ((⟨#[36]⟩ : ByteArray) ++ t)=some m:=by rw [CT.out];exact hN
         rw [hN2] at cr
         simp only [Option.getD_some,Option.isSome_some] at cr
         clear hN hN2 RL
         go_wp2_with fail
         refine (cr _).mono ?_
         rintro e w41a ⟨rfl,hw⟩
         have hw:=hw.symm
         subst hw
         go_wp2_with fail
         refine (put_any pb (k41) s (some (s.data.toList.drop (k41),L)) _ P41.out.1 (1) (m) (E0)).mono ?_
         rintro e w42 ⟨rfl,p42,b42⟩
         have P42:Hid (PX w42 pb s (k41) (Option.bind (some (s.data.toList.drop (k41),L)) (put (1,m,E0)))/\Below pb w w42):=⟨p42,P41.out.2.trans b42⟩
         clear p42 b42
         go_wp2_with fail
         first|go_end0|refine bodyPost_ret (results_none rfl _ _ _) rfl ?_
         exact QX.of (RQ.out) (by omega) P42.out.1 P42.out.2
        | none =>
         have RQ:Hid (R=if Names.nameB t2=true then put (2,0,t2) (s.data.toList.drop k41,L) else none):=RL.out.trans (Xime.leaf_name hN)
         have hN2:Nums.num ((⟨#[36]⟩ : ByteArray) ++ t)=none:=by rw [CT.out];exact hN
         rw [hN2] at cr
         simp only [Option.getD_none,Option.isSome_none] at cr
         clear hN hN2 RL
         have P43:Hid (PX (World.setCell _ ⟨pb,3,none⟩ (.bool true)) pb s (k41) none/\Below pb w (World.setCell _ ⟨pb,3,none⟩ (.bool true))):=⟨P41.out.1.bad_,P41.out.2.trans below_set⟩
         go_wp2_with fail
         refine (cr _).mono ?_
         rintro e w41a ⟨rfl,hw⟩
         have hw:=hw.symm
         subst hw
         go_wp2_with fail
         first|go_end0|refine bodyPost_ret (results_none rfl _ _ _) rfl ?_
         exact QX.of (RQ.out.trans (if_neg (by rw [NN.out];decide))) (by omega) P43.out.1 P43.out.2
       ·intro w40 e40 p40 b40
        have P40:Hid (PX w40 pb s (k) (some (s.data.toList.drop (k),L))/\Below pb w w40):=⟨p40,P34.out.2.trans b40⟩
        have E40:Hid (here s (k) ⟨#[36]⟩=false):=e40
        clear e40 p40 b40
        have EQ36:=E40
        go_wp2_with fail
        refine is_cases pb (k) s _ L _ P40.out.1 (by decide) ?_ ?_
        ·intro w44 e44 p44 b44
         have P44:Hid (PX w44 pb s (k+1) (some (s.data.toList.drop (k+1),L))/\Below pb w w44):=⟨p44,P40.out.2.trans b44⟩
         have E44:Hid (here s (k) ⟨#[37]⟩=true):=e44
         have z44:=here_size e44
         change k+1<=s.size at z44
         clear e44 p44 b44
         go_wp2_with fail
         refine (word_any pb (k+1) s L _ P44.out.1).mono ?_
         rintro e w45 ⟨k45,q45,r45,rfl,haf,p45,b45⟩
         have P45:Hid (PX w45 pb s k45 (some (s.data.toList.drop (k45),L))/\Below pb w w45):=⟨p45,P44.out.2.trans b45⟩
         clear p45 b45
         have hz:(s.extract (k+1) k45).size<=200:=by rw [ByteArray.size_extract];omega
         have hsg:hd (s.data.toList.drop k)=((37:UInt8).toNat:Int):=hd_yes 37 (by decide) E44.out
         have RL:Hid (R=leafF (s.extract k k45) (s.data.toList.drop k45,L)):=HR.out.trans (val_sign q45 r45 (.inr hsg) haf)
         have NN:Hid (Names.nameB (s.extract k k45)=false):=name_sign (by omega) r45 hsg (by decide)
         have CT:Hid ((⟨#[37]⟩ : ByteArray) ++ s.extract (k+1) k45=s.extract k k45):=cat_sign q45 r45 hsg
         clear hsg
         clear haf
         have hzt:(s.extract k k45).size<=201:=by rw [ByteArray.size_extract];omega
         obtain ⟨t2,ht2⟩ : ∃ t2,t2=s.extract k k45:=⟨_,rfl⟩
         rw [<- ht2] at RL CT hzt NN
         generalize s.extract (k+1) k45=t at *
         clear ht2
         have c3:=P45.out.1.c3
         simp only [Option.isNone_some] at c3
         have f3:=P45.out.1.fz 3
         have cr:=fun W=>Nums.specNum_any t2 W (by unfold maxLen;omega)
         rw [<- CT.out] at cr
         have cn:=fun W=>Names.specName_any t W (by unfold maxLen;omega)
         skip
         cases hN:Nums.num t2 with
         | some m =>
          have RQ:Hid (R=put (1,m,E0) (s.data.toList.drop k45,L)):=RL.out.trans (Xime.leaf_num hN)
          have hN2:Nums.num ((⟨#[37]⟩ : ByteArray) ++ t)=some m:=by rw [CT.out];exact hN
          rw [hN2] at cr
          simp only [Option.getD_some,Option.isSome_some] at cr
          clear hN hN2 RL
          go_wp2_with fail
          refine (cr _).mono ?_
          rintro e w45a ⟨rfl,hw⟩
          have hw:=hw.symm
          subst hw
          go_wp2_with fail
          refine (put_any pb (k45) s (some (s.data.toList.drop (k45),L)) _ P45.out.1 (1) (m) (E0)).mono ?_
          rintro e w46 ⟨rfl,p46,b46⟩
          have P46:Hid (PX w46 pb s (k45) (Option.bind (some (s.data.toList.drop (k45),L)) (put (1,m,E0)))/\Below pb w w46):=⟨p46,P45.out.2.trans b46⟩
          clear p46 b46
          go_wp2_with fail
          first|go_end0|refine bodyPost_ret (results_none rfl _ _ _) rfl ?_
          exact QX.of (RQ.out) (by omega) P46.out.1 P46.out.2
         | none =>
          have RQ:Hid (R=if Names.nameB t2=true then put (2,0,t2) (s.data.toList.drop k45,L) else none):=RL.out.trans (Xime.leaf_name hN)
          have hN2:Nums.num ((⟨#[37]⟩ : ByteArray) ++ t)=none:=by rw [CT.out];exact hN
          rw [hN2] at cr
          simp only [Option.getD_none,Option.isSome_none] at cr
          clear hN hN2 RL
          have P47:Hid (PX (World.setCell _ ⟨pb,3,none⟩ (.bool true)) pb s (k45) none/\Below pb w (World.setCell _ ⟨pb,3,none⟩ (.bool true))):=⟨P45.out.1.bad_,P45.out.2.trans below_set⟩
          go_wp2_with fail
          refine (cr _).mono ?_
          rintro e w45a ⟨rfl,hw⟩
          have hw:=hw.symm
          subst hw
          go_wp2_with fail
          first|go_end0|refine bodyPost_ret (results_none rfl _ _ _) rfl ?_
          exact QX.of (RQ.out.trans (if_neg (by rw [NN.out];decide))) (by omega) P47.out.1 P47.out.2
        ·intro w44 e44 p44 b44
         have P44:Hid (PX w44 pb s (k) (some (s.data.toList.drop (k),L))/\Below pb w w44):=⟨p44,P40.out.2.trans b44⟩
         have E44:Hid (here s (k) ⟨#[37]⟩=false):=e44
         clear e44 p44 b44
         go_wp2_with fail
         refine (word_any pb (k) s L _ P44.out.1).mono ?_
         rintro e w48 ⟨k48,q48,r48,rfl,haf,p48,b48⟩
         have P48:Hid (PX w48 pb s k48 (some (s.data.toList.drop (k48),L))/\Below pb w w48):=⟨p48,P44.out.2.trans b48⟩
         clear p48 b48
         have hz:(s.extract (k) k48).size<=200:=by rw [ByteArray.size_extract];omega
         have RL:Hid (R=leafF (s.extract k k48) (s.data.toList.drop k48,L)):=HR.out.trans (val_leaf q48 r48 haf (hd_no 45 (by decide) EQ45.out) (hd_no 126 (by decide) EQ126.out) (hd_no 40 (by decide) EQ40.out) (hd_no 36 (by decide) EQ36.out) (hd_no 37 (by decide) E44.out) (op_hi EH.out) (op_lo EL.out) (op_ba EB.out))
         have CT:Hid ((⟨#[]⟩ : ByteArray) ++ s.extract k k48=s.extract k k48):=ByteArray.empty_append
         clear haf
         have hzt:(s.extract k k48).size<=201:=by rw [ByteArray.size_extract];omega
         obtain ⟨t2,ht2⟩ : ∃ t2,t2=s.extract k k48:=⟨_,rfl⟩
         rw [<- ht2] at RL CT hzt
         rw [<- ht2] at hz
         rw [<- ht2]
         clear ht2
         have c3:=P48.out.1.c3
         simp only [Option.isNone_some] at c3
         have f3:=P48.out.1.fz 3
         have cr:=fun W=>Nums.specNum_any t2 W (by unfold maxLen;omega)
         rw [<- CT.out] at cr
         have cn:=fun W=>Names.specName_any t2 W (by unfold maxLen;omega)
         skip
         cases hN:Nums.num t2 with
         | some m =>
          have RQ:Hid (R=put (1,m,E0) (s.data.toList.drop k48,L)):=RL.out.trans (Xime.leaf_num hN)
          have hN2:Nums.num ((⟨#[]⟩ : ByteArray) ++ t2)=some m:=by rw [CT.out];exact hN
          rw [hN2] at cr
          simp only [Option.getD_some,Option.isSome_some] at cr
          clear hN hN2 RL
          go_wp2_with fail
          refine (cr _).mono ?_
          rintro e w48a ⟨rfl,hw⟩
          have hw:=hw.symm
          subst hw
          go_wp2_with fail
          refine (put_any pb (k48) s (some (s.data.toList.drop (k48),L)) _ P48.out.1 (1) (m) (E0)).mono ?_
          rintro e w49 ⟨rfl,p49,b49⟩
          have P49:Hid (PX w49 pb s (k48) (Option.bind (some (s.data.toList.drop (k48),L)) (put (1,m,E0)))/\Below pb w w49):=⟨p49,P48.out.2.trans b49⟩
          clear p49 b49
          go_wp2_with fail
          first|go_end0|refine bodyPost_ret (results_none rfl _ _ _) rfl ?_
          exact QX.of (RQ.out) (by omega) P49.out.1 P49.out.2
         | none =>
          have RQ:Hid (R=if Names.nameB t2=true then put (2,0,t2) (s.data.toList.drop k48,L) else none):=RL.out.trans (Xime.leaf_name hN)
          have hN2:Nums.num ((⟨#[]⟩ : ByteArray) ++ t2)=none:=by rw [CT.out];exact hN
          rw [hN2] at cr
          simp only [Option.getD_none,Option.isSome_none] at cr
          clear hN hN2 RL
          have P50:Hid (PX (World.setCell _ ⟨pb,3,none⟩ (.bool true)) pb s (k48) none/\Below pb w (World.setCell _ ⟨pb,3,none⟩ (.bool true))):=⟨P48.out.1.bad_,P48.out.2.trans below_set⟩
          cases hn:Names.nameB t2 with
          | true =>
           have RN:Hid (R=put (2,0,t2) (s.data.toList.drop k48,L)):=RQ.out.trans (if_pos hn)
           rw [hn] at cn
           clear hn
           go_wp2_with fail
           refine (cr _).mono ?_
           rintro e w48a ⟨rfl,hw⟩
           have hw:=hw.symm
           subst hw
           go_wp2_with fail
           refine (cn _).mono ?_
           rintro e w48b ⟨rfl,hw⟩
           have hw:=hw.symm
           subst hw
           go_wp2_with fail
           refine (put_any pb (k48) s (some (s.data.toList.drop (k48),L)) _ P48.out.1 (2) (0) (t2)).mono ?_
           rintro e w51 ⟨rfl,p51,b51⟩
           have P51:Hid (PX w51 pb s (k48) (Option.bind (some (s.data.toList.drop (k48),L)) (put (2,0,t2)))/\Below pb w w51):=⟨p51,P48.out.2.trans b51⟩
           clear p51 b51
           go_wp2_with fail
           first|go_end0|refine bodyPost_ret (results_none rfl _ _ _) rfl ?_
           exact QX.of (RN.out) (by omega) P51.out.1 P51.out.2
          | false =>
           have RN:Hid (R=none):=RQ.out.trans (if_neg (by rw [hn];decide))
           rw [hn] at cn
           clear hn
           go_wp2_with fail
           refine (cr _).mono ?_
           rintro e w48a ⟨rfl,hw⟩
           have hw:=hw.symm
           subst hw
           go_wp2_with fail
           refine (cn _).mono ?_
           rintro e w48b ⟨rfl,hw⟩
           have hw:=hw.symm
           subst hw
           go_wp2_with fail
           first|go_end0|refine bodyPost_ret (results_none rfl _ _ _) rfl ?_
           exact QX.of (RN.out) (by omega) P50.out.1 P50.out.2
end Cmxc
end Go.Proofs.YtbofcepdckpkkaaGreatDoor
