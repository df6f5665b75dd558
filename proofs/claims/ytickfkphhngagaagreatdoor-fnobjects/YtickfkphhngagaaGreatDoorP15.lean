import Derived.Test.YtickfkphhngagaaGreatDoorP13
set_option linter.all false
set_option maxRecDepth 20000
set_option maxHeartbeats 8000000
open Go.ChangeShapes Go.WideShapes Go.ChangeAt Go.RowKit
open Go.Proofs.Tryz
namespace Go.Proofs.YtickfkphhngagaaGreatDoor
namespace Cmpc
open Go.Deep
open Cmpa Cmpb
theorem PS.c0 {w:World} {pb k:Nat} {s:ByteArray} {bad:Bool} (h:PS w pb s k bad):w.cell? ⟨pb,0,none⟩=some (.string s):=by obtain ⟨a,cap,L,c0,c1,c2,c3,cf,_⟩:=h;exact c0
theorem PS.c1 {w:World} {pb k:Nat} {s:ByteArray} {bad:Bool} (h:PS w pb s k bad):w.cell? ⟨pb,1,none⟩=some (.int .i64 k):=by obtain ⟨a,cap,L,c0,c1,c2,c3,cf,_⟩:=h;exact c1
theorem PS.c3 {w:World} {pb k:Nat} {s:ByteArray} {bad:Bool} (h:PS w pb s k bad):w.cell? ⟨pb,3,none⟩=some (.bool bad):=by obtain ⟨a,cap,L,c0,c1,c2,c3,cf,_⟩:=h;exact c3
theorem PS.fz {w:World} {pb k:Nat} {s:ByteArray} {bad:Bool} (h:PS w pb s k bad) (i:Nat):w.frozen? ⟨pb,i,none⟩=false:=by obtain ⟨a,cap,L,c0,c1,c2,c3,cf,_⟩:=h;exact cf i
theorem is_cases (pb k:Nat) (s t:ByteArray) (bad:Bool) (w:World) (h:PS w pb s k bad) (ht:t.size<=10) {Q:Ending->World->Prop}
  (hT:∀ w',here s k t=true->PS w' pb s (k+t.size) bad->Below pb w w'->Q (.returned (.bool true)) w') (hF:∀ w',here s k t=false->PS w' pb s k bad->Below pb w w'->Q (.returned (.bool false)) w') :
  Calls prog 186 #[.pointer (some ⟨pb,0,none⟩),.string t] w Q:=by
 refine (is_any pb k s t bad w h ht).mono ?_
 rintro e w' ⟨rfl,p,b⟩
 cases e1:here s k t with
 | true=>unfold nx at p;rw [e1,if_pos rfl] at p;exact hT w' e1 p b
 | false=>unfold nx at p;rw [e1,if_neg (by decide)] at p;exact hF w' e1 p b
def Q (pb:Nat) (s:ByteArray) (k:Nat) (w:World) (e:Ending) (w':World):Prop:=e=.returned (.tuple #[])/\(∃ j b,k<=j/\PS w' pb s j b)/\Below pb w w'
theorem Q.of {pb k j:Nat} {s:ByteArray} {b:Bool} {w w':World} (hj:k<=j) (hp:PS w' pb s j b) (hb:Below pb w w'):Q pb s k w (.returned (.tuple #[])) w':=⟨rfl,⟨j,b,hj,hp⟩,hb⟩
theorem good0 (s:ByteArray) (kd n:Int):Cmpa.Good s (kd,n,⟨#[]⟩):=⟨Nat.zero_le _,.inl rfl⟩
theorem here_size {s t:ByteArray} {k:Nat} (h:here s k t=true):k+t.size<=s.size:=(of_decide_eq_true h).1
theorem here_cut {s:ByteArray} {k j:Nat} (h:k<=j) (hj:j<=s.size):here s k (s.extract k j)=true:=by
 have e:(s.extract k j).size=j-k:=by rw [ByteArray.size_extract];omega
 refine decide_eq_true ⟨by rw [e];omega,?_⟩
 rw [e,show k+(j-k)=j by omega]
theorem good_name {s:ByteArray} {k j:Nat} (hs:s.size<=200) (h:k<=j) (hj:j<=s.size) (h1:here s k tHigh=false) (h2:here s k tLow=false) (kd n:Int):Cmpa.Good s (kd,n,s.extract k j) :=
 ⟨by show (s.extract k j).size<=200;rw [ByteArray.size_extract];omega,.inr ⟨k,here_cut h hj,.inl ⟨h1,h2⟩⟩⟩
theorem good_bank {s:ByteArray} {k j:Nat} (hs:s.size<=200) (h:k+5<=j) (hj:j<=s.size) (h1:here s k tBank=true) (kd n:Int):Cmpa.Good s (kd,n,s.extract (k+5) j) :=
 ⟨by show (s.extract (k+5) j).size<=200;rw [ByteArray.size_extract];omega,.inr ⟨k+5,here_cut h hj,.inr ⟨k,rfl,h1⟩⟩⟩
theorem value_deep (pb k:Nat) (s:ByteArray) (bad:Bool) (w:World) (h:PS w pb s k bad) :
  Calls prog 167 #[.pointer (some ⟨pb,0,none⟩),.int .i64 31] w fun e w'=>e=.returned (.tuple #[])/\PS w' pb s k true/\Below pb w w':=by
 have H:Hid (PS w pb s k bad):=h
 have c3:=PS.c3 h
 have f3:=PS.fz h 3
 clear h
 go_enter func167,ntmps167
 go_wp2
 first|go_end0|refine bodyPost_ret (results_none rfl _ _ _) rfl ?_
 exact ⟨rfl,H.out.bad_ true,below_set⟩
theorem value_step (pb k deep:Nat) (s:ByteArray) (bad:Bool) (w:World) (h:PS w pb s k bad) (hd1:1<=deep) (hd:deep<=30)
  (hv:∀ k bad w,PS w pb s k bad->Calls prog 167 #[.pointer (some ⟨pb,0,none⟩),.int .i64 ((deep:Int)+1)] w (Q pb s k w))
  (hl:∀ k bad w,PS w pb s k bad->Calls prog 141 #[.pointer (some ⟨pb,0,none⟩),.int .i64 1,.int .i64 ((deep:Int)+1)] w (Q pb s k w)) :
  Calls prog 167 #[.pointer (some ⟨pb,0,none⟩),.int .i64 (deep:Int)] w (Q pb s k w):=by
 have P0:Hid (PS w pb s k bad/\Below pb w w):=⟨h,Below.refl _ _⟩
 have c3:=PS.c3 h
 have hs:=h.sz.2
 have hk:=h.sz.1
 clear h
 go_enter func167,ntmps167
 cases bad with
 | true =>
  go_wp2_with fail
  first|go_end0|refine bodyPost_ret (results_none rfl _ _ _) rfl ?_
  exact Q.of (Nat.le_refl _) P0.out.1 P0.out.2
 | false =>
  go_wp2_with fail
  refine is_cases pb (k) s _ false _ P0.out.1 (by decide) ?_ ?_
  ·intro w1 e1 p1 b1
   have P1:Hid (PS w1 pb s (k+1) false/\Below pb w w1):=⟨p1,P0.out.2.trans b1⟩
   have E1:Hid (here s (k) ⟨#[45]⟩=true):=e1
   have z1:=here_size e1
   change k+1<=s.size at z1
   clear e1 p1 b1
   go_wp2_with fail
   refine (hv (k+1) false _ P1.out.1).mono ?_
   rintro e w2 ⟨rfl,⟨k2,d2,q2,p2⟩,b2⟩
   have P2:Hid (PS w2 pb s k2 d2/\Below pb w w2):=⟨p2,P1.out.2.trans b2⟩
   clear p2 b2
   go_wp2_with fail
   refine (put_any pb (k2) s d2 _ P2.out.1 (4) (0) (⟨#[]⟩) (good0 s _ _)).mono ?_
   rintro e w3 ⟨rfl,⟨d3,p3,_⟩,b3⟩
   have P3:Hid (PS w3 pb s (k2) d3/\Below pb w w3):=⟨p3,P2.out.2.trans b3⟩
   clear p3 b3
   go_wp2_with fail
   first|go_end0|refine bodyPost_ret (results_none rfl _ _ _) rfl ?_
   exact Q.of (by omega) P3.out.1 P3.out.2
  ·intro w1 e1 p1 b1
   have P1:Hid (PS w1 pb s (k) false/\Below pb w w1):=⟨p1,P0.out.2.trans b1⟩
   have E1:Hid (here s (k) ⟨#[45]⟩=false):=e1
   clear e1 p1 b1
   go_wp2_with fail
   refine is_cases pb (k) s _ false _ P1.out.1 (by decide) ?_ ?_
   ·intro w4 e4 p4 b4
    have P4:Hid (PS w4 pb s (k+1) false/\Below pb w w4):=⟨p4,P1.out.2.trans b4⟩
    have E4:Hid (here s (k) ⟨#[126]⟩=true):=e4
    have z4:=here_size e4
    change k+1<=s.size at z4
    clear e4 p4 b4
    go_wp2_with fail
    refine (hv (k+1) false _ P4.out.1).mono ?_
    rintro e w5 ⟨rfl,⟨k5,d5,q5,p5⟩,b5⟩
    have P5:Hid (PS w5 pb s k5 d5/\Below pb w w5):=⟨p5,P4.out.2.trans b5⟩
    clear p5 b5
    go_wp2_with fail
    refine (put_any pb (k5) s d5 _ P5.out.1 (5) (0) (⟨#[]⟩) (good0 s _ _)).mono ?_
    rintro e w6 ⟨rfl,⟨d6,p6,_⟩,b6⟩
    have P6:Hid (PS w6 pb s (k5) d6/\Below pb w w6):=⟨p6,P5.out.2.trans b6⟩
    clear p6 b6
    go_wp2_with fail
    first|go_end0|refine bodyPost_ret (results_none rfl _ _ _) rfl ?_
    exact Q.of (by omega) P6.out.1 P6.out.2
   ·intro w4 e4 p4 b4
    have P4:Hid (PS w4 pb s (k) false/\Below pb w w4):=⟨p4,P1.out.2.trans b4⟩
    have E4:Hid (here s (k) ⟨#[126]⟩=false):=e4
    clear e4 p4 b4
    go_wp2_with fail
    refine is_cases pb (k) s _ false _ P4.out.1 (by decide) ?_ ?_
    ·intro w7 e7 p7 b7
     have P7:Hid (PS w7 pb s (k+5) false/\Below pb w w7):=⟨p7,P4.out.2.trans b7⟩
     have E7:Hid (here s (k) tHigh=true):=e7
     have z7:=here_size e7
     change k+5<=s.size at z7
     clear e7 p7 b7
     obtain ⟨K,hK⟩ : ∃ K,K=k+5:=⟨_,rfl⟩
     rw [<- hK] at P7 z7
     have hK1:2<=K:=by omega
     have hK2:k<=K:=by omega
     clear hK
     have c0:=PS.c0 P7.out.1
     have c1:=PS.c1 P7.out.1
     obtain ⟨c,hc⟩ : ∃ c:Int,c=(s[K-2].toNat:Int):=⟨_,rfl⟩
     have i1:IntKind.i64.wrap ((K:Int)-2)=(K:Int)-2:=by rw [IntKind.wrap_i64];omega
     have i2:wrap64 ((K:Int)-2)=(K:Int)-2:=by unfold wrap64;omega
     have ix:∀ w,(Instr.index 9 (.string s) (.int .i64 ((K:Int)-2))).run prog w=.ok (.int .u8 c) w:=fun w=>by
      rw [run_index_string (P:=prog) w 9 s .i64 ((K:Int)-2) underlying9,dif_pos ⟨by omega,by omega⟩,hc];simp only [show ((K:Int)-2).toNat=K-2 by omega]
     clear hc
     by_cases h104:c=104
     ·have x1:(c == 104)=true:=by simp [h104]
      have x2:decide (c=104)=true:=by simp [h104]
      clear h104
      go_wp2_with fail
      go_quiet (fail)
      have P7q:Hid (PS (World.drewN _ nq) pb s K false/\Below pb w (World.drewN _ nq)):=⟨P7.out.1.drewN nq,below_drewN P7.out.2 nq⟩
      clear c0 c1 ix
      go_wp2_with fail
      refine (hl (K) false _ P7q.out.1).mono ?_
      rintro e w8 ⟨rfl,⟨k8,d8,q8,p8⟩,b8⟩
      have P8:Hid (PS w8 pb s k8 d8/\Below pb w w8):=⟨p8,P7q.out.2.trans b8⟩
      clear p8 b8
      cases d8 with
      | true =>
       have c3:=PS.c3 P8.out.1
       have f3:=PS.fz P8.out.1 3
       have P9:Hid (PS (World.setCell _ ⟨pb,3,none⟩ (.bool true)) pb s (k8) true/\Below pb w (World.setCell _ ⟨pb,3,none⟩ (.bool true))):=⟨P8.out.1.bad_ true,P8.out.2.trans below_set⟩
       go_wp2_with fail
       refine (put_any pb (k8) s true _ P9.out.1 (6) (0) (⟨#[]⟩) (good0 s _ _)).mono ?_
       rintro e w10 ⟨rfl,⟨d10,p10,_⟩,b10⟩
       have P10:Hid (PS w10 pb s (k8) d10/\Below pb w w10):=⟨p10,P9.out.2.trans b10⟩
       clear p10 b10
       go_wp2_with fail
       first|go_end0|refine bodyPost_ret (results_none rfl _ _ _) rfl ?_
       exact Q.of (by omega) P10.out.1 P10.out.2
      | false =>
       have c3:=PS.c3 P8.out.1
       have f3:=PS.fz P8.out.1 3
       go_wp2_with fail
       refine is_cases pb (k8) s _ false _ P8.out.1 (by decide) ?_ ?_
       ·intro w11 e11 p11 b11
        have P11:Hid (PS w11 pb s (k8+1) false/\Below pb w w11):=⟨p11,P8.out.2.trans b11⟩
        have E11:Hid (here s (k8) ⟨#[41]⟩=true):=e11
        have z11:=here_size e11
        change k8+1<=s.size at z11
        clear e11 p11 b11
        have c3:=PS.c3 P11.out.1
        have f3:=PS.fz P11.out.1 3
        have P12:Hid (PS (World.setCell _ ⟨pb,3,none⟩ (.bool false)) pb s (k8+1) false/\Below pb w (World.setCell _ ⟨pb,3,none⟩ (.bool false))):=⟨P11.out.1.bad_ false,P11.out.2.trans below_set⟩
        go_wp2_with fail
        refine (put_any pb (k8+1) s false _ P12.out.1 (6) (0) (⟨#[]⟩) (good0 s _ _)).mono ?_
        rintro e w13 ⟨rfl,⟨d13,p13,_⟩,b13⟩
        have P13:Hid (PS w13 pb s (k8+1) d13/\Below pb w w13):=⟨p13,P12.out.2.trans b13⟩
        clear p13 b13
        go_wp2_with fail
        first|go_end0|refine bodyPost_ret (results_none rfl _ _ _) rfl ?_
        exact Q.of (by omega) P13.out.1 P13.out.2
       ·intro w11 e11 p11 b11
        have P11:Hid (PS w11 pb s (k8) false/\Below pb w w11):=⟨p11,P8.out.2.trans b11⟩
        have E11:Hid (here s (k8) ⟨#[41]⟩=false):=e11
        clear e11 p11 b11
        have c3:=PS.c3 P11.out.1
        have f3:=PS.fz P11.out.1 3
        have P14:Hid (PS (World.setCell _ ⟨pb,3,none⟩ (.bool true)) pb s (k8) true/\Below pb w (World.setCell _ ⟨pb,3,none⟩ (.bool true))):=⟨P11.out.1.bad_ true,P11.out.2.trans below_set⟩
        go_wp2_with fail
        refine (put_any pb (k8) s true _ P14.out.1 (6) (0) (⟨#[]⟩) (good0 s _ _)).mono ?_
        rintro e w15 ⟨rfl,⟨d15,p15,_⟩,b15⟩
        have P15:Hid (PS w15 pb s (k8) d15/\Below pb w w15):=⟨p15,P14.out.2.trans b15⟩
        clear p15 b15
        go_wp2_with fail
        first|go_end0|refine bodyPost_ret (results_none rfl _ _ _) rfl ?_
        exact Q.of (by omega) P15.out.1 P15.out.2
     ·have x1:(c == 104)=false:=by simp [h104]
      have x2:decide (c=104)=false:=by simp [h104]
      clear h104
      go_wp2_with fail
      go_quiet (fail)
      have P7q:Hid (PS (World.drewN _ nq) pb s K false/\Below pb w (World.drewN _ nq)):=⟨P7.out.1.drewN nq,below_drewN P7.out.2 nq⟩
      clear c0 c1 ix
      go_wp2_with fail
      refine (hl (K) false _ P7q.out.1).mono ?_
      rintro e w16 ⟨rfl,⟨k16,d16,q16,p16⟩,b16⟩
      have P16:Hid (PS w16 pb s k16 d16/\Below pb w w16):=⟨p16,P7q.out.2.trans b16⟩
      clear p16 b16
      cases d16 with
      | true =>
       have c3:=PS.c3 P16.out.1
       have f3:=PS.fz P16.out.1 3
       have P17:Hid (PS (World.setCell _ ⟨pb,3,none⟩ (.bool true)) pb s (k16) true/\Below pb w (World.setCell _ ⟨pb,3,none⟩ (.bool true))):=⟨P16.out.1.bad_ true,P16.out.2.trans below_set⟩
       go_wp2_with fail
       refine (put_any pb (k16) s true _ P17.out.1 (7) (0) (⟨#[]⟩) (good0 s _ _)).mono ?_
       rintro e w18 ⟨rfl,⟨d18,p18,_⟩,b18⟩
       have P18:Hid (PS w18 pb s (k16) d18/\Below pb w w18):=⟨p18,P17.out.2.trans b18⟩
       clear p18 b18
       go_wp2_with fail
       first|go_end0|refine bodyPost_ret (results_none rfl _ _ _) rfl ?_
       exact Q.of (by omega) P18.out.1 P18.out.2
      | false =>
       have c3:=PS.c3 P16.out.1
       have f3:=PS.fz P16.out.1 3
       go_wp2_with fail
       refine is_cases pb (k16) s _ false _ P16.out.1 (by decide) ?_ ?_
       ·intro w19 e19 p19 b19
        have P19:Hid (PS w19 pb s (k16+1) false/\Below pb w w19):=⟨p19,P16.out.2.trans b19⟩
        have E19:Hid (here s (k16) ⟨#[41]⟩=true):=e19
        have z19:=here_size e19
        change k16+1<=s.size at z19
        clear e19 p19 b19
        have c3:=PS.c3 P19.out.1
        have f3:=PS.fz P19.out.1 3
        have P20:Hid (PS (World.setCell _ ⟨pb,3,none⟩ (.bool false)) pb s (k16+1) false/\Below pb w (World.setCell _ ⟨pb,3,none⟩ (.bool false))):=⟨P19.out.1.bad_ false,P19.out.2.trans below_set⟩
        go_wp2_with fail
        refine (put_any pb (k16+1) s false _ P20.out.1 (7) (0) (⟨#[]⟩) (good0 s _ _)).mono ?_
        rintro e w21 ⟨rfl,⟨d21,p21,_⟩,b21⟩
        have P21:Hid (PS w21 pb s (k16+1) d21/\Below pb w w21):=⟨p21,P20.out.2.trans b21⟩
        clear p21 b21
        go_wp2_with fail
        first|go_end0|refine bodyPost_ret (results_none rfl _ _ _) rfl ?_
        exact Q.of (by omega) P21.out.1 P21.out.2
       ·intro w19 e19 p19 b19
        have P19:Hid (PS w19 pb s (k16) false/\Below pb w w19):=⟨p19,P16.out.2.trans b19⟩
        have E19:Hid (here s (k16) ⟨#[41]⟩=false):=e19
        clear e19 p19 b19
        have c3:=PS.c3 P19.out.1
        have f3:=PS.fz P19.out.1 3
        have P22:Hid (PS (World.setCell _ ⟨pb,3,none⟩ (.bool true)) pb s (k16) true/\Below pb w (World.setCell _ ⟨pb,3,none⟩ (.bool true))):=⟨P19.out.1.bad_ true,P19.out.2.trans below_set⟩
        go_wp2_with fail
        refine (put_any pb (k16) s true _ P22.out.1 (7) (0) (⟨#[]⟩) (good0 s _ _)).mono ?_
        rintro e w23 ⟨rfl,⟨d23,p23,_⟩,b23⟩
        have P23:Hid (PS w23 pb s (k16) d23/\Below pb w w23):=⟨p23,P22.out.2.trans b23⟩
        clear p23 b23
        go_wp2_with fail
        first|go_end0|refine bodyPost_ret (results_none rfl _ _ _) rfl ?_
        exact Q.of (by omega) P23.out.1 P23.out.2
    ·intro w7 e7 p7 b7
     have P7:Hid (PS w7 pb s (k) false/\Below pb w w7):=⟨p7,P4.out.2.trans b7⟩
     have E7:Hid (here s (k) tHigh=false):=e7
     clear e7 p7 b7
     have EH:=E7
     go_wp2_with fail
     refine is_cases pb (k) s _ false _ P7.out.1 (by decide) ?_ ?_
     ·intro w24 e24 p24 b24
      have P24:Hid (PS w24 pb s (k+4) false/\Below pb w w24):=⟨p24,P7.out.2.trans b24⟩
      have E24:Hid (here s (k) tLow=true):=e24
      have z24:=here_size e24
      change k+4<=s.size at z24
      clear e24 p24 b24
      obtain ⟨K,hK⟩ : ∃ K,K=k+4:=⟨_,rfl⟩
      rw [<- hK] at P24 z24
      have hK1:2<=K:=by omega
      have hK2:k<=K:=by omega
      clear hK
      have c0:=PS.c0 P24.out.1
      have c1:=PS.c1 P24.out.1
      obtain ⟨c,hc⟩ : ∃ c:Int,c=(s[K-2].toNat:Int):=⟨_,rfl⟩
      have i1:IntKind.i64.wrap ((K:Int)-2)=(K:Int)-2:=by rw [IntKind.wrap_i64];omega
      have i2:wrap64 ((K:Int)-2)=(K:Int)-2:=by unfold wrap64;omega
      have ix:∀ w,(Instr.index 9 (.string s) (.int .i64 ((K:Int)-2))).run prog w=.ok (.int .u8 c) w:=fun w=>by
       rw [run_index_string (P:=prog) w 9 s .i64 ((K:Int)-2) underlying9,dif_pos ⟨by omega,by omega⟩,hc];simp only [show ((K:Int)-2).toNat=K-2 by omega]
      clear hc
      by_cases h104:c=104
      ·have x1:(c == 104)=true:=by simp [h104]
       have x2:decide (c=104)=true:=by simp [h104]
       clear h104
       go_wp2_with fail
       go_quiet (fail)
       have P24q:Hid (PS (World.drewN _ nq) pb s K false/\Below pb w (World.drewN _ nq)):=⟨P24.out.1.drewN nq,below_drewN P24.out.2 nq⟩
       clear c0 c1 ix
       go_wp2_with fail
       refine (hl (K) false _ P24q.out.1).mono ?_
       rintro e w25 ⟨rfl,⟨k25,d25,q25,p25⟩,b25⟩
       have P25:Hid (PS w25 pb s k25 d25/\Below pb w w25):=⟨p25,P24q.out.2.trans b25⟩
       clear p25 b25
       cases d25 with
       | true =>
        have c3:=PS.c3 P25.out.1
        have f3:=PS.fz P25.out.1 3
        have P26:Hid (PS (World.setCell _ ⟨pb,3,none⟩ (.bool true)) pb s (k25) true/\Below pb w (World.setCell _ ⟨pb,3,none⟩ (.bool true))):=⟨P25.out.1.bad_ true,P25.out.2.trans below_set⟩
        go_wp2_with fail
        refine (put_any pb (k25) s true _ P26.out.1 (6) (0) (⟨#[]⟩) (good0 s _ _)).mono ?_
        rintro e w27 ⟨rfl,⟨d27,p27,_⟩,b27⟩
        have P27:Hid (PS w27 pb s (k25) d27/\Below pb w w27):=⟨p27,P26.out.2.trans b27⟩
        clear p27 b27
        go_wp2_with fail
        first|go_end0|refine bodyPost_ret (results_none rfl _ _ _) rfl ?_
        exact Q.of (by omega) P27.out.1 P27.out.2
       | false =>
        have c3:=PS.c3 P25.out.1
        have f3:=PS.fz P25.out.1 3
        go_wp2_with fail
        refine is_cases pb (k25) s _ false _ P25.out.1 (by decide) ?_ ?_
        ·intro w28 e28 p28 b28
         have P28:Hid (PS w28 pb s (k25+1) false/\Below pb w w28):=⟨p28,P25.out.2.trans b28⟩
         have E28:Hid (here s (k25) ⟨#[41]⟩=true):=e28
         have z28:=here_size e28
         change k25+1<=s.size at z28
         clear e28 p28 b28
         have c3:=PS.c3 P28.out.1
         have f3:=PS.fz P28.out.1 3
         have P29:Hid (PS (World.setCell _ ⟨pb,3,none⟩ (.bool false)) pb s (k25+1) false/\Below pb w (World.setCell _ ⟨pb,3,none⟩ (.bool false))):=⟨P28.out.1.bad_ false,P28.out.2.trans below_set⟩
         go_wp2_with fail
         refine (put_any pb (k25+1) s false _ P29.out.1 (6) (0) (⟨#[]⟩) (good0 s _ _)).mono ?_
         rintro e w30 ⟨rfl,⟨d30,p30,_⟩,b30⟩
         have P30:Hid (PS w30 pb s (k25+1) d30/\Below pb w w30):=⟨p30,P29.out.2.trans b30⟩
         clear p30 b30
         go_wp2_with fail
         first|go_end0|refine bodyPost_ret (results_none rfl _ _ _) rfl ?_
         exact Q.of (by omega) P30.out.1 P30.out.2
        ·intro w28 e28 p28 b28
         have P28:Hid (PS w28 pb s (k25) false/\Below pb w w28):=⟨p28,P25.out.2.trans b28⟩
         have E28:Hid (here s (k25) ⟨#[41]⟩=false):=e28
         clear e28 p28 b28
         have c3:=PS.c3 P28.out.1
         have f3:=PS.fz P28.out.1 3
         have P31:Hid (PS (World.setCell _ ⟨pb,3,none⟩ (.bool true)) pb s (k25) true/\Below pb w (World.setCell _ ⟨pb,3,none⟩ (.bool true))):=⟨P28.out.1.bad_ true,P28.out.2.trans below_set⟩
         go_wp2_with fail
         refine (put_any pb (k25) s true _ P31.out.1 (6) (0) (⟨#[]⟩) (good0 s _ _)).mono ?_
         rintro e w32 ⟨rfl,⟨d32,p32,_⟩,b32⟩
         have P32:Hid (PS w32 pb s (k25) d32/\Below pb w w32):=⟨p32,P31.out.2.trans b32⟩
         clear p32 b32
         go_wp2_with fail
         first|go_end0|refine bodyPost_ret (results_none rfl _ _ _) rfl ?_
         exact Q.of (by omega) P32.out.1 P32.out.2
      ·have x1:(c == 104)=false:=by simp [h104]
       have x2:decide (c=104)=false:=by simp [h104]
       clear h104
       go_wp2_with fail
       go_quiet (fail)
       have P24q:Hid (PS (World.drewN _ nq) pb s K false/\Below pb w (World.drewN _ nq)):=⟨P24.out.1.drewN nq,below_drewN P24.out.2 nq⟩
       clear c0 c1 ix
       go_wp2_with fail
       refine (hl (K) false _ P24q.out.1).mono ?_
       rintro e w33 ⟨rfl,⟨k33,d33,q33,p33⟩,b33⟩
       have P33:Hid (PS w33 pb s k33 d33/\Below pb w w33):=⟨p33,P24q.out.2.trans b33⟩
       clear p33 b33
       cases d33 with
       | true =>
        have c3:=PS.c3 P33.out.1
        have f3:=PS.fz P33.out.1 3
        have P34:Hid (PS (World.setCell _ ⟨pb,3,none⟩ (.bool true)) pb s (k33) true/\Below pb w (World.setCell _ ⟨pb,3,none⟩ (.bool true))):=⟨P33.out.1.bad_ true,P33.out.2.trans below_set⟩
        go_wp2_with fail
        refine (put_any pb (k33) s true _ P34.out.1 (7) (0) (⟨#[]⟩) (good0 s _ _)).mono ?_
        rintro e w35 ⟨rfl,⟨d35,p35,_⟩,b35⟩
        have P35:Hid (PS w35 pb s (k33) d35/\Below pb w w35):=⟨p35,P34.out.2.trans b35⟩
        clear p35 b35
        go_wp2_with fail
        first|go_end0|refine bodyPost_ret (results_none rfl _ _ _) rfl ?_
        exact Q.of (by omega) P35.out.1 P35.out.2
       | false =>
        have c3:=PS.c3 P33.out.1
        have f3:=PS.fz P33.out.1 3
        go_wp2_with fail
        refine is_cases pb (k33) s _ false _ P33.out.1 (by decide) ?_ ?_
        ·intro w36 e36 p36 b36
         have P36:Hid (PS w36 pb s (k33+1) false/\Below pb w w36):=⟨p36,P33.out.2.trans b36⟩
         have E36:Hid (here s (k33) ⟨#[41]⟩=true):=e36
         have z36:=here_size e36
         change k33+1<=s.size at z36
         clear e36 p36 b36
         have c3:=PS.c3 P36.out.1
         have f3:=PS.fz P36.out.1 3
         have P37:Hid (PS (World.setCell _ ⟨pb,3,none⟩ (.bool false)) pb s (k33+1) false/\Below pb w (World.setCell _ ⟨pb,3,none⟩ (.bool false))):=⟨P36.out.1.bad_ false,P36.out.2.trans below_set⟩
         go_wp2_with fail
         refine (put_any pb (k33+1) s false _ P37.out.1 (7) (0) (⟨#[]⟩) (good0 s _ _)).mono ?_
         rintro e w38 ⟨rfl,⟨d38,p38,_⟩,b38⟩
         have P38:Hid (PS w38 pb s (k33+1) d38/\Below pb w w38):=⟨p38,P37.out.2.trans b38⟩
         clear p38 b38
         go_wp2_with fail
         first|go_end0|refine bodyPost_ret (results_none rfl _ _ _) rfl ?_
         exact Q.of (by omega) P38.out.1 P38.out.2
        ·intro w36 e36 p36 b36
         have P36:Hid (PS w36 pb s (k33) false/\Below pb w w36):=⟨p36,P33.out.2.trans b36⟩
         have E36:Hid (here s (k33) ⟨#[41]⟩=false):=e36
         clear e36 p36 b36
         have c3:=PS.c3 P36.out.1
         have f3:=PS.fz P36.out.1 3
         have P39:Hid (PS (World.setCell _ ⟨pb,3,none⟩ (.bool true)) pb s (k33) true/\Below pb w (World.setCell _ ⟨pb,3,none⟩ (.bool true))):=⟨P36.out.1.bad_ true,P36.out.2.trans below_set⟩
         go_wp2_with fail
         refine (put_any pb (k33) s true _ P39.out.1 (7) (0) (⟨#[]⟩) (good0 s _ _)).mono ?_
         rintro e w40 ⟨rfl,⟨d40,p40,_⟩,b40⟩
         have P40:Hid (PS w40 pb s (k33) d40/\Below pb w w40):=⟨p40,P39.out.2.trans b40⟩
         clear p40 b40
         go_wp2_with fail
         first|go_end0|refine bodyPost_ret (results_none rfl _ _ _) rfl ?_
         exact Q.of (by omega) P40.out.1 P40.out.2
     ·intro w24 e24 p24 b24
      have P24:Hid (PS w24 pb s (k) false/\Below pb w w24):=⟨p24,P7.out.2.trans b24⟩
      have E24:Hid (here s (k) tLow=false):=e24
      clear e24 p24 b24
      have EL:=E24
      go_wp2_with fail
      refine is_cases pb (k) s _ false _ P24.out.1 (by decide) ?_ ?_
      ·intro w41 e41 p41 b41
       have P41:Hid (PS w41 pb s (k+5) false/\Below pb w w41):=⟨p41,P24.out.2.trans b41⟩
       have E41:Hid (here s (k) tBank=true):=e41
       have z41:=here_size e41
       change k+5<=s.size at z41
       clear e41 p41 b41
       go_wp2_with fail
       refine (word_any pb (k+5) s false _ P41.out.1).mono ?_
       rintro e w42 ⟨k42,q42,r42,rfl,p42,b42⟩
       have P42:Hid (PS w42 pb s k42 false/\Below pb w w42):=⟨p42,P41.out.2.trans b42⟩
       clear p42 b42
       have GD:Hid (Cmpa.Good s (3,0,s.extract (k+5) k42)):=good_bank hs q42 r42 E41.out 3 0
       have hz:(s.extract (k+5) k42).size<=200:=GD.out.1
       generalize s.extract (k+5) k42=t at *
       have c3:=PS.c3 P42.out.1
       have f3:=PS.fz P42.out.1 3
       have cn:=fun W=>Names.specName_any t W (by unfold maxLen;omega)
       cases hn:Names.nameB t with
       | false =>
        rw [hn] at cn
        have P43:Hid (PS (World.setCell _ ⟨pb,3,none⟩ (.bool true)) pb s k42 true/\Below pb w (World.setCell _ ⟨pb,3,none⟩ (.bool true))):=⟨P42.out.1.bad_ true,P42.out.2.trans below_set⟩
        go_wp2_with fail
        refine (cn _).mono ?_
        rintro e w42a ⟨rfl,hw⟩
        have hw:=hw.symm
        subst hw
        go_wp2_with fail
        refine (put_any pb (k42) s true _ P43.out.1 (3) (0) (t) (GD.out)).mono ?_
        rintro e w44 ⟨rfl,⟨d44,p44,_⟩,b44⟩
        have P44:Hid (PS w44 pb s (k42) d44/\Below pb w w44):=⟨p44,P43.out.2.trans b44⟩
        clear p44 b44
        go_wp2_with fail
        first|go_end0|refine bodyPost_ret (results_none rfl _ _ _) rfl ?_
        exact Q.of (by omega) P44.out.1 P44.out.2
       | true =>
        rw [hn] at cn
        go_wp2_with fail
        refine (cn _).mono ?_
        rintro e w42a ⟨rfl,hw⟩
        have hw:=hw.symm
        subst hw
        go_wp2_with fail
        refine is_cases pb (k42) s _ false _ P42.out.1 (by decide) ?_ ?_
        ·intro w45 e45 p45 b45
         have P45:Hid (PS w45 pb s (k42+1) false/\Below pb w w45):=⟨p45,P42.out.2.trans b45⟩
         have E45:Hid (here s (k42) ⟨#[41]⟩=true):=e45
         have z45:=here_size e45
         change k42+1<=s.size at z45
         clear e45 p45 b45
         have c3:=PS.c3 P45.out.1
         have f3:=PS.fz P45.out.1 3
         have P46:Hid (PS (World.setCell _ ⟨pb,3,none⟩ (.bool false)) pb s (k42+1) false/\Below pb w (World.setCell _ ⟨pb,3,none⟩ (.bool false))):=⟨P45.out.1.bad_ false,P45.out.2.trans below_set⟩
         go_wp2_with fail
         refine (put_any pb (k42+1) s false _ P46.out.1 (3) (0) (t) (GD.out)).mono ?_
         rintro e w47 ⟨rfl,⟨d47,p47,_⟩,b47⟩
         have P47:Hid (PS w47 pb s (k42+1) d47/\Below pb w w47):=⟨p47,P46.out.2.trans b47⟩
         clear p47 b47
         go_wp2_with fail
         first|go_end0|refine bodyPost_ret (results_none rfl _ _ _) rfl ?_
         exact Q.of (by omega) P47.out.1 P47.out.2
        ·intro w45 e45 p45 b45
         have P45:Hid (PS w45 pb s (k42) false/\Below pb w w45):=⟨p45,P42.out.2.trans b45⟩
         have E45:Hid (here s (k42) ⟨#[41]⟩=false):=e45
         clear e45 p45 b45
         have c3:=PS.c3 P45.out.1
         have f3:=PS.fz P45.out.1 3
         have P48:Hid (PS (World.setCell _ ⟨pb,3,none⟩ (.bool true)) pb s (k42) true/\Below pb w (World.setCell _ ⟨pb,3,none⟩ (.bool true))):=⟨P45.out.1.bad_ true,P45.out.2.trans below_set⟩
         go_wp2_with fail
         refine (put_any pb (k42) s true _ P48.out.1 (3) (0) (t) (GD.out)).mono ?_
         rintro e w49 ⟨rfl,⟨d49,p49,_⟩,b49⟩
         have P49:Hid (PS w49 pb s (k42) d49/\Below pb w w49):=⟨p49,P48.out.2.trans b49⟩
         clear p49 b49
         go_wp2_with fail
         first|go_end0|refine bodyPost_ret (results_none rfl _ _ _) rfl ?_
         exact Q.of (by omega) P49.out.1 P49.out.2
      ·intro w41 e41 p41 b41
       have P41:Hid (PS w41 pb s (k) false/\Below pb w w41):=⟨p41,P24.out.2.trans b41⟩
       have E41:Hid (here s (k) tBank=false):=e41
       clear e41 p41 b41
       go_wp2_with fail
       refine is_cases pb (k) s _ false _ P41.out.1 (by decide) ?_ ?_
       ·intro w50 e50 p50 b50
        have P50:Hid (PS w50 pb s (k+1) false/\Below pb w w50):=⟨p50,P41.out.2.trans b50⟩
        have E50:Hid (here s (k) ⟨#[40]⟩=true):=e50
        have z50:=here_size e50
        change k+1<=s.size at z50
        clear e50 p50 b50
        go_wp2_with fail
        refine (hl (k+1) false _ P50.out.1).mono ?_
        rintro e w51 ⟨rfl,⟨k51,d51,q51,p51⟩,b51⟩
        have P51:Hid (PS w51 pb s k51 d51/\Below pb w w51):=⟨p51,P50.out.2.trans b51⟩
        clear p51 b51
        cases d51 with
        | true =>
         have c3:=PS.c3 P51.out.1
         have f3:=PS.fz P51.out.1 3
         have P52:Hid (PS (World.setCell _ ⟨pb,3,none⟩ (.bool true)) pb s (k51) true/\Below pb w (World.setCell _ ⟨pb,3,none⟩ (.bool true))):=⟨P51.out.1.bad_ true,P51.out.2.trans below_set⟩
         go_wp2_with fail
         first|go_end0|refine bodyPost_ret (results_none rfl _ _ _) rfl ?_
         exact Q.of (by omega) P52.out.1 P52.out.2
        | false =>
         have c3:=PS.c3 P51.out.1
         have f3:=PS.fz P51.out.1 3
         go_wp2_with fail
         refine is_cases pb (k51) s _ false _ P51.out.1 (by decide) ?_ ?_
         ·intro w53 e53 p53 b53
          have P53:Hid (PS w53 pb s (k51+1) false/\Below pb w w53):=⟨p53,P51.out.2.trans b53⟩
          have E53:Hid (here s (k51) ⟨#[41]⟩=true):=e53
          have z53:=here_size e53
          change k51+1<=s.size at z53
          clear e53 p53 b53
          have c3:=PS.c3 P53.out.1
          have f3:=PS.fz P53.out.1 3
          have P54:Hid (PS (World.setCell _ ⟨pb,3,none⟩ (.bool false)) pb s (k51+1) false/\Below pb w (World.setCell _ ⟨pb,3,none⟩ (.bool false))):=⟨P53.out.1.bad_ false,P53.out.2.trans below_set⟩
          go_wp2_with fail
          first|go_end0|refine bodyPost_ret (results_none rfl _ _ _) rfl ?_
          exact Q.of (by omega) P54.out.1 P54.out.2
         ·intro w53 e53 p53 b53
          have P53:Hid (PS w53 pb s (k51) false/\Below pb w w53):=⟨p53,P51.out.2.trans b53⟩
          have E53:Hid (here s (k51) ⟨#[41]⟩=false):=e53
          clear e53 p53 b53
          have c3:=PS.c3 P53.out.1
          have f3:=PS.fz P53.out.1 3
          have P55:Hid (PS (World.setCell _ ⟨pb,3,none⟩ (.bool true)) pb s (k51) true/\Below pb w (World.setCell _ ⟨pb,3,none⟩ (.bool true))):=⟨P53.out.1.bad_ true,P53.out.2.trans below_set⟩
          go_wp2_with fail
          first|go_end0|refine bodyPost_ret (results_none rfl _ _ _) rfl ?_
          exact Q.of (by omega) P55.out.1 P55.out.2
       ·intro w50 e50 p50 b50
        have P50:Hid (PS w50 pb s (k) false/\Below pb w w50):=⟨p50,P41.out.2.trans b50⟩
        have E50:Hid (here s (k) ⟨#[40]⟩=false):=e50
        clear e50 p50 b50
        go_wp2_with fail
        refine is_cases pb (k) s _ false _ P50.out.1 (by decide) ?_ ?_
        ·intro w56 e56 p56 b56
         have P56:Hid (PS w56 pb s (k+1) false/\Below pb w w56):=⟨p56,P50.out.2.trans b56⟩
         have E56:Hid (here s (k) ⟨#[36]⟩=true):=e56
         have z56:=here_size e56
         change k+1<=s.size at z56
         clear e56 p56 b56
         go_wp2_with fail
         refine (word_any pb (k+1) s false _ P56.out.1).mono ?_
         rintro e w57 ⟨k57,q57,r57,rfl,p57,b57⟩
         have P57:Hid (PS w57 pb s k57 false/\Below pb w w57):=⟨p57,P56.out.2.trans b57⟩
         clear p57 b57
         have hz:(s.extract (k+1) k57).size<=200:=by rw [ByteArray.size_extract];omega
         generalize s.extract (k+1) k57=t at *
         have c3:=PS.c3 P57.out.1
         have f3:=PS.fz P57.out.1 3
         have zt:((⟨#[36]⟩ : ByteArray) ++ t).size<=201:=by rw [ByteArray.size_append];show 1+t.size<=201;omega
         have cr:=fun W=>Nums.specNum_any ((⟨#[36]⟩ : ByteArray) ++ t) W (by unfold maxLen;omega)
         have cn:=fun W=>Names.specName_any t W (by unfold maxLen;omega)
         generalize hN:Nums.num ((⟨#[36]⟩ : ByteArray) ++ t)=N at cr
         clear hN
         cases N with
         | some n =>
          go_wp2_with fail
          refine (cr _).mono ?_
          rintro e w57a ⟨rfl,hw⟩
          have hw:=hw.symm
          subst hw
          go_wp2_with fail
          refine (put_any pb (k57) s false _ P57.out.1 (1) (n) (⟨#[]⟩) (good0 s _ _)).mono ?_
          rintro e w58 ⟨rfl,⟨d58,p58,_⟩,b58⟩
          have P58:Hid (PS w58 pb s (k57) d58/\Below pb w w58):=⟨p58,P57.out.2.trans b58⟩
          clear p58 b58
          go_wp2_with fail
          first|go_end0|refine bodyPost_ret (results_none rfl _ _ _) rfl ?_
          exact Q.of (by omega) P58.out.1 P58.out.2
         | none =>
          have P59:Hid (PS (World.setCell _ ⟨pb,3,none⟩ (.bool true)) pb s k57 true/\Below pb w (World.setCell _ ⟨pb,3,none⟩ (.bool true))):=⟨P57.out.1.bad_ true,P57.out.2.trans below_set⟩
          go_wp2_with fail
          refine (cr _).mono ?_
          rintro e w57a ⟨rfl,hw⟩
          have hw:=hw.symm
          subst hw
          go_wp2_with fail
          first|go_end0|refine bodyPost_ret (results_none rfl _ _ _) rfl ?_
          exact Q.of (by omega) P59.out.1 P59.out.2
        ·intro w56 e56 p56 b56
         have P56:Hid (PS w56 pb s (k) false/\Below pb w w56):=⟨p56,P50.out.2.trans b56⟩
         have E56:Hid (here s (k) ⟨#[36]⟩=false):=e56
         clear e56 p56 b56
         go_wp2_with fail
         refine is_cases pb (k) s _ false _ P56.out.1 (by decide) ?_ ?_
         ·intro w60 e60 p60 b60
          have P60:Hid (PS w60 pb s (k+1) false/\Below pb w w60):=⟨p60,P56.out.2.trans b60⟩
          have E60:Hid (here s (k) ⟨#[37]⟩=true):=e60
          have z60:=here_size e60
          change k+1<=s.size at z60
          clear e60 p60 b60
          go_wp2_with fail
          refine (word_any pb (k+1) s false _ P60.out.1).mono ?_
          rintro e w61 ⟨k61,q61,r61,rfl,p61,b61⟩
          have P61:Hid (PS w61 pb s k61 false/\Below pb w w61):=⟨p61,P60.out.2.trans b61⟩
          clear p61 b61
          have hz:(s.extract (k+1) k61).size<=200:=by rw [ByteArray.size_extract];omega
          generalize s.extract (k+1) k61=t at *
          have c3:=PS.c3 P61.out.1
          have f3:=PS.fz P61.out.1 3
          have zt:((⟨#[37]⟩ : ByteArray) ++ t).size<=201:=by rw [ByteArray.size_append];show 1+t.size<=201;omega
          have cr:=fun W=>Nums.specNum_any ((⟨#[37]⟩ : ByteArray) ++ t) W (by unfold maxLen;omega)
          have cn:=fun W=>Names.specName_any t W (by unfold maxLen;omega)
          generalize hN:Nums.num ((⟨#[37]⟩ : ByteArray) ++ t)=N at cr
          clear hN
          cases N with
          | some n =>
           go_wp2_with fail
           refine (cr _).mono ?_
           rintro e w61a ⟨rfl,hw⟩
           have hw:=hw.symm
           subst hw
           go_wp2_with fail
           refine (put_any pb (k61) s false _ P61.out.1 (1) (n) (⟨#[]⟩) (good0 s _ _)).mono ?_
           rintro e w62 ⟨rfl,⟨d62,p62,_⟩,b62⟩
           have P62:Hid (PS w62 pb s (k61) d62/\Below pb w w62):=⟨p62,P61.out.2.trans b62⟩
           clear p62 b62
           go_wp2_with fail
           first|go_end0|refine bodyPost_ret (results_none rfl _ _ _) rfl ?_
           exact Q.of (by omega) P62.out.1 P62.out.2
          | none =>
           have P63:Hid (PS (World.setCell _ ⟨pb,3,none⟩ (.bool true)) pb s k61 true/\Below pb w (World.setCell _ ⟨pb,3,none⟩ (.bool true))):=⟨P61.out.1.bad_ true,P61.out.2.trans below_set⟩
           go_wp2_with fail
           refine (cr _).mono ?_
           rintro e w61a ⟨rfl,hw⟩
           have hw:=hw.symm
           subst hw
           go_wp2_with fail
           first|go_end0|refine bodyPost_ret (results_none rfl _ _ _) rfl ?_
           exact Q.of (by omega) P63.out.1 P63.out.2
         ·intro w60 e60 p60 b60
          have P60:Hid (PS w60 pb s (k) false/\Below pb w w60):=⟨p60,P56.out.2.trans b60⟩
          have E60:Hid (here s (k) ⟨#[37]⟩=false):=e60
          clear e60 p60 b60
          go_wp2_with fail
          refine (word_any pb (k) s false _ P60.out.1).mono ?_
          rintro e w64 ⟨k64,q64,r64,rfl,p64,b64⟩
          have P64:Hid (PS w64 pb s k64 false/\Below pb w w64):=⟨p64,P60.out.2.trans b64⟩
          clear p64 b64
          have hz:(s.extract (k) k64).size<=200:=by rw [ByteArray.size_extract];omega
          have GD:Hid (Cmpa.Good s (2,0,s.extract k k64)):=good_name hs q64 r64 EH.out EL.out 2 0
          generalize s.extract (k) k64=t at *
          have c3:=PS.c3 P64.out.1
          have f3:=PS.fz P64.out.1 3
          have zt:((⟨#[]⟩ : ByteArray) ++ t).size<=201:=by rw [ByteArray.size_append];show 0+t.size<=201;omega
          have cr:=fun W=>Nums.specNum_any ((⟨#[]⟩ : ByteArray) ++ t) W (by unfold maxLen;omega)
          have cn:=fun W=>Names.specName_any t W (by unfold maxLen;omega)
          generalize hN:Nums.num ((⟨#[]⟩ : ByteArray) ++ t)=N at cr
          clear hN
          cases N with
          | some n =>
           go_wp2_with fail
           refine (cr _).mono ?_
           rintro e w64a ⟨rfl,hw⟩
           have hw:=hw.symm
           subst hw
           go_wp2_with fail
           refine (put_any pb (k64) s false _ P64.out.1 (1) (n) (⟨#[]⟩) (good0 s _ _)).mono ?_
           rintro e w65 ⟨rfl,⟨d65,p65,_⟩,b65⟩
           have P65:Hid (PS w65 pb s (k64) d65/\Below pb w w65):=⟨p65,P64.out.2.trans b65⟩
           clear p65 b65
           go_wp2_with fail
           first|go_end0|refine bodyPost_ret (results_none rfl _ _ _) rfl ?_
           exact Q.of (by omega) P65.out.1 P65.out.2
          | none =>
           have P66:Hid (PS (World.setCell _ ⟨pb,3,none⟩ (.bool true)) pb s k64 true/\Below pb w (World.setCell _ ⟨pb,3,none⟩ (.bool true))):=⟨P64.out.1.bad_ true,P64.out.2.trans below_set⟩
           cases hn:Names.nameB t with
           | true =>
            rw [hn] at cn
            go_wp2_with fail
            refine (cr _).mono ?_
            rintro e w64a ⟨rfl,hw⟩
            have hw:=hw.symm
            subst hw
            go_wp2_with fail
            refine (cn _).mono ?_
            rintro e w64b ⟨rfl,hw⟩
            have hw:=hw.symm
            subst hw
            go_wp2_with fail
            refine (put_any pb (k64) s false _ P64.out.1 (2) (0) (t) (GD.out)).mono ?_
            rintro e w67 ⟨rfl,⟨d67,p67,_⟩,b67⟩
            have P67:Hid (PS w67 pb s (k64) d67/\Below pb w w67):=⟨p67,P64.out.2.trans b67⟩
            clear p67 b67
            go_wp2_with fail
            first|go_end0|refine bodyPost_ret (results_none rfl _ _ _) rfl ?_
            exact Q.of (by omega) P67.out.1 P67.out.2
           | false =>
            rw [hn] at cn
            go_wp2_with fail
            refine (cr _).mono ?_
            rintro e w64a ⟨rfl,hw⟩
            have hw:=hw.symm
            subst hw
            go_wp2_with fail
            refine (cn _).mono ?_
            rintro e w64b ⟨rfl,hw⟩
            have hw:=hw.symm
            subst hw
            go_wp2_with fail
            first|go_end0|refine bodyPost_ret (results_none rfl _ _ _) rfl ?_
            exact Q.of (by omega) P66.out.1 P66.out.2
end Cmpc
end Go.Proofs.YtickfkphhngagaaGreatDoor
