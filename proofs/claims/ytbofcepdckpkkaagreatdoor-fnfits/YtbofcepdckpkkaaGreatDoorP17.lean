import Derived.Test.YtbofcepdckpkkaaGreatDoorP05
import Derived.Test.YtbofcepdckpkkaaGreatDoorP15
import Derived.Deep.CutRange
import Derived.Test.YtbofcepdckpkkaaGreatDoorP07
import Derived.Test.YtbofcepdckpkkaaGreatDoorP08
set_option linter.all false
set_option maxRecDepth 20000
set_option maxHeartbeats 8000000
open Go.ChangeShapes Go.WideShapes Go.ChangeAt Go.RowKit
open Go.Proofs.Tryz
namespace Go.Proofs.YtbofcepdckpkkaaGreatDoor
namespace Fita
open Stepx (Nodes)
def regs:List (List UInt8):=[[97],[98],[99],[100],[101],[104],[108],[97,102],[98,99],[100,101],[104,108],[115,112],[110,122],[122],[110,99]]
def reg (s:ByteArray):Bool:=regs.any fun r=>s.toList == r
theorem isReg_any (s:ByteArray) (w:World):Calls prog 78 #[.string s] w fun e w'=>e=.returned (.bool (reg s))/\w'=w:=by
 obtain ⟨q,hq⟩ : ∃ q,q=reg s:=⟨_,rfl⟩
 rw [<- hq]
 unfold reg regs at hq
 simp only [List.any_cons,List.any_nil,Bool.or_false] at hq
 obtain ⟨b0,e0⟩ : ∃ b,(s.toList == ([97]:List UInt8))=b:=⟨_,rfl⟩
 obtain ⟨b1,e1⟩ : ∃ b,(s.toList == ([98]:List UInt8))=b:=⟨_,rfl⟩
 obtain ⟨b2,e2⟩ : ∃ b,(s.toList == ([99]:List UInt8))=b:=⟨_,rfl⟩
 obtain ⟨b3,e3⟩ : ∃ b,(s.toList == ([100]:List UInt8))=b:=⟨_,rfl⟩
 obtain ⟨b4,e4⟩ : ∃ b,(s.toList == ([101]:List UInt8))=b:=⟨_,rfl⟩
 obtain ⟨b5,e5⟩ : ∃ b,(s.toList == ([104]:List UInt8))=b:=⟨_,rfl⟩
 obtain ⟨b6,e6⟩ : ∃ b,(s.toList == ([108]:List UInt8))=b:=⟨_,rfl⟩
 obtain ⟨b7,e7⟩ : ∃ b,(s.toList == ([97,102]:List UInt8))=b:=⟨_,rfl⟩
 obtain ⟨b8,e8⟩ : ∃ b,(s.toList == ([98,99]:List UInt8))=b:=⟨_,rfl⟩
 obtain ⟨b9,e9⟩ : ∃ b,(s.toList == ([100,101]:List UInt8))=b:=⟨_,rfl⟩
 obtain ⟨b10,e10⟩ : ∃ b,(s.toList == ([104,108]:List UInt8))=b:=⟨_,rfl⟩
 obtain ⟨b11,e11⟩ : ∃ b,(s.toList == ([115,112]:List UInt8))=b:=⟨_,rfl⟩
 obtain ⟨b12,e12⟩ : ∃ b,(s.toList == ([110,122]:List UInt8))=b:=⟨_,rfl⟩
 obtain ⟨b13,e13⟩ : ∃ b,(s.toList == ([122]:List UInt8))=b:=⟨_,rfl⟩
 obtain ⟨b14,e14⟩ : ∃ b,(s.toList == ([110,99]:List UInt8))=b:=⟨_,rfl⟩
 rw [e0,e1,e2,e3,e4,e5,e6,e7,e8,e9,e10,e11,e12,e13,e14] at hq
 have HQ:Hid (q=_):=hq
 clear hq
 cases b0 with
 | true =>
  go_enter func78,ntmps78
  go_wp2_with fail
  go_ret
  exact ⟨by rw [HQ.out];simp,rfl⟩
 | false =>
  cases b1 with
  | true =>
   go_enter func78,ntmps78
   go_wp2_with fail
   go_ret
   exact ⟨by rw [HQ.out];simp,rfl⟩
  | false =>
   cases b2 with
   | true =>
    go_enter func78,ntmps78
    go_wp2_with fail
    go_ret
    exact ⟨by rw [HQ.out];simp,rfl⟩
   | false =>
    cases b3 with
    | true =>
     go_enter func78,ntmps78
     go_wp2_with fail
     go_ret
     exact ⟨by rw [HQ.out];simp,rfl⟩
    | false =>
     cases b4 with
     | true =>
      go_enter func78,ntmps78
      go_wp2_with fail
      go_ret
      exact ⟨by rw [HQ.out];simp,rfl⟩
     | false =>
      cases b5 with
      | true =>
       go_enter func78,ntmps78
       go_wp2_with fail
       go_ret
       exact ⟨by rw [HQ.out];simp,rfl⟩
      | false =>
       cases b6 with
       | true =>
        go_enter func78,ntmps78
        go_wp2_with fail
        go_ret
        exact ⟨by rw [HQ.out];simp,rfl⟩
       | false =>
        cases b7 with
        | true =>
         go_enter func78,ntmps78
         go_wp2_with fail
         go_ret
         exact ⟨by rw [HQ.out];simp,rfl⟩
        | false =>
         cases b8 with
         | true =>
          go_enter func78,ntmps78
          go_wp2_with fail
          go_ret
          exact ⟨by rw [HQ.out];simp,rfl⟩
         | false =>
          cases b9 with
          | true =>
           go_enter func78,ntmps78
           go_wp2_with fail
           go_ret
           exact ⟨by rw [HQ.out];simp,rfl⟩
          | false =>
           cases b10 with
           | true =>
            go_enter func78,ntmps78
            go_wp2_with fail
            go_ret
            exact ⟨by rw [HQ.out];simp,rfl⟩
           | false =>
            cases b11 with
            | true =>
             go_enter func78,ntmps78
             go_wp2_with fail
             go_ret
             exact ⟨by rw [HQ.out];simp,rfl⟩
            | false =>
             cases b12 with
             | true =>
              go_enter func78,ntmps78
              go_wp2_with fail
              go_ret
              exact ⟨by rw [HQ.out];simp,rfl⟩
             | false =>
              cases b13 with
              | true =>
               go_enter func78,ntmps78
               go_wp2_with fail
               go_ret
               exact ⟨by rw [HQ.out];simp,rfl⟩
              | false =>
               cases b14 with
               | true =>
                go_enter func78,ntmps78
                go_wp2_with fail
                go_ret
                exact ⟨by rw [HQ.out];simp,rfl⟩
               | false =>
                go_enter func78,ntmps78
                go_wp2_with fail
                go_ret
                exact ⟨by rw [HQ.out];simp,rfl⟩
def regL (L:List Stepx.Node):Bool:=L.any fun x=>reg x.2.2
theorem namesReg_any (a:Option Addr) (cap:Nat) (L:List Stepx.Node) (w:World) (hN:Nodes w a L) (hl:L.length<=1000) :
  Calls prog 44 #[.slice a L.length cap] w fun e w'=>e=.returned (.bool (regL L))/\Below w.heap.size w w':=by
 have H:Hid (Nodes w a L):=hN
 obtain ⟨n,hn⟩ : ∃ n,n=L.length:=⟨_,rfl⟩
 have HL:Hid (n=L.length):=hn
 rw [<- hn] at hl |-
 clear hN hn
 go_enter func44,ntmps44
 go_wp2_with fail
 go_loopw [7] (fun i wr=>∃ k:Nat,k<=n/\i=.int .i64 k/\Hid (regL (L.take k)=false)/\Hid (Below w.heap.size w wr)) (fun i _=>n-(intOf i).toNat)
 case atStart=>exact ⟨0,Nat.zero_le _,rfl,rfl,Below.refl _ _⟩
 case round =>
  obtain ⟨k,hk,rfl,hno,hbel⟩:=hrel
  by_cases hlt:k<n
  ·have hkL:k<L.length:=by have:=HL.out;omega
   rcases Mirror.Nodes.below H.out hbel.out with hnil|⟨b,off,rfl,hb,hc⟩
   ·exfalso;rw [hnil] at hkL;exact absurd hkL (by simp)
   obtain ⟨d0,d1,d2⟩:=hc k hkL
   have cr:=fun w=>isReg_any L[k].2.2 w
   have EX:Hid (regL (L.take (k+1))=reg L[k].2.2):=(show _=_ from by
    have h:regL (L.take k)=false:=hno.out
    unfold regL at h |-
    rw [List.take_add_one,List.getElem?_eq_getElem hkL,List.any_append,h]
    simp)
   have EY:Hid (reg L[k].2.2=true->regL L=true):=fun h=>List.any_eq_true.2 ⟨L[k],List.getElem_mem hkL,h⟩
   clear hc
   generalize L[k].2.2=t at *
   generalize L[k].1=y0 at *
   generalize L[k].2.1=y1 at *
   have k0:(0:Int)<=(k:Int):=by omega
   have k1:(k:Int)<(n:Int):=by omega
   obtain ⟨q,hq⟩ : ∃ q,reg t=q:=⟨_,rfl⟩
   rw [hq] at cr EX EY
   clear hq
   have B2:Hid (∀ o o':Obj,Below w.heap.size w ((wr.alloc o).alloc o')):=fun o o'=>(hbel.out.alloc hbel.out.size _).alloc (Nat.le_trans hbel.out.size (by simp)) _
   have B1:Hid (∀ o:Obj,Below w.heap.size w (wr.alloc o)):=fun o=>hbel.out.alloc hbel.out.size _
   cases q with
   | true =>
    have EZ:Hid (regL L=true):=EY.out rfl
    clear EY
    go_wp2_with (go_at_call 78;refine (cr _).mono ?_;rintro e w1 ⟨rfl,rfl⟩)
    go_ret
    first
     | exact ⟨by rw [EZ.out];rfl,B1.out _⟩
     | exact ⟨by rw [EZ.out];rfl,B2.out _ _⟩
   | false =>
    go_wp2_with (go_at_call 78;refine (cr _).mono ?_;rintro e w1 ⟨rfl,rfl⟩)
    go_roundw
    case rel=>first
     | exact ⟨k+1,by omega,by go_num,EX.out,B1.out _⟩
     | exact ⟨k+1,by omega,by go_num,EX.out,B2.out _ _⟩
    case measure=>simp [intOf];omega
  ·have EX:Hid (regL L=false):=(show _=_ from by
    have h:regL (L.take k)=false:=hno.out
    rwa [List.take_of_length_le (by have:=HL.out;omega)] at h)
   go_wp2_with fail
   go_ret
   exact ⟨by rw [EX.out];rfl,hbel.out⟩
end Fita
namespace Ximf
open Go.Deep
open Prsp Prsl Xima Ximb Ximc Ximd
abbrev ptr (pb:Nat):Value:=.pointer (some ⟨pb,0,none⟩)
def VA (pb:Nat) (s:ByteArray) (deep:Int) (f:St->Option St):Prop:=∀ k L w,PI w pb s k L->Nums.Tab w->Calls prog 95 #[ptr pb,.int .i64 deep] w (RI pb s k (f (s.data.toList.drop k,L)) w)
def EA (pb:Nat) (s:ByteArray) (deep:Int) (f:Int->St->Option St):Prop:=∀ least k L w,1<=least->least<=7->PI w pb s k L->Nums.Tab w->Calls prog 77 #[ptr pb,.int .i64 least,.int .i64 deep] w (RI pb s k (f least (s.data.toList.drop k,L)) w)
theorem value_zero (pb:Nat) (s:ByteArray) (deep:Int) (hdp:30<deep):VA pb s deep (val 0):=by
 intro k L w h hT
 rw [val_zero]
 clear h hT
 have dd:decide (30<deep)=true:=decide_eq_true hdp
 go_enter func95,ntmps95
 go_wp2
 exact ⟨rfl,RI.pan zRf⟩
theorem value_succ (pb n:Nat) (s:ByteArray) (deep:Int) (h0:0<=deep) (hdp:deep<=30) (hg:8<pb) (hv:VA pb s (deep+1) (val n)) (he:EA pb s (deep+1) (lev n)):VA pb s deep (val (n+1)):=by
 intro k L w h hT
 have H:Hid (PI w pb s k L):=h
 have hs:=h.sz
 have hlt:=h.lt
 have HT:Hid (Nums.Tab w):=hT
 have dd:decide (30<deep)=false:=decide_eq_false (by omega)
 have id1:IntKind.i64.wrap (deep+1)=deep+1:=by rw [IntKind.wrap_i64];omega
 obtain ⟨R,hR⟩ : ∃ R,R=valueF (val n) (lev n 1) (s.data.toList.drop k,L):=⟨_,rfl⟩
 have HR:Hid (R=valueF (val n) (lev n 1) (s.data.toList.drop k,L)):=hR
 rw [val_succ,<- hR]
 have hl:∀ k L w,PI w pb s k L->Nums.Tab w->Calls prog 77 #[ptr pb,.int .i64 1,.int .i64 (deep+1)] w (RI pb s k (lev n 1 (s.data.toList.drop k,L)) w):=fun k L w h hT=>he 1 k L w (by decide) (by decide) h hT
 clear h hR hT he
 by_cases h45:hdK s k=45
 ·have hk:=hdK_lt h45 (by decide)
  have RQ:Hid (R=(val n (s.data.toList.drop (k+1),L)).bind (put (4,0,E0))):=(show R=_ from by
   rw [HR.out];unfold valueF
   have e:hd (s.data.toList.drop k,L).1=45:=by show hd (s.data.toList.drop k)=45;rw [<- hdK_def];exact h45
   rw [e,if_pos rfl]
   show (val n ((s.data.toList.drop k).tail,L)).bind _=_
   rw [tl])
  have d45:(hdK s k == 45)=true:=by simpa using h45
  clear HR h45 
  go_enter func95,ntmps95
  go_wp2_with fail
  refine (next_any pb k s L _ H.out).mono ?_
  rintro e w1 ⟨rfl,p,b⟩
  have P1:Hid (PI w1 pb s k L/\BK pb w w1):=⟨p,BK.of hlt b⟩
  have cz:=p.c1
  have fz:=p.fz 1
  clear p b H
  have i1:IntKind.i64.wrap ((k:Int)+1)=(k:Int)+1:=by rw [IntKind.wrap_i64];omega
  have P2:Hid (PI (w1.setCell ⟨pb,1,none⟩ (.int .i64 ((k:Int)+1))) pb s (k+1) L/\BK pb w (w1.setCell ⟨pb,1,none⟩ (.int .i64 ((k:Int)+1)))):=⟨P1.out.1.at_ (by omega) (by omega),P1.out.2.trans bk_set⟩
  go_wp2_with fail
  refine (hv (k+1) L _ P2.out.1 (tab_pb hg HT.out P2.out.2.bel)).mono ?_
  intro e w9 h9
  rcases RI.split h9 with ⟨hn,⟨u,pv,rfl⟩,b9⟩|⟨st9,j9,hn,rfl,hj9,hst9,p9,b9⟩
  ·exact ⟨rfl,RI.none_of (by rw [RQ.out,hn];rfl) (P2.out.2.bel.trans b9)⟩
  ·have P9:Hid (PI w9 pb s j9 st9.2/\BK pb w w9):=⟨p9,P2.out.2.trans b9⟩
   have RQ2:Hid (R=put (4,0,E0) (s.data.toList.drop j9,st9.2)):=(show R=_ from by rw [RQ.out,hn];show put _ st9=_;rw [<- hst9])
   clear h9 p9 b9 hst9 hn RQ cz fz P1 P2
   have RQ:Hid (R=put (4,0,E0) (s.data.toList.drop j9,st9.2)):=RQ2.out
   clear RQ2
   have ct:=put_any pb j9 s st9.2 _ P9.out.1 4 0 E0
   rw [<- RQ.out] at ct
   go_wp2_with fail
   refine ct.mono ?_
   intro e wz hz
   rcases RI.split hz with ⟨hn,⟨u,pv,rfl⟩,bz⟩|⟨st,jz,hn,rfl,hjz,hst,pz,bz⟩
   ·exact ⟨rfl,RI.none_of hn (P9.out.2.bel.trans bz)⟩
   ·have F:Hid (RI pb s k R w (.returned (.tuple #[])) wz):=RI.to hz (by omega) P9.out.2
    clear hz pz bz hst hn ct
    go_wp2_with fail
    first|go_end0|refine bodyPost_ret (results_none rfl _ _ _) rfl ?_
    exact F.out
 by_cases h126:hdK s k=126
 ·have hk:=hdK_lt h126 (by decide)
  have RQ:Hid (R=(val n (s.data.toList.drop (k+1),L)).bind (put (5,0,E0))):=(show R=_ from by
   rw [HR.out];unfold valueF
   have e:hd (s.data.toList.drop k,L).1=126:=by show hd (s.data.toList.drop k)=126;rw [<- hdK_def];exact h126
   rw [e,if_neg (by decide),if_pos rfl]
   show (val n ((s.data.toList.drop k).tail,L)).bind _=_
   rw [tl])
  have d45:(hdK s k == 45)=false:=by simpa using h45
  have d126:(hdK s k == 126)=true:=by simpa using h126
  clear HR h126 h45
  go_enter func95,ntmps95
  go_wp2_with fail
  refine (next_any pb k s L _ H.out).mono ?_
  rintro e w1 ⟨rfl,p,b⟩
  have P1:Hid (PI w1 pb s k L/\BK pb w w1):=⟨p,BK.of hlt b⟩
  have cz:=p.c1
  have fz:=p.fz 1
  clear p b H
  have i1:IntKind.i64.wrap ((k:Int)+1)=(k:Int)+1:=by rw [IntKind.wrap_i64];omega
  have P2:Hid (PI (w1.setCell ⟨pb,1,none⟩ (.int .i64 ((k:Int)+1))) pb s (k+1) L/\BK pb w (w1.setCell ⟨pb,1,none⟩ (.int .i64 ((k:Int)+1)))):=⟨P1.out.1.at_ (by omega) (by omega),P1.out.2.trans bk_set⟩
  go_wp2_with fail
  refine (hv (k+1) L _ P2.out.1 (tab_pb hg HT.out P2.out.2.bel)).mono ?_
  intro e w9 h9
  rcases RI.split h9 with ⟨hn,⟨u,pv,rfl⟩,b9⟩|⟨st9,j9,hn,rfl,hj9,hst9,p9,b9⟩
  ·exact ⟨rfl,RI.none_of (by rw [RQ.out,hn];rfl) (P2.out.2.bel.trans b9)⟩
  ·have P9:Hid (PI w9 pb s j9 st9.2/\BK pb w w9):=⟨p9,P2.out.2.trans b9⟩
   have RQ2:Hid (R=put (5,0,E0) (s.data.toList.drop j9,st9.2)):=(show R=_ from by rw [RQ.out,hn];show put _ st9=_;rw [<- hst9])
   clear h9 p9 b9 hst9 hn RQ cz fz P1 P2
   have RQ:Hid (R=put (5,0,E0) (s.data.toList.drop j9,st9.2)):=RQ2.out
   clear RQ2
   have ct:=put_any pb j9 s st9.2 _ P9.out.1 5 0 E0
   rw [<- RQ.out] at ct
   go_wp2_with fail
   refine ct.mono ?_
   intro e wz hz
   rcases RI.split hz with ⟨hn,⟨u,pv,rfl⟩,bz⟩|⟨st,jz,hn,rfl,hjz,hst,pz,bz⟩
   ·exact ⟨rfl,RI.none_of hn (P9.out.2.bel.trans bz)⟩
   ·have F:Hid (RI pb s k R w (.returned (.tuple #[])) wz):=RI.to hz (by omega) P9.out.2
    clear hz pz bz hst hn ct
    go_wp2_with fail
    first|go_end0|refine bodyPost_ret (results_none rfl _ _ _) rfl ?_
    exact F.out
 by_cases h40:hdK s k=40
 ·have H40:Hid (hdK s k=40):=h40
  have RQ:Hid (R=brF (lev n 1) (s.data.toList.drop k,L)):=(show R=_ from by
   rw [HR.out];unfold valueF
   have e:hd (s.data.toList.drop k,L).1=40:=by show hd (s.data.toList.drop k)=40;rw [<- hdK_def];exact h40
   rw [e,if_neg (by decide),if_neg (by decide),if_pos rfl])
  have d45:(hdK s k == 45)=false:=by simpa using h45
  have d126:(hdK s k == 126)=false:=by simpa using h126
  have d40:(hdK s k == 40)=true:=by simpa using h40
  clear HR h40 h45 h126
  go_enter func95,ntmps95
  go_wp2_with fail
  refine (next_any pb k s L _ H.out).mono ?_
  rintro e w1 ⟨rfl,p,b⟩
  have P1:Hid (PI w1 pb s k L/\BK pb w w1):=⟨p,BK.of hlt b⟩
  have cz:=p.c1
  have fz:=p.fz 1
  clear p b H
  have ct:=bracket_any pb k n deep s L w1 P1.out.1 H40.out h0 (by omega) (tab_pb hg HT.out P1.out.2.bel) hg hl
  rw [<- RQ.out] at ct
  go_wp2_with fail
  refine ct.mono ?_
  intro e wz hz
  rcases RI.split hz with ⟨hn,⟨u,pv,rfl⟩,bz⟩|⟨st,jz,hn,rfl,hjz,hst,pz,bz⟩
  ·exact ⟨rfl,RI.none_of hn (P1.out.2.bel.trans bz)⟩
  ·have F:Hid (RI pb s k R w (.returned (.tuple #[])) wz):=RI.to hz (by omega) P1.out.2
   clear hz pz bz hst hn ct
   go_wp2_with fail
   first|go_end0|refine bodyPost_ret (results_none rfl _ _ _) rfl ?_
   exact F.out
 have RQ:Hid (R=wordF (lev n 1) (s.data.toList.drop k,L)):=(show R=_ from by
  rw [HR.out];unfold valueF
  have e:hd (s.data.toList.drop k,L).1=hdK s k:=by rw [hdK_def]
  rw [e,if_neg h45,if_neg h126,if_neg h40])
 have d45:(hdK s k == 45)=false:=by simpa using h45
 have d126:(hdK s k == 126)=false:=by simpa using h126
 have d40:(hdK s k == 40)=false:=by simpa using h40
 clear HR h40 h45 h126
 go_enter func95,ntmps95
 go_wp2_with fail
 refine (next_any pb k s L _ H.out).mono ?_
 rintro e w1 ⟨rfl,p,b⟩
 have P1:Hid (PI w1 pb s k L/\BK pb w w1):=⟨p,BK.of hlt b⟩
 have cz:=p.c1
 have fz:=p.fz 1
 clear p b H
 have ct:=Xime.word_any pb k n deep s L w1 P1.out.1 h0 (by omega) (tab_pb hg HT.out P1.out.2.bel) hg hl
 rw [<- RQ.out] at ct
 go_wp2_with fail
 refine ct.mono ?_
 intro e wz hz
 rcases RI.split hz with ⟨hn,⟨u,pv,rfl⟩,bz⟩|⟨st,jz,hn,rfl,hjz,hst,pz,bz⟩
 ·exact ⟨rfl,RI.none_of hn (P1.out.2.bel.trans bz)⟩
 ·have F:Hid (RI pb s k R w (.returned (.tuple #[])) wz):=RI.to hz (by omega) P1.out.2
  clear hz pz bz hst hn ct
  go_wp2_with fail
  first|go_end0|refine bodyPost_ret (results_none rfl _ _ _) rfl ?_
  exact F.out
end Ximf
namespace Ximg
open Go.Deep
open Prsp Prsl Xima Ximb Ximc Ximd Ximf
theorem expr_zero (pb:Nat) (s:ByteArray) (deep:Int) (hv:VA pb s deep (val 0)):EA pb s deep (lev 0):=by
 intro least k L w _ _ h hT
 rw [lev_zero]
 have ct:=hv k L w h hT
 rw [val_zero] at ct
 go_enter func77,ntmps77
 go_wp2_with fail
 refine ct.mono ?_
 rintro e w1 ⟨⟨u,pv,rfl⟩,hb⟩
 exact ⟨rfl,RI.pan hb⟩
def Q1 (pb j b:Nat) (s:ByteArray) (L:List Stepx.Node) (o:Int) (w wx:World):Prop :=
 PI wx pb s j L/\BK pb w wx/\wx.cell? ⟨b,0,none⟩=some (.int .i64 o)/\wx.cell? ⟨b,1,none⟩=some (.int .i64 (tgt o))/\wx.cell? ⟨b,2,none⟩=some (.int .i64 (opSz o))/\b ≠ pb/\rowB wx pb ≠ some b
theorem rowB_lt {w:World} {pb k:Nat} {s:ByteArray} {L:List Stepx.Node} (h:PI w pb s k L) {b:Nat} (hb:w.heap.size<=b):rowB w pb ≠ some b:=by
 obtain ⟨a,cap,c0,c1,c2,cf,hk,hs,hl30,ho⟩:=h
 intro e
 unfold rowB at e
 rw [c2] at e
 rcases ho.2 with ⟨h1,_⟩|⟨g,c,cur,h1,hg,hh,_⟩
 ·rw [h1] at e;cases e
 ·rw [h1] at e
  have e:g=b:=by simpa [Value.ownBlock] using e
  have:=(zLo hh)
  omega
theorem meet1 {w wr wx:World} {pb j b:Nat} {s:ByteArray} {L:List Stepx.Node} {o:Int} (h:PI wr pb s j L) (hw:BK pb w wr) (hb:Below wr.heap.size wr wx) (hbb:wr.heap.size<=b)
  (c0:wx.cell? ⟨b,0,none⟩=some (.int .i64 o)) (c1:wx.cell? ⟨b,1,none⟩=some (.int .i64 (tgt o))) (c2:wx.cell? ⟨b,2,none⟩=some (.int .i64 (opSz o))):Q1 pb j b s L o w wx:=by
 have hk:=BK.of h.lt hb
 refine ⟨h.kept hb,hw.trans hk,c0,c1,c2,by have:=h.lt;omega,?_⟩
 rcases hk.row with e|⟨c,e,hc⟩
 ·rw [e];exact rowB_lt h hbb
 ·have:rowB wx pb=rowB wr pb:=by unfold rowB;rw [hb.cell (p:=⟨pb,2,none⟩) h.lt]
  rw [this];exact rowB_lt h hbb
theorem drop_all (s:ByteArray) (j:Nat) (h:j<=s.size):(s.extract j s.size).data.toList=s.data.toList.drop j:=by
 rw [ByteArray.data_extract,Array.toList_extract,List.extract_eq_take_drop,List.take_of_length_le (by rw [List.length_drop];exact Nat.le_refl _)]
theorem new_cells (W:World) (a b c:Value) (t:TypeId):(W.alloc (.cells #[a,b,c] t)).cell? ⟨W.heap.size,0,none⟩=some a/\(W.alloc (.cells #[a,b,c] t)).cell? ⟨W.heap.size,1,none⟩=some b/\(W.alloc (.cells #[a,b,c] t)).cell? ⟨W.heap.size,2,none⟩=some c :=
 ⟨by rw [World.cell?_alloc_new];rfl,by rw [World.cell?_alloc_new];rfl,by rw [World.cell?_alloc_new];rfl⟩
theorem meetA {w wr wq:World} {pb j:Nat} {s:ByteArray} {L:List Stepx.Node} {o:Int} (h:PI wr pb s j L) (hw:BK pb w wr) (hb:Below wr.heap.size wr wq)
  (z0:wq.cell? ⟨wr.heap.size,0,none⟩=some (.int .i64 0)) (z1:wq.cell? ⟨wr.heap.size,1,none⟩=some (.int .i64 0)) (z2:wq.cell? ⟨wr.heap.size,2,none⟩=some (.int .i64 0)) :
  Q1 pb j wr.heap.size s L o w (((wq.setCell ⟨wr.heap.size,0,none⟩ (.int .i64 o)).setCell ⟨wr.heap.size,1,none⟩ (.int .i64 (tgt o))).setCell ⟨wr.heap.size,2,none⟩ (.int .i64 (opSz o))):=by
 have ne:∀ (W:World) (i j:Nat) (v:Value),j ≠ i->(W.setCell ⟨wr.heap.size,i,none⟩ v).cell? ⟨wr.heap.size,j,none⟩=W.cell? ⟨wr.heap.size,j,none⟩:=fun W i j v hij=>World.cell?_setCell_other W _ _ _ (fun e=>by have:=congrArg Addr.off e;simp at this;omega)
 refine meet1 h hw (((hb.trans below_set).trans below_set).trans below_set) (Nat.le_refl _) ?_ ?_ ?_
 ·rw [ne _ _ _ _ (by decide),ne _ _ _ _ (by decide)];exact World.cell?_setCell_same _ _ _ z0
 ·rw [ne _ _ _ _ (by decide)];exact World.cell?_setCell_same _ _ _ ((ne _ _ _ _ (by decide)).trans z1)
 ·exact World.cell?_setCell_same _ _ _ (((ne _ _ _ _ (by decide)).trans (ne _ _ _ _ (by decide))).trans z2)
theorem meetB {w wr wq:World} {pb j:Nat} {s:ByteArray} {L:List Stepx.Node} {o:Int} (h:PI wr pb s j L) (hw:BK pb w wr) (hb:Below wr.heap.size wr wq) :
  Q1 pb j wq.heap.size s L o w (wq.alloc (.cells #[.int .i64 o,.int .i64 (tgt o),.int .i64 (opSz o)] 120)):=by
 obtain ⟨a,b,c⟩:=new_cells wq (.int .i64 o) (.int .i64 (tgt o)) (.int .i64 (opSz o)) 120
 exact meet1 h hw (hb.trans (zRf.alloc hb.size _)) hb.size a b c
theorem metA {w wr wq:World} {pb j:Nat} {s:ByteArray} {L:List Stepx.Node} {o:Int} (h:PI wr pb s j L) (hw:BK pb w wr) (hb:Below wr.heap.size wr wq)
  (z0:wq.cell? ⟨wr.heap.size,0,none⟩=some (.int .i64 0)) (z1:wq.cell? ⟨wr.heap.size,1,none⟩=some (.int .i64 0)) (z2:wq.cell? ⟨wr.heap.size,2,none⟩=some (.int .i64 0)) :
  ∃ b:Nat,Value.pointer (some ⟨wr.heap.size,0,none⟩)=.pointer (some ⟨b,0,none⟩)/\Hid (Q1 pb j b s L o w (((wq.setCell ⟨wr.heap.size,0,none⟩ (.int .i64 o)).setCell ⟨wr.heap.size,1,none⟩ (.int .i64 (tgt o))).setCell ⟨wr.heap.size,2,none⟩ (.int .i64 (opSz o)))):=⟨_,rfl,meetA h hw hb z0 z1 z2⟩
theorem metB {w wr wq:World} {pb j:Nat} {s:ByteArray} {L:List Stepx.Node} {o:Int} (h:PI wr pb s j L) (hw:BK pb w wr) (hb:Below wr.heap.size wr wq) :
  ∃ b:Nat,Value.pointer (some ⟨wq.heap.size,0,none⟩)=.pointer (some ⟨b,0,none⟩)/\Hid (Q1 pb j b s L o w (wq.alloc (.cells #[.int .i64 o,.int .i64 (tgt o),.int .i64 (opSz o)] 120))):=⟨_,rfl,meetB h hw hb⟩
theorem Q1.below {w wc wx:World} {pb j b:Nat} {s:ByteArray} {L:List Stepx.Node} {o:Int} (h:Q1 pb j b s L o w wc) (hb:Below wc.heap.size wc wx):Q1 pb j b s L o w wx:=by
 obtain ⟨h1,h2,c0,c1,c2,hne,hr⟩:=h
 have hl:b<wc.heap.size:=World.block_lt_of_cell? wc ⟨b,0,none⟩ c0
 have e:∀ i,wx.cell? ⟨b,i,none⟩=wc.cell? ⟨b,i,none⟩:=fun i=>hb.cell (p:=⟨b,i,none⟩) hl
 exact ⟨h1.kept hb,h2.trans (BK.of h1.lt hb),(e 0).trans c0,(e 1).trans c1,(e 2).trans c2,hne,by
  have:rowB wx pb=rowB wc pb:=by unfold rowB;rw [hb.cell (p:=⟨pb,2,none⟩) h1.lt]
  rw [this];exact hr⟩
theorem Q1.at_ {w wc:World} {pb j b j2:Nat} {s:ByteArray} {L:List Stepx.Node} {o z:Int} (h:Q1 pb j b s L o w wc) (hj:j2<=s.size) (hz:z=(j2:Int)):Q1 pb j2 b s L o w (wc.setCell ⟨pb,1,none⟩ (.int .i64 z)):=by
 obtain ⟨h1,h2,c0,c1,c2,hne,hr⟩:=h
 have e:∀ i,(wc.setCell ⟨pb,1,none⟩ (.int .i64 z)).cell? ⟨b,i,none⟩=wc.cell? ⟨b,i,none⟩:=fun i=>World.cell?_setCell_other wc _ _ _ (fun e=>hne (congrArg Addr.block e).symm)
 refine ⟨h1.at_ hj hz,h2.trans bk_set,(e 0).trans c0,(e 1).trans c1,(e 2).trans c2,hne,?_⟩
 have:rowB (wc.setCell ⟨pb,1,none⟩ (.int .i64 z)) pb=rowB wc pb:=by unfold rowB;rw [World.cell?_setCell_other wc _ _ _ (fun e=>by have:=congrArg Addr.off e;simp at this)]
 rw [this];exact hr
theorem Q1.kind {w wc wx:World} {pb j b:Nat} {s:ByteArray} {L:List Stepx.Node} {o:Int} (h:Q1 pb j b s L o w wc) (hb:BK pb wc wx):wx.cell? ⟨b,0,none⟩=some (.int .i64 o):=by
 obtain ⟨h1,h2,c0,c1,c2,hne,hr⟩:=h
 have hl:b<wc.heap.size:=World.block_lt_of_cell? wc ⟨b,0,none⟩ c0
 exact (World.cell?_of_block (a:=⟨b,0,none⟩) (hb.keep b hl hne hr)).trans c0
theorem step_at {f:Int->St->Option St} {s:ByteArray} {j z:Nat} {L:List Stepx.Node} {o q:Int} (ho:o=opK (s.data.toList.drop j)) (hq:q=tgt o) (hz:z=opL o) :
  stepF f (s.data.toList.drop j,L)=(f (q+1) (s.data.toList.drop (j+z),L)).bind (put (o,0,E0)):=by
 unfold stepF
 show (f (tgt (opK (s.data.toList.drop j))+1) ((s.data.toList.drop j).drop (opL (opK (s.data.toList.drop j))),L)).bind (put (opK (s.data.toList.drop j),0,E0))=_
 rw [<- ho,<- hq,<- hz,List.drop_drop]
theorem expr_succ (pb n:Nat) (s:ByteArray) (deep:Int) (h0:0<=deep) (hdp:deep<=30) (hg:8<pb) (hv:VA pb s deep (val (n+1))) (he:EA pb s (deep+1) (lev n)):EA pb s deep (lev (n+1)):=by
 intro least k L w hl1 hl7 h hT
 have H:Hid (PI w pb s k L):=h
 have hs:=h.sz
 have HT:Hid (Nums.Tab w):=hT
 have id1:IntKind.i64.wrap (deep+1)=deep+1:=by rw [IntKind.wrap_i64];omega
 obtain ⟨R,hR⟩ : ∃ R,R=(val (n+1) (s.data.toList.drop k,L)).bind (loopF (lev n) least):=⟨_,rfl⟩
 have HR:Hid (R=(val (n+1) (s.data.toList.drop k,L)).bind (loopF (lev n) least)):=hR
 rw [lev_succ,<- hR]
 clear h hR hT
 go_enter func77,ntmps77
 go_wp2_with fail
 refine (hv k L _ H.out HT.out).mono ?_
 intro e w1 h1
 rcases RI.split h1 with ⟨hn,⟨u,pv,rfl⟩,b1⟩|⟨st,j1,hn,rfl,hj1,hst,p1,b1⟩
 ·exact ⟨rfl,RI.none_of (by rw [HR.out,hn];rfl) b1⟩
 have START:Hid (∃ j L',k<=j/\Hid (PI w1 pb s j L'/\BK pb w w1/\R=loopF (lev n) least (s.data.toList.drop j,L'))):=⟨j1,st.2,hj1,p1,b1,by rw [HR.out,hn];show loopF (lev n) least st=_;rw [<- hst]⟩
 clear h1 p1 b1 hst hn HR hv H
 go_wp2_with fail
 go_loopw [] (fun wr=>∃ j L',k<=j/\Hid (PI wr pb s j L'/\BK pb w wr/\R=loopF (lev n) least (s.data.toList.drop j,L'))) (fun wr=>s.size-Ximb.atOf wr pb)
 case atStart=>exact START.out
 case round =>
  obtain ⟨j,L',hkj,Q⟩:=hrel
  clear START hj1
  have hat:=atOf_ Q.out.1
  have hj:=Q.out.1.sz.1
  obtain ⟨o,ho⟩ : ∃ o,o=opK (s.data.toList.drop j):=⟨_,rfl⟩
  have HO:Hid (o=opK (s.data.toList.drop j)):=ho
  have obd:=op_bd (s.data.toList.drop j)
  rw [<- ho] at obd
  have co:=fun W=>opAt_any (s.extract j s.size) W (by rw [ByteArray.size_extract];omega)
  rw [drop_all s j hj,<- ho] at co
  clear ho
  have s1:∀ w,(Instr.slice 9 (.string s) (some (.int .i64 (j:Int))) none none).run prog w=.ok (.string (s.extract j s.size)) w:=fun w=>by
   rw [run_slice_string_from_if (P:=prog) (w:=w) 9 s .i64 (j:Int) underlying9,if_pos ⟨by omega,by omega⟩,show ((j:Int)).toNat=j by omega]
  have c0:=Q.out.1.c0
  have c1:=Q.out.1.c1
  have hpl:=Q.out.1.lt
  have g0:∀ o,(wr.alloc o).cell? ⟨pb,0,none⟩=some (.string s):=fun o=>(((Below.refl wr.heap.size wr).alloc (Nat.le_refl _) o).cell (p:=⟨pb,0,none⟩) hpl).trans c0
  have g1:∀ o,(wr.alloc o).cell? ⟨pb,1,none⟩=some (.int .i64 j):=fun o=>(((Below.refl wr.heap.size wr).alloc (Nat.le_refl _) o).cell (p:=⟨pb,1,none⟩) hpl).trans c1
  generalize s.extract j s.size=t at *
  go_upto_region 1 with fail
  go_cut [6] from 10 to 44 (fun v wx=>∃ b:Nat,v=.pointer (some ⟨b,0,none⟩)/\Hid (Q1 pb j b s L' o w wx))
  case first =>
   unfold opV at co
   go_region_with (first
    | (go_at_call 96; refine (co _).mono ?_; rintro e wq ⟨rfl,bq⟩; (first | (have z0:wq.cell? ⟨wr.heap.size,0,none⟩=some (.int .i64 0):=(bq.cell (p:=⟨wr.heap.size,0,none⟩) (by simp)).trans (by first|exact (new_cells _ _ _ _ _).1|exact (new_cells wr _ _ _ _).1); have z1:wq.cell? ⟨wr.heap.size,1,none⟩=some (.int .i64 0):=(bq.cell (p:=⟨wr.heap.size,1,none⟩) (by simp)).trans (by first|exact (new_cells _ _ _ _ _).2.1|exact (new_cells wr _ _ _ _).2.1); have z2:wq.cell? ⟨wr.heap.size,2,none⟩=some (.int .i64 0):=(bq.cell (p:=⟨wr.heap.size,2,none⟩) (by simp)).trans (by first|exact (new_cells _ _ _ _ _).2.2|exact (new_cells wr _ _ _ _).2.2); have zf:∀ i,wq.frozen? ⟨wr.heap.size,i,none⟩=false:=fun i=>(World.frozen?_of_block (a:=⟨wr.heap.size,i,none⟩) (bq.block wr.heap.size (by simp))).trans (by simp [go_sem]); have BQ:Hid (Below wr.heap.size wr wq):=(show Below wr.heap.size wr _ from by repeat (with_reducible first|exact zRf|refine Below.drew ?_|refine Below.alloc ?_ (Nat.le_refl _) _)).trans (bq.mono (by simp))) | (have BQ:Hid (Below wr.heap.size wr wq):=(show Below wr.heap.size wr _ from by repeat (with_reducible first|exact zRf|refine Below.drew ?_)).trans (bq.mono (by simp)))); clear bq)
    | fail)
   all_goals go_wp2_with fail
   all_goals go_meet
   all_goals first
    | (with_reducible exact metA Q.out.1 Q.out.2.1 BQ.out z0 z1 z2)
    | (with_reducible exact metB Q.out.1 Q.out.2.1 BQ.out)
  case rest =>
   obtain ⟨b,rfl,Q2⟩:=hcut
   have HQ:Hid (R=loopF (lev n) least (s.data.toList.drop j,L')):=Q.out.2.2
   have x0:=Q2.out.2.2.1
   have x1:=Q2.out.2.2.2.1
   have x2:=Q2.out.2.2.2.2.1
   have c1:=Q2.out.1.c1
   clear c0 g0 g1 Q co s1 x0 hpl
   by_cases ht:tgt o<least
   ·have F:Hid (RI pb s k R w (.returned (.tuple #[])) wc):=(show RI _ _ _ _ _ _ _ from by
     rw [HQ.out,loop_stop (by rw [HO.out] at ht;exact ht)];exact RI.some hkj Q2.out.1 Q2.out.2.1)
    have d0:decide (tgt o<least)=true:=decide_eq_true ht
    clear HQ HO ht c1 x2
    go_wp2_with fail
    first|go_end0|refine bodyPost_ret (results_none rfl _ _ _) rfl ?_
    exact F.out
   ·have HTG:Hid (¬ tgt (opK (s.data.toList.drop j))<least):=(show ¬ _ from by rw [<- HO.out];exact ht)
    have hob:8<=o/\o<=17:=by have:=op_ne hl1 HTG.out;rw [<- HO.out] at this;exact this
    have hqb:=tight_bd hob
    have hzb:=opL_bd o
    have hol:j+opL o<=s.size:=by
     have:=Prsm.op_len (l:=s.data.toList.drop j) (by rw [<- HO.out];exact hob.1)
     rw [<- HO.out,drop_len] at this
     omega
    have hsz:opSz o=(opL o:Int):=by unfold opSz;rw [if_neg (by omega)]
    rw [hsz] at x2
    obtain ⟨z,hz⟩ : ∃ z,z=opL o:=⟨_,rfl⟩
    obtain ⟨q,hq⟩ : ∃ q,q=tgt o:=⟨_,rfl⟩
    have ST:Hid (∀ L,stepF (lev n) (s.data.toList.drop j,L)=(lev n (q+1) (s.data.toList.drop (j+z),L)).bind (put (o,0,E0))):=fun L=>step_at HO.out hq hz
    have HQT:Hid (q=tgt o):=hq
    rw [<- hz] at hzb hol x2
    rw [<- hq] at ht hqb x1
    clear hsz hz hq HO
    have d0:decide (q<least)=false:=decide_eq_false ht
    have i1:IntKind.i64.wrap ((j:Int)+(z:Int))=(j:Int)+(z:Int):=by rw [IntKind.wrap_i64];omega
    have i2:IntKind.i64.wrap (q+1)=q+1:=by rw [IntKind.wrap_i64];omega
    go_upto_region 3 with fail
    have r1:=fun d os=>cell_regrown c1 d os
    have r2:=fun d os=>cell_regrown x2 d os
    refine Qtail.tail_below 9 (by kernel_rfl) (by kernel_rfl) ?_
    simp only [List.take_succ_cons,List.take_zero,List.drop_succ_cons,List.drop_zero]
    repeat (go_big_quiet_step (fail))
    refine wpQuiet_nil ?_
    intro _ hw'
    obtain ⟨⟨dq,osq⟩,hw''⟩:=hw'
    subst hw''
    have hbr:=below_regrown wc dq osq
    generalize Go.Sort.grow (redrawn wc dq) osq=W3 at hbr |-
    have Q3:=zHd (Q2.out.below hbr)
    clear hbr r1 r2 x1 x2 c1 Q2
    have c1:=Q3.out.1.c1
    have f1:=Q3.out.1.fz 1
    have Q4:Hid (Q1 pb (j+z) b s L' o w (W3.setCell ⟨pb,1,none⟩ (.int .i64 ((j:Int)+(z:Int))))):=Q3.out.at_ hol (by omega)
    have x1:=Q4.out.2.2.2.1
    rw [<- HQT.out] at x1
    go_wp2_with fail
    refine (he (q+1) (j+z) L' _ (by omega) (by omega) Q4.out.1 (tab_pb hg HT.out Q4.out.2.1.bel)).mono ?_
    intro e w5 h5
    rcases RI.split h5 with ⟨hn,⟨u,pv,rfl⟩,b5⟩|⟨st5,j5,hn,rfl,hj5,hst5,p5,b5⟩
    ·have F:Hid (RI pb s k R w (.panicked [{ v:=.iface u pv,recovered:=false }]) w5):=(show RI _ _ _ _ _ _ _ from RI.none_of (by rw [HQ.out];exact loop_none (s:=(s.data.toList.drop j,L')) (by show ¬ tgt (opK (s.data.toList.drop j))<least;have:=HTG.out;omega) (by rw [ST.out,hn];rfl)) (Q4.out.2.1.bel.trans b5))
     first|exact ⟨rfl,F.out⟩|(go_wp2;exact ⟨rfl,F.out⟩)
    have P5:Hid (PI w5 pb s j5 st5.2/\BK pb w w5):=⟨p5,Q4.out.2.1.trans b5⟩
    have y0:=Q4.out.kind b5
    have ST5:Hid (stepF (lev n) (s.data.toList.drop j,L')=put (o,0,E0) (s.data.toList.drop j5,st5.2)):=(show _=_ from by rw [ST.out,hn];show put _ st5=_;rw [<- hst5])
    clear h5 p5 b5 hn hst5 x1 c1 f1 Q3 Q4 ST
    have ct:=put_any pb j5 s st5.2 _ P5.out.1 o 0 E0
    rw [<- ST5.out] at ct
    go_wp2_with fail
    refine ct.mono ?_
    intro e w6 h6
    rcases RI.split h6 with ⟨hn,⟨u,pv,rfl⟩,b6⟩|⟨st6,j6,hn,rfl,hj6,hst6,p6,b6⟩
    ·have F:Hid (RI pb s k R w (.panicked [{ v:=.iface u pv,recovered:=false }]) w6):=(show RI _ _ _ _ _ _ _ from RI.none_of (by rw [HQ.out];exact loop_none (s:=(s.data.toList.drop j,L')) (by show ¬ tgt (opK (s.data.toList.drop j))<least;have:=HTG.out;omega) hn) (P5.out.2.bel.trans b6))
     first|exact ⟨rfl,F.out⟩|(go_wp2;exact ⟨rfl,F.out⟩)
    have P6:Hid (PI w6 pb s j6 st6.2/\BK pb w w6/\R=loopF (lev n) least (s.data.toList.drop j6,st6.2)):=⟨p6,P5.out.2.trans b6,by
     rw [HQ.out,loop_go (s:=(s.data.toList.drop j,L')) (s':=st6) (by show ¬ tgt (opK (s.data.toList.drop j))<least;have:=HTG.out;omega) hn (by rw [hst6];show (s.data.toList.drop j6).length<(s.data.toList.drop j).length;rw [drop_len,drop_len];omega),<- hst6]⟩
    clear h6 p6 b6 hn hst6 ct y0 P5 ST5 HQ
    go_wp2_with fail
    go_roundw
    case rel=>exact ⟨j6,st6.2,by omega,P6.out⟩
    case measure=>rw [hat,atOf_ P6.out.1];omega
theorem both_any (pb:Nat) (s:ByteArray) (hg:8<pb):∀ n:Nat,n<=31->VA pb s (31-(n:Int)) (val n)/\EA pb s (31-(n:Int)) (lev n)
 | 0,_=>⟨value_zero pb s _ (by decide),expr_zero pb s _ (value_zero pb s _ (by decide))⟩
 | n+1,h=>by
  obtain ⟨hv,he⟩:=both_any pb s hg n (by omega)
  have e:31-((n+1:Nat):Int)+1=31-(n:Int):=by omega
  have v:=value_succ pb n s (31-((n+1:Nat):Int)) (by omega) (by omega) hg (by rw [e];exact hv) (by rw [e];exact he)
  exact ⟨v,expr_succ pb n s _ (by omega) (by omega) hg v (by rw [e];exact he)⟩
theorem expr_any (pb:Nat) (s:ByteArray) (hg:8<pb):EA pb s 0 (lev 31):=by
 have:=(both_any pb s hg 31 (by decide)).2
 simpa using this
end Ximg
namespace Tmpl
open Tabs
def tmplS (code:Int) (cb:Bool):ByteArray :=
 if cb=true then
  (if code / 64=0 then at8 turns (code / 8%8) ++ ⟨#[32]⟩ ++ at8 regs (code%8)
  else at8 bitW (code / 64) ++ at8 decs (code / 8%8) ++ ⟨#[44]⟩ ++ at8 regs (code%8))
 else if code / 64=0 then LowT.lowS (code / 8%8) (code%8)
 else if code=118 then ⟨#[104,97,108,116]⟩
 else if code / 64=1 then ⟨#[108,100,32]⟩ ++ at8 regs (code / 8%8) ++ ⟨#[44]⟩ ++ at8 regs (code%8)
 else if code / 64=2 then at8 alus (code / 8%8) ++ ⟨#[32,97,44]⟩ ++ at8 regs (code%8)
 else TopT.topS (code / 8%8) (code%8)
theorem low_t (code y z:Int) (w:World) (hx:code / 64=0) (hy:code / 8%8=y) (hz:code%8=z) (h0:0<=code) (h1:code<=255) :
  Calls prog 21 #[.int .i64 code,.bool false] w fun e w'=>e=.returned (.string (LowT.lowS y z))/\Below w.heap.size w w':=by
 have c:=fun w=>LowT.low_any y z w (by omega) (by omega) (by omega) (by omega)
 generalize LowT.lowS y z=T at c |-
 go_enter func21,ntmps21
 go_wp2_with fail
 simp only [hy,hz]
 refine (c _).mono ?_
 rintro e w1 ⟨rfl,b1⟩
 have B1:Hid (Below w.heap.size w w1):=b1
 clear b1
 go_wp2
 go_ret
 exact ⟨rfl,B1.out⟩
theorem top_t (code y z:Int) (w:World) (hx:code / 64=3) (hy:code / 8%8=y) (hz:code%8=z) (h0:0<=code) (h1:code<=255) :
  Calls prog 21 #[.int .i64 code,.bool false] w fun e w'=>e=.returned (.string (TopT.topS y z))/\Below w.heap.size w w':=by
 have c:=fun w=>TopT.top_any y z w (by omega) (by omega) (by omega) (by omega)
 have hh:¬ code=118:=by omega
 generalize TopT.topS y z=T at c |-
 go_enter func21,ntmps21
 go_wp2_with fail
 simp only [hy,hz]
 refine (c _).mono ?_
 rintro e w1 ⟨rfl,b1⟩
 have B1:Hid (Below w.heap.size w w1):=b1
 clear b1
 go_wp2
 go_ret
 exact ⟨rfl,B1.out⟩
theorem template_any (code:Int) (cb:Bool) (w:World) (h0:0<=code) (h1:code<=255) :
  Calls prog 21 #[.int .i64 code,.bool cb] w fun e w'=>e=.returned (.string (tmplS code cb))/\Below w.heap.size w w':=by
 unfold tmplS
 cases cb with
 | true =>
  rw [if_pos rfl]
  by_cases h:code / 64=0
  ·rw [if_pos h];exact TmplA.turn_any code _ _ w h rfl rfl h0 h1
  ·rw [if_neg h];exact TmplA.bit_x code _ _ w _ rfl (by omega) rfl rfl h0 h1
 | false =>
  rw [if_neg (by decide)]
  by_cases h:code / 64=0
  ·rw [if_pos h];exact low_t code _ _ w h rfl rfl h0 h1
  rw [if_neg h]
  by_cases h8:code=118
  ·subst h8;rw [if_pos rfl];exact TmplA.halt_any w
  rw [if_neg h8]
  by_cases h2:code / 64=1
  ·rw [if_pos h2];exact TmplA.ld_any code _ _ w h2 h8 rfl rfl h0 h1
  rw [if_neg h2]
  by_cases h3:code / 64=2
  ·rw [if_pos h3];exact TmplA.sum_any code _ _ w h3 rfl rfl h0 h1
  rw [if_neg h3]
  exact top_t code _ _ w (by omega) rfl rfl h0 h1
end Tmpl
end Go.Proofs.YtbofcepdckpkkaaGreatDoor
