import Derived.Test.YtfpecdgcapfgfaaP07
import Derived.Deep.DeepFit
set_option linter.all false
set_option maxRecDepth 20000
set_option maxHeartbeats 8000000
open Go.ChangeShapes Go.WideShapes Go.ChangeAt Go.RowKit
open Go.Proofs.Try
namespace Go.Proofs.Ytfpecdgcapfgfaa
namespace MachK
open Go.Deep
open Signed (inB ret_int ret_bool isByte_any l1In_any)
open Carts CartK CartL CartN CartR CartX Outs MachT MachO
def okM (ra rf rB rC rD rE rH rL sp pc:Int) (cart:Bool) (work high:Nat) (L:List Int) (cyc:Int):Bool :=
 cpuB ra rf rB rC rD rE rH rL sp pc && cart && work == 256 && high == 127 && decide (L.length<=100) && byteL L && decide (0<=cyc) && decide (cyc<=1000000000)
theorem implM_any (ra rf rB rC rD rE rH rL sp pc:Int) (ime hal:Bool) (rom:ByteArray) (kind bank:Int) (ram:ByteArray) (rb:Int) (on:Bool) (mode:Int) (work high:ByteArray) (po:Option Addr) (L:List Int) (cap:Nat) (cyc:Int) (w:World) (z1:rom.size<=maxLen) (z2:ram.size<=maxLen) (z3:work.size<=1048576) (z4:high.size<=1048576) (hN:Row w po L) (hlen:L.length<=1048576) :
  Calls prog 12 #[.agg #[.int .i64 ra,.int .i64 rf,.int .i64 rB,.int .i64 rC,.int .i64 rD,.int .i64 rE,.int .i64 rH,.int .i64 rL,.int .i64 sp,.int .i64 pc,.bool ime,.bool hal,.string rom,.int .i64 kind,.int .i64 bank,.string ram,.int .i64 rb,.bool on,.int .i64 mode,.string work,.string high,.slice po L.length cap,.int .i64 cyc]] w fun e w'=>e=.returned (.bool (okM ra rf rB rC rD rE rH rL sp pc (okB rom kind bank ram rb on mode) work.size high.size L cyc))/\Below w.heap.size w w':=by
 have HN:Hid (Row w po L):=hN
 have c1:=fun w=>cpuOk_any ra rf rB rC rD rE rH rL sp pc ime hal w
 have c6:=fun W h=>allBytes_any po cap L W h hlen
 obtain ⟨b1,h1⟩ : ∃ b,cpuB ra rf rB rC rD rE rH rL sp pc=b:=⟨_,rfl⟩
 obtain ⟨b6,h6⟩ : ∃ b,byteL L=b:=⟨_,rfl⟩
 obtain ⟨r,hr⟩ : ∃ r,r=okM ra rf rB rC rD rE rH rL sp pc (okB rom kind bank ram rb on mode) work.size high.size L cyc:=⟨_,rfl⟩
 obtain ⟨len,hl⟩ : ∃ len,len=L.length:=⟨_,rfl⟩
 have he:r=(b1 && okB rom kind bank ram rb on mode && work.size == 256 && high.size == 127 && decide (len<=100) && b6 && decide (0<=cyc) && decide (cyc<=1000000000)):=by rw [hr,hl];unfold okM;rw [h1,h6]
 have HE:Hid (r=(b1 && okB rom kind bank ram rb on mode && work.size == 256 && high.size == 127 && decide (len<=100) && b6 && decide (0<=cyc) && decide (cyc<=1000000000))):=he
 clear he
 rw [h1] at c1
 rw [h6,<- hl] at c6
 rw [<- hl] at hlen
 rw [<- hr,<- hl]
 clear hr hl h1 h6 hN
 go_enter func12,ntmps12
 go_wp2_with fail
 refine (c1 _).mono ?_
 rintro e w1 ⟨rfl,o1,o2,rfl⟩
 clear c1
 cases b1
 ·go_wp2
  go_ret
  exact ⟨ret_bool (by rw [HE.out];simp),by repeat (with_reducible first|exact zRf|refine zGr ?_ _|refine below_drewN ?_ _|refine Below.drew ?_)⟩
 cases h2:okB rom kind bank ram rb on mode with
 | false =>
  have c2:=fun w=>implOk_any rom kind bank ram rb on mode w z1 z2
  rw [h2] at c2 HE
  clear h2
  go_wp2_with (go_at_call 19;refine (c2 _).mono ?_;rintro e w' ⟨rfl,hbel⟩)
  go_ret
  exact ⟨ret_bool (by rw [HE.out];simp),CartL.after (by repeat (with_reducible first|exact zRf|refine zGr ?_ _|refine below_drewN ?_ _|refine Below.drew ?_)) hbel⟩
 | true =>
 have c2:=fun w=>implOk_yes rom kind bank ram rb on mode w z1 z2 h2
 rw [h2] at HE
 clear h2
 go_wp2_with fail
 refine (c2 _).mono ?_
 rintro e w1 ⟨rfl,T,rfl⟩
 clear c2
 by_cases k3:work.size=256
 rotate_left
 ·have d:((work.size:Int) == 256)=false:=by first|exact decide_eq_false (by omega)|(simp;omega)
  have d':(work.size == 256)=false:=by first|exact decide_eq_false (by omega)|(simp;omega)
  rw [d'] at HE
  clear d'
  go_wp2
  go_ret
  exact ⟨ret_bool (by rw [HE.out];simp),by repeat (with_reducible first|exact zRf|refine zGr ?_ _|refine below_drewN ?_ _|refine Below.drew ?_)⟩
 have Dk3:((work.size:Int) == 256)=true:=by first|exact decide_eq_true (by omega)|(simp;omega)
 have d':(work.size == 256)=true:=by first|exact decide_eq_true (by omega)|(simp;omega)
 rw [d'] at HE
 clear d'
 by_cases k4:high.size=127
 rotate_left
 ·have d:((high.size:Int) == 127)=false:=by first|exact decide_eq_false (by omega)|(simp;omega)
  have d':(high.size == 127)=false:=by first|exact decide_eq_false (by omega)|(simp;omega)
  rw [d'] at HE
  clear d'
  go_wp2
  go_ret
  exact ⟨ret_bool (by rw [HE.out];simp),by repeat (with_reducible first|exact zRf|refine zGr ?_ _|refine below_drewN ?_ _|refine Below.drew ?_)⟩
 have Dk4:((high.size:Int) == 127)=true:=by first|exact decide_eq_true (by omega)|(simp;omega)
 have d':(high.size == 127)=true:=by first|exact decide_eq_true (by omega)|(simp;omega)
 rw [d'] at HE
 clear d'
 by_cases k5:len<=100
 rotate_left
 ·have d:(decide ((len:Int)<=100))=false:=by first|exact decide_eq_false (by omega)|(simp;omega)
  have d':(decide (len<=100))=false:=by first|exact decide_eq_false (by omega)|(simp;omega)
  rw [d'] at HE
  clear d'
  go_wp2
  go_ret
  exact ⟨ret_bool (by rw [HE.out];simp),by repeat (with_reducible first|exact zRf|refine zGr ?_ _|refine below_drewN ?_ _|refine Below.drew ?_)⟩
 have Dk5:(decide ((len:Int)<=100))=true:=by first|exact decide_eq_true (by omega)|(simp;omega)
 have d':(decide (len<=100))=true:=by first|exact decide_eq_true (by omega)|(simp;omega)
 rw [d'] at HE
 clear d'
 go_wp2_with fail
 refine Calls.mono (c6 _ ?_) ?_
 ·exact HN.out.below (by repeat (with_reducible first|exact zRf|refine zGr ?_ _|refine below_drewN ?_ _|refine Below.drew ?_))
 rintro e w1 ⟨rfl,rfl⟩
 clear c6
 cases b6
 ·go_wp2
  go_ret
  exact ⟨ret_bool (by rw [HE.out];simp),by repeat (with_reducible first|exact zRf|refine zGr ?_ _|refine below_drewN ?_ _|refine Below.drew ?_)⟩
 by_cases k7:0<=cyc
 rotate_left
 ·have d:(decide (0<=cyc))=false:=by first|exact decide_eq_false (by omega)|(simp;omega)
  have d':(decide (0<=cyc))=false:=by first|exact decide_eq_false (by omega)|(simp;omega)
  rw [d'] at HE
  clear d'
  go_wp2
  go_ret
  exact ⟨ret_bool (by rw [HE.out];simp),by repeat (with_reducible first|exact zRf|refine zGr ?_ _|refine below_drewN ?_ _|refine Below.drew ?_)⟩
 have Dk7:(decide (0<=cyc))=true:=by first|exact decide_eq_true (by omega)|(simp;omega)
 have d':(decide (0<=cyc))=true:=by first|exact decide_eq_true (by omega)|(simp;omega)
 rw [d'] at HE
 clear d'
 go_wp2
 go_ret
 exact ⟨ret_bool (by rw [HE.out];simp),by repeat (with_reducible first|exact zRf|refine zGr ?_ _|refine below_drewN ?_ _|refine Below.drew ?_)⟩
theorem specM_any (ra rf rB rC rD rE rH rL sp pc:Int) (ime hal:Bool) (rom:ByteArray) (kind bank:Int) (ram:ByteArray) (rb:Int) (on:Bool) (mode:Int) (work high:ByteArray) (po:Option Addr) (L:List Int) (cap:Nat) (cyc:Int) (w:World) (z1:rom.size<=maxLen) (z2:ram.size<=maxLen) (z3:work.size<=1048576) (z4:high.size<=1048576) (hN:Row w po L) (hlen:L.length<=1048576) :
  Calls prog 8 #[.agg #[.int .i64 ra,.int .i64 rf,.int .i64 rB,.int .i64 rC,.int .i64 rD,.int .i64 rE,.int .i64 rH,.int .i64 rL,.int .i64 sp,.int .i64 pc,.bool ime,.bool hal,.string rom,.int .i64 kind,.int .i64 bank,.string ram,.int .i64 rb,.bool on,.int .i64 mode,.string work,.string high,.slice po L.length cap,.int .i64 cyc]] w fun e w'=>e=.returned (.bool (okM ra rf rB rC rD rE rH rL sp pc (okB rom kind bank ram rb on mode) work.size high.size L cyc))/\Below w.heap.size w w':=by
 have HN:Hid (Row w po L):=hN
 obtain ⟨R,hR⟩ : ∃ R,R=regL ra rf rB rC rD rE rH rL:=⟨_,rfl⟩
 have HR8:Hid (R.length=8):=by rw [hR];exact (rfl:(8:Nat)=8)
 have hrf:Hid (byteL R=true->0<=rf/\rf<=255):=fun h=>regL_rf (by rw [<- hR];exact h)
 obtain ⟨r,hr⟩ : ∃ r,r=okM ra rf rB rC rD rE rH rL sp pc (okB rom kind bank ram rb on mode) work.size high.size L cyc:=⟨_,rfl⟩
 obtain ⟨len,hl⟩ : ∃ len,len=L.length:=⟨_,rfl⟩
 have he:r=(byteL R && rf%16 == 0 && inB sp 0 65535 && inB pc 0 65535 && okB rom kind bank ram rb on mode && work.size == 256 && high.size == 127 && decide (len<=100) && byteL L && decide (0<=cyc) && decide (cyc<=1000000000)):=by rw [hr,hl];unfold okM cpuB;rw [<- hR]
 have HE:Hid (r=(byteL R && rf%16 == 0 && inB sp 0 65535 && inB pc 0 65535 && okB rom kind bank ram rb on mode && work.size == 256 && high.size == 127 && decide (len<=100) && byteL L && decide (0<=cyc) && decide (cyc<=1000000000))):=he
 have HL:Hid (len=L.length):=hl
 have HRR:Hid (∀ (u:World) (T:TypeId),Row (u.alloc (.cells #[.int .i64 ra,.int .i64 rf,.int .i64 rB,.int .i64 rC,.int .i64 rD,.int .i64 rE,.int .i64 rH,.int .i64 rL] T)) (some ⟨u.heap.size,0,none⟩) R):=fun u T=>by rw [hR];exact reg_row u ra rf rB rC rD rE rH rL T
 rw [<- hl] at hlen
 rw [<- hr,<- hl]
 clear hN hr hl he hR
 go_enter func8,ntmps8
 go_wp2
 obtain ⟨W,hW⟩ : ∃ W,W=((w.alloc (.cells #[.int .i64 ra,.int .i64 rf,.int .i64 rB,.int .i64 rC,.int .i64 rD,.int .i64 rE,.int .i64 rH,.int .i64 rL,.int .i64 sp,.int .i64 pc,.bool ime,.bool hal,.string rom,.int .i64 kind,.int .i64 bank,.string ram,.int .i64 rb,.bool on,.int .i64 mode,.string work,.string high,.slice po len cap,.int .i64 cyc] 30)).alloc (.cells #[.int .i64 ra,.int .i64 rf,.int .i64 rB,.int .i64 rC,.int .i64 rD,.int .i64 rE,.int .i64 rH,.int .i64 rL,.int .i64 sp,.int .i64 pc,.bool ime,.bool hal] 25)).alloc (.cells #[.int .i64 ra,.int .i64 rf,.int .i64 rB,.int .i64 rC,.int .i64 rD,.int .i64 rE,.int .i64 rH,.int .i64 rL] 2):=⟨_,rfl⟩
 rw [<- hW]
 have hb3:Below (((w.alloc (.cells #[.int .i64 ra,.int .i64 rf,.int .i64 rB,.int .i64 rC,.int .i64 rD,.int .i64 rE,.int .i64 rH,.int .i64 rL,.int .i64 sp,.int .i64 pc,.bool ime,.bool hal,.string rom,.int .i64 kind,.int .i64 bank,.string ram,.int .i64 rb,.bool on,.int .i64 mode,.string work,.string high,.slice po len cap,.int .i64 cyc] 30)).alloc (.cells #[.int .i64 ra,.int .i64 rf,.int .i64 rB,.int .i64 rC,.int .i64 rD,.int .i64 rE,.int .i64 rH,.int .i64 rL,.int .i64 sp,.int .i64 pc,.bool ime,.bool hal] 25)).alloc (.cells #[.int .i64 ra,.int .i64 rf,.int .i64 rB,.int .i64 rC,.int .i64 rD,.int .i64 rE,.int .i64 rH,.int .i64 rL] 2)).heap.size (((w.alloc (.cells #[.int .i64 ra,.int .i64 rf,.int .i64 rB,.int .i64 rC,.int .i64 rD,.int .i64 rE,.int .i64 rH,.int .i64 rL,.int .i64 sp,.int .i64 pc,.bool ime,.bool hal,.string rom,.int .i64 kind,.int .i64 bank,.string ram,.int .i64 rb,.bool on,.int .i64 mode,.string work,.string high,.slice po len cap,.int .i64 cyc] 30)).alloc (.cells #[.int .i64 ra,.int .i64 rf,.int .i64 rB,.int .i64 rC,.int .i64 rD,.int .i64 rE,.int .i64 rH,.int .i64 rL,.int .i64 sp,.int .i64 pc,.bool ime,.bool hal] 25)).alloc (.cells #[.int .i64 ra,.int .i64 rf,.int .i64 rB,.int .i64 rC,.int .i64 rD,.int .i64 rE,.int .i64 rH,.int .i64 rL] 2)) W:=by rw [hW];exact zRf
 obtain ⟨k1,k2,k3⟩:=blk1 hb3
 have hsz:W.heap.size=w.heap.size+1+1+1:=by rw [hW];simp only [World.size_alloc]
 have hbw:Below w.heap.size w W:=by
  rw [hW]
  exact (by repeat (with_reducible first|exact zRf|refine zGr ?_ _|refine below_drewN ?_ _|refine Below.drew ?_))
 have HB:Hid (Below w.heap.size w W):=hbw
 clear hbw
 have HRow:=zHd (HN.out.below HB.out)
 have HReg:Hid (∀ j (h:j<R.length),W.cell? ⟨w.heap.size+1+1,j,none⟩=some (.int .i64 R[j])):=by
  have h:=HRR.out ((w.alloc (.cells #[.int .i64 ra,.int .i64 rf,.int .i64 rB,.int .i64 rC,.int .i64 rD,.int .i64 rE,.int .i64 rH,.int .i64 rL,.int .i64 sp,.int .i64 pc,.bool ime,.bool hal,.string rom,.int .i64 kind,.int .i64 bank,.string ram,.int .i64 rb,.bool on,.int .i64 mode,.string work,.string high,.slice po len cap,.int .i64 cyc] 30)).alloc (.cells #[.int .i64 ra,.int .i64 rf,.int .i64 rB,.int .i64 rC,.int .i64 rD,.int .i64 rE,.int .i64 rH,.int .i64 rL,.int .i64 sp,.int .i64 pc,.bool ime,.bool hal] 25)) 2
  rw [<- hW] at h
  simp only [World.size_alloc] at h
  rcases h with h|⟨b,off,h1,_,h3⟩
  ·intro j hj;rw [h] at hj;exact absurd hj (by simp)
  ·intro j hj
   have e:b=w.heap.size+1+1/\off=0:=by
    have:=Option.some.inj h1
    injection this with q1 q2 q3
    exact ⟨q1.symm,q2.symm⟩
   have:=h3 j hj
   rw [e.1,e.2,Nat.zero_add] at this
   exact this
 have g21:=cel k1 21 _ rfl
 have K1:Hid (_=_):=k1
 have K2:Hid (_=_):=k2
 clear hW hb3 k1 k2 k3 HN HRR
 go_loopw [5] (fun i wr=>∃ k:Nat,k<=8/\i=.int .i64 k/\wr=W/\Hid (∀ j (hj:j<R.length),j<k->inB R[j] 0 255=true)) (fun i _=>8-(intOf i).toNat)
 case atStart=>exact ⟨0,by omega,rfl,rfl,fun j _ h=>absurd h (Nat.not_lt_zero _)⟩
 case round =>
 obtain ⟨k,hk,rfl,hw,hall⟩:=hrel
 subst wr
 by_cases hlt:k<8
 ·have hkL:k<R.length:=by have:=HR8.out;omega
  have c0:=HReg.out k hkL
  have hno:Hid (inB R[k] 0 255=false->byteL R=false):=fun h=>byteL_no hkL h
  have hgo:Hid (inB R[k] 0 255=true->∀ j (hj:j<R.length),j<k+1->inB R[j] 0 255=true):=fun h j hj hjk=>by
   by_cases e:j=k
   ·subst e;exact h
   ·exact hall.out j hj (by omega)
  generalize R[k]=n at c0 hno hgo
  have ci:=fun w=>l4Byte_any n w
  clear g21
  cases hb2:inB n 0 255 with
  | false =>
   rw [hb2] at ci
   have er:=hno.out hb2
   rw [er] at HE
   clear hb2 hno hgo hall
   go_wp2_with (go_at_call 15;refine (ci _).mono ?_;rintro e w' ⟨rfl,rfl⟩)
   go_ret
   exact ⟨ret_bool (by rw [HE.out];simp),HB.out⟩
  | true =>
   rw [hb2] at ci
   have HG:Hid (∀ j (hj:j<R.length),j<k+1->inB R[j] 0 255=true):=hgo.out hb2
   clear hb2 hno hgo hall
   go_wp2_with (go_at_call 15;refine (ci _).mono ?_;rintro e w' ⟨rfl,rfl⟩)
   go_roundw
   case rel=>exact ⟨k+1,by omega,by go_num,trivial,HG.out⟩
   case measure=>simp [intOf];omega
 have eR:byteL R=true:=byteL_yes fun j hj=>hall.out j hj (by have:=HR8.out;omega)
 rw [eR] at HE
 obtain ⟨f0,f1⟩:=hrf.out eR
 have e8:k=8:=by omega
 subst e8
 clear eR hall hrf HReg HR8
 go_wp2
 go_loopw [6] (fun i wr=>∃ k:Nat,k<=len/\i=.int .i64 k/\wr=W/\Hid (∀ j (hj:j<L.length),j<k->inB L[j] 0 255=true)) (fun i _=>len-(intOf i).toNat)
 case atStart=>exact ⟨0,by omega,rfl,rfl,fun j _ h=>absurd h (Nat.not_lt_zero _)⟩
 case round =>
 obtain ⟨k,hk,rfl,hw,hall⟩:=hrel
 subst wr
 by_cases hlt:k<len
 ·have hkL:k<L.length:=by have:=HL.out;omega
  rcases HRow.out with hnil|⟨b,off,rfl,hb,hc⟩
  ·exfalso;rw [hnil] at hkL;exact absurd hkL (by simp)
  have c0:=hc k hkL
  clear hc
  have hno:Hid (inB L[k] 0 255=false->byteL L=false):=fun h=>byteL_no hkL h
  have hgo:Hid (inB L[k] 0 255=true->∀ j (hj:j<L.length),j<k+1->inB L[j] 0 255=true):=fun h j hj hjk=>by
   by_cases e:j=k
   ·subst e;exact h
   ·exact hall.out j hj (by omega)
  generalize L[k]=n at c0 hno hgo
  have ci:=fun w=>l4Byte_any n w
  cases hb2:inB n 0 255 with
  | false =>
   rw [hb2] at ci
   have er:=hno.out hb2
   rw [er] at HE
   clear hb2 hno hgo hall
   go_wp2_with (go_at_call 15;refine (ci _).mono ?_;rintro e w' ⟨rfl,rfl⟩)
   go_ret
   exact ⟨ret_bool (by rw [HE.out];simp),HB.out⟩
  | true =>
   rw [hb2] at ci
   have HG:Hid (∀ j (hj:j<L.length),j<k+1->inB L[j] 0 255=true):=hgo.out hb2
   clear hb2 hno hgo hall
   go_wp2_with (go_at_call 15;refine (ci _).mono ?_;rintro e w' ⟨rfl,rfl⟩)
   go_roundw
   case rel =>
    (repeat apply Exists.intro)
    refine ⟨⟨k+1,by omega,?_,trivial,HG.out⟩,rfl⟩
    go_num
   case measure=>simp [intOf];omega
 have eL:byteL L=true:=byteL_yes fun j hj=>hall.out j hj (by have:=HL.out;omega)
 rw [eL] at HE
 have e8:len=k:=by omega
 subst e8
 clear eL hall HRow HL hlt hk
 have g1:=cel K2.out 1 _ rfl
 have g8:=cel K2.out 8 _ rfl
 have g9:=cel K2.out 9 _ rfl
 have m12:=cel K1.out 12 _ rfl
 have m13:=cel K1.out 13 _ rfl
 have m14:=cel K1.out 14 _ rfl
 have m15:=cel K1.out 15 _ rfl
 have m16:=cel K1.out 16 _ rfl
 have m17:=cel K1.out 17 _ rfl
 have m18:=cel K1.out 18 _ rfl
 have m19:=cel K1.out 19 _ rfl
 have m20:=cel K1.out 20 _ rfl
 have m22:=cel K1.out 22 _ rfl
 clear K1 K2
 have csp:=fun w=>l4Word_any sp w
 have cpc:=fun w=>l4Word_any pc w
 have co:=fun w=>specOk_any rom kind bank ram rb on mode w z1 z2
 by_cases k1:rf%16=0
 rotate_left
 ·have d:(rf%16 == 0)=false:=by simp;omega
  rw [d] at HE
  go_wp2
  go_ret
  exact ⟨ret_bool (by rw [HE.out];simp),HB.out⟩
 have D1:(rf%16 == 0)=true:=by simp;omega
 rw [D1] at HE
 cases h2:inB sp 0 65535 with
 | false =>
  rw [h2] at csp HE
  clear h2
  go_wp2_with (go_at_call 16;refine (csp _).mono ?_;rintro e w' ⟨rfl,rfl⟩)
  go_ret
  exact ⟨ret_bool (by rw [HE.out];simp),HB.out⟩
 | true =>
 rw [h2] at csp HE
 clear h2
 cases h3:inB pc 0 65535 with
 | false =>
  rw [h3] at cpc HE
  clear h3
  go_wp2_with first|(go_at_call_of 16 sp;refine (csp _).mono ?_;rintro e w' ⟨rfl,rfl⟩)|(go_at_call_of 16 pc;refine (cpc _).mono ?_;rintro e w' ⟨rfl,rfl⟩)
  go_ret
  exact ⟨ret_bool (by rw [HE.out];simp),HB.out⟩
 | true =>
 rw [h3] at cpc HE
 clear h3
 cases h4:okB rom kind bank ram rb on mode with
 | false =>
  rw [h4] at co HE
  clear h4
  go_wp2_with first|(go_at_call_of 16 sp;refine (csp _).mono ?_;rintro e w' ⟨rfl,rfl⟩)|(go_at_call_of 16 pc;refine (cpc _).mono ?_;rintro e w' ⟨rfl,rfl⟩)|(go_at_call 17;refine (co _).mono ?_;rintro e w' ⟨rfl,rfl⟩)
  go_ret
  exact ⟨ret_bool (by rw [HE.out];simp),HB.out.alloc HB.out.size _⟩
 | true =>
 rw [h4] at co HE
 clear h4
 go_wp2_with first|(go_at_call_of 16 sp;refine (csp _).mono ?_;rintro e w' ⟨rfl,rfl⟩)|(go_at_call_of 16 pc;refine (cpc _).mono ?_;rintro e w' ⟨rfl,rfl⟩)
 refine (co _).mono ?_
 rintro e w1 ⟨rfl,rfl⟩
 clear csp cpc co g1 g8 g9 m12 m13 m14 m15 m16 m17 m18
 by_cases k5:work.size=256
 rotate_left
 ·have d:((work.size:Int) == 256)=false:=by first|exact decide_eq_false (by omega)|(simp;omega)
  have d':(work.size == 256)=false:=by first|exact decide_eq_false (by omega)|(simp;omega)
  rw [d'] at HE
  clear d'
  go_wp2
  go_ret
  exact ⟨ret_bool (by rw [HE.out];simp),HB.out.alloc HB.out.size _⟩
 have Dk5:((work.size:Int) == 256)=true:=by first|exact decide_eq_true (by omega)|(simp;omega)
 have d':(work.size == 256)=true:=by first|exact decide_eq_true (by omega)|(simp;omega)
 rw [d'] at HE
 clear d'
 by_cases k6:high.size=127
 rotate_left
 ·have d:((high.size:Int) == 127)=false:=by first|exact decide_eq_false (by omega)|(simp;omega)
  have d':(high.size == 127)=false:=by first|exact decide_eq_false (by omega)|(simp;omega)
  rw [d'] at HE
  clear d'
  go_wp2
  go_ret
  exact ⟨ret_bool (by rw [HE.out];simp),HB.out.alloc HB.out.size _⟩
 have Dk6:((high.size:Int) == 127)=true:=by first|exact decide_eq_true (by omega)|(simp;omega)
 have d':(high.size == 127)=true:=by first|exact decide_eq_true (by omega)|(simp;omega)
 rw [d'] at HE
 clear d'
 by_cases k7:len<=100
 rotate_left
 ·have d:(decide ((len:Int)<=100))=false:=by first|exact decide_eq_false (by omega)|(simp;omega)
  have d':(decide (len<=100))=false:=by first|exact decide_eq_false (by omega)|(simp;omega)
  rw [d'] at HE
  clear d'
  go_wp2
  go_ret
  exact ⟨ret_bool (by rw [HE.out];simp),HB.out.alloc HB.out.size _⟩
 have Dk7:(decide ((len:Int)<=100))=true:=by first|exact decide_eq_true (by omega)|(simp;omega)
 have d':(decide (len<=100))=true:=by first|exact decide_eq_true (by omega)|(simp;omega)
 rw [d'] at HE
 clear d'
 have hcy:inB cyc 0 1000000000=(decide (0<=cyc) && decide (cyc<=1000000000)):=by
  unfold inB
  rw [Bool.eq_iff_iff]
  simp
 go_wp2_with (go_at_call 18;refine (l1In_any _ _ _ _).mono ?_;rintro e w' ⟨rfl,rfl⟩)
 go_ret
 refine ⟨?_,HB.out.alloc HB.out.size _⟩
 exact ret_bool (by rw [HE.out];simp)
end MachK
namespace ReadI
open HolI LenX InsX
def byteAt (s:ByteArray) (i:Int):Int:=if h:i.toNat<s.size then ((s[i.toNat]'h).toNat:Int) else 0
theorem byteAt_eq {s:ByteArray} {i:Int} (h:i.toNat<s.size):((s[i.toNat]'h).toNat:Int)=byteAt s i:=by unfold byteAt;rw [dif_pos h]
theorem byteAt_bd (s:ByteArray) (i:Int):0<=byteAt s i/\byteAt s i<=255:=by
 unfold byteAt
 split
 ·rename_i h
  have:=(s[i.toNat]'h).toNat_lt
  omega
 ·omega
theorem ix (s:ByteArray) (i:Int) (h0:0<=i) (h1:i<s.size) (w:World):(Instr.index 9 (.string s) (.int .i64 i)).run prog w=.ok (.int .u8 (byteAt s i)) w:=by
 rw [run_index_string w 9 s .i64 i underlying9,dif_pos ⟨h0,h1⟩,byteAt_eq (by omega)]
theorem l3At_any (s:ByteArray) (i:Int) (h0:0<=i) (h1:i<s.size) (w:World) :
  Calls prog 86 #[.string s,.int .i64 i] w fun e w'=>e=.returned (.int .i64 (byteAt s i))/\w'=w:=by
 have x:=ix s i h0 h1
 have b:=byteAt_bd s i
 generalize byteAt s i=B at x b
 have hb0:=b.1
 have hb1:=b.2
 have hw:IntKind.i64.wrap B=B:=by rw [IntKind.wrap_i64];omega
 go_enter func86,ntmps86
 go_wp2
 go_ret
 exact ⟨rfl,rfl⟩
def lenC (c:Int):Int:=lenV (none? c false) false (hole c false)
def zeroI:Value:=.agg #[.int .i64 0,.bool false,.int .i64 0]
def immV (s:ByteArray) (a n:Int):Int:=if n=1 then 0 else if n=2 then byteAt s (a+1) else byteAt s (a+1)+256*byteAt s (a+2)
def readI (s:ByteArray) (a:Int):Value :=
 if a<0 \/ s.size<=a then zeroI
 else if byteAt s a=203 then (if s.size-a<2 then zeroI else .agg #[.int .i64 (byteAt s (a+1)),.bool true,.int .i64 0])
 else if lenC (byteAt s a)=0 \/ s.size-a<lenC (byteAt s a) then zeroI else .agg #[.int .i64 (byteAt s a),.bool false,.int .i64 (immV s a (lenC (byteAt s a)))]
def readN (s:ByteArray) (a:Int):Int :=
 if a<0 \/ s.size<=a then 0
 else if byteAt s a=203 then (if s.size-a<2 then 0 else 2)
 else if lenC (byteAt s a)=0 \/ s.size-a<lenC (byteAt s a) then 0 else lenC (byteAt s a)
theorem lenC_cases (c:Int):lenC c=0 \/ lenC c=1 \/ lenC c=2 \/ lenC c=3:=by
 unfold lenC lenV
 split
 ·exact .inl rfl
 rw [if_neg (by decide)]
 split
 ·exact .inr (.inl rfl)
 split
 ·exact .inr (.inr (.inr rfl))
 ·exact .inr (.inr (.inl rfl))
def Tup (v:Value) (n:Int):Ending:=.returned (.tuple #[v,.int .i64 n])
theorem fro {w w':World} {vs:Array Value} {T:TypeId} (h:Below (w.alloc (.cells vs T)).heap.size (w.alloc (.cells vs T)) w') (i:Nat):w'.frozen? ⟨w.heap.size,i,none⟩=false:=by
 rw [h.frozen (p:=⟨w.heap.size,i,none⟩) (by simp)]
 exact World.frozen?_alloc_new w vs T i
theorem box2 {w w':World} {o:Obj} {vs:Array Value} {T:TypeId} (h:Below ((w.alloc o).alloc (.cells vs T)).heap.size ((w.alloc o).alloc (.cells vs T)) w') (i:Nat) (v:Value) (hv:vs[i]? = some v):w'.cell? ⟨w.heap.size+1,i,none⟩=some v:=by
 have:=box (w:=w.alloc o) h i v hv
 rwa [World.size_alloc] at this
theorem fro2 {w w':World} {o:Obj} {vs:Array Value} {T:TypeId} (h:Below ((w.alloc o).alloc (.cells vs T)).heap.size ((w.alloc o).alloc (.cells vs T)) w') (i:Nat):w'.frozen? ⟨w.heap.size+1,i,none⟩=false:=by
 have:=fro (w:=w.alloc o) h i
 rwa [World.size_alloc] at this
theorem first2 {w w':World} {o:Obj} {vs:Array Value} {T:TypeId} (h:Below ((w.alloc (.cells vs T)).alloc o).heap.size ((w.alloc (.cells vs T)).alloc o) w'):Below (w.alloc (.cells vs T)).heap.size (w.alloc (.cells vs T)) w':=unbox h
theorem spec_out (s:ByteArray) (a:Int) (w:World) (hs:s.size<=1048576) (hb:a<=9223372036854775807) (h:a<0 \/ s.size<=a) :
  Calls prog 60 #[.string s,.int .i64 a] w fun e w'=>e=Tup zeroI 0/\Below w.heap.size w w':=by
 by_cases h0:a<0
 ·go_enter func60,ntmps60
  go_wp2
  exact bodyPost_ret (v:=.tuple #[.agg #[.int .i64 0,.bool false,.int .i64 0],.int .i64 0]) (by simp [results,results60,go_sem]) rfl ⟨rfl,zAl _ _⟩
 ·have hw:(s.size:Int)-a<1:=by omega
  ·have hk:wrap64 ((s.size:Int)-a)=(s.size:Int)-a:=by unfold wrap64;omega
   go_enter func60,ntmps60
   go_wp2
   exact bodyPost_ret (v:=.tuple #[.agg #[.int .i64 0,.bool false,.int .i64 0],.int .i64 0]) (by simp [results,results60,go_sem]) rfl ⟨rfl,zAl _ _⟩
theorem spec_cb (s:ByteArray) (a:Int) (w:World) (hs:s.size<=1048576) (h0:0<=a) (h1:a<s.size) (hc:byteAt s a=203) :
  Calls prog 60 #[.string s,.int .i64 a] w fun e w'=>e=Tup (readI s a) (readN s a)/\Below w.heap.size w w':=by
 have e1:readI s a=(if s.size-a<2 then zeroI else .agg #[.int .i64 (byteAt s (a+1)),.bool true,.int .i64 0]):=by unfold readI;rw [if_neg (by omega),if_pos hc]
 have e2:readN s a=(if s.size-a<2 then 0 else 2):=by unfold readN;rw [if_neg (by omega),if_pos hc]
 rw [e1,e2]
 clear e1 e2
 have hk:wrap64 ((s.size:Int)-a)=(s.size:Int)-a:=by unfold wrap64;omega
 have hk1:¬ (s.size:Int)-a<1:=by omega
 have c:=fun w=>l3At_any s a h0 h1 w
 rw [hc] at c
 clear hc
 by_cases h2:(s.size:Int)-a<2
 ·rw [if_pos h2,if_pos h2]
  go_enter func60,ntmps60
  go_wp2_with (go_at_call 86;refine (c _).mono ?_;rintro e w' ⟨rfl,hw⟩;subst hw)
  exact bodyPost_ret (v:=.tuple #[.agg #[.int .i64 0,.bool false,.int .i64 0],.int .i64 0]) (by simp [results,results60,go_sem]) rfl ⟨rfl,(zAl _ _).alloc (by simp) _⟩
 ·rw [if_neg h2,if_neg h2]
  have c2:=fun w=>l3At_any s (a+1) (by omega) (by omega) w
  have hka:wrap64 (a+1)=a+1:=by unfold wrap64;omega
  generalize byteAt s (a+1)=Y at c2
  go_enter func60,ntmps60
  go_wp2_with first|(go_at_call 86;go_fit (c _);rintro e w' ⟨rfl,hw⟩;subst hw)|(go_at_call 86;go_fit (c2 _);rintro e w' ⟨rfl,hw⟩;subst hw)
  exact bodyPost_ret (v:=.tuple #[.agg #[.int .i64 Y,.bool true,.int .i64 0],.int .i64 2]) (by simp [results,results60,go_sem]) rfl ⟨rfl,(zAl _ _).alloc (by simp) _⟩
theorem spec_n (s:ByteArray) (a n:Int) (w:World) (hs:s.size<=1048576) (h0:0<=a) (h1:a<s.size) (hc:¬ byteAt s a=203) (hn:lenC (byteAt s a)=n) (hcs:n=0 \/ n=1 \/ n=2 \/ n=3) :
  Calls prog 60 #[.string s,.int .i64 a] w fun e w'=>e=Tup (readI s a) (readN s a)/\Below w.heap.size w w':=by
 have e1:readI s a=(if n=0 \/ s.size-a<n then zeroI else .agg #[.int .i64 (byteAt s a),.bool false,.int .i64 (immV s a n)]):=by unfold readI;rw [if_neg (by omega),if_neg hc,hn]
 have e2:readN s a=(if n=0 \/ s.size-a<n then 0 else n):=by unfold readN;rw [if_neg (by omega),if_neg hc,hn]
 rw [e1,e2]
 clear e1 e2
 have hk:wrap64 ((s.size:Int)-a)=(s.size:Int)-a:=by unfold wrap64;omega
 have hk1:¬ (s.size:Int)-a<1:=by omega
 have c:=fun w=>l3At_any s a h0 h1 w
 have bd:=byteAt_bd s a
 have cl:=fun w=>length_any (byteAt s a) false w bd.1 bd.2
 have hd:lenV (decide ((Tmpl.tmplS (byteAt s a) false).size=0)) false (hole (byteAt s a) false)=n:=by
  rw [<- hn];unfold lenC none?
  rw [show Signed.inB (byteAt s a) 0 255=true from decide_eq_true bd,beqN]
  simp
 rw [hd] at cl
 clear hd hn bd
 have hy1:=byteAt_bd s (a+1)
 have hy2:=byteAt_bd s (a+2)
 by_cases hq:n=0 \/ (s.size:Int)-a<n
 ·rw [if_pos hq,if_pos hq]
  generalize byteAt s a=X at c cl hc
  go_enter func60,ntmps60
  go_wp2_with first|(go_at_call 86;go_fit (c _);rintro e w' ⟨rfl,hw⟩;subst hw)|fail
  refine (cl _).mono ?_
  rintro e w2 ⟨rfl,b2⟩
  have B2:Hid (Below _ _ w2):=b2
  have r0:=box (first2 b2) 0 _ rfl
  have r1:=box (first2 b2) 1 _ rfl
  have r2:=box (first2 b2) 2 _ rfl
  have f0:=fro (first2 b2) 0
  have f1:=fro (first2 b2) 1
  have f2:=fro (first2 b2) 2
  clear b2
  go_wp2
  all_goals
   exact bodyPost_ret (v:=.tuple #[.agg #[.int .i64 0,.bool false,.int .i64 0],.int .i64 0]) (by simp [results,results60,go_sem,r0,r1,r2]) rfl ⟨rfl,((((unbox (first2 B2.out)).setCell (p:=⟨w.heap.size,0,none⟩) (Nat.le_refl _) _).setCell (p:=⟨w.heap.size,1,none⟩) (Nat.le_refl _) _).setCell (p:=⟨w.heap.size,2,none⟩) (Nat.le_refl _) _)⟩
 ·rw [if_neg hq,if_neg hq]
  have g1:¬ n=0:=fun h=>hq (.inl h)
  have g2:¬ (s.size:Int)-a<n:=fun h=>hq (.inr h)
  have hn3:n=1 \/ n=2 \/ n=3:=by rcases hcs with h|h|h|h <;> omega
  clear hcs hq
  have hka:wrap64 (a+1)=a+1:=by unfold wrap64;omega
  have hkb:wrap64 (a+2)=a+2:=by unfold wrap64;omega
  rcases hn3 with rfl|rfl|rfl
  ·have ei:immV s a 1=0:=rfl
   rw [ei]
   generalize byteAt s a=X at c cl hc
   go_enter func60,ntmps60
   go_wp2_with first|(go_at_call 86;go_fit (c _);rintro e w' ⟨rfl,hw⟩;subst hw)|fail
   refine (cl _).mono ?_
   rintro e w2 ⟨rfl,b2⟩
   have B2:Hid (Below _ _ w2):=b2
   have r0:=box (first2 b2) 0 _ rfl
   have r1:=box (first2 b2) 1 _ rfl
   have r2:=box (first2 b2) 2 _ rfl
   have f0:=fro (first2 b2) 0
   have f1:=fro (first2 b2) 1
   have f2:=fro (first2 b2) 2
   have i0:=box2 b2 0 _ rfl
   have i1:=box2 b2 1 _ rfl
   have i2:=box2 b2 2 _ rfl
   have j2:=fro2 b2 2
   clear b2
   go_wp2
   exact bodyPost_ret (v:=.tuple #[.agg #[.int .i64 X,.bool false,.int .i64 0],.int .i64 1]) (by simp [results,results60,go_sem,r0,r1,r2]) rfl ⟨rfl,((((unbox (first2 B2.out)).setCell (p:=⟨w.heap.size,0,none⟩) (Nat.le_refl _) _).setCell (p:=⟨w.heap.size,1,none⟩) (Nat.le_refl _) _).setCell (p:=⟨w.heap.size,2,none⟩) (Nat.le_refl _) _)⟩
  ·have ei:immV s a 2=byteAt s (a+1):=rfl
   rw [ei]
   have c2:=fun w=>l3At_any s (a+1) (by omega) (by omega) w
   generalize byteAt s a=X at c cl hc
   generalize byteAt s (a+1)=Y at c2 hy1
   go_enter func60,ntmps60
   go_wp2_with first|(go_at_call 86;go_fit (c _);rintro e w' ⟨rfl,hw⟩;subst hw)|fail
   refine (cl _).mono ?_
   rintro e w2 ⟨rfl,b2⟩
   have B2:Hid (Below _ _ w2):=b2
   have r0:=box (first2 b2) 0 _ rfl
   have r1:=box (first2 b2) 1 _ rfl
   have r2:=box (first2 b2) 2 _ rfl
   have f0:=fro (first2 b2) 0
   have f1:=fro (first2 b2) 1
   have f2:=fro (first2 b2) 2
   have i0:=box2 b2 0 _ rfl
   have i1:=box2 b2 1 _ rfl
   have i2:=box2 b2 2 _ rfl
   have j2:=fro2 b2 2
   clear b2
   go_wp2_with (go_at_call 86;go_fit (c2 _);rintro e w' ⟨rfl,hw⟩;subst hw)
   exact bodyPost_ret (v:=.tuple #[.agg #[.int .i64 X,.bool false,.int .i64 Y],.int .i64 2]) (by simp [results,results60,go_sem,r0,r1,r2]) rfl ⟨rfl,(((((unbox (first2 B2.out)).setCell (p:=⟨w.heap.size+1,2,none⟩) (Nat.le_succ _) _).setCell (p:=⟨w.heap.size,0,none⟩) (Nat.le_refl _) _).setCell (p:=⟨w.heap.size,1,none⟩) (Nat.le_refl _) _).setCell (p:=⟨w.heap.size,2,none⟩) (Nat.le_refl _) _)⟩
  ·have ei:immV s a 3=byteAt s (a+1)+256*byteAt s (a+2):=rfl
   rw [ei]
   have c2:=fun w=>l3At_any s (a+1) (by omega) (by omega) w
   have c3:=fun w=>l3At_any s (a+2) (by omega) (by omega) w
   clear ei
   generalize byteAt s a=X at c cl hc
   generalize byteAt s (a+1)=Y at c2 hy1
   generalize byteAt s (a+2)=Z at c3 hy2
   have kz0:IntKind.i64.wrap (a+2)=a+2:=by rw [IntKind.wrap_i64];omega
   have kz1:IntKind.i64.wrap (256*Z)=256*Z:=by rw [IntKind.wrap_i64];omega
   have kz2:IntKind.i64.wrap (Y+256*Z)=Y+256*Z:=by rw [IntKind.wrap_i64];omega
   have hz1:wrap64 (256*Z)=256*Z:=by unfold wrap64;omega
   have hz2:wrap64 (Y+256*Z)=Y+256*Z:=by unfold wrap64;omega
   go_enter func60,ntmps60
   go_wp2_with first|(go_at_call 86;go_fit (c _);rintro e w' ⟨rfl,hw⟩;subst hw)|fail
   refine (cl _).mono ?_
   rintro e w2 ⟨rfl,b2⟩
   have B2:Hid (Below _ _ w2):=b2
   have r0:=box (first2 b2) 0 _ rfl
   have r1:=box (first2 b2) 1 _ rfl
   have r2:=box (first2 b2) 2 _ rfl
   have f0:=fro (first2 b2) 0
   have f1:=fro (first2 b2) 1
   have f2:=fro (first2 b2) 2
   have i0:=box2 b2 0 _ rfl
   have i1:=box2 b2 1 _ rfl
   have i2:=box2 b2 2 _ rfl
   have j2:=fro2 b2 2
   clear b2
   go_wp2_with first|(go_at_call 86;go_fit (c2 _);rintro e w' ⟨rfl,hw⟩;subst hw)|(go_at_call 86;go_fit (c3 _);rintro e w' ⟨rfl,hw⟩;subst hw)
   go_region_with (go_at_call 86;go_fit (c3 _);rintro e w' ⟨rfl,hw⟩;subst hw)
   all_goals go_wp2
   all_goals exact bodyPost_ret (v:=.tuple #[.agg #[.int .i64 X,.bool false,.int .i64 (Y+256*Z)],.int .i64 3]) (by simp [results,results60,go_sem,r0,r1,r2]) rfl ⟨rfl,Below.drew ((((((unbox (first2 B2.out)).setCell (p:=⟨w.heap.size+1,2,none⟩) (Nat.le_succ _) _).setCell (p:=⟨w.heap.size+1,2,none⟩) (Nat.le_succ _) _).setCell (p:=⟨w.heap.size,0,none⟩) (Nat.le_refl _) _).setCell (p:=⟨w.heap.size,1,none⟩) (Nat.le_refl _) _).setCell (p:=⟨w.heap.size,2,none⟩) (Nat.le_refl _) _)⟩
theorem specRead_any (s:ByteArray) (a:Int) (w:World) (hs:s.size<=1048576) (hb:a<=9223372036854775807) :
  Calls prog 60 #[.string s,.int .i64 a] w fun e w'=>e=Tup (readI s a) (readN s a)/\Below w.heap.size w w':=by
 by_cases h:a<0 \/ s.size<=a
 ·have e1:readI s a=zeroI:=by unfold readI;rw [if_pos h]
  have e2:readN s a=0:=by unfold readN;rw [if_pos h]
  rw [e1,e2]
  exact spec_out s a w hs hb h
 ·by_cases hc:byteAt s a=203
  ·exact spec_cb s a w hs (by omega) (by omega) hc
  ·exact spec_n s a _ w hs (by omega) (by omega) hc rfl (lenC_cases _)
end ReadI
namespace InsB
open Signed (isByte_any)
open Signed (inB l1In_any ret_bool)
open HoleX (n8 n16 e8 holeT holeP)
open HolI LenX InsX
def bytesV (code:Int) (cb:Bool) (imm:Int):ByteArray :=
 if okV code cb imm=false then ⟨#[]⟩ else if cb=true then strOfNums [203,code]
 else if (hole code cb).size=0 then strOfNums [code] else if hole code cb=n16 then strOfNums [code,imm%256,imm / 256] else strOfNums [code,imm]
theorem conv {W:World} {B n cap:Nat} (l:List Int) (hl:l.length=n) (h:∀ i (hi:i<n),W.cell? ⟨B,i,none⟩=some (.int .u8 (l.getD i 0))) :
  (convert 22 9 (.slice (some ⟨B,0,none⟩) n cap)).run prog W=.ok (.string (strOfNums l)) W:=by
 subst hl
 exact run_convert_bytes_arg _ 22 5 underlying22 underlying5 B 0 _ cap l rfl (fun i hi=>by rw [Nat.zero_add];exact h i hi) 9 underlying9
theorem conv1 (u:World) (x:Int):(convert 22 9 (.slice (some ⟨u.heap.size,0,none⟩) 1 1)).run prog (u.alloc (.cells #[.int .u8 x] 5))=.ok (.string (strOfNums [x])) (u.alloc (.cells #[.int .u8 x] 5)) :=
 conv [x] rfl (fun i hi=>by rw [World.cell?_alloc_new];match i,hi with|0,_=>rfl)
theorem conv2 (u:World) (x y:Int):(convert 22 9 (.slice (some ⟨u.heap.size,0,none⟩) 2 2)).run prog (u.alloc (.cells #[.int .u8 x,.int .u8 y] 5))=.ok (.string (strOfNums [x,y])) (u.alloc (.cells #[.int .u8 x,.int .u8 y] 5)) :=
 conv [x,y] rfl (fun i hi=>by rw [World.cell?_alloc_new];match i,hi with|0,_=>rfl|1,_=>rfl)
theorem conv3 (u:World) (x y z:Int):(convert 22 9 (.slice (some ⟨u.heap.size,0,none⟩) 3 3)).run prog (u.alloc (.cells #[.int .u8 x,.int .u8 y,.int .u8 z] 5))=.ok (.string (strOfNums [x,y,z])) (u.alloc (.cells #[.int .u8 x,.int .u8 y,.int .u8 z] 5)) :=
 conv [x,y,z] rfl (fun i hi=>by rw [World.cell?_alloc_new];match i,hi with|0,_=>rfl|1,_=>rfl|2,_=>rfl)
theorem ok_in {code:Int} {cb:Bool} {imm:Int} (h:okV code cb imm=true):none? code cb=false/\0<=code/\code<=255:=by
 cases hn:none? code cb
 ·obtain ⟨hb,_⟩:=some_impl hn
  obtain ⟨h0,h1⟩:=of_decide_eq_true hb
  exact ⟨rfl,h0,h1⟩
 ·unfold okV at h;rw [hn,if_pos rfl] at h;exact absurd h (by decide)
theorem V_no {code:Int} {imm:Int} (h:okV code false imm=true) (hx:hole code false=⟨#[]⟩):bytesV code false imm=strOfNums [code]/\lenV false false (hole code false)=1:=by
 unfold bytesV;rw [h,hx];exact ⟨rfl,rfl⟩
theorem V_16 {code:Int} {imm:Int} (h:okV code false imm=true) (hx:hole code false=⟨#[110,49,54]⟩):bytesV code false imm=strOfNums [code,imm%256,imm / 256]/\lenV false false (hole code false)=3/\0<=imm/\imm<=65535:=by
 have:=h
 rw [ok_n16 (ok_in h).1 hx] at this
 obtain ⟨h0,h1⟩:=of_decide_eq_true this
 unfold bytesV;rw [h,hx];exact ⟨rfl,rfl,h0,h1⟩
theorem V_8 {code:Int} {imm:Int} (h:okV code false imm=true) (hx:hole code false=⟨#[110,56]⟩):bytesV code false imm=strOfNums [code,imm]/\lenV false false (hole code false)=2/\0<=imm/\imm<=255:=by
 have:=h
 rw [ok_n8 (ok_in h).1 hx] at this
 obtain ⟨h0,h1⟩:=of_decide_eq_true this
 unfold bytesV;rw [h,hx];exact ⟨rfl,rfl,h0,h1⟩
theorem V_e {code:Int} {imm:Int} (h:okV code false imm=true) (hx:hole code false=⟨#[101,56]⟩):bytesV code false imm=strOfNums [code,imm]/\lenV false false (hole code false)=2/\0<=imm/\imm<=255:=by
 have:=h
 rw [ok_e8 (ok_in h).1 hx] at this
 obtain ⟨h0,h1⟩:=of_decide_eq_true this
 unfold bytesV;rw [h,hx];exact ⟨rfl,rfl,h0,h1⟩
theorem spec_1 (code imm:Int) (w:World) (h0:0<=code) (h1:code<=255) (e1:bytesV code false imm=strOfNums [code]) (e2:lenV false false (hole code false)=1)
  (co:∀ w,Calls prog 44 #[.agg #[.int .i64 code,.bool false,.int .i64 imm]] w fun e w'=>e=.returned (.bool true)/\Below w.heap.size w w') (cl:∀ w,Calls prog 45 #[.int .i64 code,.bool false] w fun e w'=>e=.returned (.int .i64 (lenV false false (hole code false)))/\Below w.heap.size w w') :
  Calls prog 36 #[.agg #[.int .i64 code,.bool false,.int .i64 imm]] w fun e w'=>e=.returned (.string (bytesV code false imm))/\Below w.heap.size w w':=by
 have hc:code%256=code:=by omega
 have cv1:=conv1
 have cv2:=conv2
 have cv3:=conv3
 rw [e1]
 rw [e2] at cl
 clear e1 e2
 go_enter func36,ntmps36
 go_wp2_with fail
 refine (co _).mono ?_
 rintro e w1 ⟨rfl,b1⟩
 have B1:Hid (Below _ _ w1):=b1
 have k0:=box b1 0 _ rfl
 have k1:=box b1 1 _ rfl
 have k2:=box b1 2 _ rfl
 clear b1 co
 go_wp2_with fail
 refine (cl _).mono ?_
 rintro e w2 ⟨rfl,b2⟩
 have B2:Hid (Below _ _ w2):=after B1.out b2
 clear b2 cl B1 k0 k1 k2
 have k0:=box B2.out 0 _ rfl
 have k2:=box B2.out 2 _ rfl
 go_wp2
 go_ret
 exact ⟨rfl,(unbox B2.out).alloc (unbox B2.out).size _⟩
theorem spec_2 (code imm:Int) (w:World) (h0:0<=code) (h1:code<=255) (e3:0<=imm) (e4:imm<=255) (e1:bytesV code false imm=strOfNums [code,imm]) (e2:lenV false false (hole code false)=2)
  (co:∀ w,Calls prog 44 #[.agg #[.int .i64 code,.bool false,.int .i64 imm]] w fun e w'=>e=.returned (.bool true)/\Below w.heap.size w w') (cl:∀ w,Calls prog 45 #[.int .i64 code,.bool false] w fun e w'=>e=.returned (.int .i64 (lenV false false (hole code false)))/\Below w.heap.size w w') :
  Calls prog 36 #[.agg #[.int .i64 code,.bool false,.int .i64 imm]] w fun e w'=>e=.returned (.string (bytesV code false imm))/\Below w.heap.size w w':=by
 have hc:code%256=code:=by omega
 have hi:imm%256=imm:=by omega
 have cv1:=conv1
 have cv2:=conv2
 have cv3:=conv3
 rw [e1]
 rw [e2] at cl
 clear e1 e2
 go_enter func36,ntmps36
 go_wp2_with fail
 refine (co _).mono ?_
 rintro e w1 ⟨rfl,b1⟩
 have B1:Hid (Below _ _ w1):=b1
 have k0:=box b1 0 _ rfl
 have k1:=box b1 1 _ rfl
 have k2:=box b1 2 _ rfl
 clear b1 co
 go_wp2_with fail
 refine (cl _).mono ?_
 rintro e w2 ⟨rfl,b2⟩
 have B2:Hid (Below _ _ w2):=after B1.out b2
 clear b2 cl B1 k0 k1 k2
 have k0:=box B2.out 0 _ rfl
 have k2:=box B2.out 2 _ rfl
 go_wp2
 go_ret
 exact ⟨rfl,(unbox B2.out).alloc (unbox B2.out).size _⟩
theorem spec_3 (code imm:Int) (w:World) (h0:0<=code) (h1:code<=255) (e3:0<=imm) (e4:imm<=65535) (e1:bytesV code false imm=strOfNums [code,imm%256,imm / 256]) (e2:lenV false false (hole code false)=3)
  (co:∀ w,Calls prog 44 #[.agg #[.int .i64 code,.bool false,.int .i64 imm]] w fun e w'=>e=.returned (.bool true)/\Below w.heap.size w w') (cl:∀ w,Calls prog 45 #[.int .i64 code,.bool false] w fun e w'=>e=.returned (.int .i64 (lenV false false (hole code false)))/\Below w.heap.size w w') :
  Calls prog 36 #[.agg #[.int .i64 code,.bool false,.int .i64 imm]] w fun e w'=>e=.returned (.string (bytesV code false imm))/\Below w.heap.size w w':=by
 have hc:code%256=code:=by omega
 have hi:imm / 256%256=imm / 256:=by omega
 have cv1:=conv1
 have cv2:=conv2
 have cv3:=conv3
 rw [e1]
 rw [e2] at cl
 clear e1 e2
 go_enter func36,ntmps36
 go_wp2_with fail
 refine (co _).mono ?_
 rintro e w1 ⟨rfl,b1⟩
 have B1:Hid (Below _ _ w1):=b1
 have k0:=box b1 0 _ rfl
 have k1:=box b1 1 _ rfl
 have k2:=box b1 2 _ rfl
 clear b1 co
 go_wp2_with fail
 refine (cl _).mono ?_
 rintro e w2 ⟨rfl,b2⟩
 have B2:Hid (Below _ _ w2):=after B1.out b2
 clear b2 cl B1 k0 k1 k2
 have k0:=box B2.out 0 _ rfl
 have k2:=box B2.out 2 _ rfl
 go_wp2
 go_ret
 exact ⟨rfl,(unbox B2.out).alloc (unbox B2.out).size _⟩
theorem specBytes_any (code:Int) (cb:Bool) (imm:Int) (w:World) :
  Calls prog 36 #[.agg #[.int .i64 code,.bool cb,.int .i64 imm]] w fun e w'=>e=.returned (.string (bytesV code cb imm))/\Below w.heap.size w w':=by
 have co:=fun w=>specOk_any code cb imm w
 cases ho:okV code cb imm
 ·have hv:bytesV code cb imm=⟨#[]⟩:=by unfold bytesV;rw [ho];rfl
  rw [hv]
  rw [ho] at co
  go_enter func36,ntmps36
  go_wp2_with fail
  refine (co _).mono ?_
  rintro e w1 ⟨rfl,b1⟩
  have B1:Hid (Below _ _ w1):=b1
  clear b1 co
  go_wp2
  go_ret
  exact ⟨rfl,unbox B1.out⟩
 rw [ho] at co
 obtain ⟨hn,h0,h1⟩:=ok_in ho
 have hc:code%256=code:=by omega
 have cv1:=conv1
 have cv2:=conv2
 have cv3:=conv3
 cases cb with
 | true =>
  have hv:bytesV code true imm=strOfNums [203,code]:=by unfold bytesV;rw [ho];rfl
  rw [hv]
  go_enter func36,ntmps36
  go_wp2_with fail
  refine (co _).mono ?_
  rintro e w1 ⟨rfl,b1⟩
  have B1:Hid (Below _ _ w1):=b1
  have k0:=box b1 0 _ rfl
  have k1:=box b1 1 _ rfl
  clear b1 co
  go_wp2
  go_ret
  exact ⟨rfl,(unbox B1.out).alloc (unbox B1.out).size _⟩
 | false =>
  have cl:=fun w=>length_any code false w h0 h1
  have hd:decide ((Tmpl.tmplS code false).size=0)=false:=by
   unfold none? at hn
   rw [show inB code 0 255=true from decide_eq_true ⟨h0,h1⟩,beqN] at hn
   simpa using hn
  rw [hd] at cl
  rcases hole_cases code false with hx|hx|hx|hx
  ·obtain ⟨e1,e2,e3,e4⟩:=V_8 ho hx
   exact spec_2 code imm w h0 h1 e3 e4 e1 e2 co cl
  ·obtain ⟨e1,e2,e3,e4⟩:=V_16 ho hx
   exact spec_3 code imm w h0 h1 e3 e4 e1 e2 co cl
  ·obtain ⟨e1,e2,e3,e4⟩:=V_e ho hx
   exact spec_2 code imm w h0 h1 e3 e4 e1 e2 co cl
  ·obtain ⟨e1,e2⟩:=V_no ho hx
   exact spec_1 code imm w h0 h1 e1 e2 co cl
end InsB
namespace DrawI
open Rdr (Rd Post)
open HoleX (n8 n16 e8 holeT holeP)
open HolI LenX InsX
open InsB
def I64 (x:Int):Prop:=(Lit.int .i64 x).wf=true
theorem I64.small {x:Int} (h0:0<=x) (h1:x<=65535):I64 x:=Rdr.wf_small (by omega) (by omega)
theorem postB {w w':World} {rb:Nat} (h:Rd w rb) (b:Below w.heap.size w w'):Post w rb w' :=
 ⟨h.kept fun k hk=>b.block k (Nat.lt_of_le_of_lt hk h.lt),⟨b.os,b.tape,b.output,b.size,fun k hk _=>b.block k hk⟩⟩
theorem postSet {w w':World} {rb:Nat} (h:Post w rb w') (hr:rb<w.heap.size) {p:Addr} (hb:w.heap.size<=p.block) (v:Value):Post w rb (w'.setCell p v) :=
 ⟨h.1.kept fun k hk=>Below.heap_setCell _ _ _ _ (by omega),⟨h.2.os,h.2.tape,h.2.output,by simpa [World.setCell] using h.2.size,fun k hk hne=>(Below.heap_setCell _ _ _ _ (by omega)).trans (h.2.block k hk hne)⟩⟩
def Box (w:World) (b:Nat) (c:Int) (q:Bool) (m:Int):Prop:=w.cell? ⟨b,0,none⟩=some (.int .i64 c)/\w.cell? ⟨b,1,none⟩=some (.bool q)/\w.cell? ⟨b,2,none⟩=some (.int .i64 m)/\∀ i,w.frozen? ⟨b,i,none⟩=false
theorem Box.lt {w:World} {b:Nat} {c:Int} {q:Bool} {m:Int} (h:Box w b c q m):b<w.heap.size:=World.block_lt_of_cell? w ⟨b,0,none⟩ h.1
theorem Box.kept {w w':World} {b:Nat} {c:Int} {q:Bool} {m:Int} (h:Box w b c q m) (hk:w'.heap[b]? = w.heap[b]?):Box w' b c q m :=
 ⟨(World.cell?_of_block (a:=⟨b,0,none⟩) hk).trans h.1,(World.cell?_of_block (a:=⟨b,1,none⟩) hk).trans h.2.1,(World.cell?_of_block (a:=⟨b,2,none⟩) hk).trans h.2.2.1,fun i=>(World.frozen?_of_block (a:=⟨b,i,none⟩) hk).trans (h.2.2.2 i)⟩
theorem Box.new (w:World) (c:Int) (q:Bool) (m:Int) (T:TypeId):Box (w.alloc (.cells #[.int .i64 c,.bool q,.int .i64 m] T)) w.heap.size c q m :=
 ⟨by rw [World.cell?_alloc_new];rfl,by rw [World.cell?_alloc_new];rfl,by rw [World.cell?_alloc_new];rfl,fun i=>World.frozen?_alloc_new w _ T i⟩
theorem Box.alloc {w:World} {b:Nat} {c:Int} {q:Bool} {m:Int} (h:Box w b c q m) (o:Obj):Box (w.alloc o) b c q m:=h.kept (Below.heap_alloc _ _ _ h.lt)
theorem Box.post {w w':World} {rb b:Nat} {c:Int} {q:Bool} {m:Int} (h:Box w b c q m) (hp:Post w rb w') (hne:b ≠ rb):Box w' b c q m:=h.kept (hp.2.block b h.lt (fun e=>hne (Option.some.inj e)))
theorem Box.below {w w':World} {b:Nat} {c:Int} {q:Bool} {m:Int} (h:Box w b c q m) (hb:Below w.heap.size w w'):Box w' b c q m:=h.kept (hb.block b h.lt)
theorem Box.other {w:World} {b d i:Nat} {c:Int} {q:Bool} {m:Int} (h:Box w b c q m) (hne:b ≠ d) (v:Value):Box (w.setCell ⟨d,i,none⟩ v) b c q m:=h.kept (Below.heap_setCell _ _ _ _ hne)
theorem Box.put {w:World} {b:Nat} {c:Int} {q:Bool} {m:Int} (h:Box w b c q m) (x:Int):Box (w.setCell ⟨b,2,none⟩ (.int .i64 x)) b c q x :=
 ⟨(World.cell?_setCell_other w _ _ _ (by simp)).trans h.1,(World.cell?_setCell_other w _ _ _ (by simp)).trans h.2.1,World.cell?_setCell_same w _ _ h.2.2.1,fun i=>by rw [World.frozen?_setCell];exact h.2.2.2 i⟩
theorem ins_any (rb:Nat) (w:World) (h:Rd w rb) :
  Calls prog 46 #[.pointer (some ⟨rb,0,none⟩)] w fun e w'=>(∃ (c:Int) (b:Bool) (m:Int),0<=c/\c<=255/\I64 m/\e=.returned (.agg #[.int .i64 c,.bool b,.int .i64 m]))/\Post w rb w':=by
 have H:Hid (Rd w rb):=h
 clear h
 go_enter func46,ntmps46
 go_wp2_with fail
 refine (Rdr.below_any _ _ _ ((Post.refl H.out).alloc _).1 (by decide) (by decide)).mono ?_
 rintro e w1 ⟨⟨c,c0,c1,rfl⟩,p1⟩
 go_wp2_with fail
 refine (Rdr.once_any _ _ _ p1.1 (by decide) (by decide)).mono ?_
 rintro e w2 ⟨⟨q,rfl⟩,p2⟩
 have HC:Hid (0<=c/\c<=255):=⟨c0,by omega⟩
 have hlt:=H.out.lt
 have BR:Hid (Box w2 w.heap.size 0 false 0):=((Box.new w 0 false 0 _).post p1 (Nat.ne_of_gt hlt)).post p2 (Nat.ne_of_gt hlt)
 have PW:Hid (Post w rb w2):=(((Post.refl H.out).alloc _).trans p1).trans p2
 have HN:Hid (rb<w.heap.size/\rb ≠ w2.heap.size/\w.heap.size<w2.heap.size):=⟨hlt,by have:=BR.out.lt;omega,BR.out.lt⟩
 have ct:=fun w=>Tmpl.template_any c q w HC.out.1 HC.out.2
 have tz:=Leng.tmpl_le c q HC.out.1 HC.out.2
 have ch:=fun w=>HoleX.hole_any (Tmpl.tmplS c q) w (by omega)
 unfold HoleX.ret at ch
 have hcs:=LenX.holeT_cases (Tmpl.tmplS c q)
 generalize holeP (Tmpl.tmplS c q)=V at ch
 generalize holeT (Tmpl.tmplS c q)=G at ch hcs
 generalize Tmpl.tmplS c q=T at ct ch
 clear tz hlt p1 p2 c0 c1
 go_wp2_with fail
 refine (ct _).mono ?_
 rintro e w3 ⟨rfl,b3⟩
 have BI:Hid (Box w3 w2.heap.size c q 0):=(Box.new w2 c q 0 _).below b3
 have BR:Hid (Box w3 w.heap.size 0 false 0):=(BR.out.alloc _).below b3
 have PW:Hid (Post w rb w3):=(PW.out.alloc _).trans (postB (PW.out.alloc _).1 b3)
 clear b3 ct
 generalize w2.heap.size=ib at BI HN
 obtain ⟨i0,i1,i2,iff⟩:=BI.out
 obtain ⟨r0,r1,r2,rf⟩:=BR.out
 have if2:=iff 2
 have rf0:=rf 0
 have rf1:=rf 1
 have rf2:=rf 2
 clear iff rf
 go_wp2_with fail
 refine (ch _).mono ?_
 rintro e w4 ⟨rfl,b4⟩
 clear i0 i1 i2 if2 r0 r1 r2 rf0 rf1 rf2
 have BI:=zHd (BI.out.below b4)
 have BR:=zHd (BR.out.below b4)
 have PW:Hid (Post w rb w4):=PW.out.trans (postB PW.out.1 b4)
 clear b4 ch
 obtain ⟨i0,i1,i2,iff⟩:=BI.out
 obtain ⟨r0,r1,r2,rf⟩:=BR.out
 have if2:=iff 2
 have rf0:=rf 0
 have rf1:=rf 1
 have rf2:=rf 2
 clear iff rf
 rcases hcs with rfl|rfl|rfl|rfl
 ·go_wp2_with fail
  refine (Rdr.byte_any _ _ PW.out.1).mono ?_
  rintro e w5 ⟨⟨x,x0,x1,rfl⟩,p5⟩
  clear i0 i1 i2 if2 r0 r1 r2 rf0 rf1 rf2
  have HX:Hid (I64 x):=I64.small x0 (by omega)
  have hwx:IntKind.i64.wrap x=x:=by rw [IntKind.wrap_i64];omega
  have BI:Hid (Box w5 ib c q 0):=BI.out.post p5 (Ne.symm HN.out.2.1)
  have BR:Hid (Box w5 w.heap.size 0 false 0):=BR.out.post p5 (Nat.ne_of_gt HN.out.1)
  have PW:Hid (Post w rb w5):=PW.out.trans p5
  clear p5 x0 x1
  obtain ⟨i0,i1,i2,iff⟩:=BI.out
  obtain ⟨r0,r1,r2,rf⟩:=BR.out
  have if2:=iff 2
  have rf0:=rf 0
  have rf1:=rf 1
  have rf2:=rf 2
  clear iff rf
  go_wp2_with fail
  clear i0 i1 i2 if2 r0 r1 r2 rf0 rf1 rf2
  have BR:Hid (Box (w5.setCell ⟨ib,2,none⟩ (.int .i64 x)) w.heap.size 0 false 0):=BR.out.other (Nat.ne_of_lt HN.out.2.2) _
  have BI:Hid (Box (w5.setCell ⟨ib,2,none⟩ (.int .i64 x)) ib c q x):=BI.out.put x
  have PW:Hid (Post w rb (w5.setCell ⟨ib,2,none⟩ (.int .i64 x))):=postSet PW.out HN.out.1 (p:=⟨ib,2,none⟩) (Nat.le_of_lt HN.out.2.2) _
  generalize w5.setCell ⟨ib,2,none⟩ (.int .i64 x)=w5s at BR BI PW |-
  obtain ⟨i0,i1,i2,iff⟩:=BI.out
  obtain ⟨r0,r1,r2,rf⟩:=BR.out
  have if2:=iff 2
  have rf0:=rf 0
  have rf1:=rf 1
  have rf2:=rf 2
  clear iff rf
  refine (Rdr.once_any _ _ _ PW.out.1 (by decide) (by decide)).mono ?_
  rintro e w6 ⟨⟨q2,rfl⟩,p6⟩
  clear i0 i1 i2 if2 r0 r1 r2 rf0 rf1 rf2
  have BI:Hid (Box w6 ib c q x):=BI.out.post p6 (Ne.symm HN.out.2.1)
  have BR:Hid (Box w6 w.heap.size 0 false 0):=BR.out.post p6 (Nat.ne_of_gt HN.out.1)
  have PW:Hid (Post w rb w6):=PW.out.trans p6
  clear p6
  obtain ⟨i0,i1,i2,iff⟩:=BI.out
  obtain ⟨r0,r1,r2,rf⟩:=BR.out
  have if2:=iff 2
  have rf0:=rf 0
  have rf1:=rf 1
  have rf2:=rf 2
  clear iff rf
  cases q2 with
  | false =>
   go_wp2
   exact bodyPost_ret (v:=.agg #[.int .i64 c,.bool q,.int .i64 x]) (by simp [results,results46,go_sem,r0,r1,r2]) rfl ⟨⟨c,q,x,HC.out.1,HC.out.2,HX.out,rfl⟩,postSet (postSet (postSet PW.out HN.out.1 (p:=⟨w.heap.size,0,none⟩) (Nat.le_refl _) _) HN.out.1 (p:=⟨w.heap.size,1,none⟩) (Nat.le_refl _) _) HN.out.1 (p:=⟨w.heap.size,2,none⟩) (Nat.le_refl _) _⟩
  | true =>
   go_wp2_with fail
   refine (Rdr.off_any _ _ _ _ PW.out.1 (by decide) (by decide) (by decide)).mono ?_
   rintro e w7 ⟨⟨y,hy,rfl⟩,p7⟩
   clear i0 i1 i2 if2 r0 r1 r2 rf0 rf1 rf2
   have HY:Hid (I64 y):=hy
   clear hy
   have BI:Hid (Box w7 ib c q x):=BI.out.post p7 (Ne.symm HN.out.2.1)
   have BR:Hid (Box w7 w.heap.size 0 false 0):=BR.out.post p7 (Nat.ne_of_gt HN.out.1)
   have PW:Hid (Post w rb (w7.setCell ⟨ib,2,none⟩ (.int .i64 y))):=postSet (PW.out.trans p7) HN.out.1 (p:=⟨ib,2,none⟩) (Nat.le_of_lt HN.out.2.2) _
   clear p7
   obtain ⟨i0,i1,i2,iff⟩:=BI.out
   obtain ⟨r0,r1,r2,rf⟩:=BR.out
   have if2:=iff 2
   have rf0:=rf 0
   have rf1:=rf 1
   have rf2:=rf 2
   clear iff rf
   have hne:¬ ib=w.heap.size:=Nat.ne_of_gt HN.out.2.2
   have hne2:¬ w.heap.size=ib:=Nat.ne_of_lt HN.out.2.2
   go_wp2
   exact bodyPost_ret (v:=.agg #[.int .i64 c,.bool q,.int .i64 y]) (by simp [results,results46,go_sem,r0,r1,r2]) rfl ⟨⟨c,q,y,HC.out.1,HC.out.2,HY.out,rfl⟩,postSet (postSet (postSet PW.out HN.out.1 (p:=⟨w.heap.size,0,none⟩) (Nat.le_refl _) _) HN.out.1 (p:=⟨w.heap.size,1,none⟩) (Nat.le_refl _) _) HN.out.1 (p:=⟨w.heap.size,2,none⟩) (Nat.le_refl _) _⟩
 ·go_wp2_with fail
  refine (Rdr.below_any _ _ _ PW.out.1 (by decide) (by decide)).mono ?_
  rintro e w5 ⟨⟨x,x0,x1,rfl⟩,p5⟩
  clear i0 i1 i2 if2 r0 r1 r2 rf0 rf1 rf2
  have HX:Hid (I64 x):=I64.small x0 (by omega)
  have hwx:IntKind.i64.wrap x=x:=by rw [IntKind.wrap_i64];omega
  have BI:Hid (Box w5 ib c q 0):=BI.out.post p5 (Ne.symm HN.out.2.1)
  have BR:Hid (Box w5 w.heap.size 0 false 0):=BR.out.post p5 (Nat.ne_of_gt HN.out.1)
  have PW:Hid (Post w rb w5):=PW.out.trans p5
  clear p5 x0 x1
  obtain ⟨i0,i1,i2,iff⟩:=BI.out
  obtain ⟨r0,r1,r2,rf⟩:=BR.out
  have if2:=iff 2
  have rf0:=rf 0
  have rf1:=rf 1
  have rf2:=rf 2
  clear iff rf
  go_wp2_with fail
  clear i0 i1 i2 if2 r0 r1 r2 rf0 rf1 rf2
  have BR:Hid (Box (w5.setCell ⟨ib,2,none⟩ (.int .i64 x)) w.heap.size 0 false 0):=BR.out.other (Nat.ne_of_lt HN.out.2.2) _
  have BI:Hid (Box (w5.setCell ⟨ib,2,none⟩ (.int .i64 x)) ib c q x):=BI.out.put x
  have PW:Hid (Post w rb (w5.setCell ⟨ib,2,none⟩ (.int .i64 x))):=postSet PW.out HN.out.1 (p:=⟨ib,2,none⟩) (Nat.le_of_lt HN.out.2.2) _
  generalize w5.setCell ⟨ib,2,none⟩ (.int .i64 x)=w5s at BR BI PW |-
  obtain ⟨i0,i1,i2,iff⟩:=BI.out
  obtain ⟨r0,r1,r2,rf⟩:=BR.out
  have if2:=iff 2
  have rf0:=rf 0
  have rf1:=rf 1
  have rf2:=rf 2
  clear iff rf
  refine (Rdr.once_any _ _ _ PW.out.1 (by decide) (by decide)).mono ?_
  rintro e w6 ⟨⟨q2,rfl⟩,p6⟩
  clear i0 i1 i2 if2 r0 r1 r2 rf0 rf1 rf2
  have BI:Hid (Box w6 ib c q x):=BI.out.post p6 (Ne.symm HN.out.2.1)
  have BR:Hid (Box w6 w.heap.size 0 false 0):=BR.out.post p6 (Nat.ne_of_gt HN.out.1)
  have PW:Hid (Post w rb w6):=PW.out.trans p6
  clear p6
  obtain ⟨i0,i1,i2,iff⟩:=BI.out
  obtain ⟨r0,r1,r2,rf⟩:=BR.out
  have if2:=iff 2
  have rf0:=rf 0
  have rf1:=rf 1
  have rf2:=rf 2
  clear iff rf
  cases q2 with
  | false =>
   go_wp2
   exact bodyPost_ret (v:=.agg #[.int .i64 c,.bool q,.int .i64 x]) (by simp [results,results46,go_sem,r0,r1,r2]) rfl ⟨⟨c,q,x,HC.out.1,HC.out.2,HX.out,rfl⟩,postSet (postSet (postSet PW.out HN.out.1 (p:=⟨w.heap.size,0,none⟩) (Nat.le_refl _) _) HN.out.1 (p:=⟨w.heap.size,1,none⟩) (Nat.le_refl _) _) HN.out.1 (p:=⟨w.heap.size,2,none⟩) (Nat.le_refl _) _⟩
  | true =>
   go_wp2_with fail
   refine (Rdr.off_any _ _ _ _ PW.out.1 (by decide) (by decide) (by decide)).mono ?_
   rintro e w7 ⟨⟨y,hy,rfl⟩,p7⟩
   clear i0 i1 i2 if2 r0 r1 r2 rf0 rf1 rf2
   have HY:Hid (I64 y):=hy
   clear hy
   have BI:Hid (Box w7 ib c q x):=BI.out.post p7 (Ne.symm HN.out.2.1)
   have BR:Hid (Box w7 w.heap.size 0 false 0):=BR.out.post p7 (Nat.ne_of_gt HN.out.1)
   have PW:Hid (Post w rb (w7.setCell ⟨ib,2,none⟩ (.int .i64 y))):=postSet (PW.out.trans p7) HN.out.1 (p:=⟨ib,2,none⟩) (Nat.le_of_lt HN.out.2.2) _
   clear p7
   obtain ⟨i0,i1,i2,iff⟩:=BI.out
   obtain ⟨r0,r1,r2,rf⟩:=BR.out
   have if2:=iff 2
   have rf0:=rf 0
   have rf1:=rf 1
   have rf2:=rf 2
   clear iff rf
   have hne:¬ ib=w.heap.size:=Nat.ne_of_gt HN.out.2.2
   have hne2:¬ w.heap.size=ib:=Nat.ne_of_lt HN.out.2.2
   go_wp2
   exact bodyPost_ret (v:=.agg #[.int .i64 c,.bool q,.int .i64 y]) (by simp [results,results46,go_sem,r0,r1,r2]) rfl ⟨⟨c,q,y,HC.out.1,HC.out.2,HY.out,rfl⟩,postSet (postSet (postSet PW.out HN.out.1 (p:=⟨w.heap.size,0,none⟩) (Nat.le_refl _) _) HN.out.1 (p:=⟨w.heap.size,1,none⟩) (Nat.le_refl _) _) HN.out.1 (p:=⟨w.heap.size,2,none⟩) (Nat.le_refl _) _⟩
 ·go_wp2_with fail
  refine (Rdr.byte_any _ _ PW.out.1).mono ?_
  rintro e w5 ⟨⟨x,x0,x1,rfl⟩,p5⟩
  clear i0 i1 i2 if2 r0 r1 r2 rf0 rf1 rf2
  have HX:Hid (I64 x):=I64.small x0 (by omega)
  have hwx:IntKind.i64.wrap x=x:=by rw [IntKind.wrap_i64];omega
  have BI:Hid (Box w5 ib c q 0):=BI.out.post p5 (Ne.symm HN.out.2.1)
  have BR:Hid (Box w5 w.heap.size 0 false 0):=BR.out.post p5 (Nat.ne_of_gt HN.out.1)
  have PW:Hid (Post w rb w5):=PW.out.trans p5
  clear p5 x0 x1
  obtain ⟨i0,i1,i2,iff⟩:=BI.out
  obtain ⟨r0,r1,r2,rf⟩:=BR.out
  have if2:=iff 2
  have rf0:=rf 0
  have rf1:=rf 1
  have rf2:=rf 2
  clear iff rf
  go_wp2_with fail
  clear i0 i1 i2 if2 r0 r1 r2 rf0 rf1 rf2
  have BR:Hid (Box (w5.setCell ⟨ib,2,none⟩ (.int .i64 x)) w.heap.size 0 false 0):=BR.out.other (Nat.ne_of_lt HN.out.2.2) _
  have BI:Hid (Box (w5.setCell ⟨ib,2,none⟩ (.int .i64 x)) ib c q x):=BI.out.put x
  have PW:Hid (Post w rb (w5.setCell ⟨ib,2,none⟩ (.int .i64 x))):=postSet PW.out HN.out.1 (p:=⟨ib,2,none⟩) (Nat.le_of_lt HN.out.2.2) _
  generalize w5.setCell ⟨ib,2,none⟩ (.int .i64 x)=w5s at BR BI PW |-
  obtain ⟨i0,i1,i2,iff⟩:=BI.out
  obtain ⟨r0,r1,r2,rf⟩:=BR.out
  have if2:=iff 2
  have rf0:=rf 0
  have rf1:=rf 1
  have rf2:=rf 2
  clear iff rf
  refine (Rdr.once_any _ _ _ PW.out.1 (by decide) (by decide)).mono ?_
  rintro e w6 ⟨⟨q2,rfl⟩,p6⟩
  clear i0 i1 i2 if2 r0 r1 r2 rf0 rf1 rf2
  have BI:Hid (Box w6 ib c q x):=BI.out.post p6 (Ne.symm HN.out.2.1)
  have BR:Hid (Box w6 w.heap.size 0 false 0):=BR.out.post p6 (Nat.ne_of_gt HN.out.1)
  have PW:Hid (Post w rb w6):=PW.out.trans p6
  clear p6
  obtain ⟨i0,i1,i2,iff⟩:=BI.out
  obtain ⟨r0,r1,r2,rf⟩:=BR.out
  have if2:=iff 2
  have rf0:=rf 0
  have rf1:=rf 1
  have rf2:=rf 2
  clear iff rf
  cases q2 with
  | false =>
   go_wp2
   exact bodyPost_ret (v:=.agg #[.int .i64 c,.bool q,.int .i64 x]) (by simp [results,results46,go_sem,r0,r1,r2]) rfl ⟨⟨c,q,x,HC.out.1,HC.out.2,HX.out,rfl⟩,postSet (postSet (postSet PW.out HN.out.1 (p:=⟨w.heap.size,0,none⟩) (Nat.le_refl _) _) HN.out.1 (p:=⟨w.heap.size,1,none⟩) (Nat.le_refl _) _) HN.out.1 (p:=⟨w.heap.size,2,none⟩) (Nat.le_refl _) _⟩
  | true =>
   go_wp2_with fail
   refine (Rdr.off_any _ _ _ _ PW.out.1 (by decide) (by decide) (by decide)).mono ?_
   rintro e w7 ⟨⟨y,hy,rfl⟩,p7⟩
   clear i0 i1 i2 if2 r0 r1 r2 rf0 rf1 rf2
   have HY:Hid (I64 y):=hy
   clear hy
   have BI:Hid (Box w7 ib c q x):=BI.out.post p7 (Ne.symm HN.out.2.1)
   have BR:Hid (Box w7 w.heap.size 0 false 0):=BR.out.post p7 (Nat.ne_of_gt HN.out.1)
   have PW:Hid (Post w rb (w7.setCell ⟨ib,2,none⟩ (.int .i64 y))):=postSet (PW.out.trans p7) HN.out.1 (p:=⟨ib,2,none⟩) (Nat.le_of_lt HN.out.2.2) _
   clear p7
   obtain ⟨i0,i1,i2,iff⟩:=BI.out
   obtain ⟨r0,r1,r2,rf⟩:=BR.out
   have if2:=iff 2
   have rf0:=rf 0
   have rf1:=rf 1
   have rf2:=rf 2
   clear iff rf
   have hne:¬ ib=w.heap.size:=Nat.ne_of_gt HN.out.2.2
   have hne2:¬ w.heap.size=ib:=Nat.ne_of_lt HN.out.2.2
   go_wp2
   exact bodyPost_ret (v:=.agg #[.int .i64 c,.bool q,.int .i64 y]) (by simp [results,results46,go_sem,r0,r1,r2]) rfl ⟨⟨c,q,y,HC.out.1,HC.out.2,HY.out,rfl⟩,postSet (postSet (postSet PW.out HN.out.1 (p:=⟨w.heap.size,0,none⟩) (Nat.le_refl _) _) HN.out.1 (p:=⟨w.heap.size,1,none⟩) (Nat.le_refl _) _) HN.out.1 (p:=⟨w.heap.size,2,none⟩) (Nat.le_refl _) _⟩
 ·go_wp2_with fail
  refine (Rdr.once_any _ _ _ PW.out.1 (by decide) (by decide)).mono ?_
  rintro e w6 ⟨⟨q2,rfl⟩,p6⟩
  clear i0 i1 i2 if2 r0 r1 r2 rf0 rf1 rf2
  have BI:Hid (Box w6 ib c q 0):=BI.out.post p6 (Ne.symm HN.out.2.1)
  have BR:Hid (Box w6 w.heap.size 0 false 0):=BR.out.post p6 (Nat.ne_of_gt HN.out.1)
  have PW:Hid (Post w rb w6):=PW.out.trans p6
  clear p6
  obtain ⟨i0,i1,i2,iff⟩:=BI.out
  obtain ⟨r0,r1,r2,rf⟩:=BR.out
  have if2:=iff 2
  have rf0:=rf 0
  have rf1:=rf 1
  have rf2:=rf 2
  clear iff rf
  cases q2 with
  | false =>
   go_wp2
   exact bodyPost_ret (v:=.agg #[.int .i64 c,.bool q,.int .i64 0]) (by simp [results,results46,go_sem,r0,r1,r2]) rfl ⟨⟨c,q,0,HC.out.1,HC.out.2,I64.small (by omega) (by omega),rfl⟩,postSet (postSet (postSet PW.out HN.out.1 (p:=⟨w.heap.size,0,none⟩) (Nat.le_refl _) _) HN.out.1 (p:=⟨w.heap.size,1,none⟩) (Nat.le_refl _) _) HN.out.1 (p:=⟨w.heap.size,2,none⟩) (Nat.le_refl _) _⟩
  | true =>
   go_wp2_with fail
   refine (Rdr.off_any _ _ _ _ PW.out.1 (by decide) (by decide) (by decide)).mono ?_
   rintro e w7 ⟨⟨y,hy,rfl⟩,p7⟩
   clear i0 i1 i2 if2 r0 r1 r2 rf0 rf1 rf2
   have HY:Hid (I64 y):=hy
   clear hy
   have BI:Hid (Box w7 ib c q 0):=BI.out.post p7 (Ne.symm HN.out.2.1)
   have BR:Hid (Box w7 w.heap.size 0 false 0):=BR.out.post p7 (Nat.ne_of_gt HN.out.1)
   have PW:Hid (Post w rb (w7.setCell ⟨ib,2,none⟩ (.int .i64 y))):=postSet (PW.out.trans p7) HN.out.1 (p:=⟨ib,2,none⟩) (Nat.le_of_lt HN.out.2.2) _
   clear p7
   obtain ⟨i0,i1,i2,iff⟩:=BI.out
   obtain ⟨r0,r1,r2,rf⟩:=BR.out
   have if2:=iff 2
   have rf0:=rf 0
   have rf1:=rf 1
   have rf2:=rf 2
   clear iff rf
   have hne:¬ ib=w.heap.size:=Nat.ne_of_gt HN.out.2.2
   have hne2:¬ w.heap.size=ib:=Nat.ne_of_lt HN.out.2.2
   go_wp2
   exact bodyPost_ret (v:=.agg #[.int .i64 c,.bool q,.int .i64 y]) (by simp [results,results46,go_sem,r0,r1,r2]) rfl ⟨⟨c,q,y,HC.out.1,HC.out.2,HY.out,rfl⟩,postSet (postSet (postSet PW.out HN.out.1 (p:=⟨w.heap.size,0,none⟩) (Nat.le_refl _) _) HN.out.1 (p:=⟨w.heap.size,1,none⟩) (Nat.le_refl _) _) HN.out.1 (p:=⟨w.heap.size,2,none⟩) (Nat.le_refl _) _⟩
theorem bytesV_le (c:Int) (b:Bool) (m:Int):(bytesV c b m).size<=3:=by
 unfold bytesV
 repeat' split
 all_goals (first|(rw [strOfNums_size];simp)|decide)
theorem bytes_any (code:Int) (cb:Bool) (imm:Int) (w:World) :
  Calls prog 36 #[.agg #[.int .i64 code,.bool cb,.int .i64 imm]] w fun e w'=>(∃ s:ByteArray,s.size<=3/\e=.returned (.string s))/\Below w.heap.size w w' :=
 (specBytes_any code cb imm w).mono fun e w' ⟨he,hb⟩=>⟨⟨_,bytesV_le code cb imm,he⟩,hb⟩
end DrawI
end Go.Proofs.Ytfpecdgcapfgfaa
