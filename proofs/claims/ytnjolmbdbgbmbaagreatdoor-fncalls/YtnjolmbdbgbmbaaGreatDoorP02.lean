/-
  Contracts and facts of ours, joined: MachO, MachK, MachB.
-/
import Derived.Test.YtnjolmbdbgbmbaaGreatDoorP01
import Derived.Deep.WholeRow
import Derived.Test.YtnjolmbdbgbmbaaGreatDoorP00
set_option linter.unusedVariables false
set_option linter.unusedSimpArgs false
set_option maxRecDepth 20000
set_option maxHeartbeats 8000000
open Go.ChangeShapes Go.WideShapes Go.ChangeAt Go.RowKit
open Go.Proofs.Tryz
namespace Go.Proofs.YtnjolmbdbgbmbaaGreatDoor.MachO
open Go.Deep
open Signed (inB ret_int ret_bool isByte_any l1In_any)
open Carts CartK CartL CartN CartR Outs MachT
def byteL (L:List Int):Bool:=L.all fun n=>inB n 0 255
theorem byteL_no {L:List Int} {k:Nat} (h:k<L.length) (hn:inB L[k] 0 255=false):byteL L=false:=by
 unfold byteL
 rw [List.all_eq_false]
 exact ⟨L[k],List.getElem_mem h,by rw [hn];decide⟩
theorem byteL_yes {L:List Int} (h:∀ k (hk:k<L.length),inB L[k] 0 255=true):byteL L=true:=by
 unfold byteL
 rw [List.all_eq_true]
 intro x hx
 obtain ⟨k,hk,rfl⟩:=List.getElem_of_mem hx
 exact h k hk
theorem allBytes_any (a:Option Addr) (cap:Nat) (L:List Int) (w:World) (hN:Row w a L) (hlen:L.length<=1048576) :
  Calls prog 70 #[.slice a L.length cap] w fun e w'=>e=.returned (.bool (byteL L))/\w'=w:=by
 obtain ⟨len,hl⟩ : ∃ len,len=L.length:=⟨_,rfl⟩
 have HL:Hid (len=L.length):=hl
 obtain ⟨r,hr⟩ : ∃ r,r=byteL L:=⟨_,rfl⟩
 have HR:Hid (r=byteL L):=hr
 rw [<- hl] at hlen |-
 rw [<- hr]
 clear hl hr
 go_enter func70,ntmps70
 go_wp2
 go_loopw [4,7] (fun n i wr=>∃ k:Nat,k<=len/\i=.int .i64 k/\wr=w/\Hid (∀ j (hj:j<L.length),j<k->inB L[j] 0 255=true)) (fun _ i _=>len-(intOf i).toNat)
 case atStart=>exact ⟨0,Nat.zero_le _,rfl,rfl,fun j _ h=>absurd h (Nat.not_lt_zero _)⟩
 case round =>
  obtain ⟨k,hk,rfl,rfl,hall⟩:=hrel
  by_cases hlt:k<len
  ·have hkL:k<L.length:=by have:=HL.out;omega
   rcases hN with hnil|⟨b,off,rfl,hb,hc⟩
   ·exfalso;rw [hnil] at hkL;exact absurd hkL (by simp)
   have c0:=hc k hkL
   clear hc
   have hno:Hid (inB L[k] 0 255=false->r=false):=fun h=>by rw [HR.out];exact byteL_no hkL h
   have hgo:Hid (inB L[k] 0 255=true->∀ j (hj:j<L.length),j<k+1->inB L[j] 0 255=true):=fun h j hj hjk=>by
    by_cases e:j=k
    ·subst e;exact h
    ·exact hall.out j hj (by omega)
   generalize L[k]=n at c0 hno hgo
   have ci:=fun w=>isByte_any n w
   cases hb2:inB n 0 255 with
   | false =>
    rw [hb2] at ci
    have er:=hno.out hb2
    subst er
    clear hb2 hno hgo hall
    go_wp2_with (go_at_call 107;refine (ci _).mono ?_;rintro e w' ⟨rfl,rfl⟩)
    go_ret
    exact ⟨rfl,rfl⟩
   | true =>
    rw [hb2] at ci
    have HG:Hid (∀ j (hj:j<L.length),j<k+1->inB L[j] 0 255=true):=hgo.out hb2
    clear hb2 hno hgo hall
    go_wp2_with (go_at_call 107;refine (ci _).mono ?_;rintro e w' ⟨rfl,rfl⟩)
    go_roundw
    case rel=>exact ⟨k+1,by omega,by go_num,trivial,HG.out⟩
    case measure=>simp [intOf];omega
  ·have er:r=true:=by
    rw [HR.out]
    exact byteL_yes fun j hj=>hall.out j hj (by have:=HL.out;omega)
   subst er
   clear hN hall
   go_wp2
   go_ret
   exact ⟨rfl,rfl⟩
def regL (ra rf rB rC rD rE rH rL:Int):List Int:=[ra,rf,rB,rC,rD,rE,rH,rL]
def cpuB (ra rf rB rC rD rE rH rL sp pc:Int):Bool:=byteL (regL ra rf rB rC rD rE rH rL) && rf%16 == 0 && inB sp 0 65535 && inB pc 0 65535
theorem andNot_byte:∀ n:Fin 256,(bits BinOp.andNot IntKind.i64 (n.val:Int) 240 == 0)=((n.val:Int)%16 == 0):=by decide +kernel
theorem regL_rf {ra rf rB rC rD rE rH rL:Int} (h:byteL (regL ra rf rB rC rD rE rH rL)=true):0<=rf/\rf<=255:=by
 unfold byteL regL at h
 rw [List.all_eq_true] at h
 exact of_decide_eq_true (h rf (by simp))
theorem reg_row (w:World) (ra rf rB rC rD rE rH rL:Int) (T:TypeId):Row (w.alloc (.cells #[.int .i64 ra,.int .i64 rf,.int .i64 rB,.int .i64 rC,.int .i64 rD,.int .i64 rE,.int .i64 rH,.int .i64 rL] T)) (some ⟨w.heap.size,0,none⟩) (regL ra rf rB rC rD rE rH rL):=by
 refine .inr ⟨w.heap.size,0,rfl,by simp,fun i hi=>?_⟩
 rw [Nat.zero_add,World.cell?_alloc_new]
 have hi':i<8:=hi
 match i,hi' with
 | 0,_=>rfl
 | 1,_=>rfl
 | 2,_=>rfl
 | 3,_=>rfl
 | 4,_=>rfl
 | 5,_=>rfl
 | 6,_=>rfl
 | 7,_=>rfl
theorem cpuOk_any (ra rf rB rC rD rE rH rL sp pc:Int) (ime hal:Bool) (w:World) :
  Calls prog 68 #[.agg #[.int .i64 ra,.int .i64 rf,.int .i64 rB,.int .i64 rC,.int .i64 rD,.int .i64 rE,.int .i64 rH,.int .i64 rL,.int .i64 sp,.int .i64 pc,.bool ime,.bool hal]] w fun e w'=>e=.returned (.bool (cpuB ra rf rB rC rD rE rH rL sp pc))/\∃ o1 o2,w'=(w.alloc o1).alloc o2:=by
 have ca:∀ (W:World) (p:Option Addr),Row W p (regL ra rf rB rC rD rE rH rL)->Calls prog 70 #[.slice p 8 8] W fun e w'=>e=.returned (.bool (byteL (regL ra rf rB rC rD rE rH rL)))/\w'=W:=fun W p h=>allBytes_any p 8 (regL ra rf rB rC rD rE rH rL) W h (by simp [regL])
 have HR:Hid (∀ (u:World) (o:Obj) (T:TypeId),Row ((u.alloc o).alloc (.cells #[.int .i64 ra,.int .i64 rf,.int .i64 rB,.int .i64 rC,.int .i64 rD,.int .i64 rE,.int .i64 rH,.int .i64 rL] T)) (some ⟨u.heap.size+1,0,none⟩) (regL ra rf rB rC rD rE rH rL)):=fun u o T=>by
  have h:=reg_row (u.alloc o) ra rf rB rC rD rE rH rL T
  simp only [World.size_alloc] at h
  exact h
 have cs:=fun w=>isWord_any sp w
 have cp:=fun w=>isWord_any pc w
 obtain ⟨b1,h1⟩ : ∃ b,byteL (regL ra rf rB rC rD rE rH rL)=b:=⟨_,rfl⟩
 obtain ⟨b2,h2⟩ : ∃ b,(rf%16 == 0)=b:=⟨_,rfl⟩
 obtain ⟨b3,h3⟩ : ∃ b,inB sp 0 65535=b:=⟨_,rfl⟩
 obtain ⟨b4,h4⟩ : ∃ b,inB pc 0 65535=b:=⟨_,rfl⟩
 have ev:cpuB ra rf rB rC rD rE rH rL sp pc=(b1 && b2 && b3 && b4):=by unfold cpuB;rw [h1,h2,h3,h4]
 have e2:b1=true->(bits BinOp.andNot IntKind.i64 rf 240 == 0)=b2:=by
  rintro rfl
  obtain ⟨g0,g1⟩:=regL_rf h1
  have:=andNot_byte ⟨rf.toNat,by omega⟩
  simp only [Int.toNat_of_nonneg g0] at this
  rw [this,h2]
 rw [ev]
 rw [h1] at ca
 rw [h3] at cs
 rw [h4] at cp
 clear ev h1 h2 h3 h4
 cases b1
 ·clear e2
  go_enter func68,ntmps68
  go_wp2_with fail
  refine Calls.mono (ca _ _ ?_) ?_
  ·exact HR.out _ _ _
  rintro e w' ⟨rfl,rfl⟩
  go_wp2
  go_ret
  exact ⟨rfl,_,_,rfl⟩
 ·have e2:=e2 rfl
  cases b2 <;> cases b3 <;> cases b4
  all_goals
   go_enter func68,ntmps68
   go_wp2_with fail
   refine Calls.mono (ca _ _ ?_) ?_
   ·exact HR.out _ _ _
   rintro e w' ⟨rfl,rfl⟩
   go_wp2_with first|(go_at_call_of 74 sp;refine (cs _).mono ?_;rintro e w' ⟨rfl,rfl⟩)|(go_at_call_of 74 pc;refine (cp _).mono ?_;rintro e w' ⟨rfl,rfl⟩)
   go_ret
   exact ⟨rfl,_,_,rfl⟩
end Go.Proofs.YtnjolmbdbgbmbaaGreatDoor.MachO
namespace Go.Proofs.YtnjolmbdbgbmbaaGreatDoor.MachK
open Go.Deep
open Signed (inB ret_int ret_bool isByte_any l1In_any)
open Carts CartK CartL CartN CartR Outs MachT MachO
def okM (ra rf rB rC rD rE rH rL sp pc:Int) (cart:Bool) (work high:Nat) (L:List Int) (cyc:Int):Bool :=
 cpuB ra rf rB rC rD rE rH rL sp pc && cart && work == 256 && high == 127 && decide (L.length<=100) && byteL L && decide (0<=cyc) && decide (cyc<=1000000000)
theorem implM_any (ra rf rB rC rD rE rH rL sp pc:Int) (ime hal:Bool) (rom:ByteArray) (kind bank:Int) (ram:ByteArray) (rb:Int) (on:Bool) (mode:Int) (work high:ByteArray) (po:Option Addr) (L:List Int) (cap:Nat) (cyc:Int) (w:World) (z1:rom.size<=maxLen) (z2:ram.size<=maxLen) (z3:work.size<=1048576) (z4:high.size<=1048576) (hN:Row w po L) (hlen:L.length<=1048576) :
  Calls prog 33 #[.agg #[.int .i64 ra,.int .i64 rf,.int .i64 rB,.int .i64 rC,.int .i64 rD,.int .i64 rE,.int .i64 rH,.int .i64 rL,.int .i64 sp,.int .i64 pc,.bool ime,.bool hal,.string rom,.int .i64 kind,.int .i64 bank,.string ram,.int .i64 rb,.bool on,.int .i64 mode,.string work,.string high,.slice po L.length cap,.int .i64 cyc]] w fun e w'=>e=.returned (.bool (okM ra rf rB rC rD rE rH rL sp pc (okB rom kind bank ram rb on mode) work.size high.size L cyc))/\Below w.heap.size w w':=by
 have HN:Hid (Row w po L):=hN
 have c1:=fun w=>cpuOk_any ra rf rB rC rD rE rH rL sp pc ime hal w
 have c6:=fun W h=>allBytes_any po cap L W h hlen
 obtain ⟨b1,h1⟩ : ∃ b,cpuB ra rf rB rC rD rE rH rL sp pc=b:=⟨_,rfl⟩
 obtain ⟨b6,h6⟩ : ∃ b,byteL L=b:=⟨_,rfl⟩
 obtain ⟨r,hr⟩ : ∃ r,r=okM ra rf rB rC rD rE rH rL sp pc (okB rom kind bank ram rb on mode) work.size high.size L cyc:=⟨_,rfl⟩
 obtain ⟨len,hl⟩ : ∃ len,len=L.length:=⟨_,rfl⟩
 have he:r=(b1 && okB rom kind bank ram rb on mode && work.size == 256 && high.size == 127 && decide (len<=100) && b6 && decide (0<=cyc) && decide (cyc<=1000000000)):=by rw [hr,hl];unfold okM;rw [h1,h6]
 have HE:Hid (r=(b1 && okB rom kind bank ram rb on mode && work.size == 256 && high.size == 127 && decide (len<=100) && b6 && decide (0<=cyc) && decide (cyc<=1000000000))):=he
 clear he
 rw [h1] at c1
 rw [h6,<- hl] at c6
 rw [<- hl] at hlen
 rw [<- hr,<- hl]
 clear hr hl h1 h6 hN
 go_enter func33,ntmps33
 go_wp2_with fail
 refine (c1 _).mono ?_
 rintro e w1 ⟨rfl,o1,o2,rfl⟩
 clear c1
 cases b1
 ·go_wp2
  go_ret
  exact ⟨ret_bool (by rw [HE.out];simp),by repeat (with_reducible first|exact zRf|refine zGr ?_ _|refine below_drewN ?_ _|refine Below.drew ?_)⟩
 cases h2:okB rom kind bank ram rb on mode with
 | false =>
  have c2:=fun w=>implOk_any rom kind bank ram rb on mode w z1 z2
  rw [h2] at c2 HE
  clear h2
  go_wp2_with (go_at_call 69;refine (c2 _).mono ?_;rintro e w' ⟨rfl,hbel⟩)
  go_ret
  exact ⟨ret_bool (by rw [HE.out];simp),CartL.after (by repeat (with_reducible first|exact zRf|refine zGr ?_ _|refine below_drewN ?_ _|refine Below.drew ?_)) hbel⟩
 | true =>
 have c2:=fun w=>implOk_yes rom kind bank ram rb on mode w z1 z2 h2
 rw [h2] at HE
 clear h2
 go_wp2_with fail
 refine (c2 _).mono ?_
 rintro e w1 ⟨rfl,T,rfl⟩
 clear c2
 by_cases k3:work.size=256
 rotate_left
 ·have d:((work.size:Int) == 256)=false:=by first|exact decide_eq_false (by omega)|(simp;omega)
  have d':(work.size == 256)=false:=by first|exact decide_eq_false (by omega)|(simp;omega)
  rw [d'] at HE
  clear d'
  go_wp2
  go_ret
  exact ⟨ret_bool (by rw [HE.out];simp),by repeat (with_reducible first|exact zRf|refine zGr ?_ _|refine below_drewN ?_ _|refine Below.drew ?_)⟩
 have Dk3:((work.size:Int) == 256)=true:=by first|exact decide_eq_true (by omega)|(simp;omega)
 have d':(work.size == 256)=true:=by first|exact decide_eq_true (by omega)|(simp;omega)
 rw [d'] at HE
 clear d'
 by_cases k4:high.size=127
 rotate_left
 ·have d:((high.size:Int) == 127)=false:=by first|exact decide_eq_false (by omega)|(simp;omega)
  have d':(high.size == 127)=false:=by first|exact decide_eq_false (by omega)|(simp;omega)
  rw [d'] at HE
  clear d'
  go_wp2
  go_ret
  exact ⟨ret_bool (by rw [HE.out];simp),by repeat (with_reducible first|exact zRf|refine zGr ?_ _|refine below_drewN ?_ _|refine Below.drew ?_)⟩
 have Dk4:((high.size:Int) == 127)=true:=by first|exact decide_eq_true (by omega)|(simp;omega)
 have d':(high.size == 127)=true:=by first|exact decide_eq_true (by omega)|(simp;omega)
 rw [d'] at HE
 clear d'
 by_cases k5:len<=100
 rotate_left
 ·have d:(decide ((len:Int)<=100))=false:=by first|exact decide_eq_false (by omega)|(simp;omega)
  have d':(decide (len<=100))=false:=by first|exact decide_eq_false (by omega)|(simp;omega)
  rw [d'] at HE
  clear d'
  go_wp2
  go_ret
  exact ⟨ret_bool (by rw [HE.out];simp),by repeat (with_reducible first|exact zRf|refine zGr ?_ _|refine below_drewN ?_ _|refine Below.drew ?_)⟩
 have Dk5:(decide ((len:Int)<=100))=true:=by first|exact decide_eq_true (by omega)|(simp;omega)
 have d':(decide (len<=100))=true:=by first|exact decide_eq_true (by omega)|(simp;omega)
 rw [d'] at HE
 clear d'
 go_wp2_with fail
 refine Calls.mono (c6 _ ?_) ?_
 ·exact HN.out.below (by repeat (with_reducible first|exact zRf|refine zGr ?_ _|refine below_drewN ?_ _|refine Below.drew ?_))
 rintro e w1 ⟨rfl,rfl⟩
 clear c6
 cases b6
 ·go_wp2
  go_ret
  exact ⟨ret_bool (by rw [HE.out];simp),by repeat (with_reducible first|exact zRf|refine zGr ?_ _|refine below_drewN ?_ _|refine Below.drew ?_)⟩
 by_cases k7:0<=cyc
 rotate_left
 ·have d:(decide (0<=cyc))=false:=by first|exact decide_eq_false (by omega)|(simp;omega)
  have d':(decide (0<=cyc))=false:=by first|exact decide_eq_false (by omega)|(simp;omega)
  rw [d'] at HE
  clear d'
  go_wp2
  go_ret
  exact ⟨ret_bool (by rw [HE.out];simp),by repeat (with_reducible first|exact zRf|refine zGr ?_ _|refine below_drewN ?_ _|refine Below.drew ?_)⟩
 have Dk7:(decide (0<=cyc))=true:=by first|exact decide_eq_true (by omega)|(simp;omega)
 have d':(decide (0<=cyc))=true:=by first|exact decide_eq_true (by omega)|(simp;omega)
 rw [d'] at HE
 clear d'
 go_wp2
 go_ret
 exact ⟨ret_bool (by rw [HE.out];simp),by repeat (with_reducible first|exact zRf|refine zGr ?_ _|refine below_drewN ?_ _|refine Below.drew ?_)⟩
end Go.Proofs.YtnjolmbdbgbmbaaGreatDoor.MachK
namespace Go.Proofs.YtnjolmbdbgbmbaaGreatDoor.MachB
open Go.Deep
open Signed (inB ret_int ret_bool isByte_any l1In_any)
open Carts CartK CartL CartM CartN CartR CartS Outs MachT MachO MachK
theorem inWork_any (n:Int) (w:World) :
  Calls prog 109 #[.int .i64 n] w fun e w'=>e=.returned (.bool (inB n 49152 49407))/\w'=w:=by
 go_enter func109,ntmps109
 go_wp2
 all_goals go_ret
 all_goals exact ⟨ret_bool (by rw [Bool.eq_iff_iff];simp [inB];try omega),rfl⟩
theorem inHigh_any (n:Int) (w:World) :
  Calls prog 110 #[.int .i64 n] w fun e w'=>e=.returned (.bool (inB n 65408 65534))/\w'=w:=by
 go_enter func110,ntmps110
 go_wp2
 all_goals go_ret
 all_goals exact ⟨ret_bool (by rw [Bool.eq_iff_iff];simp [inB];try omega),rfl⟩
def busV (rom:ByteArray) (kind bank:Int) (ram:ByteArray) (rb:Int) (on:Bool) (mode:Int) (work high:ByteArray) (addr:Int):Int :=
 if inB addr 49152 49407=true then byteAt work (addr-49152) else if inB addr 65408 65534=true then byteAt high (addr-65408) else rdV rom (bank%banks rom.size) ram (ramQ kind rb mode) on addr
theorem readBus_any (ra rf rB rC rD rE rH rL sp pc:Int) (ime hal:Bool) (rom:ByteArray) (kind bank:Int) (ram:ByteArray) (rb:Int) (on:Bool) (mode:Int) (work high:ByteArray) (po:Option Addr) (L:List Int) (cap:Nat) (cyc:Int) (B:Nat) (addr:Int) (w:World) (kB:w.heap[B]? = some (.cells #[.int .i64 ra,.int .i64 rf,.int .i64 rB,.int .i64 rC,.int .i64 rD,.int .i64 rE,.int .i64 rH,.int .i64 rL,.int .i64 sp,.int .i64 pc,.bool ime,.bool hal,.string rom,.int .i64 kind,.int .i64 bank,.string ram,.int .i64 rb,.bool on,.int .i64 mode,.string work,.string high,.slice po L.length cap,.int .i64 cyc] 33)) (h:okB rom kind bank ram rb on mode=true) (hw:work.size=256) (hh:high.size=127) (a0:0<=addr) :
  Calls prog 75 #[.pointer (some ⟨B,0,none⟩),.int .i64 addr] w fun e w'=>e=.returned (.int .i64 (busV rom kind bank ram rb on mode work high addr))/\Below w.heap.size w w':=by
 have m19:=cel kB 19 _ rfl
 have m20:=cel kB 20 _ rfl
 have m12:=cel kB 12 _ rfl
 have m13:=cel kB 13 _ rfl
 have m14:=cel kB 14 _ rfl
 have m15:=cel kB 15 _ rfl
 have m16:=cel kB 16 _ rfl
 have m17:=cel kB 17 _ rfl
 have m18:=cel kB 18 _ rfl
 have c1:=fun w=>inWork_any addr w
 have c2:=fun w=>inHigh_any addr w
 have c3:=fun w=>implRead_right rom kind bank ram rb on mode addr w h a0
 unfold busV
 clear kB
 cases h1:inB addr 49152 49407 with
 | true =>
  obtain ⟨q0,q1⟩:=of_decide_eq_true h1
  have hi:(addr-49152).toNat<work.size:=by omega
  have hb:=byteAt_wrap hi
  have i0:0<=addr-49152:=by omega
  have i1:addr-49152<(work.size:Int):=by omega
  rw [h1] at c1
  rw [if_pos rfl]
  clear h1 hw hh c3 h
  go_enter func75,ntmps75
  go_wp2_with (go_at_call 109;refine (c1 _).mono ?_;rintro e w' ⟨rfl,rfl⟩)
  go_ret
  exact ⟨ret_int hb,Below.refl _ _⟩
 | false =>
  rw [h1] at c1
  rw [if_neg (by decide)]
  cases h2:inB addr 65408 65534 with
  | true =>
   obtain ⟨q0,q1⟩:=of_decide_eq_true h2
   have hi:(addr-65408).toNat<high.size:=by omega
   have hb:=byteAt_wrap hi
   have i0:0<=addr-65408:=by omega
   have i1:addr-65408<(high.size:Int):=by omega
   rw [h2] at c2
   rw [if_pos rfl]
   clear h1 h2 hw hh c3 h
   go_enter func75,ntmps75
   go_wp2_with first|(go_at_call 109;refine (c1 _).mono ?_;rintro e w' ⟨rfl,rfl⟩)|(go_at_call 110;refine (c2 _).mono ?_;rintro e w' ⟨rfl,rfl⟩)
   go_ret
   exact ⟨ret_int hb,Below.refl _ _⟩
  | false =>
   rw [h2] at c2
   rw [if_neg (by decide)]
   obtain ⟨v,hv⟩ : ∃ v,v=rdV rom (bank%banks rom.size) ram (ramQ kind rb mode) on addr:=⟨_,rfl⟩
   rw [<- hv] at c3 |-
   clear h1 h2 hw hh h hv
   go_enter func75,ntmps75
   go_wp2_with first|(go_at_call 109;refine (c1 _).mono ?_;rintro e w' ⟨rfl,rfl⟩)|(go_at_call 110;refine (c2 _).mono ?_;rintro e w' ⟨rfl,rfl⟩)|(go_at_call 111;refine (c3 _).mono ?_;rintro e w' ⟨rfl,hb⟩)
   go_ret
   exact ⟨rfl,by assumption⟩
theorem okM_parts {ra rf rB rC rD rE rH rL sp pc:Int} {cart:Bool} {work high:Nat} {L:List Int} {cyc:Int} (h:okM ra rf rB rC rD rE rH rL sp pc cart work high L cyc=true):cart=true/\work=256/\high=127:=by
 unfold okM at h
 simp only [Bool.and_eq_true,beq_iff_eq] at h
 exact ⟨h.1.1.1.1.1.1.2,h.1.1.1.1.1.2,h.1.1.1.1.2⟩
end Go.Proofs.YtnjolmbdbgbmbaaGreatDoor.MachB
