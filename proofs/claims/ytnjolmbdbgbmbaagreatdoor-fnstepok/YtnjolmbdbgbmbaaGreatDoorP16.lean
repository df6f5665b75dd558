import Derived.Test.YtnjolmbdbgbmbaaGreatDoorP14
import Derived.Deep.WholeRow
set_option linter.all false
set_option maxRecDepth 20000
set_option maxHeartbeats 8000000
open Go.ChangeShapes Go.WideShapes Go.ChangeAt Go.RowKit
open Go.Proofs.Tryz
namespace Go.Proofs.YtnjolmbdbgbmbaaGreatDoor
namespace MachB
open Go.Deep
open Signed (inB ret_int ret_bool isByte_any l1In_any)
open Carts CartK CartL CartM CartN CartR CartS CartX Outs MachT MachO MachK
theorem inWork_any (n:Int) (w:World) :
  Calls prog 109 #[.int .i64 n] w fun e w'=>e=.returned (.bool (inB n 49152 49407))/\w'=w:=by
 go_enter func109,ntmps109
 go_wp2
 all_goals go_ret
 all_goals exact ⟨ret_bool (by rw [Bool.eq_iff_iff];simp [inB];try omega),rfl⟩
theorem inHigh_any (n:Int) (w:World) :
  Calls prog 110 #[.int .i64 n] w fun e w'=>e=.returned (.bool (inB n 65408 65534))/\w'=w:=by
 go_enter func110,ntmps110
 go_wp2
 all_goals go_ret
 all_goals exact ⟨ret_bool (by rw [Bool.eq_iff_iff];simp [inB];try omega),rfl⟩
def busV (rom:ByteArray) (kind bank:Int) (ram:ByteArray) (rb:Int) (on:Bool) (mode:Int) (work high:ByteArray) (addr:Int):Int :=
 if inB addr 49152 49407=true then byteAt work (addr-49152) else if inB addr 65408 65534=true then byteAt high (addr-65408) else rdV rom (bank%banks rom.size) ram (ramQ kind rb mode) on addr
theorem readBus_any (ra rf rB rC rD rE rH rL sp pc:Int) (ime hal:Bool) (rom:ByteArray) (kind bank:Int) (ram:ByteArray) (rb:Int) (on:Bool) (mode:Int) (work high:ByteArray) (po:Option Addr) (L:List Int) (cap:Nat) (cyc:Int) (B:Nat) (addr:Int) (w:World) (kB:w.heap[B]? = some (.cells #[.int .i64 ra,.int .i64 rf,.int .i64 rB,.int .i64 rC,.int .i64 rD,.int .i64 rE,.int .i64 rH,.int .i64 rL,.int .i64 sp,.int .i64 pc,.bool ime,.bool hal,.string rom,.int .i64 kind,.int .i64 bank,.string ram,.int .i64 rb,.bool on,.int .i64 mode,.string work,.string high,.slice po L.length cap,.int .i64 cyc] 33)) (h:okB rom kind bank ram rb on mode=true) (hw:work.size=256) (hh:high.size=127) (a0:0<=addr) :
  Calls prog 75 #[.pointer (some ⟨B,0,none⟩),.int .i64 addr] w fun e w'=>e=.returned (.int .i64 (busV rom kind bank ram rb on mode work high addr))/\Below w.heap.size w w':=by
 have m19:=cel kB 19 _ rfl
 have m20:=cel kB 20 _ rfl
 have m12:=cel kB 12 _ rfl
 have m13:=cel kB 13 _ rfl
 have m14:=cel kB 14 _ rfl
 have m15:=cel kB 15 _ rfl
 have m16:=cel kB 16 _ rfl
 have m17:=cel kB 17 _ rfl
 have m18:=cel kB 18 _ rfl
 have c1:=fun w=>inWork_any addr w
 have c2:=fun w=>inHigh_any addr w
 have c3:=fun w=>implRead_right rom kind bank ram rb on mode addr w h a0
 unfold busV
 clear kB
 cases h1:inB addr 49152 49407 with
 | true =>
  obtain ⟨q0,q1⟩:=of_decide_eq_true h1
  have hi:(addr-49152).toNat<work.size:=by omega
  have hb:=byteAt_wrap hi
  have i0:0<=addr-49152:=by omega
  have i1:addr-49152<(work.size:Int):=by omega
  rw [h1] at c1
  rw [if_pos rfl]
  clear h1 hw hh c3 h
  go_enter func75,ntmps75
  go_wp2_with (go_at_call 109;refine (c1 _).mono ?_;rintro e w' ⟨rfl,rfl⟩)
  go_ret
  exact ⟨ret_int hb,Below.refl _ _⟩
 | false =>
  rw [h1] at c1
  rw [if_neg (by decide)]
  cases h2:inB addr 65408 65534 with
  | true =>
   obtain ⟨q0,q1⟩:=of_decide_eq_true h2
   have hi:(addr-65408).toNat<high.size:=by omega
   have hb:=byteAt_wrap hi
   have i0:0<=addr-65408:=by omega
   have i1:addr-65408<(high.size:Int):=by omega
   rw [h2] at c2
   rw [if_pos rfl]
   clear h1 h2 hw hh c3 h
   go_enter func75,ntmps75
   go_wp2_with first|(go_at_call 109;refine (c1 _).mono ?_;rintro e w' ⟨rfl,rfl⟩)|(go_at_call 110;refine (c2 _).mono ?_;rintro e w' ⟨rfl,rfl⟩)
   go_ret
   exact ⟨ret_int hb,Below.refl _ _⟩
  | false =>
   rw [h2] at c2
   rw [if_neg (by decide)]
   obtain ⟨v,hv⟩ : ∃ v,v=rdV rom (bank%banks rom.size) ram (ramQ kind rb mode) on addr:=⟨_,rfl⟩
   rw [<- hv] at c3 |-
   clear h1 h2 hw hh h hv
   go_enter func75,ntmps75
   go_wp2_with first|(go_at_call 109;refine (c1 _).mono ?_;rintro e w' ⟨rfl,rfl⟩)|(go_at_call 110;refine (c2 _).mono ?_;rintro e w' ⟨rfl,rfl⟩)|(go_at_call 111;refine (c3 _).mono ?_;rintro e w' ⟨rfl,hb⟩)
   go_ret
   exact ⟨rfl,by assumption⟩
theorem l6Read_any (ra rf rB rC rD rE rH rL sp pc:Int) (ime hal:Bool) (rom:ByteArray) (kind bank:Int) (ram:ByteArray) (rb:Int) (on:Bool) (mode:Int) (work high:ByteArray) (po:Option Addr) (L:List Int) (cap:Nat) (cyc:Int) (addr:Int) (w:World) (z1:rom.size<=maxLen) (h:okB rom kind bank ram rb on mode=true) (hw:work.size=256) (hh:high.size=127) (a0:0<=addr) :
  Calls prog 117 #[.agg #[.int .i64 ra,.int .i64 rf,.int .i64 rB,.int .i64 rC,.int .i64 rD,.int .i64 rE,.int .i64 rH,.int .i64 rL,.int .i64 sp,.int .i64 pc,.bool ime,.bool hal,.string rom,.int .i64 kind,.int .i64 bank,.string ram,.int .i64 rb,.bool on,.int .i64 mode,.string work,.string high,.slice po L.length cap,.int .i64 cyc],.int .i64 addr] w fun e w'=>e=.returned (.int .i64 (busV rom kind bank ram rb on mode work high addr))/\Below w.heap.size w w':=by
 have c3:=fun w=>specRead_right rom kind bank ram rb on mode addr w z1 h a0
 unfold busV
 cases h1:inB addr 49152 49407 with
 | true =>
  obtain ⟨q0,q1⟩:=of_decide_eq_true h1
  have hi:(addr-49152).toNat<work.size:=by omega
  have hb:=byteAt_wrap hi
  have i0:0<=addr-49152:=by omega
  have i1:addr-49152<(work.size:Int):=by omega
  rw [if_pos rfl]
  clear hw hh c3 h
  go_enter func117,ntmps117
  go_wp2_with (go_at_call 43;refine (l1In_any _ _ _ _).mono ?_;rintro e w' ⟨rfl,rfl⟩)
  go_ret
  exact ⟨ret_int hb,by repeat (with_reducible first|exact zRf|refine zGr ?_ _|refine below_drewN ?_ _|refine Below.drew ?_)⟩
 | false =>
  rw [if_neg (by decide)]
  cases h2:inB addr 65408 65534 with
  | true =>
   obtain ⟨q0,q1⟩:=of_decide_eq_true h2
   have hi:(addr-65408).toNat<high.size:=by omega
   have hb:=byteAt_wrap hi
   have i0:0<=addr-65408:=by omega
   have i1:addr-65408<(high.size:Int):=by omega
   rw [if_pos rfl]
   clear hw hh c3 h
   go_enter func117,ntmps117
   go_wp2_with (go_at_call 43;refine (l1In_any _ _ _ _).mono ?_;rintro e w' ⟨rfl,rfl⟩)
   go_ret
   exact ⟨ret_int hb,by repeat (with_reducible first|exact zRf|refine zGr ?_ _|refine below_drewN ?_ _|refine Below.drew ?_)⟩
  | false =>
   rw [if_neg (by decide)]
   obtain ⟨v,hv⟩ : ∃ v,v=rdV rom (bank%banks rom.size) ram (ramQ kind rb mode) on addr:=⟨_,rfl⟩
   rw [<- hv] at c3 |-
   clear hw hh h hv
   go_enter func117,ntmps117
   go_wp2_with first|(go_at_call 43;refine (l1In_any _ _ _ _).mono ?_;rintro e w' ⟨rfl,rfl⟩)|(go_at_call 147;refine (c3 _).mono ?_;rintro e w' ⟨rfl,hb⟩)
   go_ret
   exact ⟨rfl,after (by repeat (with_reducible first|exact zRf|refine zGr ?_ _|refine below_drewN ?_ _|refine Below.drew ?_)) hb⟩
theorem okM_parts {ra rf rB rC rD rE rH rL sp pc:Int} {cart:Bool} {work high:Nat} {L:List Int} {cyc:Int} (h:okM ra rf rB rC rD rE rH rL sp pc cart work high L cyc=true):cart=true/\work=256/\high=127:=by
 unfold okM at h
 simp only [Bool.and_eq_true,beq_iff_eq] at h
 exact ⟨h.1.1.1.1.1.1.2,h.1.1.1.1.1.2,h.1.1.1.1.2⟩
end MachB
namespace ReadJ
open HolI LenX InsX ReadI
theorem rest_ix (s:ByteArray) (a k:Int) (h0:0<=a) (hk:0<=k) (h:a+k<s.size):byteAt (s.extract a.toNat s.size) k=byteAt s (a+k):=by
 have hz:(s.extract a.toNat s.size).size=s.size-a.toNat:=by simp
 unfold byteAt
 rw [dif_pos (by omega),dif_pos (by omega)]
 congr 2
 simp only [ByteArray.getElem_extract]
 congr 1
 omega
theorem slice_rest (s:ByteArray) (a:Int) (h0:0<=a) (h1:a<=s.size) (w:World):(Instr.slice 9 (.string s) (some (.int .i64 a)) none none).run prog w=.ok (.string (s.extract a.toNat s.size)) w :=
 run_slice_string_l w (t:=9) (s:=s) underlying9 .i64 a h0 h1
theorem impl_out (s:ByteArray) (a:Int) (w:World) (h:a<0 \/ s.size<=a) :
  Calls prog 36 #[.string s,.int .i64 a] w fun e w'=>e=Tup zeroI 0/\Below w.heap.size w w':=by
 by_cases h0:a<0
 ·go_enter func36,ntmps36
  go_wp2
  exact bodyPost_ret (v:=.tuple #[.agg #[.int .i64 0,.bool false,.int .i64 0],.int .i64 0]) (by simp [results,results36,go_sem]) rfl ⟨rfl,zAl _ _⟩
 ·have hw:(s.size:Int)<=a:=by omega
  go_enter func36,ntmps36
  go_wp2
  exact bodyPost_ret (v:=.tuple #[.agg #[.int .i64 0,.bool false,.int .i64 0],.int .i64 0]) (by simp [results,results36,go_sem]) rfl ⟨rfl,zAl _ _⟩
theorem impl_cb (s:ByteArray) (a:Int) (w:World) (hs:s.size<=1048576) (h0:0<=a) (h1:a<s.size) (hc:byteAt s a=203) :
  Calls prog 36 #[.string s,.int .i64 a] w fun e w'=>e=Tup (readI s a) (readN s a)/\Below w.heap.size w w':=by
 have e1:readI s a=(if s.size-a<2 then zeroI else .agg #[.int .i64 (byteAt s (a+1)),.bool true,.int .i64 0]):=by unfold readI;rw [if_neg (by omega),if_pos hc]
 have e2:readN s a=(if s.size-a<2 then 0 else 2):=by unfold readN;rw [if_neg (by omega),if_pos hc]
 rw [e1,e2]
 clear e1 e2
 have sl:=slice_rest s a h0 (by omega)
 have hz:((s.extract a.toNat s.size).size:Int)=s.size-a:=by simp;omega
 have x0:=ix (s.extract a.toNat s.size) 0 (by omega) (by omega)
 rw [rest_ix s a 0 h0 (by omega) (by omega),Int.add_zero,hc] at x0
 by_cases h2:(s.size:Int)-a<2
 ·rw [if_pos h2,if_pos h2]
  generalize s.extract a.toNat s.size=R at sl hz x0
  rw [<- hz] at h2
  have hz1:(0:Int)<(R.size:Int):=by omega
  clear hz hc
  go_enter func36,ntmps36
  go_wp2
  exact bodyPost_ret (v:=.tuple #[.agg #[.int .i64 0,.bool false,.int .i64 0],.int .i64 0]) (by simp [results,results36,go_sem]) rfl ⟨rfl,zAl _ _⟩
 ·rw [if_neg h2,if_neg h2]
  have x1:=ix (s.extract a.toNat s.size) 1 (by omega) (by omega)
  rw [rest_ix s a 1 h0 (by omega) (by omega)] at x1
  have hy:=byteAt_bd s (a+1)
  generalize byteAt s (a+1)=Y at x1 hy
  generalize s.extract a.toNat s.size=R at sl hz x0 x1
  rw [<- hz] at h2
  have hz1:(0:Int)<(R.size:Int):=by omega
  have hz2:(1:Int)<(R.size:Int):=by omega
  have hw:IntKind.i64.wrap Y=Y:=by rw [IntKind.wrap_i64];omega
  have hw':wrap64 Y=Y:=by unfold wrap64;omega
  clear hz hc
  go_enter func36,ntmps36
  go_wp2
  exact bodyPost_ret (v:=.tuple #[.agg #[.int .i64 Y,.bool true,.int .i64 0],.int .i64 2]) (by simp [results,results36,go_sem]) rfl ⟨rfl,zAl _ _⟩
theorem impl_n (s:ByteArray) (a n:Int) (w:World) (hm:MaxL w) (hs:s.size<=1048576) (h0:0<=a) (h1:a<s.size) (hc:¬ byteAt s a=203) (hn:lenC (byteAt s a)=n) (hcs:n=0 \/ n=1 \/ n=2 \/ n=3) :
  Calls prog 36 #[.string s,.int .i64 a] w fun e w'=>e=Tup (readI s a) (readN s a)/\Below w.heap.size w w':=by
 have e1:readI s a=(if n=0 \/ s.size-a<n then zeroI else .agg #[.int .i64 (byteAt s a),.bool false,.int .i64 (immV s a n)]):=by unfold readI;rw [if_neg (by omega),if_neg hc,hn]
 have e2:readN s a=(if n=0 \/ s.size-a<n then 0 else n):=by unfold readN;rw [if_neg (by omega),if_neg hc,hn]
 rw [e1,e2]
 clear e1 e2
 have HM:Hid (MaxL w):=hm
 have sl:=slice_rest s a h0 (by omega)
 have hz:((s.extract a.toNat s.size).size:Int)=s.size-a:=by simp;omega
 have x0:=ix (s.extract a.toNat s.size) 0 (by omega) (by omega)
 rw [rest_ix s a 0 h0 (by omega) (by omega),Int.add_zero] at x0
 have bd:=byteAt_bd s a
 have cl:=fun w hm=>implLength_any (byteAt s a) false w hm
 have hd:lenV (none? (byteAt s a) false) false (hole (byteAt s a) false)=n:=hn
 rw [hd] at cl
 clear hd hn hm
 have hy1:=byteAt_bd s (a+1)
 have hy2:=byteAt_bd s (a+2)
 by_cases hq:n=0 \/ (s.size:Int)-a<n
 ·rw [if_pos hq,if_pos hq]
  generalize byteAt s a=X at x0 cl hc bd
  generalize s.extract a.toNat s.size=R at sl hz x0
  rw [<- hz] at hq
  have hz1:(0:Int)<(R.size:Int):=by omega
  have hw:IntKind.i64.wrap X=X:=by rw [IntKind.wrap_i64];omega
  have hw':wrap64 X=X:=by unfold wrap64;omega
  clear hz
  go_enter func36,ntmps36
  go_wp2_with fail
  refine (cl _ (HM.out.below (zAl _ _))).mono ?_
  rintro e w2 ⟨rfl,b2⟩
  have B2:Hid (Below _ _ w2):=b2
  have r0:=box b2 0 _ rfl
  have r1:=box b2 1 _ rfl
  have r2:=box b2 2 _ rfl
  have f0:=fro b2 0
  have f1:=fro b2 1
  have f2:=fro b2 2
  clear b2
  go_wp2
  all_goals exact bodyPost_ret (v:=.tuple #[.agg #[.int .i64 0,.bool false,.int .i64 0],.int .i64 0]) (by simp [results,results36,go_sem,r0,r1,r2]) rfl ⟨rfl,((((unbox B2.out).setCell (p:=⟨w.heap.size,0,none⟩) (Nat.le_refl _) _).setCell (p:=⟨w.heap.size,1,none⟩) (Nat.le_refl _) _).setCell (p:=⟨w.heap.size,2,none⟩) (Nat.le_refl _) _)⟩
 ·rw [if_neg hq,if_neg hq]
  have g1:¬ n=0:=fun h=>hq (.inl h)
  have g2:¬ ((s.extract a.toNat s.size).size:Int)<n:=fun h=>hq (.inr (by omega))
  have hn3:n=1 \/ n=2 \/ n=3:=by rcases hcs with h|h|h|h <;> omega
  clear hcs hq
  have hw:IntKind.i64.wrap (byteAt s a)=byteAt s a:=by rw [IntKind.wrap_i64];omega
  have hw':wrap64 (byteAt s a)=byteAt s a:=by unfold wrap64;omega
  rcases hn3 with rfl|rfl|rfl
  ·have ei:immV s a 1=0:=rfl
   rw [ei]
   clear ei
   generalize byteAt s a=X at x0 cl hc bd hw hw'
   generalize s.extract a.toNat s.size=R at sl hz x0 g2
   have hz1:(0:Int)<(R.size:Int):=by omega
   clear hz
   go_enter func36,ntmps36
   go_wp2_with fail
   refine (cl _ (HM.out.below (zAl _ _))).mono ?_
   rintro e w2 ⟨rfl,b2⟩
   have B2:Hid (Below _ _ w2):=b2
   have r0:=box b2 0 _ rfl
   have r1:=box b2 1 _ rfl
   have r2:=box b2 2 _ rfl
   have f0:=fro b2 0
   have f1:=fro b2 1
   have f2:=fro b2 2
   clear b2
   go_wp2
   refine wp_loop_rounds 1 ?_
   rw [rounds_succ]
   go_wp2
   exact bodyPost_ret (v:=.tuple #[.agg #[.int .i64 X,.bool false,.int .i64 0],.int .i64 1]) (by simp [results,results36,go_sem,r0,r1,r2]) rfl ⟨rfl,((((unbox B2.out).setCell (p:=⟨w.heap.size,0,none⟩) (Nat.le_refl _) _).setCell (p:=⟨w.heap.size,1,none⟩) (Nat.le_refl _) _).setCell (p:=⟨w.heap.size,2,none⟩) (Nat.le_refl _) _)⟩
  ·have ei:immV s a 2=byteAt s (a+1):=rfl
   rw [ei]
   clear ei
   have x1:=ix (s.extract a.toNat s.size) 1 (by omega) (by omega)
   rw [rest_ix s a 1 h0 (by omega) (by omega)] at x1
   generalize byteAt s a=X at x0 cl hc bd hw hw'
   generalize byteAt s (a+1)=Y at x1 hy1
   generalize s.extract a.toNat s.size=R at sl hz x0 x1 g2
   have hz1:(0:Int)<(R.size:Int):=by omega
   have hz2:(1:Int)<(R.size:Int):=by omega
   have hv:IntKind.i64.wrap Y=Y:=by rw [IntKind.wrap_i64];omega
   have hv':wrap64 Y=Y:=by unfold wrap64;omega
   clear hz
   go_enter func36,ntmps36
   go_wp2_with fail
   refine (cl _ (HM.out.below (zAl _ _))).mono ?_
   rintro e w2 ⟨rfl,b2⟩
   have B2:Hid (Below _ _ w2):=b2
   have r0:=box b2 0 _ rfl
   have r1:=box b2 1 _ rfl
   have r2:=box b2 2 _ rfl
   have f0:=fro b2 0
   have f1:=fro b2 1
   have f2:=fro b2 2
   clear b2
   go_wp2
   refine wp_loop_rounds 2 ?_
   rw [rounds_succ]
   go_wp2
   rw [rounds_succ]
   go_wp2
   exact bodyPost_ret (v:=.tuple #[.agg #[.int .i64 X,.bool false,.int .i64 Y],.int .i64 2]) (by simp [results,results36,go_sem,r0,r1,r2]) rfl ⟨rfl,((((unbox B2.out).setCell (p:=⟨w.heap.size,0,none⟩) (Nat.le_refl _) _).setCell (p:=⟨w.heap.size,1,none⟩) (Nat.le_refl _) _).setCell (p:=⟨w.heap.size,2,none⟩) (Nat.le_refl _) _)⟩
  ·have ei:immV s a 3=byteAt s (a+1)+256*byteAt s (a+2):=rfl
   rw [ei]
   clear ei
   have x1:=ix (s.extract a.toNat s.size) 1 (by omega) (by omega)
   rw [rest_ix s a 1 h0 (by omega) (by omega)] at x1
   have x2:=ix (s.extract a.toNat s.size) 2 (by omega) (by omega)
   rw [rest_ix s a 2 h0 (by omega) (by omega)] at x2
   generalize byteAt s a=X at x0 cl hc bd hw hw'
   generalize byteAt s (a+1)=Y at x1 hy1
   generalize byteAt s (a+2)=Z at x2 hy2
   generalize s.extract a.toNat s.size=R at sl hz x0 x1 x2 g2
   have hz1:(0:Int)<(R.size:Int):=by omega
   have hz2:(1:Int)<(R.size:Int):=by omega
   have hz3:(2:Int)<(R.size:Int):=by omega
   have hv:IntKind.i64.wrap Y=Y:=by rw [IntKind.wrap_i64];omega
   have hv':wrap64 Y=Y:=by unfold wrap64;omega
   have hu:IntKind.i64.wrap Z=Z:=by rw [IntKind.wrap_i64];omega
   have hu':wrap64 Z=Z:=by unfold wrap64;omega
   have ha:wrap64 (Z*256)=Z*256:=by unfold wrap64;omega
   have hb:wrap64 (Z*256+Y)=Z*256+Y:=by unfold wrap64;omega
   have ha':IntKind.i64.wrap (Z*256)=Z*256:=by rw [IntKind.wrap_i64];omega
   have hb':IntKind.i64.wrap (Z*256+Y)=Z*256+Y:=by rw [IntKind.wrap_i64];omega
   have HE:Hid (Y+256*Z=Z*256+Y):=by show Y+256*Z=Z*256+Y;omega
   clear hz
   go_enter func36,ntmps36
   go_wp2_with fail
   refine (cl _ (HM.out.below (zAl _ _))).mono ?_
   rintro e w2 ⟨rfl,b2⟩
   have B2:Hid (Below _ _ w2):=b2
   have r0:=box b2 0 _ rfl
   have r1:=box b2 1 _ rfl
   have r2:=box b2 2 _ rfl
   have f0:=fro b2 0
   have f1:=fro b2 1
   have f2:=fro b2 2
   clear b2
   go_wp2
   refine wp_loop_rounds 3 ?_
   rw [rounds_succ]
   go_wp2
   rw [rounds_succ]
   go_wp2
   rw [rounds_succ]
   go_wp2
   exact bodyPost_ret (v:=.tuple #[.agg #[.int .i64 X,.bool false,.int .i64 (Z*256+Y)],.int .i64 3]) (by simp [results,results36,go_sem,r0,r1,r2]) rfl ⟨by rw [HE.out];rfl,((((unbox B2.out).setCell (p:=⟨w.heap.size,0,none⟩) (Nat.le_refl _) _).setCell (p:=⟨w.heap.size,1,none⟩) (Nat.le_refl _) _).setCell (p:=⟨w.heap.size,2,none⟩) (Nat.le_refl _) _)⟩
theorem implRead_any (s:ByteArray) (a:Int) (w:World) (hm:MaxL w) (hs:s.size<=1048576) :
  Calls prog 36 #[.string s,.int .i64 a] w fun e w'=>e=Tup (readI s a) (readN s a)/\Below w.heap.size w w':=by
 by_cases h:a<0 \/ s.size<=a
 ·have e1:readI s a=zeroI:=by unfold readI;rw [if_pos h]
  have e2:readN s a=0:=by unfold readN;rw [if_pos h]
  rw [e1,e2]
  exact impl_out s a w h
 ·by_cases hc:byteAt s a=203
  ·exact impl_cb s a w hs (by omega) (by omega) hc
  ·exact impl_n s a _ w hm hs (by omega) (by omega) hc rfl (lenC_cases _)
theorem readI_agg (s:ByteArray) (a:Int):∃ (c:Int) (b:Bool) (m:Int),readI s a=.agg #[.int .i64 c,.bool b,.int .i64 m]:=by
 unfold readI zeroI
 split
 ·exact ⟨_,_,_,rfl⟩
 split
 ·split
  ·exact ⟨_,_,_,rfl⟩
  ·exact ⟨_,_,_,rfl⟩
 split
 ·exact ⟨_,_,_,rfl⟩
 ·exact ⟨_,_,_,rfl⟩
end ReadJ
namespace DrawP
open Rdr (Rd Post)
open HolI DrawI Fixa
def Ins3 (e:Ending):Prop:=∃ (c:Int) (b:Bool) (m:Int),e=.returned (.agg #[.int .i64 c,.bool b,.int .i64 m])
theorem plain_any (rb:Nat) (w:World) (h:Rd w rb) :
  Calls prog 144 #[.pointer (some ⟨rb,0,none⟩)] w fun e w'=>Ins3 e/\Post w rb w':=by
 have H:Hid (Rd w rb):=h
 clear h
 go_enter func144,ntmps144
 go_wp2_with fail
 refine (ins_any _ _ ((Post.refl H.out).alloc _).1).mono ?_
 rintro e w1 ⟨⟨c,b,m,c0,c1,hm,rfl⟩,p1⟩
 have hlt:=H.out.lt
 have BR:Hid (Box w1 w.heap.size 0 false 0):=(Box.new w 0 false 0 _).post p1 (Nat.ne_of_gt hlt)
 have PW:Hid (Post w rb w1):=((Post.refl H.out).alloc _).trans p1
 have HN:Hid (rb<w.heap.size/\rb ≠ w1.heap.size/\w.heap.size<w1.heap.size):=⟨hlt,by have:=BR.out.lt;omega,BR.out.lt⟩
 have m1:m<=9223372036854775807:=by unfold I64 at hm;simp [Lit.wf] at hm;omega
 clear hlt p1 hm
 go_upto_region 2 with fail
 have BI:Hid (Box (w1.alloc (.cells #[.int .i64 c,.bool b,.int .i64 m] 59)) w1.heap.size c b m):=Box.new _ _ _ _ _
 have BR:Hid (Box (w1.alloc (.cells #[.int .i64 c,.bool b,.int .i64 m] 59)) w.heap.size 0 false 0):=BR.out.alloc _
 have PW:Hid (Post w rb (w1.alloc (.cells #[.int .i64 c,.bool b,.int .i64 m] 59))):=PW.out.alloc _
 generalize w1.alloc (.cells #[.int .i64 c,.bool b,.int .i64 m] 59)=w2 at BI BR PW |-
 generalize w1.heap.size=ib at BI HN |-
 obtain ⟨i0,i1,i2,iff⟩:=BI.out
 obtain ⟨r0,r1,r2,rf⟩:=BR.out
 have if0:=iff 0
 have if1:=iff 1
 have if2:=iff 2
 have rf0:=rf 0
 have rf1:=rf 1
 have rf2:=rf 2
 clear iff rf
 cases b with
 | true =>
  go_wp2
  exact bodyPost_ret (v:=.agg #[.int .i64 c,.bool true,.int .i64 m]) (by simp [results,results144,go_sem,r0,r1,r2]) rfl ⟨⟨_,_,_,rfl⟩,postSet (postSet (postSet PW.out HN.out.1 (p:=⟨w.heap.size,0,none⟩) (Nat.le_refl _) _) HN.out.1 (p:=⟨w.heap.size,1,none⟩) (Nat.le_refl _) _) HN.out.1 (p:=⟨w.heap.size,2,none⟩) (Nat.le_refl _) _⟩
 | false =>
  go_wp2_with fail
  clear i0 i1 i2 if0 if1 if2 r0 r1 r2 rf0 rf1 rf2
  refine (Rdr.once_any _ _ _ PW.out.1 (by decide) (by decide)).mono ?_
  rintro e w3 ⟨⟨q,rfl⟩,p3⟩
  have BI:Hid (Box w3 ib c false m):=BI.out.post p3 (Ne.symm HN.out.2.1)
  have BR:Hid (Box w3 w.heap.size 0 false 0):=BR.out.post p3 (Nat.ne_of_gt HN.out.1)
  have PW:Hid (Post w rb w3):=PW.out.trans p3
  clear p3
  obtain ⟨i0,i1,i2,iff⟩:=BI.out
  obtain ⟨r0,r1,r2,rf⟩:=BR.out
  have if0:=iff 0
  have if1:=iff 1
  have if2:=iff 2
  have rf0:=rf 0
  have rf1:=rf 1
  have rf2:=rf 2
  clear iff rf
  cases q with
  | true =>
   go_wp2
   exact bodyPost_ret (v:=.agg #[.int .i64 c,.bool false,.int .i64 m]) (by simp [results,results144,go_sem,r0,r1,r2]) rfl ⟨⟨_,_,_,rfl⟩,postSet (postSet (postSet PW.out HN.out.1 (p:=⟨w.heap.size,0,none⟩) (Nat.le_refl _) _) HN.out.1 (p:=⟨w.heap.size,1,none⟩) (Nat.le_refl _) _) HN.out.1 (p:=⟨w.heap.size,2,none⟩) (Nat.le_refl _) _⟩
  | false =>
   go_wp2_with fail
   clear i0 i1 i2 if0 if1 if2 r0 r1 r2 rf0 rf1 rf2
   refine (Rdr.below_any _ _ _ PW.out.1 (by decide) (by decide)).mono ?_
   rintro e w4 ⟨⟨y,y0,y1,rfl⟩,p4⟩
   have BI:Hid (Box w4 ib c false m):=BI.out.post p4 (Ne.symm HN.out.2.1)
   have BR:Hid (Box w4 w.heap.size 0 false 0):=BR.out.post p4 (Nat.ne_of_gt HN.out.1)
   have PW:Hid (Post w rb w4):=PW.out.trans p4
   clear p4
   obtain ⟨i0,i1,i2,iff⟩:=BI.out
   obtain ⟨r0,r1,r2,rf⟩:=BR.out
   have if0:=iff 0
   have if1:=iff 1
   have if2:=iff 2
   have rf0:=rf 0
   have rf1:=rf 1
   have rf2:=rf 2
   clear iff rf
   rcases (show y=0 \/ y=1 \/ y=2 \/ y=3 \/ y=4 \/ 5<=y from by omega) with rfl|rfl|rfl|rfl|rfl|hy
   ·go_wp2_with fail
    clear i0 i1 i2 if0 if1 if2 r0 r1 r2 rf0 rf1 rf2
    refine (Rdr.byte_any _ _ PW.out.1).mono ?_
    rintro e w5 ⟨⟨x,x0,x1,rfl⟩,p5⟩
    have BI:Hid (Box w5 ib c false m):=BI.out.post p5 (Ne.symm HN.out.2.1)
    have BR:Hid (Box w5 w.heap.size 0 false 0):=BR.out.post p5 (Nat.ne_of_gt HN.out.1)
    have PW:Hid (Post w rb w5):=PW.out.trans p5
    clear p5
    obtain ⟨i0,i1,i2,iff⟩:=BI.out
    obtain ⟨r0,r1,r2,rf⟩:=BR.out
    have if0:=iff 0
    have if1:=iff 1
    have if2:=iff 2
    have rf0:=rf 0
    have rf1:=rf 1
    have rf2:=rf 2
    clear iff rf
    go_wp2
    exact bodyPost_ret (v:=.agg #[.int .i64 62,.bool false,.int .i64 x]) (by simp [results,results144,go_sem,r0,r1,r2]) rfl ⟨⟨_,_,_,rfl⟩,postSet (postSet (postSet PW.out HN.out.1 (p:=⟨w.heap.size,0,none⟩) (Nat.le_refl _) _) HN.out.1 (p:=⟨w.heap.size,1,none⟩) (Nat.le_refl _) _) HN.out.1 (p:=⟨w.heap.size,2,none⟩) (Nat.le_refl _) _⟩
   ·go_wp2_with fail
    clear i0 i1 i2 if0 if1 if2 r0 r1 r2 rf0 rf1 rf2
    refine (Rdr.below_any _ _ _ (PW.out.alloc _).1 (by decide) (by decide)).mono ?_
    rintro e w5 ⟨⟨q,q0,q1,rfl⟩,p5⟩
    obtain ⟨z,hc⟩ : ∃ z:Int,w5.cell? ⟨w4.heap.size,q.toNat,none⟩=some (.int .i64 z):=by
     have hl:=PW.out.1.lt
     have e:∀ i:Nat,w5.cell? ⟨w4.heap.size,i,none⟩=#[Value.int .i64 49152,.int .i64 65408,.int .i64 256,.int .i64 128,.int .i64 40960][i]?:=fun i =>
      (World.cell?_of_block (a:=⟨w4.heap.size,i,none⟩) (p5.2.block _ (by simp) (fun e=>by have:w4.heap.size=rb:=Option.some.inj e;omega))).trans (World.cell?_alloc_new _ _ _ _)
     rcases (show q=0 \/ q=1 \/ q=2 \/ q=3 \/ q=4 from by omega) with rfl|rfl|rfl|rfl|rfl
     ·exact ⟨_,e 0⟩
     ·exact ⟨_,e 1⟩
     ·exact ⟨_,e 2⟩
     ·exact ⟨_,e 3⟩
     ·exact ⟨_,e 4⟩
    have BI:Hid (Box w5 ib c false m):=(BI.out.alloc _).post p5 (Ne.symm HN.out.2.1)
    have BR:Hid (Box w5 w.heap.size 0 false 0):=(BR.out.alloc _).post p5 (Nat.ne_of_gt HN.out.1)
    have PW:Hid (Post w rb w5):=(PW.out.alloc _).trans p5
    clear p5
    obtain ⟨i0,i1,i2,iff⟩:=BI.out
    obtain ⟨r0,r1,r2,rf⟩:=BR.out
    have if0:=iff 0
    have if1:=iff 1
    have if2:=iff 2
    have rf0:=rf 0
    have rf1:=rf 1
    have rf2:=rf 2
    clear iff rf
    go_wp2
    exact bodyPost_ret (v:=.agg #[.int .i64 33,.bool false,.int .i64 z]) (by simp [results,results144,go_sem,r0,r1,r2]) rfl ⟨⟨_,_,_,rfl⟩,postSet (postSet (postSet PW.out HN.out.1 (p:=⟨w.heap.size,0,none⟩) (Nat.le_refl _) _) HN.out.1 (p:=⟨w.heap.size,1,none⟩) (Nat.le_refl _) _) HN.out.1 (p:=⟨w.heap.size,2,none⟩) (Nat.le_refl _) _⟩
   ·go_wp2
    exact bodyPost_ret (v:=.agg #[.int .i64 119,.bool false,.int .i64 0]) (by simp [results,results144,go_sem,r0,r1,r2]) rfl ⟨⟨_,_,_,rfl⟩,postSet (postSet (postSet PW.out HN.out.1 (p:=⟨w.heap.size,0,none⟩) (Nat.le_refl _) _) HN.out.1 (p:=⟨w.heap.size,1,none⟩) (Nat.le_refl _) _) HN.out.1 (p:=⟨w.heap.size,2,none⟩) (Nat.le_refl _) _⟩
   ·go_wp2
    exact bodyPost_ret (v:=.agg #[.int .i64 224,.bool false,.int .i64 1]) (by simp [results,results144,go_sem,r0,r1,r2]) rfl ⟨⟨_,_,_,rfl⟩,postSet (postSet (postSet PW.out HN.out.1 (p:=⟨w.heap.size,0,none⟩) (Nat.le_refl _) _) HN.out.1 (p:=⟨w.heap.size,1,none⟩) (Nat.le_refl _) _) HN.out.1 (p:=⟨w.heap.size,2,none⟩) (Nat.le_refl _) _⟩
   ·go_wp2_with fail
    clear i0 i1 i2 if0 if1 if2 r0 r1 r2 rf0 rf1 rf2
    refine (Rdr.below_any _ _ _ (PW.out.alloc _).1 (by decide) (by decide)).mono ?_
    rintro e w5 ⟨⟨q,q0,q1,rfl⟩,p5⟩
    obtain ⟨z,hc⟩ : ∃ z:Int,w5.cell? ⟨w4.heap.size,q.toNat,none⟩=some (.int .i64 z):=by
     have hl:=PW.out.1.lt
     have e:∀ i:Nat,w5.cell? ⟨w4.heap.size,i,none⟩=#[Value.int .i64 49152,.int .i64 65281,.int .i64 130,.int .i64 10,.int .i64 300,.int .i64 40961][i]?:=fun i =>
      (World.cell?_of_block (a:=⟨w4.heap.size,i,none⟩) (p5.2.block _ (by simp) (fun e=>by have:w4.heap.size=rb:=Option.some.inj e;omega))).trans (World.cell?_alloc_new _ _ _ _)
     rcases (show q=0 \/ q=1 \/ q=2 \/ q=3 \/ q=4 \/ q=5 from by omega) with rfl|rfl|rfl|rfl|rfl|rfl
     ·exact ⟨_,e 0⟩
     ·exact ⟨_,e 1⟩
     ·exact ⟨_,e 2⟩
     ·exact ⟨_,e 3⟩
     ·exact ⟨_,e 4⟩
     ·exact ⟨_,e 5⟩
    have BI:Hid (Box w5 ib c false m):=(BI.out.alloc _).post p5 (Ne.symm HN.out.2.1)
    have BR:Hid (Box w5 w.heap.size 0 false 0):=(BR.out.alloc _).post p5 (Nat.ne_of_gt HN.out.1)
    have PW:Hid (Post w rb w5):=(PW.out.alloc _).trans p5
    clear p5
    obtain ⟨i0,i1,i2,iff⟩:=BI.out
    obtain ⟨r0,r1,r2,rf⟩:=BR.out
    have if0:=iff 0
    have if1:=iff 1
    have if2:=iff 2
    have rf0:=rf 0
    have rf1:=rf 1
    have rf2:=rf 2
    clear iff rf
    go_wp2
    exact bodyPost_ret (v:=.agg #[.int .i64 234,.bool false,.int .i64 z]) (by simp [results,results144,go_sem,r0,r1,r2]) rfl ⟨⟨_,_,_,rfl⟩,postSet (postSet (postSet PW.out HN.out.1 (p:=⟨w.heap.size,0,none⟩) (Nat.le_refl _) _) HN.out.1 (p:=⟨w.heap.size,1,none⟩) (Nat.le_refl _) _) HN.out.1 (p:=⟨w.heap.size,2,none⟩) (Nat.le_refl _) _⟩
   ·have hne:¬ ib=w.heap.size:=Nat.ne_of_gt HN.out.2.2
    have hne2:¬ w.heap.size=ib:=Nat.ne_of_lt HN.out.2.2
    by_cases h1:192<=c
    ·by_cases h2:511<m
     ·have h2d:decide (511<m)=true:=decide_eq_true h2
      go_upto_region 17 with fail
      clear i0 i1 i2 if0 if1 if2 r0 r1 r2 rf0 rf1 rf2
      obtain ⟨z,hz⟩ : ∃ z:Int,z=m%40:=⟨_,rfl⟩
      have BR:Hid (Box (w4.setCell ⟨ib,2,none⟩ (.int .i64 (m%40))) w.heap.size 0 false 0):=BR.out.other (Nat.ne_of_lt HN.out.2.2) _
      have BI:Hid (Box (w4.setCell ⟨ib,2,none⟩ (.int .i64 (m%40))) ib c false (m%40)):=BI.out.put _
      have PW:Hid (Post w rb (w4.setCell ⟨ib,2,none⟩ (.int .i64 (m%40)))):=postSet PW.out HN.out.1 (p:=⟨ib,2,none⟩) (Nat.le_of_lt HN.out.2.2) _
      generalize w4.setCell ⟨ib,2,none⟩ (.int .i64 (m%40))=w6 at BR BI PW |-
      obtain ⟨i0,i1,i2,iff⟩:=BI.out
      obtain ⟨r0,r1,r2,rf⟩:=BR.out
      have if0:=iff 0
      have if1:=iff 1
      have if2:=iff 2
      have rf0:=rf 0
      have rf1:=rf 1
      have rf2:=rf 2
      clear iff rf
      go_wp2
      exact bodyPost_ret (v:=.agg #[.int .i64 c,.bool false,.int .i64 (m%40)]) (by simp [results,results144,go_sem,r0,r1,r2]) rfl ⟨⟨_,_,_,rfl⟩,postSet (postSet (postSet PW.out HN.out.1 (p:=⟨w.heap.size,0,none⟩) (Nat.le_refl _) _) HN.out.1 (p:=⟨w.heap.size,1,none⟩) (Nat.le_refl _) _) HN.out.1 (p:=⟨w.heap.size,2,none⟩) (Nat.le_refl _) _⟩
     ·have h2d:decide (511<m)=false:=decide_eq_false h2
      go_wp2
      exact bodyPost_ret (v:=.agg #[.int .i64 c,.bool false,.int .i64 m]) (by simp [results,results144,go_sem,r0,r1,r2]) rfl ⟨⟨_,_,_,rfl⟩,postSet (postSet (postSet PW.out HN.out.1 (p:=⟨w.heap.size,0,none⟩) (Nat.le_refl _) _) HN.out.1 (p:=⟨w.heap.size,1,none⟩) (Nat.le_refl _) _) HN.out.1 (p:=⟨w.heap.size,2,none⟩) (Nat.le_refl _) _⟩
    ·go_wp2
     exact bodyPost_ret (v:=.agg #[.int .i64 c,.bool false,.int .i64 m]) (by simp [results,results144,go_sem,r0,r1,r2]) rfl ⟨⟨_,_,_,rfl⟩,postSet (postSet (postSet PW.out HN.out.1 (p:=⟨w.heap.size,0,none⟩) (Nat.le_refl _) _) HN.out.1 (p:=⟨w.heap.size,1,none⟩) (Nat.le_refl _) _) HN.out.1 (p:=⟨w.heap.size,2,none⟩) (Nat.le_refl _) _⟩
theorem Row.post {w w':World} {rb B:Nat} {l:List UInt8} (h:Row w B l) (p:Post w rb w') (hne:B ≠ rb):Row w' B l:=h.kept (p.2.block B h.lt (fun e=>hne (Option.some.inj e)))
theorem post_of_copy {w w1 w2:World} {rb B:Nat} (h:Post w rb w1) (hr:rb<B) (hw:w.heap.size<=B) (b:∀ (Q:Nat) (w0:World),Q<=B->Below Q w0 w1->Below Q w0 w2):Post w rb w2:=by
 have b1:=b B w1 (Nat.le_refl _) zRf
 exact ⟨h.1.kept fun k hk=>b1.block k (by omega),⟨b1.os.trans h.2.os,b1.tape.trans h.2.tape,b1.output.trans h.2.output,Nat.le_trans h.2.size b1.size,fun k hk hne=>(b1.block k (by omega)).trans (h.2.block k hk hne)⟩⟩
theorem slice_lh (B N:Nat) (a c:Nat) (h1:a<=c) (h2:c<=N) (h3:a<N) (w:World):(Instr.slice 48 (.slice (some ⟨B,0,none⟩) N N) (some (.int .i64 (a:Int))) (some (.int .i64 (c:Int))) none).run prog w=.ok (.slice (some ⟨B,a,none⟩) (c-a) (N-a)) w:=by
 have hz:=hsz w
 rw [run_slice_lh (P:=prog) (w:=w) 48 (some ⟨B,0,none⟩) N N underlying48 .i64 .i64 (a:Int) (c:Int) (by omega) (by omega) (by omega)]
 have hz':(sizeOf (prog.elem 48)).run prog w=.ok 1 w:=hz
 rw [hz']
 have e:(⟨B,0,none⟩ : Addr).add a=⟨B,a,none⟩:=by unfold Addr.add;split <;> simp_all
 simp [Result.andThen,sliced,e]
 omega
theorem slice_l (B N:Nat) (a:Nat) (h3:a<N) (w:World):(Instr.slice 48 (.slice (some ⟨B,0,none⟩) N N) (some (.int .i64 (a:Int))) none none).run prog w=.ok (.slice (some ⟨B,a,none⟩) (N-a) (N-a)) w:=by
 have hz:=hsz w
 rw [run_slice_l (P:=prog) (w:=w) 48 (some ⟨B,0,none⟩) N N underlying48 .i64 (a:Int) (by omega) (by omega)]
 have hz':(sizeOf (prog.elem 48)).run prog w=.ok 1 w:=hz
 rw [hz']
 have e:(⟨B,0,none⟩ : Addr).add a=⟨B,a,none⟩:=by unfold Addr.add;split <;> simp_all
 simp [Result.andThen,sliced,e]
 omega
theorem add_at (B j:Nat):(⟨B,1,none⟩ : Addr).add j=⟨B,j+1,none⟩:=by
 have e0:(⟨B,1,none⟩ : Addr).add j=⟨B,1+j,none⟩:=by unfold Addr.add;split <;> simp_all
 rw [e0,Nat.add_comm]
theorem str_tail {w:World} {B:Nat} {l:List UInt8} (h:Row w B l) (n cap:Nat) (hn:l.length=n+1):(convert 48 9 (.slice (some ⟨B,1,none⟩) n cap)).run prog w=.ok (.string ⟨l.tail.toArray⟩) w:=by
 have hl:l.tail.length=n:=by simp;omega
 subst hl
 exact run_convert_bytes_back (P:=prog) w 48 9 5 ⟨B,1,none⟩ cap l.tail underlying48 underlying5 underlying9 (fun j hj=>by
  have ea:=add_at B j
  have hj':j+1<l.length:=by omega
  rw [ea,cell_at h (j+1) hj']
  simp)
theorem rom_any (rb:Nat) (w:World) (h:Rd w rb) :
  Calls prog 100 #[.pointer (some ⟨rb,0,none⟩)] w fun e w'=>(∃ s:ByteArray,s.size<=1024/\e=.returned (.string s))/\Post w rb w':=by
 have H:Hid (Rd w rb):=h
 have hlt:=h.lt
 clear h
 go_enter func100,ntmps100
 go_wp2_with fail
 refine (Rdr.below_any _ _ _ H.out (by decide) (by decide)).mono ?_
 rintro e w1 ⟨⟨x,x0,x1,rfl⟩,p1⟩
 obtain ⟨n,hn⟩ : ∃ n:Nat,(n:Int)=2+x:=⟨(2+x).toNat,by omega⟩
 have n0:2<=n:=by omega
 have n1:n<=4:=by omega
 obtain ⟨o,hm⟩:=made (n*256) (by omega)
 have hm1:∀ u:World,(Instr.makeSlice 48 (.int .i64 ((2+x)*256)) (.int .i64 ((2+x)*256))).run prog u=.ok (.slice (some ⟨u.heap.size,0,none⟩) (n*256) (n*256)) (u.alloc o):=fun u=>by
  have:=(hm u).1
  rwa [show ((n*256:Nat):Int)=(2+x)*256 by omega] at this
 have R1:Hid (Row (w1.alloc o) w1.heap.size (List.replicate (n*256) 0)):=(hm w1).2
 have PW:Hid (Post w rb (w1.alloc o)):=p1.alloc _
 have HB:Hid (rb<w1.heap.size/\w.heap.size<=w1.heap.size):=⟨Nat.lt_of_lt_of_le hlt p1.2.size,p1.2.size⟩
 clear hm p1
 go_upto_region 3 with fail
 generalize w1.alloc o=w2 at R1 PW |-
 generalize w1.heap.size=B at R1 HB |-
 clear hm1
 go_wp2_with fail
 go_loopw [5] (fun k wr=>∃ (k':Nat) (l:List UInt8),k'<=n/\k=.int .i64 k'/\Hid (l.length=n*256)/\Hid (Row wr B l)/\Hid (Post w rb wr)) (fun k _=>n-(intOf k).toNat)
 case atStart=>exact ⟨0,_,Nat.zero_le _,rfl,by show _=_;simp,R1,PW⟩
 case round =>
 clear R1 PW
 obtain ⟨k,l,hk,rfl,LL,RR,PW⟩:=hrel
 by_cases hkn:k<n
 ·have hkx:(k:Int)<2+x:=by omega
  go_wp2_with fail
  refine (Rdr.below_any _ _ _ PW.out.1 (by decide) (by decide)).mono ?_
  rintro e w3 ⟨⟨y,y0,y1,rfl⟩,p3⟩
  have RR:Hid (Row w3 B l):=Row.post RR.out p3 (by have:=HB.out.1;omega)
  have PW:Hid (Post w rb w3):=PW.out.trans p3
  clear p3
  go_wp2_with fail
  go_loopw [6,7] (fun at_ i wr=>∃ (a' i':Nat) (l:List UInt8),i'<=16/\k*256<=a'/\a'+3*i'<=k*256+48/\at_=.int .i64 a'/\i=.int .i64 i'/\Hid (l.length=n*256)/\Hid (Row wr B l)/\Hid (Post w rb wr)) (fun _ i _=>(intOf i).toNat)
  case atStart=>exact ⟨k*256,(1+y).toNat,l,by omega,Nat.le_refl _,by omega,by first|rfl|(congr 1;omega),by first|rfl|(congr 1;omega),LL,RR,PW⟩
  case round =>
  clear LL RR PW
  obtain ⟨a,i,l,hi,ha0,ha1,rfl,rfl,LL,RR,PW⟩:=hrel
  by_cases hi0:0<i
  ·have hi0':(0:Int)<(i:Int):=by omega
   go_wp2_with fail
   refine (plain_any _ _ PW.out.1).mono ?_
   rintro e w4 ⟨⟨c,b,m,rfl⟩,p4⟩
   have RR:Hid (Row w4 B l):=Row.post RR.out p4 (by have:=HB.out.1;omega)
   have PW:Hid (Post w rb w4):=PW.out.trans p4
   clear p4
   go_wp2_with fail
   refine (bytes_any _ _ _ _).mono ?_
   rintro e w5 ⟨⟨s,hs,rfl⟩,b5⟩
   have RR:=zHd (RR.out.below b5)
   have PW:Hid (Post w rb w5):=PW.out.trans (postB PW.out.1 b5)
   clear b5
   have sl:=fun w=>slice_lh B (n*256) a ((k+1)*256) (by omega) (by omega) (by omega) w
   rw [show (((k+1)*256:Nat):Int)=((k:Int)+1)*256 by omega] at sl
   obtain ⟨w6,hc,r6,b6⟩:=copy_at RR.out a ((k+1)*256-a) (n*256-a) s (by omega) (by have:=LL.out;omega)
   have R6:Hid (Row w6 B (over l a s.data.toList)):=r6
   have L6:Hid ((over l a s.data.toList).length=n*256):=by
    show _=_
    rw [over_length _ _ _ (by have:=LL.out;have:s.data.toList.length=s.size:=Array.length_toList;omega)]
    exact LL.out
   have P6:Hid (Post w rb w6):=post_of_copy PW.out HB.out.1 HB.out.2 b6
   clear r6 b6 RR PW LL
   go_wp2_with fail
   go_roundw
   case rel=>exact ⟨a+s.size,i-1,_,by omega,by omega,by omega,by first|rfl|(congr 1;omega),by first|rfl|(congr 1;omega),L6,R6,P6⟩
   case measure=>simp [intOf];omega
  ·have hi0':¬ (0:Int)<(i:Int):=by omega
   go_wp2_with fail
   go_roundw
   case rel=>exact ⟨k+1,l,by omega,by go_num,LL,RR,PW⟩
   case measure=>simp [intOf];omega
 have hkx:¬ (k:Int)<2+x:=by omega
 go_wp2_with fail
 refine (Rdr.once_any _ _ _ PW.out.1 (by decide) (by decide)).mono ?_
 rintro e w7 ⟨⟨q,rfl⟩,p7⟩
 have RR:Hid (Row w7 B l):=Row.post RR.out p7 (by have:=HB.out.1;omega)
 have PW:Hid (Post w rb w7):=PW.out.trans p7
 clear p7
 cases q with
 | true =>
  have sl:=fun w=>slice_l B (n*256) 1 (by omega) w
  have sc:=str_tail RR.out (n*256-1) (n*256-1) (by have:=LL.out;omega)
  have HS:Hid ((⟨l.tail.toArray⟩ : ByteArray).size<=1024):=by show l.tail.toArray.size<=1024;have:=LL.out;simp;omega
  generalize (⟨l.tail.toArray⟩ : ByteArray)=S at sc HS
  go_wp2
  go_ret
  exact ⟨⟨S,HS.out,rfl⟩,PW.out⟩
 | false =>
  have sc:=str_at RR.out (n*256) (n*256) LL.out
  have HS:Hid ((⟨l.toArray⟩ : ByteArray).size<=1024):=by show l.toArray.size<=1024;have:=LL.out;simp;omega
  generalize (⟨l.toArray⟩ : ByteArray)=S at sc HS
  go_wp2
  go_ret
  exact ⟨⟨S,HS.out,rfl⟩,PW.out⟩
end DrawP
end Go.Proofs.YtnjolmbdbgbmbaaGreatDoor
