import Derived.Test.YteglcgnhhoenbaaGreatDoorP11
import Derived.Deep.Cut
import Derived.RegionTactic
import Derived.Test.YteglcgnhhoenbaaGreatDoorP03
import Derived.Test.YteglcgnhhoenbaaGreatDoorP04
import Derived.Test.YteglcgnhhoenbaaGreatDoorP05
set_option linter.all false
set_option maxRecDepth 20000
set_option maxHeartbeats 8000000
open Go.ChangeShapes Go.WideShapes Go.ChangeAt Go.RowKit
open Go.Proofs.Tryz
namespace Go.Proofs.YteglcgnhhoenbaaGreatDoor
namespace CartX
open Go.Deep
open Signed (inB ret_int ret_bool isByte_any l1In_any)
open Carts CartK CartL CartM CartP CartR CartW CartV
theorem l4Byte_any (n:Int) (w:World) :
  Calls prog 53 #[.int .i64 n] w fun e w'=>e=.returned (.bool (inB n 0 255))/\w'=w:=by
 go_enter func53,ntmps53
 go_wp2_with (go_at_call 42;refine (l1In_any _ _ _ _).mono ?_;rintro e w' ⟨rfl,rfl⟩)
 go_ret
 exact ⟨rfl,rfl⟩
end CartX
namespace CartY
open Go.Deep
open Signed (inB ret_int ret_bool isByte_any l1In_any)
open Carts CartK CartL CartM CartP CartR CartW CartV CartX
def wBank (kind bank addr v:Int):Int:=if 128<=addr/\addr<256 then (if kind=1 then bank1 v else if kind=2 then v else bank) else bank
def wRam (kind:Int) (ram:ByteArray) (rb:Int) (on:Bool) (mode addr v:Int):ByteArray:=if 40960<=addr/\addr<41024 then (if on=true then putB ram (ramQ kind rb mode*64+addr-40960) v else ram) else ram
def wRb (kind rb addr v:Int):Int:=if 256<=addr/\addr<384/\¬ kind=0 then v%4 else rb
def wOn (kind:Int) (on:Bool) (addr v:Int):Bool:=if addr<128/\¬ kind=0 then v%16 == 10 else on
def wMode (kind mode addr v:Int):Int:=if 384<=addr/\addr<512/\kind=1 then v%2 else mode
def wrote (rom:ByteArray) (kind bank:Int) (ram:ByteArray) (rb:Int) (on:Bool) (mode:Int) (addr v:Int):Value:=.agg #[.string rom,.int .i64 kind,.int .i64 (wBank kind bank addr v),.string (wRam kind ram rb on mode addr v),.int .i64 (wRb kind rb addr v),.bool (wOn kind on addr v),.int .i64 (wMode kind mode addr v)]
end CartY
namespace Mach
open Go.Deep
open Signed (inB ret_int ret_bool isByte_any l1In_any)
open CartL Outs
theorem toCpu_any (ra rf rB rC rD rE rH rL sp pc:Int) (ime hal:Bool) (w:World) :
  Calls prog 58 #[.agg #[.int .i64 ra,.int .i64 rf,.int .i64 rB,.int .i64 rC,.int .i64 rD,.int .i64 rE,.int .i64 rH,.int .i64 rL,.int .i64 sp,.int .i64 pc,.bool ime,.bool hal]] w fun e w'=>e=.returned (.agg #[.int .i64 ra,.int .i64 rf,.int .i64 rB,.int .i64 rC,.int .i64 rD,.int .i64 rE,.int .i64 rH,.int .i64 rL,.int .i64 sp,.int .i64 pc,.bool ime,.bool hal])/\w'=((w.alloc (.cells #[.int .i64 ra,.int .i64 rf,.int .i64 rB,.int .i64 rC,.int .i64 rD,.int .i64 rE,.int .i64 rH,.int .i64 rL,.int .i64 sp,.int .i64 pc,.bool ime,.bool hal] 48)).alloc (.cells #[.int .i64 ra,.int .i64 rf,.int .i64 rB,.int .i64 rC,.int .i64 rD,.int .i64 rE,.int .i64 rH,.int .i64 rL,.int .i64 sp,.int .i64 pc,.bool ime,.bool hal] 25)).alloc (.cells #[.int .i64 ra,.int .i64 rf,.int .i64 rB,.int .i64 rC,.int .i64 rD,.int .i64 rE,.int .i64 rH,.int .i64 rL,.int .i64 sp,.int .i64 pc,.bool ime,.bool hal] 25):=by
 go_enter func58,ntmps58
 go_wp2
 exact bodyPost_ret (v:=.agg #[.int .i64 ra,.int .i64 rf,.int .i64 rB,.int .i64 rC,.int .i64 rD,.int .i64 rE,.int .i64 rH,.int .i64 rL,.int .i64 sp,.int .i64 pc,.bool ime,.bool hal]) (by simp [results,results58,go_sem]) rfl ⟨rfl,rfl⟩
theorem eqCpu_any (ra rf rB rC rD rE rH rL sp pc:Int) (ime hal:Bool) (w:World) :
  Calls prog 62 #[.agg #[.int .i64 ra,.int .i64 rf,.int .i64 rB,.int .i64 rC,.int .i64 rD,.int .i64 rE,.int .i64 rH,.int .i64 rL,.int .i64 sp,.int .i64 pc,.bool ime,.bool hal],.agg #[.int .i64 ra,.int .i64 rf,.int .i64 rB,.int .i64 rC,.int .i64 rD,.int .i64 rE,.int .i64 rH,.int .i64 rL,.int .i64 sp,.int .i64 pc,.bool ime,.bool hal]] w fun e w'=>e=.returned (.bool true)/\w'=(w.alloc (.cells #[.int .i64 ra,.int .i64 rf,.int .i64 rB,.int .i64 rC,.int .i64 rD,.int .i64 rE,.int .i64 rH,.int .i64 rL,.int .i64 sp,.int .i64 pc,.bool ime,.bool hal] 25)).alloc (.cells #[.int .i64 ra,.int .i64 rf,.int .i64 rB,.int .i64 rC,.int .i64 rD,.int .i64 rE,.int .i64 rH,.int .i64 rL,.int .i64 sp,.int .i64 pc,.bool ime,.bool hal] 25):=by
 go_enter func62,ntmps62
 go_wp2
 go_ret
 exact ⟨rfl,rfl⟩
theorem szMachine_any (ra rf rB rC rD rE rH rL sp pc:Int) (ime hal:Bool) (rom:ByteArray) (kind bank:Int) (ram:ByteArray) (rb:Int) (on:Bool) (mode:Int) (work high:ByteArray) (po:Option Addr) (L:List Int) (cap:Nat) (cyc:Int) (w:World) (z1:rom.size<=maxLen) (z2:ram.size<=maxLen) (z3:work.size<=maxLen) (z4:high.size<=maxLen) (z5:L.length<=maxLen) :
  Calls prog 20 #[.agg #[.int .i64 ra,.int .i64 rf,.int .i64 rB,.int .i64 rC,.int .i64 rD,.int .i64 rE,.int .i64 rH,.int .i64 rL,.int .i64 sp,.int .i64 pc,.bool ime,.bool hal,.string rom,.int .i64 kind,.int .i64 bank,.string ram,.int .i64 rb,.bool on,.int .i64 mode,.string work,.string high,.slice po L.length cap,.int .i64 cyc],.int .i64 1048576] w fun e w'=>(∃ q:Int,e=.returned (.int .i64 q)/\-1<=q/\q<=1048576/\(0<=q->rom.size<=1048576/\ram.size<=1048576/\work.size<=1048576/\high.size<=1048576/\L.length<=1048576))/\∃ o1 o2,w'=(w.alloc o1).alloc o2:=by
 have cz:=fun w=>szCart_any rom kind bank ram rb on mode 1048576 w z1 z2 (by decide) (by decide)
 unfold maxLen at z1 z2 z3 z4
 obtain ⟨q,hq⟩ : ∃ q,q=left2 1048576 rom.size ram.size:=⟨_,rfl⟩
 have bq:q = -1 \/ (0<=q/\q<=1048576/\rom.size<=1048576/\ram.size<=1048576):=by
  rw [hq]
  unfold left2
  split
  ·exact .inl rfl
  split
  ·exact .inl rfl
  ·right;omega
 rw [<- hq] at cz
 clear hq z1 z2
 rcases bq with rfl|⟨q0,q1,s1,s2⟩
 ·go_enter func20,ntmps20
  go_wp2_with (go_at_call 56;refine (cz _).mono ?_;rintro e w' ⟨rfl,rfl⟩)
  go_ret
  exact ⟨⟨-1,rfl,by decide,by decide,fun h=>absurd h (by decide)⟩,_,_,rfl⟩
 by_cases h3:q-work.size<0
 ·go_enter func20,ntmps20
  go_wp2_with (go_at_call 56;refine (cz _).mono ?_;rintro e w' ⟨rfl,rfl⟩)
  go_ret
  exact ⟨⟨-1,rfl,by decide,by decide,fun h=>absurd h (by decide)⟩,_,_,rfl⟩
 by_cases h4:q-work.size-high.size<0
 ·go_enter func20,ntmps20
  go_wp2_with (go_at_call 56;refine (cz _).mono ?_;rintro e w' ⟨rfl,rfl⟩)
  go_ret
  exact ⟨⟨-1,rfl,by decide,by decide,fun h=>absurd h (by decide)⟩,_,_,rfl⟩
 have c5:=fun w=>szInt64S_any po cap L.length (q-work.size-high.size) w (by omega) (by omega) z5 _ rfl
 by_cases h5:q-work.size-high.size-L.length<0
 ·rw [if_pos h5] at c5
  clear z5
  go_enter func20,ntmps20
  go_wp2_with first|(go_at_call 56;refine (cz _).mono ?_;rintro e w' ⟨rfl,rfl⟩)|(go_at_call 57;refine (c5 _).mono ?_;rintro e w' ⟨rfl,rfl⟩)
  go_ret
  exact ⟨⟨-1,rfl,by decide,by decide,fun h=>absurd h (by decide)⟩,_,_,rfl⟩
 ·rw [if_neg h5] at c5
  obtain ⟨r,hr⟩ : ∃ r,r=q-work.size-high.size-(L.length:Int):=⟨_,rfl⟩
  rw [<- hr] at c5
  have r0:0<=r:=by omega
  have HR:Hid (r<=1048576/\work.size<=1048576/\high.size<=1048576/\L.length<=1048576):=⟨by omega,by omega,by omega,by omega⟩
  clear z5 hr h5
  go_enter func20,ntmps20
  go_wp2_with first|(go_at_call 56;refine (cz _).mono ?_;rintro e w' ⟨rfl,rfl⟩)|(go_at_call 57;refine (c5 _).mono ?_;rintro e w' ⟨rfl,rfl⟩)
  go_ret
  exact ⟨⟨r,rfl,by omega,HR.out.1,fun _=>⟨s1,s2,HR.out.2⟩⟩,_,_,rfl⟩
end Mach
namespace MachT
open Go.Deep
open Signed (inB ret_int ret_bool isByte_any l1In_any)
open CartL Outs Mach
theorem toCpu_ex (ra rf rB rC rD rE rH rL sp pc:Int) (ime hal:Bool) (w:World) :
  Calls prog 58 #[.agg #[.int .i64 ra,.int .i64 rf,.int .i64 rB,.int .i64 rC,.int .i64 rD,.int .i64 rE,.int .i64 rH,.int .i64 rL,.int .i64 sp,.int .i64 pc,.bool ime,.bool hal]] w fun e w'=>e=.returned (.agg #[.int .i64 ra,.int .i64 rf,.int .i64 rB,.int .i64 rC,.int .i64 rD,.int .i64 rE,.int .i64 rH,.int .i64 rL,.int .i64 sp,.int .i64 pc,.bool ime,.bool hal])/\∃ o1 o2 o3,w'=((w.alloc o1).alloc o2).alloc o3:=by
 refine (toCpu_any ra rf rB rC rD rE rH rL sp pc ime hal w).mono ?_
 rintro e w' ⟨rfl,rfl⟩
 exact ⟨rfl,_,_,_,rfl⟩
theorem eqCpu_ex (ra rf rB rC rD rE rH rL sp pc:Int) (ime hal:Bool) (w:World) :
  Calls prog 62 #[.agg #[.int .i64 ra,.int .i64 rf,.int .i64 rB,.int .i64 rC,.int .i64 rD,.int .i64 rE,.int .i64 rH,.int .i64 rL,.int .i64 sp,.int .i64 pc,.bool ime,.bool hal],.agg #[.int .i64 ra,.int .i64 rf,.int .i64 rB,.int .i64 rC,.int .i64 rD,.int .i64 rE,.int .i64 rH,.int .i64 rL,.int .i64 sp,.int .i64 pc,.bool ime,.bool hal]] w fun e w'=>e=.returned (.bool true)/\∃ o1 o2,w'=(w.alloc o1).alloc o2:=by
 refine (eqCpu_any ra rf rB rC rD rE rH rL sp pc ime hal w).mono ?_
 rintro e w' ⟨rfl,rfl⟩
 exact ⟨rfl,_,_,rfl⟩
theorem toCart_ex (rom:ByteArray) (kind bank:Int) (ram:ByteArray) (rb:Int) (on:Bool) (mode:Int) (w:World) :
  Calls prog 59 #[.agg #[.string rom,.int .i64 kind,.int .i64 bank,.string ram,.int .i64 rb,.bool on,.int .i64 mode]] w fun e w'=>e=.returned (.agg #[.string rom,.int .i64 kind,.int .i64 bank,.string ram,.int .i64 rb,.bool on,.int .i64 mode])/\∃ o1 o2 o3,w'=((w.alloc o1).alloc o2).alloc o3:=by
 refine (toCart_any rom kind bank ram rb on mode w).mono ?_
 rintro e w' ⟨rfl,rfl⟩
 exact ⟨rfl,_,_,_,rfl⟩
theorem eqCart_ex (rom:ByteArray) (kind bank:Int) (ram:ByteArray) (rb:Int) (on:Bool) (mode:Int) (w:World) :
  Calls prog 63 #[.agg #[.string rom,.int .i64 kind,.int .i64 bank,.string ram,.int .i64 rb,.bool on,.int .i64 mode],.agg #[.string rom,.int .i64 kind,.int .i64 bank,.string ram,.int .i64 rb,.bool on,.int .i64 mode]] w fun e w'=>e=.returned (.bool true)/\∃ o1 o2,w'=(w.alloc o1).alloc o2:=by
 refine (eqCart_any rom kind bank ram rb on mode w).mono ?_
 rintro e w' ⟨rfl,rfl⟩
 exact ⟨rfl,_,_,rfl⟩
theorem blk1 {w w':World} {a b c:Obj} (h:Below (((w.alloc a).alloc b).alloc c).heap.size (((w.alloc a).alloc b).alloc c) w'):w'.heap[w.heap.size]? = some a/\w'.heap[w.heap.size+1]? = some b/\w'.heap[w.heap.size+1+1]? = some c:=by
 have n:∀ (u:World) (o:Obj),(u.alloc o).heap[u.heap.size]? = some o:=fun u o=>by
  show (u.heap.push o)[u.heap.size]? = some o
  rw [Array.getElem?_push_size]
 have s:∀ (u:World) (o:Obj),(u.alloc o).heap.size=u.heap.size+1:=fun u o=>by
  show (u.heap.push o).size=_
  rw [Array.size_push]
 refine ⟨?_,?_,?_⟩
 ·rw [h.block _ (by rw [s,s,s];omega),Below.heap_alloc _ _ _ (by rw [s,s];omega),Below.heap_alloc _ _ _ (by rw [s];omega)]
  exact n w a
 ·rw [h.block _ (by rw [s,s,s];omega),Below.heap_alloc _ _ _ (by rw [s,s];omega)]
  have:=n (w.alloc a) b
  rwa [s] at this
 ·rw [h.block _ (by rw [s,s,s];omega)]
  have:=n ((w.alloc a).alloc b) c
  rwa [s,s] at this
theorem cel {W:World} {B:Nat} {vs:Array Value} {T:TypeId} (h:W.heap[B]? = some (.cells vs T)) (i:Nat) (v:Value) (hv:vs[i]? = some v):W.cell? ⟨B,i,none⟩=some v:=by
 unfold World.cell?
 rw [h]
 simpa using hv
theorem fro {W:World} {B:Nat} {vs:Array Value} {T:TypeId} (h:W.heap[B]? = some (.cells vs T)) (i:Nat):W.frozen? ⟨B,i,none⟩=false:=by
 unfold World.frozen?
 rw [h]
 simp
theorem heap_set {W:World} {B i:Nat} {vs:Array Value} {T:TypeId} {v:Value} (h:W.heap[B]? = some (.cells vs T)):(W.setCell ⟨B,i,none⟩ v).heap[B]? = some (.cells (vs.setIfInBounds i v) T):=by
 unfold World.setCell
 simp [Array.getElem?_modify,h]
theorem heap_row {W:World} {B:Nat} {vs cs:Array Value} {T:TypeId} (h:W.heap[B]? = some (.cells vs T)):(W.setRow B cs).heap[B]? = some (.cells cs T):=by
 unfold World.setRow
 simp [Array.getElem?_modify,h]
theorem heap_row_other {B B':Nat} {cs:Array Value} (hne:B ≠ B') (W:World):(W.setRow B cs).heap[B']? = W.heap[B']?:=by
 unfold World.setRow
 simp [Array.getElem?_modify,hne]
theorem size_row {B:Nat} {cs:Array Value} (W:World):(W.setRow B cs).heap.size=W.heap.size:=by
 unfold World.setRow
 simp
theorem below_row {n g:Nat} {a w:World} {cs:Array Value} (h:Below n a w) (hg:n<=g):Below n a (w.setRow g cs) :=
 h.trans ⟨rfl,rfl,rfl,by rw [size_row];exact Nat.le_refl _,fun k hk=>heap_row_other (by omega) w⟩
theorem heap_set_other {B B' i:Nat} {v:Value} (hne:B ≠ B') (W:World):(W.setCell ⟨B,i,none⟩ v).heap[B']? = W.heap[B']?:=Below.heap_setCell W ⟨B,i,none⟩ v B' (fun e=>hne e.symm)
theorem eqMachine_any (ra rf rB rC rD rE rH rL sp pc:Int) (ime hal:Bool) (rom:ByteArray) (kind bank:Int) (ram:ByteArray) (rb:Int) (on:Bool) (mode:Int) (work high:ByteArray) (po:Option Addr) (L:List Int) (cap:Nat) (cyc:Int) (po':Option Addr) (cap':Nat) (w:World) (hN:Row w po L) (hN':Row w po' L) (hlen:L.length<=1048576) :
  Calls prog 24 #[.agg #[.int .i64 ra,.int .i64 rf,.int .i64 rB,.int .i64 rC,.int .i64 rD,.int .i64 rE,.int .i64 rH,.int .i64 rL,.int .i64 sp,.int .i64 pc,.bool ime,.bool hal,.string rom,.int .i64 kind,.int .i64 bank,.string ram,.int .i64 rb,.bool on,.int .i64 mode,.string work,.string high,.slice po L.length cap,.int .i64 cyc],.agg #[.int .i64 ra,.int .i64 rf,.int .i64 rB,.int .i64 rC,.int .i64 rD,.int .i64 rE,.int .i64 rH,.int .i64 rL,.int .i64 sp,.int .i64 pc,.bool ime,.bool hal,.string rom,.int .i64 kind,.int .i64 bank,.string ram,.int .i64 rb,.bool on,.int .i64 mode,.string work,.string high,.slice po' L.length cap',.int .i64 cyc]] w fun e w'=>e=.returned (.bool true)/\∃ o1 o2 o3 o4 o5 o6 n,w'=((((((w.alloc o1).alloc o2).alloc o3).alloc o4).alloc o5).alloc o6).drewN n:=by
 have c:=fun W (h:Row W po L) (h':Row W po' L)=>eqInt64S_any po po' cap cap' L W h h' hlen
 have HB:Hid (Row w po L):=hN
 have HB':Hid (Row w po' L):=hN'
 clear hN hN' hlen
 obtain ⟨ln,hl⟩ : ∃ ln,ln=L.length:=⟨_,rfl⟩
 rw [<- hl] at c |-
 clear hl
 go_enter func24,ntmps24
 go_wp2_with first|(go_at_call 62;refine (eqCpu_ex _ _ _ _ _ _ _ _ _ _ _ _ _).mono ?_;rintro e w' ⟨rfl,p1,p2,rfl⟩)|(go_at_call 63;refine (eqCart_ex _ _ _ _ _ _ _ _).mono ?_;rintro e w' ⟨rfl,q1,q2,rfl⟩)
 refine Calls.mono (c _ ?_ ?_) ?_
 ·exact HB.out.below (by repeat (with_reducible first|exact zRf|refine zGr ?_ _|refine below_drewN ?_ _|refine Below.drew ?_))
 ·exact HB'.out.below (by repeat (with_reducible first|exact zRf|refine zGr ?_ _|refine below_drewN ?_ _|refine Below.drew ?_))
 rintro e w' ⟨rfl,n,rfl⟩
 clear c HB HB'
 go_wp2
 go_ret
 exact ⟨rfl,_,_,_,_,_,_,_,rfl⟩
end MachT
namespace CartS
open Go.Deep
open Signed (inB ret_int ret_bool isByte_any l1In_any)
open Carts CartK CartL CartM CartR
theorem sread2 (rom:ByteArray) (kind bank:Int) (ram:ByteArray) (rb:Int) (on:Bool) (mode:Int) (addr z q:Int) (w:World) (hs:rom.size<=maxLen) (s1:rom.size<=4096) (hz:banks rom.size=z) (z0:2<=z) (z1:z<=16) (b0:0<=bank) (b1:bank<=255) (hq:bank%z=q) (q0:0<=q) (q1:q<=15) (q2:q*256+256<=rom.size) (a0:256<=addr) (a1:addr<512) :
  Calls prog 151 #[.agg #[.string rom,.int .i64 kind,.int .i64 bank,.string ram,.int .i64 rb,.bool on,.int .i64 mode],.int .i64 addr] w fun e w'=>e=.returned (.int .i64 (byteAt rom (q*256+addr-256)))/\Below w.heap.size w w':=by
 have d1:inB addr 0 255=false:=decide_eq_false (by omega)
 have d2:inB addr 256 511=true:=decide_eq_true (by omega)
 have c3:=fun w=>l5Banks_any rom w hs
 rw [hz] at c3
 clear hz hs
 have i0:0<=q*256+addr-256:=by omega
 have i1:q*256+addr-256<(rom.size:Int):=by omega
 have e1:IntKind.i64.wrap (q*256)=q*256:=by rw [IntKind.wrap_i64];omega
 have e2:IntKind.i64.wrap (q*256+addr)=q*256+addr:=by rw [IntKind.wrap_i64];omega
 have e3:IntKind.i64.wrap (q*256+addr-256)=q*256+addr-256:=by rw [IntKind.wrap_i64];omega
 have z2:¬ z=0:=by omega
 have ht:bank.tmod z=q:=by rw [Int.tmod_eq_emod_of_nonneg b0];exact hq
 have i2:256<=q*256+addr:=by omega
 clear hq
 go_enter func151,ntmps151
 go_wp2_with (go_at_call 42;refine (l1In_any _ _ _ _).mono ?_;rintro e w' ⟨rfl,rfl⟩)
 go_quiet ((go_at_call 107;exact Calls.quiet_of_same (c3 _)))
 go_wp2
 go_ret
 exact ⟨ret_int (by first|exact byteAt_wrap (by omega)|exact byteAt_wrapk (by omega)),by repeat (with_reducible first|exact zRf|refine zGr ?_ _|refine below_drewN ?_ _|refine Below.drew ?_)⟩
theorem sread3 (rom:ByteArray) (kind bank:Int) (ram:ByteArray) (rb:Int) (mode:Int) (addr r:Int) (w:World) (sr:ram.size=256) (h0:0<=rb) (h1:rb<=3) (a0:40960<=addr) (a1:addr<41024) (hr:ramQ kind rb mode=r) :
  Calls prog 151 #[.agg #[.string rom,.int .i64 kind,.int .i64 bank,.string ram,.int .i64 rb,.bool true,.int .i64 mode],.int .i64 addr] w fun e w'=>e=.returned (.int .i64 (byteAt ram (r*64+addr-40960)))/\Below w.heap.size w w':=by
 have c:=fun w=>l5RamBank_any rom kind bank ram rb true mode w
 obtain ⟨r0,r1⟩:=ramQ_bd (kind:=kind) (mode:=mode) h0 h1
 rw [hr] at c r0 r1
 clear hr h0 h1
 have d1:inB addr 0 255=false:=decide_eq_false (by omega)
 have d2:inB addr 256 511=false:=decide_eq_false (by omega)
 have d3:inB addr 40960 41023=true:=decide_eq_true (by omega)
 have i0:0<=r*64+addr-40960:=by omega
 have i1:r*64+addr-40960<(ram.size:Int):=by omega
 have i2:40960<=r*64+addr:=by omega
 clear sr
 have e1:IntKind.i64.wrap (r*64)=r*64:=by rw [IntKind.wrap_i64];omega
 have e2:IntKind.i64.wrap (r*64+addr)=r*64+addr:=by rw [IntKind.wrap_i64];omega
 have e3:IntKind.i64.wrap (r*64+addr-40960)=r*64+addr-40960:=by rw [IntKind.wrap_i64];omega
 go_enter func151,ntmps151
 go_wp2_with (go_at_call 42;refine (l1In_any _ _ _ _).mono ?_;rintro e w' ⟨rfl,rfl⟩)
 go_region_with (go_at_call 233;refine (c _).mono ?_;rintro e w' ⟨rfl,rfl⟩)
 all_goals go_wp2
 all_goals go_ret
 all_goals exact ⟨ret_int (by first|exact byteAt_wrap (by omega)|exact byteAt_wrapk (by omega)),by repeat (with_reducible first|exact zRf|refine zGr ?_ _|refine below_drewN ?_ _|refine Below.drew ?_)⟩
theorem sread4 (rom:ByteArray) (kind bank:Int) (ram:ByteArray) (rb:Int) (on:Bool) (mode:Int) (addr:Int) (w:World) (a0:512<=addr) (h:on=false \/ addr<40960 \/ 41024<=addr) :
  Calls prog 151 #[.agg #[.string rom,.int .i64 kind,.int .i64 bank,.string ram,.int .i64 rb,.bool on,.int .i64 mode],.int .i64 addr] w fun e w'=>e=.returned (.int .i64 255)/\Below w.heap.size w w':=by
 have d1:inB addr 0 255=false:=decide_eq_false (by omega)
 have d2:inB addr 256 511=false:=decide_eq_false (by omega)
 cases on with
 | false =>
  go_enter func151,ntmps151
  go_wp2_with (go_at_call 42;refine (l1In_any _ _ _ _).mono ?_;rintro e w' ⟨rfl,rfl⟩)
  go_ret
  exact ⟨rfl,by repeat (with_reducible first|exact zRf|refine zGr ?_ _|refine below_drewN ?_ _|refine Below.drew ?_)⟩
 | true =>
  have d3:inB addr 40960 41023=false:=decide_eq_false (by simp at h;omega)
  go_enter func151,ntmps151
  go_wp2_with (go_at_call 42;refine (l1In_any _ _ _ _).mono ?_;rintro e w' ⟨rfl,rfl⟩)
  go_ret
  exact ⟨rfl,by repeat (with_reducible first|exact zRf|refine zGr ?_ _|refine below_drewN ?_ _|refine Below.drew ?_)⟩
theorem ret_i {a b:Int} {w:World} {w':World} {e:Ending} (h:a=b) (k:e=.returned (.int .i64 a)/\Below w.heap.size w w'):e=.returned (.int .i64 b)/\Below w.heap.size w w':=by rw [<- h];exact k
theorem implRead_right (rom:ByteArray) (kind bank:Int) (ram:ByteArray) (rb:Int) (on:Bool) (mode:Int) (addr:Int) (w:World) (h:okB rom kind bank ram rb on mode=true) (a0:0<=addr) :
  Calls prog 165 #[.agg #[.string rom,.int .i64 kind,.int .i64 bank,.string ram,.int .i64 rb,.bool on,.int .i64 mode],.int .i64 addr] w fun e w'=>e=.returned (.int .i64 (rdV rom (bank%banks rom.size) ram (ramQ kind rb mode) on addr))/\Below w.heap.size w w':=by
 obtain ⟨n,n0,n1,hn,hb,hm,b0,b1,r0,r1,m0,m1,hk⟩:=right rom kind bank ram rb on mode h
 rw [hb]
 have q0:0<=bank%(n:Int):=Int.emod_nonneg _ (by omega)
 have q1:bank%(n:Int)<n:=Int.emod_lt_of_pos _ (by omega)
 by_cases h1:addr<256
 ·exact (read1 rom kind bank ram rb on mode addr w (by omega) a0 h1).mono fun e w' k=>ret_i (by unfold rdV;rw [if_pos h1]) k
 by_cases h2:addr<512
 ·exact (read2 rom kind bank ram rb on mode addr _ w (by omega) q0 (by omega) (by omega) (by omega) h2 (fun w=>bankSeen_any rom kind bank ram rb on mode w n n0 n1 hn b0 b1)).mono fun e w' k=>ret_i (by unfold rdV;rw [if_neg h1,if_pos h2]) k
 by_cases h3:on=true/\40960<=addr/\addr<41024
 ·obtain ⟨rfl,h4,h5⟩:=h3
  exact (read3 rom kind bank ram rb mode addr _ w hm r0 r1 m0 m1 (by simp at hk;omega) h4 h5 rfl).mono fun e w' k=>ret_i (by unfold rdV;rw [if_neg h1,if_neg h2,if_pos ⟨rfl,h4,h5⟩]) k
 ·exact (read4 rom kind bank ram rb on mode addr w (by omega) (by cases on <;> simp at h3 |-;omega)).mono fun e w' k=>ret_i (by unfold rdV;rw [if_neg h1,if_neg h2,if_neg h3]) k
theorem specRead_right (rom:ByteArray) (kind bank:Int) (ram:ByteArray) (rb:Int) (on:Bool) (mode:Int) (addr:Int) (w:World) (hs:rom.size<=maxLen) (h:okB rom kind bank ram rb on mode=true) (a0:0<=addr) :
  Calls prog 151 #[.agg #[.string rom,.int .i64 kind,.int .i64 bank,.string ram,.int .i64 rb,.bool on,.int .i64 mode],.int .i64 addr] w fun e w'=>e=.returned (.int .i64 (rdV rom (bank%banks rom.size) ram (ramQ kind rb mode) on addr))/\Below w.heap.size w w':=by
 obtain ⟨n,n0,n1,hn,hb,hm,b0,b1,r0,r1,m0,m1,hk⟩:=right rom kind bank ram rb on mode h
 rw [hb]
 have q0:0<=bank%(n:Int):=Int.emod_nonneg _ (by omega)
 have q1:bank%(n:Int)<n:=Int.emod_lt_of_pos _ (by omega)
 by_cases h1:addr<256
 ·exact (sread1 rom kind bank ram rb on mode addr w (by omega) a0 h1).mono fun e w' k=>ret_i (by unfold rdV;rw [if_pos h1]) k
 by_cases h2:addr<512
 ·exact (sread2 rom kind bank ram rb on mode addr n _ w hs (by omega) hb (by omega) (by omega) b0 b1 rfl q0 (by omega) (by omega) (by omega) h2).mono fun e w' k=>ret_i (by unfold rdV;rw [if_neg h1,if_pos h2]) k
 by_cases h3:on=true/\40960<=addr/\addr<41024
 ·obtain ⟨rfl,h4,h5⟩:=h3
  exact (sread3 rom kind bank ram rb mode addr _ w hm r0 r1 h4 h5 rfl).mono fun e w' k=>ret_i (by unfold rdV;rw [if_neg h1,if_neg h2,if_pos ⟨rfl,h4,h5⟩]) k
 ·exact (sread4 rom kind bank ram rb on mode addr w (by omega) (by cases on <;> simp at h3 |-;omega)).mono fun e w' k=>ret_i (by unfold rdV;rw [if_neg h1,if_neg h2,if_neg h3]) k
end CartS
namespace MachO
open Go.Deep
open Signed (inB ret_int ret_bool isByte_any l1In_any)
open Carts CartK CartL CartR CartX Outs Mach MachT
def byteL (L:List Int):Bool:=L.all fun n=>inB n 0 255
theorem byteL_no {L:List Int} {k:Nat} (h:k<L.length) (hn:inB L[k] 0 255=false):byteL L=false:=by
 unfold byteL
 rw [List.all_eq_false]
 exact ⟨L[k],List.getElem_mem h,by rw [hn];decide⟩
theorem byteL_yes {L:List Int} (h:∀ k (hk:k<L.length),inB L[k] 0 255=true):byteL L=true:=by
 unfold byteL
 rw [List.all_eq_true]
 intro x hx
 obtain ⟨k,hk,rfl⟩:=List.getElem_of_mem hx
 exact h k hk
theorem allBytes_any (a:Option Addr) (cap:Nat) (L:List Int) (w:World) (hN:Row w a L) (hlen:L.length<=1048576) :
  Calls prog 78 #[.slice a L.length cap] w fun e w'=>e=.returned (.bool (byteL L))/\w'=w:=by
 obtain ⟨len,hl⟩ : ∃ len,len=L.length:=⟨_,rfl⟩
 have HL:Hid (len=L.length):=hl
 obtain ⟨r,hr⟩ : ∃ r,r=byteL L:=⟨_,rfl⟩
 have HR:Hid (r=byteL L):=hr
 rw [<- hl] at hlen |-
 rw [<- hr]
 clear hl hr
 go_enter func78,ntmps78
 go_wp2
 go_loopw [4,7] (fun n i wr=>∃ k:Nat,k<=len/\i=.int .i64 k/\wr=w/\Hid (∀ j (hj:j<L.length),j<k->inB L[j] 0 255=true)) (fun _ i _=>len-(intOf i).toNat)
 case atStart=>exact ⟨0,Nat.zero_le _,rfl,rfl,fun j _ h=>absurd h (Nat.not_lt_zero _)⟩
 case round =>
  obtain ⟨k,hk,rfl,rfl,hall⟩:=hrel
  by_cases hlt:k<len
  ·have hkL:k<L.length:=by have:=HL.out;omega
   rcases hN with hnil|⟨b,off,rfl,hb,hc⟩
   ·exfalso;rw [hnil] at hkL;exact absurd hkL (by simp)
   have c0:=hc k hkL
   clear hc
   have hno:Hid (inB L[k] 0 255=false->r=false):=fun h=>by rw [HR.out];exact byteL_no hkL h
   have hgo:Hid (inB L[k] 0 255=true->∀ j (hj:j<L.length),j<k+1->inB L[j] 0 255=true):=fun h j hj hjk=>by
    by_cases e:j=k
    ·subst e;exact h
    ·exact hall.out j hj (by omega)
   generalize L[k]=n at c0 hno hgo
   have ci:=fun w=>isByte_any n w
   cases hb2:inB n 0 255 with
   | false =>
    rw [hb2] at ci
    have er:=hno.out hb2
    subst er
    clear hb2 hno hgo hall
    go_wp2_with (go_at_call 115;refine (ci _).mono ?_;rintro e w' ⟨rfl,rfl⟩)
    go_ret
    exact ⟨rfl,rfl⟩
   | true =>
    rw [hb2] at ci
    have HG:Hid (∀ j (hj:j<L.length),j<k+1->inB L[j] 0 255=true):=hgo.out hb2
    clear hb2 hno hgo hall
    go_wp2_with (go_at_call 115;refine (ci _).mono ?_;rintro e w' ⟨rfl,rfl⟩)
    go_roundw
    case rel=>exact ⟨k+1,by omega,by go_num,trivial,HG.out⟩
    case measure=>simp [intOf];omega
  ·have er:r=true:=by
    rw [HR.out]
    exact byteL_yes fun j hj=>hall.out j hj (by have:=HL.out;omega)
   subst er
   clear hN hall
   go_wp2
   go_ret
   exact ⟨rfl,rfl⟩
def regL (ra rf rB rC rD rE rH rL:Int):List Int:=[ra,rf,rB,rC,rD,rE,rH,rL]
def cpuB (ra rf rB rC rD rE rH rL sp pc:Int):Bool:=byteL (regL ra rf rB rC rD rE rH rL) && rf%16 == 0 && inB sp 0 65535 && inB pc 0 65535
theorem andNot_byte:∀ n:Fin 256,(bits BinOp.andNot IntKind.i64 (n.val:Int) 240 == 0)=((n.val:Int)%16 == 0):=by decide +kernel
theorem regL_rf {ra rf rB rC rD rE rH rL:Int} (h:byteL (regL ra rf rB rC rD rE rH rL)=true):0<=rf/\rf<=255:=by
 unfold byteL regL at h
 rw [List.all_eq_true] at h
 exact of_decide_eq_true (h rf (by simp))
theorem reg_row (w:World) (ra rf rB rC rD rE rH rL:Int) (T:TypeId):Row (w.alloc (.cells #[.int .i64 ra,.int .i64 rf,.int .i64 rB,.int .i64 rC,.int .i64 rD,.int .i64 rE,.int .i64 rH,.int .i64 rL] T)) (some ⟨w.heap.size,0,none⟩) (regL ra rf rB rC rD rE rH rL):=by
 refine .inr ⟨w.heap.size,0,rfl,by simp,fun i hi=>?_⟩
 rw [Nat.zero_add,World.cell?_alloc_new]
 have hi':i<8:=hi
 match i,hi' with
 | 0,_=>rfl
 | 1,_=>rfl
 | 2,_=>rfl
 | 3,_=>rfl
 | 4,_=>rfl
 | 5,_=>rfl
 | 6,_=>rfl
 | 7,_=>rfl
theorem cpuOk_any (ra rf rB rC rD rE rH rL sp pc:Int) (ime hal:Bool) (w:World) :
  Calls prog 76 #[.agg #[.int .i64 ra,.int .i64 rf,.int .i64 rB,.int .i64 rC,.int .i64 rD,.int .i64 rE,.int .i64 rH,.int .i64 rL,.int .i64 sp,.int .i64 pc,.bool ime,.bool hal]] w fun e w'=>e=.returned (.bool (cpuB ra rf rB rC rD rE rH rL sp pc))/\∃ o1 o2,w'=(w.alloc o1).alloc o2:=by
 have ca:∀ (W:World) (p:Option Addr),Row W p (regL ra rf rB rC rD rE rH rL)->Calls prog 78 #[.slice p 8 8] W fun e w'=>e=.returned (.bool (byteL (regL ra rf rB rC rD rE rH rL)))/\w'=W:=fun W p h=>allBytes_any p 8 (regL ra rf rB rC rD rE rH rL) W h (by simp [regL])
 have HR:Hid (∀ (u:World) (o:Obj) (T:TypeId),Row ((u.alloc o).alloc (.cells #[.int .i64 ra,.int .i64 rf,.int .i64 rB,.int .i64 rC,.int .i64 rD,.int .i64 rE,.int .i64 rH,.int .i64 rL] T)) (some ⟨u.heap.size+1,0,none⟩) (regL ra rf rB rC rD rE rH rL)):=fun u o T=>by
  have h:=reg_row (u.alloc o) ra rf rB rC rD rE rH rL T
  simp only [World.size_alloc] at h
  exact h
 have cs:=fun w=>isWord_any sp w
 have cp:=fun w=>isWord_any pc w
 obtain ⟨b1,h1⟩ : ∃ b,byteL (regL ra rf rB rC rD rE rH rL)=b:=⟨_,rfl⟩
 obtain ⟨b2,h2⟩ : ∃ b,(rf%16 == 0)=b:=⟨_,rfl⟩
 obtain ⟨b3,h3⟩ : ∃ b,inB sp 0 65535=b:=⟨_,rfl⟩
 obtain ⟨b4,h4⟩ : ∃ b,inB pc 0 65535=b:=⟨_,rfl⟩
 have ev:cpuB ra rf rB rC rD rE rH rL sp pc=(b1 && b2 && b3 && b4):=by unfold cpuB;rw [h1,h2,h3,h4]
 have e2:b1=true->(bits BinOp.andNot IntKind.i64 rf 240 == 0)=b2:=by
  rintro rfl
  obtain ⟨g0,g1⟩:=regL_rf h1
  have:=andNot_byte ⟨rf.toNat,by omega⟩
  simp only [Int.toNat_of_nonneg g0] at this
  rw [this,h2]
 rw [ev]
 rw [h1] at ca
 rw [h3] at cs
 rw [h4] at cp
 clear ev h1 h2 h3 h4
 cases b1
 ·clear e2
  go_enter func76,ntmps76
  go_wp2_with fail
  refine Calls.mono (ca _ _ ?_) ?_
  ·exact HR.out _ _ _
  rintro e w' ⟨rfl,rfl⟩
  go_wp2
  go_ret
  exact ⟨rfl,_,_,rfl⟩
 ·have e2:=e2 rfl
  cases b2 <;> cases b3 <;> cases b4
  all_goals
   go_enter func76,ntmps76
   go_wp2_with fail
   refine Calls.mono (ca _ _ ?_) ?_
   ·exact HR.out _ _ _
   rintro e w' ⟨rfl,rfl⟩
   go_wp2_with first|(go_at_call_of 112 sp;refine (cs _).mono ?_;rintro e w' ⟨rfl,rfl⟩)|(go_at_call_of 112 pc;refine (cp _).mono ?_;rintro e w' ⟨rfl,rfl⟩)
   go_ret
   exact ⟨rfl,_,_,rfl⟩
end MachO
namespace MachP
open Go.Deep
open CartL Outs
theorem cellsU:prog.cellsOf 48=12:=by kernel_rfl
theorem cellsM:prog.cellsOf 51=23:=by kernel_rfl
theorem cellsO:prog.cellsOf 28=1:=by kernel_rfl
theorem fieldsU:∃ f0 f1 f2 f3 f4 f5 f6 f7 f8 f9 f10 f11:Field,prog.underlying 48=some (.struct #[f0,f1,f2,f3,f4,f5,f6,f7,f8,f9,f10,f11])/\(f0.type=2/\f0.offset=0)/\(f1.type=2/\f1.offset=1)/\(f2.type=2/\f2.offset=2)/\(f3.type=2/\f3.offset=3)/\(f4.type=2/\f4.offset=4)/\(f5.type=2/\f5.offset=5)/\(f6.type=2/\f6.offset=6)/\(f7.type=2/\f7.offset=7)/\(f8.type=2/\f8.offset=8)/\(f9.type=2/\f9.offset=9)/\(f10.type=4/\f10.offset=10)/\(f11.type=4/\f11.offset=11) :=
 ⟨_,_,_,_,_,_,_,_,_,_,_,_,underlying48,⟨rfl,rfl⟩,⟨rfl,rfl⟩,⟨rfl,rfl⟩,⟨rfl,rfl⟩,⟨rfl,rfl⟩,⟨rfl,rfl⟩,⟨rfl,rfl⟩,⟨rfl,rfl⟩,⟨rfl,rfl⟩,⟨rfl,rfl⟩,⟨rfl,rfl⟩,⟨rfl,rfl⟩⟩
theorem cpu_of {H:Type} {enc:TypeId × Value->H} {w:World} {base:Nat} {spare:Nat->Bool} {held:Bool} {fuel:Nat} {cs:List Value} {x:DataW H × List MemPlace}
  (h:DataW.trod enc prog w base spare held fuel 48 cs=some x) :
  ∃ (ra rf rB rC rD rE rH rL sp pc:Int) (ime hal:Bool),cs=[.int .i64 ra,.int .i64 rf,.int .i64 rB,.int .i64 rC,.int .i64 rD,.int .i64 rE,.int .i64 rH,.int .i64 rL,.int .i64 sp,.int .i64 pc,.bool ime,.bool hal]:=by
 obtain ⟨f0,f1,f2,f3,f4,f5,f6,f7,f8,f9,f10,f11,hf,⟨t0,o0⟩,⟨t1,o1⟩,⟨t2,o2⟩,⟨t3,o3⟩,⟨t4,o4⟩,⟨t5,o5⟩,⟨t6,o6⟩,⟨t7,o7⟩,⟨t8,o8⟩,⟨t9,o9⟩,⟨t10,o10⟩,⟨t11,o11⟩⟩:=fieldsU
 obtain ⟨xs,n,_,_,hl,hlen,g⟩:=DataW.trod_struct hf h
 rw [cellsU] at hl
 match cs,hl,xs,hlen with
 | [v0,v1,v2,v3,v4,v5,v6,v7,v8,v9,v10,v11],_,[y0,y1,y2,y3,y4,y5,y6,y7,y8,y9,y10,y11],_ =>
  have g0:=g 0 f0 rfl
  have g1:=g 1 f1 rfl
  have g2:=g 2 f2 rfl
  have g3:=g 3 f3 rfl
  have g4:=g 4 f4 rfl
  have g5:=g 5 f5 rfl
  have g6:=g 6 f6 rfl
  have g7:=g 7 f7 rfl
  have g8:=g 8 f8 rfl
  have g9:=g 9 f9 rfl
  have g10:=g 10 f10 rfl
  have g11:=g 11 f11 rfl
  rw [t0,o0,CartL.cells2] at g0
  rw [t1,o1,CartL.cells2] at g1
  rw [t2,o2,CartL.cells2] at g2
  rw [t3,o3,CartL.cells2] at g3
  rw [t4,o4,CartL.cells2] at g4
  rw [t5,o5,CartL.cells2] at g5
  rw [t6,o6,CartL.cells2] at g6
  rw [t7,o7,CartL.cells2] at g7
  rw [t8,o8,CartL.cells2] at g8
  rw [t9,o9,CartL.cells2] at g9
  rw [t10,o10,CartL.cells4] at g10
  rw [t11,o11,CartL.cells4] at g11
  obtain ⟨n0,e0,_⟩:=DataW.trod_int underlying2 g0
  obtain ⟨n1,e1,_⟩:=DataW.trod_int underlying2 g1
  obtain ⟨n2,e2,_⟩:=DataW.trod_int underlying2 g2
  obtain ⟨n3,e3,_⟩:=DataW.trod_int underlying2 g3
  obtain ⟨n4,e4,_⟩:=DataW.trod_int underlying2 g4
  obtain ⟨n5,e5,_⟩:=DataW.trod_int underlying2 g5
  obtain ⟨n6,e6,_⟩:=DataW.trod_int underlying2 g6
  obtain ⟨n7,e7,_⟩:=DataW.trod_int underlying2 g7
  obtain ⟨n8,e8,_⟩:=DataW.trod_int underlying2 g8
  obtain ⟨n9,e9,_⟩:=DataW.trod_int underlying2 g9
  obtain ⟨b10,e10,_⟩:=DataW.trod_bool underlying4 g10
  obtain ⟨b11,e11,_⟩:=DataW.trod_bool underlying4 g11
  simp at e0 e1 e2 e3 e4 e5 e6 e7 e8 e9 e10 e11
  subst e0 e1 e2 e3 e4 e5 e6 e7 e8 e9 e10 e11
  exact ⟨n0,n1,n2,n3,n4,n5,n6,n7,n8,n9,b10,b11,rfl⟩
theorem fieldsM:∃ f0 f1 f2 f3 f4 f5:Field,prog.underlying 51=some (.struct #[f0,f1,f2,f3,f4,f5])/\(f0.type=48/\f0.offset=0)/\(f1.type=49/\f1.offset=12)/\(f2.type=9/\f2.offset=19)/\(f3.type=9/\f3.offset=20)/\(f4.type=28/\f4.offset=21)/\(f5.type=2/\f5.offset=22) :=
 ⟨_,_,_,_,_,_,underlying51,⟨rfl,rfl⟩,⟨rfl,rfl⟩,⟨rfl,rfl⟩,⟨rfl,rfl⟩,⟨rfl,rfl⟩,⟨rfl,rfl⟩⟩
theorem machine_of {H:Type} {enc:TypeId × Value->H} {w:World} {base:Nat} {spare:Nat->Bool} {held:Bool} {fuel:Nat} {cs:List Value} {x:DataW H × List MemPlace}
  (h:DataW.trod enc prog w base spare held fuel 51 cs=some x) :
  ∃ (ra rf rB rC rD rE rH rL sp pc:Int) (ime hal:Bool) (rom:ByteArray) (kind bank:Int) (ram:ByteArray) (rb:Int) (on:Bool) (mode:Int) (work high:ByteArray) (po:Option Addr) (L:List Int) (cap:Nat) (cyc:Int),
   cs=[.int .i64 ra,.int .i64 rf,.int .i64 rB,.int .i64 rC,.int .i64 rD,.int .i64 rE,.int .i64 rH,.int .i64 rL,.int .i64 sp,.int .i64 pc,.bool ime,.bool hal,.string rom,.int .i64 kind,.int .i64 bank,.string ram,.int .i64 rb,.bool on,.int .i64 mode,.string work,.string high,.slice po L.length cap,.int .i64 cyc] /\
   rom.size<=maxLen/\ram.size<=maxLen/\work.size<=maxLen/\high.size<=maxLen/\L.length<=maxLen/\Row w po L:=by
 obtain ⟨f0,f1,f2,f3,f4,f5,hf,⟨t0,o0⟩,⟨t1,o1⟩,⟨t2,o2⟩,⟨t3,o3⟩,⟨t4,o4⟩,⟨t5,o5⟩⟩:=fieldsM
 obtain ⟨xs,n,_,_,hl,hlen,g⟩:=DataW.trod_struct hf h
 rw [cellsM] at hl
 match cs,hl,xs,hlen with
 | [v0,v1,v2,v3,v4,v5,v6,v7,v8,v9,v10,v11,v12,v13,v14,v15,v16,v17,v18,v19,v20,v21,v22],_,[y0,y1,y2,y3,y4,y5],_ =>
  have g0:=g 0 f0 rfl
  have g1:=g 1 f1 rfl
  have g2:=g 2 f2 rfl
  have g3:=g 3 f3 rfl
  have g4:=g 4 f4 rfl
  have g5:=g 5 f5 rfl
  rw [t0,o0,cellsU] at g0
  rw [t1,o1,cellsC] at g1
  rw [t2,o2,CartL.cells9] at g2
  rw [t3,o3,CartL.cells9] at g3
  rw [t4,o4,cellsO] at g4
  rw [t5,o5,CartL.cells2] at g5
  obtain ⟨ra,rf,rB,rC,rD,rE,rH,rL,sp,pc,ime,hal,e0⟩:=cpu_of g0
  obtain ⟨rom,kind,bank,ram,rb,on,mode,e1,z1,z2⟩:=cart_of g1
  obtain ⟨work,e2,_,z3⟩:=DataW.trod_string underlying9 g2
  obtain ⟨high,e3,_,z4⟩:=DataW.trod_string underlying9 g3
  obtain ⟨po,len,cap,L,e4,hL,z5,hr⟩:=row_of g4
  obtain ⟨cyc,e5,_⟩:=DataW.trod_int underlying2 g5
  simp at e0 e1 e2 e3 e4 e5
  obtain ⟨rfl,rfl,rfl,rfl,rfl,rfl,rfl,rfl,rfl,rfl,rfl,rfl⟩:=e0
  obtain ⟨rfl,rfl,rfl,rfl,rfl,rfl,rfl⟩:=e1
  subst e2 e3 e4 e5 hL
  exact ⟨ra,rf,rB,rC,rD,rE,rH,rL,sp,pc,ime,hal,rom,kind,bank,ram,rb,on,mode,work,high,po,L,cap,cyc,rfl,z1,z2,z3,z4,z5,hr⟩
theorem any_cons {P:Program} {ops:Array Oper} {Q:Exit->Act->World->Prop} {md:Region.Mode} {fuel:Nat} {listed:Array Bool} {a:Act} {w:World} {i:Nat} {o:Oper} {rs:List Nat} (ho:ops[i]? = some o) (hg:o.guard=none)
  (h:∀ K':Act->World->Prop,(∀ a w,wpAny P md ops Q fuel (listed.setIfInBounds i true) a w->K' a w)->Oper.wp P o a w K' Q) (hs:AllReady P md ops Q fuel listed a w rs):AllReady P md ops Q fuel listed a w (i :: rs) :=
 AllReady.cons ho (fun K hK=>by simp only [Region.wanted,hg,if_true];exact h K hK) hs
end MachP
namespace Tmpl
open Tabs
def tmplS (code:Int) (cb:Bool):ByteArray :=
 if cb=true then
  (if code / 64=0 then at8 turns (code / 8%8) ++ ⟨#[32]⟩ ++ at8 regs (code%8)
  else at8 bitW (code / 64) ++ at8 decs (code / 8%8) ++ ⟨#[44]⟩ ++ at8 regs (code%8))
 else if code / 64=0 then LowT.lowS (code / 8%8) (code%8)
 else if code=118 then ⟨#[104,97,108,116]⟩
 else if code / 64=1 then ⟨#[108,100,32]⟩ ++ at8 regs (code / 8%8) ++ ⟨#[44]⟩ ++ at8 regs (code%8)
 else if code / 64=2 then at8 alus (code / 8%8) ++ ⟨#[32,97,44]⟩ ++ at8 regs (code%8)
 else TopT.topS (code / 8%8) (code%8)
theorem low_t (code y z:Int) (w:World) (hx:code / 64=0) (hy:code / 8%8=y) (hz:code%8=z) (h0:0<=code) (h1:code<=255) :
  Calls prog 103 #[.int .i64 code,.bool false] w fun e w'=>e=.returned (.string (LowT.lowS y z))/\Below w.heap.size w w':=by
 have c:=fun w=>LowT.low_any y z w (by omega) (by omega) (by omega) (by omega)
 generalize LowT.lowS y z=T at c |-
 go_enter func103,ntmps103
 go_wp2_with fail
 simp only [hy,hz]
 refine (c _).mono ?_
 rintro e w1 ⟨rfl,b1⟩
 have B1:Hid (Below w.heap.size w w1):=b1
 clear b1
 go_wp2
 go_ret
 exact ⟨rfl,B1.out⟩
theorem top_t (code y z:Int) (w:World) (hx:code / 64=3) (hy:code / 8%8=y) (hz:code%8=z) (h0:0<=code) (h1:code<=255) :
  Calls prog 103 #[.int .i64 code,.bool false] w fun e w'=>e=.returned (.string (TopT.topS y z))/\Below w.heap.size w w':=by
 have c:=fun w=>TopT.top_any y z w (by omega) (by omega) (by omega) (by omega)
 have hh:¬ code=118:=by omega
 generalize TopT.topS y z=T at c |-
 go_enter func103,ntmps103
 go_wp2_with fail
 simp only [hy,hz]
 refine (c _).mono ?_
 rintro e w1 ⟨rfl,b1⟩
 have B1:Hid (Below w.heap.size w w1):=b1
 clear b1
 go_wp2
 go_ret
 exact ⟨rfl,B1.out⟩
theorem template_any (code:Int) (cb:Bool) (w:World) (h0:0<=code) (h1:code<=255) :
  Calls prog 103 #[.int .i64 code,.bool cb] w fun e w'=>e=.returned (.string (tmplS code cb))/\Below w.heap.size w w':=by
 unfold tmplS
 cases cb with
 | true =>
  rw [if_pos rfl]
  by_cases h:code / 64=0
  ·rw [if_pos h];exact TmplA.turn_any code _ _ w h rfl rfl h0 h1
  ·rw [if_neg h];exact TmplA.bit_x code _ _ w _ rfl (by omega) rfl rfl h0 h1
 | false =>
  rw [if_neg (by decide)]
  by_cases h:code / 64=0
  ·rw [if_pos h];exact low_t code _ _ w h rfl rfl h0 h1
  rw [if_neg h]
  by_cases h8:code=118
  ·subst h8;rw [if_pos rfl];exact TmplA.halt_any w
  rw [if_neg h8]
  by_cases h2:code / 64=1
  ·rw [if_pos h2];exact TmplA.ld_any code _ _ w h2 h8 rfl rfl h0 h1
  rw [if_neg h2]
  by_cases h3:code / 64=2
  ·rw [if_pos h3];exact TmplA.sum_any code _ _ w h3 rfl rfl h0 h1
  rw [if_neg h3]
  exact top_t code _ _ w (by omega) rfl rfl h0 h1
end Tmpl
namespace Leng
open Signed (inB l1In_any)
open Tmpl Hole
theorem empty_yes {s:ByteArray} (h:s.size=0):s.toList.isEmpty=true:=by
 rw [ByteArray.toList_eq,List.isEmpty_iff_length_eq_zero,Array.length_toList];exact h
theorem empty_no {s:ByteArray} (h:¬ s.size=0):s.toList.isEmpty=false:=by
 rw [ByteArray.toList_eq];cases e:s.data.toList with
 | nil=>exact absurd (by have:=congrArg List.length e;rw [Array.length_toList] at this;exact this) h
 | cons _ _=>rfl
theorem tmpl_all:∀ (c:Fin 256) (b:Bool),(tmplS (c.val:Int) b).size<=40:=by decide +kernel
theorem tmpl_le (code:Int) (cb:Bool) (h0:0<=code) (h1:code<=255):(tmplS code cb).size<=40:=by
 have:=tmpl_all ⟨code.toNat,by omega⟩ cb
 rwa [show ((⟨code.toNat,by omega⟩ : Fin 256).val:Int)=code by show ((code.toNat:Nat):Int)=code;omega] at this
def NumOf (T:ByteArray) (e:Ending):Prop:=∃ n:Int,e=.returned (.int .i64 n)/\(n=0 ↔ T.size=0)/\0<=n/\n<=3
theorem length_any (code:Int) (cb:Bool) (w:World) (h0:0<=code) (h1:code<=255) :
  Calls prog 153 #[.int .i64 code,.bool cb] w fun e w'=>NumOf (tmplS code cb) e/\Below w.heap.size w w':=by
 have c:=fun w=>template_any code cb w h0 h1
 have hz:=tmpl_le code cb h0 h1
 generalize tmplS code cb=T at c hz |-
 go_enter func153,ntmps153
 go_wp2_with fail
 refine (c _).mono ?_
 rintro e w1 ⟨rfl,b1⟩
 have B1:Hid (Below w.heap.size w w1):=b1
 clear b1 c
 by_cases he:T.size=0
 ·have h':=empty_yes he
  go_wp2
  go_ret
  exact ⟨⟨0,rfl,by omega,by omega,by omega⟩,B1.out⟩
 have h':=empty_no he
 cases cb with
 | true =>
  go_wp2
  go_ret
  exact ⟨⟨2,rfl,by omega,by omega,by omega⟩,B1.out⟩
 | false =>
  go_wp2_with fail
  refine (hole_any T _ (by omega)).mono ?_
  rintro e w2 ⟨⟨i,h,rfl⟩,b2⟩
  have B2:Hid (Below w.heap.size w w2):=B1.out.trans (b2.mono B1.out.size)
  clear b2 B1
  go_wp2
  all_goals
   go_ret
   exact ⟨⟨_,rfl,by omega,by omega,by omega⟩,B2.out⟩
theorem lengthOf_any (code:Int) (cb:Bool) (w:World) (h0:0<=code) (h1:code<=255) :
  Calls prog 131 #[.int .i64 code,.bool cb] w fun e w'=>NumOf (tmplS code cb) e/\Below w.heap.size w w':=by
 have c:=fun w=>length_any code cb w h0 h1
 have hin:inB code 0 255=true:=by unfold inB;simp;omega
 have ci:=fun w=>l1In_any code 0 255 w
 rw [hin] at ci
 generalize tmplS code cb=T at c |-
 go_enter func131,ntmps131
 go_wp2_with (first|(go_at_call 42;refine (ci _).mono ?_;rintro e w' ⟨rfl,hw'⟩;have hw':=hw'.symm;subst hw')|fail)
 refine (c _).mono ?_
 rintro e w1 ⟨⟨n,rfl,hn⟩,b1⟩
 have HN:Hid _:=hn
 have B1:Hid (Below w.heap.size w w1):=b1
 clear hn b1
 go_wp2
 go_ret
 exact ⟨⟨n,rfl,HN.out⟩,B1.out⟩
theorem lengthOf_out (code:Int) (cb:Bool) (w:World) (h:inB code 0 255=false) :
  Calls prog 131 #[.int .i64 code,.bool cb] w fun e w'=>e=.returned (.int .i64 0)/\w'=w:=by
 have ci:=fun w=>l1In_any code 0 255 w
 rw [h] at ci
 go_enter func131,ntmps131
 go_wp2_with (go_at_call 42;refine (ci _).mono ?_;rintro e w' ⟨rfl,hw'⟩;have hw':=hw'.symm;subst hw')
 go_ret
 exact ⟨rfl,rfl⟩
end Leng
namespace LenX
open Signed (inB l1In_any)
open Leng (empty_yes empty_no tmpl_le)
open HoleX (n8 n16 e8 holeT holeP)
open HolI
theorem holeT_cases (s:ByteArray):holeT s=⟨#[110,56]⟩ \/ holeT s=⟨#[110,49,54]⟩ \/ holeT s=⟨#[101,56]⟩ \/ holeT s=⟨#[]⟩:=by
 unfold holeT
 split
 ·exact .inr (.inl rfl)
 split
 ·exact .inl rfl
 split
 ·exact .inr (.inr (.inl rfl))
 ·exact .inr (.inr (.inr rfl))
theorem beqN (n:Nat):(n == 0)=decide (n=0):=by by_cases h:n=0 <;> simp [h]
def lenV (z:Bool) (cb:Bool) (h:ByteArray):Int:=if z=true then 0 else if cb=true then 2 else if h.size=0 then 1 else if h=n16 then 3 else 2
def none? (code:Int) (cb:Bool):Bool:=!inB code 0 255 || (Tmpl.tmplS code cb).size == 0
def hole (code:Int) (cb:Bool):ByteArray:=holeT (Tmpl.tmplS code cb)
theorem same_all:∀ (c:Fin 256) (b:Bool),((Tmpl.tmplS (c.val:Int) b).size=0 ↔ (Shape.shapeR (c.val:Int) b).size=0)/\holeI (Shape.shapeR (c.val:Int) b)=holeT (Tmpl.tmplS (c.val:Int) b)/\(Shape.shapeR (c.val:Int) b).size<=40:=by decide +kernel
theorem same_at (code:Int) (cb:Bool) (h0:0<=code) (h1:code<=255):((Tmpl.tmplS code cb).size=0 ↔ (Shape.shapeR code cb).size=0)/\holeI (Shape.shapeR code cb)=holeT (Tmpl.tmplS code cb)/\(Shape.shapeR code cb).size<=40:=by
 have:=same_all ⟨code.toNat,by omega⟩ cb
 rwa [show ((⟨code.toNat,by omega⟩ : Fin 256).val:Int)=code by show ((code.toNat:Nat):Int)=code;omega] at this
theorem shape_in {code:Int} {cb:Bool} (h:inB code 0 255=true):Shape.shape code cb=Shape.shapeR code cb:=by unfold Shape.shape;rw [if_pos h]
theorem shape_out {code:Int} {cb:Bool} (h:inB code 0 255=false):Shape.shape code cb=⟨#[]⟩:=by unfold Shape.shape;rw [h];rfl
theorem implLength_any (code:Int) (cb:Bool) (w:World) (hm:MaxL w) :
  Calls prog 166 #[.int .i64 code,.bool cb] w fun e w'=>e=.returned (.int .i64 (lenV (none? code cb) cb (hole code cb)))/\Below w.heap.size w w':=by
 have c:=fun w=>Shape.shapeOf_any code cb w
 cases hb:inB code 0 255
 ·have hz:(Shape.shape code cb).size=0:=by rw [shape_out hb];rfl
  have he:=empty_yes hz
  have hn:none? code cb=true:=by unfold none?;rw [hb];rfl
  rw [hn]
  generalize Shape.shape code cb=T at c he
  go_enter func166,ntmps166
  go_wp2_with fail
  refine (c _).mono ?_
  rintro e w1 ⟨rfl,b1⟩
  have B1:Hid (Below w.heap.size w w1):=b1
  clear b1 c
  go_wp2
  go_ret
  exact ⟨rfl,B1.out⟩
 obtain ⟨h0,h1⟩:=of_decide_eq_true hb
 obtain ⟨h2,h3,h4⟩:=same_at code cb h0 h1
 have hn:none? code cb=(decide ((Shape.shapeR code cb).size=0)):=by
  unfold none?;rw [hb];show (_ == 0)=_;rw [beqN];exact decide_eq_decide.2 h2
 have hh:hole code cb=holeI (Shape.shapeR code cb):=h3.symm
 rw [hn,hh]
 rw [shape_in hb] at c
 clear hn hh h2 h3 hb
 generalize Shape.shapeR code cb=T at c h4 |-
 by_cases hz:T.size=0
 ·have he:=empty_yes hz
  rw [show decide (T.size=0)=true from decide_eq_true hz]
  go_enter func166,ntmps166
  go_wp2_with fail
  refine (c _).mono ?_
  rintro e w1 ⟨rfl,b1⟩
  have B1:Hid (Below w.heap.size w w1):=b1
  clear b1 c
  go_wp2
  go_ret
  exact ⟨rfl,B1.out⟩
 have he:=empty_no hz
 rw [show decide (T.size=0)=false from decide_eq_false hz]
 have ch:=fun w hm=>holeOf_any T w (by omega) hm
 have HM:Hid (MaxL w):=hm
 clear hm
 cases cb with
 | true =>
  go_enter func166,ntmps166
  go_wp2_with fail
  refine (c _).mono ?_
  rintro e w1 ⟨rfl,b1⟩
  have B1:Hid (Below w.heap.size w w1):=b1
  clear b1 c
  go_wp2
  go_ret
  exact ⟨rfl,B1.out⟩
 | false =>
  rcases holeI_cases T with hx|hx|hx|hx
  all_goals
   rw [hx] at ch |-
   go_enter func166,ntmps166
   go_wp2_with fail
   refine (c _).mono ?_
   rintro e w1 ⟨rfl,b1⟩
   have B1:Hid (Below w.heap.size w w1):=b1
   clear b1 c
   go_wp2_with fail
   refine (ch _ (HM.out.below B1.out)).mono ?_
   rintro e w2 ⟨rfl,b2⟩
   have B2:Hid (Below w.heap.size w w2):=B1.out.trans (b2.mono B1.out.size)
   clear b2 ch B1
   go_wp2
   go_ret
   exact ⟨rfl,B2.out⟩
theorem length_any (code:Int) (cb:Bool) (w:World) (h0:0<=code) (h1:code<=255) :
  Calls prog 153 #[.int .i64 code,.bool cb] w fun e w'=>e=.returned (.int .i64 (lenV (decide ((Tmpl.tmplS code cb).size=0)) cb (hole code cb)))/\Below w.heap.size w w':=by
 have c:=fun w=>Tmpl.template_any code cb w h0 h1
 have hz:=tmpl_le code cb h0 h1
 unfold hole
 generalize Tmpl.tmplS code cb=T at c hz |-
 by_cases he:T.size=0
 ·have h':=empty_yes he
  rw [show decide (T.size=0)=true from decide_eq_true he]
  go_enter func153,ntmps153
  go_wp2_with fail
  refine (c _).mono ?_
  rintro e w1 ⟨rfl,b1⟩
  have B1:Hid (Below w.heap.size w w1):=b1
  clear b1 c
  go_wp2
  go_ret
  exact ⟨rfl,B1.out⟩
 have h':=empty_no he
 rw [show decide (T.size=0)=false from decide_eq_false he]
 have ch:=fun w=>HoleX.hole_any T w (by omega)
 cases cb with
 | true =>
  go_enter func153,ntmps153
  go_wp2_with fail
  refine (c _).mono ?_
  rintro e w1 ⟨rfl,b1⟩
  have B1:Hid (Below w.heap.size w w1):=b1
  clear b1 c
  go_wp2
  go_ret
  exact ⟨rfl,B1.out⟩
 | false =>
  unfold HoleX.ret at ch
  rcases holeT_cases T with hx|hx|hx|hx
  all_goals
   rw [hx] at ch |-
   go_enter func153,ntmps153
   go_wp2_with fail
   refine (c _).mono ?_
   rintro e w1 ⟨rfl,b1⟩
   have B1:Hid (Below w.heap.size w w1):=b1
   clear b1 c
   go_wp2_with fail
   refine (ch _).mono ?_
   rintro e w2 ⟨rfl,b2⟩
   have B2:Hid (Below w.heap.size w w2):=B1.out.trans (b2.mono B1.out.size)
   clear b2 ch B1
   go_wp2
   go_ret
   exact ⟨rfl,B2.out⟩
end LenX
end Go.Proofs.YteglcgnhhoenbaaGreatDoor
