import Derived.Test.YteglcgnhhoenbaaGreatDoorP01
import Derived.Deep.Strs
import Derived.WalkSmall
import Derived.Laws.IdiomStrings
import Derived.Laws.OwnMore
import Derived.Lib.IndexMore
set_option linter.all false
set_option maxRecDepth 20000
set_option maxHeartbeats 8000000
open Go.ChangeShapes Go.WideShapes Go.ChangeAt Go.RowKit
open Go.Proofs.Tryz
namespace Go.Proofs.YteglcgnhhoenbaaGreatDoor
namespace CartL
open Go.Deep
open Signed (inB ret_int ret_bool isByte_any l1In_any)
open Carts CartK
theorem grow {a w:World} (h:Below a.heap.size a w) (o:Obj):Below a.heap.size a (w.alloc o):=h.alloc h.size o
theorem after {a w w':World} (h:Below a.heap.size a w) (k:Below w.heap.size w w'):Below a.heap.size a w':=h.trans (k.mono h.size)
theorem cellsC:prog.cellsOf 49=7:=by kernel_rfl
theorem cells2:prog.cellsOf 2=1:=by kernel_rfl
theorem cells4:prog.cellsOf 4=1:=by kernel_rfl
theorem cells9:prog.cellsOf 9=1:=by kernel_rfl
theorem fieldsC:∃ f0 f1 f2 f3 f4 f5 f6:Field,prog.underlying 49=some (.struct #[f0,f1,f2,f3,f4,f5,f6])/\(f0.type=9/\f0.offset=0)/\(f1.type=2/\f1.offset=1)/\(f2.type=2/\f2.offset=2)/\(f3.type=9/\f3.offset=3)/\(f4.type=2/\f4.offset=4)/\(f5.type=4/\f5.offset=5)/\(f6.type=2/\f6.offset=6) :=
 ⟨_,_,_,_,_,_,_,underlying49,⟨rfl,rfl⟩,⟨rfl,rfl⟩,⟨rfl,rfl⟩,⟨rfl,rfl⟩,⟨rfl,rfl⟩,⟨rfl,rfl⟩,⟨rfl,rfl⟩⟩
theorem cart_of {H:Type} {enc:TypeId × Value->H} {w:World} {base:Nat} {spare:Nat->Bool} {held:Bool} {fuel:Nat} {cs:List Value} {x:DataW H × List MemPlace}
  (h:DataW.trod enc prog w base spare held fuel 49 cs=some x) :
  ∃ (rom:ByteArray) (kind bank:Int) (ram:ByteArray) (rb:Int) (on:Bool) (mode:Int),cs=[.string rom,.int .i64 kind,.int .i64 bank,.string ram,.int .i64 rb,.bool on,.int .i64 mode]/\rom.size<=maxLen/\ram.size<=maxLen:=by
 obtain ⟨f0,f1,f2,f3,f4,f5,f6,hf,⟨t0,o0⟩,⟨t1,o1⟩,⟨t2,o2⟩,⟨t3,o3⟩,⟨t4,o4⟩,⟨t5,o5⟩,⟨t6,o6⟩⟩:=fieldsC
 obtain ⟨xs,n,_,_,hl,hlen,g⟩:=DataW.trod_struct hf h
 rw [cellsC] at hl
 match cs,hl,xs,hlen with
 | [v0,v1,v2,v3,v4,v5,v6],_,[y0,y1,y2,y3,y4,y5,y6],_ =>
  have g0:=g 0 f0 rfl
  have g1:=g 1 f1 rfl
  have g2:=g 2 f2 rfl
  have g3:=g 3 f3 rfl
  have g4:=g 4 f4 rfl
  have g5:=g 5 f5 rfl
  have g6:=g 6 f6 rfl
  rw [t0,o0,cells9] at g0
  rw [t1,o1,cells2] at g1
  rw [t2,o2,cells2] at g2
  rw [t3,o3,cells9] at g3
  rw [t4,o4,cells2] at g4
  rw [t5,o5,cells4] at g5
  rw [t6,o6,cells2] at g6
  obtain ⟨s0,e0,_,z0⟩:=DataW.trod_string underlying9 g0
  obtain ⟨n1,e1,_⟩:=DataW.trod_int underlying2 g1
  obtain ⟨n2,e2,_⟩:=DataW.trod_int underlying2 g2
  obtain ⟨s3,e3,_,z3⟩:=DataW.trod_string underlying9 g3
  obtain ⟨n4,e4,_⟩:=DataW.trod_int underlying2 g4
  obtain ⟨b5,e5,_⟩:=DataW.trod_bool underlying4 g5
  obtain ⟨n6,e6,_⟩:=DataW.trod_int underlying2 g6
  simp at e0 e1 e2 e3 e4 e5 e6
  subst e0 e1 e2 e3 e4 e5 e6
  exact ⟨s0,n1,n2,s3,n4,b5,n6,rfl,z0,z3⟩
def left2 (m:Int) (a b:Nat):Int:=if m-a<0 then -1 else if m-a-b<0 then -1 else m-a-b
theorem szCart_any (rom:ByteArray) (kind bank:Int) (ram:ByteArray) (rb:Int) (on:Bool) (mode:Int) (m:Int) (w:World) (hs:rom.size<=maxLen) (hr:ram.size<=maxLen) (h0:0<=m) (h1:m<=1048576) :
  Calls prog 56 #[.agg #[.string rom,.int .i64 kind,.int .i64 bank,.string ram,.int .i64 rb,.bool on,.int .i64 mode],.int .i64 m] w fun e w'=>e=.returned (.int .i64 (left2 m rom.size ram.size))/\w'=w.alloc (.cells #[.string rom,.int .i64 kind,.int .i64 bank,.string ram,.int .i64 rb,.bool on,.int .i64 mode] 49):=by
 unfold maxLen at hs hr
 by_cases h:m-rom.size<0
 ·have e:left2 m rom.size ram.size = -1:=by unfold left2;rw [if_pos h]
  rw [e]
  clear e
  go_enter func56,ntmps56
  go_wp2
  go_ret
  exact ⟨rfl,rfl⟩
 by_cases h2:m-rom.size-ram.size<0
 ·have e:left2 m rom.size ram.size = -1:=by unfold left2;rw [if_neg h,if_pos h2]
  rw [e]
  clear e
  go_enter func56,ntmps56
  go_wp2
  go_ret
  exact ⟨rfl,rfl⟩
 have e:left2 m rom.size ram.size=m-rom.size-ram.size:=by unfold left2;rw [if_neg h,if_neg h2]
 rw [e]
 clear e
 go_enter func56,ntmps56
 go_wp2
 go_ret
 exact ⟨rfl,rfl⟩
theorem toCart_any (rom:ByteArray) (kind bank:Int) (ram:ByteArray) (rb:Int) (on:Bool) (mode:Int) (w:World) :
  Calls prog 59 #[.agg #[.string rom,.int .i64 kind,.int .i64 bank,.string ram,.int .i64 rb,.bool on,.int .i64 mode]] w fun e w'=>e=.returned (.agg #[.string rom,.int .i64 kind,.int .i64 bank,.string ram,.int .i64 rb,.bool on,.int .i64 mode])/\w'=((w.alloc (.cells #[.string rom,.int .i64 kind,.int .i64 bank,.string ram,.int .i64 rb,.bool on,.int .i64 mode] 49)).alloc (.cells #[.string rom,.int .i64 kind,.int .i64 bank,.string ram,.int .i64 rb,.bool on,.int .i64 mode] 27)).alloc (.cells #[.string rom,.int .i64 kind,.int .i64 bank,.string ram,.int .i64 rb,.bool on,.int .i64 mode] 27):=by
 go_enter func59,ntmps59
 go_wp2
 exact bodyPost_ret (v:=.agg #[.string rom,.int .i64 kind,.int .i64 bank,.string ram,.int .i64 rb,.bool on,.int .i64 mode]) (by simp [results,results59,go_sem]) rfl ⟨rfl,rfl⟩
theorem eqCart_any (rom:ByteArray) (kind bank:Int) (ram:ByteArray) (rb:Int) (on:Bool) (mode:Int) (w:World) :
  Calls prog 63 #[.agg #[.string rom,.int .i64 kind,.int .i64 bank,.string ram,.int .i64 rb,.bool on,.int .i64 mode],.agg #[.string rom,.int .i64 kind,.int .i64 bank,.string ram,.int .i64 rb,.bool on,.int .i64 mode]] w fun e w'=>e=.returned (.bool true)/\w'=(w.alloc (.cells #[.string rom,.int .i64 kind,.int .i64 bank,.string ram,.int .i64 rb,.bool on,.int .i64 mode] 27)).alloc (.cells #[.string rom,.int .i64 kind,.int .i64 bank,.string ram,.int .i64 rb,.bool on,.int .i64 mode] 27):=by
 go_enter func63,ntmps63
 go_wp2
 go_ret
 exact ⟨rfl,rfl⟩
theorem implOk_yes (rom:ByteArray) (kind bank:Int) (ram:ByteArray) (rb:Int) (on:Bool) (mode:Int) (w:World) (hs:rom.size<=maxLen) (hr:ram.size<=maxLen) (h:okB rom kind bank ram rb on mode=true) :
  Calls prog 77 #[.agg #[.string rom,.int .i64 kind,.int .i64 bank,.string ram,.int .i64 rb,.bool on,.int .i64 mode]] w fun e w'=>e=.returned (.bool true)/\∃ T:TypeId,w'=((w.alloc (.cells #[.string rom,.int .i64 kind,.int .i64 bank,.string ram,.int .i64 rb,.bool on,.int .i64 mode] 27)).alloc (.cells #[] T)).alloc (.cells #[.string rom,.int .i64 kind,.int .i64 bank,.string ram,.int .i64 rb,.bool on,.int .i64 mode] 27):=by
 have hh:=h
 simp only [okB,Bool.and_eq_true] at hh
 obtain ⟨⟨h1,h2⟩,h3⟩:=hh
 by_cases k0:kind=0
 ·subst k0
  refine (cartOk_0 rom bank ram rb on mode w hs hr true true (by simpa [heldB] using h1) h2).mono ?_
  rintro e w' ⟨rfl,rfl⟩
  exact ⟨ret_bool (by simpa using h3),_,rfl⟩
 by_cases k1:kind=1
 ·subst k1
  refine (cartOk_1 rom bank ram rb on mode w hs hr true true (by simpa [heldB] using h1) h2).mono ?_
  rintro e w' ⟨rfl,rfl⟩
  exact ⟨ret_bool (by simpa using h3),_,rfl⟩
 by_cases k2:kind=2
 ·subst k2
  refine (cartOk_2 rom bank ram rb on mode w hs hr true true (by simpa [heldB] using h1) h2).mono ?_
  rintro e w' ⟨rfl,rfl⟩
  exact ⟨ret_bool (by simpa using h3),_,rfl⟩
 exfalso
 simp [heldB,k0,k1,k2] at h1
theorem implOk_any (rom:ByteArray) (kind bank:Int) (ram:ByteArray) (rb:Int) (on:Bool) (mode:Int) (w:World) (hs:rom.size<=maxLen) (hr:ram.size<=maxLen) :
  Calls prog 77 #[.agg #[.string rom,.int .i64 kind,.int .i64 bank,.string ram,.int .i64 rb,.bool on,.int .i64 mode]] w fun e w'=>e=.returned (.bool (okB rom kind bank ram rb on mode))/\Below w.heap.size w w':=by
 by_cases k0:kind=0
 ·subst k0
  refine (cartOk_0 rom bank ram rb on mode w hs hr _ _ rfl rfl).mono ?_
  rintro e w' ⟨rfl,rfl⟩
  exact ⟨rfl,((zRf.alloc (by simp) _).alloc (by simp) _).alloc (by simp;try omega) _⟩
 by_cases k1:kind=1
 ·subst k1
  refine (cartOk_1 rom bank ram rb on mode w hs hr _ _ rfl rfl).mono ?_
  rintro e w' ⟨rfl,rfl⟩
  exact ⟨rfl,((zRf.alloc (by simp) _).alloc (by simp) _).alloc (by simp;try omega) _⟩
 by_cases k2:kind=2
 ·subst k2
  refine (cartOk_2 rom bank ram rb on mode w hs hr _ _ rfl rfl).mono ?_
  rintro e w' ⟨rfl,rfl⟩
  exact ⟨rfl,((zRf.alloc (by simp) _).alloc (by simp) _).alloc (by simp;try omega) _⟩
 refine (cartOk_no rom kind bank ram rb on mode w k0 k1 k2).mono ?_
 rintro e w' ⟨rfl,rfl⟩
 exact ⟨ret_bool (by simp [okB,heldB,k0,k1,k2]),zRf.alloc (by simp) _⟩
end CartL
section
theorem zGr {a w:World} (h:Below a.heap.size a w) (o:Obj):Below a.heap.size a (w.alloc o):=h.alloc h.size o
end
namespace CartM
open Go.Deep
open Signed (inB ret_int ret_bool isByte_any l1In_any)
open Carts CartK CartL
theorem right (rom:ByteArray) (kind bank:Int) (ram:ByteArray) (rb:Int) (on:Bool) (mode:Int) (h:okB rom kind bank ram rb on mode=true) :
  ∃ n:Nat,2<=n/\n<=16/\rom.size=256*n/\banks rom.size=n/\ram.size=256/\0<=bank/\bank<=255/\0<=rb/\rb<=3/\0<=mode/\mode<=1/\(kind=0/\on=false \/ kind=1 \/ kind=2/\mode=0):=by
 simp only [okB,Bool.and_eq_true,beq_iff_eq] at h
 obtain ⟨⟨h1,h2⟩,h3⟩:=h
 obtain ⟨z0,z1,z2,z3⟩:=banks_yes h2
 refine ⟨rom.size / 256,by omega,by omega,z3,by omega,h3,?_⟩
 unfold heldB inB at h1
 by_cases k0:kind=0
 ·rw [if_pos k0] at h1
  simp at h1
  obtain ⟨h4,h5,h6,h7⟩:=h1
  exact ⟨by omega,by omega,by omega,by omega,by omega,by omega,.inl ⟨k0,h7⟩⟩
 rw [if_neg k0] at h1
 by_cases k1:kind=1
 ·rw [if_pos k1] at h1
  simp at h1
  omega
 rw [if_neg k1] at h1
 by_cases k2:kind=2
 ·rw [if_pos k2] at h1
  simp at h1
  omega
 rw [if_neg k2] at h1
 cases h1
theorem bankSeen_any (rom:ByteArray) (kind bank:Int) (ram:ByteArray) (rb:Int) (on:Bool) (mode:Int) (w:World) (n:Nat) (n0:2<=n) (n1:n<=16) (hn:rom.size=256*n) (b0:0<=bank) (b1:bank<=255) :
  Calls prog 81 #[.agg #[.string rom,.int .i64 kind,.int .i64 bank,.string ram,.int .i64 rb,.bool on,.int .i64 mode]] w fun e w'=>e=.returned (.int .i64 (bank%n))/\w'=w.alloc (.cells #[.string rom,.int .i64 kind,.int .i64 bank,.string ram,.int .i64 rb,.bool on,.int .i64 mode] 27):=by
 have q:(rom.size:Int) / 256=n:=by omega
 go_enter func81,ntmps81
 go_wp2
 go_ret
 exact ⟨rfl,rfl⟩
theorem specMapped_yes (rom:ByteArray) (kind bank:Int) (ram:ByteArray) (rb:Int) (on:Bool) (mode:Int) (w:World) (hs:rom.size<=maxLen) (hr:ram.size<=maxLen) (h:okB rom kind bank ram rb on mode=true) (n:Nat) (hn:banks rom.size=n) (n0:2<=n) (n1:n<=16) (b0:0<=bank) (b1:bank<=255) :
  Calls prog 89 #[.agg #[.string rom,.int .i64 kind,.int .i64 bank,.string ram,.int .i64 rb,.bool on,.int .i64 mode]] w fun e w'=>e=.returned (.int .i64 (bank%n))/\∃ k,w'=((w.alloc (.cells #[.string rom,.int .i64 kind,.int .i64 bank,.string ram,.int .i64 rb,.bool on,.int .i64 mode] 27)).alloc (.cells #[.string rom,.int .i64 kind,.int .i64 bank,.string ram,.int .i64 rb,.bool on,.int .i64 mode] 27)).drewN k:=by
 have c1:=fun w=>specOk_any rom kind bank ram rb on mode w hs hr
 have c2:=fun w=>l5Banks_any rom w hs
 rw [h] at c1
 rw [hn] at c2
 clear h hn
 go_enter func89,ntmps89
 go_wp2_with (go_at_call 55;refine (c1 _).mono ?_;rintro e w' ⟨rfl,rfl⟩)
 go_quiet ((go_at_call 107;exact Calls.quiet_of_same (c2 _)))
 go_wp2
 go_ret
 exact ⟨rfl,_,rfl⟩
end CartM
namespace CartR
open Go.Deep
open Signed (inB ret_int ret_bool isByte_any l1In_any)
open Carts CartK CartL CartM
def byteAt (s:ByteArray) (i:Int):Int:=if h:i.toNat<s.size then ((s[i.toNat]'h).toNat:Int) else 0
theorem byteAt_eq {s:ByteArray} {i:Int} (h:i.toNat<s.size):((s[i.toNat]'h).toNat:Int)=byteAt s i:=by unfold byteAt;rw [dif_pos h]
theorem byteAt_bd (s:ByteArray) (i:Int):0<=byteAt s i/\byteAt s i<=255:=by
 unfold byteAt
 split
 ·rename_i h
  have:=(s[i.toNat]'h).toNat_lt
  omega
 ·omega
theorem byteAt_wrap {s:ByteArray} {i:Int} (h:i.toNat<s.size):wrap64 ((s[i.toNat]'h).toNat:Int)=byteAt s i:=by
 rw [byteAt_eq h]
 have:=byteAt_bd s i
 unfold wrap64
 omega
theorem byteAt_wrapk {s:ByteArray} {i:Int} (h:i.toNat<s.size):IntKind.i64.wrap ((s[i.toNat]'h).toNat:Int)=byteAt s i:=by
 rw [byteAt_eq h]
 have:=byteAt_bd s i
 rw [IntKind.wrap_i64]
 omega
def ramQ (kind rb mode:Int):Int:=if kind=1/\mode=0 then 0 else rb
theorem ramQ_bd {kind rb mode:Int} (h0:0<=rb) (h1:rb<=3):0<=ramQ kind rb mode/\ramQ kind rb mode<=3:=by unfold ramQ;split <;> omega
theorem l4Word_any (n:Int) (w:World) :
  Calls prog 54 #[.int .i64 n] w fun e w'=>e=.returned (.bool (inB n 0 65535))/\w'=w:=by
 go_enter func54,ntmps54
 go_wp2_with (go_at_call 42;refine (l1In_any _ _ _ _).mono ?_;rintro e w' ⟨rfl,rfl⟩)
 go_ret
 exact ⟨rfl,rfl⟩
theorem isWord_any (n:Int) (w:World) :
  Calls prog 112 #[.int .i64 n] w fun e w'=>e=.returned (.bool (inB n 0 65535))/\w'=w:=by
 go_enter func112,ntmps112
 go_wp2
 all_goals go_ret
 all_goals exact ⟨ret_bool (by rw [Bool.eq_iff_iff];simp [inB];try omega),rfl⟩
theorem as01 (w:World):(Instr.typeAssert (.iface 175 (.agg #[])) 144 176 true).run prog w=.ok (.tuple #[.agg #[],.bool false]) w:=by kernel_rfl
theorem as02 (w:World):(Instr.typeAssert (.iface 175 (.agg #[])) 144 177 true).run prog w=.ok (.tuple #[.agg #[],.bool false]) w:=by kernel_rfl
theorem as11 (w:World):(Instr.typeAssert (.iface 176 (.agg #[])) 144 176 true).run prog w=.ok (.tuple #[.agg #[],.bool true]) w:=by kernel_rfl
theorem as12 (w:World):(Instr.typeAssert (.iface 176 (.agg #[])) 144 177 true).run prog w=.ok (.tuple #[.agg #[],.bool false]) w:=by kernel_rfl
theorem as21 (w:World):(Instr.typeAssert (.iface 177 (.agg #[])) 144 176 true).run prog w=.ok (.tuple #[.agg #[],.bool false]) w:=by kernel_rfl
theorem as22 (w:World):(Instr.typeAssert (.iface 177 (.agg #[])) 144 177 true).run prog w=.ok (.tuple #[.agg #[],.bool true]) w:=by kernel_rfl
theorem seen_1 (rom:ByteArray) (bank:Int) (ram:ByteArray) (rb:Int) (on:Bool) (mode:Int) (w:World) (h0:0<=rb) (h1:rb<=3) (m0:0<=mode) (m1:mode<=1) :
  Calls prog 256 #[.agg #[.string rom,.int .i64 1,.int .i64 bank,.string ram,.int .i64 rb,.bool on,.int .i64 mode]] w fun e w'=>e=.returned (.int .i64 (ramQ 1 rb mode))/\w'=w.alloc (.cells #[.string rom,.int .i64 1,.int .i64 bank,.string ram,.int .i64 rb,.bool on,.int .i64 mode] 27):=by
 have hm:mode=0 \/ mode=1:=by omega
 have a1:=as11
 have a2:=as12
 rcases hm with rfl|rfl
 all_goals
  go_enter func256,ntmps256
  go_wp2_with (go_at_call 113;refine (mapperOf_1 _).mono ?_;rintro e w' ⟨rfl,rfl⟩)
  go_ret
  exact ⟨ret_int (by simp [ramQ]),rfl⟩
theorem seen_2 (rom:ByteArray) (bank:Int) (ram:ByteArray) (rb:Int) (on:Bool) (mode:Int) (w:World) :
  Calls prog 256 #[.agg #[.string rom,.int .i64 2,.int .i64 bank,.string ram,.int .i64 rb,.bool on,.int .i64 mode]] w fun e w'=>e=.returned (.int .i64 (ramQ 2 rb mode))/\w'=w.alloc (.cells #[.string rom,.int .i64 2,.int .i64 bank,.string ram,.int .i64 rb,.bool on,.int .i64 mode] 27):=by
 have a1:=as21
 have a2:=as22
 go_enter func256,ntmps256
 go_wp2_with (go_at_call 113;refine (mapperOf_2 _).mono ?_;rintro e w' ⟨rfl,rfl⟩)
 go_ret
 exact ⟨ret_int (by simp [ramQ]),rfl⟩
theorem seen_any (rom:ByteArray) (kind bank:Int) (ram:ByteArray) (rb:Int) (on:Bool) (mode:Int) (w:World) (h0:0<=rb) (h1:rb<=3) (m0:0<=mode) (m1:mode<=1) (hk:kind=1 \/ kind=2) :
  Calls prog 256 #[.agg #[.string rom,.int .i64 kind,.int .i64 bank,.string ram,.int .i64 rb,.bool on,.int .i64 mode]] w fun e w'=>e=.returned (.int .i64 (ramQ kind rb mode))/\w'=w.alloc (.cells #[.string rom,.int .i64 kind,.int .i64 bank,.string ram,.int .i64 rb,.bool on,.int .i64 mode] 27):=by
 rcases hk with rfl|rfl
 ·exact seen_1 rom bank ram rb on mode w h0 h1 m0 m1
 ·exact seen_2 rom bank ram rb on mode w
theorem l5RamBank_any (rom:ByteArray) (kind bank:Int) (ram:ByteArray) (rb:Int) (on:Bool) (mode:Int) (w:World) :
  Calls prog 233 #[.agg #[.string rom,.int .i64 kind,.int .i64 bank,.string ram,.int .i64 rb,.bool on,.int .i64 mode]] w fun e w'=>e=.returned (.int .i64 (ramQ kind rb mode))/\w'=w.alloc (.cells #[.string rom,.int .i64 kind,.int .i64 bank,.string ram,.int .i64 rb,.bool on,.int .i64 mode] 27):=by
 go_enter func233,ntmps233
 go_wp2
 all_goals go_ret
 all_goals exact ⟨ret_int (by simp_all [ramQ]),by first|rfl|simp_all⟩
theorem place_no (rom:ByteArray) (kind bank:Int) (ram:ByteArray) (rb:Int) (on:Bool) (mode:Int) (addr:Int) (w:World) (h:on=false \/ addr<40960 \/ 41024<=addr) :
  Calls prog 238 #[.agg #[.string rom,.int .i64 kind,.int .i64 bank,.string ram,.int .i64 rb,.bool on,.int .i64 mode],.int .i64 addr] w fun e w'=>e=.returned (.int .i64 (-1))/\w'=w.alloc (.cells #[.string rom,.int .i64 kind,.int .i64 bank,.string ram,.int .i64 rb,.bool on,.int .i64 mode] 27):=by
 cases on with
 | false =>
  go_enter func238,ntmps238
  go_wp2
  go_ret
  exact ⟨rfl,rfl⟩
 | true =>
  have h':addr<40960 \/ 41024<=addr:=by simpa using h
  rcases h' with h'|h'
  ·go_enter func238,ntmps238
   go_wp2
   go_ret
   exact ⟨rfl,rfl⟩
  ·have d:¬ addr<40960:=by omega
   have d2:decide (addr<40960)=false:=decide_eq_false d
   go_enter func238,ntmps238
   go_wp2
   go_ret
   exact ⟨rfl,rfl⟩
theorem place_yes (rom:ByteArray) (kind bank:Int) (ram:ByteArray) (rb:Int) (mode:Int) (addr:Int) (w:World) (h0:0<=rb) (h1:rb<=3) (m0:0<=mode) (m1:mode<=1) (hk:kind=1 \/ kind=2) (a0:40960<=addr) (a1:addr<41024) (r:Int) (hr:ramQ kind rb mode=r) :
  Calls prog 238 #[.agg #[.string rom,.int .i64 kind,.int .i64 bank,.string ram,.int .i64 rb,.bool true,.int .i64 mode],.int .i64 addr] w fun e w'=>e=.returned (.int .i64 (r*64+addr-40960))/\w'=(w.alloc (.cells #[.string rom,.int .i64 kind,.int .i64 bank,.string ram,.int .i64 rb,.bool true,.int .i64 mode] 27)).alloc (.cells #[.string rom,.int .i64 kind,.int .i64 bank,.string ram,.int .i64 rb,.bool true,.int .i64 mode] 27):=by
 have c:=fun w=>seen_any rom kind bank ram rb true mode w h0 h1 m0 m1 hk
 obtain ⟨r0,r1⟩:=ramQ_bd (kind:=kind) (mode:=mode) h0 h1
 rw [hr] at c r0 r1
 have d2:decide (addr<40960)=false:=decide_eq_false (by omega)
 have d3:decide (41024<=addr)=false:=decide_eq_false (by omega)
 clear hr hk h0 h1 m0 m1
 go_enter func238,ntmps238
 go_wp2_with (go_at_call 256;refine (c _).mono ?_;rintro e w' ⟨rfl,rfl⟩)
 go_ret
 exact ⟨rfl,rfl⟩
def rdV (rom:ByteArray) (q:Int) (ram:ByteArray) (r:Int) (on:Bool) (addr:Int):Int :=
 if addr<256 then byteAt rom addr else if addr<512 then byteAt rom (q*256+addr-256) else if on=true/\40960<=addr/\addr<41024 then byteAt ram (r*64+addr-40960) else 255
theorem rdV_bd (rom:ByteArray) (q:Int) (ram:ByteArray) (r:Int) (on:Bool) (addr:Int):0<=rdV rom q ram r on addr/\rdV rom q ram r on addr<=255:=by
 unfold rdV
 split;exact byteAt_bd _ _
 split;exact byteAt_bd _ _
 split;exact byteAt_bd _ _
 omega
theorem read1 (rom:ByteArray) (kind bank:Int) (ram:ByteArray) (rb:Int) (on:Bool) (mode:Int) (addr:Int) (w:World) (s0:512<=rom.size) (a0:0<=addr) (a1:addr<256) :
  Calls prog 165 #[.agg #[.string rom,.int .i64 kind,.int .i64 bank,.string ram,.int .i64 rb,.bool on,.int .i64 mode],.int .i64 addr] w fun e w'=>e=.returned (.int .i64 (byteAt rom addr))/\Below w.heap.size w w':=by
 have h:addr.toNat<rom.size:=by omega
 have hb:=byteAt_wrap h
 go_enter func165,ntmps165
 go_wp2
 go_ret
 exact ⟨ret_int hb,by repeat (with_reducible first|exact zRf|refine zGr ?_ _|refine below_drewN ?_ _|refine Below.drew ?_)⟩
theorem read2 (rom:ByteArray) (kind bank:Int) (ram:ByteArray) (rb:Int) (on:Bool) (mode:Int) (addr q:Int) (w:World) (s1:rom.size<=4096) (q0:0<=q) (q1:q<=15) (q2:q*256+256<=rom.size) (a0:256<=addr) (a1:addr<512)
  (c2:∀ w,Calls prog 81 #[.agg #[.string rom,.int .i64 kind,.int .i64 bank,.string ram,.int .i64 rb,.bool on,.int .i64 mode]] w fun e w'=>e=.returned (.int .i64 q)/\w'=w.alloc (.cells #[.string rom,.int .i64 kind,.int .i64 bank,.string ram,.int .i64 rb,.bool on,.int .i64 mode] 27)) :
  Calls prog 165 #[.agg #[.string rom,.int .i64 kind,.int .i64 bank,.string ram,.int .i64 rb,.bool on,.int .i64 mode],.int .i64 addr] w fun e w'=>e=.returned (.int .i64 (byteAt rom (q*256+addr-256)))/\Below w.heap.size w w':=by
 have i0:0<=q*256+addr-256:=by omega
 have i1:q*256+addr-256<(rom.size:Int):=by omega
 have h:(q*256+addr-256).toNat<rom.size:=by omega
 have hb:=byteAt_wrap h
 have e1:IntKind.i64.wrap (q*256)=q*256:=by rw [IntKind.wrap_i64];omega
 have e2:IntKind.i64.wrap (q*256+addr)=q*256+addr:=by rw [IntKind.wrap_i64];omega
 have e3:IntKind.i64.wrap (q*256+addr-256)=q*256+addr-256:=by rw [IntKind.wrap_i64];omega
 go_enter func165,ntmps165
 go_wp2
 go_region_with (go_at_call 81;refine (c2 _).mono ?_;rintro e w' ⟨rfl,rfl⟩)
 all_goals go_wp2
 all_goals go_ret
 all_goals exact ⟨ret_int (byteAt_wrapk h),by repeat (with_reducible first|exact zRf|refine zGr ?_ _|refine below_drewN ?_ _|refine Below.drew ?_)⟩
theorem read4 (rom:ByteArray) (kind bank:Int) (ram:ByteArray) (rb:Int) (on:Bool) (mode:Int) (addr:Int) (w:World) (a0:512<=addr) (h:on=false \/ addr<40960 \/ 41024<=addr) :
  Calls prog 165 #[.agg #[.string rom,.int .i64 kind,.int .i64 bank,.string ram,.int .i64 rb,.bool on,.int .i64 mode],.int .i64 addr] w fun e w'=>e=.returned (.int .i64 255)/\Below w.heap.size w w':=by
 have c:=fun w=>place_no rom kind bank ram rb on mode addr w h
 clear h
 go_enter func165,ntmps165
 go_wp2_with (go_at_call 238;refine (c _).mono ?_;rintro e w' ⟨rfl,rfl⟩)
 go_ret
 exact ⟨rfl,by repeat (with_reducible first|exact zRf|refine zGr ?_ _|refine below_drewN ?_ _|refine Below.drew ?_)⟩
theorem read3 (rom:ByteArray) (kind bank:Int) (ram:ByteArray) (rb:Int) (mode:Int) (addr r:Int) (w:World) (sr:ram.size=256) (h0:0<=rb) (h1:rb<=3) (m0:0<=mode) (m1:mode<=1) (hk:kind=1 \/ kind=2) (a0:40960<=addr) (a1:addr<41024) (hr:ramQ kind rb mode=r) :
  Calls prog 165 #[.agg #[.string rom,.int .i64 kind,.int .i64 bank,.string ram,.int .i64 rb,.bool true,.int .i64 mode],.int .i64 addr] w fun e w'=>e=.returned (.int .i64 (byteAt ram (r*64+addr-40960)))/\Below w.heap.size w w':=by
 have c:=fun w=>place_yes rom kind bank ram rb mode addr w h0 h1 m0 m1 hk a0 a1 r hr
 obtain ⟨r0,r1⟩:=ramQ_bd (kind:=kind) (mode:=mode) h0 h1
 rw [hr] at r0 r1
 clear hr hk h0 h1 m0 m1
 have i0:0<=r*64+addr-40960:=by omega
 have i1:r*64+addr-40960<(ram.size:Int):=by omega
 have h:(r*64+addr-40960).toNat<ram.size:=by omega
 clear sr
 have hb:=byteAt_wrap h
 go_enter func165,ntmps165
 go_wp2_with (go_at_call 238;refine (c _).mono ?_;rintro e w' ⟨rfl,rfl⟩)
 go_ret
 exact ⟨ret_int hb,by repeat (with_reducible first|exact zRf|refine zGr ?_ _|refine below_drewN ?_ _|refine Below.drew ?_)⟩
theorem sread1 (rom:ByteArray) (kind bank:Int) (ram:ByteArray) (rb:Int) (on:Bool) (mode:Int) (addr:Int) (w:World) (s0:512<=rom.size) (a0:0<=addr) (a1:addr<256) :
  Calls prog 151 #[.agg #[.string rom,.int .i64 kind,.int .i64 bank,.string ram,.int .i64 rb,.bool on,.int .i64 mode],.int .i64 addr] w fun e w'=>e=.returned (.int .i64 (byteAt rom addr))/\Below w.heap.size w w':=by
 have h:addr.toNat<rom.size:=by omega
 have hb:=byteAt_wrap h
 have b1:inB addr 0 255=true:=decide_eq_true (by omega)
 have c:=fun w=>l1In_any addr 0 255 w
 rw [b1] at c
 go_enter func151,ntmps151
 go_wp2_with (go_at_call 42;refine (c _).mono ?_;rintro e w' ⟨rfl,rfl⟩)
 go_ret
 exact ⟨ret_int hb,by repeat (with_reducible first|exact zRf|refine zGr ?_ _|refine below_drewN ?_ _|refine Below.drew ?_)⟩
end CartR
namespace CartP
open Go.Deep
open Signed (inB ret_int ret_bool isByte_any l1In_any)
open Carts CartK CartL CartM
def putB (s:ByteArray) (i v:Int):ByteArray:=⟨(s.data.toList.set i.toNat (UInt8.ofNat v.toNat)).toArray⟩
theorem putB_size (s:ByteArray) (i v:Int):(putB s i v).size=s.size:=by show ((s.data.toList.set i.toNat (UInt8.ofNat v.toNat)).toArray).size=s.data.size;simp only [List.size_toArray,List.length_set,Array.length_toList]
theorem set_new (u:World) (o:Obj) (i:Nat) (v:Value):∃ o',(u.alloc o).setCell ⟨u.heap.size,i,none⟩ v=u.alloc o':=by
 have hm:∀ (a:Array Obj) (x:Obj) (f:Obj->Obj),(a.push x).modify a.size f=a.push (f x):=by
  intro a x f
  apply Array.ext
  ·simp
  ·intro i h1 h2
   simp only [Array.getElem_modify,Array.getElem_push]
   by_cases h:a.size=i
   ·subst h
    simp
   ·have hi:i<a.size:=by simp at h1;omega
    simp [h,hi]
 have h:=hm u.heap o
 refine ⟨?_,?_⟩
 rotate_left
 ·unfold World.setCell World.alloc
  simp only [h]
  rfl
theorem put_facts (s:ByteArray) (n:Nat) (hs:s.size=n) (i v:Int) (i0:0<=i) (i1:i<n) (v0:0<=v) (v1:v<=255) (w:World) :
  ∃ (W:World) (cap:Nat) (u:Value) (o:Obj),(convert 9 22 (.string s)).run prog w=.ok (.slice (some ⟨w.heap.size,0,none⟩) n cap) W/\n<=cap/\W.cell? ⟨w.heap.size,i.toNat,none⟩=some u/\W.frozen? ⟨w.heap.size,i.toNat,none⟩=false /\
   W.setCell ⟨w.heap.size,i.toNat,none⟩ (.int .u8 v)=w.drew.alloc o /\
   (convert 22 9 (.slice (some ⟨w.heap.size,0,none⟩) n cap)).run prog (W.setCell ⟨w.heap.size,i.toNat,none⟩ (.int .u8 v))=.ok (.string (putB s i v)) (W.setCell ⟨w.heap.size,i.toNat,none⟩ (.int .u8 v)):=by
 subst hs
 have hc:=run_bytes_of_string (P:=prog) w 9 22 5 s underlying9 underlying22 underlying5
 have hge:=grownCap_ge w s.size 0 5
 obtain ⟨cap,hcap⟩ : ∃ cap,cap=grownCap w s.size 0 5:=⟨_,rfl⟩
 rw [<- hcap] at hc hge
 have hi:i.toNat<s.data.size:=by have:s.data.size=s.size:=rfl;omega
 have hcell:∀ j (hj:j<s.data.size),(w.drew.alloc (.cells (bytesRow s cap) 5 ((bytesRow s cap).size,(bytesRow s cap).size+1))).cell? ⟨w.heap.size,j,none⟩=some (.int .u8 (s.data[j].toNat:Int)):=fun j hj=>by
  have h:=World.cell?_alloc_mark w.drew (bytesRow s cap) 5 ((bytesRow s cap).size,(bytesRow s cap).size+1) j
  rw [bytesRow_at s cap j hj] at h
  exact h
 obtain ⟨o,ho⟩:=set_new w.drew (.cells (bytesRow s cap) 5 ((bytesRow s cap).size,(bytesRow s cap).size+1)) i.toNat (.int .u8 v)
 refine ⟨_,cap,_,o,hc,hge,hcell i.toNat hi,?_,ho,?_⟩
 ·have h:=World.frozen?_alloc_mark w.drew (bytesRow s cap) 5 (bytesRow s cap).size ((bytesRow s cap).size+1) i.toNat
  have hb:i.toNat<(bytesRow s cap).size:=by unfold bytesRow;simp;omega
  rw [decide_eq_false (by omega:¬ (bytesRow s cap).size<=i.toNat)] at h
  exact h
 ·have hl:(s.data.toList.set i.toNat (UInt8.ofNat v.toNat)).length=s.size:=by show _=s.data.size;simp only [List.length_set,Array.length_toList]
  have h:=run_convert_bytes_back (P:=prog) ((w.drew.alloc (.cells (bytesRow s cap) 5 ((bytesRow s cap).size,(bytesRow s cap).size+1))).setCell ⟨w.heap.size,i.toNat,none⟩ (.int .u8 v)) 22 9 5 ⟨w.heap.size,0,none⟩ cap (s.data.toList.set i.toNat (UInt8.ofNat v.toNat)) underlying22 underlying5 underlying9 (fun j hj=>by
   have ea:(⟨w.heap.size,0,none⟩ : Addr).add j=⟨w.heap.size,j,none⟩:=by unfold Addr.add;split <;> simp_all
   have hj':j<s.data.size:=by rw [hl] at hj;exact hj
   rw [ea]
   by_cases e:j=i.toNat
   ·subst e
    rw [World.cell?_setCell_same _ _ _ (hcell i.toNat hi)]
    rw [List.getElem_set_self]
    have:(UInt8.ofNat v.toNat).toNat=v.toNat:=by simp;omega
    rw [this]
    congr 2
    omega
   ·rw [World.cell?_setCell_other _ _ _ _ (fun x=>e (by have:=congrArg Addr.off x;exact this.symm)),hcell j hj',List.getElem_set_ne (by omega)]
    simp)
  rw [hl] at h
  exact h
theorem put_impl (s:ByteArray) (n:Nat) (hs:s.size=n) (hn:n<=1000) (i v:Int) (i0:0<=i) (i1:i<n) (v0:0<=v) (v1:v<=255) (w:World) :
  Calls prog 273 #[.string s,.int .i64 i,.int .i64 v] w fun e w'=>e=.returned (.string (putB s i v))/\∃ o,w'=w.drew.alloc o:=by
 obtain ⟨W,cap,u,o,hc,hge,hu,hf,ho,hb⟩:=put_facts s n hs i v i0 i1 v0 v1 w
 clear hs
 have HO:Hid (W.setCell ⟨w.heap.size,i.toNat,none⟩ (.int .u8 v)=w.drew.alloc o):=ho
 clear ho
 go_enter func273,ntmps273
 go_wp2
 go_ret
 exact ⟨rfl,o,HO.out⟩
theorem put_spec (s:ByteArray) (n:Nat) (hs:s.size=n) (hn:n<=1000) (i v:Int) (i0:0<=i) (i1:i<n) (v0:0<=v) (v1:v<=255) (w:World) :
  Calls prog 236 #[.string s,.int .i64 i,.int .i64 v] w fun e w'=>e=.returned (.string (putB s i v))/\∃ o,w'=w.drew.alloc o:=by
 obtain ⟨W,cap,u,o,hc,hge,hu,hf,ho,hb⟩:=put_facts s n hs i v i0 i1 v0 v1 w
 clear hs
 have HO:Hid (W.setCell ⟨w.heap.size,i.toNat,none⟩ (.int .u8 v)=w.drew.alloc o):=ho
 clear ho
 go_enter func236,ntmps236
 go_wp2
 go_ret
 exact ⟨rfl,o,HO.out⟩
end CartP
namespace Outs
open Go.Deep
open Signed (inB ret_int ret_bool isByte_any l1In_any)
def Row (w:World) (a:Option Addr) (L:List Int):Prop:=L=[] \/ ∃ b off,a=some ⟨b,off,none⟩/\b<w.heap.size/\∀ i (h:i<L.length),w.cell? ⟨b,off+i,none⟩=some (.int .i64 L[i])
theorem Row.below {w w':World} {a:Option Addr} {L:List Int} (h:Row w a L) (hb:Below w.heap.size w w'):Row w' a L:=by
 rcases h with h|⟨b,off,ha,hl,hc⟩
 ·exact .inl h
 ·exact .inr ⟨b,off,ha,Nat.lt_of_lt_of_le hl hb.size,fun i hi=>(hb.cell (p:=⟨b,_,none⟩) hl).trans (hc i hi)⟩
theorem cells2:prog.cellsOf 2=1:=by kernel_rfl
theorem row_of {H:Type} {enc:TypeId × Value->H} {w:World} {base:Nat} {spare:Nat->Bool} {held:Bool} {fuel:Nat} {cs:List Value} {x:DataW H × List MemPlace}
  (h:DataW.trod enc prog w base spare held fuel 28 cs=some x):∃ a len cap L,cs=[.slice a len cap]/\L.length=len/\len<=maxLen/\Row w a L:=by
 rcases open_slice underlying28 h with ⟨rfl,_⟩|⟨a,len,cap,m,n,D,Pl,rfl,hb,hl,hm,hmm,rfl,hx⟩
 ·exact ⟨none,0,0,[],rfl,rfl,Nat.zero_le _,.inl rfl⟩
 have hlm:len<=m:=by rw [hmm];split <;> omega
 have each:∀ i,i<len->∃ q:Int,w.cell? (a.add i)=some (.int .i64 q):=by
  intro i hi
  obtain ⟨cs',h1,h2⟩:=hx i (by omega)
  rw [cells2] at h1
  obtain ⟨_,hlen,hcell⟩:=World.cells?_some h1
  match cs',hlen with
  | [v0],_ =>
   obtain ⟨n0,e0,_⟩:=DataW.trod_int underlying2 h2
   simp at e0
   subst e0
   have d0:=hcell 0 (by omega)
   rw [add_add] at d0
   exact ⟨n0,by simpa using d0⟩
 obtain ⟨q,hq⟩:=choose_lt each
 refine ⟨some a,len,cap,(List.range len).map q,rfl,by simp,by omega,?_⟩
 by_cases h0:len=0
 ·subst h0;exact .inl rfl
 obtain ⟨b,off,spot⟩:=a
 have c0:=hq 0 (by omega)
 have hspot:spot=none:=by simpa [Addr.add] using World.cell?_spot c0
 subst hspot
 have e:∀ i,(⟨b,off,none⟩ : Addr).add i=⟨b,off+i,none⟩:=fun i=>by unfold Addr.add;split <;> simp_all
 refine .inr ⟨b,off,rfl,World.block_lt_of_cell? w ⟨b,off,none⟩ (by simpa [Addr.add] using c0),fun i hi=>?_⟩
 have hi':i<len:=by simpa using hi
 have d0:=hq i hi'
 rw [e] at d0
 simpa using d0
theorem szInt64S_any (a:Option Addr) (cap n:Nat) (m:Int) (w:World) (h0:0<=m) (h1:m<=1048576) (hn:n<=maxLen) (q:Int) (hq:(if m-n<0 then -1 else m-n)=q) :
  Calls prog 57 #[.slice a n cap,.int .i64 m] w fun e w'=>e=.returned (.int .i64 q)/\w'=w:=by
 unfold maxLen at hn
 by_cases h:m-n<0
 ·rw [if_pos h] at hq
  subst hq
  go_enter func57,ntmps57
  go_wp2
  go_ret
  exact ⟨rfl,rfl⟩
 ·rw [if_neg h] at hq
  subst hq
  go_enter func57,ntmps57
  go_wp2
  go_ret
  exact ⟨rfl,rfl⟩
def rowA (L:List Int) (k:Nat):Array Value:=((L.take k).map (Value.int .i64) ++ List.replicate (L.length-k) (Value.int .i64 0)).toArray
def rowO (L:List Int):Obj:=.cells (rowA L L.length) 2
theorem rowA_zero (L:List Int):madeCells #[.int .i64 0] L.length=rowA L 0:=by
 apply Array.toList_inj.1
 rw [toList_madeCells_one]
 simp [rowA]
theorem rowA_get (L:List Int) (k:Nat) (h:k<L.length):(rowA L k)[k]? = some (.int .i64 0):=by
 unfold rowA
 rw [List.getElem?_toArray,List.getElem?_append_right (by simp;omega)]
 simp [Nat.min_eq_left (Nat.le_of_lt h)]
 rw [List.getElem?_replicate,if_pos (by omega)]
theorem rowA_step (L:List Int) (k:Nat) (h:k<L.length):(rowA L k).setIfInBounds k (.int .i64 L[k])=rowA L (k+1):=by
 apply Array.toList_inj.1
 unfold rowA
 rw [Array.toList_setIfInBounds]
 rw [List.set_append_right _ _ (by simp;omega)]
 have e1:L.length-k=(L.length-(k+1))+1:=by omega
 have e2:((L.take k).map (Value.int IntKind.i64)).length=k:=by simp [Nat.min_eq_left (Nat.le_of_lt h)]
 rw [e2,e1,List.replicate_succ,Nat.sub_self,List.set_cons_zero,List.take_succ_eq_append_getElem h,List.map_append,List.append_assoc]
 rfl
theorem rowA_full (L:List Int) (i:Nat) (h:i<L.length):(rowA L L.length)[i]? = some (.int .i64 L[i]):=by
 unfold rowA
 simp [h]
theorem infoI:(prog.info? 2).map (fun i=>(i.zero,i.size,i.bytes))=some (some (.int .i64 0),1,8):=by kernel_rfl
theorem toInt64S_any (a:Option Addr) (cap:Nat) (L:List Int) (w:World) (hN:Row w a L) (hlen:L.length<=1048576) :
  Calls prog 60 #[.slice a L.length cap] w fun e w'=>e=.returned (.slice (some ⟨w.heap.size,0,none⟩) L.length L.length)/\w'=w.alloc (rowO L):=by
 obtain ⟨i0,hi,hz0,hz1,hz2⟩:=info_parts infoI
 obtain ⟨len,hl⟩ : ∃ len,len=L.length:=⟨_,rfl⟩
 have HL:Hid (len=L.length):=hl
 rw [<- hl] at hlen |-
 have hmk:∀ u:World,(Instr.makeSlice 28 (.int .i64 (len:Int)) (.int .i64 (len:Int))).run prog u =
   .ok (.slice (some ⟨u.heap.size,0,none⟩) len len) (u.alloc (.cells (rowA L 0) 2)):=fun u=>by
  have h:=run_make (P:=prog) u 28 2 i0 (.int .i64 0) underlying28 hi hz0 .i64 .i64 (len:Int) (len:Int) (by omega) (Int.le_refl _) (by rw [hz2];omega) (by omega)
  rw [<- rowA_zero,<- hl]
  simpa [hz1,Value.cells] using h
 clear hz0 hz1 hz2 hi hl
 go_enter func60,ntmps60
 go_wp2
 go_loopw [4] (fun i wr=>∃ k:Nat,k<=len/\i=.int .i64 k/\Hid (wr=w.alloc (.cells (rowA L k) 2))) (fun i _=>len-(intOf i).toNat)
 case atStart=>exact ⟨0,Nat.zero_le _,rfl,rfl⟩
 case round =>
  obtain ⟨k,hk,rfl,hw⟩:=hrel
  by_cases hlt:k<len
  ·have hkL:k<L.length:=by have:=HL.out;omega
   rcases hN with hnil|⟨b,off,rfl,hb,hc⟩
   ·exfalso;rw [hnil] at hkL;exact absurd hkL (by simp)
   have c0:wr.cell? ⟨b,off+k,none⟩=some (.int .i64 L[k]):=by
    rw [hw.out,<- hc k hkL]
    exact ((Below.refl w.heap.size w).alloc (Nat.le_refl _) _).cell (p:=⟨b,_,none⟩) hb
   clear hc
   have S:Hid (wr.setCell ⟨w.heap.size,k,none⟩ (.int .i64 L[k])=w.alloc (.cells (rowA L (k+1)) 2)):=by
    have h:=World.setCell_alloc_new (w:=w) (rowA L k) 2 k (.int .i64 L[k])
    rw [rowA_step L k hkL] at h
    rw [hw.out]
    exact h
   have x0:wr.cell? ⟨w.heap.size,k,none⟩=some (.int .i64 0):=by rw [hw.out,World.cell?_alloc_new];exact rowA_get L k hkL
   have f0:wr.frozen? ⟨w.heap.size,k,none⟩=false:=by rw [hw.out];exact World.frozen?_alloc_at _ _ _ _ rfl
   generalize L[k]=n at c0 S
   go_wp2
   go_roundw
   case rel=>exact ⟨k+1,by omega,by go_num,S.out⟩
   case measure=>simp [intOf];omega
  ·clear hN
   have e:k=len:=by omega
   subst e
   go_wp2
   go_ret
   exact ⟨rfl,by rw [hw.out,HL.out];rfl⟩
theorem eqInt64S_any (a a':Option Addr) (cap cap':Nat) (L:List Int) (w:World) (hN:Row w a L) (hN':Row w a' L) (hlen:L.length<=1048576) :
  Calls prog 64 #[.slice a L.length cap,.slice a' L.length cap'] w fun e w'=>e=.returned (.bool true)/\∃ n,w'=w.drewN n:=by
 obtain ⟨len,hl⟩ : ∃ len,len=L.length:=⟨_,rfl⟩
 have HL:Hid (len=L.length):=hl
 rw [<- hl] at hlen |-
 clear hl
 go_enter func64,ntmps64
 go_wp2
 go_loopw [5] (fun i wr=>∃ k n:Nat,k<=len/\i=.int .i64 k/\wr=w.drewN n) (fun i _=>len-(intOf i).toNat)
 case atStart=>exact ⟨0,0,Nat.zero_le _,rfl,rfl⟩
 case round =>
  obtain ⟨k,n,hk,rfl,rfl⟩:=hrel
  by_cases hlt:k<len
  ·have hkL:k<L.length:=by have:=HL.out;omega
   rcases hN with hnil|⟨b,off,rfl,hb,hc⟩
   ·exfalso;rw [hnil] at hkL;exact absurd hkL (by simp)
   rcases hN' with hnil|⟨b',off',rfl,hb',hc'⟩
   ·exfalso;rw [hnil] at hkL;exact absurd hkL (by simp)
   have c0:w.cell? ⟨b,off+k,none⟩=some (.int .i64 L[k]):=hc k hkL
   have e0:w.cell? ⟨b',off'+k,none⟩=some (.int .i64 L[k]):=hc' k hkL
   clear hc hc'
   generalize L[k]=kd at c0 e0
   have k0:(0:Int)<=(k:Int):=by omega
   have k1:(k:Int)<(len:Int):=by omega
   go_wp2_with fail
   go_quiet (fail)
   go_wp2
   go_roundw
   case rel=>exact ⟨k+1,_,by omega,by go_num,rfl⟩
   case measure=>simp [intOf];omega
  ·clear hN hN'
   go_wp2
   go_ret
   exact ⟨rfl,n,rfl⟩
end Outs
namespace TurnS
open Signed (inB ret_int ret_bool isByte_any l1In_any)
open Reck ReckS ReckM
def trnP (op v c:Int):Int × Int :=
 if op=0 then (v*2%256+v / 128,v / 128) else
 if op=1 then (v / 2+128*(v%2),v%2) else
 if op=2 then (v*2%256+c,v / 128) else
 if op=3 then (v / 2+128*c,v%2) else
 if op=4 then (v*2%256,v / 128) else
 if op=5 then (v / 2+128*(v / 128),v%2) else
 if op=6 then (v%16*16+v / 16,0) else
 (v / 2,v%2)
def trnR (op v f:Int):Int × Int:=((trnP op v (cy f)).1,fl (decide ((trnP op v (cy f)).1=0)) false false (decide ((trnP op v (cy f)).2=1)))
def trn (op v f:Int):Int × Int:=if (inB op 0 7 && inB v 0 255 && inB f 0 255)=true then trnR op v f else (0,0)
theorem or_trn (z c:Bool):bits .or .i64 (chz z 128 0) (chz c 16 0)=fl z false false c:=by cases z <;> cases c <;> decide
theorem l4Turned_any (op v f:Int) (w:World) (o0:0<=op) (o1:op<=7) (v0:0<=v) (v1:v<=255) (f0:0<=f) (f1:f<=255) :
  Calls prog 116 #[.int .i64 op,.int .i64 v,.int .i64 f] w fun e w'=>e=.returned (.tuple #[.int .i64 (trnR op v f).1,.int .i64 (trnR op v f).2])/\w'=w:=by
 obtain ⟨c0,c1⟩:=cy_bd f
 have ho:op=0 \/ op=1 \/ op=2 \/ op=3 \/ op=4 \/ op=5 \/ op=6 \/ op=7:=by omega
 rcases ho with rfl|rfl|rfl|rfl|rfl|rfl|rfl|rfl
 all_goals
  go_enter func116,ntmps116
  go_wp2_with (first|(go_at_call 117;refine (l4Flags_any _ _ _ _ _).mono ?_;rintro e w3 ⟨rfl,rfl⟩)|(go_at_call 118;refine (l4Carry_any _ _ f0 f1).mono ?_;rintro e w3 ⟨rfl,rfl⟩))
  go_ret2
  refine ⟨ret_two ?_ (fl_congr ?_ rfl rfl ?_),rfl⟩
 ·show _=v*2%256+v / 128;omega
 ·show _=decide (v*2%256+v / 128=0);rw [Bool.eq_iff_iff];simp;try omega
 ·show _=decide (v / 128=1);rw [Bool.eq_iff_iff];simp;try omega
 ·show _=v / 2+128*(v%2);omega
 ·show _=decide (v / 2+128*(v%2)=0);rw [Bool.eq_iff_iff];simp;try omega
 ·show _=decide (v%2=1);rw [Bool.eq_iff_iff];simp;try omega
 ·show _=v*2%256+cy f;omega
 ·show _=decide (v*2%256+cy f=0);rw [Bool.eq_iff_iff];simp;try omega
 ·show _=decide (v / 128=1);rw [Bool.eq_iff_iff];simp;try omega
 ·show _=v / 2+128*cy f;omega
 ·show _=decide (v / 2+128*cy f=0);rw [Bool.eq_iff_iff];simp;try omega
 ·show _=decide (v%2=1);rw [Bool.eq_iff_iff];simp;try omega
 ·show _=v*2%256;omega
 ·show _=decide (v*2%256=0);rw [Bool.eq_iff_iff];simp;try omega
 ·show _=decide (v / 128=1);rw [Bool.eq_iff_iff];simp;try omega
 ·show _=v / 2+128*(v / 128);omega
 ·show _=decide (v / 2+128*(v / 128)=0);rw [Bool.eq_iff_iff];simp;try omega
 ·show _=decide (v%2=1);rw [Bool.eq_iff_iff];simp;try omega
 ·show _=v%16*16+v / 16;omega
 ·show _=decide (v%16*16+v / 16=0);rw [Bool.eq_iff_iff];simp;try omega
 ·show _=decide (0=1);rw [Bool.eq_iff_iff];simp;try omega
 ·show _=v / 2;omega
 ·show _=decide (v / 2=0);rw [Bool.eq_iff_iff];simp;try omega
 ·show _=decide (v%2=1);rw [Bool.eq_iff_iff];simp;try omega
end TurnS
namespace HoleX
open Hole (below_drewN slice_3 slice_2)
def firstAt (t h:ByteArray):Nat->Nat->Option Nat
 | 0,_=>none
 | f+1,k=>if k+h.size<=t.size then (if t.extract k (k+h.size)=h then some k else firstAt t h f (k+1)) else none
def n16:ByteArray:=⟨#[110,49,54]⟩
def n8:ByteArray:=⟨#[110,56]⟩
def e8:ByteArray:=⟨#[101,56]⟩
def at1 (t h:ByteArray):Option Nat:=firstAt t h (t.size+1) 0
def holeP (t:ByteArray):Int :=
 match at1 t n16 with
 | some k=>k
 | none=>match at1 t n8 with
  | some k=>k
  | none=>match at1 t e8 with
   | some k=>k
   | none=>-1
def holeT (t:ByteArray):ByteArray:=if (at1 t n16).isSome then n16 else if (at1 t n8).isSome then n8 else if (at1 t e8).isSome then e8 else ⟨#[]⟩
theorem firstAt_hit {t h:ByteArray} {m:Nat} (hm:m<=t.size) (h1:m+h.size<=t.size) (h2:t.extract m (m+h.size)=h) (e:at1 t h=firstAt t h (t.size+1-m) m):at1 t h=some m:=by
 rw [e,show t.size+1-m=(t.size-m)+1 by omega,firstAt,if_pos h1,if_pos h2]
theorem firstAt_next {t h:ByteArray} {m:Nat} (hm:m<=t.size) (h1:m+h.size<=t.size) (h2:¬ t.extract m (m+h.size)=h) (e:at1 t h=firstAt t h (t.size+1-m) m):at1 t h=firstAt t h (t.size+1-(m+1)) (m+1):=by
 rw [e,show t.size+1-m=(t.size+1-(m+1))+1 by omega,firstAt,if_pos h1,if_neg h2]
theorem firstAt_end {t h:ByteArray} {m:Nat} (hm:m<=t.size) (h1:¬ m+h.size<=t.size) (e:at1 t h=firstAt t h (t.size+1-m) m):at1 t h=none:=by
 rw [e,show t.size+1-m=(t.size-m)+1 by omega,firstAt,if_neg h1]
def ret (t:ByteArray):Ending:=.returned (.tuple #[.int .i64 (holeP t),.string (holeT t)])
theorem ret_n16 {t:ByteArray} {m:Nat} (h:at1 t n16=some m):Ending.returned (.tuple #[.int .i64 (m:Int),.string ⟨#[110,49,54]⟩])=ret t:=by
 unfold ret holeP holeT;rw [h];rfl
theorem ret_n8 {t:ByteArray} {m:Nat} (h0:at1 t n16=none) (h:at1 t n8=some m):Ending.returned (.tuple #[.int .i64 (m:Int),.string ⟨#[110,56]⟩])=ret t:=by
 unfold ret holeP holeT;rw [h0,h];rfl
theorem ret_e8 {t:ByteArray} {m:Nat} (h0:at1 t n16=none) (h1:at1 t n8=none) (h:at1 t e8=some m):Ending.returned (.tuple #[.int .i64 (m:Int),.string ⟨#[101,56]⟩])=ret t:=by
 unfold ret holeP holeT;rw [h0,h1,h];rfl
theorem ret_no {t:ByteArray} (h0:at1 t n16=none) (h1:at1 t n8=none) (h:at1 t e8=none):Ending.returned (.tuple #[.int .i64 (-1),.string ⟨#[]⟩])=ret t:=by
 unfold ret holeP holeT;rw [h0,h1,h];rfl
theorem lits_ne {X:ByteArray} {l:List UInt8} (h:¬ X=⟨l.toArray⟩):(X.toList == l)=false:=by
 rw [ByteArray.toList_eq]
 cases hb:X.data.toList == l
 ·rfl
 ·exfalso
  apply h
  have:=eq_of_beq hb
  cases X with|mk d=>cases d with|mk d=>simp only at this;rw [<- this]
def At (t:ByteArray) (i:Nat):Prop:=(1<=i->at1 t n16=none)/\(2<=i->at1 t n8=none)/\(3<=i->at1 t e8=none)
theorem hole_any (t:ByteArray) (w:World) (ht:t.size<=1000) :
  Calls prog 104 #[.string t] w fun e w'=>e=ret t/\Below w.heap.size w w':=by
 go_enter func104,ntmps104
 go_wp2
 have HB:Hid (Below w.heap.size w (w.alloc (.cells #[.string ⟨#[110,49,54]⟩,.string ⟨#[110,56]⟩,.string ⟨#[101,56]⟩] 9))):=zAl _ _
 have c0:(w.alloc (.cells #[.string ⟨#[110,49,54]⟩,.string ⟨#[110,56]⟩,.string ⟨#[101,56]⟩] 9)).cell? ⟨w.heap.size,0,none⟩=some (.string ⟨#[110,49,54]⟩):=World.cell?_alloc_new _ _ _ _
 have c1:(w.alloc (.cells #[.string ⟨#[110,49,54]⟩,.string ⟨#[110,56]⟩,.string ⟨#[101,56]⟩] 9)).cell? ⟨w.heap.size,1,none⟩=some (.string ⟨#[110,56]⟩):=World.cell?_alloc_new _ _ _ _
 have c2:(w.alloc (.cells #[.string ⟨#[110,49,54]⟩,.string ⟨#[110,56]⟩,.string ⟨#[101,56]⟩] 9)).cell? ⟨w.heap.size,2,none⟩=some (.string ⟨#[101,56]⟩):=World.cell?_alloc_new _ _ _ _
 generalize w.alloc (.cells #[.string ⟨#[110,49,54]⟩,.string ⟨#[110,56]⟩,.string ⟨#[101,56]⟩] 9)=W at *
 go_loopw [5] (fun i wr=>∃ n:Nat,((i=.int .i64 0/\At t 0) \/ (i=.int .i64 1/\At t 1) \/ (i=.int .i64 2/\At t 2) \/ (i=.int .i64 3/\At t 3))/\wr=W.drewN n) (fun i _=>3-(intOf i).toNat)
 case atStart=>exact ⟨0,.inl ⟨rfl,by unfold At;refine ⟨fun h=>?_,fun h=>?_,fun h=>?_⟩ <;> omega⟩,rfl⟩
 case round =>
  obtain ⟨n,hi,rfl⟩:=hrel
  rcases hi with ⟨rfl,ha⟩|⟨rfl,ha⟩|⟨rfl,ha⟩|⟨rfl,ha⟩
  ·have ha:Hid (At t 0):=ha
   go_wp2
   go_loopw [6] (fun i wr=>∃ m n:Nat,m<=t.size/\i=.int .i64 m/\wr=W.drewN n/\at1 t n16=firstAt t n16 (t.size+1-m) m) (fun i _=>t.size-(intOf i).toNat)
   case atStart=>exact ⟨0,n,Nat.zero_le _,rfl,rfl,rfl⟩
   case round =>
    obtain ⟨m,n2,hm,rfl,rfl,he⟩:=hrel
    by_cases hlt:m+3<=t.size
    ·have s1:=slice_3 t m hlt
     have HM:Hid (m<=t.size/\m+3<=t.size/\at1 t n16=firstAt t n16 (t.size+1-m) m):=⟨hm,hlt,he⟩
     clear he
     have k0:(0:Int)<=(m:Int):=by omega
     have k1:(m:Int)+3<=(t.size:Int):=by omega
     have k2:(m:Int)<=(m:Int)+3:=by omega
     have k4:IntKind.i64.wrap ((m:Int)+3)=(m:Int)+3:=by rw [IntKind.wrap_i64];omega
     by_cases hx:t.extract m (m+3)=⟨#[110,49,54]⟩
     ·have HX:Hid (t.extract m (m+3)=⟨#[110,49,54]⟩):=hx
      have hy:(t.extract m (m+3) == ⟨#[110,49,54]⟩)=true:=by rw [hx];rfl
      rw [hx] at s1
      clear hx hy
      go_wp2_with fail
      go_quiet (fail)
      go_wp2_with fail
      go_quiet (fail)
      go_wp2
      go_ret2
      exact ⟨ret_n16 (firstAt_hit HM.out.1 HM.out.2.1 HX.out HM.out.2.2),by repeat' (with_reducible first|exact HB.out|refine below_drewN ?_ _)⟩
     ·have HX:Hid (¬ t.extract m (m+3)=⟨#[110,49,54]⟩):=hx
      have hy:((t.extract m (m+3)).toList == [110,49,54])=false:=lits_ne hx
      clear hx
      generalize t.extract m (m+3)=X at s1 hy
      go_wp2_with fail
      go_quiet (fail)
      go_wp2_with fail
      go_roundw
      case rel=>exact ⟨m+1,_,by have:=HM.out.2.1;omega,by go_num,rfl,firstAt_next HM.out.1 HM.out.2.1 HX.out HM.out.2.2⟩
      case measure=>have:=HM.out.2.1;simp [intOf];omega
    ·have HE:Hid (at1 t n16=none):=firstAt_end hm hlt he
     clear he
     go_wp2
     go_roundw
     case rel =>
      have HE:=HE.out
      exact ⟨_,.inr (.inl ⟨rfl,⟨fun _=>HE,fun h=>by omega,fun h=>by omega⟩⟩),rfl⟩
     case measure=>simp [intOf]
  ·have ha:Hid (At t 1):=ha
   go_wp2
   go_loopw [6] (fun i wr=>∃ m n:Nat,m<=t.size/\i=.int .i64 m/\wr=W.drewN n/\at1 t n8=firstAt t n8 (t.size+1-m) m) (fun i _=>t.size-(intOf i).toNat)
   case atStart=>exact ⟨0,n,Nat.zero_le _,rfl,rfl,rfl⟩
   case round =>
    obtain ⟨m,n2,hm,rfl,rfl,he⟩:=hrel
    by_cases hlt:m+2<=t.size
    ·have s1:=slice_2 t m hlt
     have HM:Hid (m<=t.size/\m+2<=t.size/\at1 t n8=firstAt t n8 (t.size+1-m) m):=⟨hm,hlt,he⟩
     clear he
     have k0:(0:Int)<=(m:Int):=by omega
     have k1:(m:Int)+2<=(t.size:Int):=by omega
     have k2:(m:Int)<=(m:Int)+2:=by omega
     have k4:IntKind.i64.wrap ((m:Int)+2)=(m:Int)+2:=by rw [IntKind.wrap_i64];omega
     by_cases hx:t.extract m (m+2)=⟨#[110,56]⟩
     ·have HX:Hid (t.extract m (m+2)=⟨#[110,56]⟩):=hx
      have hy:(t.extract m (m+2) == ⟨#[110,56]⟩)=true:=by rw [hx];rfl
      rw [hx] at s1
      clear hx hy
      go_wp2_with fail
      go_quiet (fail)
      go_wp2_with fail
      go_quiet (fail)
      go_wp2
      go_ret2
      exact ⟨ret_n8 (ha.out.1 (by omega)) (firstAt_hit HM.out.1 HM.out.2.1 HX.out HM.out.2.2),by repeat' (with_reducible first|exact HB.out|refine below_drewN ?_ _)⟩
     ·have HX:Hid (¬ t.extract m (m+2)=⟨#[110,56]⟩):=hx
      have hy:((t.extract m (m+2)).toList == [110,56])=false:=lits_ne hx
      clear hx
      generalize t.extract m (m+2)=X at s1 hy
      go_wp2_with fail
      go_quiet (fail)
      go_wp2_with fail
      go_roundw
      case rel=>exact ⟨m+1,_,by have:=HM.out.2.1;omega,by go_num,rfl,firstAt_next HM.out.1 HM.out.2.1 HX.out HM.out.2.2⟩
      case measure=>have:=HM.out.2.1;simp [intOf];omega
    ·have HE:Hid (at1 t n8=none):=firstAt_end hm hlt he
     clear he
     go_wp2
     go_roundw
     case rel =>
      have HE:=HE.out
      exact ⟨_,.inr (.inr (.inl ⟨rfl,⟨fun _=>ha.out.1 (by omega),fun _=>HE,fun h=>by omega⟩⟩)),rfl⟩
     case measure=>simp [intOf]
  ·have ha:Hid (At t 2):=ha
   go_wp2
   go_loopw [6] (fun i wr=>∃ m n:Nat,m<=t.size/\i=.int .i64 m/\wr=W.drewN n/\at1 t e8=firstAt t e8 (t.size+1-m) m) (fun i _=>t.size-(intOf i).toNat)
   case atStart=>exact ⟨0,n,Nat.zero_le _,rfl,rfl,rfl⟩
   case round =>
    obtain ⟨m,n2,hm,rfl,rfl,he⟩:=hrel
    by_cases hlt:m+2<=t.size
    ·have s1:=slice_2 t m hlt
     have HM:Hid (m<=t.size/\m+2<=t.size/\at1 t e8=firstAt t e8 (t.size+1-m) m):=⟨hm,hlt,he⟩
     clear he
     have k0:(0:Int)<=(m:Int):=by omega
     have k1:(m:Int)+2<=(t.size:Int):=by omega
     have k2:(m:Int)<=(m:Int)+2:=by omega
     have k4:IntKind.i64.wrap ((m:Int)+2)=(m:Int)+2:=by rw [IntKind.wrap_i64];omega
     by_cases hx:t.extract m (m+2)=⟨#[101,56]⟩
     ·have HX:Hid (t.extract m (m+2)=⟨#[101,56]⟩):=hx
      have hy:(t.extract m (m+2) == ⟨#[101,56]⟩)=true:=by rw [hx];rfl
      rw [hx] at s1
      clear hx hy
      go_wp2_with fail
      go_quiet (fail)
      go_wp2_with fail
      go_quiet (fail)
      go_wp2
      go_ret2
      exact ⟨ret_e8 (ha.out.1 (by omega)) (ha.out.2.1 (by omega)) (firstAt_hit HM.out.1 HM.out.2.1 HX.out HM.out.2.2),by repeat' (with_reducible first|exact HB.out|refine below_drewN ?_ _)⟩
     ·have HX:Hid (¬ t.extract m (m+2)=⟨#[101,56]⟩):=hx
      have hy:((t.extract m (m+2)).toList == [101,56])=false:=lits_ne hx
      clear hx
      generalize t.extract m (m+2)=X at s1 hy
      go_wp2_with fail
      go_quiet (fail)
      go_wp2_with fail
      go_roundw
      case rel=>exact ⟨m+1,_,by have:=HM.out.2.1;omega,by go_num,rfl,firstAt_next HM.out.1 HM.out.2.1 HX.out HM.out.2.2⟩
      case measure=>have:=HM.out.2.1;simp [intOf];omega
    ·have HE:Hid (at1 t e8=none):=firstAt_end hm hlt he
     clear he
     go_wp2
     go_roundw
     case rel =>
      have HE:=HE.out
      exact ⟨_,.inr (.inr (.inr ⟨rfl,⟨fun _=>ha.out.1 (by omega),fun _=>ha.out.2.1 (by omega),fun _=>HE⟩⟩)),rfl⟩
     case measure=>simp [intOf]
  ·have ha:Hid (At t 3):=ha
   go_wp2
   go_ret2
   exact ⟨ret_no (ha.out.1 (by omega)) (ha.out.2.1 (by omega)) (ha.out.2.2 (by omega)),by repeat' (with_reducible first|exact HB.out|refine below_drewN ?_ _)⟩
end HoleX
namespace HolI
open HoleX (n8 n16 e8)
def MaxL (w:World):Prop:=∃ m:Int,w.cell? ⟨9,0,none⟩=some (.int .i64 m)
theorem cell_lt {w:World} {p:Addr} {v:Value} (h:w.cell? p=some v):p.block<w.heap.size:=by
 by_cases hlt:p.block<w.heap.size
 ·exact hlt
 ·exfalso
  simp [World.cell?,Array.getElem?_eq_none (Nat.not_lt.mp hlt)] at h
theorem MaxL.below {w w':World} (h:MaxL w) (b:Below w.heap.size w w'):MaxL w':=by
 obtain ⟨m,hm⟩:=h
 exact ⟨m,by rw [b.cell (cell_lt hm)];exact hm⟩
theorem box {w w':World} {vs:Array Value} {T:TypeId} (h:Below (w.alloc (.cells vs T)).heap.size (w.alloc (.cells vs T)) w') (i:Nat) (v:Value) (hv:vs[i]? = some v):w'.cell? ⟨w.heap.size,i,none⟩=some v:=by
 rw [h.cell (p:=⟨w.heap.size,i,none⟩) (by simp),World.cell?_alloc_new]
 exact hv
theorem unbox {w w':World} {o:Obj} (h:Below (w.alloc o).heap.size (w.alloc o) w'):Below w.heap.size w w':=(zAl _ _).trans (h.mono (by simp))
theorem after {a w w':World} (h:Below a.heap.size a w) (k:Below w.heap.size w w'):Below a.heap.size a w':=h.trans (k.mono h.size)
def holeI (s:ByteArray):ByteArray:=if Lib.contains s.data.toList n8.data.toList=true then n8 else if Lib.contains s.data.toList n16.data.toList=true then n16 else if Lib.contains s.data.toList e8.data.toList=true then e8 else ⟨#[]⟩
theorem holeI_cases (s:ByteArray):holeI s=⟨#[110,56]⟩ \/ holeI s=⟨#[110,49,54]⟩ \/ holeI s=⟨#[101,56]⟩ \/ holeI s=⟨#[]⟩:=by
 unfold holeI
 split
 ·exact .inl rfl
 split
 ·exact .inr (.inl rfl)
 split
 ·exact .inr (.inr (.inl rfl))
 ·exact .inr (.inr (.inr rfl))
def No (s:ByteArray) (i:Nat):Prop:=(1<=i->Lib.contains s.data.toList n8.data.toList=false)/\(2<=i->Lib.contains s.data.toList n16.data.toList=false)/\(3<=i->Lib.contains s.data.toList e8.data.toList=false)
theorem arr_0 (w:World):(Instr.index 192 (.agg #[.string ⟨#[110,56]⟩,.string ⟨#[110,49,54]⟩,.string ⟨#[101,56]⟩]) (.int .i64 0)).run prog w=.ok (.string ⟨#[110,56]⟩) w:=by kernel_rfl
theorem arr_1 (w:World):(Instr.index 192 (.agg #[.string ⟨#[110,56]⟩,.string ⟨#[110,49,54]⟩,.string ⟨#[101,56]⟩]) (.int .i64 1)).run prog w=.ok (.string ⟨#[110,49,54]⟩) w:=by kernel_rfl
theorem arr_2 (w:World):(Instr.index 192 (.agg #[.string ⟨#[110,56]⟩,.string ⟨#[110,49,54]⟩,.string ⟨#[101,56]⟩]) (.int .i64 2)).run prog w=.ok (.string ⟨#[101,56]⟩) w:=by kernel_rfl
theorem holeOf_any (s:ByteArray) (w:World) (hs:s.size<=1000) (hm:MaxL w) :
  Calls prog 148 #[.string s] w fun e w'=>e=.returned (.string (holeI s))/\Below w.heap.size w w':=by
 obtain ⟨m,hm⟩:=hm
 go_enter func148,ntmps148
 have x0:=arr_0
 have x1:=arr_1
 have x2:=arr_2
 have HB:Hid (s.size<4294967281):=by show s.size<4294967281;omega
 clear hs
 go_wp2_with fail
 go_loopw [6] (fun i wr=>((i=.int .i64 0) \/ (i=.int .i64 1/\No s 1) \/ (i=.int .i64 2/\No s 2) \/ (i=.int .i64 3/\No s 3))/\wr=w) (fun i _=>3-(intOf i).toNat)
 case atStart=>exact ⟨.inl rfl,rfl⟩
 case round =>
  obtain ⟨hi,rfl⟩:=hrel
  rcases hi with rfl|⟨rfl,ha⟩|⟨rfl,ha⟩|⟨rfl,ha⟩
  ·cases hc:Lib.contains s.data.toList n8.data.toList
   ·have HC:Hid (Lib.contains s.data.toList n8.data.toList=false):=hc
    have c:=fun w hm=>Tryz.strings_Contains s ⟨#[110,56]⟩ m w HB.out hm
    rw [show Lib.contains s.data.toList (⟨#[110,56]⟩ : ByteArray).data.toList=false from hc] at c
    clear hc
    go_wp2_with (go_at_call 136;refine (c _ hm).mono ?_;rintro e w' ⟨rfl,hw⟩;subst hw)
    go_roundw
    case rel=>exact ⟨.inr (.inl ⟨by go_num,fun _=>HC.out,fun h=>by omega,fun h=>by omega⟩),trivial⟩
    case measure=>simp [intOf]
   ·have c:=fun w hm=>Tryz.strings_Contains s ⟨#[110,56]⟩ m w HB.out hm
    rw [show Lib.contains s.data.toList (⟨#[110,56]⟩ : ByteArray).data.toList=true from hc] at c
    have HR:Hid (Ending.returned (.string ⟨#[110,56]⟩)=.returned (.string (holeI s))):=by show _=_;unfold holeI;rw [if_pos hc];rfl
    clear hc
    go_wp2_with (go_at_call 136;refine (c _ hm).mono ?_;rintro e w' ⟨rfl,hw⟩;subst hw)
    go_ret
    exact ⟨HR.out,Below.refl _ _⟩
  ·have HA:Hid (No s 1):=ha
   clear ha
   cases hc:Lib.contains s.data.toList n16.data.toList
   ·have HC:Hid (Lib.contains s.data.toList n16.data.toList=false):=hc
    have c:=fun w hm=>Tryz.strings_Contains s ⟨#[110,49,54]⟩ m w HB.out hm
    rw [show Lib.contains s.data.toList (⟨#[110,49,54]⟩ : ByteArray).data.toList=false from hc] at c
    clear hc
    go_wp2_with (go_at_call 136;refine (c _ hm).mono ?_;rintro e w' ⟨rfl,hw⟩;subst hw)
    go_roundw
    case rel=>exact ⟨.inr (.inr (.inl ⟨by go_num,fun _=>HA.out.1 (by omega),fun _=>HC.out,fun h=>by omega⟩)),trivial⟩
    case measure=>simp [intOf]
   ·have c:=fun w hm=>Tryz.strings_Contains s ⟨#[110,49,54]⟩ m w HB.out hm
    rw [show Lib.contains s.data.toList (⟨#[110,49,54]⟩ : ByteArray).data.toList=true from hc] at c
    have HR:Hid (Ending.returned (.string ⟨#[110,49,54]⟩)=.returned (.string (holeI s))):=by show _=_;unfold holeI;rw [if_neg (by rw [HA.out.1 (by omega)];decide),if_pos hc];rfl
    clear hc
    go_wp2_with (go_at_call 136;refine (c _ hm).mono ?_;rintro e w' ⟨rfl,hw⟩;subst hw)
    go_ret
    exact ⟨HR.out,Below.refl _ _⟩
  ·have HA:Hid (No s 2):=ha
   clear ha
   cases hc:Lib.contains s.data.toList e8.data.toList
   ·have HC:Hid (Lib.contains s.data.toList e8.data.toList=false):=hc
    have c:=fun w hm=>Tryz.strings_Contains s ⟨#[101,56]⟩ m w HB.out hm
    rw [show Lib.contains s.data.toList (⟨#[101,56]⟩ : ByteArray).data.toList=false from hc] at c
    clear hc
    go_wp2_with (go_at_call 136;refine (c _ hm).mono ?_;rintro e w' ⟨rfl,hw⟩;subst hw)
    go_roundw
    case rel=>exact ⟨.inr (.inr (.inr ⟨by go_num,fun _=>HA.out.1 (by omega),fun _=>HA.out.2.1 (by omega),fun _=>HC.out⟩)),trivial⟩
    case measure=>simp [intOf]
   ·have c:=fun w hm=>Tryz.strings_Contains s ⟨#[101,56]⟩ m w HB.out hm
    rw [show Lib.contains s.data.toList (⟨#[101,56]⟩ : ByteArray).data.toList=true from hc] at c
    have HR:Hid (Ending.returned (.string ⟨#[101,56]⟩)=.returned (.string (holeI s))):=by show _=_;unfold holeI;rw [if_neg (by rw [HA.out.1 (by omega)];decide),if_neg (by rw [HA.out.2.1 (by omega)];decide),if_pos hc];rfl
    clear hc
    go_wp2_with (go_at_call 136;refine (c _ hm).mono ?_;rintro e w' ⟨rfl,hw⟩;subst hw)
    go_ret
    exact ⟨HR.out,Below.refl _ _⟩
  ·have HR:Hid (Ending.returned (.string ⟨#[]⟩)=.returned (.string (holeI s))):=by
    show _=_;unfold holeI;rw [if_neg (by rw [ha.1 (by omega)];decide),if_neg (by rw [ha.2.1 (by omega)];decide),if_neg (by rw [ha.2.2 (by omega)];decide)]
   clear ha
   go_wp2
   go_ret
   exact ⟨HR.out,Below.refl _ _⟩
end HolI
namespace Cyc
open Shape
theorem chosen_any (b:Bool) (y n:Int) (w:World) :
  Calls prog 168 #[.bool b,.int .i64 y,.int .i64 n] w fun e w'=>e=.returned (.int .i64 (if b=true then y else n))/\w'=w:=by
 cases b
 all_goals
  go_enter func168,ntmps168
  go_wp2
  go_ret
  exact ⟨rfl,rfl⟩
def prefC (x z:Int):Int:=if z=6 then (if x=1 then 3 else 4) else 2
theorem prefixCycles_any (x y z p q:Int) (w:World) :
  Calls prog 137 #[.agg #[.int .i64 x,.int .i64 y,.int .i64 z,.int .i64 p,.int .i64 q]] w fun e w'=>e=.returned (.int .i64 (prefC x z))/\Below w.heap.size w w':=by
 by_cases hz:z=6
 ·subst hz
  by_cases hx:x=1
  ·subst hx
   go_enter func137,ntmps137
   go_wp2
   go_ret
   exact ⟨rfl,zAl _ _⟩
  ·have hx':(x == 1)=false:=by simpa using hx
   have e:prefC x 6=4:=by unfold prefC;rw [if_pos rfl,if_neg hx]
   rw [e]
   go_enter func137,ntmps137
   go_wp2
   go_ret
   exact ⟨rfl,zAl _ _⟩
 ·have hz':(z == 6)=false:=by simpa using hz
  have hz'':(z != 6)=true:=by simpa using hz
  have e:prefC x z=2:=by unfold prefC;rw [if_neg hz]
  rw [e]
  go_enter func137,ntmps137
  go_wp2
  go_ret
  exact ⟨rfl,zAl _ _⟩
end Cyc
namespace CycD
theorem grow {B:Nat} {a b:World} (h:Below B a b) (hB:B=a.heap.size) (o:Obj):Below B a (b.alloc o):=h.alloc (by subst hB;exact h.size) o
def ob (b:Bool):Int:=if b=true then 1 else 0
def lowC (y z:Int) (t:Bool):Int:=if z=0 then (if y=0 then 1 else if y=1 then 5 else if y=2 then 1 else if y=3 then 3 else 2+ob t) else if z=1 then 3-y%2 else if z=2 then 2 else if z=3 then 2 else if z=7 then 1 else if y=6 then 3 else if z=6 then 2 else 1
def topC (y z:Int) (t:Bool):Int:=if z=0 then (if y<4 then 2+3*ob t else if y=5 then 4 else 3) else if z=1 then (if y%2=0 then 3 else if y=5 then 1 else if y=7 then 2 else 4) else if z=2 then (if y<4 then 3+ob t else if y%2=0 then 2 else 4) else if z=3 then (if y=0 then 4 else 1) else if z=4 then 3+3*ob t else if z=5 then (if y=1 then 6 else 4) else if z=6 then 2 else 4
def goneB (y z:Int):Bool:=(z == 3 && (1<=y && y<=5)) || (z == 4 && 4<=y) || (z == 5 && (y == 3 || y == 5 || y == 7))
end CycD
namespace CycE
open Tabs (cases8)
open CycD
theorem one_any (b:Bool) (w:World):Calls prog 132 #[.bool b] w fun e w'=>e=.returned (.int .i64 (ob b))/\w'=w:=by
 cases b
 all_goals
  go_enter func132,ntmps132
  go_wp2
  go_ret
  exact ⟨rfl,rfl⟩
end CycE
namespace CycS
open Tabs (cases8)
open CycD CycE
theorem cycles_any (y z:Int) (t:Bool) (w:World) (y0:0<=y) (y1:y<=7) (z0:0<=z) (z1:z<=7) :
  Calls prog 133 #[.int .i64 y,.int .i64 z,.bool t] w fun e w'=>e=.returned (.int .i64 (topC y z t))/\Below w.heap.size w w':=by
 have c:=fun w=>one_any t w
 rcases cases8 z0 z1 with rfl|rfl|rfl|rfl|rfl|rfl|rfl|rfl <;> rcases cases8 y0 y1 with rfl|rfl|rfl|rfl|rfl|rfl|rfl|rfl <;> cases t
 all_goals
  rw [show ob _=_ from rfl] at c
  go_enter func133,ntmps133
  go_wp2_with (go_at_call 132;refine (c _).mono ?_;rintro e w' ⟨rfl,hw'⟩;have hw':=hw'.symm;subst hw')
  go_ret
  refine ⟨Signed.ret_int (by decide +kernel),?_⟩
  repeat' with_reducible first|exact zRf|refine below_of_drew ?_|refine grow ?_ rfl _
end CycS
end Go.Proofs.YteglcgnhhoenbaaGreatDoor
