import Derived.Test.YteglcgnhhoenbaaGreatDoorQ02
import Derived.WalkSmall
import Derived.Lib.IndexMore
set_option linter.all false
set_option maxRecDepth 20000
set_option maxHeartbeats 8000000
open Go.ChangeShapes Go.WideShapes Go.ChangeAt Go.RowKit
open Go.Proofs.Tryz
namespace Go.Proofs.YteglcgnhhoenbaaGreatDoor
namespace CartL
open Go.Deep
open Signed (inB aG aB aC aE)
open Carts CartK
theorem grow {a w:World} (h:Below a.heap.size a w) (o:Obj):Below a.heap.size a (w.alloc o):=h.alloc h.size o
theorem after {a w w':World} (h:Below a.heap.size a w) (k:Below w.heap.size w w'):Below a.heap.size a w':=h.trans (k.mono h.size)
theorem aKI:prog.cellsOf 49=7:=by kernel_rfl
theorem eK:prog.cellsOf 2=1:=by kernel_rfl
theorem aAP:prog.cellsOf 4=1:=by kernel_rfl
theorem tW:prog.cellsOf 9=1:=by kernel_rfl
theorem aSD:∃ f0 f1 f2 f3 f4 f5 f6:Field,prog.underlying 49=some (.struct #[f0,f1,f2,f3,f4,f5,f6])/\(f0.type=9/\f0.offset=0)/\(f1.type=2/\f1.offset=1)/\(f2.type=2/\f2.offset=2)/\(f3.type=9/\f3.offset=3)/\(f4.type=2/\f4.offset=4)/\(f5.type=4/\f5.offset=5)/\(f6.type=2/\f6.offset=6) :=
 ⟨_,_,_,_,_,_,_,underlying49,⟨rfl,rfl⟩,⟨rfl,rfl⟩,⟨rfl,rfl⟩,⟨rfl,rfl⟩,⟨rfl,rfl⟩,⟨rfl,rfl⟩,⟨rfl,rfl⟩⟩
theorem aSE {H:Type} {enc:TypeId × Value->H} {w:World} {base:Nat} {spare:Nat->Bool} {held:Bool} {fuel:Nat} {cs:List Value} {x:DataW H × List MemPlace}
  (h:DataW.trod enc prog w base spare held fuel 49 cs=some x) :
  ∃ (rom:ByteArray) (kind bank:Int) (ram:ByteArray) (rb:Int) (on:Bool) (mode:Int),cs=[.string rom,.int .i64 kind,.int .i64 bank,.string ram,.int .i64 rb,.bool on,.int .i64 mode]/\rom.size<=maxLen/\ram.size<=maxLen:=by
 obtain ⟨f0,f1,f2,f3,f4,f5,f6,hf,⟨t0,o0⟩,⟨t1,o1⟩,⟨t2,o2⟩,⟨t3,o3⟩,⟨t4,o4⟩,⟨t5,o5⟩,⟨t6,o6⟩⟩:=aSD;obtain ⟨xs,n,_,_,hl,hlen,g⟩:=DataW.trod_struct hf h;rw [aKI] at hl
 match cs,hl,xs,hlen with
 | [v0,v1,v2,v3,v4,v5,v6],_,[y0,y1,y2,y3,y4,y5,y6],_ =>
  have g0:=g 0 f0 rfl;have g1:=g 1 f1 rfl;have g2:=g 2 f2 rfl;have g3:=g 3 f3 rfl;have g4:=g 4 f4 rfl;have g5:=g 5 f5 rfl;have g6:=g 6 f6 rfl;rw [t0,o0,tW] at g0
  rw [t1,o1,eK] at g1
  rw [t2,o2,eK] at g2
  rw [t3,o3,tW] at g3
  rw [t4,o4,eK] at g4
  rw [t5,o5,aAP] at g5
  rw [t6,o6,eK] at g6
  obtain ⟨s0,e0,_,z0⟩:=DataW.trod_string underlying9 g0;obtain ⟨n1,e1,_⟩:=DataW.trod_int underlying2 g1;obtain ⟨n2,e2,_⟩:=DataW.trod_int underlying2 g2;obtain ⟨s3,e3,_,z3⟩:=DataW.trod_string underlying9 g3;obtain ⟨n4,e4,_⟩:=DataW.trod_int underlying2 g4;obtain ⟨b5,e5,_⟩:=DataW.trod_bool underlying4 g5;obtain ⟨n6,e6,_⟩:=DataW.trod_int underlying2 g6;simp at e0 e1 e2 e3 e4 e5 e6
  subst e0 e1 e2 e3 e4 e5 e6;exact ⟨s0,n1,n2,s3,n4,b5,n6,rfl,z0,z3⟩
def mM (m:Int) (a b:Nat):Int:=if m-a<0 then -1 else if m-a-b<0 then -1 else m-a-b
theorem aAQ (rom:ByteArray) (kind bank:Int) (ram:ByteArray) (rb:Int) (on:Bool) (mode:Int) (m:Int) (w:World) (hs:rom.size<=maxLen) (hr:ram.size<=maxLen) (h0:0<=m) (h1:m<=1048576) :
  Calls prog 56 #[.agg #[.string rom,.int .i64 kind,.int .i64 bank,.string ram,.int .i64 rb,.bool on,.int .i64 mode],.int .i64 m] w fun e w'=>e=.returned (.int .i64 (mM m rom.size ram.size))/\w'=w.alloc (.cells #[.string rom,.int .i64 kind,.int .i64 bank,.string ram,.int .i64 rb,.bool on,.int .i64 mode] 49):=by
 unfold maxLen at hs hr
 by_cases h:m-rom.size<0
 ·have e:mM m rom.size ram.size = -1:=by unfold mM;rw [if_pos h]
  rw [e];clear e
  go_enter func56,ntmps56
  go_wp2;go_ret;exact ⟨rfl,rfl⟩
 by_cases h2:m-rom.size-ram.size<0
 ·have e:mM m rom.size ram.size = -1:=by unfold mM;rw [if_neg h,if_pos h2]
  rw [e];clear e
  go_enter func56,ntmps56
  go_wp2;go_ret;exact ⟨rfl,rfl⟩
 have e:mM m rom.size ram.size=m-rom.size-ram.size:=by unfold mM;rw [if_neg h,if_neg h2]
 rw [e];clear e
 go_enter func56,ntmps56
 go_wp2;go_ret;exact ⟨rfl,rfl⟩
theorem aAR (rom:ByteArray) (kind bank:Int) (ram:ByteArray) (rb:Int) (on:Bool) (mode:Int) (w:World) :
  Calls prog 59 #[.agg #[.string rom,.int .i64 kind,.int .i64 bank,.string ram,.int .i64 rb,.bool on,.int .i64 mode]] w fun e w'=>e=.returned (.agg #[.string rom,.int .i64 kind,.int .i64 bank,.string ram,.int .i64 rb,.bool on,.int .i64 mode])/\w'=((w.alloc (.cells #[.string rom,.int .i64 kind,.int .i64 bank,.string ram,.int .i64 rb,.bool on,.int .i64 mode] 49)).alloc (.cells #[.string rom,.int .i64 kind,.int .i64 bank,.string ram,.int .i64 rb,.bool on,.int .i64 mode] 27)).alloc (.cells #[.string rom,.int .i64 kind,.int .i64 bank,.string ram,.int .i64 rb,.bool on,.int .i64 mode] 27):=by
 go_enter func59,ntmps59
 go_wp2;exact bodyPost_ret (v:=.agg #[.string rom,.int .i64 kind,.int .i64 bank,.string ram,.int .i64 rb,.bool on,.int .i64 mode]) (by simp [results,results59,go_sem]) rfl ⟨rfl,rfl⟩
theorem aAS (rom:ByteArray) (kind bank:Int) (ram:ByteArray) (rb:Int) (on:Bool) (mode:Int) (w:World) :
  Calls prog 63 #[.agg #[.string rom,.int .i64 kind,.int .i64 bank,.string ram,.int .i64 rb,.bool on,.int .i64 mode],.agg #[.string rom,.int .i64 kind,.int .i64 bank,.string ram,.int .i64 rb,.bool on,.int .i64 mode]] w fun e w'=>e=.returned (.bool true)/\w'=(w.alloc (.cells #[.string rom,.int .i64 kind,.int .i64 bank,.string ram,.int .i64 rb,.bool on,.int .i64 mode] 27)).alloc (.cells #[.string rom,.int .i64 kind,.int .i64 bank,.string ram,.int .i64 rb,.bool on,.int .i64 mode] 27):=by
 go_enter func63,ntmps63
 go_wp2;go_ret;exact ⟨rfl,rfl⟩
theorem aAT (rom:ByteArray) (kind bank:Int) (ram:ByteArray) (rb:Int) (on:Bool) (mode:Int) (w:World) (hs:rom.size<=maxLen) (hr:ram.size<=maxLen) (h:okB rom kind bank ram rb on mode=true) :
  Calls prog 77 #[.agg #[.string rom,.int .i64 kind,.int .i64 bank,.string ram,.int .i64 rb,.bool on,.int .i64 mode]] w fun e w'=>e=.returned (.bool true)/\∃ T:TypeId,w'=((w.alloc (.cells #[.string rom,.int .i64 kind,.int .i64 bank,.string ram,.int .i64 rb,.bool on,.int .i64 mode] 27)).alloc (.cells #[] T)).alloc (.cells #[.string rom,.int .i64 kind,.int .i64 bank,.string ram,.int .i64 rb,.bool on,.int .i64 mode] 27):=by
 have hh:=h;simp only [okB,Bool.and_eq_true] at hh
 obtain ⟨⟨h1,h2⟩,h3⟩:=hh
 by_cases k0:kind=0
 ·subst k0
  refine (wS rom bank ram rb on mode w hs hr true true (by simpa [kG] using h1) h2).mono ?_;rintro e w' ⟨rfl,rfl⟩;exact ⟨aB (by simpa using h3),_,rfl⟩
 by_cases k1:kind=1
 ·subst k1
  refine (wT rom bank ram rb on mode w hs hr true true (by simpa [kG] using h1) h2).mono ?_;rintro e w' ⟨rfl,rfl⟩;exact ⟨aB (by simpa using h3),_,rfl⟩
 by_cases k2:kind=2
 ·subst k2
  refine (wU rom bank ram rb on mode w hs hr true true (by simpa [kG] using h1) h2).mono ?_;rintro e w' ⟨rfl,rfl⟩;exact ⟨aB (by simpa using h3),_,rfl⟩
 exfalso
 simp [kG,k0,k1,k2] at h1
theorem lY (rom:ByteArray) (kind bank:Int) (ram:ByteArray) (rb:Int) (on:Bool) (mode:Int) (w:World) (hs:rom.size<=maxLen) (hr:ram.size<=maxLen) :
  Calls prog 77 #[.agg #[.string rom,.int .i64 kind,.int .i64 bank,.string ram,.int .i64 rb,.bool on,.int .i64 mode]] w fun e w'=>e=.returned (.bool (okB rom kind bank ram rb on mode))/\Below w.heap.size w w':=by
 by_cases k0:kind=0
 ·subst k0
  refine (wS rom bank ram rb on mode w hs hr _ _ rfl rfl).mono ?_;rintro e w' ⟨rfl,rfl⟩;exact ⟨rfl,((zRf.alloc (by simp) _).alloc (by simp) _).alloc (by simp;try omega) _⟩
 by_cases k1:kind=1
 ·subst k1
  refine (wT rom bank ram rb on mode w hs hr _ _ rfl rfl).mono ?_;rintro e w' ⟨rfl,rfl⟩;exact ⟨rfl,((zRf.alloc (by simp) _).alloc (by simp) _).alloc (by simp;try omega) _⟩
 by_cases k2:kind=2
 ·subst k2
  refine (wU rom bank ram rb on mode w hs hr _ _ rfl rfl).mono ?_;rintro e w' ⟨rfl,rfl⟩;exact ⟨rfl,((zRf.alloc (by simp) _).alloc (by simp) _).alloc (by simp;try omega) _⟩
 refine (aFV rom kind bank ram rb on mode w k0 k1 k2).mono ?_;rintro e w' ⟨rfl,rfl⟩;exact ⟨aB (by simp [okB,kG,k0,k1,k2]),zRf.alloc (by simp) _⟩
end CartL
section
theorem zGr {a w:World} (h:Below a.heap.size a w) (o:Obj):Below a.heap.size a (w.alloc o):=h.alloc h.size o
end
namespace CartM
open Go.Deep
open Signed (inB aG aB aC aE)
open Carts CartK CartL
theorem right (rom:ByteArray) (kind bank:Int) (ram:ByteArray) (rb:Int) (on:Bool) (mode:Int) (h:okB rom kind bank ram rb on mode=true) :
  ∃ n:Nat,2<=n/\n<=16/\rom.size=256*n/\eZ rom.size=n/\ram.size=256/\0<=bank/\bank<=255/\0<=rb/\rb<=3/\0<=mode/\mode<=1/\(kind=0/\on=false \/ kind=1 \/ kind=2/\mode=0):=by
 simp only [okB,Bool.and_eq_true,beq_iff_eq] at h
 obtain ⟨⟨h1,h2⟩,h3⟩:=h;obtain ⟨z0,z1,z2,z3⟩:=oC h2;refine ⟨rom.size / 256,by omega,by omega,z3,by omega,h3,?_⟩;unfold kG inB at h1
 by_cases k0:kind=0
 ·rw [if_pos k0] at h1
  simp at h1
  obtain ⟨h4,h5,h6,h7⟩:=h1;exact ⟨by omega,by omega,by omega,by omega,by omega,by omega,.inl ⟨k0,h7⟩⟩
 rw [if_neg k0] at h1
 by_cases k1:kind=1
 ·rw [if_pos k1] at h1
  simp at h1
  omega
 rw [if_neg k1] at h1
 by_cases k2:kind=2
 ·rw [if_pos k2] at h1
  simp at h1
  omega
 rw [if_neg k2] at h1
 cases h1
theorem mN (rom:ByteArray) (kind bank:Int) (ram:ByteArray) (rb:Int) (on:Bool) (mode:Int) (w:World) (n:Nat) (n0:2<=n) (n1:n<=16) (hn:rom.size=256*n) (b0:0<=bank) (b1:bank<=255) :
  Calls prog 81 #[.agg #[.string rom,.int .i64 kind,.int .i64 bank,.string ram,.int .i64 rb,.bool on,.int .i64 mode]] w fun e w'=>e=.returned (.int .i64 (bank%n))/\w'=w.alloc (.cells #[.string rom,.int .i64 kind,.int .i64 bank,.string ram,.int .i64 rb,.bool on,.int .i64 mode] 27):=by
 have q:(rom.size:Int) / 256=n:=by omega
 go_enter func81,ntmps81
 go_wp2;go_ret;exact ⟨rfl,rfl⟩
theorem qH (rom:ByteArray) (kind bank:Int) (ram:ByteArray) (rb:Int) (on:Bool) (mode:Int) (w:World) (hs:rom.size<=maxLen) (hr:ram.size<=maxLen) (h:okB rom kind bank ram rb on mode=true) (n:Nat) (hn:eZ rom.size=n) (n0:2<=n) (n1:n<=16) (b0:0<=bank) (b1:bank<=255) :
  Calls prog 89 #[.agg #[.string rom,.int .i64 kind,.int .i64 bank,.string ram,.int .i64 rb,.bool on,.int .i64 mode]] w fun e w'=>e=.returned (.int .i64 (bank%n))/\∃ k,w'=((w.alloc (.cells #[.string rom,.int .i64 kind,.int .i64 bank,.string ram,.int .i64 rb,.bool on,.int .i64 mode] 27)).alloc (.cells #[.string rom,.int .i64 kind,.int .i64 bank,.string ram,.int .i64 rb,.bool on,.int .i64 mode] 27)).drewN k:=by
 have c1:=fun w=>jE rom kind bank ram rb on mode w hs hr
 have c2:=fun w=>fY rom w hs
 rw [h] at c1
 rw [hn] at c2
 clear h hn
 go_enter func89,ntmps89
 go_wp2_with (go_at_call 55;refine (c1 _).mono ?_;rintro e w' ⟨rfl,rfl⟩)
 go_quiet ((go_at_call 107;exact Calls.quiet_of_same (c2 _)))
 go_wp2;go_ret;exact ⟨rfl,_,rfl⟩
end CartM
namespace CartR
open Go.Deep
open Signed (inB aG aB aC aE)
open Carts CartK CartL CartM
def aH (s:ByteArray) (i:Int):Int:=if h:i.toNat<s.size then ((s[i.toNat]'h).toNat:Int) else 0
theorem lA {s:ByteArray} {i:Int} (h:i.toNat<s.size):((s[i.toNat]'h).toNat:Int)=aH s i:=by unfold aH;rw [dif_pos h]
theorem bH (s:ByteArray) (i:Int):0<=aH s i/\aH s i<=255:=by
 unfold aH;split
 ·rename_i h
  have:=(s[i.toNat]'h).toNat_lt
  omega
 ·omega
theorem dF {s:ByteArray} {i:Int} (h:i.toNat<s.size):wrap64 ((s[i.toNat]'h).toNat:Int)=aH s i:=by
 rw [lA h]
 have:=bH s i
 unfold wrap64;omega
theorem jH {s:ByteArray} {i:Int} (h:i.toNat<s.size):IntKind.i64.wrap ((s[i.toNat]'h).toNat:Int)=aH s i:=by
 rw [lA h]
 have:=bH s i
 rw [x6];omega
def gX (kind rb mode:Int):Int:=if kind=1/\mode=0 then 0 else rb
theorem lC {kind rb mode:Int} (h0:0<=rb) (h1:rb<=3):0<=gX kind rb mode/\gX kind rb mode<=3:=by unfold gX;split <;> omega
theorem eV (n:Int) (w:World) :
  Calls prog 54 #[.int .i64 n] w fun e w'=>e=.returned (.bool (inB n 0 65535))/\w'=w:=by
 go_enter func54,ntmps54
 go_wp2_with (go_at_call 42;refine (aE _ _ _ _).mono ?_;rintro e w' ⟨rfl,rfl⟩)
 go_ret;exact ⟨rfl,rfl⟩
theorem bX (n:Int) (w:World) :
  Calls prog 112 #[.int .i64 n] w fun e w'=>e=.returned (.bool (inB n 0 65535))/\w'=w:=by
 go_enter func112,ntmps112
 go_wp2
 all_goals go_ret
 all_goals exact ⟨aB (by rw [Bool.eq_iff_iff];simp [inB];try omega),rfl⟩
theorem bKZ (w:World):(Instr.typeAssert (.iface 175 (.agg #[])) 144 176 true).run prog w=.ok (.tuple #[.agg #[],.bool false]) w:=by kernel_rfl
theorem bLA (w:World):(Instr.typeAssert (.iface 175 (.agg #[])) 144 177 true).run prog w=.ok (.tuple #[.agg #[],.bool false]) w:=by kernel_rfl
theorem aKJ (w:World):(Instr.typeAssert (.iface 176 (.agg #[])) 144 176 true).run prog w=.ok (.tuple #[.agg #[],.bool true]) w:=by kernel_rfl
theorem aKK (w:World):(Instr.typeAssert (.iface 176 (.agg #[])) 144 177 true).run prog w=.ok (.tuple #[.agg #[],.bool false]) w:=by kernel_rfl
theorem aKL (w:World):(Instr.typeAssert (.iface 177 (.agg #[])) 144 176 true).run prog w=.ok (.tuple #[.agg #[],.bool false]) w:=by kernel_rfl
theorem aKM (w:World):(Instr.typeAssert (.iface 177 (.agg #[])) 144 177 true).run prog w=.ok (.tuple #[.agg #[],.bool true]) w:=by kernel_rfl
theorem aZY (rom:ByteArray) (bank:Int) (ram:ByteArray) (rb:Int) (on:Bool) (mode:Int) (w:World) (h0:0<=rb) (h1:rb<=3) (m0:0<=mode) (m1:mode<=1) :
  Calls prog 256 #[.agg #[.string rom,.int .i64 1,.int .i64 bank,.string ram,.int .i64 rb,.bool on,.int .i64 mode]] w fun e w'=>e=.returned (.int .i64 (gX 1 rb mode))/\w'=w.alloc (.cells #[.string rom,.int .i64 1,.int .i64 bank,.string ram,.int .i64 rb,.bool on,.int .i64 mode] 27):=by
 have hm:mode=0 \/ mode=1:=by omega
 have a1:=aKJ;have a2:=aKK;rcases hm with rfl|rfl
 all_goals
  go_enter func256,ntmps256
  go_wp2_with (go_at_call 113;refine (fQ _).mono ?_;rintro e w' ⟨rfl,rfl⟩)
  go_ret;exact ⟨aG (by simp [gX]),rfl⟩
theorem aZZ (rom:ByteArray) (bank:Int) (ram:ByteArray) (rb:Int) (on:Bool) (mode:Int) (w:World) :
  Calls prog 256 #[.agg #[.string rom,.int .i64 2,.int .i64 bank,.string ram,.int .i64 rb,.bool on,.int .i64 mode]] w fun e w'=>e=.returned (.int .i64 (gX 2 rb mode))/\w'=w.alloc (.cells #[.string rom,.int .i64 2,.int .i64 bank,.string ram,.int .i64 rb,.bool on,.int .i64 mode] 27):=by
 have a1:=aKL;have a2:=aKM
 go_enter func256,ntmps256
 go_wp2_with (go_at_call 113;refine (fR _).mono ?_;rintro e w' ⟨rfl,rfl⟩)
 go_ret;exact ⟨aG (by simp [gX]),rfl⟩
theorem aKN (rom:ByteArray) (kind bank:Int) (ram:ByteArray) (rb:Int) (on:Bool) (mode:Int) (w:World) (h0:0<=rb) (h1:rb<=3) (m0:0<=mode) (m1:mode<=1) (hk:kind=1 \/ kind=2) :
  Calls prog 256 #[.agg #[.string rom,.int .i64 kind,.int .i64 bank,.string ram,.int .i64 rb,.bool on,.int .i64 mode]] w fun e w'=>e=.returned (.int .i64 (gX kind rb mode))/\w'=w.alloc (.cells #[.string rom,.int .i64 kind,.int .i64 bank,.string ram,.int .i64 rb,.bool on,.int .i64 mode] 27):=by
 rcases hk with rfl|rfl
 ·exact aZY rom bank ram rb on mode w h0 h1 m0 m1
 ·exact aZZ rom bank ram rb on mode w
theorem iL (rom:ByteArray) (kind bank:Int) (ram:ByteArray) (rb:Int) (on:Bool) (mode:Int) (w:World) :
  Calls prog 233 #[.agg #[.string rom,.int .i64 kind,.int .i64 bank,.string ram,.int .i64 rb,.bool on,.int .i64 mode]] w fun e w'=>e=.returned (.int .i64 (gX kind rb mode))/\w'=w.alloc (.cells #[.string rom,.int .i64 kind,.int .i64 bank,.string ram,.int .i64 rb,.bool on,.int .i64 mode] 27):=by
 go_enter func233,ntmps233
 go_wp2
 all_goals go_ret
 all_goals exact ⟨aG (by simp_all [gX]),by first|rfl|simp_all⟩
theorem xA (rom:ByteArray) (kind bank:Int) (ram:ByteArray) (rb:Int) (on:Bool) (mode:Int) (addr:Int) (w:World) (h:on=false \/ addr<40960 \/ 41024<=addr) :
  Calls prog 238 #[.agg #[.string rom,.int .i64 kind,.int .i64 bank,.string ram,.int .i64 rb,.bool on,.int .i64 mode],.int .i64 addr] w fun e w'=>e=.returned (.int .i64 (-1))/\w'=w.alloc (.cells #[.string rom,.int .i64 kind,.int .i64 bank,.string ram,.int .i64 rb,.bool on,.int .i64 mode] 27):=by
 cases on with
 | false =>
  go_enter func238,ntmps238
  go_wp2;go_ret;exact ⟨rfl,rfl⟩
 | true =>
  have h':addr<40960 \/ 41024<=addr:=by simpa using h
  rcases h' with h'|h'
  ·go_enter func238,ntmps238
   go_wp2;go_ret;exact ⟨rfl,rfl⟩
  ·have d:¬ addr<40960:=by omega
   have d2:decide (addr<40960)=false:=u6 d
   go_enter func238,ntmps238
   go_wp2;go_ret;exact ⟨rfl,rfl⟩
theorem sO (rom:ByteArray) (kind bank:Int) (ram:ByteArray) (rb:Int) (mode:Int) (addr:Int) (w:World) (h0:0<=rb) (h1:rb<=3) (m0:0<=mode) (m1:mode<=1) (hk:kind=1 \/ kind=2) (a0:40960<=addr) (a1:addr<41024) (r:Int) (hr:gX kind rb mode=r) :
  Calls prog 238 #[.agg #[.string rom,.int .i64 kind,.int .i64 bank,.string ram,.int .i64 rb,.bool true,.int .i64 mode],.int .i64 addr] w fun e w'=>e=.returned (.int .i64 (r*64+addr-40960))/\w'=(w.alloc (.cells #[.string rom,.int .i64 kind,.int .i64 bank,.string ram,.int .i64 rb,.bool true,.int .i64 mode] 27)).alloc (.cells #[.string rom,.int .i64 kind,.int .i64 bank,.string ram,.int .i64 rb,.bool true,.int .i64 mode] 27):=by
 have c:=fun w=>aKN rom kind bank ram rb true mode w h0 h1 m0 m1 hk
 obtain ⟨r0,r1⟩:=lC (kind:=kind) (mode:=mode) h0 h1;rw [hr] at c r0 r1
 have d2:decide (addr<40960)=false:=u6 (by omega);have d3:decide (41024<=addr)=false:=u6 (by omega);clear hr hk h0 h1 m0 m1
 go_enter func238,ntmps238
 go_wp2_with (go_at_call 256;refine (c _).mono ?_;rintro e w' ⟨rfl,rfl⟩)
 go_ret;exact ⟨rfl,rfl⟩
def rdV (rom:ByteArray) (q:Int) (ram:ByteArray) (r:Int) (on:Bool) (addr:Int):Int :=
 if addr<256 then aH rom addr else if addr<512 then aH rom (q*256+addr-256) else if on=true/\40960<=addr/\addr<41024 then aH ram (r*64+addr-40960) else 255
theorem bAA (rom:ByteArray) (q:Int) (ram:ByteArray) (r:Int) (on:Bool) (addr:Int):0<=rdV rom q ram r on addr/\rdV rom q ram r on addr<=255:=by
 unfold rdV
 split;exact bH _ _
 split;exact bH _ _
 split;exact bH _ _
 omega
theorem bGL (rom:ByteArray) (kind bank:Int) (ram:ByteArray) (rb:Int) (on:Bool) (mode:Int) (addr:Int) (w:World) (s0:512<=rom.size) (a0:0<=addr) (a1:addr<256) :
  Calls prog 165 #[.agg #[.string rom,.int .i64 kind,.int .i64 bank,.string ram,.int .i64 rb,.bool on,.int .i64 mode],.int .i64 addr] w fun e w'=>e=.returned (.int .i64 (aH rom addr))/\Below w.heap.size w w':=by
 have h:addr.toNat<rom.size:=by omega
 have hb:=dF h
 go_enter func165,ntmps165
 go_wp2;go_ret;exact ⟨aG hb,by repeat (with_reducible first|exact zRf|refine zGr ?_ _|refine below_drewN ?_ _|refine Below.drew ?_)⟩
theorem bGM (rom:ByteArray) (kind bank:Int) (ram:ByteArray) (rb:Int) (on:Bool) (mode:Int) (addr q:Int) (w:World) (s1:rom.size<=4096) (q0:0<=q) (q1:q<=15) (q2:q*256+256<=rom.size) (a0:256<=addr) (a1:addr<512)
  (c2:∀ w,Calls prog 81 #[.agg #[.string rom,.int .i64 kind,.int .i64 bank,.string ram,.int .i64 rb,.bool on,.int .i64 mode]] w fun e w'=>e=.returned (.int .i64 q)/\w'=w.alloc (.cells #[.string rom,.int .i64 kind,.int .i64 bank,.string ram,.int .i64 rb,.bool on,.int .i64 mode] 27)) :
  Calls prog 165 #[.agg #[.string rom,.int .i64 kind,.int .i64 bank,.string ram,.int .i64 rb,.bool on,.int .i64 mode],.int .i64 addr] w fun e w'=>e=.returned (.int .i64 (aH rom (q*256+addr-256)))/\Below w.heap.size w w':=by
 have i0:0<=q*256+addr-256:=by omega
 have i1:q*256+addr-256<(rom.size:Int):=by omega
 have h:(q*256+addr-256).toNat<rom.size:=by omega
 have hb:=dF h;have e1:IntKind.i64.wrap (q*256)=q*256:=by rw [x6];omega
 have e2:IntKind.i64.wrap (q*256+addr)=q*256+addr:=by rw [x6];omega
 have e3:IntKind.i64.wrap (q*256+addr-256)=q*256+addr-256:=by rw [x6];omega
 go_enter func165,ntmps165
 go_wp2
 go_region_with (go_at_call 81;refine (c2 _).mono ?_;rintro e w' ⟨rfl,rfl⟩)
 all_goals go_wp2
 all_goals go_ret
 all_goals exact ⟨aG (jH h),by repeat (with_reducible first|exact zRf|refine zGr ?_ _|refine below_drewN ?_ _|refine Below.drew ?_)⟩
theorem bGN (rom:ByteArray) (kind bank:Int) (ram:ByteArray) (rb:Int) (on:Bool) (mode:Int) (addr:Int) (w:World) (a0:512<=addr) (h:on=false \/ addr<40960 \/ 41024<=addr) :
  Calls prog 165 #[.agg #[.string rom,.int .i64 kind,.int .i64 bank,.string ram,.int .i64 rb,.bool on,.int .i64 mode],.int .i64 addr] w fun e w'=>e=.returned (.int .i64 255)/\Below w.heap.size w w':=by
 have c:=fun w=>xA rom kind bank ram rb on mode addr w h
 clear h
 go_enter func165,ntmps165
 go_wp2_with (go_at_call 238;refine (c _).mono ?_;rintro e w' ⟨rfl,rfl⟩)
 go_ret;exact ⟨rfl,by repeat (with_reducible first|exact zRf|refine zGr ?_ _|refine below_drewN ?_ _|refine Below.drew ?_)⟩
theorem bGO (rom:ByteArray) (kind bank:Int) (ram:ByteArray) (rb:Int) (mode:Int) (addr r:Int) (w:World) (sr:ram.size=256) (h0:0<=rb) (h1:rb<=3) (m0:0<=mode) (m1:mode<=1) (hk:kind=1 \/ kind=2) (a0:40960<=addr) (a1:addr<41024) (hr:gX kind rb mode=r) :
  Calls prog 165 #[.agg #[.string rom,.int .i64 kind,.int .i64 bank,.string ram,.int .i64 rb,.bool true,.int .i64 mode],.int .i64 addr] w fun e w'=>e=.returned (.int .i64 (aH ram (r*64+addr-40960)))/\Below w.heap.size w w':=by
 have c:=fun w=>sO rom kind bank ram rb mode addr w h0 h1 m0 m1 hk a0 a1 r hr
 obtain ⟨r0,r1⟩:=lC (kind:=kind) (mode:=mode) h0 h1;rw [hr] at r0 r1
 clear hr hk h0 h1 m0 m1;have i0:0<=r*64+addr-40960:=by omega
 have i1:r*64+addr-40960<(ram.size:Int):=by omega
 have h:(r*64+addr-40960).toNat<ram.size:=by omega
 clear sr;have hb:=dF h
 go_enter func165,ntmps165
 go_wp2_with (go_at_call 238;refine (c _).mono ?_;rintro e w' ⟨rfl,rfl⟩)
 go_ret;exact ⟨aG hb,by repeat (with_reducible first|exact zRf|refine zGr ?_ _|refine below_drewN ?_ _|refine Below.drew ?_)⟩
theorem bAB (rom:ByteArray) (kind bank:Int) (ram:ByteArray) (rb:Int) (on:Bool) (mode:Int) (addr:Int) (w:World) (s0:512<=rom.size) (a0:0<=addr) (a1:addr<256) :
  Calls prog 151 #[.agg #[.string rom,.int .i64 kind,.int .i64 bank,.string ram,.int .i64 rb,.bool on,.int .i64 mode],.int .i64 addr] w fun e w'=>e=.returned (.int .i64 (aH rom addr))/\Below w.heap.size w w':=by
 have h:addr.toNat<rom.size:=by omega
 have hb:=dF h;have b1:inB addr 0 255=true:=x9 (by omega);have c:=fun w=>aE addr 0 255 w
 rw [b1] at c
 go_enter func151,ntmps151
 go_wp2_with (go_at_call 42;refine (c _).mono ?_;rintro e w' ⟨rfl,rfl⟩)
 go_ret;exact ⟨aG hb,by repeat (with_reducible first|exact zRf|refine zGr ?_ _|refine below_drewN ?_ _|refine Below.drew ?_)⟩
end CartR
namespace TurnS
open Signed (inB aG aB aC aE)
open Reck ReckS ReckM
def aGG (op v c:Int):Int × Int :=
 if op=0 then (v*2%256+v / 128,v / 128) else
 if op=1 then (v / 2+128*(v%2),v%2) else
 if op=2 then (v*2%256+c,v / 128) else
 if op=3 then (v / 2+128*c,v%2) else
 if op=4 then (v*2%256,v / 128) else
 if op=5 then (v / 2+128*(v / 128),v%2) else
 if op=6 then (v%16*16+v / 16,0) else
 (v / 2,v%2)
def cD (op v f:Int):Int × Int:=((aGG op v (cy f)).1,fl (decide ((aGG op v (cy f)).1=0)) false false (decide ((aGG op v (cy f)).2=1)))
def trn (op v f:Int):Int × Int:=if (inB op 0 7 && inB v 0 255 && inB f 0 255)=true then cD op v f else (0,0)
theorem kM (z c:Bool):bits .or .i64 (chz z 128 0) (chz c 16 0)=fl z false false c:=by cases z <;> cases c <;> decide
theorem mO (op v f:Int) (w:World) (o0:0<=op) (o1:op<=7) (v0:0<=v) (v1:v<=255) (f0:0<=f) (f1:f<=255) :
  Calls prog 116 #[.int .i64 op,.int .i64 v,.int .i64 f] w fun e w'=>e=.returned (.tuple #[.int .i64 (cD op v f).1,.int .i64 (cD op v f).2])/\w'=w:=by
 obtain ⟨c0,c1⟩:=fA f;have ho:op=0 \/ op=1 \/ op=2 \/ op=3 \/ op=4 \/ op=5 \/ op=6 \/ op=7:=by omega
 rcases ho with rfl|rfl|rfl|rfl|rfl|rfl|rfl|rfl
 all_goals
  go_enter func116,ntmps116
  go_wp2_with (first|(go_at_call 117;refine (cV _ _ _ _ _).mono ?_;rintro e w3 ⟨rfl,rfl⟩)|(go_at_call 118;refine (dE _ _ f0 f1).mono ?_;rintro e w3 ⟨rfl,rfl⟩))
  go_ret2;refine ⟨bE ?_ (mJ ?_ rfl rfl ?_),rfl⟩
 ·show _=v*2%256+v / 128;omega
 ·show _=decide (v*2%256+v / 128=0);rw [Bool.eq_iff_iff];simp;try omega
 ·show _=decide (v / 128=1);rw [Bool.eq_iff_iff];simp;try omega
 ·show _=v / 2+128*(v%2);omega
 ·show _=decide (v / 2+128*(v%2)=0);rw [Bool.eq_iff_iff];simp;try omega
 ·show _=decide (v%2=1);rw [Bool.eq_iff_iff];simp;try omega
 ·show _=v*2%256+cy f;omega
 ·show _=decide (v*2%256+cy f=0);rw [Bool.eq_iff_iff];simp;try omega
 ·show _=decide (v / 128=1);rw [Bool.eq_iff_iff];simp;try omega
 ·show _=v / 2+128*cy f;omega
 ·show _=decide (v / 2+128*cy f=0);rw [Bool.eq_iff_iff];simp;try omega
 ·show _=decide (v%2=1);rw [Bool.eq_iff_iff];simp;try omega
 ·show _=v*2%256;omega
 ·show _=decide (v*2%256=0);rw [Bool.eq_iff_iff];simp;try omega
 ·show _=decide (v / 128=1);rw [Bool.eq_iff_iff];simp;try omega
 ·show _=v / 2+128*(v / 128);omega
 ·show _=decide (v / 2+128*(v / 128)=0);rw [Bool.eq_iff_iff];simp;try omega
 ·show _=decide (v%2=1);rw [Bool.eq_iff_iff];simp;try omega
 ·show _=v%16*16+v / 16;omega
 ·show _=decide (v%16*16+v / 16=0);rw [Bool.eq_iff_iff];simp;try omega
 ·show _=decide (0=1);rw [Bool.eq_iff_iff];simp;try omega
 ·show _=v / 2;omega
 ·show _=decide (v / 2=0);rw [Bool.eq_iff_iff];simp;try omega
 ·show _=decide (v%2=1);rw [Bool.eq_iff_iff];simp;try omega
end TurnS
namespace HoleX
open Hole (below_drewN tV mK)
def eA (t h:ByteArray):Nat->Nat->Option Nat
 | 0,_=>none
 | f+1,k=>if k+h.size<=t.size then (if t.extract k (k+h.size)=h then some k else eA t h f (k+1)) else none
def n16:ByteArray:=⟨#[110,49,54]⟩
def n8:ByteArray:=⟨#[110,56]⟩
def e8:ByteArray:=⟨#[101,56]⟩
def at1 (t h:ByteArray):Option Nat:=eA t h (t.size+1) 0
def eQ (t:ByteArray):Int :=
 match at1 t n16 with
 | some k=>k
 | none=>match at1 t n8 with
  | some k=>k
  | none=>match at1 t e8 with
   | some k=>k
   | none=>-1
def eG (t:ByteArray):ByteArray:=if (at1 t n16).isSome then n16 else if (at1 t n8).isSome then n8 else if (at1 t e8).isSome then e8 else ⟨#[]⟩
theorem kN {t h:ByteArray} {m:Nat} (hm:m<=t.size) (h1:m+h.size<=t.size) (h2:t.extract m (m+h.size)=h) (e:at1 t h=eA t h (t.size+1-m) m):at1 t h=some m:=by
 rw [e,show t.size+1-m=(t.size-m)+1 by omega,eA,if_pos h1,if_pos h2]
theorem jI {t h:ByteArray} {m:Nat} (hm:m<=t.size) (h1:m+h.size<=t.size) (h2:¬ t.extract m (m+h.size)=h) (e:at1 t h=eA t h (t.size+1-m) m):at1 t h=eA t h (t.size+1-(m+1)) (m+1):=by
 rw [e,show t.size+1-m=(t.size+1-(m+1))+1 by omega,eA,if_pos h1,if_neg h2]
theorem kO {t h:ByteArray} {m:Nat} (hm:m<=t.size) (h1:¬ m+h.size<=t.size) (e:at1 t h=eA t h (t.size+1-m) m):at1 t h=none:=by
 rw [e,show t.size+1-m=(t.size-m)+1 by omega,eA,if_neg h1]
def ret (t:ByteArray):Ending:=.returned (.tuple #[.int .i64 (eQ t),.string (eG t)])
theorem aSF {t:ByteArray} {m:Nat} (h:at1 t n16=some m):Ending.returned (.tuple #[.int .i64 (m:Int),.string ⟨#[110,49,54]⟩])=ret t:=by
 unfold ret eQ eG;rw [h];rfl
theorem bAC {t:ByteArray} {m:Nat} (h0:at1 t n16=none) (h:at1 t n8=some m):Ending.returned (.tuple #[.int .i64 (m:Int),.string ⟨#[110,56]⟩])=ret t:=by
 unfold ret eQ eG;rw [h0,h];rfl
theorem bAD {t:ByteArray} {m:Nat} (h0:at1 t n16=none) (h1:at1 t n8=none) (h:at1 t e8=some m):Ending.returned (.tuple #[.int .i64 (m:Int),.string ⟨#[101,56]⟩])=ret t:=by
 unfold ret eQ eG;rw [h0,h1,h];rfl
theorem bAE {t:ByteArray} (h0:at1 t n16=none) (h1:at1 t n8=none) (h:at1 t e8=none):Ending.returned (.tuple #[.int .i64 (-1),.string ⟨#[]⟩])=ret t:=by
 unfold ret eQ eG;rw [h0,h1,h];rfl
theorem tX {X:ByteArray} {l:List UInt8} (h:¬ X=⟨l.toArray⟩):(X.toList == l)=false:=by
 rw [ByteArray.toList_eq]
 cases hb:X.data.toList == l
 ·rfl
 ·exfalso
  apply h
  have:=eq_of_beq hb
  cases X with|mk d=>cases d with|mk d=>simp only at this;rw [<- this]
def At (t:ByteArray) (i:Nat):Prop:=(1<=i->at1 t n16=none)/\(2<=i->at1 t n8=none)/\(3<=i->at1 t e8=none)
theorem kL (t:ByteArray) (w:World) (ht:t.size<=1000) :
  Calls prog 104 #[.string t] w fun e w'=>e=ret t/\Below w.heap.size w w':=by
 go_enter func104,ntmps104
 go_wp2;have HB:Hid (Below w.heap.size w (w.alloc (.cells #[.string ⟨#[110,49,54]⟩,.string ⟨#[110,56]⟩,.string ⟨#[101,56]⟩] 9))):=zAl _ _;have c0:(w.alloc (.cells #[.string ⟨#[110,49,54]⟩,.string ⟨#[110,56]⟩,.string ⟨#[101,56]⟩] 9)).cell? ⟨w.heap.size,0,none⟩=some (.string ⟨#[110,49,54]⟩):=World.cell?_alloc_new _ _ _ _;have c1:(w.alloc (.cells #[.string ⟨#[110,49,54]⟩,.string ⟨#[110,56]⟩,.string ⟨#[101,56]⟩] 9)).cell? ⟨w.heap.size,1,none⟩=some (.string ⟨#[110,56]⟩):=World.cell?_alloc_new _ _ _ _;have c2:(w.alloc (.cells #[.string ⟨#[110,49,54]⟩,.string ⟨#[110,56]⟩,.string ⟨#[101,56]⟩] 9)).cell? ⟨w.heap.size,2,none⟩=some (.string ⟨#[101,56]⟩):=World.cell?_alloc_new _ _ _ _;generalize w.alloc (.cells #[.string ⟨#[110,49,54]⟩,.string ⟨#[110,56]⟩,.string ⟨#[101,56]⟩] 9)=W at *
 go_loopw [5] (fun i wr=>∃ n:Nat,((i=.int .i64 0/\At t 0) \/ (i=.int .i64 1/\At t 1) \/ (i=.int .i64 2/\At t 2) \/ (i=.int .i64 3/\At t 3))/\wr=W.drewN n) (fun i _=>3-(intOf i).toNat)
 case atStart=>exact ⟨0,.inl ⟨rfl,by unfold At;refine ⟨fun h=>?_,fun h=>?_,fun h=>?_⟩ <;> omega⟩,rfl⟩
 case round =>
  obtain ⟨n,hi,rfl⟩:=hrel;rcases hi with ⟨rfl,ha⟩|⟨rfl,ha⟩|⟨rfl,ha⟩|⟨rfl,ha⟩
  ·have ha:Hid (At t 0):=ha
   go_wp2
   go_loopw [6] (fun i wr=>∃ m n:Nat,m<=t.size/\i=.int .i64 m/\wr=W.drewN n/\at1 t n16=eA t n16 (t.size+1-m) m) (fun i _=>t.size-(intOf i).toNat)
   case atStart=>exact ⟨0,n,Nat.zero_le _,rfl,rfl,rfl⟩
   case round =>
    obtain ⟨m,n2,hm,rfl,rfl,he⟩:=hrel
    by_cases hlt:m+3<=t.size
    ·have s1:=tV t m hlt
     have HM:Hid (m<=t.size/\m+3<=t.size/\at1 t n16=eA t n16 (t.size+1-m) m):=⟨hm,hlt,he⟩;clear he;have k0:(0:Int)<=(m:Int):=by omega
     have k1:(m:Int)+3<=(t.size:Int):=by omega
     have k2:(m:Int)<=(m:Int)+3:=by omega
     have k4:IntKind.i64.wrap ((m:Int)+3)=(m:Int)+3:=by rw [x6];omega
     by_cases hx:t.extract m (m+3)=⟨#[110,49,54]⟩
     ·have HX:Hid (t.extract m (m+3)=⟨#[110,49,54]⟩):=hx
      have hy:(t.extract m (m+3) == ⟨#[110,49,54]⟩)=true:=by rw [hx];rfl
      rw [hx] at s1
      clear hx hy
      go_wp2_with fail
      go_quiet (fail)
      go_wp2_with fail
      go_quiet (fail)
      go_wp2;go_ret2;exact ⟨aSF (kN HM.out.1 HM.out.2.1 HX.out HM.out.2.2),by repeat' (with_reducible first|exact HB.out|refine below_drewN ?_ _)⟩
     ·have HX:Hid (¬ t.extract m (m+3)=⟨#[110,49,54]⟩):=hx
      have hy:((t.extract m (m+3)).toList == [110,49,54])=false:=tX hx;clear hx;generalize t.extract m (m+3)=X at s1 hy
      go_wp2_with fail
      go_quiet (fail)
      go_wp2_with fail
      go_roundw
      case rel=>exact ⟨m+1,_,by have:=HM.out.2.1;omega,by go_num,rfl,jI HM.out.1 HM.out.2.1 HX.out HM.out.2.2⟩
      case measure=>have:=HM.out.2.1;simp [intOf];omega
    ·have HE:Hid (at1 t n16=none):=kO hm hlt he
     clear he;go_wp2
     go_roundw
     case rel =>
      have HE:=HE.out;exact ⟨_,.inr (.inl ⟨rfl,⟨fun _=>HE,fun h=>by omega,fun h=>by omega⟩⟩),rfl⟩
     case measure=>simp [intOf]
  ·have ha:Hid (At t 1):=ha
   go_wp2
   go_loopw [6] (fun i wr=>∃ m n:Nat,m<=t.size/\i=.int .i64 m/\wr=W.drewN n/\at1 t n8=eA t n8 (t.size+1-m) m) (fun i _=>t.size-(intOf i).toNat)
   case atStart=>exact ⟨0,n,Nat.zero_le _,rfl,rfl,rfl⟩
   case round =>
    obtain ⟨m,n2,hm,rfl,rfl,he⟩:=hrel
    by_cases hlt:m+2<=t.size
    ·have s1:=mK t m hlt
     have HM:Hid (m<=t.size/\m+2<=t.size/\at1 t n8=eA t n8 (t.size+1-m) m):=⟨hm,hlt,he⟩;clear he;have k0:(0:Int)<=(m:Int):=by omega
     have k1:(m:Int)+2<=(t.size:Int):=by omega
     have k2:(m:Int)<=(m:Int)+2:=by omega
     have k4:IntKind.i64.wrap ((m:Int)+2)=(m:Int)+2:=by rw [x6];omega
     by_cases hx:t.extract m (m+2)=⟨#[110,56]⟩
     ·have HX:Hid (t.extract m (m+2)=⟨#[110,56]⟩):=hx
      have hy:(t.extract m (m+2) == ⟨#[110,56]⟩)=true:=by rw [hx];rfl
      rw [hx] at s1
      clear hx hy
      go_wp2_with fail
      go_quiet (fail)
      go_wp2_with fail
      go_quiet (fail)
      go_wp2;go_ret2;exact ⟨bAC (ha.out.1 (by omega)) (kN HM.out.1 HM.out.2.1 HX.out HM.out.2.2),by repeat' (with_reducible first|exact HB.out|refine below_drewN ?_ _)⟩
     ·have HX:Hid (¬ t.extract m (m+2)=⟨#[110,56]⟩):=hx
      have hy:((t.extract m (m+2)).toList == [110,56])=false:=tX hx;clear hx;generalize t.extract m (m+2)=X at s1 hy
      go_wp2_with fail
      go_quiet (fail)
      go_wp2_with fail
      go_roundw
      case rel=>exact ⟨m+1,_,by have:=HM.out.2.1;omega,by go_num,rfl,jI HM.out.1 HM.out.2.1 HX.out HM.out.2.2⟩
      case measure=>have:=HM.out.2.1;simp [intOf];omega
    ·have HE:Hid (at1 t n8=none):=kO hm hlt he
     clear he;go_wp2
     go_roundw
     case rel =>
      have HE:=HE.out;exact ⟨_,.inr (.inr (.inl ⟨rfl,⟨fun _=>ha.out.1 (by omega),fun _=>HE,fun h=>by omega⟩⟩)),rfl⟩
     case measure=>simp [intOf]
  ·have ha:Hid (At t 2):=ha
   go_wp2
   go_loopw [6] (fun i wr=>∃ m n:Nat,m<=t.size/\i=.int .i64 m/\wr=W.drewN n/\at1 t e8=eA t e8 (t.size+1-m) m) (fun i _=>t.size-(intOf i).toNat)
   case atStart=>exact ⟨0,n,Nat.zero_le _,rfl,rfl,rfl⟩
   case round =>
    obtain ⟨m,n2,hm,rfl,rfl,he⟩:=hrel
    by_cases hlt:m+2<=t.size
    ·have s1:=mK t m hlt
     have HM:Hid (m<=t.size/\m+2<=t.size/\at1 t e8=eA t e8 (t.size+1-m) m):=⟨hm,hlt,he⟩;clear he;have k0:(0:Int)<=(m:Int):=by omega
     have k1:(m:Int)+2<=(t.size:Int):=by omega
     have k2:(m:Int)<=(m:Int)+2:=by omega
     have k4:IntKind.i64.wrap ((m:Int)+2)=(m:Int)+2:=by rw [x6];omega
     by_cases hx:t.extract m (m+2)=⟨#[101,56]⟩
     ·have HX:Hid (t.extract m (m+2)=⟨#[101,56]⟩):=hx
      have hy:(t.extract m (m+2) == ⟨#[101,56]⟩)=true:=by rw [hx];rfl
      rw [hx] at s1
      clear hx hy
      go_wp2_with fail
      go_quiet (fail)
      go_wp2_with fail
      go_quiet (fail)
      go_wp2;go_ret2;exact ⟨bAD (ha.out.1 (by omega)) (ha.out.2.1 (by omega)) (kN HM.out.1 HM.out.2.1 HX.out HM.out.2.2),by repeat' (with_reducible first|exact HB.out|refine below_drewN ?_ _)⟩
     ·have HX:Hid (¬ t.extract m (m+2)=⟨#[101,56]⟩):=hx
      have hy:((t.extract m (m+2)).toList == [101,56])=false:=tX hx;clear hx;generalize t.extract m (m+2)=X at s1 hy
      go_wp2_with fail
      go_quiet (fail)
      go_wp2_with fail
      go_roundw
      case rel=>exact ⟨m+1,_,by have:=HM.out.2.1;omega,by go_num,rfl,jI HM.out.1 HM.out.2.1 HX.out HM.out.2.2⟩
      case measure=>have:=HM.out.2.1;simp [intOf];omega
    ·have HE:Hid (at1 t e8=none):=kO hm hlt he
     clear he;go_wp2
     go_roundw
     case rel =>
      have HE:=HE.out;exact ⟨_,.inr (.inr (.inr ⟨rfl,⟨fun _=>ha.out.1 (by omega),fun _=>ha.out.2.1 (by omega),fun _=>HE⟩⟩)),rfl⟩
     case measure=>simp [intOf]
  ·have ha:Hid (At t 3):=ha
   go_wp2;go_ret2;exact ⟨bAE (ha.out.1 (by omega)) (ha.out.2.1 (by omega)) (ha.out.2.2 (by omega)),by repeat' (with_reducible first|exact HB.out|refine below_drewN ?_ _)⟩
end HoleX
namespace HolI
open HoleX (n8 n16 e8)
def MaxL (w:World):Prop:=∃ m:Int,w.cell? ⟨9,0,none⟩=some (.int .i64 m)
theorem aEL {w:World} {p:Addr} {v:Value} (h:w.cell? p=some v):p.block<w.heap.size:=by
 by_cases hlt:p.block<w.heap.size
 ·exact hlt
 ·exfalso
  simp [World.cell?,Array.getElem?_eq_none (Nat.not_lt.mp hlt)] at h
theorem MaxL.below {w w':World} (h:MaxL w) (b:Below w.heap.size w w'):MaxL w':=by
 obtain ⟨m,hm⟩:=h;exact ⟨m,by rw [b.cell (aEL hm)];exact hm⟩
theorem box {w w':World} {vs:Array Value} {T:TypeId} (h:Below (w.alloc (.cells vs T)).heap.size (w.alloc (.cells vs T)) w') (i:Nat) (v:Value) (hv:vs[i]? = some v):w'.cell? ⟨w.heap.size,i,none⟩=some v:=by
 rw [h.cell (p:=⟨w.heap.size,i,none⟩) (by simp),World.cell?_alloc_new];exact hv
theorem cW {w w':World} {o:Obj} (h:Below (w.alloc o).heap.size (w.alloc o) w'):Below w.heap.size w w':=(zAl _ _).trans (h.mono (by simp))
theorem after {a w w':World} (h:Below a.heap.size a w) (k:Below w.heap.size w w'):Below a.heap.size a w':=h.trans (k.mono h.size)
def fB (s:ByteArray):ByteArray:=if Lib.contains s.data.toList n8.data.toList=true then n8 else if Lib.contains s.data.toList n16.data.toList=true then n16 else if Lib.contains s.data.toList e8.data.toList=true then e8 else ⟨#[]⟩
theorem xB (s:ByteArray):fB s=⟨#[110,56]⟩ \/ fB s=⟨#[110,49,54]⟩ \/ fB s=⟨#[101,56]⟩ \/ fB s=⟨#[]⟩:=by
 unfold fB;split
 ·exact .inl rfl
 split
 ·exact .inr (.inl rfl)
 split
 ·exact .inr (.inr (.inl rfl))
 ·exact .inr (.inr (.inr rfl))
def No (s:ByteArray) (i:Nat):Prop:=(1<=i->Lib.contains s.data.toList n8.data.toList=false)/\(2<=i->Lib.contains s.data.toList n16.data.toList=false)/\(3<=i->Lib.contains s.data.toList e8.data.toList=false)
theorem bGP (w:World):(Instr.index 192 (.agg #[.string ⟨#[110,56]⟩,.string ⟨#[110,49,54]⟩,.string ⟨#[101,56]⟩]) (.int .i64 0)).run prog w=.ok (.string ⟨#[110,56]⟩) w:=by kernel_rfl
theorem bGQ (w:World):(Instr.index 192 (.agg #[.string ⟨#[110,56]⟩,.string ⟨#[110,49,54]⟩,.string ⟨#[101,56]⟩]) (.int .i64 1)).run prog w=.ok (.string ⟨#[110,49,54]⟩) w:=by kernel_rfl
theorem bGR (w:World):(Instr.index 192 (.agg #[.string ⟨#[110,56]⟩,.string ⟨#[110,49,54]⟩,.string ⟨#[101,56]⟩]) (.int .i64 2)).run prog w=.ok (.string ⟨#[101,56]⟩) w:=by kernel_rfl
theorem lZ (s:ByteArray) (w:World) (hs:s.size<=1000) (hm:MaxL w) :
  Calls prog 148 #[.string s] w fun e w'=>e=.returned (.string (fB s))/\Below w.heap.size w w':=by
 obtain ⟨m,hm⟩:=hm
 go_enter func148,ntmps148
 have x0:=bGP;have x1:=bGQ;have x2:=bGR;have HB:Hid (s.size<4294967281):=by show s.size<4294967281;omega
 clear hs
 go_wp2_with fail
 go_loopw [6] (fun i wr=>((i=.int .i64 0) \/ (i=.int .i64 1/\No s 1) \/ (i=.int .i64 2/\No s 2) \/ (i=.int .i64 3/\No s 3))/\wr=w) (fun i _=>3-(intOf i).toNat)
 case atStart=>exact ⟨.inl rfl,rfl⟩
 case round =>
  obtain ⟨hi,rfl⟩:=hrel;rcases hi with rfl|⟨rfl,ha⟩|⟨rfl,ha⟩|⟨rfl,ha⟩
  ·cases hc:Lib.contains s.data.toList n8.data.toList
   ·have HC:Hid (Lib.contains s.data.toList n8.data.toList=false):=hc
    have c:=fun w hm=>Tryz.strings_Contains s ⟨#[110,56]⟩ m w HB.out hm
    rw [show Lib.contains s.data.toList (⟨#[110,56]⟩ : ByteArray).data.toList=false from hc] at c
    clear hc
    go_wp2_with (go_at_call 136;refine (c _ hm).mono ?_;rintro e w' ⟨rfl,hw⟩;subst hw)
    go_roundw
    case rel=>exact ⟨.inr (.inl ⟨by go_num,fun _=>HC.out,fun h=>by omega,fun h=>by omega⟩),trivial⟩
    case measure=>simp [intOf]
   ·have c:=fun w hm=>Tryz.strings_Contains s ⟨#[110,56]⟩ m w HB.out hm
    rw [show Lib.contains s.data.toList (⟨#[110,56]⟩ : ByteArray).data.toList=true from hc] at c
    have HR:Hid (Ending.returned (.string ⟨#[110,56]⟩)=.returned (.string (fB s))):=by show _=_;unfold fB;rw [if_pos hc];rfl
    clear hc
    go_wp2_with (go_at_call 136;refine (c _ hm).mono ?_;rintro e w' ⟨rfl,hw⟩;subst hw)
    go_ret;exact ⟨HR.out,Below.refl _ _⟩
  ·have HA:Hid (No s 1):=ha
   clear ha
   cases hc:Lib.contains s.data.toList n16.data.toList
   ·have HC:Hid (Lib.contains s.data.toList n16.data.toList=false):=hc
    have c:=fun w hm=>Tryz.strings_Contains s ⟨#[110,49,54]⟩ m w HB.out hm
    rw [show Lib.contains s.data.toList (⟨#[110,49,54]⟩ : ByteArray).data.toList=false from hc] at c
    clear hc
    go_wp2_with (go_at_call 136;refine (c _ hm).mono ?_;rintro e w' ⟨rfl,hw⟩;subst hw)
    go_roundw
    case rel=>exact ⟨.inr (.inr (.inl ⟨by go_num,fun _=>HA.out.1 (by omega),fun _=>HC.out,fun h=>by omega⟩)),trivial⟩
    case measure=>simp [intOf]
   ·have c:=fun w hm=>Tryz.strings_Contains s ⟨#[110,49,54]⟩ m w HB.out hm
    rw [show Lib.contains s.data.toList (⟨#[110,49,54]⟩ : ByteArray).data.toList=true from hc] at c
    have HR:Hid (Ending.returned (.string ⟨#[110,49,54]⟩)=.returned (.string (fB s))):=by show _=_;unfold fB;rw [if_neg (by rw [HA.out.1 (by omega)];decide),if_pos hc];rfl
    clear hc
    go_wp2_with (go_at_call 136;refine (c _ hm).mono ?_;rintro e w' ⟨rfl,hw⟩;subst hw)
    go_ret;exact ⟨HR.out,Below.refl _ _⟩
  ·have HA:Hid (No s 2):=ha
   clear ha
   cases hc:Lib.contains s.data.toList e8.data.toList
   ·have HC:Hid (Lib.contains s.data.toList e8.data.toList=false):=hc
    have c:=fun w hm=>Tryz.strings_Contains s ⟨#[101,56]⟩ m w HB.out hm
    rw [show Lib.contains s.data.toList (⟨#[101,56]⟩ : ByteArray).data.toList=false from hc] at c
    clear hc
    go_wp2_with (go_at_call 136;refine (c _ hm).mono ?_;rintro e w' ⟨rfl,hw⟩;subst hw)
    go_roundw
    case rel=>exact ⟨.inr (.inr (.inr ⟨by go_num,fun _=>HA.out.1 (by omega),fun _=>HA.out.2.1 (by omega),fun _=>HC.out⟩)),trivial⟩
    case measure=>simp [intOf]
   ·have c:=fun w hm=>Tryz.strings_Contains s ⟨#[101,56]⟩ m w HB.out hm
    rw [show Lib.contains s.data.toList (⟨#[101,56]⟩ : ByteArray).data.toList=true from hc] at c
    have HR:Hid (Ending.returned (.string ⟨#[101,56]⟩)=.returned (.string (fB s))):=by show _=_;unfold fB;rw [if_neg (by rw [HA.out.1 (by omega)];decide),if_neg (by rw [HA.out.2.1 (by omega)];decide),if_pos hc];rfl
    clear hc
    go_wp2_with (go_at_call 136;refine (c _ hm).mono ?_;rintro e w' ⟨rfl,hw⟩;subst hw)
    go_ret;exact ⟨HR.out,Below.refl _ _⟩
  ·have HR:Hid (Ending.returned (.string ⟨#[]⟩)=.returned (.string (fB s))):=by
    show _=_;unfold fB;rw [if_neg (by rw [ha.1 (by omega)];decide),if_neg (by rw [ha.2.1 (by omega)];decide),if_neg (by rw [ha.2.2 (by omega)];decide)]
   clear ha;go_wp2;go_ret;exact ⟨HR.out,Below.refl _ _⟩
end HolI
namespace Cyc
open Shape
theorem gO (b:Bool) (y n:Int) (w:World) :
  Calls prog 168 #[.bool b,.int .i64 y,.int .i64 n] w fun e w'=>e=.returned (.int .i64 (if b=true then y else n))/\w'=w:=by
 cases b
 all_goals
  go_enter func168,ntmps168
  go_wp2;go_ret;exact ⟨rfl,rfl⟩
def mP (x z:Int):Int:=if z=6 then (if x=1 then 3 else 4) else 2
theorem oF (x y z p q:Int) (w:World) :
  Calls prog 137 #[.agg #[.int .i64 x,.int .i64 y,.int .i64 z,.int .i64 p,.int .i64 q]] w fun e w'=>e=.returned (.int .i64 (mP x z))/\Below w.heap.size w w':=by
 by_cases hz:z=6
 ·subst hz
  by_cases hx:x=1
  ·subst hx
   go_enter func137,ntmps137
   go_wp2;go_ret;exact ⟨rfl,zAl _ _⟩
  ·have hx':(x == 1)=false:=by simpa using hx
   have e:mP x 6=4:=by unfold mP;rw [if_pos rfl,if_neg hx]
   rw [e]
   go_enter func137,ntmps137
   go_wp2;go_ret;exact ⟨rfl,zAl _ _⟩
 ·have hz':(z == 6)=false:=by simpa using hz
  have hz'':(z != 6)=true:=by simpa using hz
  have e:mP x z=2:=by unfold mP;rw [if_neg hz]
  rw [e]
  go_enter func137,ntmps137
  go_wp2;go_ret;exact ⟨rfl,zAl _ _⟩
end Cyc
namespace CycD
theorem grow {B:Nat} {a b:World} (h:Below B a b) (hB:B=a.heap.size) (o:Obj):Below B a (b.alloc o):=h.alloc (by subst hB;exact h.size) o
def ob (b:Bool):Int:=if b=true then 1 else 0
def aKO (y z:Int) (t:Bool):Int:=if z=0 then (if y=0 then 1 else if y=1 then 5 else if y=2 then 1 else if y=3 then 3 else 2+ob t) else if z=1 then 3-y%2 else if z=2 then 2 else if z=3 then 2 else if z=7 then 1 else if y=6 then 3 else if z=6 then 2 else 1
def aAU (y z:Int) (t:Bool):Int:=if z=0 then (if y<4 then 2+3*ob t else if y=5 then 4 else 3) else if z=1 then (if y%2=0 then 3 else if y=5 then 1 else if y=7 then 2 else 4) else if z=2 then (if y<4 then 3+ob t else if y%2=0 then 2 else 4) else if z=3 then (if y=0 then 4 else 1) else if z=4 then 3+3*ob t else if z=5 then (if y=1 then 6 else 4) else if z=6 then 2 else 4
def xC (y z:Int):Bool:=(z == 3 && (1<=y && y<=5)) || (z == 4 && 4<=y) || (z == 5 && (y == 3 || y == 5 || y == 7))
end CycD
namespace CycE
open Tabs (bD)
open CycD
theorem jJ (b:Bool) (w:World):Calls prog 132 #[.bool b] w fun e w'=>e=.returned (.int .i64 (ob b))/\w'=w:=by
 cases b
 all_goals
  go_enter func132,ntmps132
  go_wp2;go_ret;exact ⟨rfl,rfl⟩
end CycE
namespace CycS
open Tabs (bD)
open CycD CycE
theorem aAV (y z:Int) (t:Bool) (w:World) (y0:0<=y) (y1:y<=7) (z0:0<=z) (z1:z<=7) :
  Calls prog 133 #[.int .i64 y,.int .i64 z,.bool t] w fun e w'=>e=.returned (.int .i64 (aAU y z t))/\Below w.heap.size w w':=by
 have c:=fun w=>jJ t w
 rcases bD z0 z1 with rfl|rfl|rfl|rfl|rfl|rfl|rfl|rfl <;> rcases bD y0 y1 with rfl|rfl|rfl|rfl|rfl|rfl|rfl|rfl <;> cases t
 all_goals
  rw [show ob _=_ from rfl] at c
  go_enter func133,ntmps133
  go_wp2_with (go_at_call 132;refine (c _).mono ?_;rintro e w' ⟨rfl,hw'⟩;have hw':=hw'.symm;subst hw')
  go_ret;refine ⟨Signed.aG (by decide +kernel),?_⟩
  repeat' with_reducible first|exact zRf|refine aF ?_|refine grow ?_ rfl _
end CycS
namespace PartN
open Tabs (at8 kA aEI aEJ wQ turns tQ aFT)
def bits:List ByteArray:=[⟨#[]⟩,⟨#[98,105,116]⟩,⟨#[114,101,115]⟩,⟨#[115,101,116]⟩]
def qI:List ByteArray:=[⟨#[98,99]⟩,⟨#[100,101]⟩,⟨#[104,108]⟩,⟨#[97,102]⟩]
def places:List ByteArray:=[⟨#[91,98,99,93]⟩,⟨#[91,100,101,93]⟩,⟨#[91,104,108,43,93]⟩,⟨#[91,104,108,45,93]⟩]
def Row (w:World) (g:Nat) (l:List ByteArray):Prop:=∀ i,i<l.length->w.cell? ⟨g,i,none⟩=some (.string (l.getD i ⟨#[]⟩))
structure Tables (w:World):Prop where
 alu:Row w 3 wQ
 bit:Row w 2 bits
 cond:Row w 4 aEJ
 place:Row w 5 places
 pair:Row w 6 aEI
 stack:Row w 1 qI
 reg:Row w 7 kA
 turn:Row w 8 turns
 hex:Nums.Tab w
theorem Row.at {w:World} {g:Nat} {l:List ByteArray} (h:Row w g l) {i:Int} (h0:0<=i) (h1:i.toNat<l.length):w.cell? ⟨g,i.toNat,none⟩=some (.string (at8 l i)):=h i.toNat h1
theorem Row.below {w w':World} {g:Nat} {l:List ByteArray} (h:Row w g l) (hl:0<l.length) (b:Below w.heap.size w w'):Row w' g l:=by
 have hlt:g<w.heap.size:=World.block_lt_of_cell? w ⟨g,0,none⟩ (h 0 hl);intro i hi;rw [b.cell (p:=⟨g,i,none⟩) hlt];exact h i hi
theorem Tables.below {w w':World} (h:Tables w) (b:Below w.heap.size w w'):Tables w' :=
 ⟨h.alu.below (by decide) b,h.bit.below (by decide) b,h.cond.below (by decide) b,h.place.below (by decide) b,h.pair.below (by decide) b,h.stack.below (by decide) b,h.reg.below (by decide) b,h.turn.below (by decide) b,fun i hi=>by
  rw [b.cell (p:=⟨0,i,none⟩) (World.block_lt_of_cell? w ⟨0,i,none⟩ (h.hex i hi))];exact h.hex i hi⟩
def sP (l x y z p:Int):ByteArray :=
 if l=65 then at8 wQ y else if l=66 then at8 bits x else if l=67 then at8 aEJ (y%4) else if l=72 then at8 aFT y else if l=77 then at8 places p
 else if l=80 then at8 aEI p else if l=81 then at8 qI p else if l=82 then at8 kA y else if l=83 then at8 kA z else if l=84 then at8 turns y else at8 tQ y
theorem bAF (x y z p q:Int) (w:World) (hT:Tables w) (x0:0<=x) (x1:x<=3) (y0:0<=y) (y1:y<=7) (z0:0<=z) (z1:z<=7) (p0:0<=p) (p1:p<=3) :
  Calls prog 226 #[.int .u8 65,.agg #[.int .i64 x,.int .i64 y,.int .i64 z,.int .i64 p,.int .i64 q]] w fun e w'=>e=.returned (.string (at8 wQ y))/\Below w.heap.size w w':=by
 have t:=hT.alu.at (i:=y) (by omega) (by show (y:Int).toNat<8;omega)
 have g0:3<w.heap.size:=World.block_lt_of_cell? w _ t;have k0:0<=y:=by omega
 have k1:y<8:=by omega
 clear hT
 go_enter func226,ntmps226
 go_wp2;go_ret;exact ⟨rfl,zAl _ _⟩
theorem bAG (x y z p q:Int) (w:World) (hT:Tables w) (x0:0<=x) (x1:x<=3) (y0:0<=y) (y1:y<=7) (z0:0<=z) (z1:z<=7) (p0:0<=p) (p1:p<=3) :
  Calls prog 226 #[.int .u8 66,.agg #[.int .i64 x,.int .i64 y,.int .i64 z,.int .i64 p,.int .i64 q]] w fun e w'=>e=.returned (.string (at8 bits x))/\Below w.heap.size w w':=by
 have t:=hT.bit.at (i:=x) (by omega) (by show (x:Int).toNat<4;omega)
 have g0:2<w.heap.size:=World.block_lt_of_cell? w _ t;have k0:0<=x:=by omega
 have k1:x<4:=by omega
 clear hT
 go_enter func226,ntmps226
 go_wp2;go_ret;exact ⟨rfl,zAl _ _⟩
theorem bAH (x y z p q:Int) (w:World) (hT:Tables w) (x0:0<=x) (x1:x<=3) (y0:0<=y) (y1:y<=7) (z0:0<=z) (z1:z<=7) (p0:0<=p) (p1:p<=3) :
  Calls prog 226 #[.int .u8 67,.agg #[.int .i64 x,.int .i64 y,.int .i64 z,.int .i64 p,.int .i64 q]] w fun e w'=>e=.returned (.string (at8 aEJ (y%4)))/\Below w.heap.size w w':=by
 have t:=hT.cond.at (i:=(y%4)) (by omega) (by show ((y%4):Int).toNat<4;omega)
 have g0:4<w.heap.size:=World.block_lt_of_cell? w _ t;have k0:0<=(y%4):=by omega
 have k1:(y%4)<4:=by omega
 clear hT
 go_enter func226,ntmps226
 go_wp2;go_ret;exact ⟨rfl,zAl _ _⟩
theorem bAI (x y z p q:Int) (w:World) (hT:Tables w) (x0:0<=x) (x1:x<=3) (y0:0<=y) (y1:y<=7) (z0:0<=z) (z1:z<=7) (p0:0<=p) (p1:p<=3) :
  Calls prog 226 #[.int .u8 77,.agg #[.int .i64 x,.int .i64 y,.int .i64 z,.int .i64 p,.int .i64 q]] w fun e w'=>e=.returned (.string (at8 places p))/\Below w.heap.size w w':=by
 have t:=hT.place.at (i:=p) (by omega) (by show (p:Int).toNat<4;omega)
 have g0:5<w.heap.size:=World.block_lt_of_cell? w _ t;have k0:0<=p:=by omega
 have k1:p<4:=by omega
 clear hT
 go_enter func226,ntmps226
 go_wp2;go_ret;exact ⟨rfl,zAl _ _⟩
theorem bAJ (x y z p q:Int) (w:World) (hT:Tables w) (x0:0<=x) (x1:x<=3) (y0:0<=y) (y1:y<=7) (z0:0<=z) (z1:z<=7) (p0:0<=p) (p1:p<=3) :
  Calls prog 226 #[.int .u8 80,.agg #[.int .i64 x,.int .i64 y,.int .i64 z,.int .i64 p,.int .i64 q]] w fun e w'=>e=.returned (.string (at8 aEI p))/\Below w.heap.size w w':=by
 have t:=hT.pair.at (i:=p) (by omega) (by show (p:Int).toNat<4;omega)
 have g0:6<w.heap.size:=World.block_lt_of_cell? w _ t;have k0:0<=p:=by omega
 have k1:p<4:=by omega
 clear hT
 go_enter func226,ntmps226
 go_wp2;go_ret;exact ⟨rfl,zAl _ _⟩
theorem bAK (x y z p q:Int) (w:World) (hT:Tables w) (x0:0<=x) (x1:x<=3) (y0:0<=y) (y1:y<=7) (z0:0<=z) (z1:z<=7) (p0:0<=p) (p1:p<=3) :
  Calls prog 226 #[.int .u8 81,.agg #[.int .i64 x,.int .i64 y,.int .i64 z,.int .i64 p,.int .i64 q]] w fun e w'=>e=.returned (.string (at8 qI p))/\Below w.heap.size w w':=by
 have t:=hT.stack.at (i:=p) (by omega) (by show (p:Int).toNat<4;omega)
 have g0:1<w.heap.size:=World.block_lt_of_cell? w _ t;have k0:0<=p:=by omega
 have k1:p<4:=by omega
 clear hT
 go_enter func226,ntmps226
 go_wp2;go_ret;exact ⟨rfl,zAl _ _⟩
theorem bAL (x y z p q:Int) (w:World) (hT:Tables w) (x0:0<=x) (x1:x<=3) (y0:0<=y) (y1:y<=7) (z0:0<=z) (z1:z<=7) (p0:0<=p) (p1:p<=3) :
  Calls prog 226 #[.int .u8 82,.agg #[.int .i64 x,.int .i64 y,.int .i64 z,.int .i64 p,.int .i64 q]] w fun e w'=>e=.returned (.string (at8 kA y))/\Below w.heap.size w w':=by
 have t:=hT.reg.at (i:=y) (by omega) (by show (y:Int).toNat<8;omega)
 have g0:7<w.heap.size:=World.block_lt_of_cell? w _ t;have k0:0<=y:=by omega
 have k1:y<8:=by omega
 clear hT
 go_enter func226,ntmps226
 go_wp2;go_ret;exact ⟨rfl,zAl _ _⟩
theorem bAM (x y z p q:Int) (w:World) (hT:Tables w) (x0:0<=x) (x1:x<=3) (y0:0<=y) (y1:y<=7) (z0:0<=z) (z1:z<=7) (p0:0<=p) (p1:p<=3) :
  Calls prog 226 #[.int .u8 83,.agg #[.int .i64 x,.int .i64 y,.int .i64 z,.int .i64 p,.int .i64 q]] w fun e w'=>e=.returned (.string (at8 kA z))/\Below w.heap.size w w':=by
 have t:=hT.reg.at (i:=z) (by omega) (by show (z:Int).toNat<8;omega)
 have g0:7<w.heap.size:=World.block_lt_of_cell? w _ t;have k0:0<=z:=by omega
 have k1:z<8:=by omega
 clear hT
 go_enter func226,ntmps226
 go_wp2;go_ret;exact ⟨rfl,zAl _ _⟩
theorem bAN (x y z p q:Int) (w:World) (hT:Tables w) (x0:0<=x) (x1:x<=3) (y0:0<=y) (y1:y<=7) (z0:0<=z) (z1:z<=7) (p0:0<=p) (p1:p<=3) :
  Calls prog 226 #[.int .u8 84,.agg #[.int .i64 x,.int .i64 y,.int .i64 z,.int .i64 p,.int .i64 q]] w fun e w'=>e=.returned (.string (at8 turns y))/\Below w.heap.size w w':=by
 have t:=hT.turn.at (i:=y) (by omega) (by show (y:Int).toNat<8;omega)
 have g0:8<w.heap.size:=World.block_lt_of_cell? w _ t;have k0:0<=y:=by omega
 have k1:y<8:=by omega
 clear hT
 go_enter func226,ntmps226
 go_wp2;go_ret;exact ⟨rfl,zAl _ _⟩
theorem aSG:∀ y:Fin 8,Hex.dP (8*(y.val:Int)) 2=at8 aFT (y.val:Int):=by decide +kernel
theorem bAO {y:Int} (y0:0<=y) (y1:y<=7):Hex.dP (8*y) 2=at8 aFT y:=by
 have:=aSG ⟨y.toNat,by omega⟩
 rwa [show ((⟨y.toNat,by omega⟩ : Fin 8).val:Int)=y by show ((y.toNat:Nat):Int)=y;omega] at this
theorem aSH:∀ y:Fin 8,(⟨(Lib.decDigits y.val).toArray⟩ : ByteArray)=at8 tQ (y.val:Int):=by decide +kernel
theorem bAP {y:Int} (y0:0<=y) (y1:y<=7):(⟨(Lib.decDigits y.toNat).toArray⟩ : ByteArray)=at8 tQ y:=by
 have:=aSH ⟨y.toNat,by omega⟩
 rwa [show ((⟨y.toNat,by omega⟩ : Fin 8).val:Int)=y by show ((y.toNat:Nat):Int)=y;omega] at this
theorem bAQ (x y z p q:Int) (w:World) (hT:Tables w) (x0:0<=x) (x1:x<=3) (y0:0<=y) (y1:y<=7) (z0:0<=z) (z1:z<=7) (p0:0<=p) (p1:p<=3) :
  Calls prog 226 #[.int .u8 72,.agg #[.int .i64 x,.int .i64 y,.int .i64 z,.int .i64 p,.int .i64 q]] w fun e w'=>e=.returned (.string (at8 aFT y))/\Below w.heap.size w w':=by
 have c:=fun w hT=>Hex.fZ (8*y) 2 w hT
 rw [bAO y0 y1] at c
 have HT:Hid (Tables w):=hT;have hk:wrap64 (8*y)=8*y:=by unfold wrap64;omega
 clear hT
 go_enter func226,ntmps226
 go_wp2_with fail
 refine (c _ (HT.out.below (zAl _ _)).hex).mono ?_;rintro e w1 ⟨rfl,b1⟩;have B1:Hid (Below _ _ w1):=b1;clear b1;go_wp2;go_ret;exact ⟨rfl,(zAl _ _).trans (B1.out.mono (by simp))⟩
theorem bAR (x y z p q:Int) (w:World) (hT:Tables w) (x0:0<=x) (x1:x<=3) (y0:0<=y) (y1:y<=7) (z0:0<=z) (z1:z<=7) (p0:0<=p) (p1:p<=3) :
  Calls prog 226 #[.int .u8 89,.agg #[.int .i64 x,.int .i64 y,.int .i64 z,.int .i64 p,.int .i64 q]] w fun e w'=>e=.returned (.string (at8 tQ y))/\Below w.heap.size w w':=by
 have c:=fun w=>Tryz.strconv_FormatInt_10_small y.toNat (by omega) w
 rw [bAP y0 y1,show ((y.toNat:Nat):Int)=y by omega] at c
 clear hT
 go_enter func226,ntmps226
 go_wp2_with fail
 refine (c _).mono ?_;rintro e w1 ⟨rfl,rfl⟩;go_wp2;go_ret;exact ⟨rfl,zAl _ _⟩
def mQ:List Int:=[65,66,67,72,77,80,81,82,83,84,89]
theorem aKP (l x y z p q:Int) (w:World) (hT:Tables w) (x0:0<=x) (x1:x<=3) (y0:0<=y) (y1:y<=7) (z0:0<=z) (z1:z<=7) (p0:0<=p) (p1:p<=3) (hl:l ∈ mQ) :
  Calls prog 226 #[.int .u8 l,.agg #[.int .i64 x,.int .i64 y,.int .i64 z,.int .i64 p,.int .i64 q]] w fun e w'=>e=.returned (.string (sP l x y z p))/\Below w.heap.size w w':=by
 simp only [mQ,List.mem_cons,List.mem_nil_iff,or_false] at hl
 rcases hl with rfl|rfl|rfl|rfl|rfl|rfl|rfl|rfl|rfl|rfl|rfl
 ·exact bAF x y z p q w hT x0 x1 y0 y1 z0 z1 p0 p1
 ·exact bAG x y z p q w hT x0 x1 y0 y1 z0 z1 p0 p1
 ·exact bAH x y z p q w hT x0 x1 y0 y1 z0 z1 p0 p1
 ·exact bAQ x y z p q w hT x0 x1 y0 y1 z0 z1 p0 p1
 ·exact bAI x y z p q w hT x0 x1 y0 y1 z0 z1 p0 p1
 ·exact bAJ x y z p q w hT x0 x1 y0 y1 z0 z1 p0 p1
 ·exact bAK x y z p q w hT x0 x1 y0 y1 z0 z1 p0 p1
 ·exact bAL x y z p q w hT x0 x1 y0 y1 z0 z1 p0 p1
 ·exact bAM x y z p q w hT x0 x1 y0 y1 z0 z1 p0 p1
 ·exact bAN x y z p q w hT x0 x1 y0 y1 z0 z1 p0 p1
 ·exact bAR x y z p q w hT x0 x1 y0 y1 z0 z1 p0 p1
end PartN
end Go.Proofs.YteglcgnhhoenbaaGreatDoor
