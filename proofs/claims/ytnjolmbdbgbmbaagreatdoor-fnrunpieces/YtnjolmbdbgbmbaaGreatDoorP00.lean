import Derived.Test.YtnjolmbdbgbmbaaGreatDoorRows
import Derived.WalkKit
import Derived.ProofKit
import Derived.OpenShut
import Derived.BigQuiet
import Derived.Deep.RegionWith
import Derived.Deep.QuietTactic
import Derived.Below
import Derived.Laws.EntriesVeiled
import Derived.StillTail
import Derived.Deep.Quiet
import Derived.Lib.QuietBelow
import Derived.Shelf.Strings.Search1
import Derived.Shelf.Strings.Search2
import Derived.Shelf.Strings.Search3
import Derived.Shelf.LaysM
import Derived.Shelf.Strings.Shaped
import Derived.Test.YtnjolmbdbgbmbaaGreatDoorProg
import Derived.Outline
import Derived.WalkLawsBesides
import Derived.LoopN
import Derived.Lib.LaidTab
set_option linter.all false
set_option maxRecDepth 20000
set_option maxHeartbeats 8000000
open Go.ChangeShapes Go.WideShapes Go.ChangeAt Go.RowKit
open Go.Proofs.Tryz
namespace Go.Proofs.YtnjolmbdbgbmbaaGreatDoor
theorem zHd {p:Prop} (h:p):Hid p:=h
theorem zRf {B:Nat} {w:World}:Below B w w:=Below.refl _ _
theorem zAl (w:World) (o:Obj):Below w.heap.size w (w.alloc o):=(Below.refl _ _).alloc (Nat.le_refl _) o
theorem zLo {w:World} {b:Nat} {o:Obj} (h:w.heap[b]?=some o):b<w.heap.size:=(Array.getElem?_eq_some_iff.1 h).1
end Go.Proofs.YtnjolmbdbgbmbaaGreatDoor
namespace Go.Proofs.YtnjolmbdbgbmbaaGreatDoor
namespace Signed
def inB (n low high:Int):Bool:=decide (low<=n/\n<=high)
def sgn (b:Int):Int:=if b<0 \/ 255<b then 0 else if 127<b then b-256 else b
theorem ret_int {k:IntKind} {a b:Int} (h:a=b):Ending.returned (.int k a)=.returned (.int k b):=by rw [h]
theorem ret_bool {a b:Bool} (h:a=b):Ending.returned (.bool a)=.returned (.bool b):=by rw [h]
theorem isByte_any (n:Int) (w:World) :
  Calls prog 107 #[.int .i64 n] w fun e w'=>e=.returned (.bool (inB n 0 255))/\w'=w:=by
 go_enter func107,ntmps107
 go_wp2
 all_goals go_ret
 all_goals exact ⟨ret_bool (by rw [Bool.eq_iff_iff];simp [inB];try omega),rfl⟩
theorem l1In_any (n low high:Int) (w:World) :
  Calls prog 43 #[.int .i64 n,.int .i64 low,.int .i64 high] w fun e w'=>e=.returned (.bool (inB n low high))/\w'=w:=by
 go_enter func43,ntmps43
 go_wp2
 all_goals go_ret
 all_goals exact ⟨ret_bool (by rw [Bool.eq_iff_iff];simp [inB];try omega),rfl⟩
theorem implSigned_any (b:Int) (w:World) :
  Calls prog 196 #[.int .i64 b] w fun e w'=>e=.returned (.int .i64 (sgn b))/\w'=w:=by
 have hb:(b<0 \/ 255<b) \/ (0<=b/\b<=127) \/ (127<b/\b<=255):=by omega
 rcases hb with h|⟨h,h'⟩|⟨h,h'⟩
 ·have hi:inB b 0 255=false:=decide_eq_false (by omega)
  have hs:sgn b=0:=by unfold sgn;rw [if_pos h]
  go_enter func196,ntmps196
  go_wp2_with (go_at_call 107;refine (isByte_any _ _).mono ?_;rintro e w' ⟨rfl,rfl⟩)
  go_ret
  first|exact ⟨rfl,rfl⟩|exact ⟨ret_int hs.symm,rfl⟩
 ·have hi:inB b 0 255=true:=decide_eq_true (by omega)
  have hs:sgn b=b:=by unfold sgn;rw [if_neg (by omega),if_neg (by omega)]
  go_enter func196,ntmps196
  go_wp2_with (go_at_call 107;refine (isByte_any _ _).mono ?_;rintro e w' ⟨rfl,rfl⟩)
  go_ret
  first|exact ⟨rfl,rfl⟩|exact ⟨ret_int hs.symm,rfl⟩
 ·have hi:inB b 0 255=true:=decide_eq_true (by omega)
  have hs:sgn b=b-256:=by unfold sgn;rw [if_neg (by omega),if_pos h]
  go_enter func196,ntmps196
  go_wp2_with (go_at_call 107;refine (isByte_any _ _).mono ?_;rintro e w' ⟨rfl,rfl⟩)
  go_ret
  first|exact ⟨rfl,rfl⟩|exact ⟨ret_int hs.symm,rfl⟩
theorem specSigned_any (b:Int) (w:World) :
  Calls prog 124 #[.int .i64 b] w fun e w'=>e=.returned (.int .i64 (sgn b))/\w'=w:=by
 have hb:(b<0 \/ 255<b) \/ (0<=b/\b<=127) \/ (127<b/\b<=255):=by omega
 rcases hb with h|⟨h,h'⟩|⟨h,h'⟩
 ·have hi:inB b 0 255=false:=decide_eq_false (by omega)
  have hs:sgn b=0:=by unfold sgn;rw [if_pos h]
  go_enter func124,ntmps124
  go_wp2_with (go_at_call 43;refine (l1In_any _ _ _ _).mono ?_;rintro e w' ⟨rfl,rfl⟩)
  go_ret
  first|exact ⟨rfl,rfl⟩|exact ⟨ret_int hs.symm,rfl⟩
 ·have hi:inB b 0 255=true:=decide_eq_true (by omega)
  have hs:sgn b=b:=by unfold sgn;rw [if_neg (by omega),if_neg (by omega)]
  go_enter func124,ntmps124
  go_wp2_with (go_at_call 43;refine (l1In_any _ _ _ _).mono ?_;rintro e w' ⟨rfl,rfl⟩)
  go_ret
  first|exact ⟨rfl,rfl⟩|exact ⟨ret_int hs.symm,rfl⟩
 ·have hi:inB b 0 255=true:=decide_eq_true (by omega)
  have hs:sgn b=b-256:=by unfold sgn;rw [if_neg (by omega),if_pos h]
  go_enter func124,ntmps124
  go_wp2_with (go_at_call 43;refine (l1In_any _ _ _ _).mono ?_;rintro e w' ⟨rfl,rfl⟩)
  go_ret
  first|exact ⟨rfl,rfl⟩|exact ⟨ret_int hs.symm,rfl⟩
end Signed
namespace Carts
open Signed (inB ret_int ret_bool isByte_any l1In_any)
def banks (n:Nat):Int:=if n%256=0/\512<=n/\n<=4096 then n / 256 else 0
def romB (n:Nat):Bool:=decide (n%256=0/\512<=n/\n<=4096)
def heldB (kind bank rb:Int) (on:Bool) (mode:Int):Bool :=
 if kind=0 then decide (bank=1/\rb=0/\mode=0/\on=false)
 else if kind=1 then inB bank 1 31 && inB rb 0 3 && inB mode 0 1
 else if kind=2 then inB bank 0 255 && inB rb 0 3 && mode == 0
 else false
def okB (rom:ByteArray) (kind bank:Int) (ram:ByteArray) (rb:Int) (on:Bool) (mode:Int):Bool:=heldB kind bank rb on mode && romB rom.size && ram.size == 256
def mapV (kind:Int):Value :=
 if kind=0 then .iface 162 (.agg #[])
 else if kind=1 then .iface 163 (.agg #[])
 else if kind=2 then .iface 164 (.agg #[])
 else .nilIface
theorem isRamBank_any (n:Int) (w:World) :
  Calls prog 288 #[.int .i64 n] w fun e w'=>e=.returned (.bool (inB n 0 3))/\w'=w:=by
 go_enter func288,ntmps288
 go_wp2
 all_goals go_ret
 all_goals exact ⟨ret_bool (by rw [Bool.eq_iff_iff];simp [inB];try omega),rfl⟩
theorem mapperOf_any (n:Int) (w:World) :
  Calls prog 105 #[.int .i64 n] w fun e w'=>e=.returned (mapV n)/\w'=w:=by
 go_enter func105,ntmps105
 go_wp2
 all_goals go_ret
 all_goals exact ⟨by congr 1;unfold mapV;simp_all,rfl⟩
theorem romOk_any (rom:ByteArray) (w:World) (hs:rom.size<=maxLen) :
  Calls prog 106 #[.string rom] w fun e w'=>e=.returned (.bool (romB rom.size))/\w'=w:=by
 have hs':rom.size<=9223372036854775807:=by unfold maxLen at hs;omega
 go_enter func106,ntmps106
 go_wp2
 all_goals go_ret
 all_goals exact ⟨ret_bool (by rw [Bool.eq_iff_iff];simp [romB];try omega),rfl⟩
theorem l5Banks_any (rom:ByteArray) (w:World) (hs:rom.size<=maxLen) :
  Calls prog 108 #[.string rom] w fun e w'=>e=.returned (.int .i64 (banks rom.size))/\w'=w:=by
 have hs':rom.size<=9223372036854775807:=by unfold maxLen at hs;omega
 go_enter func108,ntmps108
 go_wp2_with (go_at_call 43;refine (l1In_any _ _ _ _).mono ?_;rintro e w' ⟨rfl,rfl⟩)
 all_goals go_ret
 all_goals exact ⟨ret_int (by unfold banks;simp_all [inB];try omega),rfl⟩
theorem m0 (w:World):(method 319 162 (.agg #[]) "loop.example/g00460/impl.holds").run prog w=.ok (286,.agg #[]) w:=by kernel_rfl
theorem m1 (w:World):(method 319 163 (.agg #[]) "loop.example/g00460/impl.holds").run prog w=.ok (287,.agg #[]) w:=by kernel_rfl
theorem m2 (w:World):(method 319 164 (.agg #[]) "loop.example/g00460/impl.holds").run prog w=.ok (289,.agg #[]) w:=by kernel_rfl
theorem plainHolds_any (rom:ByteArray) (kind bank:Int) (ram:ByteArray) (rb:Int) (on:Bool) (mode:Int) (w:World) :
  Calls prog 286 #[.agg #[],.agg #[.string rom,.int .i64 kind,.int .i64 bank,.string ram,.int .i64 rb,.bool on,.int .i64 mode]] w fun e w'=>e=.returned (.bool (decide (bank=1/\rb=0/\mode=0/\on=false)))/\w'=(w.alloc (.cells #[] 162)).alloc (.cells #[.string rom,.int .i64 kind,.int .i64 bank,.string ram,.int .i64 rb,.bool on,.int .i64 mode] 31):=by
 go_enter func286,ntmps286
 go_wp2
 all_goals go_ret
 all_goals exact ⟨ret_bool (by rw [Bool.eq_iff_iff];simp_all),by first|rfl|simp_all⟩
theorem oneHolds_any (rom:ByteArray) (kind bank:Int) (ram:ByteArray) (rb:Int) (on:Bool) (mode:Int) (w:World) :
  Calls prog 287 #[.agg #[],.agg #[.string rom,.int .i64 kind,.int .i64 bank,.string ram,.int .i64 rb,.bool on,.int .i64 mode]] w fun e w'=>e=.returned (.bool (inB bank 1 31 && inB rb 0 3 && inB mode 0 1))/\w'=(w.alloc (.cells #[] 163)).alloc (.cells #[.string rom,.int .i64 kind,.int .i64 bank,.string ram,.int .i64 rb,.bool on,.int .i64 mode] 31):=by
 go_enter func287,ntmps287
 go_wp2_with (go_at_call 288;refine (isRamBank_any _ _).mono ?_;rintro e w' ⟨rfl,rfl⟩)
 all_goals go_ret
 all_goals exact ⟨ret_bool (by rw [Bool.eq_iff_iff];simp_all [inB] <;> omega),by first|rfl|simp_all⟩
theorem fiveHolds_any (rom:ByteArray) (kind bank:Int) (ram:ByteArray) (rb:Int) (on:Bool) (mode:Int) (w:World) :
  Calls prog 289 #[.agg #[],.agg #[.string rom,.int .i64 kind,.int .i64 bank,.string ram,.int .i64 rb,.bool on,.int .i64 mode]] w fun e w'=>e=.returned (.bool (inB bank 0 255 && inB rb 0 3 && mode == 0))/\w'=(w.alloc (.cells #[] 164)).alloc (.cells #[.string rom,.int .i64 kind,.int .i64 bank,.string ram,.int .i64 rb,.bool on,.int .i64 mode] 31):=by
 go_enter func289,ntmps289
 go_wp2_with (first|(go_at_call 288;refine (isRamBank_any _ _).mono ?_;rintro e w' ⟨rfl,rfl⟩)|(go_at_call 107;refine (isByte_any _ _).mono ?_;rintro e w' ⟨rfl,rfl⟩))
 all_goals go_ret
 all_goals exact ⟨ret_bool (by rw [Bool.eq_iff_iff];simp_all [inB] <;> omega),by first|rfl|simp_all⟩
end Carts
namespace Reck
open Signed (inB ret_int ret_bool isByte_any l1In_any)
def one (b:Bool):Int:=if b=true then 1 else 0
def chz (b:Bool) (y n:Int):Int:=if b=true then y else n
def fl (z n h c:Bool):Int:=128*one z+64*one n+32*one h+16*one c
def cy (f:Int):Int:=f / 16%2
theorem ret_two {a a' b b':Int} (h:a=a') (h':b=b'):Ending.returned (.tuple #[.int .i64 a,.int .i64 b])=.returned (.tuple #[.int .i64 a',.int .i64 b']):=by rw [h,h']
theorem cy_bd (f:Int):0<=cy f/\cy f<=1:=by unfold cy;omega
theorem l3One_any (b:Bool) (w:World) :
  Calls prog 136 #[.bool b] w fun e w'=>e=.returned (.int .i64 (one b))/\w'=w:=by
 cases b
 all_goals
  go_enter func136,ntmps136
  go_wp2
  go_ret
  exact ⟨rfl,rfl⟩
theorem l4Flags_any (z n h c:Bool) (w:World) :
  Calls prog 120 #[.bool z,.bool n,.bool h,.bool c] w fun e w'=>e=.returned (.int .i64 (fl z n h c))/\w'=w:=by
 have oz:0<=one z/\one z<=1:=by cases z <;> decide
 have on:0<=one n/\one n<=1:=by cases n <;> decide
 have oh:0<=one h/\one h<=1:=by cases h <;> decide
 have oc:0<=one c/\one c<=1:=by cases c <;> decide
 obtain ⟨z0,z1⟩:=oz
 obtain ⟨n0,n1⟩:=on
 obtain ⟨h0,h1⟩:=oh
 obtain ⟨c0,c1⟩:=oc
 go_enter func120,ntmps120
 go_wp2_with (go_at_call 136;refine (l3One_any _ _).mono ?_;rintro e w' ⟨rfl,rfl⟩)
 go_ret
 exact ⟨ret_int (by unfold fl;omega),rfl⟩
theorem l4Carry_any (f:Int) (w:World) (f0:0<=f) (f1:f<=255) :
  Calls prog 121 #[.int .i64 f] w fun e w'=>e=.returned (.int .i64 (cy f))/\w'=w:=by
 go_enter func121,ntmps121
 go_wp2
 go_ret
 exact ⟨rfl,rfl⟩
theorem l4Byte_any (n:Int) (w:World) :
  Calls prog 71 #[.int .i64 n] w fun e w'=>e=.returned (.bool (inB n 0 255))/\w'=w:=by
 go_enter func71,ntmps71
 go_wp2_with (go_at_call 43;refine (l1In_any _ _ _ _).mono ?_;rintro e w' ⟨rfl,rfl⟩)
 go_ret
 exact ⟨rfl,rfl⟩
theorem l4Word_any (n:Int) (w:World) :
  Calls prog 72 #[.int .i64 n] w fun e w'=>e=.returned (.bool (inB n 0 65535))/\w'=w:=by
 go_enter func72,ntmps72
 go_wp2_with (go_at_call 43;refine (l1In_any _ _ _ _).mono ?_;rintro e w' ⟨rfl,rfl⟩)
 go_ret
 exact ⟨rfl,rfl⟩
theorem isWord_any (n:Int) (w:World) :
  Calls prog 74 #[.int .i64 n] w fun e w'=>e=.returned (.bool (inB n 0 65535))/\w'=w:=by
 go_enter func74,ntmps74
 go_wp2
 all_goals go_ret
 all_goals exact ⟨ret_bool (by rw [Bool.eq_iff_iff];simp [inB];try omega),rfl⟩
theorem chosen_any (b:Bool) (y n:Int) (w:World) :
  Calls prog 115 #[.bool b,.int .i64 y,.int .i64 n] w fun e w'=>e=.returned (.int .i64 (chz b y n))/\w'=w:=by
 cases b
 all_goals
  go_enter func115,ntmps115
  go_wp2
  go_ret
  exact ⟨rfl,rfl⟩
theorem flagIf_any (v:Int) (b:Bool) (w:World) :
  Calls prog 226 #[.int .i64 v,.bool b] w fun e w'=>e=.returned (.int .i64 (chz b v 0))/\w'=w:=by
 go_enter func226,ntmps226
 go_wp2_with (go_at_call 115;refine (chosen_any _ _ _ _).mono ?_;rintro e w' ⟨rfl,rfl⟩)
 go_ret
 exact ⟨rfl,rfl⟩
theorem carryOf_any (f:Int) (w:World) (f0:0<=f) (f1:f<=255) :
  Calls prog 240 #[.int .i64 f] w fun e w'=>e=.returned (.int .i64 (cy f))/\w'=w:=by
 go_enter func240,ntmps240
 go_wp2
 go_ret
 exact ⟨rfl,rfl⟩
theorem or_hc (h c:Bool):bits .or .i64 (chz h 32 0) (chz c 16 0)=fl false false h c:=by cases h <;> cases c <;> decide
theorem or_nhc (h c:Bool):bits .or .i64 (bits .or .i64 64 (chz h 32 0)) (chz c 16 0)=fl false true h c:=by cases h <;> cases c <;> decide
def addR (a b c:Int):Int × Int:=((a+b+c)%256,fl false false (decide (15<a%16+b%16+c)) (decide (255<a+b+c)))
def subR (a b c:Int):Int × Int:=((a-b-c)%256,fl false true (decide (a%16<b%16+c)) (decide (a-b-c<0)))
def zd (p:Int × Int):Int × Int:=(p.1,p.2+128*one (decide (p.1=0)))
def aluR (op a b f:Int):Int × Int :=
 if op=0 then zd (addR a b 0) else if op=1 then zd (addR a b (cy f)) else if op=2 then zd (subR a b 0) else if op=3 then zd (subR a b (cy f))
 else if op=4 then zd (bits .and .i64 a b,32) else if op=5 then zd (bits .xor .i64 a b,0) else if op=6 then zd (bits .or .i64 a b,0) else (a,(zd (subR a b 0)).2)
def alu (op a b f:Int):Int × Int :=
 if (inB op 0 7 && inB a 0 255 && inB b 0 255 && inB f 0 255)=true then aluR op a b f else (0,0)
theorem addCarried_any (a b c:Int) (w:World) (a0:0<=a) (a1:a<=255) (b0:0<=b) (b1:b<=255) (c0:0<=c) (c1:c<=1) :
  Calls prog 250 #[.int .i64 a,.int .i64 b,.int .i64 c] w fun e w'=>e=.returned (.tuple #[.int .i64 (addR a b c).1,.int .i64 (addR a b c).2])/\w'=w:=by
 go_enter func250,ntmps250
 go_wp2_with (go_at_call 226;refine (flagIf_any _ _ _).mono ?_;rintro e w' ⟨rfl,rfl⟩)
 go_ret2
 refine ⟨ret_two rfl ?_,rfl⟩
 exact or_hc _ _
theorem subCarried_any (a b c:Int) (w:World) (a0:0<=a) (a1:a<=255) (b0:0<=b) (b1:b<=255) (c0:0<=c) (c1:c<=1) :
  Calls prog 252 #[.int .i64 a,.int .i64 b,.int .i64 c] w fun e w'=>e=.returned (.tuple #[.int .i64 (subR a b c).1,.int .i64 (subR a b c).2])/\w'=w:=by
 go_enter func252,ntmps252
 go_wp2_with (go_at_call 226;refine (flagIf_any _ _ _).mono ?_;rintro e w' ⟨rfl,rfl⟩)
 go_ret2
 refine ⟨ret_two rfl ?_,rfl⟩
 exact or_nhc _ _
theorem addAlone_any (a b c:Int) (w:World) (a0:0<=a) (a1:a<=255) (b0:0<=b) (b1:b<=255) :
  Calls prog 249 #[.int .i64 a,.int .i64 b,.int .i64 c] w fun e w'=>e=.returned (.tuple #[.int .i64 (addR a b 0).1,.int .i64 (addR a b 0).2])/\w'=w:=by
 go_enter func249,ntmps249
 go_wp2_with (go_at_call 250;refine (addCarried_any _ _ _ _ a0 a1 b0 b1 (by decide) (by decide)).mono ?_;rintro e w' ⟨rfl,rfl⟩)
 go_ret2
 exact ⟨rfl,rfl⟩
theorem subAlone_any (a b c:Int) (w:World) (a0:0<=a) (a1:a<=255) (b0:0<=b) (b1:b<=255) :
  Calls prog 251 #[.int .i64 a,.int .i64 b,.int .i64 c] w fun e w'=>e=.returned (.tuple #[.int .i64 (subR a b 0).1,.int .i64 (subR a b 0).2])/\w'=w:=by
 go_enter func251,ntmps251
 go_wp2_with (go_at_call 252;refine (subCarried_any _ _ _ _ a0 a1 b0 b1 (by decide) (by decide)).mono ?_;rintro e w' ⟨rfl,rfl⟩)
 go_ret2
 exact ⟨rfl,rfl⟩
theorem andBits_any (a b c:Int) (w:World) :
  Calls prog 253 #[.int .i64 a,.int .i64 b,.int .i64 c] w fun e w'=>e=.returned (.tuple #[.int .i64 (bits .and .i64 a b,32).1,.int .i64 (bits .and .i64 a b,32).2])/\w'=w:=by
 go_enter func253,ntmps253
 go_wp2
 go_ret2
 exact ⟨rfl,rfl⟩
theorem xorBits_any (a b c:Int) (w:World) :
  Calls prog 254 #[.int .i64 a,.int .i64 b,.int .i64 c] w fun e w'=>e=.returned (.tuple #[.int .i64 (bits .xor .i64 a b,0).1,.int .i64 (bits .xor .i64 a b,0).2])/\w'=w:=by
 go_enter func254,ntmps254
 go_wp2
 go_ret2
 exact ⟨rfl,rfl⟩
theorem orBits_any (a b c:Int) (w:World) :
  Calls prog 255 #[.int .i64 a,.int .i64 b,.int .i64 c] w fun e w'=>e=.returned (.tuple #[.int .i64 (bits .or .i64 a b,0).1,.int .i64 (bits .or .i64 a b,0).2])/\w'=w:=by
 go_enter func255,ntmps255
 go_wp2
 go_ret2
 exact ⟨rfl,rfl⟩
theorem aluOps_any (w:World) :
  Calls prog 239 #[] w fun e w'=>e=.returned (.agg #[.func (.func 249) #[] #[],.func (.func 250) #[] #[],.func (.func 251) #[] #[],.func (.func 252) #[] #[],.func (.func 253) #[] #[],.func (.func 254) #[] #[],.func (.func 255) #[] #[],.func (.func 251) #[] #[]])/\Below w.heap.size w w':=by
 go_enter func239,ntmps239
 go_wp2
 refine bodyPost_ret (v:=.agg #[.func (.func 249) #[] #[],.func (.func 250) #[] #[],.func (.func 251) #[] #[],.func (.func 252) #[] #[],.func (.func 253) #[] #[],.func (.func 254) #[] #[],.func (.func 255) #[] #[],.func (.func 251) #[] #[]]) (by simp [results,results239,go_sem]) rfl ⟨rfl,?_⟩
 exact zAl _ _
theorem below_of_drew {w w':World} (h:Below w.drew.heap.size w.drew w'):Below w.heap.size w w':=⟨h.os,h.tape,h.output,h.size,h.block⟩
theorem zd_fl (x:Int) (n h c z:Bool) (hz:z=decide (x=0)):bits .or .i64 (fl false n h c) (chz z 128 0)=(zd (x,fl false n h c)).2:=by
 subst hz;show _=fl false n h c+128*one (decide (x=0));generalize decide (x=0)=z;revert z n h c;decide
theorem zd_32 (x:Int) (z:Bool) (hz:z=decide (x=0)):bits .or .i64 32 (chz z 128 0)=(zd (x,32)).2:=zd_fl x false true false z hz
theorem zd_0 (x:Int) (z:Bool) (hz:z=decide (x=0)):bits .or .i64 0 (chz z 128 0)=(zd (x,0)).2:=zd_fl x false false false z hz
theorem beq_dec (x:Int):(x == 0)=decide (x=0):=by rw [Bool.eq_iff_iff];simp
end Reck
namespace Qtail
open Go.RowKit
def anyT (P:Program) (md:Region.Mode) (ops:Array Oper) (C:World->Prop) (n:Nat) (L:Array Bool->Act->Prop):Nat->Array Bool->Act->Prop
 | 0,listed,a=>L listed a
 | f+1,listed,a =>
  Region.ready md ops listed ≠ []/\∀ i ∈ Region.ready md ops listed,i<n/\qOp P ops C i (anyT P md ops C n L f (listed.setIfInBounds i true)) a
theorem any_of_head {P:Program} {ops:Array Oper} {md:Region.Mode} {C:World->Prop} {n g:Nat} {L:Array Bool->Act->Prop} {Q':Exit->Act->World->Prop} (hL:∀ listed a w,C w->L listed a->wpAny P md ops Q' g listed a w) :
  ∀ (f:Nat) (listed:Array Bool) (a:Act) (w:World),C w->anyT P md ops C n L f listed a->wpAny P md ops Q' (f+g) listed a w
 | 0,listed,a,w,hw,h=>by rw [Nat.zero_add];exact hL _ _ _ hw h
 | f+1,listed,a,w,hw,h=>by
  rw [show f+1+g=(f+g)+1 by omega]
  exact ⟨fun h0=>absurd h0 h.1,fun i hi=>wpOp_of_qOp hw (fun a' w' hw' h'=>any_of_head hL f _ a' w' hw' h') (h.2 i hi).2⟩
theorem anyT_first {P:Program} {ops:Array Oper} {md:Region.Mode} {C:World->Prop} {n i:Nat} {oi:Oper} {v:Value} {L:Array Bool->Act->Prop} (hi:ops[i]? = some oi) (hsel:∀ (j:Nat) (o:Oper) cs b,ops[j]? = some o->o.op ≠ .select cs b)
  (hs:Region.sinkB md ops n=true) (hc:Region.chainB md ops n=true) (hn:n<ops.size) (hin:i<n)
  (hdone:∀ listed a,L listed a->∀ j ∈ Region.ready md ops listed,n<=j) :
  ∀ (f:Nat) (listed:Array Bool) (a:Act),HeadInv md ops n listed ->
   (∀ j oj,ops[j]? = some oj->j ≠ i->listed.getD j true=false->(∀ e ∈ oj.after,Region.binds md e=true->e.on ≠ i)->oi.apart ops oj=true) ->
   i ∈ Region.ready md ops listed->YieldsIn P ops C oi v a ->
   anyT P md ops C n L f (listed.setIfInBounds i true) (a.put oi.dst v)->anyT P md ops C n L (f+1) listed a:=by
 intro f
 induction f with
 | zero =>
  intro listed a inv _ hr hy H
  have hun:=(mem_ready.1 hr).1
  refine ⟨fun h=>(by rw [h] at hr;cases hr),fun j hj=>?_⟩
  have hjn:j<n:=by
   rcases Nat.lt_or_ge j n with h|h
   ·exact h
   ·exact absurd hj (tail_waits hs hc hn inv _ i rfl hin hun j h)
  refine ⟨hjn,?_⟩
  by_cases hji:j=i
  ·subst hji;exact hy.qOp hi H
  ·have:=hdone _ _ H j (ready_mono hj hji)
   omega
 | succ f ih =>
  intro listed a inv hfree hr hy H
  have hun:=(mem_ready.1 hr).1
  refine ⟨fun h=>(by rw [h] at hr;cases hr),fun j hj=>?_⟩
  have hjn:j<n:=by
   rcases Nat.lt_or_ge j n with h|h
   ·exact h
   ·exact absurd hj (tail_waits hs hc hn inv _ i rfl hin hun j h)
  refine ⟨hjn,?_⟩
  by_cases hji:j=i
  ·subst hji;exact hy.qOp hi H
  ·have h1:=(H.2 j (ready_mono hj hji)).2
   obtain ⟨hjun,oj,hoj,hall⟩:=mem_ready.1 hj
   have hnot:∀ e ∈ oj.after,Region.binds md e=true->e.on ≠ i:=fun e he hb heq=>by
    have h1:=hall e he hb
    rw [heq,getD_both hun] at h1
    cases h1
   have h2:=qOp_put hoj (hfree j oj hoj hji hjun hnot) (fun cs b=>hsel i oi cs b hi) (fun cs b=>hsel j oj cs b hoj) hy h1
   have hfree':∀ k ok,ops[k]? = some ok->k ≠ i->(listed.setIfInBounds j true).getD k true=false ->
     (∀ e ∈ ok.after,Region.binds md e=true->e.on ≠ i)->oi.apart ops ok=true:=fun k ok hk hki hun hno=>by
    refine hfree k ok hk hki ?_ hno
    by_cases hjk:j=k
    ·subst hjk;exact hjun
    ·rw [getD_set_ne true hjk] at hun;exact hun
   refine qOp_mono (fun a' h3=>ih (listed.setIfInBounds j true) a' (inv.set hj hjn) hfree' (ready_mono hr (Ne.symm hji)) h3.1 ?_) h2
   rw [Array.setIfInBounds_comm _ _ hji]
   exact h3.2
theorem anyT_lex {P:Program} {ops:Array Oper} {md:Region.Mode} {C:World->Prop} {n g:Nat} {Lq:Act->Prop} (hsel:Region.noSelect ops=true) (hs:Region.sinkB md ops n=true) (hc:Region.chainB md ops n=true) (hn:n<ops.size) :
  ∀ (l:List Oper) (k:Nat) (listed:Array Bool) (a:Act),(∀ j,j<l.length->l[j]? = ops[k+j]?)->k+l.length=n->HeadInv md ops n listed ->
  Region.lexHead md ops g l.length k listed=true->wpQuiet P ops C Lq l a ->
  anyT P md ops C n (fun listed' a'=>Region.seqB md ops g n listed'=true/\Lq a') l.length listed a
 | [],k,listed,a,_,hk,_,hB,h=>by
  have:k=n:=by simpa using hk
  subst this
  exact ⟨by simpa [Region.lexHead] using hB,h⟩
 | o :: l,k,listed,a,hl,hk,inv,hB,h=>by
  have h0:ops[k]? = some o:=by simpa using (hl 0 (by simp)).symm
  simp only [List.length_cons,Region.lexHead,Bool.and_eq_true] at hB
  obtain ⟨⟨hr,hf⟩,hB'⟩:=hB
  have hkn:k<n:=by simp only [List.length_cons] at hk;omega
  have hr':k ∈ Region.ready md ops listed:=by simpa using hr
  have hst:qOp P ops C k (wpQuiet P ops C Lq l) a:=by unfold qOp;simp only [h0];exact h
  obtain ⟨v,hy,hK⟩:=yieldsIn_of_qOp h0 hst
  exact anyT_first h0 (Region.noSelect_spec hsel) hs hc hn hkn (fun listed' a' hL=>seqB_ready hL.1) l.length listed a inv (Region.free_spec h0 hf) hr' hy
   (anyT_lex hsel hs hc hn l (k+1) _ _ (fun j hj=>by have:=hl (j+1) (by simp;omega);simpa [Nat.add_assoc,Nat.add_comm 1 j] using this) (by simp only [List.length_cons] at hk;omega) (inv.set hr' hkn) hB' hK)
theorem region_tail {P:Program} {C:World->Prop} {id:Nat} {Q:Exit->Act->World->Prop} {a:Act} {w:World} {l:List Oper} (n:Nat) (hm:P.follows .mixedOrders=true) (hB:Region.lexTailB .any l.toArray n=true) (hC:C { w with drawn:=w.drawn+1 })
  (h:wpQuiet P l.toArray C (fun a'=>∀ w',C w'->wpList P l.toArray Q (l.drop n) a' w') (l.take n) a):(Code.region id l.toArray true).wp P Q a w:=by
 simp only [Region.lexTailB,Bool.and_eq_true,decide_eq_true_eq] at hB
 obtain ⟨⟨⟨⟨hsel,hn⟩,hs⟩,hc⟩,hlex⟩:=hB
 have hn':n<l.length:=by simpa using hn
 have htl:(l.take n).length=n:=by simp;omega
 have hdl:(l.drop n).length=l.toArray.size-n:=by simp
 have inv0:HeadInv .any l.toArray n (Array.replicate l.toArray.size false) :=
  ⟨by simp,fun j oj _ hl=>(by rw [getD_replicate_false] at hl;cases hl),fun t _ ht=>getD_in (by simpa using ht) (getD_replicate_false _ _)⟩
 have H:=anyT_lex (md:=.any) (g:=l.toArray.size-n) hsel hs hc hn (l.take n) 0 _ a (fun j hj=>by
  have hj':j<n:=by rw [htl] at hj;exact hj
  simp [hj']) (by simpa using htl) inv0 (by rw [htl];exact hlex) h
 refine wp_region_any hm ?_
 have:=any_of_head (Q':=Q) (g:=l.toArray.size-n) (fun listed a' w' hw' hL=>by
  have:=wpAny_of_seq (md:=.any) (Q':=Q) (l.drop n) n listed a' w' (fun j=>by simp [List.getElem?_drop]) (by rw [hdl];exact hL.1) (hL.2 w' hw')
  rwa [hdl] at this) _ _ _ { w with drawn:=w.drawn+1 } hC H
 rw [htl,show n+(l.toArray.size-n)=l.toArray.size by omega] at this
 exact this
theorem tail_below {P:Program} {id:Nat} {Q:Exit->Act->World->Prop} {a:Act} {w:World} {l:List Oper} (n:Nat) (hm:P.follows .mixedOrders=true) (hB:Region.lexTailB .any l.toArray n=true)
  (h:wpQuiet P l.toArray (fun w'=>∃ p:Regrown,w'=Go.Sort.grow (redrawn w p.d) p.os) (fun a'=>∀ w',(∃ p:Regrown,w'=Go.Sort.grow (redrawn w p.d) p.os)->wpList P l.toArray Q (l.drop n) a' w') (l.take n) a):(Code.region id l.toArray true).wp P Q a w :=
 region_tail (C:=fun w'=>∃ p:Regrown,w'=Go.Sort.grow (redrawn w p.d) p.os) n hm hB ⟨⟨w.drawn+1,#[]⟩,by rw [Go.Sort.grow_empty];rfl⟩ h
end Qtail
end Go.Proofs.YtnjolmbdbgbmbaaGreatDoor
namespace Go.Proofs
open Go.Shelf
def Tryz.lays144_ren:Go.Shelf.Ren:=⟨fun|144=>138|143=>152|219=>217|217=>234|225=>235|224=>236|267=>237|266=>245|314=>246|n=>n,fun|9=>9|4=>4|3=>3|5=>5|46=>147|146=>203|51=>202|n=>n,fun|1=>2|n=>n⟩
theorem Tryz.lays144:Go.Proofs.Lays.n144 Tryz.prog Tryz.lays144_ren:={
 mixed:=by kernel_rfl
 f143:=Tryz.func152.trans (congrArg some (by kernel_rfl))
 f144:=Tryz.func138.trans (congrArg some (by kernel_rfl))
 f217:=Tryz.func234.trans (congrArg some (by kernel_rfl))
 f219:=Tryz.func217.trans (congrArg some (by kernel_rfl))
 f224:=Tryz.func236.trans (congrArg some (by kernel_rfl))
 f225:=Tryz.func235.trans (congrArg some (by kernel_rfl))
 f266:=Tryz.func245.trans (congrArg some (by kernel_rfl))
 f267:=Tryz.func237.trans (congrArg some (by kernel_rfl))
 f314:=Tryz.func246.trans (congrArg some (by kernel_rfl))
 t3:=Tryz.underlying3
 a3:=Tryz.isAgg3
 z3:=Tryz.sizeOf3
 v3:=Tryz.zeroValue3
 t4:=Tryz.underlying4
 a4:=Tryz.isAgg4
 z4:=Tryz.sizeOf4
 v4:=Tryz.zeroValue4
 t5:=Tryz.underlying5
 a5:=Tryz.isAgg5
 z5:=Tryz.sizeOf5
 v5:=Tryz.zeroValue5
 t9:=Tryz.underlying9
 a9:=Tryz.isAgg9
 z9:=Tryz.sizeOf9
 v9:=Tryz.zeroValue9
 t46:=Tryz.underlying147
 a46:=Tryz.isAgg147
 z46:=Tryz.sizeOf147
 v46:=Tryz.zeroValue147
 t51:=Tryz.underlying202
 a51:=Tryz.isAgg202
 z51:=Tryz.sizeOf202
 v51:=Tryz.zeroValue202
 t146:=Tryz.underlying203
 a146:=Tryz.isAgg203
 z146:=Tryz.sizeOf203
 v146:=Tryz.zeroValue203
 g1:=by kernel_rfl }
open Go.RowKit Go.Lib in
theorem Tryz.strings_Contains_one (s:ByteArray) (c:UInt8) (w:World) :
  Calls Tryz.prog 138 #[.string s,.string ⟨#[c]⟩] w fun e w'=>e=.returned (.bool (decide (0<=Lib.indexByte s.data.toList c)))/\w'=w:=Any.strings_Contains_one Tryz.lays144 s c w
open Go.RowKit Go.Lib in
theorem Tryz.strings_Contains (s sub:ByteArray) (m:Int) (w:World) (hs:s.size<4294967281) (hm:w.cell? ⟨2,0,none⟩=some (.int .i64 m)) :
  Calls Tryz.prog 138 #[.string s,.string sub] w fun e w'=>e=.returned (.bool (Lib.contains s.data.toList sub.data.toList))/\w'=w:=Any.strings_Contains Tryz.lays144 s sub m w hs hm
def Tryz.laysM144_ren:Go.Shelf.Ren:=⟨fun|144=>138|143=>152|219=>217|217=>234|225=>235|224=>236|267=>237|266=>245|314=>246|n=>n,fun|9=>9|4=>4|3=>3|5=>5|46=>147|146=>203|51=>202|n=>n,fun|1=>2|n=>n⟩
theorem Tryz.laysM144:Go.Proofs.LaysM.n144 Tryz.prog Tryz.laysM144_ren:={
 mixed:=by kernel_rfl
 f143:=Tryz.func152.trans (congrArg some (by kernel_rfl))
 f144:=Tryz.func138.trans (congrArg some (by kernel_rfl))
 f217:=Tryz.func234.trans (congrArg some (by kernel_rfl))
 f219:=Tryz.func217.trans (congrArg some (by kernel_rfl))
 f224:=Tryz.func236.trans (congrArg some (by kernel_rfl))
 f225:=Tryz.func235.trans (congrArg some (by kernel_rfl))
 f266:=Tryz.func245.trans (congrArg some (by kernel_rfl))
 f267:=Tryz.func237.trans (congrArg some (by kernel_rfl))
 f314:=Tryz.func246.trans (congrArg some (by kernel_rfl))
 t3:=Tryz.underlying3
 a3:=Tryz.isAgg3
 z3:=Tryz.sizeOf3
 v3:=Tryz.zeroValue3
 t4:=Tryz.underlying4
 a4:=Tryz.isAgg4
 z4:=Tryz.sizeOf4
 v4:=Tryz.zeroValue4
 t5:=Tryz.underlying5
 a5:=Tryz.isAgg5
 z5:=Tryz.sizeOf5
 v5:=Tryz.zeroValue5
 t9:=Tryz.underlying9
 a9:=Tryz.isAgg9
 z9:=Tryz.sizeOf9
 v9:=Tryz.zeroValue9
 t46:=Tryz.underlying147
 a46:=Tryz.isAgg147
 z46:=Tryz.sizeOf147
 v46:=Tryz.zeroValue147
 t51:=Tryz.underlying202
 a51:=Tryz.isAgg202
 z51:=Tryz.sizeOf202
 v51:=Tryz.zeroValue202
 t146:=Tryz.underlying203
 a146:=Tryz.isAgg203
 z146:=Tryz.sizeOf203
 v146:=Tryz.zeroValue203
 g1:=by kernel_rfl
 i3:=by kernel_rfl
 i4:=by kernel_rfl
 i5:=by kernel_rfl
 i9:=by kernel_rfl
 i46:=by kernel_rfl
 i51:=by kernel_rfl
 i146:=by kernel_rfl
 m1:=by kernel_rfl
 s1_3:=fun w h=>Go.Proofs.cell_of_shapedOpen_int (zero:=#[.int .i64 0]) (t:=3) h (of_decide_eq_true (by kernel_rfl)) (by kernel_rfl) rfl (by kernel_rfl) (by kernel_rfl) Tryz.underlying3 }
end Go.Proofs
namespace Go.Proofs.YtnjolmbdbgbmbaaGreatDoor
namespace Qflo
open Go.RowKit
def lay (k:Nat) (o:Oper):Oper:={ o with after:=o.after.push ⟨k,.data⟩ }
def bound (ops:Array Oper) (k n:Nat):Array Oper:=ops.modify n (lay k)
theorem get_bound (ops:Array Oper) (k n i:Nat):(bound ops k n)[i]? = if n=i then (ops[i]?).map (lay k) else ops[i]?:=by
 unfold bound
 rw [Array.getElem?_modify]
theorem dst_bound (ops:Array Oper) (k n i:Nat):((bound ops k n)[i]?).bind (·.dst)=(ops[i]?).bind (·.dst):=by
 rw [get_bound]
 split
 ·cases ops[i]? <;> rfl
 ·rfl
theorem yielded_bound (ops:Array Oper) (k n:Nat) (t:Array Value):yielded (bound ops k n) t=yielded ops t:=by
 funext j
 unfold yielded
 rw [dst_bound]
theorem wpOp_bound {P:Program} {ops:Array Oper} {Q:Exit->Act->World->Prop} {k n i:Nat} {K:Act->World->Prop} {a:Act} {w:World}:wpOp P (bound ops k n) Q i K a w ↔ wpOp P ops Q i K a w:=by
 unfold wpOp
 rw [get_bound,yielded_bound]
 by_cases hn:n=i
 ·rw [if_pos hn]
  cases ops[i]? with
  | none=>exact Iff.rfl
  | some o=>exact Iff.rfl
 ·rw [if_neg hn]
theorem wpQuiet_bound {P:Program} {ops:Array Oper} {C:World->Prop} {k n:Nat}:∀ (l:List Oper) {Q:Act->Prop} {a:Act},wpQuiet P ops C Q l a->wpQuiet P (bound ops k n) C Q l a
 | [],_,_,h=>h
 | o :: l,Q,a,h=>by
  unfold wpQuiet at h |-
  rw [yielded_bound]
  split
  ·rename_i hw
   rw [if_pos hw] at h
   exact Oper.quiet_mono (fun a h=>wpQuiet_bound l h) h
  ·rename_i hw
   rw [if_neg hw] at h
   exact wpQuiet_bound l h
theorem wpList_bound {P:Program} {ops:Array Oper} {Q:Exit->Act->World->Prop} {k n:Nat}:∀ (l:List Oper) {a:Act} {w:World},wpList P ops Q l a w->wpList P (bound ops k n) Q l a w
 | [],_,_,h=>h
 | o :: l,a,w,h=>by
  unfold wpList at h |-
  rw [yielded_bound]
  split
  ·rename_i hw
   rw [if_pos hw] at h
   exact h.imp (Oper.wp_mono (fun a w h=>wpList_bound l h)) id
  ·rename_i hw
   rw [if_neg hw] at h
   exact wpList_bound l h
theorem wpList_lay {P:Program} {ops:Array Oper} {Q:Exit->Act->World->Prop} {k:Nat} {o:Oper} {l:List Oper} {a:Act} {w:World} (h:wpList P ops Q (o :: l) a w):wpList P ops Q (lay k o :: l) a w:=h
theorem no_events {P:Program} {x:Value} {ix:Nat} {w:World}:¬ noRoomEvent ∈ ((do pure (.value (<- Instr.extract x ix)):Sem Next).runT P w #[]).2:=by
 intro h
 cases x with
 | tuple vs =>
  cases hk:vs[ix]? with
  | some v=>simp only [Instr.extract,hk] at h;exact absurd (show noRoomEvent ∈ (#[]:Array _) from h) (by simp)
  | none=>simp only [Instr.extract,hk] at h;exact absurd (show noRoomEvent ∈ (#[]:Array _) from h) (by simp)
 | _=>exact absurd (show noRoomEvent ∈ (#[]:Array _) from h) (by simp)
theorem extract_wp {P:Program} {ops:Array Oper} {Q:Exit->Act->World->Prop} {i:Nat} {o:Oper} {x:Operand} {ix:Nat} (hi:ops[i]? = some o) (ho:o.op=.extract x ix) (hg:o.guard=none) {K:Act->World->Prop} {a:Act} {w:World}
  (h:wpOp P ops Q i K a w):∃ v,Yields P ops o v a/\K (a.put o.dst v) w:=by
 have hw:Region.wanted o (yielded ops a.tmps)=true:=by unfold Region.wanted;rw [hg]
 unfold wpOp at h
 simp only [hi,hw,if_true] at h
 have hx:execOp a.eval o=(do pure (.value (<- Instr.extract (a.eval x) ix)):Sem Next):=by unfold execOp;rw [ho]
 rcases h with h|h
 ·unfold Oper.wp at h
  rw [hx] at h
  have hv:∃ v,∀ w,(execOp a.eval o).run P w=.ok (.value v) w:=by
   cases hq:a.eval x with
   | tuple vs =>
    cases hk:vs[ix]? with
    | some v=>exact ⟨v,fun w=>by rw [hx,hq];simp [Instr.extract,hk]⟩
    | none=>rw [hq] at h;simp [Instr.extract,hk,Oper.upon,go_sem] at h
   | _=>rw [hq] at h;simp [Instr.extract,Oper.upon,go_sem] at h
  obtain ⟨v,hv⟩:=hv
  refine ⟨v,.inl ⟨hw,hv⟩,?_⟩
  rw [<- hx,hv w] at h
  exact h
 ·have h3:=h.1
  unfold Oper.asks at h3
  rw [hx] at h3
  exact absurd h3.1 no_events
theorem ready_bound {md:Region.Mode} {ops:Array Oper} {listed:Array Bool} {k n j:Nat}:j ∈ Region.ready md (bound ops k n) listed ↔ j ∈ Region.ready md ops listed/\(j=n->listed.getD k false=true):=by
 rw [mem_ready,mem_ready,get_bound]
 constructor
 ·rintro ⟨h0,o,ho,hall⟩
  split at ho
  ·rename_i hn
   subst hn
   cases hq:ops[n]? with
   | none=>rw [hq] at ho;cases ho
   | some o1 =>
    rw [hq] at ho
    cases ho
    refine ⟨⟨h0,o1,rfl,fun e he hb=>hall e (Array.mem_push.2 (.inl he)) hb⟩,fun _=>hall ⟨k,.data⟩ (Array.mem_push.2 (.inr rfl)) rfl⟩
  ·rename_i hn
   exact ⟨⟨h0,o,ho,hall⟩,fun e=>absurd e.symm hn⟩
 ·rintro ⟨⟨h0,o,ho,hall⟩,hk⟩
  by_cases hn:n=j
  ·subst hn
   refine ⟨h0,lay k o,by rw [if_pos rfl,ho];rfl,fun e he hb=>?_⟩
   rcases Array.mem_push.1 he with he|rfl
   ·exact hall e he hb
   ·exact hk rfl
  ·exact ⟨h0,o,by rw [if_neg hn];exact ho,hall⟩
def follows (md:Region.Mode) (ops:Array Oper) (k n:Nat):Bool :=
 match ops[k]?,ops[n]? with
 | some ok,some on=>ok.after.all (fun e=>!Region.binds md e || on.after.any (fun d=>Region.binds md d && d.on == e.on)) && (match ok.op with|.extract ..=>true|_=>false) && ok.guard.isNone
 | _,_=>false
theorem follows_spec {md:Region.Mode} {ops:Array Oper} {k n:Nat} (h:follows md ops k n=true):∃ ok on,ops[k]? = some ok/\ops[n]? = some on/\(∀ e ∈ ok.after,Region.binds md e=true->∃ d ∈ on.after,Region.binds md d=true/\d.on=e.on)/\(∃ x ix,ok.op=.extract x ix)/\ok.guard=none:=by
 unfold follows at h
 split at h
 ·rename_i ok on h1 h2
  simp only [Bool.and_eq_true] at h
  refine ⟨ok,on,h1,h2,fun e he hb=>?_,?_,by simpa using h.2⟩
  ·have:=(Array.all_eq_true_iff_forall_mem.1 h.1.1) e he
   simp only [hb,Bool.not_true,Bool.false_or] at this
   obtain ⟨d,hd,hb2⟩:=Array.any_eq_true'.1 this
   simp only [Bool.and_eq_true,beq_iff_eq] at hb2
   exact ⟨d,hd,hb2.1,hb2.2⟩
  ·have:=h.1.2
   split at this
   ·rename_i x ix hop;exact ⟨x,ix,hop⟩
   ·cases this
 ·cases h
def before (md:Region.Mode) (ops:Array Oper) (k:Nat):Array Bool:=((List.range ops.size).map fun j=>Region.waitsFor md ops k j).toArray
theorem before_get {md:Region.Mode} {ops:Array Oper} {k j:Nat} (hj:j<ops.size):(before md ops k).getD j true=Region.waitsFor md ops k j:=by
 unfold before
 simp [hj]
theorem put_panic {Q:Exit->Act->World->Prop} (hQ:∀ (d:Tmp) v c a w,Q (.panic c) (a.put (some d) v) w->Q (.panic c) a w) (d:Option Tmp) (v:Value) (c) (a:Act) (w:World) (h:Q (.panic c) (a.put d v) w):Q (.panic c) a w:=by
 cases d with
 | none=>exact h
 | some d=>exact hQ d v c a w h
theorem any_bound {P:Program} {ops:Array Oper} {md:Region.Mode} {Q:Exit->Act->World->Prop} {k n:Nat} (hsel:Region.noSelect ops=true) (hf:follows md ops k n=true) (hfree:Region.free md ops (before md ops k) k=true) (hkn:k ≠ n)
  (hQ:∀ (d:Tmp) v c a w,Q (.panic c) (a.put (some d) v) w->Q (.panic c) a w) :
  ∀ (fuel:Nat) (listed:Array Bool) (a:Act) (w:World),listed.size=ops.size->wpAny P md (bound ops k n) Q fuel listed a w->wpAny P md ops Q fuel listed a w:=by
 obtain ⟨ok,on,hk,hn,hdep,⟨x,ix,hop⟩,hg⟩:=follows_spec hf
 have hlt:k<ops.size:=(Array.getElem?_eq_some_iff.1 hk).1
 have key:∀ (listed:Array Bool),listed.size=ops.size->n ∈ Region.ready md ops listed->¬ listed.getD k false=true->k ∈ Region.ready md ops listed:=fun listed hs hr hl=>by
  obtain ⟨_,o,ho,hall⟩:=mem_ready.1 hr
  rw [hn] at ho
  cases ho
  refine mem_ready.2 ⟨getD_in (by omega) (by simpa using hl),ok,hk,fun e he hb=>?_⟩
  obtain ⟨d,hd,hbd,heq⟩:=hdep e he hb
  rw [<- heq]
  exact hall d hd hbd
 intro fuel
 induction fuel with
 | zero =>
  intro listed a w hs H
  refine ⟨?_,H.2⟩
  cases hr:Region.ready md ops listed with
  | nil=>rfl
  | cons j js =>
   have hj:j ∈ Region.ready md ops listed:=by rw [hr];simp
   by_cases hjn:j=n/\¬ listed.getD k false=true
   ·have h1:=key listed hs (hjn.1 ▸ hj) hjn.2
    have h2:k ∈ Region.ready md (bound ops k n) listed:=ready_bound.2 ⟨h1,fun e=>absurd e hkn⟩
    rw [H.1] at h2
    cases h2
   ·have h2:j ∈ Region.ready md (bound ops k n) listed:=ready_bound.2 ⟨hj,fun e=>Decidable.byContradiction fun h=>hjn ⟨e,h⟩⟩
    rw [H.1] at h2
    cases h2
 | succ fuel ih =>
  intro listed a w hs H
  by_cases hr:k ∈ Region.ready md ops listed
  ·have h1:=H.2 k (ready_bound.2 ⟨hr,fun e=>absurd e hkn⟩)
   obtain ⟨v,hy,h2⟩:=extract_wp hk hop hg (wpOp_bound.1 h1)
   have h3:=ih _ _ _ (by simp [hs]) h2
   refine wpAny_first hk (Region.noSelect_spec hsel) (fun c a w=>put_panic hQ _ _ c a w) fuel listed a w (fun j oj hj hne hun hno=>?_) hr hy h3
   refine Region.free_spec hk hfree j oj hj hne ?_ hno
   rw [before_get (Array.getElem?_eq_some_iff.1 hj).1]
   cases hw:Region.waitsFor md ops k j with
   | false=>rfl
   | true =>
    obtain ⟨o2,ho2,e,he,hb,heq⟩:=Region.waitsFor_spec hw
    obtain ⟨_,o3,ho3,hall⟩:=mem_ready.1 hr
    rw [ho2] at ho3
    cases ho3
    have h5:=hall e he hb
    rw [heq,getD_both hun] at h5
    cases h5
  ·have hrr:∀ j,j ∈ Region.ready md ops listed->j ∈ Region.ready md (bound ops k n) listed:=fun j hj=>ready_bound.2 ⟨hj,fun e=>by
    subst e
    exact Decidable.byContradiction fun h=>hr (key listed hs hj h)⟩
   refine ⟨fun h0=>H.1 ?_,fun j hj=>wpOp_mono (fun a w h=>ih _ _ _ (by simp [hs]) h) (wpOp_bound.1 (H.2 j (hrr j hj)))⟩
   cases hb:Region.ready md (bound ops k n) listed with
   | nil=>rfl
   | cons j js =>
    have hj:j ∈ Region.ready md (bound ops k n) listed:=by rw [hb];simp
    have:=(ready_bound.1 hj).1
    rw [h0] at this
    cases this
open Qtail in
theorem region_any {P:Program} {C:World->Prop} {Q:Exit->Act->World->Prop} {a:Act} {w:World} {l:List Oper} (n:Nat) (hB:Region.lexTailB .any l.toArray n=true) (hC:C { w with drawn:=w.drawn+1 })
  (h:wpQuiet P l.toArray C (fun a'=>∀ w',C w'->wpList P l.toArray Q (l.drop n) a' w') (l.take n) a):wpAny P .any l.toArray Q l.toArray.size (Array.replicate l.toArray.size false) a { w with drawn:=w.drawn+1 }:=by
 simp only [Region.lexTailB,Bool.and_eq_true,decide_eq_true_eq] at hB
 obtain ⟨⟨⟨⟨hsel,hn⟩,hs⟩,hc⟩,hlex⟩:=hB
 have hn':n<l.length:=by simpa using hn
 have htl:(l.take n).length=n:=by simp;omega
 have hdl:(l.drop n).length=l.toArray.size-n:=by simp
 have inv0:HeadInv .any l.toArray n (Array.replicate l.toArray.size false) :=
  ⟨by simp,fun j oj _ hl=>(by rw [getD_replicate_false] at hl;cases hl),fun t _ ht=>getD_in (by simpa using ht) (getD_replicate_false _ _)⟩
 have H:=anyT_lex (md:=.any) (g:=l.toArray.size-n) hsel hs hc hn (l.take n) 0 _ a (fun j hj=>by
  have hj':j<n:=by rw [htl] at hj;exact hj
  simp [hj']) (by simpa using htl) inv0 (by rw [htl];exact hlex) h
 have:=any_of_head (Q':=Q) (g:=l.toArray.size-n) (fun listed a' w' hw' hL=>by
  have:=wpAny_of_seq (md:=.any) (Q':=Q) (l.drop n) n listed a' w' (fun j=>by simp [List.getElem?_drop]) (by rw [hdl];exact hL.1) (hL.2 w' hw')
  rwa [hdl] at this) _ _ _ { w with drawn:=w.drawn+1 } hC H
 rw [htl,show n+(l.toArray.size-n)=l.toArray.size by omega] at this
 exact this
theorem wpQuiet_mono {P:Program} {ops:Array Oper} {C:World->Prop} {Q Q':Act->Prop} (hq:∀ a,Q a->Q' a):∀ (l:List Oper) (a:Act),wpQuiet P ops C Q l a->wpQuiet P ops C Q' l a
 | [],_,h=>hq _ h
 | o :: l,a,h=>by
  unfold wpQuiet at h |-
  split
  ·rename_i hw
   rw [if_pos hw] at h
   exact Oper.quiet_mono (fun a h=>wpQuiet_mono hq l a h) h
  ·rename_i hw
   rw [if_neg hw] at h
   exact wpQuiet_mono hq l _ h
theorem tail_late {P:Program} {id:Nat} {Q:Exit->Act->World->Prop} {a:Act} {w:World} {l:List Oper} (k n:Nat) (hm:P.follows .mixedOrders=true) (hB:(decide (k ≠ n) && Region.noSelect l.toArray && follows .any l.toArray k n && Region.free .any l.toArray (before .any l.toArray k) k && Region.lexTailB .any (bound l.toArray k n) n)=true)
  (hQ:∀ (d:Tmp) v c a w,Q (.panic c) (a.put (some d) v) w->Q (.panic c) a w)
  (h:wpQuiet P l.toArray (fun w'=>∃ p:Regrown,w'=Go.Sort.grow (redrawn w p.d) p.os) (fun a'=>∀ w',(∃ p:Regrown,w'=Go.Sort.grow (redrawn w p.d) p.os)->wpList P l.toArray Q (l.drop n) a' w') (l.take n) a):(Code.region id l.toArray true).wp P Q a w:=by
 simp only [Bool.and_eq_true,decide_eq_true_eq] at hB
 obtain ⟨⟨⟨⟨hkn,hsel⟩,hf⟩,hfree⟩,hB⟩:=hB
 have hsz:(bound l.toArray k n).size=l.toArray.size:=by unfold bound;simp
 refine wp_region_any hm (any_bound hsel hf hfree hkn hQ _ _ _ _ (by simp) ?_)
 have hnn:n<l.length:=by
  obtain ⟨ok,on,hk,hn,_⟩:=follows_spec hf
  simpa using (Array.getElem?_eq_some_iff.1 hn).1
 have ht:(bound l.toArray k n).toList.take n=l.take n:=by
  apply List.ext_getElem?
  intro i
  rw [List.getElem?_take,List.getElem?_take]
  split
  ·rw [Array.getElem?_toList,get_bound,if_neg (by omega)];simp
  ·rfl
 have hd:∃ o,l.drop n=o :: l.drop (n+1)/\(bound l.toArray k n).toList.drop n=lay k o :: l.drop (n+1):=by
  refine ⟨l[n],List.drop_eq_getElem_cons hnn,?_⟩
  apply List.ext_getElem?
  intro i
  rw [List.getElem?_drop,Array.getElem?_toList,get_bound]
  cases i with
  | zero=>simp [hnn]
  | succ i=>rw [if_neg (by omega)];simp [Nat.add_assoc,Nat.add_comm 1 i]
 obtain ⟨o,ho1,ho2⟩:=hd
 have H:=region_any (l:=(bound l.toArray k n).toList) (Q:=Q) (a:=a) (w:=w) (C:=fun w'=>∃ p:Regrown,w'=Go.Sort.grow (redrawn w p.d) p.os) n (by rw [Array.toArray_toList];exact hB) ⟨⟨w.drawn+1,#[]⟩,by rw [Go.Sort.grow_empty];rfl⟩ (P:=P) (by
  rw [Array.toArray_toList,ht]
  refine wpQuiet_bound _ ?_
  refine wpQuiet_mono (fun a' h w' hw'=>?_) _ _ h
  rw [ho2]
  have h1:=h w' hw'
  rw [ho1] at h1
  exact wpList_bound _ (wpList_lay h1))
 rw [Array.toArray_toList,hsz] at H
 exact H
end Qflo
namespace Rdr
def Rd (w:World) (rb:Nat):Prop:=∃ (a:Option Addr) (len cap p:Nat),w.cell? ⟨rb,0,none⟩=some (.slice a len cap)/\w.cell? ⟨rb,1,none⟩=some (.int .i64 p)/\p<=len/\len<=maxLen/\w.frozen? ⟨rb,1,none⟩=false /\
 (0<len->∃ b off,a=some ⟨b,off,none⟩/\b<rb/\∀ i,i<len->∃ x:Int,0<=x/\x<=255/\w.cell? ⟨b,off+i,none⟩=some (.int .u8 x))
theorem Rd.kept {w w':World} {rb:Nat} (h:Rd w rb) (hk:∀ k,k<=rb->w'.heap[k]? = w.heap[k]?):Rd w' rb:=by
 obtain ⟨a,len,cap,p,c0,c1,hp,hm,hf,hb⟩:=h
 have e:∀ b o,b<=rb->w'.cell? ⟨b,o,none⟩=w.cell? ⟨b,o,none⟩:=fun b o h=>World.cell?_of_block (a:=⟨b,o,none⟩) (hk b h)
 refine ⟨a,len,cap,p,(e _ _ (Nat.le_refl _)).trans c0,(e _ _ (Nat.le_refl _)).trans c1,hp,hm,(World.frozen?_of_block (a:=⟨rb,1,none⟩) (hk rb (Nat.le_refl _))).trans hf,fun hl=>?_⟩
 obtain ⟨b,off,ha,hbr,hx⟩:=hb hl
 refine ⟨b,off,ha,hbr,fun i hi=>?_⟩
 obtain ⟨x,x0,x1,hx⟩:=hx i hi
 exact ⟨x,x0,x1,(e _ _ (Nat.le_of_lt hbr)).trans hx⟩
theorem Rd.lt {w:World} {rb:Nat} (h:Rd w rb):rb<w.heap.size:=by
 obtain ⟨a,len,cap,p,c0,_⟩:=h
 exact World.block_lt_of_cell? w ⟨rb,0,none⟩ c0
theorem Rd.step {w:World} {rb len cap p:Nat} {a:Option Addr} (c0:w.cell? ⟨rb,0,none⟩=some (.slice a len cap)) (c1:w.cell? ⟨rb,1,none⟩=some (.int .i64 p)) (hp:p<len) (hm:len<=maxLen) (hf:w.frozen? ⟨rb,1,none⟩=false)
  (hb:0<len->∃ b off,a=some ⟨b,off,none⟩/\b<rb/\∀ i,i<len->∃ x:Int,0<=x/\x<=255/\w.cell? ⟨b,off+i,none⟩=some (.int .u8 x)) :
  Rd (w.setCell ⟨rb,1,none⟩ (.int .i64 ((p:Int)+1))) rb:=by
 refine ⟨a,len,cap,p+1,?_,?_,by omega,hm,?_,fun hl=>?_⟩
 ·exact (World.cell?_setCell_other w _ _ _ (by simp)).trans c0
 ·exact (World.cell?_setCell_same w _ _ c1).trans (by simp)
 ·rw [World.frozen?_setCell];exact hf
 ·obtain ⟨b,off,ha,hbr,hx⟩:=hb hl
  refine ⟨b,off,ha,hbr,fun i hi=>?_⟩
  obtain ⟨x,x0,x1,hx⟩:=hx i hi
  have hne:(⟨rb,1,none⟩ : Addr) ≠ ⟨b,off+i,none⟩:=fun e=>by have:=congrArg Addr.block e;simp at this;omega
  exact ⟨x,x0,x1,(World.cell?_setCell_other w _ _ _ hne).trans hx⟩
theorem grown_set (w:World) (b i:Nat) (v:Value):w.grownBy (w.setCell ⟨b,i,none⟩ v) (some b) :=
 ⟨rfl,rfl,rfl,by simp [World.setCell],fun k _ hne=>Below.heap_setCell w _ _ k (fun e=>hne (by rw [e]))⟩
def Post (w:World) (rb:Nat) (w':World):Prop:=Rd w' rb/\w.grownBy w' (some rb)
theorem Post.trans {a b c:World} {rb:Nat} (h:Post a rb b) (k:Post b rb c):Post a rb c :=
 ⟨k.1,⟨k.2.os.trans h.2.os,k.2.tape.trans h.2.tape,k.2.output.trans h.2.output,Nat.le_trans h.2.size k.2.size,fun i hi hne=>(k.2.block i (Nat.lt_of_lt_of_le hi h.2.size) hne).trans (h.2.block i hi hne)⟩⟩
theorem Post.of {w w':World} {rb:Nat} (h:Rd w rb) (hh:w'.heap=w.heap) (ho:w'.os=w.os) (ht:w'.tape=w.tape) (hp:w'.output=w.output):Post w rb w' :=
 ⟨h.kept fun _ _=>by rw [hh],⟨ho,ht,hp,by rw [hh];exact Nat.le_refl _,fun _ _ _=>by rw [hh]⟩⟩
theorem Post.alloc {w w':World} {rb:Nat} (h:Post w rb w') (o:Obj):Post w rb (w'.alloc o) :=
 ⟨h.1.kept fun k hk=>Below.heap_alloc w' o k (Nat.lt_of_le_of_lt hk h.1.lt),⟨h.2.os,h.2.tape,h.2.output,Nat.le_trans h.2.size (by simp),fun k hk hne=>(Below.heap_alloc w' o k (Nat.lt_of_lt_of_le hk h.2.size)).trans (h.2.block k hk hne)⟩⟩
theorem Post.refl {w:World} {rb:Nat} (h:Rd w rb):Post w rb w:=Post.of h rfl rfl rfl rfl
theorem Post.below {w w':World} {rb B:Nat} (h:Post w rb w') (hB:B<=rb) (hr:rb<=w.heap.size):Below B w w' :=
 ⟨h.2.os,h.2.tape,h.2.output,h.2.size,fun k hk=>h.2.block k (by omega) (fun e=>by cases e;omega)⟩
theorem next_any (rb:Nat) (w:World) (h:Rd w rb) :
  Calls prog 116 #[.pointer (some ⟨rb,0,none⟩)] w fun e w'=>(∃ x:Int,0<=x/\x<=255/\e=.returned (.int .i64 x))/\Post w rb w':=by
 have H:Hid (Rd w rb):=h
 obtain ⟨a,len,cap,p,c0,c1,hp,hm,hf,hb⟩:=h
 unfold maxLen at hm
 by_cases hlt:p<len
 ·obtain ⟨b,off,rfl,hbr,hx⟩:=hb (by omega)
  obtain ⟨x,x0,x1,hx⟩:=hx p hlt
  have hne:¬ b=rb:=by omega
  go_enter func116,ntmps116
  go_wp2
  go_quiet (fail)
  go_wp2
  go_quiet (fail)
  go_wp2
  go_ret
  have g:=grown_set w rb 1 (.int .i64 ((p:Int)+1))
  exact ⟨⟨x,x0,x1,rfl⟩,(Rd.step (w:=w) c0 c1 hlt hm hf hb).kept fun _ _=>rfl,⟨g.os,g.tape,g.output,g.size,g.block⟩⟩
 ·clear hb
  go_enter func116,ntmps116
  go_wp2
  go_quiet (fail)
  go_wp2
  go_ret
  exact ⟨⟨0,by decide,by decide,rfl⟩,H.out.kept fun _ _=>rfl,⟨rfl,rfl,rfl,Nat.le_refl _,fun _ _ _=>rfl⟩⟩
theorem wf_small {x:Int} (h0:-1000000001<=x) (h1:x<=1000000001):(Lit.int .i64 x).wf=true:=by
 simp [Lit.wf,IntKind.min,IntKind.max,IntKind.signed,IntKind.bits];omega
theorem mod_bd {x n:Int} (h:0<n):0<=x%n/\x%n<n:=⟨Int.emod_nonneg _ (by omega),Int.emod_lt_of_pos _ h⟩
theorem below_any (rb:Nat) (n:Int) (w:World) (h:Rd w rb) (h1:1<=n) (h2:n<=1000000000) :
  Calls prog 82 #[.pointer (some ⟨rb,0,none⟩),.int .i64 n] w fun e w'=>(∃ x:Int,0<=x/\x<n/\e=.returned (.int .i64 x))/\Post w rb w':=by
 have H:Hid (Rd w rb):=h
 clear h
 by_cases n1:n<=1
 ·go_enter func82,ntmps82
  go_wp2
  go_ret
  exact ⟨⟨0,by decide,by omega,rfl⟩,Post.refl H.out⟩
 by_cases n2:n<=256
 ·go_enter func82,ntmps82
  go_wp2_with (go_at_call 116;refine (next_any _ _ H.out).mono ?_;rintro e w' ⟨⟨x,x0,x1,rfl⟩,hp⟩)
  go_ret
  obtain ⟨a,b⟩:=mod_bd (x:=x) (n:=n) (by omega)
  exact ⟨⟨x%n,a,b,rfl⟩,hp⟩
 ·go_enter func82,ntmps82
  go_wp2_with fail
  refine (next_any _ _ H.out).mono ?_
  rintro e w1 ⟨⟨x,x0,x1,rfl⟩,hp⟩
  go_wp2_with fail
  refine (next_any _ _ hp.1).mono ?_
  rintro e w2 ⟨⟨y,y0,y1,rfl⟩,hp'⟩
  go_wp2
  go_ret
  obtain ⟨a,b⟩:=mod_bd (x:=x*256+y) (n:=n) (by omega)
  exact ⟨⟨(x*256+y)%n,a,b,rfl⟩,hp.trans hp'⟩
theorem once_any (rb:Nat) (n:Int) (w:World) (h:Rd w rb) (h1:1<=n) (h2:n<=1000000000) :
  Calls prog 103 #[.pointer (some ⟨rb,0,none⟩),.int .i64 n] w fun e w'=>(∃ x:Bool,e=.returned (.bool x))/\Post w rb w':=by
 have H:Hid (Rd w rb):=h
 clear h
 go_enter func103,ntmps103
 go_wp2_with (go_at_call 82;refine (below_any _ _ _ H.out h1 h2).mono ?_;rintro e w' ⟨⟨x,x0,x1,rfl⟩,hp⟩)
 go_ret
 exact ⟨⟨_,rfl⟩,hp⟩
theorem wf_zero:(Lit.int .u64 0).wf=true:=rfl
theorem word_any (rb:Nat) (w:World) (h:Rd w rb) :
  Calls prog 210 #[.pointer (some ⟨rb,0,none⟩)] w fun e w'=>(∃ x:Int,(Lit.int .u64 x).wf=true/\e=.returned (.int .u64 x))/\Post w rb w':=by
 have H:Hid (Rd w rb):=h
 clear h
 go_enter func210,ntmps210
 go_wp2
 go_loopw [3,4] (fun t i wr=>∃ (k:Nat) (x:Int),k<=8/\i=.int .i64 k/\t=.int .u64 x/\Hid ((Lit.int .u64 x).wf=true)/\Hid (Post w rb wr)) (fun _ i _=>8-(intOf i).toNat)
 case atStart=>exact ⟨0,0,by decide,rfl,rfl,wf_zero,Post.refl H.out⟩
 case round =>
  obtain ⟨k,x,hk,rfl,rfl,hx,hp⟩:=hrel
  by_cases hlt:k<8
  ·go_wp2_with (go_at_call 116;refine (next_any _ _ hp.out.1).mono ?_;rintro e w1 ⟨⟨y,y0,y1,rfl⟩,hp1⟩)
   go_roundw
   case rel=>exact ⟨k+1,_,by omega,by go_num,rfl,wf_bits _ _ _ _,hp.out.trans hp1⟩
   case measure=>simp [intOf];omega
  ·go_wp2
   go_ret
   exact ⟨⟨x,hx.out,rfl⟩,hp.out⟩
theorem near_any (rb:Nat) (low high:Int) (w:World) (h:Rd w rb) (h1:low<=high) (h2:-1000000000<=low) (h3:high<=1000000000) :
  Calls prog 145 #[.pointer (some ⟨rb,0,none⟩),.int .i64 low,.int .i64 high] w fun e w'=>(∃ x:Int,low<=x/\x<=high/\e=.returned (.int .i64 x))/\Post w rb w':=by
 have H:Hid (Rd w rb):=h
 clear h
 go_enter func145,ntmps145
 go_wp2_with fail
 refine (below_any _ _ _ H.out (by decide) (by decide)).mono ?_
 rintro e w1 ⟨⟨x,x0,x1,rfl⟩,hp⟩
 by_cases hx0:x=0
 ·subst hx0
  go_wp2
  go_ret
  exact ⟨⟨low,by omega,h1,rfl⟩,hp⟩
 by_cases hx1:x=1
 ·subst hx1
  go_wp2
  go_ret
  exact ⟨⟨high,h1,by omega,rfl⟩,hp⟩
 ·have b0:(x == 0)=false:=by simpa using hx0
  have b1:(x == 1)=false:=by simpa using hx1
  go_wp2_with fail
  refine (word_any _ _ hp.1).mono ?_
  rintro e w2 ⟨⟨y,hy,rfl⟩,hp'⟩
  have hy0:0<=y:=(bounds_u64 hy).1
  have HY:Hid ((Lit.int .u64 y).wf=true):=hy
  clear hy
  obtain ⟨m0,m1⟩:=mod_bd (x:=y / 2) (n:=high-low+1) (by omega)
  go_wp2
  go_ret
  exact ⟨⟨low+y / 2%(high-low+1),by omega,by omega,rfl⟩,hp.trans hp'⟩
theorem off_any (rb:Nat) (low high:Int) (w:World) (h:Rd w rb) (h1:low<=high) (h2:-1000000000<=low) (h3:high<=1000000000) :
  Calls prog 104 #[.pointer (some ⟨rb,0,none⟩),.int .i64 low,.int .i64 high] w fun e w'=>(∃ x:Int,(Lit.int .i64 x).wf=true/\e=.returned (.int .i64 x))/\Post w rb w':=by
 have H:Hid (Rd w rb):=h
 clear h
 go_enter func104,ntmps104
 go_wp2_with fail
 refine (once_any _ _ _ H.out (by decide) (by decide)).mono ?_
 rintro e w1 ⟨⟨x,rfl⟩,hp⟩
 cases x with
 | true =>
  go_wp2_with fail
  refine (below_any _ _ _ (hp.alloc _).1 (by decide) (by decide)).mono ?_
  rintro e w2 ⟨⟨y,y0,y1,rfl⟩,hp'⟩
  have hc:∃ z:Int,(Lit.int .i64 z).wf=true/\w2.cell? ⟨w1.heap.size,y.toNat,none⟩=some (.int .i64 z):=by
   have hl:=hp.1.lt
   have e:∀ i:Nat,w2.cell? ⟨w1.heap.size,i,none⟩=#[Value.int .i64 (low-1),.int .i64 (high+1),.int .i64 (-9223372036854775808),.int .i64 9223372036854775807][i]?:=fun i =>
    (World.cell?_of_block (a:=⟨w1.heap.size,i,none⟩) (hp'.2.block _ (by simp) (fun e=>by have:w1.heap.size=rb:=Option.some.inj e;omega))).trans (World.cell?_alloc_new _ _ _ _)
   have hy:y=0 \/ y=1 \/ y=2 \/ y=3:=by omega
   rcases hy with rfl|rfl|rfl|rfl
   ·exact ⟨_,wf_small (by omega) (by omega),e 0⟩
   ·exact ⟨_,wf_small (by omega) (by omega),e 1⟩
   ·exact ⟨_,by decide,e 2⟩
   ·exact ⟨_,by decide,e 3⟩
  obtain ⟨z,hz,hc⟩:=hc
  go_wp2
  go_ret
  exact ⟨⟨z,hz,rfl⟩,(hp.alloc _).trans hp'⟩
 | false =>
  go_wp2_with fail
  refine (near_any _ _ _ _ hp.1 h1 h2 h3).mono ?_
  rintro e w2 ⟨⟨y,y0,y1,rfl⟩,hp'⟩
  go_wp2
  go_ret
  exact ⟨⟨y,wf_small (by omega) (by omega),rfl⟩,hp.trans hp'⟩
theorem byte_any (rb:Nat) (w:World) (h:Rd w rb) :
  Calls prog 101 #[.pointer (some ⟨rb,0,none⟩)] w fun e w'=>(∃ x:Int,0<=x/\x<=255/\e=.returned (.int .i64 x))/\Post w rb w':=by
 have H:Hid (Rd w rb):=h
 clear h
 go_enter func101,ntmps101
 go_wp2_with fail
 refine (once_any _ _ _ H.out (by decide) (by decide)).mono ?_
 rintro e w1 ⟨⟨x,rfl⟩,hp⟩
 cases x with
 | true =>
  go_wp2_with fail
  refine (below_any _ _ _ (hp.alloc _).1 (by decide) (by decide)).mono ?_
  rintro e w2 ⟨⟨y,y0,y1,rfl⟩,hp'⟩
  have hc:∃ z:Int,0<=z/\z<=255/\w2.cell? ⟨w1.heap.size,y.toNat,none⟩=some (.int .i64 z):=by
   have hl:=hp.1.lt
   have e:∀ i:Nat,w2.cell? ⟨w1.heap.size,i,none⟩=#[Value.int .i64 0,.int .i64 1,.int .i64 127,.int .i64 128,.int .i64 255,.int .i64 15,.int .i64 16,.int .i64 240][i]?:=fun i =>
    (World.cell?_of_block (a:=⟨w1.heap.size,i,none⟩) (hp'.2.block _ (by simp) (fun e=>by have:w1.heap.size=rb:=Option.some.inj e;omega))).trans (World.cell?_alloc_new _ _ _ _)
   have hy:y=0 \/ y=1 \/ y=2 \/ y=3 \/ y=4 \/ y=5 \/ y=6 \/ y=7:=by omega
   rcases hy with rfl|rfl|rfl|rfl|rfl|rfl|rfl|rfl
   ·exact ⟨_,by decide,by decide,e 0⟩
   ·exact ⟨_,by decide,by decide,e 1⟩
   ·exact ⟨_,by decide,by decide,e 2⟩
   ·exact ⟨_,by decide,by decide,e 3⟩
   ·exact ⟨_,by decide,by decide,e 4⟩
   ·exact ⟨_,by decide,by decide,e 5⟩
   ·exact ⟨_,by decide,by decide,e 6⟩
   ·exact ⟨_,by decide,by decide,e 7⟩
  obtain ⟨z,z0,z1,hc⟩:=hc
  go_wp2
  go_ret
  exact ⟨⟨z,z0,z1,rfl⟩,(hp.alloc _).trans hp'⟩
 | false =>
  go_wp2_with fail
  refine (below_any _ _ _ hp.1 (by decide) (by decide)).mono ?_
  rintro e w2 ⟨⟨y,y0,y1,rfl⟩,hp'⟩
  go_wp2
  go_ret
  exact ⟨⟨y,y0,by omega,rfl⟩,hp.trans hp'⟩
def IsRow (k:IntKind) (w:World) (a:Option Addr) (len cap:Nat) (zs:List Int):Prop :=
 (a=none/\len=0/\cap=0/\zs=[]) \/
 ∃ x,a=some x/\len<=cap/\cap<=maxLen/\zs.length=cap/\(∀ i,i<zs.length->w.cell? (x.add i)=some (.int k (zs.getD i 0)))/\∀ n ∈ zs,(Lit.int k n).wf=true
theorem IsRow.below {k:IntKind} {w w':World} {a:Option Addr} {len cap:Nat} {zs:List Int} (h:IsRow k w a len cap zs) (hb:Below w.heap.size w w'):IsRow k w' a len cap zs:=by
 rcases h with h|⟨x,hx,hl,hm,hz,hc,hw⟩
 ·exact .inl h
 ·refine .inr ⟨x,hx,hl,hm,hz,fun i hi=>?_,hw⟩
  rw [<- hc i hi]
  exact hb.cell (World.block_lt_of_cell? w _ (hc i hi))
theorem IsRow.len {k:IntKind} {w:World} {a:Option Addr} {len cap:Nat} {zs:List Int} (h:IsRow k w a len cap zs):len<=maxLen:=by
 rcases h with ⟨_,rfl,_⟩|⟨x,_,h1,h2,_⟩
 ·exact Nat.zero_le _
 ·exact Nat.le_trans h1 h2
def bigB (len:Nat):Bool:=decide (1048576<len)
theorem big_any (a:Option Addr) (len cap:Nat) (w:World) (hl:len<=maxLen) :
  Calls prog 25 #[.slice a len cap] w fun e w'=>e=.returned (.bool (bigB len))/\w'=w:=by
 unfold maxLen at hl
 go_enter func25,ntmps25
 go_wp2
 go_ret
 refine ⟨congrArg (fun b=>Ending.returned (.bool b)) ?_,rfl⟩
 rw [Bool.eq_iff_iff];simp [bigB];try omega
theorem Rd.new {w:World} {a:Option Addr} {len cap:Nat} {zs:List Int} (h:IsRow .u8 w a len cap zs) (t:TypeId):Rd (w.alloc (.cells #[.slice a len cap,.int .i64 0] t)) w.heap.size:=by
 refine ⟨a,len,cap,0,?_,?_,Nat.zero_le _,?_,?_,fun hl=>?_⟩
 ·exact World.cell?_alloc_new _ _ _ _
 ·exact World.cell?_alloc_new _ _ _ _
 ·rcases h with ⟨_,rfl,_⟩|⟨x,_,h1,h2,_⟩
  ·exact Nat.zero_le _
  ·exact Nat.le_trans h1 h2
 ·exact World.frozen?_alloc_new _ _ _ _
 ·rcases h with ⟨_,rfl,_⟩|⟨⟨b,off,spot⟩,rfl,h1,h2,h3,hc,hw⟩
  ·exact absurd hl (Nat.lt_irrefl _)
  ·have c0:=hc 0 (by omega)
   have hspot:spot=none:=by simpa [Addr.add] using World.cell?_spot c0
   subst hspot
   have e:∀ i,(⟨b,off,none⟩ : Addr).add i=⟨b,off+i,none⟩:=fun i=>by unfold Addr.add;split <;> simp_all
   have hb:b<w.heap.size:=World.block_lt_of_cell? w ⟨b,off,none⟩ (by simpa [Addr.add] using c0)
   refine ⟨b,off,rfl,hb,fun i hi=>?_⟩
   have hi':i<zs.length:=by omega
   have:=bounds_u8 (hw (zs.getD i 0) (by rw [List.getD_eq_getElem?_getD,List.getElem?_eq_getElem hi'];exact List.getElem_mem hi'))
   refine ⟨zs.getD i 0,this.1,this.2,?_⟩
   rw [World.cell?_alloc_lt _ _ _ hb,<- e i]
   exact hc i hi'
theorem open_any (a:Option Addr) (len cap:Nat) (zs:List Int) (w:World) (h:IsRow .u8 w a len cap zs) :
  Calls prog 66 #[.slice a len cap] w fun e w'=>e=.returned (.pointer (some ⟨w.heap.size,0,none⟩))/\Rd w' w.heap.size/\Below w.heap.size w w':=by
 have H:=Rd.new h
 clear h
 go_enter func66,ntmps66
 go_wp2
 go_ret
 exact ⟨rfl,H _,zAl _ _⟩
end Rdr
namespace Laid
open Go.ChangeShapes Go.WideShapes Go.RowKit
theorem skip {P:Program} {W:World} {x:String × DataW Unit} {rest:List (String × DataW Unit)} {ps:List MemPlace} (h:DataW.LaidVars P W (x :: rest) ps):∃ q,DataW.LaidVars P W rest q:=by
 obtain ⟨n,d⟩:=x
 obtain ⟨_,_,_,_,_,q,_,_,_,_,h,_⟩:=h
 exact ⟨q,h⟩
def txtData (l:List (List UInt8)):DataW Unit:=.agg (l.map fun s=>.lit (.string s))
theorem txts {P:Program} {W:World} {name:String} {l:List (List UInt8)} {rest:List (String × DataW Unit)} {ps:List MemPlace} {g:Nat} {t e:TypeId} {n:Nat}
  (hg:P.globalNamed name=some g) (hty:(P.globals[g]?).map (·.type)=some t) (ht:P.underlying t=some (.array n e)) (he:P.underlying e=some .string) (hce:P.cellsOf e=1) (hct:P.cellsOf t=n)
  (h:DataW.LaidVars P W ((name,txtData l) :: rest) ps):∀ i,i<l.length->W.cell? ⟨g,i,none⟩=some (.string ⟨(l.getD i []).toArray⟩):=by
 obtain ⟨g',t',cs,fuel,p,q,hg',ht',hvar,hd,_,_⟩:=h
 obtain rfl:=Option.some.inj (hg.symm.trans hg')
 obtain rfl:=Option.some.inj (hty.symm.trans ht')
 intro i hi
 rw [World.var?_cell hg hvar i]
 cases fuel with
 | zero=>simp [DataW.trod] at hd
 | succ fuel =>
  simp only [DataW.trod,ht,hce,hct,Nat.mul_one] at hd
  split at hd
  ·obtain ⟨xs,hm,hx⟩:=Option.map_eq_some_iff.1 hd
   have hxs:xs.map (·.1)=l.map fun s=>(DataW.lit (.string s):DataW Unit):=by
    have:=congrArg Prod.fst hx
    simpa [txtData] using this
   have hxl:xs.length=n:=by simpa using Lib.mapM_length hm
   have hln:l.length=n:=by
    have:=congrArg List.length hxs
    simp at this
    omega
   have hi':i<n:=by omega
   obtain ⟨b,hb,hf⟩:=Lib.mapM_at hm i i (by simp [hi'])
   obtain ⟨s,hc,rfl,_⟩:=DataW.trod_string he hf
   have h1:cs.toList[i]? = some (.string s):=by
    have:=congrArg (·[0]?) hc
    simpa [List.getElem?_take,List.getElem?_drop] using this
   have h2:(xs.map (·.1))[i]? = some (DataW.lit (.string s.data.toList):DataW Unit):=by simp [hb]
   rw [hxs] at h2
   simp only [List.getElem?_map,Option.map_eq_some_iff,DataW.lit.injEq,Lit.string.injEq] at h2
   obtain ⟨z,hz,hzs⟩:=h2
   rw [<- Array.getElem?_toList,h1,List.getD_eq_getElem?_getD,hz]
   simp [hzs]
  ·cases hd
theorem vars_len {H:Type} {enc:TypeId × Value->H} {P:Program} {w:World} {sp:Nat->Bool}:∀ {ns:List String} {gs:List (DataW H)} {ps:List MemPlace},DataW.TrodVars enc P w sp ns gs ps->gs.length=ns.length
 | [],[],_,_=>rfl
 | [],_ :: _,_,h=>h.elim
 | _ :: _,[],_,h=>h.elim
 | _ :: ns,_ :: gs,_,h=>by
  obtain ⟨_,_,_,_,_,q,_,_,_,_,h,_⟩:=h
  simp only [List.length_cons]
  rw [vars_len h]
end Laid
end Go.Proofs.YtnjolmbdbgbmbaaGreatDoor
