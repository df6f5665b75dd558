import Derived.Test.YtfpecdgcapfgfaaGreatRows
import Derived.WalkKit
import Derived.ProofKit
import Derived.OpenShut
import Derived.BigQuiet
import Derived.Deep.RegionWith
import Derived.Deep.QuietTactic
import Derived.Below
import Derived.Laws.EntriesVeiled
import Derived.StillTail
import Derived.Deep.Quiet
import Derived.Lib.QuietBelow
import Derived.ShutString
import Derived.Outline
import Derived.WalkLawsBesides
import Derived.LoopN
import Derived.Laws.BytesArg
import Derived.OneCell
import Derived.Laws.Rows
import Derived.Laws.IdiomStrings
import Derived.Laws.OwnMore
import Derived.Lib.LazyBuf
set_option linter.all false
set_option maxRecDepth 20000
set_option maxHeartbeats 8000000
open Go.ChangeShapes Go.WideShapes Go.ChangeAt Go.RowKit
open Go.Proofs.Tryz
namespace Go.Proofs.YtfpecdgcapfgfaaGreat
theorem zHd {p:Prop} (h:p):Hid p:=h
theorem zRf {B:Nat} {w:World}:Below B w w:=Below.refl _ _
theorem zAl (w:World) (o:Obj):Below w.heap.size w (w.alloc o):=(Below.refl _ _).alloc (Nat.le_refl _) o
theorem zLo {w:World} {b:Nat} {o:Obj} (h:w.heap[b]?=some o):b<w.heap.size:=(Array.getElem?_eq_some_iff.1 h).1
end Go.Proofs.YtfpecdgcapfgfaaGreat
namespace Go.Proofs.YtfpecdgcapfgfaaGreat
namespace Signed
def inB (n low high:Int):Bool:=decide (low<=n/\n<=high)
def sgn (b:Int):Int:=if b<0 \/ 255<b then 0 else if 127<b then b-256 else b
theorem ret_int {k:IntKind} {a b:Int} (h:a=b):Ending.returned (.int k a)=.returned (.int k b):=by rw [h]
theorem ret_bool {a b:Bool} (h:a=b):Ending.returned (.bool a)=.returned (.bool b):=by rw [h]
theorem isByte_any (n:Int) (w:World) :
  Calls prog 19 #[.int .i64 n] w fun e w'=>e=.returned (.bool (inB n 0 255))/\w'=w:=by
 go_enter func19,ntmps19
 go_wp2
 all_goals go_ret
 all_goals exact ⟨ret_bool (by rw [Bool.eq_iff_iff];simp [inB];try omega),rfl⟩
theorem l1In_any (n low high:Int) (w:World) :
  Calls prog 45 #[.int .i64 n,.int .i64 low,.int .i64 high] w fun e w'=>e=.returned (.bool (inB n low high))/\w'=w:=by
 go_enter func45,ntmps45
 go_wp2
 all_goals go_ret
 all_goals exact ⟨ret_bool (by rw [Bool.eq_iff_iff];simp [inB];try omega),rfl⟩
theorem specSigned_any (b:Int) (w:World) :
  Calls prog 87 #[.int .i64 b] w fun e w'=>e=.returned (.int .i64 (sgn b))/\w'=w:=by
 have hb:(b<0 \/ 255<b) \/ (0<=b/\b<=127) \/ (127<b/\b<=255):=by omega
 rcases hb with h|⟨h,h'⟩|⟨h,h'⟩
 ·have hi:inB b 0 255=false:=decide_eq_false (by omega)
  have hs:sgn b=0:=by unfold sgn;rw [if_pos h]
  go_enter func87,ntmps87
  go_wp2_with (go_at_call 45;refine (l1In_any _ _ _ _).mono ?_;rintro e w' ⟨rfl,rfl⟩)
  go_ret
  first|exact ⟨rfl,rfl⟩|exact ⟨ret_int hs.symm,rfl⟩
 ·have hi:inB b 0 255=true:=decide_eq_true (by omega)
  have hs:sgn b=b:=by unfold sgn;rw [if_neg (by omega),if_neg (by omega)]
  go_enter func87,ntmps87
  go_wp2_with (go_at_call 45;refine (l1In_any _ _ _ _).mono ?_;rintro e w' ⟨rfl,rfl⟩)
  go_ret
  first|exact ⟨rfl,rfl⟩|exact ⟨ret_int hs.symm,rfl⟩
 ·have hi:inB b 0 255=true:=decide_eq_true (by omega)
  have hs:sgn b=b-256:=by unfold sgn;rw [if_neg (by omega),if_pos h]
  go_enter func87,ntmps87
  go_wp2_with (go_at_call 45;refine (l1In_any _ _ _ _).mono ?_;rintro e w' ⟨rfl,rfl⟩)
  go_ret
  first|exact ⟨rfl,rfl⟩|exact ⟨ret_int hs.symm,rfl⟩
end Signed
namespace Carts
open Signed (inB ret_int ret_bool isByte_any l1In_any)
def banks (n:Nat):Int:=if n%256=0/\512<=n/\n<=4096 then n / 256 else 0
def romB (n:Nat):Bool:=decide (n%256=0/\512<=n/\n<=4096)
def heldB (kind bank rb:Int) (on:Bool) (mode:Int):Bool :=
 if kind=0 then decide (bank=1/\rb=0/\mode=0/\on=false)
 else if kind=1 then inB bank 1 31 && inB rb 0 3 && inB mode 0 1
 else if kind=2 then inB bank 0 255 && inB rb 0 3 && mode == 0
 else false
def okB (rom:ByteArray) (kind bank:Int) (ram:ByteArray) (rb:Int) (on:Bool) (mode:Int):Bool:=heldB kind bank rb on mode && romB rom.size && ram.size == 256
def mapV (kind:Int):Value :=
 if kind=0 then .iface 83 (.agg #[])
 else if kind=1 then .iface 84 (.agg #[])
 else if kind=2 then .iface 85 (.agg #[])
 else .nilIface
theorem isRamBank_any (n:Int) (w:World) :
  Calls prog 129 #[.int .i64 n] w fun e w'=>e=.returned (.bool (inB n 0 3))/\w'=w:=by
 go_enter func129,ntmps129
 go_wp2
 all_goals go_ret
 all_goals exact ⟨ret_bool (by rw [Bool.eq_iff_iff];simp [inB];try omega),rfl⟩
theorem mapperOf_any (n:Int) (w:World) :
  Calls prog 50 #[.int .i64 n] w fun e w'=>e=.returned (mapV n)/\w'=w:=by
 go_enter func50,ntmps50
 go_wp2
 all_goals go_ret
 all_goals exact ⟨by congr 1;unfold mapV;simp_all,rfl⟩
theorem romOk_any (rom:ByteArray) (w:World) (hs:rom.size<=maxLen) :
  Calls prog 51 #[.string rom] w fun e w'=>e=.returned (.bool (romB rom.size))/\w'=w:=by
 have hs':rom.size<=9223372036854775807:=by unfold maxLen at hs;omega
 go_enter func51,ntmps51
 go_wp2
 all_goals go_ret
 all_goals exact ⟨ret_bool (by rw [Bool.eq_iff_iff];simp [romB];try omega),rfl⟩
theorem l5Banks_any (rom:ByteArray) (w:World) (hs:rom.size<=maxLen) :
  Calls prog 60 #[.string rom] w fun e w'=>e=.returned (.int .i64 (banks rom.size))/\w'=w:=by
 have hs':rom.size<=9223372036854775807:=by unfold maxLen at hs;omega
 go_enter func60,ntmps60
 go_wp2_with (go_at_call 45;refine (l1In_any _ _ _ _).mono ?_;rintro e w' ⟨rfl,rfl⟩)
 all_goals go_ret
 all_goals exact ⟨ret_int (by unfold banks;simp_all [inB];try omega),rfl⟩
theorem m0 (w:World):(method 234 83 (.agg #[]) "loop.example/g00460/impl.holds").run prog w=.ok (127,.agg #[]) w:=by kernel_rfl
theorem m1 (w:World):(method 234 84 (.agg #[]) "loop.example/g00460/impl.holds").run prog w=.ok (128,.agg #[]) w:=by kernel_rfl
theorem m2 (w:World):(method 234 85 (.agg #[]) "loop.example/g00460/impl.holds").run prog w=.ok (130,.agg #[]) w:=by kernel_rfl
theorem plainHolds_any (rom:ByteArray) (kind bank:Int) (ram:ByteArray) (rb:Int) (on:Bool) (mode:Int) (w:World) :
  Calls prog 127 #[.agg #[],.agg #[.string rom,.int .i64 kind,.int .i64 bank,.string ram,.int .i64 rb,.bool on,.int .i64 mode]] w fun e w'=>e=.returned (.bool (decide (bank=1/\rb=0/\mode=0/\on=false)))/\w'=(w.alloc (.cells #[] 83)).alloc (.cells #[.string rom,.int .i64 kind,.int .i64 bank,.string ram,.int .i64 rb,.bool on,.int .i64 mode] 27):=by
 go_enter func127,ntmps127
 go_wp2
 all_goals go_ret
 all_goals exact ⟨ret_bool (by rw [Bool.eq_iff_iff];simp_all),by first|rfl|simp_all⟩
theorem oneHolds_any (rom:ByteArray) (kind bank:Int) (ram:ByteArray) (rb:Int) (on:Bool) (mode:Int) (w:World) :
  Calls prog 128 #[.agg #[],.agg #[.string rom,.int .i64 kind,.int .i64 bank,.string ram,.int .i64 rb,.bool on,.int .i64 mode]] w fun e w'=>e=.returned (.bool (inB bank 1 31 && inB rb 0 3 && inB mode 0 1))/\w'=(w.alloc (.cells #[] 84)).alloc (.cells #[.string rom,.int .i64 kind,.int .i64 bank,.string ram,.int .i64 rb,.bool on,.int .i64 mode] 27):=by
 go_enter func128,ntmps128
 go_wp2_with (go_at_call 129;refine (isRamBank_any _ _).mono ?_;rintro e w' ⟨rfl,rfl⟩)
 all_goals go_ret
 all_goals exact ⟨ret_bool (by rw [Bool.eq_iff_iff];simp_all [inB] <;> omega),by first|rfl|simp_all⟩
theorem fiveHolds_any (rom:ByteArray) (kind bank:Int) (ram:ByteArray) (rb:Int) (on:Bool) (mode:Int) (w:World) :
  Calls prog 130 #[.agg #[],.agg #[.string rom,.int .i64 kind,.int .i64 bank,.string ram,.int .i64 rb,.bool on,.int .i64 mode]] w fun e w'=>e=.returned (.bool (inB bank 0 255 && inB rb 0 3 && mode == 0))/\w'=(w.alloc (.cells #[] 85)).alloc (.cells #[.string rom,.int .i64 kind,.int .i64 bank,.string ram,.int .i64 rb,.bool on,.int .i64 mode] 27):=by
 go_enter func130,ntmps130
 go_wp2_with (first|(go_at_call 129;refine (isRamBank_any _ _).mono ?_;rintro e w' ⟨rfl,rfl⟩)|(go_at_call 19;refine (isByte_any _ _).mono ?_;rintro e w' ⟨rfl,rfl⟩))
 all_goals go_ret
 all_goals exact ⟨ret_bool (by rw [Bool.eq_iff_iff];simp_all [inB] <;> omega),by first|rfl|simp_all⟩
end Carts
namespace Reck
open Signed (inB ret_int ret_bool isByte_any l1In_any)
def one (b:Bool):Int:=if b=true then 1 else 0
def chz (b:Bool) (y n:Int):Int:=if b=true then y else n
def fl (z n h c:Bool):Int:=128*one z+64*one n+32*one h+16*one c
def cy (f:Int):Int:=f / 16%2
theorem ret_two {a a' b b':Int} (h:a=a') (h':b=b'):Ending.returned (.tuple #[.int .i64 a,.int .i64 b])=.returned (.tuple #[.int .i64 a',.int .i64 b']):=by rw [h,h']
theorem cy_bd (f:Int):0<=cy f/\cy f<=1:=by unfold cy;omega
theorem l3One_any (b:Bool) (w:World) :
  Calls prog 98 #[.bool b] w fun e w'=>e=.returned (.int .i64 (one b))/\w'=w:=by
 cases b
 all_goals
  go_enter func98,ntmps98
  go_wp2
  go_ret
  exact ⟨rfl,rfl⟩
theorem l4Flags_any (z n h c:Bool) (w:World) :
  Calls prog 83 #[.bool z,.bool n,.bool h,.bool c] w fun e w'=>e=.returned (.int .i64 (fl z n h c))/\w'=w:=by
 have oz:0<=one z/\one z<=1:=by cases z <;> decide
 have on:0<=one n/\one n<=1:=by cases n <;> decide
 have oh:0<=one h/\one h<=1:=by cases h <;> decide
 have oc:0<=one c/\one c<=1:=by cases c <;> decide
 obtain ⟨z0,z1⟩:=oz
 obtain ⟨n0,n1⟩:=on
 obtain ⟨h0,h1⟩:=oh
 obtain ⟨c0,c1⟩:=oc
 go_enter func83,ntmps83
 go_wp2_with (go_at_call 98;refine (l3One_any _ _).mono ?_;rintro e w' ⟨rfl,rfl⟩)
 go_ret
 exact ⟨ret_int (by unfold fl;omega),rfl⟩
theorem l4Carry_any (f:Int) (w:World) (f0:0<=f) (f1:f<=255) :
  Calls prog 84 #[.int .i64 f] w fun e w'=>e=.returned (.int .i64 (cy f))/\w'=w:=by
 go_enter func84,ntmps84
 go_wp2
 go_ret
 exact ⟨rfl,rfl⟩
theorem l4Byte_any (n:Int) (w:World) :
  Calls prog 24 #[.int .i64 n] w fun e w'=>e=.returned (.bool (inB n 0 255))/\w'=w:=by
 go_enter func24,ntmps24
 go_wp2_with (go_at_call 45;refine (l1In_any _ _ _ _).mono ?_;rintro e w' ⟨rfl,rfl⟩)
 go_ret
 exact ⟨rfl,rfl⟩
theorem l4Word_any (n:Int) (w:World) :
  Calls prog 23 #[.int .i64 n] w fun e w'=>e=.returned (.bool (inB n 0 65535))/\w'=w:=by
 go_enter func23,ntmps23
 go_wp2_with (go_at_call 45;refine (l1In_any _ _ _ _).mono ?_;rintro e w' ⟨rfl,rfl⟩)
 go_ret
 exact ⟨rfl,rfl⟩
def addR (a b c:Int):Int × Int:=((a+b+c)%256,fl false false (decide (15<a%16+b%16+c)) (decide (255<a+b+c)))
def subR (a b c:Int):Int × Int:=((a-b-c)%256,fl false true (decide (a%16<b%16+c)) (decide (a-b-c<0)))
def zd (p:Int × Int):Int × Int:=(p.1,p.2+128*one (decide (p.1=0)))
def aluR (op a b f:Int):Int × Int :=
 if op=0 then zd (addR a b 0) else if op=1 then zd (addR a b (cy f)) else if op=2 then zd (subR a b 0) else if op=3 then zd (subR a b (cy f))
 else if op=4 then zd (bits .and .i64 a b,32) else if op=5 then zd (bits .xor .i64 a b,0) else if op=6 then zd (bits .or .i64 a b,0) else (a,(zd (subR a b 0)).2)
theorem beq_dec (x:Int):(x == 0)=decide (x=0):=by rw [Bool.eq_iff_iff];simp
end Reck
namespace ReckS
open Signed (inB ret_int ret_bool isByte_any l1In_any sgn specSigned_any)
open Reck
theorem fl_zd (z n h c:Bool):fl z n h c=fl false n h c+128*one z:=by cases z <;> cases n <;> cases h <;> cases c <;> decide
theorem fl_congr {z z' n n' h h' c c':Bool} (e0:z=z') (e1:n=n') (e2:h=h') (e3:c=c'):fl z n h c=fl z' n' h' c':=by subst e0 e1 e2 e3;rfl
theorem zd_fl' (x:Int) (n h c:Bool):zd (x,fl false n h c)=(x,fl (decide (x=0)) n h c):=by unfold zd;rw [fl_zd (decide (x=0))]
theorem aluR_0 (a b f:Int):aluR 0 a b f=((a+b)%256,fl (decide ((a+b)%256=0)) false (decide (15<a%16+b%16)) (decide (255<a+b))):=by
 show zd (addR a b 0)=_;unfold addR;rw [zd_fl',Int.add_zero,Int.add_zero]
theorem aluR_1 (a b f:Int):aluR 1 a b f=((a+b+cy f)%256,fl (decide ((a+b+cy f)%256=0)) false (decide (15<a%16+b%16+cy f)) (decide (255<a+b+cy f))):=by
 show zd (addR a b (cy f))=_;unfold addR;rw [zd_fl']
theorem aluR_2 (a b f:Int):aluR 2 a b f=((a-b)%256,fl (decide ((a-b)%256=0)) true (decide (a%16<b%16)) (decide (a-b<0))):=by
 show zd (subR a b 0)=_;unfold subR;rw [zd_fl',Int.add_zero,Int.sub_zero]
theorem aluR_3 (a b f:Int):aluR 3 a b f=((a-b-cy f)%256,fl (decide ((a-b-cy f)%256=0)) true (decide (a%16<b%16+cy f)) (decide (a-b-cy f<0))):=by
 show zd (subR a b (cy f))=_;unfold subR;rw [zd_fl']
theorem aluR_4 (a b f:Int):aluR 4 a b f=(bits .and .i64 a b,fl (decide (bits .and .i64 a b=0)) false true false):=zd_fl' _ false true false
theorem aluR_5 (a b f:Int):aluR 5 a b f=(bits .xor .i64 a b,fl (decide (bits .xor .i64 a b=0)) false false false):=zd_fl' _ false false false
theorem aluR_6 (a b f:Int):aluR 6 a b f=(bits .or .i64 a b,fl (decide (bits .or .i64 a b=0)) false false false):=zd_fl' _ false false false
theorem aluR_7 (a b f:Int):aluR 7 a b f=(a,(aluR 2 a b f).2):=rfl
theorem bits_xor {a b:Int} (a0:0<=a) (a1:a<=255) (b0:0<=b) (b1:b<=255):bits .xor .i64 a b=((a.toNat ^^^ b.toNat:Nat):Int):=by
 obtain ⟨m,rfl⟩:=Int.eq_ofNat_of_zero_le a0
 obtain ⟨n,rfl⟩:=Int.eq_ofNat_of_zero_le b0
 show IntKind.i64.wrap ((BitVec.ofInt 64 (m:Int) ^^^ BitVec.ofInt 64 (n:Int)).toNat:Int)=_
 have hx:m ^^^ n<2 ^ 8:=Nat.xor_lt_two_pow (by omega) (by omega)
 rw [BitVec.toNat_xor,BitVec.ofInt_natCast,BitVec.ofInt_natCast,BitVec.toNat_ofNat,BitVec.toNat_ofNat,Nat.mod_eq_of_lt (by omega),Nat.mod_eq_of_lt (by omega),IntKind.wrap_i64]
 simp only [Int.toNat_natCast]
 omega
theorem bits_and {a b:Int} (a0:0<=a) (a1:a<=255) (b0:0<=b) (b1:b<=255):bits .and .i64 a b=((a.toNat &&& b.toNat:Nat):Int):=by
 obtain ⟨m,rfl⟩:=Int.eq_ofNat_of_zero_le a0
 obtain ⟨n,rfl⟩:=Int.eq_ofNat_of_zero_le b0
 show IntKind.i64.wrap ((BitVec.ofInt 64 (m:Int) &&& BitVec.ofInt 64 (n:Int)).toNat:Int)=_
 have hx:m &&& n<2 ^ 8:=Nat.and_lt_two_pow m (by omega)
 rw [BitVec.toNat_and,BitVec.ofInt_natCast,BitVec.ofInt_natCast,BitVec.toNat_ofNat,BitVec.toNat_ofNat,Nat.mod_eq_of_lt (by omega),Nat.mod_eq_of_lt (by omega),IntKind.wrap_i64]
 simp only [Int.toNat_natCast]
 omega
theorem bits_or {a b:Int} (a0:0<=a) (a1:a<=255) (b0:0<=b) (b1:b<=255):bits .or .i64 a b=((a.toNat ||| b.toNat:Nat):Int):=by
 obtain ⟨m,rfl⟩:=Int.eq_ofNat_of_zero_le a0
 obtain ⟨n,rfl⟩:=Int.eq_ofNat_of_zero_le b0
 show IntKind.i64.wrap ((BitVec.ofInt 64 (m:Int) ||| BitVec.ofInt 64 (n:Int)).toNat:Int)=_
 have hx:m ||| n<2 ^ 8:=Nat.or_lt_two_pow (by omega) (by omega)
 rw [BitVec.toNat_or,BitVec.ofInt_natCast,BitVec.ofInt_natCast,BitVec.toNat_ofNat,BitVec.toNat_ofNat,Nat.mod_eq_of_lt (by omega),Nat.mod_eq_of_lt (by omega),IntKind.wrap_i64]
 simp only [Int.toNat_natCast]
 omega
theorem xor_zero {a b:Int} (a0:0<=a) (a1:a<=255) (b0:0<=b) (b1:b<=255):(a == b)=decide (bits .xor .i64 a b=0):=by
 rw [bits_xor a0 a1 b0 b1,Bool.eq_iff_iff]
 simp
 have:a.toNat=b.toNat ↔ a=b:=by omega
 rw [<- this]
 constructor
 ·intro h;rw [h,Nat.xor_self]
 ·intro h
  have:=congrArg (· ^^^ b.toNat) h
  simpa [Nat.xor_assoc] using this
theorem l4Alu_any (op a b f:Int) (w:World) (o0:0<=op) (o1:op<=7) (a0:0<=a) (a1:a<=255) (b0:0<=b) (b1:b<=255) (f0:0<=f) (f1:f<=255) :
  Calls prog 71 #[.int .i64 op,.int .i64 a,.int .i64 b,.int .i64 f] w fun e w'=>e=.returned (.tuple #[.int .i64 (aluR op a b f).1,.int .i64 (aluR op a b f).2])/\w'=w:=by
 obtain ⟨c0,c1⟩:=cy_bd f
 have hx:=xor_zero a0 a1 b0 b1
 have HX:Hid ((a == b)=decide (bits .xor .i64 a b=0)):=hx
 clear hx
 have ho:op=0 \/ op=1 \/ op=2 \/ op=3 \/ op=4 \/ op=5 \/ op=6 \/ op=7:=by omega
 rcases ho with rfl|rfl|rfl|rfl|rfl|rfl|rfl|rfl
 all_goals
  go_enter func71,ntmps71
  go_wp2_with (first|(go_at_call 83;refine (l4Flags_any _ _ _ _ _).mono ?_;rintro e w3 ⟨rfl,rfl⟩)|(go_at_call 84;refine (l4Carry_any _ _ f0 f1).mono ?_;rintro e w3 ⟨rfl,rfl⟩))
  go_ret2
 all_goals first|rw [aluR_0]|rw [aluR_1]|rw [aluR_2]|rw [aluR_3]|rw [aluR_4]|rw [aluR_5]|rw [aluR_6]|rw [aluR_7,aluR_2]
 all_goals refine ⟨ret_two ?_ (fl_congr ?_ ?_ ?_ ?_),rfl⟩
 all_goals first
  | rfl
  | omega
  | exact HX.out
  | exact beq_dec _
  | (rw [Bool.eq_iff_iff];simp;done)
  | (rw [Bool.eq_iff_iff];simp;omega)
end ReckS
namespace Qtail
open Go.RowKit
def anyT (P:Program) (md:Region.Mode) (ops:Array Oper) (C:World->Prop) (n:Nat) (L:Array Bool->Act->Prop):Nat->Array Bool->Act->Prop
 | 0,listed,a=>L listed a
 | f+1,listed,a =>
  Region.ready md ops listed ≠ []/\∀ i ∈ Region.ready md ops listed,i<n/\qOp P ops C i (anyT P md ops C n L f (listed.setIfInBounds i true)) a
theorem any_of_head {P:Program} {ops:Array Oper} {md:Region.Mode} {C:World->Prop} {n g:Nat} {L:Array Bool->Act->Prop} {Q':Exit->Act->World->Prop} (hL:∀ listed a w,C w->L listed a->wpAny P md ops Q' g listed a w) :
  ∀ (f:Nat) (listed:Array Bool) (a:Act) (w:World),C w->anyT P md ops C n L f listed a->wpAny P md ops Q' (f+g) listed a w
 | 0,listed,a,w,hw,h=>by rw [Nat.zero_add];exact hL _ _ _ hw h
 | f+1,listed,a,w,hw,h=>by
  rw [show f+1+g=(f+g)+1 by omega]
  exact ⟨fun h0=>absurd h0 h.1,fun i hi=>wpOp_of_qOp hw (fun a' w' hw' h'=>any_of_head hL f _ a' w' hw' h') (h.2 i hi).2⟩
theorem anyT_first {P:Program} {ops:Array Oper} {md:Region.Mode} {C:World->Prop} {n i:Nat} {oi:Oper} {v:Value} {L:Array Bool->Act->Prop} (hi:ops[i]? = some oi) (hsel:∀ (j:Nat) (o:Oper) cs b,ops[j]? = some o->o.op ≠ .select cs b)
  (hs:Region.sinkB md ops n=true) (hc:Region.chainB md ops n=true) (hn:n<ops.size) (hin:i<n)
  (hdone:∀ listed a,L listed a->∀ j ∈ Region.ready md ops listed,n<=j) :
  ∀ (f:Nat) (listed:Array Bool) (a:Act),HeadInv md ops n listed ->
   (∀ j oj,ops[j]? = some oj->j ≠ i->listed.getD j true=false->(∀ e ∈ oj.after,Region.binds md e=true->e.on ≠ i)->oi.apart ops oj=true) ->
   i ∈ Region.ready md ops listed->YieldsIn P ops C oi v a ->
   anyT P md ops C n L f (listed.setIfInBounds i true) (a.put oi.dst v)->anyT P md ops C n L (f+1) listed a:=by
 intro f
 induction f with
 | zero =>
  intro listed a inv _ hr hy H
  have hun:=(mem_ready.1 hr).1
  refine ⟨fun h=>(by rw [h] at hr;cases hr),fun j hj=>?_⟩
  have hjn:j<n:=by
   rcases Nat.lt_or_ge j n with h|h
   ·exact h
   ·exact absurd hj (tail_waits hs hc hn inv _ i rfl hin hun j h)
  refine ⟨hjn,?_⟩
  by_cases hji:j=i
  ·subst hji;exact hy.qOp hi H
  ·have:=hdone _ _ H j (ready_mono hj hji)
   omega
 | succ f ih =>
  intro listed a inv hfree hr hy H
  have hun:=(mem_ready.1 hr).1
  refine ⟨fun h=>(by rw [h] at hr;cases hr),fun j hj=>?_⟩
  have hjn:j<n:=by
   rcases Nat.lt_or_ge j n with h|h
   ·exact h
   ·exact absurd hj (tail_waits hs hc hn inv _ i rfl hin hun j h)
  refine ⟨hjn,?_⟩
  by_cases hji:j=i
  ·subst hji;exact hy.qOp hi H
  ·have h1:=(H.2 j (ready_mono hj hji)).2
   obtain ⟨hjun,oj,hoj,hall⟩:=mem_ready.1 hj
   have hnot:∀ e ∈ oj.after,Region.binds md e=true->e.on ≠ i:=fun e he hb heq=>by
    have h1:=hall e he hb
    rw [heq,getD_both hun] at h1
    cases h1
   have h2:=qOp_put hoj (hfree j oj hoj hji hjun hnot) (fun cs b=>hsel i oi cs b hi) (fun cs b=>hsel j oj cs b hoj) hy h1
   have hfree':∀ k ok,ops[k]? = some ok->k ≠ i->(listed.setIfInBounds j true).getD k true=false ->
     (∀ e ∈ ok.after,Region.binds md e=true->e.on ≠ i)->oi.apart ops ok=true:=fun k ok hk hki hun hno=>by
    refine hfree k ok hk hki ?_ hno
    by_cases hjk:j=k
    ·subst hjk;exact hjun
    ·rw [getD_set_ne true hjk] at hun;exact hun
   refine qOp_mono (fun a' h3=>ih (listed.setIfInBounds j true) a' (inv.set hj hjn) hfree' (ready_mono hr (Ne.symm hji)) h3.1 ?_) h2
   rw [Array.setIfInBounds_comm _ _ hji]
   exact h3.2
theorem anyT_lex {P:Program} {ops:Array Oper} {md:Region.Mode} {C:World->Prop} {n g:Nat} {Lq:Act->Prop} (hsel:Region.noSelect ops=true) (hs:Region.sinkB md ops n=true) (hc:Region.chainB md ops n=true) (hn:n<ops.size) :
  ∀ (l:List Oper) (k:Nat) (listed:Array Bool) (a:Act),(∀ j,j<l.length->l[j]? = ops[k+j]?)->k+l.length=n->HeadInv md ops n listed ->
  Region.lexHead md ops g l.length k listed=true->wpQuiet P ops C Lq l a ->
  anyT P md ops C n (fun listed' a'=>Region.seqB md ops g n listed'=true/\Lq a') l.length listed a
 | [],k,listed,a,_,hk,_,hB,h=>by
  have:k=n:=by simpa using hk
  subst this
  exact ⟨by simpa [Region.lexHead] using hB,h⟩
 | o :: l,k,listed,a,hl,hk,inv,hB,h=>by
  have h0:ops[k]? = some o:=by simpa using (hl 0 (by simp)).symm
  simp only [List.length_cons,Region.lexHead,Bool.and_eq_true] at hB
  obtain ⟨⟨hr,hf⟩,hB'⟩:=hB
  have hkn:k<n:=by simp only [List.length_cons] at hk;omega
  have hr':k ∈ Region.ready md ops listed:=by simpa using hr
  have hst:qOp P ops C k (wpQuiet P ops C Lq l) a:=by unfold qOp;simp only [h0];exact h
  obtain ⟨v,hy,hK⟩:=yieldsIn_of_qOp h0 hst
  exact anyT_first h0 (Region.noSelect_spec hsel) hs hc hn hkn (fun listed' a' hL=>seqB_ready hL.1) l.length listed a inv (Region.free_spec h0 hf) hr' hy
   (anyT_lex hsel hs hc hn l (k+1) _ _ (fun j hj=>by have:=hl (j+1) (by simp;omega);simpa [Nat.add_assoc,Nat.add_comm 1 j] using this) (by simp only [List.length_cons] at hk;omega) (inv.set hr' hkn) hB' hK)
theorem region_tail {P:Program} {C:World->Prop} {id:Nat} {Q:Exit->Act->World->Prop} {a:Act} {w:World} {l:List Oper} (n:Nat) (hm:P.follows .mixedOrders=true) (hB:Region.lexTailB .any l.toArray n=true) (hC:C { w with drawn:=w.drawn+1 })
  (h:wpQuiet P l.toArray C (fun a'=>∀ w',C w'->wpList P l.toArray Q (l.drop n) a' w') (l.take n) a):(Code.region id l.toArray true).wp P Q a w:=by
 simp only [Region.lexTailB,Bool.and_eq_true,decide_eq_true_eq] at hB
 obtain ⟨⟨⟨⟨hsel,hn⟩,hs⟩,hc⟩,hlex⟩:=hB
 have hn':n<l.length:=by simpa using hn
 have htl:(l.take n).length=n:=by simp;omega
 have hdl:(l.drop n).length=l.toArray.size-n:=by simp
 have inv0:HeadInv .any l.toArray n (Array.replicate l.toArray.size false) :=
  ⟨by simp,fun j oj _ hl=>(by rw [getD_replicate_false] at hl;cases hl),fun t _ ht=>getD_in (by simpa using ht) (getD_replicate_false _ _)⟩
 have H:=anyT_lex (md:=.any) (g:=l.toArray.size-n) hsel hs hc hn (l.take n) 0 _ a (fun j hj=>by
  have hj':j<n:=by rw [htl] at hj;exact hj
  simp [hj']) (by simpa using htl) inv0 (by rw [htl];exact hlex) h
 refine wp_region_any hm ?_
 have:=any_of_head (Q':=Q) (g:=l.toArray.size-n) (fun listed a' w' hw' hL=>by
  have:=wpAny_of_seq (md:=.any) (Q':=Q) (l.drop n) n listed a' w' (fun j=>by simp [List.getElem?_drop]) (by rw [hdl];exact hL.1) (hL.2 w' hw')
  rwa [hdl] at this) _ _ _ { w with drawn:=w.drawn+1 } hC H
 rw [htl,show n+(l.toArray.size-n)=l.toArray.size by omega] at this
 exact this
theorem tail_below {P:Program} {id:Nat} {Q:Exit->Act->World->Prop} {a:Act} {w:World} {l:List Oper} (n:Nat) (hm:P.follows .mixedOrders=true) (hB:Region.lexTailB .any l.toArray n=true)
  (h:wpQuiet P l.toArray (fun w'=>∃ p:Regrown,w'=Go.Sort.grow (redrawn w p.d) p.os) (fun a'=>∀ w',(∃ p:Regrown,w'=Go.Sort.grow (redrawn w p.d) p.os)->wpList P l.toArray Q (l.drop n) a' w') (l.take n) a):(Code.region id l.toArray true).wp P Q a w :=
 region_tail (C:=fun w'=>∃ p:Regrown,w'=Go.Sort.grow (redrawn w p.d) p.os) n hm hB ⟨⟨w.drawn+1,#[]⟩,by rw [Go.Sort.grow_empty];rfl⟩ h
end Qtail
namespace Tabs
open Signed (inB l1In_any)
def at8 (l:List ByteArray) (i:Int):ByteArray:=l.getD i.toNat ⟨#[]⟩
theorem cases8 {y:Int} (h0:0<=y) (h1:y<=7):y=0 \/ y=1 \/ y=2 \/ y=3 \/ y=4 \/ y=5 \/ y=6 \/ y=7:=by omega
theorem cases4 {y:Int} (h0:0<=y) (h1:y<=3):y=0 \/ y=1 \/ y=2 \/ y=3:=by omega
theorem ret_str {a b:ByteArray} (h:a=b):Ending.returned (.string a)=.returned (.string b):=by rw [h]
def bitW:List ByteArray:=[⟨#[]⟩,⟨#[98,105,116,32]⟩,⟨#[114,101,115,32]⟩,⟨#[115,101,116,32]⟩]
def decs:List ByteArray:=[⟨#[48]⟩,⟨#[49]⟩,⟨#[50]⟩,⟨#[51]⟩,⟨#[52]⟩,⟨#[53]⟩,⟨#[54]⟩,⟨#[55]⟩]
def regs:List ByteArray:=[⟨#[98]⟩,⟨#[99]⟩,⟨#[100]⟩,⟨#[101]⟩,⟨#[104]⟩,⟨#[108]⟩,⟨#[91,104,108,93]⟩,⟨#[97]⟩]
theorem regs_any (w:World) :
  Calls prog 102 #[] w fun e w'=>e=.returned (.slice (some ⟨w.heap.size,0,none⟩) 8 8)/\w'=w.alloc (.cells #[.string ⟨#[98]⟩,.string ⟨#[99]⟩,.string ⟨#[100]⟩,.string ⟨#[101]⟩,.string ⟨#[104]⟩,.string ⟨#[108]⟩,.string ⟨#[91,104,108,93]⟩,.string ⟨#[97]⟩] 9):=by
 go_enter func102,ntmps102
 go_wp2
 go_ret
 exact ⟨rfl,rfl⟩
theorem pairs_any (w:World) :
  Calls prog 110 #[] w fun e w'=>e=.returned (.slice (some ⟨w.heap.size,0,none⟩) 4 4)/\w'=w.alloc (.cells #[.string ⟨#[98,99]⟩,.string ⟨#[100,101]⟩,.string ⟨#[104,108]⟩,.string ⟨#[115,112]⟩] 9):=by
 go_enter func110,ntmps110
 go_wp2
 go_ret
 exact ⟨rfl,rfl⟩
theorem conds_any (w:World) :
  Calls prog 109 #[] w fun e w'=>e=.returned (.slice (some ⟨w.heap.size,0,none⟩) 4 4)/\w'=w.alloc (.cells #[.string ⟨#[110,122]⟩,.string ⟨#[122]⟩,.string ⟨#[110,99]⟩,.string ⟨#[99]⟩] 9):=by
 go_enter func109,ntmps109
 go_wp2
 go_ret
 exact ⟨rfl,rfl⟩
def alus:List ByteArray:=[⟨#[97,100,100]⟩,⟨#[97,100,99]⟩,⟨#[115,117,98]⟩,⟨#[115,98,99]⟩,⟨#[97,110,100]⟩,⟨#[120,111,114]⟩,⟨#[111,114]⟩,⟨#[99,112]⟩]
theorem alus_any (w:World) :
  Calls prog 105 #[] w fun e w'=>e=.returned (.slice (some ⟨w.heap.size,0,none⟩) 8 8)/\w'=w.alloc (.cells #[.string ⟨#[97,100,100]⟩,.string ⟨#[97,100,99]⟩,.string ⟨#[115,117,98]⟩,.string ⟨#[115,98,99]⟩,.string ⟨#[97,110,100]⟩,.string ⟨#[120,111,114]⟩,.string ⟨#[111,114]⟩,.string ⟨#[99,112]⟩] 9):=by
 go_enter func105,ntmps105
 go_wp2
 go_ret
 exact ⟨rfl,rfl⟩
def turns:List ByteArray:=[⟨#[114,108,99]⟩,⟨#[114,114,99]⟩,⟨#[114,108]⟩,⟨#[114,114]⟩,⟨#[115,108,97]⟩,⟨#[115,114,97]⟩,⟨#[115,119,97,112]⟩,⟨#[115,114,108]⟩]
theorem turns_any (w:World) :
  Calls prog 101 #[] w fun e w'=>e=.returned (.slice (some ⟨w.heap.size,0,none⟩) 8 8)/\w'=w.alloc (.cells #[.string ⟨#[114,108,99]⟩,.string ⟨#[114,114,99]⟩,.string ⟨#[114,108]⟩,.string ⟨#[114,114]⟩,.string ⟨#[115,108,97]⟩,.string ⟨#[115,114,97]⟩,.string ⟨#[115,119,97,112]⟩,.string ⟨#[115,114,108]⟩] 9):=by
 go_enter func101,ntmps101
 go_wp2
 go_ret
 exact ⟨rfl,rfl⟩
theorem regs_get {i:Int} (h0:0<=i) (h1:i<=7):(∀ h,([.string ⟨#[98]⟩,.string ⟨#[99]⟩,.string ⟨#[100]⟩,.string ⟨#[101]⟩,.string ⟨#[104]⟩,.string ⟨#[108]⟩,.string ⟨#[91,104,108,93]⟩,.string ⟨#[97]⟩]:List Value)[i.toNat]'h=.string (at8 regs i))/\(at8 regs i).size<=4:=by
 rcases cases8 h0 h1 with rfl|rfl|rfl|rfl|rfl|rfl|rfl|rfl
 all_goals exact ⟨fun _=>rfl,by decide⟩
theorem alus_get {i:Int} (h0:0<=i) (h1:i<=7):(∀ h,([.string ⟨#[97,100,100]⟩,.string ⟨#[97,100,99]⟩,.string ⟨#[115,117,98]⟩,.string ⟨#[115,98,99]⟩,.string ⟨#[97,110,100]⟩,.string ⟨#[120,111,114]⟩,.string ⟨#[111,114]⟩,.string ⟨#[99,112]⟩]:List Value)[i.toNat]'h=.string (at8 alus i))/\(at8 alus i).size<=4:=by
 rcases cases8 h0 h1 with rfl|rfl|rfl|rfl|rfl|rfl|rfl|rfl
 all_goals exact ⟨fun _=>rfl,by decide⟩
theorem turns_get {i:Int} (h0:0<=i) (h1:i<=7):(∀ h,([.string ⟨#[114,108,99]⟩,.string ⟨#[114,114,99]⟩,.string ⟨#[114,108]⟩,.string ⟨#[114,114]⟩,.string ⟨#[115,108,97]⟩,.string ⟨#[115,114,97]⟩,.string ⟨#[115,119,97,112]⟩,.string ⟨#[115,114,108]⟩]:List Value)[i.toNat]'h=.string (at8 turns i))/\(at8 turns i).size<=4:=by
 rcases cases8 h0 h1 with rfl|rfl|rfl|rfl|rfl|rfl|rfl|rfl
 all_goals exact ⟨fun _=>rfl,by decide⟩
theorem bitW_get {i:Int} (h0:0<=i) (h1:i<=3):(∀ h,([.string ⟨#[]⟩,.string ⟨#[98,105,116,32]⟩,.string ⟨#[114,101,115,32]⟩,.string ⟨#[115,101,116,32]⟩]:List Value)[i.toNat]'h=.string (at8 bitW i))/\(at8 bitW i).size<=4:=by
 rcases cases4 h0 h1 with rfl|rfl|rfl|rfl
 all_goals exact ⟨fun _=>rfl,by decide⟩
set_option maxRecDepth 100000 in
theorem dec_any (y:Int) (w:World) (h0:0<=y) (h1:y<=7) :
  Calls prog 103 #[.int .i64 y] w fun e w'=>e=.returned (.string (at8 decs y))/\w'=w.alloc (.cells #[.int .u8 (48+y)] 5):=by
 have hcv:∀ (u:World) (x:Int),(convert 22 9 (.slice (some ⟨u.heap.size,0,none⟩) 1 1)).run prog (u.alloc (.cells #[.int .u8 x] 5))=.ok (.string (strOfNums [x])) (u.alloc (.cells #[.int .u8 x] 5)):=fun u x =>
  run_convert_bytes_arg _ 22 5 underlying22 underlying5 u.heap.size 0 1 1 [x] rfl (fun i hi=>by
   rw [Nat.zero_add,World.cell?_alloc_new]
   match i,hi with
   | 0,_=>rfl) 9 underlying9
 have hsz:∀ x:Int,(strOfNums [x]).size=1:=fun _=>strOfNums_size _
 rcases cases8 h0 h1 with rfl|rfl|rfl|rfl|rfl|rfl|rfl|rfl
 all_goals
  go_enter func103,ntmps103
  go_wp2
  refine wp_loop_rounds 1 ?_
  rw [rounds_succ]
  go_wp2
  go_ret
  exact ⟨ret_str rfl,rfl⟩
def hex8:List ByteArray:=[⟨#[36,48,48]⟩,⟨#[36,48,56]⟩,⟨#[36,49,48]⟩,⟨#[36,49,56]⟩,⟨#[36,50,48]⟩,⟨#[36,50,56]⟩,⟨#[36,51,48]⟩,⟨#[36,51,56]⟩]
set_option maxRecDepth 100000 in
theorem hex_any (n:Int) (w:World) (h:n=0 \/ n=8 \/ n=16 \/ n=24 \/ n=32 \/ n=40 \/ n=48 \/ n=56) :
  Calls prog 111 #[.int .i64 n,.int .i64 2] w fun e w'=>e=.returned (.string (at8 hex8 (n / 8)))/\w'=w:=by
 have hd:inB 2 1 4=true:=rfl
 rcases h with rfl|rfl|rfl|rfl|rfl|rfl|rfl|rfl
 all_goals
  go_enter func111,ntmps111
  go_wp2_with (go_at_call 45;refine (l1In_any _ _ _ _).mono ?_;rintro e w' ⟨rfl,rfl⟩)
  refine wp_loop_rounds 3 ?_
  rw [rounds_succ]
  go_wp2
  rw [rounds_succ]
  go_wp2
  rw [rounds_succ]
  go_wp2
  go_ret
  exact ⟨ret_str (by kernel_rfl),rfl⟩
end Tabs
namespace Shape
open Signed (isByte_any)
open Signed (inB)
def at8 (l:List ByteArray) (i:Int):ByteArray:=l.getD i.toNat ⟨#[]⟩
def low0:List ByteArray:=[⟨#[110,111,112]⟩,⟨#[108,100,32,91,110,49,54,93,44,115,112]⟩,⟨#[115,116,111,112,32,110,56]⟩,⟨#[106,114,32,101,56]⟩,⟨#[106,114,32,67,44,101,56]⟩,⟨#[106,114,32,67,44,101,56]⟩,⟨#[106,114,32,67,44,101,56]⟩,⟨#[106,114,32,67,44,101,56]⟩]
def low1:List ByteArray:=[⟨#[108,100,32,80,44,110,49,54]⟩,⟨#[97,100,100,32,104,108,44,80]⟩]
def low2:List ByteArray:=[⟨#[108,100,32,77,44,97]⟩,⟨#[108,100,32,97,44,77]⟩]
def low3:List ByteArray:=[⟨#[105,110,99,32,80]⟩,⟨#[100,101,99,32,80]⟩]
def low7:List ByteArray:=[⟨#[114,108,99,97]⟩,⟨#[114,114,99,97]⟩,⟨#[114,108,97]⟩,⟨#[114,114,97]⟩,⟨#[100,97,97]⟩,⟨#[99,112,108]⟩,⟨#[115,99,102]⟩,⟨#[99,99,102]⟩]
def lowE:List ByteArray:=[⟨#[105,110,99,32,82]⟩,⟨#[100,101,99,32,82]⟩,⟨#[108,100,32,82,44,110,56]⟩]
def lowS (y z:Int):ByteArray:=if z=0 then at8 low0 y else if z=1 then at8 low1 (y%2) else if z=2 then at8 low2 (y%2) else if z=3 then at8 low3 (y%2) else if z=7 then at8 low7 y else at8 lowE (z-4)
def high0:List ByteArray:=[⟨#[114,101,116,32,67]⟩,⟨#[114,101,116,32,67]⟩,⟨#[114,101,116,32,67]⟩,⟨#[114,101,116,32,67]⟩,⟨#[108,100,104,32,91,110,56,93,44,97]⟩,⟨#[97,100,100,32,115,112,44,101,56]⟩,⟨#[108,100,104,32,97,44,91,110,56,93]⟩,⟨#[108,100,32,104,108,44,115,112,43,101,56]⟩]
def high1:List ByteArray:=[⟨#[112,111,112,32,81]⟩,⟨#[114,101,116]⟩,⟨#[112,111,112,32,81]⟩,⟨#[114,101,116,105]⟩,⟨#[112,111,112,32,81]⟩,⟨#[106,112,32,104,108]⟩,⟨#[112,111,112,32,81]⟩,⟨#[108,100,32,115,112,44,104,108]⟩]
def high2:List ByteArray:=[⟨#[106,112,32,67,44,110,49,54]⟩,⟨#[106,112,32,67,44,110,49,54]⟩,⟨#[106,112,32,67,44,110,49,54]⟩,⟨#[106,112,32,67,44,110,49,54]⟩,⟨#[108,100,104,32,91,99,93,44,97]⟩,⟨#[108,100,32,91,110,49,54,93,44,97]⟩,⟨#[108,100,104,32,97,44,91,99,93]⟩,⟨#[108,100,32,97,44,91,110,49,54,93]⟩]
def high3:List ByteArray:=[⟨#[106,112,32,110,49,54]⟩,⟨#[]⟩,⟨#[]⟩,⟨#[]⟩,⟨#[]⟩,⟨#[]⟩,⟨#[100,105]⟩,⟨#[101,105]⟩]
def high4:List ByteArray:=[⟨#[99,97,108,108,32,67,44,110,49,54]⟩,⟨#[99,97,108,108,32,67,44,110,49,54]⟩,⟨#[99,97,108,108,32,67,44,110,49,54]⟩,⟨#[99,97,108,108,32,67,44,110,49,54]⟩,⟨#[]⟩,⟨#[]⟩,⟨#[]⟩,⟨#[]⟩]
def high5:List ByteArray:=[⟨#[112,117,115,104,32,81]⟩,⟨#[99,97,108,108,32,110,49,54]⟩,⟨#[112,117,115,104,32,81]⟩,⟨#[]⟩,⟨#[112,117,115,104,32,81]⟩,⟨#[]⟩,⟨#[112,117,115,104,32,81]⟩,⟨#[]⟩]
def highE:List ByteArray:=[⟨#[65,32,97,44,110,56]⟩,⟨#[114,115,116,32,72]⟩]
def highS (y z:Int):ByteArray:=if z=0 then at8 high0 y else if z=1 then at8 high1 y else if z=2 then at8 high2 y else if z=3 then at8 high3 y else if z=4 then at8 high4 y else if z=5 then at8 high5 y else at8 highE (z-6)
def shapeR (code:Int) (cb:Bool):ByteArray :=
 if cb=true then (if code / 64=0 then ⟨#[84,32,83]⟩ else ⟨#[66,32,89,44,83]⟩)
 else if code / 64=0 then lowS (code / 8%8) (code%8) else if code=118 then ⟨#[104,97,108,116]⟩ else if code / 64=1 then ⟨#[108,100,32,82,44,83]⟩ else if code / 64=2 then ⟨#[65,32,97,44,83]⟩ else highS (code / 8%8) (code%8)
def shape (code:Int) (cb:Bool):ByteArray:=if inB code 0 255=true then shapeR code cb else ⟨#[]⟩
end Shape
namespace Rdr
def Rd (w:World) (rb:Nat):Prop:=∃ (a:Option Addr) (len cap p:Nat),w.cell? ⟨rb,0,none⟩=some (.slice a len cap)/\w.cell? ⟨rb,1,none⟩=some (.int .i64 p)/\p<=len/\len<=maxLen/\w.frozen? ⟨rb,1,none⟩=false /\
 (0<len->∃ b off,a=some ⟨b,off,none⟩/\b<rb/\∀ i,i<len->∃ x:Int,0<=x/\x<=255/\w.cell? ⟨b,off+i,none⟩=some (.int .u8 x))
theorem Rd.kept {w w':World} {rb:Nat} (h:Rd w rb) (hk:∀ k,k<=rb->w'.heap[k]? = w.heap[k]?):Rd w' rb:=by
 obtain ⟨a,len,cap,p,c0,c1,hp,hm,hf,hb⟩:=h
 have e:∀ b o,b<=rb->w'.cell? ⟨b,o,none⟩=w.cell? ⟨b,o,none⟩:=fun b o h=>World.cell?_of_block (a:=⟨b,o,none⟩) (hk b h)
 refine ⟨a,len,cap,p,(e _ _ (Nat.le_refl _)).trans c0,(e _ _ (Nat.le_refl _)).trans c1,hp,hm,(World.frozen?_of_block (a:=⟨rb,1,none⟩) (hk rb (Nat.le_refl _))).trans hf,fun hl=>?_⟩
 obtain ⟨b,off,ha,hbr,hx⟩:=hb hl
 refine ⟨b,off,ha,hbr,fun i hi=>?_⟩
 obtain ⟨x,x0,x1,hx⟩:=hx i hi
 exact ⟨x,x0,x1,(e _ _ (Nat.le_of_lt hbr)).trans hx⟩
theorem Rd.lt {w:World} {rb:Nat} (h:Rd w rb):rb<w.heap.size:=by
 obtain ⟨a,len,cap,p,c0,_⟩:=h
 exact World.block_lt_of_cell? w ⟨rb,0,none⟩ c0
theorem Rd.step {w:World} {rb len cap p:Nat} {a:Option Addr} (c0:w.cell? ⟨rb,0,none⟩=some (.slice a len cap)) (c1:w.cell? ⟨rb,1,none⟩=some (.int .i64 p)) (hp:p<len) (hm:len<=maxLen) (hf:w.frozen? ⟨rb,1,none⟩=false)
  (hb:0<len->∃ b off,a=some ⟨b,off,none⟩/\b<rb/\∀ i,i<len->∃ x:Int,0<=x/\x<=255/\w.cell? ⟨b,off+i,none⟩=some (.int .u8 x)) :
  Rd (w.setCell ⟨rb,1,none⟩ (.int .i64 ((p:Int)+1))) rb:=by
 refine ⟨a,len,cap,p+1,?_,?_,by omega,hm,?_,fun hl=>?_⟩
 ·exact (World.cell?_setCell_other w _ _ _ (by simp)).trans c0
 ·exact (World.cell?_setCell_same w _ _ c1).trans (by simp)
 ·rw [World.frozen?_setCell];exact hf
 ·obtain ⟨b,off,ha,hbr,hx⟩:=hb hl
  refine ⟨b,off,ha,hbr,fun i hi=>?_⟩
  obtain ⟨x,x0,x1,hx⟩:=hx i hi
  have hne:(⟨rb,1,none⟩ : Addr) ≠ ⟨b,off+i,none⟩:=fun e=>by have:=congrArg Addr.block e;simp at this;omega
  exact ⟨x,x0,x1,(World.cell?_setCell_other w _ _ _ hne).trans hx⟩
theorem grown_set (w:World) (b i:Nat) (v:Value):w.grownBy (w.setCell ⟨b,i,none⟩ v) (some b) :=
 ⟨rfl,rfl,rfl,by simp [World.setCell],fun k _ hne=>Below.heap_setCell w _ _ k (fun e=>hne (by rw [e]))⟩
def Post (w:World) (rb:Nat) (w':World):Prop:=Rd w' rb/\w.grownBy w' (some rb)
theorem Post.trans {a b c:World} {rb:Nat} (h:Post a rb b) (k:Post b rb c):Post a rb c :=
 ⟨k.1,⟨k.2.os.trans h.2.os,k.2.tape.trans h.2.tape,k.2.output.trans h.2.output,Nat.le_trans h.2.size k.2.size,fun i hi hne=>(k.2.block i (Nat.lt_of_lt_of_le hi h.2.size) hne).trans (h.2.block i hi hne)⟩⟩
theorem Post.of {w w':World} {rb:Nat} (h:Rd w rb) (hh:w'.heap=w.heap) (ho:w'.os=w.os) (ht:w'.tape=w.tape) (hp:w'.output=w.output):Post w rb w' :=
 ⟨h.kept fun _ _=>by rw [hh],⟨ho,ht,hp,by rw [hh];exact Nat.le_refl _,fun _ _ _=>by rw [hh]⟩⟩
theorem Post.alloc {w w':World} {rb:Nat} (h:Post w rb w') (o:Obj):Post w rb (w'.alloc o) :=
 ⟨h.1.kept fun k hk=>Below.heap_alloc w' o k (Nat.lt_of_le_of_lt hk h.1.lt),⟨h.2.os,h.2.tape,h.2.output,Nat.le_trans h.2.size (by simp),fun k hk hne=>(Below.heap_alloc w' o k (Nat.lt_of_lt_of_le hk h.2.size)).trans (h.2.block k hk hne)⟩⟩
theorem Post.refl {w:World} {rb:Nat} (h:Rd w rb):Post w rb w:=Post.of h rfl rfl rfl rfl
theorem Post.below {w w':World} {rb B:Nat} (h:Post w rb w') (hB:B<=rb) (hr:rb<=w.heap.size):Below B w w' :=
 ⟨h.2.os,h.2.tape,h.2.output,h.2.size,fun k hk=>h.2.block k (by omega) (fun e=>by cases e;omega)⟩
theorem next_any (rb:Nat) (w:World) (h:Rd w rb) :
  Calls prog 55 #[.pointer (some ⟨rb,0,none⟩)] w fun e w'=>(∃ x:Int,0<=x/\x<=255/\e=.returned (.int .i64 x))/\Post w rb w':=by
 have H:Hid (Rd w rb):=h
 obtain ⟨a,len,cap,p,c0,c1,hp,hm,hf,hb⟩:=h
 unfold maxLen at hm
 by_cases hlt:p<len
 ·obtain ⟨b,off,rfl,hbr,hx⟩:=hb (by omega)
  obtain ⟨x,x0,x1,hx⟩:=hx p hlt
  have hne:¬ b=rb:=by omega
  go_enter func55,ntmps55
  go_wp2
  go_quiet (fail)
  go_wp2
  go_quiet (fail)
  go_wp2
  go_ret
  have g:=grown_set w rb 1 (.int .i64 ((p:Int)+1))
  exact ⟨⟨x,x0,x1,rfl⟩,(Rd.step (w:=w) c0 c1 hlt hm hf hb).kept fun _ _=>rfl,⟨g.os,g.tape,g.output,g.size,g.block⟩⟩
 ·clear hb
  go_enter func55,ntmps55
  go_wp2
  go_quiet (fail)
  go_wp2
  go_ret
  exact ⟨⟨0,by decide,by decide,rfl⟩,H.out.kept fun _ _=>rfl,⟨rfl,rfl,rfl,Nat.le_refl _,fun _ _ _=>rfl⟩⟩
theorem wf_small {x:Int} (h0:-1000000001<=x) (h1:x<=1000000001):(Lit.int .i64 x).wf=true:=by
 simp [Lit.wf,IntKind.min,IntKind.max,IntKind.signed,IntKind.bits];omega
theorem mod_bd {x n:Int} (h:0<n):0<=x%n/\x%n<n:=⟨Int.emod_nonneg _ (by omega),Int.emod_lt_of_pos _ h⟩
theorem below_any (rb:Nat) (n:Int) (w:World) (h:Rd w rb) (h1:1<=n) (h2:n<=1000000000) :
  Calls prog 35 #[.pointer (some ⟨rb,0,none⟩),.int .i64 n] w fun e w'=>(∃ x:Int,0<=x/\x<n/\e=.returned (.int .i64 x))/\Post w rb w':=by
 have H:Hid (Rd w rb):=h
 clear h
 by_cases n1:n<=1
 ·go_enter func35,ntmps35
  go_wp2
  go_ret
  exact ⟨⟨0,by decide,by omega,rfl⟩,Post.refl H.out⟩
 by_cases n2:n<=256
 ·go_enter func35,ntmps35
  go_wp2_with (go_at_call 55;refine (next_any _ _ H.out).mono ?_;rintro e w' ⟨⟨x,x0,x1,rfl⟩,hp⟩)
  go_ret
  obtain ⟨a,b⟩:=mod_bd (x:=x) (n:=n) (by omega)
  exact ⟨⟨x%n,a,b,rfl⟩,hp⟩
 ·go_enter func35,ntmps35
  go_wp2_with fail
  refine (next_any _ _ H.out).mono ?_
  rintro e w1 ⟨⟨x,x0,x1,rfl⟩,hp⟩
  go_wp2_with fail
  refine (next_any _ _ hp.1).mono ?_
  rintro e w2 ⟨⟨y,y0,y1,rfl⟩,hp'⟩
  go_wp2
  go_ret
  obtain ⟨a,b⟩:=mod_bd (x:=x*256+y) (n:=n) (by omega)
  exact ⟨⟨(x*256+y)%n,a,b,rfl⟩,hp.trans hp'⟩
theorem once_any (rb:Nat) (n:Int) (w:World) (h:Rd w rb) (h1:1<=n) (h2:n<=1000000000) :
  Calls prog 38 #[.pointer (some ⟨rb,0,none⟩),.int .i64 n] w fun e w'=>(∃ x:Bool,e=.returned (.bool x))/\Post w rb w':=by
 have H:Hid (Rd w rb):=h
 clear h
 go_enter func38,ntmps38
 go_wp2_with (go_at_call 35;refine (below_any _ _ _ H.out h1 h2).mono ?_;rintro e w' ⟨⟨x,x0,x1,rfl⟩,hp⟩)
 go_ret
 exact ⟨⟨_,rfl⟩,hp⟩
theorem wf_zero:(Lit.int .u64 0).wf=true:=rfl
theorem word_any (rb:Nat) (w:World) (h:Rd w rb) :
  Calls prog 74 #[.pointer (some ⟨rb,0,none⟩)] w fun e w'=>(∃ x:Int,(Lit.int .u64 x).wf=true/\e=.returned (.int .u64 x))/\Post w rb w':=by
 have H:Hid (Rd w rb):=h
 clear h
 go_enter func74,ntmps74
 go_wp2
 go_loopw [3,4] (fun t i wr=>∃ (k:Nat) (x:Int),k<=8/\i=.int .i64 k/\t=.int .u64 x/\Hid ((Lit.int .u64 x).wf=true)/\Hid (Post w rb wr)) (fun _ i _=>8-(intOf i).toNat)
 case atStart=>exact ⟨0,0,by decide,rfl,rfl,wf_zero,Post.refl H.out⟩
 case round =>
  obtain ⟨k,x,hk,rfl,rfl,hx,hp⟩:=hrel
  by_cases hlt:k<8
  ·go_wp2_with (go_at_call 55;refine (next_any _ _ hp.out.1).mono ?_;rintro e w1 ⟨⟨y,y0,y1,rfl⟩,hp1⟩)
   go_roundw
   case rel=>exact ⟨k+1,_,by omega,by go_num,rfl,wf_bits _ _ _ _,hp.out.trans hp1⟩
   case measure=>simp [intOf];omega
  ·go_wp2
   go_ret
   exact ⟨⟨x,hx.out,rfl⟩,hp.out⟩
theorem near_any (rb:Nat) (low high:Int) (w:World) (h:Rd w rb) (h1:low<=high) (h2:-1000000000<=low) (h3:high<=1000000000) :
  Calls prog 57 #[.pointer (some ⟨rb,0,none⟩),.int .i64 low,.int .i64 high] w fun e w'=>(∃ x:Int,low<=x/\x<=high/\e=.returned (.int .i64 x))/\Post w rb w':=by
 have H:Hid (Rd w rb):=h
 clear h
 go_enter func57,ntmps57
 go_wp2_with fail
 refine (below_any _ _ _ H.out (by decide) (by decide)).mono ?_
 rintro e w1 ⟨⟨x,x0,x1,rfl⟩,hp⟩
 by_cases hx0:x=0
 ·subst hx0
  go_wp2
  go_ret
  exact ⟨⟨low,by omega,h1,rfl⟩,hp⟩
 by_cases hx1:x=1
 ·subst hx1
  go_wp2
  go_ret
  exact ⟨⟨high,h1,by omega,rfl⟩,hp⟩
 ·have b0:(x == 0)=false:=by simpa using hx0
  have b1:(x == 1)=false:=by simpa using hx1
  go_wp2_with fail
  refine (word_any _ _ hp.1).mono ?_
  rintro e w2 ⟨⟨y,hy,rfl⟩,hp'⟩
  have hy0:0<=y:=(bounds_u64 hy).1
  have HY:Hid ((Lit.int .u64 y).wf=true):=hy
  clear hy
  obtain ⟨m0,m1⟩:=mod_bd (x:=y / 2) (n:=high-low+1) (by omega)
  go_wp2
  go_ret
  exact ⟨⟨low+y / 2%(high-low+1),by omega,by omega,rfl⟩,hp.trans hp'⟩
theorem off_any (rb:Nat) (low high:Int) (w:World) (h:Rd w rb) (h1:low<=high) (h2:-1000000000<=low) (h3:high<=1000000000) :
  Calls prog 39 #[.pointer (some ⟨rb,0,none⟩),.int .i64 low,.int .i64 high] w fun e w'=>(∃ x:Int,(Lit.int .i64 x).wf=true/\e=.returned (.int .i64 x))/\Post w rb w':=by
 have H:Hid (Rd w rb):=h
 clear h
 go_enter func39,ntmps39
 go_wp2_with fail
 refine (once_any _ _ _ H.out (by decide) (by decide)).mono ?_
 rintro e w1 ⟨⟨x,rfl⟩,hp⟩
 cases x with
 | true =>
  go_wp2_with fail
  refine (below_any _ _ _ (hp.alloc _).1 (by decide) (by decide)).mono ?_
  rintro e w2 ⟨⟨y,y0,y1,rfl⟩,hp'⟩
  have hc:∃ z:Int,(Lit.int .i64 z).wf=true/\w2.cell? ⟨w1.heap.size,y.toNat,none⟩=some (.int .i64 z):=by
   have hl:=hp.1.lt
   have e:∀ i:Nat,w2.cell? ⟨w1.heap.size,i,none⟩=#[Value.int .i64 (low-1),.int .i64 (high+1),.int .i64 (-9223372036854775808),.int .i64 9223372036854775807][i]?:=fun i =>
    (World.cell?_of_block (a:=⟨w1.heap.size,i,none⟩) (hp'.2.block _ (by simp) (fun e=>by have:w1.heap.size=rb:=Option.some.inj e;omega))).trans (World.cell?_alloc_new _ _ _ _)
   have hy:y=0 \/ y=1 \/ y=2 \/ y=3:=by omega
   rcases hy with rfl|rfl|rfl|rfl
   ·exact ⟨_,wf_small (by omega) (by omega),e 0⟩
   ·exact ⟨_,wf_small (by omega) (by omega),e 1⟩
   ·exact ⟨_,by decide,e 2⟩
   ·exact ⟨_,by decide,e 3⟩
  obtain ⟨z,hz,hc⟩:=hc
  go_wp2
  go_ret
  exact ⟨⟨z,hz,rfl⟩,(hp.alloc _).trans hp'⟩
 | false =>
  go_wp2_with fail
  refine (near_any _ _ _ _ hp.1 h1 h2 h3).mono ?_
  rintro e w2 ⟨⟨y,y0,y1,rfl⟩,hp'⟩
  go_wp2
  go_ret
  exact ⟨⟨y,wf_small (by omega) (by omega),rfl⟩,hp.trans hp'⟩
theorem byte_any (rb:Nat) (w:World) (h:Rd w rb) :
  Calls prog 17 #[.pointer (some ⟨rb,0,none⟩)] w fun e w'=>(∃ x:Int,0<=x/\x<=255/\e=.returned (.int .i64 x))/\Post w rb w':=by
 have H:Hid (Rd w rb):=h
 clear h
 go_enter func17,ntmps17
 go_wp2_with fail
 refine (once_any _ _ _ H.out (by decide) (by decide)).mono ?_
 rintro e w1 ⟨⟨x,rfl⟩,hp⟩
 cases x with
 | true =>
  go_wp2_with fail
  refine (below_any _ _ _ (hp.alloc _).1 (by decide) (by decide)).mono ?_
  rintro e w2 ⟨⟨y,y0,y1,rfl⟩,hp'⟩
  have hc:∃ z:Int,0<=z/\z<=255/\w2.cell? ⟨w1.heap.size,y.toNat,none⟩=some (.int .i64 z):=by
   have hl:=hp.1.lt
   have e:∀ i:Nat,w2.cell? ⟨w1.heap.size,i,none⟩=#[Value.int .i64 0,.int .i64 1,.int .i64 127,.int .i64 128,.int .i64 255,.int .i64 15,.int .i64 16,.int .i64 240][i]?:=fun i =>
    (World.cell?_of_block (a:=⟨w1.heap.size,i,none⟩) (hp'.2.block _ (by simp) (fun e=>by have:w1.heap.size=rb:=Option.some.inj e;omega))).trans (World.cell?_alloc_new _ _ _ _)
   have hy:y=0 \/ y=1 \/ y=2 \/ y=3 \/ y=4 \/ y=5 \/ y=6 \/ y=7:=by omega
   rcases hy with rfl|rfl|rfl|rfl|rfl|rfl|rfl|rfl
   ·exact ⟨_,by decide,by decide,e 0⟩
   ·exact ⟨_,by decide,by decide,e 1⟩
   ·exact ⟨_,by decide,by decide,e 2⟩
   ·exact ⟨_,by decide,by decide,e 3⟩
   ·exact ⟨_,by decide,by decide,e 4⟩
   ·exact ⟨_,by decide,by decide,e 5⟩
   ·exact ⟨_,by decide,by decide,e 6⟩
   ·exact ⟨_,by decide,by decide,e 7⟩
  obtain ⟨z,z0,z1,hc⟩:=hc
  go_wp2
  go_ret
  exact ⟨⟨z,z0,z1,rfl⟩,(hp.alloc _).trans hp'⟩
 | false =>
  go_wp2_with fail
  refine (below_any _ _ _ hp.1 (by decide) (by decide)).mono ?_
  rintro e w2 ⟨⟨y,y0,y1,rfl⟩,hp'⟩
  go_wp2
  go_ret
  exact ⟨⟨y,y0,by omega,rfl⟩,hp.trans hp'⟩
def IsRow (k:IntKind) (w:World) (a:Option Addr) (len cap:Nat) (zs:List Int):Prop :=
 (a=none/\len=0/\cap=0/\zs=[]) \/
 ∃ x,a=some x/\len<=cap/\cap<=maxLen/\zs.length=cap/\(∀ i,i<zs.length->w.cell? (x.add i)=some (.int k (zs.getD i 0)))/\∀ n ∈ zs,(Lit.int k n).wf=true
theorem IsRow.below {k:IntKind} {w w':World} {a:Option Addr} {len cap:Nat} {zs:List Int} (h:IsRow k w a len cap zs) (hb:Below w.heap.size w w'):IsRow k w' a len cap zs:=by
 rcases h with h|⟨x,hx,hl,hm,hz,hc,hw⟩
 ·exact .inl h
 ·refine .inr ⟨x,hx,hl,hm,hz,fun i hi=>?_,hw⟩
  rw [<- hc i hi]
  exact hb.cell (World.block_lt_of_cell? w _ (hc i hi))
theorem IsRow.len {k:IntKind} {w:World} {a:Option Addr} {len cap:Nat} {zs:List Int} (h:IsRow k w a len cap zs):len<=maxLen:=by
 rcases h with ⟨_,rfl,_⟩|⟨x,_,h1,h2,_⟩
 ·exact Nat.zero_le _
 ·exact Nat.le_trans h1 h2
def bigB (len:Nat):Bool:=decide (1048576<len)
theorem big_any (a:Option Addr) (len cap:Nat) (w:World) (hl:len<=maxLen) :
  Calls prog 4 #[.slice a len cap] w fun e w'=>e=.returned (.bool (bigB len))/\w'=w:=by
 unfold maxLen at hl
 go_enter func4,ntmps4
 go_wp2
 go_ret
 refine ⟨congrArg (fun b=>Ending.returned (.bool b)) ?_,rfl⟩
 rw [Bool.eq_iff_iff];simp [bigB];try omega
theorem Rd.new {w:World} {a:Option Addr} {len cap:Nat} {zs:List Int} (h:IsRow .u8 w a len cap zs) (t:TypeId):Rd (w.alloc (.cells #[.slice a len cap,.int .i64 0] t)) w.heap.size:=by
 refine ⟨a,len,cap,0,?_,?_,Nat.zero_le _,?_,?_,fun hl=>?_⟩
 ·exact World.cell?_alloc_new _ _ _ _
 ·exact World.cell?_alloc_new _ _ _ _
 ·rcases h with ⟨_,rfl,_⟩|⟨x,_,h1,h2,_⟩
  ·exact Nat.zero_le _
  ·exact Nat.le_trans h1 h2
 ·exact World.frozen?_alloc_new _ _ _ _
 ·rcases h with ⟨_,rfl,_⟩|⟨⟨b,off,spot⟩,rfl,h1,h2,h3,hc,hw⟩
  ·exact absurd hl (Nat.lt_irrefl _)
  ·have c0:=hc 0 (by omega)
   have hspot:spot=none:=by simpa [Addr.add] using World.cell?_spot c0
   subst hspot
   have e:∀ i,(⟨b,off,none⟩ : Addr).add i=⟨b,off+i,none⟩:=fun i=>by unfold Addr.add;split <;> simp_all
   have hb:b<w.heap.size:=World.block_lt_of_cell? w ⟨b,off,none⟩ (by simpa [Addr.add] using c0)
   refine ⟨b,off,rfl,hb,fun i hi=>?_⟩
   have hi':i<zs.length:=by omega
   have:=bounds_u8 (hw (zs.getD i 0) (by rw [List.getD_eq_getElem?_getD,List.getElem?_eq_getElem hi'];exact List.getElem_mem hi'))
   refine ⟨zs.getD i 0,this.1,this.2,?_⟩
   rw [World.cell?_alloc_lt _ _ _ hb,<- e i]
   exact hc i hi'
theorem open_any (a:Option Addr) (len cap:Nat) (zs:List Int) (w:World) (h:IsRow .u8 w a len cap zs) :
  Calls prog 14 #[.slice a len cap] w fun e w'=>e=.returned (.pointer (some ⟨w.heap.size,0,none⟩))/\Rd w' w.heap.size/\Below w.heap.size w w':=by
 have H:=Rd.new h
 clear h
 go_enter func14,ntmps14
 go_wp2
 go_ret
 exact ⟨rfl,H _,zAl _ _⟩
end Rdr
namespace Fixa
open Signed (inB ret_int ret_bool l1In_any)
def cellsOf (l:List UInt8):List Value:=l.map fun x=>Value.int .u8 (x.toNat:Int)
def Row (w:World) (B:Nat) (l:List UInt8):Prop:=w.heap[B]? = some (.cells (cellsOf l).toArray 5 (0,0))
def over (l:List UInt8) (o:Nat) (s:List UInt8):List UInt8:=l.take o ++ s ++ l.drop (o+s.length)
def u8 (x:Int):UInt8:=UInt8.ofNat x.toNat
theorem u8_val {x:Int} (h0:0<=x) (h1:x<=255):((u8 x).toNat:Int)=x:=by
 have:(UInt8.ofNat x.toNat).toNat=x.toNat:=by simp;omega
 unfold u8;omega
theorem u8_nat (b:UInt8):u8 (b.toNat:Int)=b:=by unfold u8;simp
theorem over_length (l:List UInt8) (o:Nat) (s:List UInt8) (h:o+s.length<=l.length):(over l o s).length=l.length:=by
 unfold over;simp;omega
theorem Row.lt {w:World} {B:Nat} {l:List UInt8} (h:Row w B l):B<w.heap.size:=lt_of_block h
theorem Row.kept {w w':World} {B:Nat} {l:List UInt8} (h:Row w B l) (hk:w'.heap[B]? = w.heap[B]?):Row w' B l:=hk.trans h
theorem Row.below {w w':World} {B:Nat} {l:List UInt8} (h:Row w B l) (b:Below w.heap.size w w'):Row w' B l:=h.kept (b.block B h.lt)
theorem cell_at {w:World} {B:Nat} {l:List UInt8} (h:Row w B l) (i:Nat) (hi:i<l.length):w.cell? ⟨B,i,none⟩=some (.int .u8 (l[i].toNat:Int)):=by
 unfold Row at h
 unfold World.cell?
 simp only [h]
 simp [cellsOf,hi]
theorem free_at {w:World} {B:Nat} {l:List UInt8} (h:Row w B l) (i:Nat):w.frozen? ⟨B,i,none⟩=false:=by
 unfold Row at h
 unfold World.frozen?
 simp only [h]
 simp
theorem put_at {w:World} {B:Nat} {l:List UInt8} (h:Row w B l) (i:Nat) (hi:i<l.length) (v:Int) (v0:0<=v) (v1:v<=255):Row (w.setCell ⟨B,i,none⟩ (.int .u8 v)) B (l.set i (u8 v)):=by
 have hlt:=h.lt
 have h':w.heap[B]=.cells (cellsOf l).toArray 5 (0,0):=by simpa [Array.getElem?_eq_getElem hlt,Row] using h
 show (w.heap.modify B _)[B]? = _
 rw [Array.getElem?_eq_getElem (by simpa using hlt),Array.getElem_modify_self,h']
 have hv:=u8_val v0 v1
 simp [cellsOf,List.map_set,hv]
theorem over_get (l:List UInt8) (o:Nat) (s:List UInt8) (i:Nat) (h:o<=l.length):(over l o s)[i]? = if i<o then l[i]? else if i<o+s.length then s[i-o]? else l[i]?:=by
 unfold over
 have ht:(l.take o).length=o:=by simp;omega
 by_cases h1:i<o
 ·rw [if_pos h1,List.append_assoc,List.getElem?_append_left (by omega),List.getElem?_take_of_lt h1]
 rw [if_neg h1,List.append_assoc,List.getElem?_append_right (by omega),ht]
 by_cases h2:i<o+s.length
 ·rw [if_pos h2,List.getElem?_append_left (by omega)]
 ·rw [if_neg h2,List.getElem?_append_right (by omega),List.getElem?_drop]
  congr 1
  omega
theorem over_cons (l:List UInt8) (o:Nat) (b:UInt8) (s:List UInt8) (h:o<l.length):over l o (b :: s)=over (l.set o b) (o+1) s:=by
 apply List.ext_getElem?
 intro i
 rw [over_get l o _ i (by omega),over_get (l.set o b) (o+1) s i (by simp;omega),List.length_cons]
 by_cases h1:i<o
 ·rw [if_pos h1,if_pos (by omega),List.getElem?_set_ne (by omega)]
 rw [if_neg h1]
 by_cases h2:i=o
 ·subst h2
  rw [if_pos (by omega),if_pos (by omega),List.getElem?_set_self h,Nat.sub_self]
  rfl
 rw [if_neg (show ¬ i<o+1 by omega)]
 by_cases h3:i<o+1+s.length
 ·rw [if_pos (by omega),if_pos h3,show i-o=(i-(o+1))+1 by omega,List.getElem?_cons_succ]
 ·rw [if_neg (by omega),if_neg h3,List.getElem?_set_ne (by omega)]
theorem over_nil (l:List UInt8) (o:Nat):over l o []=l:=by unfold over;simp
theorem cells_at {B:Nat}:∀ (s:List UInt8) (l:List UInt8) (o:Nat) (w:World),Row w B l->o+s.length<=l.length->Row (w.setCells B o (cellsOf s)) B (over l o s)
 | [],l,o,w,h,_=>by rw [over_nil];exact h
 | b :: s,l,o,w,h,hf=>by
  simp only [List.length_cons] at hf
  rw [over_cons l o b s (by omega)]
  have hb:=b.toNat_lt
  have h1:=put_at h o (by omega) (b.toNat:Int) (by omega) (by omega)
  rw [u8_nat] at h1
  exact cells_at s (l.set o b) (o+1) _ h1 (by simp;omega)
theorem hsz:∀ w,(Go.sizeOf 5).run prog w=.ok 1 w:=fun w=>by kernel_rfl
theorem copy_at {w:World} {B:Nat} {l:List UInt8} (h:Row w B l) (o len cap:Nat) (s:ByteArray) (hle:s.size<=len) (hf:o+s.size<=l.length) :
  ∃ w',(∀ ty,(Builtin.copy_ #[22,9] ty #[.slice (some ⟨B,o,none⟩) len cap,.string s]).run prog w=.ok (goInt s.size) w')/\Row w' B (over l o s.data.toList)/\∀ (Q:Nat) (w0:World),Q<=B->Below Q w0 w->Below Q w0 w':=by
 have hl:s.data.toList.length=s.size:=Array.length_toList
 refine ⟨w.setCells B o (cellsOf s.data.toList),fun ty=>?_,cells_at _ _ _ _ h (by omega),fun Q w0 hQ b=>below_setCells hQ _ _ _ b⟩
 exact run_copy_string w 22 9 ty 5 B o len cap s underlying22 hsz hle (fun j hj=>by rw [cell_at h (o+j) (by omega)];rfl) (fun j hj=>free_at h _)
theorem str_at {w:World} {B:Nat} {l:List UInt8} (h:Row w B l) (n cap:Nat) (hn:l.length=n):(convert 22 9 (.slice (some ⟨B,0,none⟩) n cap)).run prog w=.ok (.string ⟨l.toArray⟩) w:=by
 subst hn
 exact run_convert_bytes_back (P:=prog) w 22 9 5 ⟨B,0,none⟩ cap l underlying22 underlying5 underlying9 (fun j hj=>by
  have ea:(⟨B,0,none⟩ : Addr).add j=⟨B,j,none⟩:=by unfold Addr.add;split <;> simp_all
  rw [ea]
  exact cell_at h j hj)
theorem infoB:(prog.info? 5).map (fun i=>(i.zero,i.size,i.bytes))=some (some (.int .u8 0),1,1):=by kernel_rfl
theorem info_parts {P:Program} {t:TypeId} {z:Value} {s b:Nat} (h:(P.info? t).map (fun i=>(i.zero,i.size,i.bytes))=some (some z,s,b)):∃ i,P.info? t=some i/\i.zero=some z/\i.size=s/\i.bytes=b:=by
 cases e:P.info? t with
 | none=>rw [e] at h;cases h
 | some i =>
  rw [e] at h
  simp only [Option.map_some,Option.some.injEq,Prod.mk.injEq] at h
  exact ⟨i,rfl,h.1,h.2.1,h.2.2⟩
theorem made (n:Nat) (hn:n<=5000):∃ o:Obj,∀ u:World,(Instr.makeSlice 22 (.int .i64 (n:Int)) (.int .i64 (n:Int))).run prog u=.ok (.slice (some ⟨u.heap.size,0,none⟩) n n) (u.alloc o)/\Row (u.alloc o) u.heap.size (List.replicate n 0):=by
 obtain ⟨i0,hi,hz0,hz1,hz2⟩:=info_parts infoB
 refine ⟨.cells (cellsOf (List.replicate n 0)).toArray 5 (0,0),fun u=>⟨?_,heap_alloc_new _ _⟩⟩
 have h:=run_make (P:=prog) u 22 5 i0 (.int .u8 0) underlying22 hi hz0 .i64 .i64 (n:Int) (n:Int) (by omega) (Int.le_refl _) (by rw [hz2];omega) (by omega)
 have e:madeCells #[.int .u8 0] n=(cellsOf (List.replicate n 0)).toArray:=by
  apply Array.toList_inj.1
  rw [toList_madeCells_one]
  simp [cellsOf]
 have h':=h
 simp [hz1,Value.cells,e] at h'
 simpa using h'
end Fixa
end Go.Proofs.YtfpecdgcapfgfaaGreat
