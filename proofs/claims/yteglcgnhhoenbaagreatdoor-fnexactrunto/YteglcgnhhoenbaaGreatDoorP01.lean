import Derived.Test.YteglcgnhhoenbaaGreatDoorP00
import Derived.ShutString
import Derived.Outline
import Derived.WalkLawsBesides
import Derived.LoopN
import Derived.Laws.BytesArg
set_option linter.all false
set_option maxRecDepth 20000
set_option maxHeartbeats 8000000
open Go.ChangeShapes Go.WideShapes Go.ChangeAt Go.RowKit
open Go.Proofs.Tryz
namespace Go.Proofs.YteglcgnhhoenbaaGreatDoor
namespace CartK
open Signed (inB ret_int ret_bool isByte_any l1In_any)
open Carts
theorem mapperOf_0 (w:World):Calls prog 113 #[.int .i64 0] w fun e w'=>e=.returned (.iface 175 (.agg #[]))/\w'=w:=mapperOf_any 0 w
theorem cartOk_0 (rom:ByteArray) (bank:Int) (ram:ByteArray) (rb:Int) (on:Bool) (mode:Int) (w:World) (hs:rom.size<=maxLen) (hr:ram.size<=maxLen) (b1 b2:Bool) (h1:(decide (bank=1/\rb=0/\mode=0/\on=false))=b1) (h2:romB rom.size=b2) :
  Calls prog 77 #[.agg #[.string rom,.int .i64 0,.int .i64 bank,.string ram,.int .i64 rb,.bool on,.int .i64 mode]] w fun e w'=>e=.returned (.bool (b1 && b2 && ram.size == 256))/\w'=((w.alloc (.cells #[.string rom,.int .i64 0,.int .i64 bank,.string ram,.int .i64 rb,.bool on,.int .i64 mode] 27)).alloc (.cells #[] 175)).alloc (.cells #[.string rom,.int .i64 0,.int .i64 bank,.string ram,.int .i64 rb,.bool on,.int .i64 mode] 27):=by
 have c1:=fun w=>plainHolds_any rom 0 bank ram rb on mode w
 have c2:=fun w=>romOk_any rom w hs
 rw [h1] at c1
 rw [h2] at c2
 have m:=m0
 have e3:decide ((ram.size:Int)=256)=(ram.size == 256):=by rw [Bool.eq_iff_iff];simp;try omega
 have hr':ram.size<=9223372036854775807:=by unfold maxLen at hr;omega
 clear h1 h2 hr hs
 cases b1 <;> cases b2
 all_goals
  go_enter func77,ntmps77
  go_wp2_with first|(go_at_call 113;refine (mapperOf_0 _).mono ?_;rintro e w' ⟨rfl,rfl⟩)|(go_at_call 319;refine (c1 _).mono ?_;rintro e w' ⟨rfl,rfl⟩)|(go_at_call 114;refine (c2 _).mono ?_;rintro e w' ⟨rfl,rfl⟩)
  all_goals go_ret
  all_goals first|exact ⟨rfl,rfl⟩|exact ⟨ret_bool e3,rfl⟩|exact ⟨ret_bool (by rw [Bool.eq_iff_iff];simp;try omega),rfl⟩
theorem mapperOf_1 (w:World):Calls prog 113 #[.int .i64 1] w fun e w'=>e=.returned (.iface 176 (.agg #[]))/\w'=w:=mapperOf_any 1 w
theorem cartOk_1 (rom:ByteArray) (bank:Int) (ram:ByteArray) (rb:Int) (on:Bool) (mode:Int) (w:World) (hs:rom.size<=maxLen) (hr:ram.size<=maxLen) (b1 b2:Bool) (h1:(inB bank 1 31 && inB rb 0 3 && inB mode 0 1)=b1) (h2:romB rom.size=b2) :
  Calls prog 77 #[.agg #[.string rom,.int .i64 1,.int .i64 bank,.string ram,.int .i64 rb,.bool on,.int .i64 mode]] w fun e w'=>e=.returned (.bool (b1 && b2 && ram.size == 256))/\w'=((w.alloc (.cells #[.string rom,.int .i64 1,.int .i64 bank,.string ram,.int .i64 rb,.bool on,.int .i64 mode] 27)).alloc (.cells #[] 176)).alloc (.cells #[.string rom,.int .i64 1,.int .i64 bank,.string ram,.int .i64 rb,.bool on,.int .i64 mode] 27):=by
 have c1:=fun w=>oneHolds_any rom 1 bank ram rb on mode w
 have c2:=fun w=>romOk_any rom w hs
 rw [h1] at c1
 rw [h2] at c2
 have m:=m1
 have e3:decide ((ram.size:Int)=256)=(ram.size == 256):=by rw [Bool.eq_iff_iff];simp;try omega
 have hr':ram.size<=9223372036854775807:=by unfold maxLen at hr;omega
 clear h1 h2 hr hs
 cases b1 <;> cases b2
 all_goals
  go_enter func77,ntmps77
  go_wp2_with first|(go_at_call 113;refine (mapperOf_1 _).mono ?_;rintro e w' ⟨rfl,rfl⟩)|(go_at_call 320;refine (c1 _).mono ?_;rintro e w' ⟨rfl,rfl⟩)|(go_at_call 114;refine (c2 _).mono ?_;rintro e w' ⟨rfl,rfl⟩)
  all_goals go_ret
  all_goals first|exact ⟨rfl,rfl⟩|exact ⟨ret_bool e3,rfl⟩|exact ⟨ret_bool (by rw [Bool.eq_iff_iff];simp;try omega),rfl⟩
theorem mapperOf_2 (w:World):Calls prog 113 #[.int .i64 2] w fun e w'=>e=.returned (.iface 177 (.agg #[]))/\w'=w:=mapperOf_any 2 w
theorem cartOk_2 (rom:ByteArray) (bank:Int) (ram:ByteArray) (rb:Int) (on:Bool) (mode:Int) (w:World) (hs:rom.size<=maxLen) (hr:ram.size<=maxLen) (b1 b2:Bool) (h1:(inB bank 0 255 && inB rb 0 3 && mode == 0)=b1) (h2:romB rom.size=b2) :
  Calls prog 77 #[.agg #[.string rom,.int .i64 2,.int .i64 bank,.string ram,.int .i64 rb,.bool on,.int .i64 mode]] w fun e w'=>e=.returned (.bool (b1 && b2 && ram.size == 256))/\w'=((w.alloc (.cells #[.string rom,.int .i64 2,.int .i64 bank,.string ram,.int .i64 rb,.bool on,.int .i64 mode] 27)).alloc (.cells #[] 177)).alloc (.cells #[.string rom,.int .i64 2,.int .i64 bank,.string ram,.int .i64 rb,.bool on,.int .i64 mode] 27):=by
 have c1:=fun w=>fiveHolds_any rom 2 bank ram rb on mode w
 have c2:=fun w=>romOk_any rom w hs
 rw [h1] at c1
 rw [h2] at c2
 have m:=m2
 have e3:decide ((ram.size:Int)=256)=(ram.size == 256):=by rw [Bool.eq_iff_iff];simp;try omega
 have hr':ram.size<=9223372036854775807:=by unfold maxLen at hr;omega
 clear h1 h2 hr hs
 cases b1 <;> cases b2
 all_goals
  go_enter func77,ntmps77
  go_wp2_with first|(go_at_call 113;refine (mapperOf_2 _).mono ?_;rintro e w' ⟨rfl,rfl⟩)|(go_at_call 322;refine (c1 _).mono ?_;rintro e w' ⟨rfl,rfl⟩)|(go_at_call 114;refine (c2 _).mono ?_;rintro e w' ⟨rfl,rfl⟩)
  all_goals go_ret
  all_goals first|exact ⟨rfl,rfl⟩|exact ⟨ret_bool e3,rfl⟩|exact ⟨ret_bool (by rw [Bool.eq_iff_iff];simp;try omega),rfl⟩
theorem cartOk_no (rom:ByteArray) (kind bank:Int) (ram:ByteArray) (rb:Int) (on:Bool) (mode:Int) (w:World) (h0:¬ kind=0) (h1:¬ kind=1) (h2:¬ kind=2) :
  Calls prog 77 #[.agg #[.string rom,.int .i64 kind,.int .i64 bank,.string ram,.int .i64 rb,.bool on,.int .i64 mode]] w fun e w'=>e=.returned (.bool false)/\w'=w.alloc (.cells #[.string rom,.int .i64 kind,.int .i64 bank,.string ram,.int .i64 rb,.bool on,.int .i64 mode] 27):=by
 have c:=fun w=>mapperOf_any kind w
 have e:mapV kind=.nilIface:=by unfold mapV;simp [h0,h1,h2]
 rw [e] at c
 go_enter func77,ntmps77
 go_wp2_with (go_at_call 113;refine (c _).mono ?_;rintro e w' ⟨rfl,rfl⟩)
 go_ret
 exact ⟨rfl,rfl⟩
theorem banks_no {n:Nat} (h:romB n=false):banks n=0:=by
 unfold romB at h;unfold banks;rw [if_neg (of_decide_eq_false h)]
theorem banks_yes {n:Nat} (h:romB n=true):2<=banks n/\banks n<=16/\banks n=n / 256/\n=256*(n / 256):=by
 unfold romB at h;have h:=of_decide_eq_true h;unfold banks;rw [if_pos h];omega
theorem specNot1 (rom:ByteArray) (kind bank:Int) (ram:ByteArray) (rb:Int) (on:Bool) (mode:Int) (w:World) (hs:rom.size<=maxLen) (h:romB rom.size=false) :
  Calls prog 55 #[.agg #[.string rom,.int .i64 kind,.int .i64 bank,.string ram,.int .i64 rb,.bool on,.int .i64 mode]] w fun e w'=>e=.returned (.bool false)/\w'=w.alloc (.cells #[.string rom,.int .i64 kind,.int .i64 bank,.string ram,.int .i64 rb,.bool on,.int .i64 mode] 27):=by
 have c:=fun w=>l5Banks_any rom w hs
 rw [banks_no h] at c
 go_enter func55,ntmps55
 go_wp2_with (go_at_call 107;refine (c _).mono ?_;rintro e w' ⟨rfl,rfl⟩)
 go_ret
 exact ⟨rfl,rfl⟩
theorem specNot2 (rom:ByteArray) (kind bank:Int) (ram:ByteArray) (rb:Int) (on:Bool) (mode:Int) (w:World) (hs:rom.size<=maxLen) (hr:ram.size<=maxLen) (h:romB rom.size=true) (h2:¬ ram.size=256) :
  Calls prog 55 #[.agg #[.string rom,.int .i64 kind,.int .i64 bank,.string ram,.int .i64 rb,.bool on,.int .i64 mode]] w fun e w'=>e=.returned (.bool false)/\w'=w.alloc (.cells #[.string rom,.int .i64 kind,.int .i64 bank,.string ram,.int .i64 rb,.bool on,.int .i64 mode] 27):=by
 have c:=fun w=>l5Banks_any rom w hs
 obtain ⟨z0,z1,-,-⟩:=banks_yes h
 obtain ⟨z,hz⟩ : ∃ z,z=banks rom.size:=⟨_,rfl⟩
 rw [<- hz] at c z0 z1
 have hr':ram.size<=9223372036854775807:=by unfold maxLen at hr;omega
 have d0:(z == 0)=false:=by simp;omega
 have d1:((ram.size:Int) != 256)=true:=by simp;omega
 clear hz h hs hr
 go_enter func55,ntmps55
 go_wp2_with (go_at_call 107;refine (c _).mono ?_;rintro e w' ⟨rfl,rfl⟩)
 all_goals go_ret
 all_goals exact ⟨rfl,rfl⟩
theorem specYes (rom:ByteArray) (kind bank:Int) (ram:ByteArray) (rb:Int) (on:Bool) (mode:Int) (w:World) (hs:rom.size<=maxLen) (h:romB rom.size=true) (h2:ram.size=256) :
  Calls prog 55 #[.agg #[.string rom,.int .i64 kind,.int .i64 bank,.string ram,.int .i64 rb,.bool on,.int .i64 mode]] w fun e w'=>e=.returned (.bool (heldB kind bank rb on mode))/\w'=w.alloc (.cells #[.string rom,.int .i64 kind,.int .i64 bank,.string ram,.int .i64 rb,.bool on,.int .i64 mode] 27):=by
 have c:=fun w=>l5Banks_any rom w hs
 obtain ⟨z0,z1,-,-⟩:=banks_yes h
 obtain ⟨z,hz⟩ : ∃ z,z=banks rom.size:=⟨_,rfl⟩
 rw [<- hz] at c z0 z1
 have d0:(z == 0)=false:=by simp;omega
 have d1:((ram.size:Int) != 256)=false:=by simp;omega
 clear hz h
 go_enter func55,ntmps55
 go_wp2_with first|(go_at_call 107;refine (c _).mono ?_;rintro e w' ⟨rfl,rfl⟩)|(go_at_call 42;refine (l1In_any _ _ _ _).mono ?_;rintro e w' ⟨rfl,rfl⟩)
 all_goals clear c h2 hs
 all_goals go_ret
 all_goals exact ⟨ret_bool (by rw [Bool.eq_iff_iff];simp_all [heldB,inB] <;> omega),by first|rfl|simp_all⟩
theorem specOk_any (rom:ByteArray) (kind bank:Int) (ram:ByteArray) (rb:Int) (on:Bool) (mode:Int) (w:World) (hs:rom.size<=maxLen) (hr:ram.size<=maxLen) :
  Calls prog 55 #[.agg #[.string rom,.int .i64 kind,.int .i64 bank,.string ram,.int .i64 rb,.bool on,.int .i64 mode]] w fun e w'=>e=.returned (.bool (okB rom kind bank ram rb on mode))/\w'=w.alloc (.cells #[.string rom,.int .i64 kind,.int .i64 bank,.string ram,.int .i64 rb,.bool on,.int .i64 mode] 27):=by
 cases h:romB rom.size with
 | false =>
  refine (specNot1 rom kind bank ram rb on mode w hs h).mono ?_
  rintro e w' ⟨rfl,rfl⟩
  exact ⟨ret_bool (by simp [okB,h]),rfl⟩
 | true =>
  by_cases h2:ram.size=256
  ·refine (specYes rom kind bank ram rb on mode w hs h h2).mono ?_
   rintro e w' ⟨rfl,rfl⟩
   exact ⟨ret_bool (by simp [okB,h,h2]),rfl⟩
  ·refine (specNot2 rom kind bank ram rb on mode w hs hr h h2).mono ?_
   rintro e w' ⟨rfl,rfl⟩
   exact ⟨ret_bool (by simp [okB,h,h2]),rfl⟩
end CartK
namespace ReckS
open Signed (inB ret_int ret_bool isByte_any l1In_any sgn specSigned_any)
open Reck
theorem fl_zd (z n h c:Bool):fl z n h c=fl false n h c+128*one z:=by cases z <;> cases n <;> cases h <;> cases c <;> decide
theorem fl_congr {z z' n n' h h' c c':Bool} (e0:z=z') (e1:n=n') (e2:h=h') (e3:c=c'):fl z n h c=fl z' n' h' c':=by subst e0 e1 e2 e3;rfl
theorem zd_fl' (x:Int) (n h c:Bool):zd (x,fl false n h c)=(x,fl (decide (x=0)) n h c):=by unfold zd;rw [fl_zd (decide (x=0))]
theorem aluR_0 (a b f:Int):aluR 0 a b f=((a+b)%256,fl (decide ((a+b)%256=0)) false (decide (15<a%16+b%16)) (decide (255<a+b))):=by
 show zd (addR a b 0)=_;unfold addR;rw [zd_fl',Int.add_zero,Int.add_zero]
theorem aluR_1 (a b f:Int):aluR 1 a b f=((a+b+cy f)%256,fl (decide ((a+b+cy f)%256=0)) false (decide (15<a%16+b%16+cy f)) (decide (255<a+b+cy f))):=by
 show zd (addR a b (cy f))=_;unfold addR;rw [zd_fl']
theorem aluR_2 (a b f:Int):aluR 2 a b f=((a-b)%256,fl (decide ((a-b)%256=0)) true (decide (a%16<b%16)) (decide (a-b<0))):=by
 show zd (subR a b 0)=_;unfold subR;rw [zd_fl',Int.add_zero,Int.sub_zero]
theorem aluR_3 (a b f:Int):aluR 3 a b f=((a-b-cy f)%256,fl (decide ((a-b-cy f)%256=0)) true (decide (a%16<b%16+cy f)) (decide (a-b-cy f<0))):=by
 show zd (subR a b (cy f))=_;unfold subR;rw [zd_fl']
theorem aluR_4 (a b f:Int):aluR 4 a b f=(bits .and .i64 a b,fl (decide (bits .and .i64 a b=0)) false true false):=zd_fl' _ false true false
theorem aluR_5 (a b f:Int):aluR 5 a b f=(bits .xor .i64 a b,fl (decide (bits .xor .i64 a b=0)) false false false):=zd_fl' _ false false false
theorem aluR_6 (a b f:Int):aluR 6 a b f=(bits .or .i64 a b,fl (decide (bits .or .i64 a b=0)) false false false):=zd_fl' _ false false false
theorem aluR_7 (a b f:Int):aluR 7 a b f=(a,(aluR 2 a b f).2):=rfl
theorem bits_xor {a b:Int} (a0:0<=a) (a1:a<=255) (b0:0<=b) (b1:b<=255):bits .xor .i64 a b=((a.toNat ^^^ b.toNat:Nat):Int):=by
 obtain ⟨m,rfl⟩:=Int.eq_ofNat_of_zero_le a0
 obtain ⟨n,rfl⟩:=Int.eq_ofNat_of_zero_le b0
 show IntKind.i64.wrap ((BitVec.ofInt 64 (m:Int) ^^^ BitVec.ofInt 64 (n:Int)).toNat:Int)=_
 have hx:m ^^^ n<2 ^ 8:=Nat.xor_lt_two_pow (by omega) (by omega)
 rw [BitVec.toNat_xor,BitVec.ofInt_natCast,BitVec.ofInt_natCast,BitVec.toNat_ofNat,BitVec.toNat_ofNat,Nat.mod_eq_of_lt (by omega),Nat.mod_eq_of_lt (by omega),IntKind.wrap_i64]
 simp only [Int.toNat_natCast]
 omega
theorem bits_and {a b:Int} (a0:0<=a) (a1:a<=255) (b0:0<=b) (b1:b<=255):bits .and .i64 a b=((a.toNat &&& b.toNat:Nat):Int):=by
 obtain ⟨m,rfl⟩:=Int.eq_ofNat_of_zero_le a0
 obtain ⟨n,rfl⟩:=Int.eq_ofNat_of_zero_le b0
 show IntKind.i64.wrap ((BitVec.ofInt 64 (m:Int) &&& BitVec.ofInt 64 (n:Int)).toNat:Int)=_
 have hx:m &&& n<2 ^ 8:=Nat.and_lt_two_pow m (by omega)
 rw [BitVec.toNat_and,BitVec.ofInt_natCast,BitVec.ofInt_natCast,BitVec.toNat_ofNat,BitVec.toNat_ofNat,Nat.mod_eq_of_lt (by omega),Nat.mod_eq_of_lt (by omega),IntKind.wrap_i64]
 simp only [Int.toNat_natCast]
 omega
theorem bits_or {a b:Int} (a0:0<=a) (a1:a<=255) (b0:0<=b) (b1:b<=255):bits .or .i64 a b=((a.toNat ||| b.toNat:Nat):Int):=by
 obtain ⟨m,rfl⟩:=Int.eq_ofNat_of_zero_le a0
 obtain ⟨n,rfl⟩:=Int.eq_ofNat_of_zero_le b0
 show IntKind.i64.wrap ((BitVec.ofInt 64 (m:Int) ||| BitVec.ofInt 64 (n:Int)).toNat:Int)=_
 have hx:m ||| n<2 ^ 8:=Nat.or_lt_two_pow (by omega) (by omega)
 rw [BitVec.toNat_or,BitVec.ofInt_natCast,BitVec.ofInt_natCast,BitVec.toNat_ofNat,BitVec.toNat_ofNat,Nat.mod_eq_of_lt (by omega),Nat.mod_eq_of_lt (by omega),IntKind.wrap_i64]
 simp only [Int.toNat_natCast]
 omega
theorem xor_zero {a b:Int} (a0:0<=a) (a1:a<=255) (b0:0<=b) (b1:b<=255):(a == b)=decide (bits .xor .i64 a b=0):=by
 rw [bits_xor a0 a1 b0 b1,Bool.eq_iff_iff]
 simp
 have:a.toNat=b.toNat ↔ a=b:=by omega
 rw [<- this]
 constructor
 ·intro h;rw [h,Nat.xor_self]
 ·intro h
  have:=congrArg (· ^^^ b.toNat) h
  simpa [Nat.xor_assoc] using this
theorem l4Alu_any (op a b f:Int) (w:World) (o0:0<=op) (o1:op<=7) (a0:0<=a) (a1:a<=255) (b0:0<=b) (b1:b<=255) (f0:0<=f) (f1:f<=255) :
  Calls prog 86 #[.int .i64 op,.int .i64 a,.int .i64 b,.int .i64 f] w fun e w'=>e=.returned (.tuple #[.int .i64 (aluR op a b f).1,.int .i64 (aluR op a b f).2])/\w'=w:=by
 obtain ⟨c0,c1⟩:=cy_bd f
 have hx:=xor_zero a0 a1 b0 b1
 have HX:Hid ((a == b)=decide (bits .xor .i64 a b=0)):=hx
 clear hx
 have ho:op=0 \/ op=1 \/ op=2 \/ op=3 \/ op=4 \/ op=5 \/ op=6 \/ op=7:=by omega
 rcases ho with rfl|rfl|rfl|rfl|rfl|rfl|rfl|rfl
 all_goals
  go_enter func86,ntmps86
  go_wp2_with (first|(go_at_call 117;refine (l4Flags_any _ _ _ _ _).mono ?_;rintro e w3 ⟨rfl,rfl⟩)|(go_at_call 118;refine (l4Carry_any _ _ f0 f1).mono ?_;rintro e w3 ⟨rfl,rfl⟩))
  go_ret2
 all_goals first|rw [aluR_0]|rw [aluR_1]|rw [aluR_2]|rw [aluR_3]|rw [aluR_4]|rw [aluR_5]|rw [aluR_6]|rw [aluR_7,aluR_2]
 all_goals refine ⟨ret_two ?_ (fl_congr ?_ ?_ ?_ ?_),rfl⟩
 all_goals first
  | rfl
  | omega
  | exact HX.out
  | exact beq_dec _
  | (rw [Bool.eq_iff_iff];simp;done)
  | (rw [Bool.eq_iff_iff];simp;omega)
end ReckS
namespace ReckM
open Signed (inB ret_int ret_bool isByte_any l1In_any sgn specSigned_any implSigned_any)
open Reck ReckS
def zB (f:Int):Bool:=decide (f / 128%2=1)
def nB (f:Int):Bool:=decide (f / 64%2=1)
def hB (f:Int):Bool:=decide (f / 32%2=1)
def cB (f:Int):Bool:=decide (cy f=1)
theorem and_all:∀ n:Nat,n<256->bits .and .i64 (n:Int) 128=chz (zB n) 128 0/\bits .and .i64 (n:Int) 64=chz (nB n) 64 0/\bits .and .i64 (n:Int) 32=chz (hB n) 32 0/\bits .and .i64 (n:Int) 16=chz (cB n) 16 0:=by decide +kernel
theorem ands {f:Int} (f0:0<=f) (f1:f<=255):bits .and .i64 f 128=chz (zB f) 128 0/\bits .and .i64 f 64=chz (nB f) 64 0/\bits .and .i64 f 32=chz (hB f) 32 0/\bits .and .i64 f 16=chz (cB f) 16 0:=by
 obtain ⟨n,rfl⟩:=Int.eq_ofNat_of_zero_le f0
 exact and_all n (by omega)
def st8R (v f:Int) (down:Bool):Int × Int :=
 if down=true then ((v+255)%256,fl (decide ((v+255)%256=0)) true (decide (v%16=0)) (cB f)) else ((v+1)%256,fl (decide ((v+1)%256=0)) false (decide (v%16=15)) (cB f))
def st8 (v f:Int) (down:Bool):Int × Int:=if (inB v 0 255 && inB f 0 255)=true then st8R v f down else (0,0)
theorem or_up (z h c:Bool):bits .or .i64 (bits .or .i64 (chz h 32 0) (chz z 128 0)) (chz c 16 0)=fl z false h c:=by cases z <;> cases h <;> cases c <;> decide
theorem or_down (z h c:Bool):bits .or .i64 (bits .or .i64 (bits .or .i64 64 (chz h 32 0)) (chz z 128 0)) (chz c 16 0)=fl z true h c:=by cases z <;> cases h <;> cases c <;> decide
theorem beq_dec' (x y:Int):(x == y)=decide (x=y):=by rw [Bool.eq_iff_iff];simp
theorem implStepped8_any (v f:Int) (down:Bool) (w:World) :
  Calls prog 246 #[.int .i64 v,.int .i64 f,.bool down] w fun e w'=>e=.returned (.tuple #[.int .i64 (st8 v f down).1,.int .i64 (st8 v f down).2])/\w'=w:=by
 unfold st8
 cases hv:inB v 0 255 <;> cases hf:inB f 0 255
 case true.true =>
  obtain ⟨v0,v1⟩:=of_decide_eq_true hv
  obtain ⟨f0,f1⟩:=of_decide_eq_true hf
  have HA:Hid (bits .and .i64 f 16=chz (cB f) 16 0):=(ands f0 f1).2.2.2
  cases down
  all_goals
   go_enter func246,ntmps246
   go_wp2_with (first|(go_at_call 115;refine (isByte_any _ _).mono ?_;rintro e w' ⟨rfl,rfl⟩)|(go_at_call 248;refine (flagIf_any _ _ _).mono ?_;rintro e w3 ⟨rfl,rfl⟩))
   go_ret2
  ·refine ⟨ret_two rfl ?_,rfl⟩
   rw [HA.out,beq_dec',beq_dec'];exact or_up _ _ _
  ·refine ⟨ret_two rfl ?_,rfl⟩
   rw [HA.out,beq_dec',beq_dec'];exact or_down _ _ _
 all_goals
  go_enter func246,ntmps246
  go_wp2_with (first|(go_at_call 115;refine (isByte_any _ _).mono ?_;rintro e w' ⟨rfl,rfl⟩))
  go_ret2
  exact ⟨rfl,rfl⟩
theorem specStepped8_any (v f:Int) (down:Bool) (w:World) :
  Calls prog 125 #[.int .i64 v,.int .i64 f,.bool down] w fun e w'=>e=.returned (.tuple #[.int .i64 (st8 v f down).1,.int .i64 (st8 v f down).2])/\w'=w:=by
 unfold st8
 cases hv:inB v 0 255 <;> cases hf:inB f 0 255
 case true.true =>
  obtain ⟨v0,v1⟩:=of_decide_eq_true hv
  obtain ⟨f0,f1⟩:=of_decide_eq_true hf
  cases down
  all_goals
   go_enter func125,ntmps125
   go_wp2_with (first|(go_at_call 53;refine (l4Byte_any _ _).mono ?_;rintro e w' ⟨rfl,rfl⟩)|(go_at_call 117;refine (l4Flags_any _ _ _ _ _).mono ?_;rintro e w3 ⟨rfl,rfl⟩)|(go_at_call 118;refine (l4Carry_any _ _ f0 f1).mono ?_;rintro e w3 ⟨rfl,rfl⟩))
   go_ret2
   refine ⟨ret_two rfl (fl_congr ?_ rfl ?_ ?_),rfl⟩
   all_goals first|exact beq_dec' _ _|rfl
 all_goals
  go_enter func125,ntmps125
  go_wp2_with (go_at_call 53;refine (l4Byte_any _ _).mono ?_;rintro e w' ⟨rfl,rfl⟩)
  go_ret2
  exact ⟨rfl,rfl⟩
def awR (a b f:Int):Int × Int:=((a+b)%65536,fl (zB f) false (decide (4095<a%4096+b%4096)) (decide (65535<a+b)))
def aw (a b f:Int):Int × Int:=if (inB a 0 65535 && inB b 0 65535 && inB f 0 255)=true then awR a b f else (0,0)
theorem or_aw (z h c:Bool):bits .or .i64 (bits .or .i64 (chz z 128 0) (chz h 32 0)) (chz c 16 0)=fl z false h c:=by cases z <;> cases h <;> cases c <;> decide
theorem implAddWords_any (a b f:Int) (w:World) :
  Calls prog 247 #[.int .i64 a,.int .i64 b,.int .i64 f] w fun e w'=>e=.returned (.tuple #[.int .i64 (aw a b f).1,.int .i64 (aw a b f).2])/\w'=w:=by
 unfold aw
 cases ha:inB a 0 65535 <;> cases hb:inB b 0 65535 <;> cases hf:inB f 0 255
 case true.true.true =>
  obtain ⟨a0,a1⟩:=of_decide_eq_true ha
  obtain ⟨b0,b1⟩:=of_decide_eq_true hb
  obtain ⟨f0,f1⟩:=of_decide_eq_true hf
  have HA:Hid (bits .and .i64 f 128=chz (zB f) 128 0):=(ands f0 f1).1
  go_enter func247,ntmps247
  go_wp2_with (first|(go_at_call 115;refine (isByte_any _ _).mono ?_;rintro e w' ⟨rfl,rfl⟩)|(go_at_call 112;refine (isWord_any _ _).mono ?_;rintro e w' ⟨rfl,rfl⟩)|(go_at_call 248;refine (flagIf_any _ _ _).mono ?_;rintro e w3 ⟨rfl,rfl⟩))
  go_ret2
  refine ⟨ret_two rfl ?_,rfl⟩
  rw [HA.out];exact or_aw _ _ _
 all_goals
  go_enter func247,ntmps247
  go_wp2_with (first|(go_at_call 115;refine (isByte_any _ _).mono ?_;rintro e w' ⟨rfl,rfl⟩)|(go_at_call 112;refine (isWord_any _ _).mono ?_;rintro e w' ⟨rfl,rfl⟩))
  go_ret2
  exact ⟨rfl,rfl⟩
theorem specAddWords_any (a b f:Int) (w:World) :
  Calls prog 122 #[.int .i64 a,.int .i64 b,.int .i64 f] w fun e w'=>e=.returned (.tuple #[.int .i64 (aw a b f).1,.int .i64 (aw a b f).2])/\w'=w:=by
 unfold aw
 cases ha:inB a 0 65535 <;> cases hb:inB b 0 65535 <;> cases hf:inB f 0 255
 case true.true.true =>
  obtain ⟨a0,a1⟩:=of_decide_eq_true ha
  obtain ⟨b0,b1⟩:=of_decide_eq_true hb
  obtain ⟨f0,f1⟩:=of_decide_eq_true hf
  go_enter func122,ntmps122
  go_wp2_with (first|(go_at_call 53;refine (l4Byte_any _ _).mono ?_;rintro e w' ⟨rfl,rfl⟩)|(go_at_call 54;refine (l4Word_any _ _).mono ?_;rintro e w' ⟨rfl,rfl⟩)|(go_at_call 117;refine (l4Flags_any _ _ _ _ _).mono ?_;rintro e w3 ⟨rfl,rfl⟩))
  go_ret2
  refine ⟨ret_two rfl (fl_congr ?_ rfl rfl rfl),rfl⟩
  unfold zB;rw [Bool.eq_iff_iff];simp;omega
 all_goals
  go_enter func122,ntmps122
  go_wp2_with (first|(go_at_call 53;refine (l4Byte_any _ _).mono ?_;rintro e w' ⟨rfl,rfl⟩)|(go_at_call 54;refine (l4Word_any _ _).mono ?_;rintro e w' ⟨rfl,rfl⟩))
  go_ret2
  exact ⟨rfl,rfl⟩
def asR (sp b:Int):Int × Int:=((sp+sgn b)%65536,fl false false (decide (15<sp%16+b%16)) (decide (255<sp%256+b)))
def asg (sp b:Int):Int × Int:=if (inB sp 0 65535 && inB b 0 255)=true then asR sp b else (0,0)
theorem sgn_bd (b:Int):-128<=sgn b/\sgn b<=127:=by unfold sgn;split <;> (try split) <;> omega
theorem implAddSigned_any (sp b:Int) (w:World) :
  Calls prog 202 #[.int .i64 sp,.int .i64 b] w fun e w'=>e=.returned (.tuple #[.int .i64 (asg sp b).1,.int .i64 (asg sp b).2])/\w'=w:=by
 unfold asg
 obtain ⟨s0,s1⟩:=sgn_bd b
 cases ha:inB sp 0 65535 <;> cases hb:inB b 0 255
 case true.true =>
  obtain ⟨a0,a1⟩:=of_decide_eq_true ha
  obtain ⟨b0,b1⟩:=of_decide_eq_true hb
  go_enter func202,ntmps202
  go_wp2_with (first|(go_at_call 115;refine (isByte_any _ _).mono ?_;rintro e w' ⟨rfl,rfl⟩)|(go_at_call 112;refine (isWord_any _ _).mono ?_;rintro e w' ⟨rfl,rfl⟩)|(go_at_call 248;refine (flagIf_any _ _ _).mono ?_;rintro e w3 ⟨rfl,rfl⟩)|(go_at_call 212;refine (implSigned_any _ _).mono ?_;rintro e w3 ⟨rfl,rfl⟩))
  go_ret2
  refine ⟨ret_two ?_ (or_hc _ _),rfl⟩
  unfold asR;simp;try omega
 all_goals
  go_enter func202,ntmps202
  go_wp2_with (first|(go_at_call 115;refine (isByte_any _ _).mono ?_;rintro e w' ⟨rfl,rfl⟩)|(go_at_call 112;refine (isWord_any _ _).mono ?_;rintro e w' ⟨rfl,rfl⟩))
  go_ret2
  exact ⟨rfl,rfl⟩
theorem specAddSigned_any (sp b:Int) (w:World) :
  Calls prog 128 #[.int .i64 sp,.int .i64 b] w fun e w'=>e=.returned (.tuple #[.int .i64 (asg sp b).1,.int .i64 (asg sp b).2])/\w'=w:=by
 unfold asg
 obtain ⟨s0,s1⟩:=sgn_bd b
 cases ha:inB sp 0 65535 <;> cases hb:inB b 0 255
 case true.true =>
  obtain ⟨a0,a1⟩:=of_decide_eq_true ha
  obtain ⟨b0,b1⟩:=of_decide_eq_true hb
  go_enter func128,ntmps128
  go_wp2_with (first|(go_at_call 53;refine (l4Byte_any _ _).mono ?_;rintro e w' ⟨rfl,rfl⟩)|(go_at_call 54;refine (l4Word_any _ _).mono ?_;rintro e w' ⟨rfl,rfl⟩)|(go_at_call 117;refine (l4Flags_any _ _ _ _ _).mono ?_;rintro e w3 ⟨rfl,rfl⟩)|(go_at_call 106;refine (specSigned_any _ _).mono ?_;rintro e w3 ⟨rfl,rfl⟩))
  go_ret2
  refine ⟨ret_two ?_ rfl,rfl⟩
  unfold asR;simp;try omega
 all_goals
  go_enter func128,ntmps128
  go_wp2_with (first|(go_at_call 53;refine (l4Byte_any _ _).mono ?_;rintro e w' ⟨rfl,rfl⟩)|(go_at_call 54;refine (l4Word_any _ _).mono ?_;rintro e w' ⟨rfl,rfl⟩))
  go_ret2
  exact ⟨rfl,rfl⟩
end ReckM
namespace ReckD
open Signed (inB ret_int ret_bool isByte_any l1In_any)
open Reck ReckS ReckM
def daaK (n h c p q:Bool):Int:=let k:=(if (h || (!n && p))=true then 6 else 0)+(if (c || (!n && q))=true then 96 else 0);if n=true then 256-k else k
def daaP (a:Int) (n h c p q:Bool):Int × Int:=((a+daaK n h c p q)%256,fl (decide ((a+daaK n h c p q)%256=0)) n false (c || (!n && q)))
def daaR (a f:Int):Int × Int:=daaP a (nB f) (hB f) (cB f) (decide (9<a%16)) (decide (153<a))
def daa (a f:Int):Int × Int:=if (inB a 0 255 && inB f 0 255)=true then daaR a f else (0,0)
theorem fl_close {z z' n c:Bool} (e0:z=z'):fl z n false c=fl z' n false c:=by rw [e0]
theorem or_daa2 (z:Bool):bits .or .i64 (bits .or .i64 (chz z 128 0) 0) 0=fl z false false false:=by cases z <;> decide
theorem or_daa3 (z:Bool):bits .or .i64 (bits .or .i64 (chz z 128 0) 0) 16=fl z false false true:=by cases z <;> decide
theorem or_daa4 (z:Bool):bits .or .i64 (bits .or .i64 (chz z 128 0) 64) 0=fl z true false false:=by cases z <;> decide
theorem or_daa5 (z:Bool):bits .or .i64 (bits .or .i64 (chz z 128 0) 64) 16=fl z true false true:=by cases z <;> decide
theorem implDaa_any (a f:Int) (w:World) :
  Calls prog 207 #[.int .i64 a,.int .i64 f] w fun e w'=>e=.returned (.tuple #[.int .i64 (daa a f).1,.int .i64 (daa a f).2])/\w'=w:=by
 unfold daa
 cases ha:inB a 0 255 <;> cases hf:inB f 0 255
 case true.true =>
  obtain ⟨a0,a1⟩:=of_decide_eq_true ha
  obtain ⟨f0,f1⟩:=of_decide_eq_true hf
  show Calls _ _ _ _ fun e w'=>e=.returned (.tuple #[.int .i64 (daaR a f).1,.int .i64 (daaR a f).2])/\w'=w
  obtain ⟨-,e64,e32,e16⟩:=ands f0 f1
  unfold daaR daaP
  have q1:chz true 6 0=6:=rfl
  have q2:chz false 6 0=0:=rfl
  have q3:chz true 96 0=96:=rfl
  have q4:chz false 96 0=0:=rfl
  cases hn:nB f <;> cases hh:hB f <;> cases hc:cB f <;> cases d9:decide (9<a%16) <;> cases d153:decide (153<a) <;> rw [hn] at e64 <;> rw [hh] at e32 <;> rw [hc] at e16
  all_goals
   generalize hk:daaK _ _ _ _ _=k
   simp only [daaK,Bool.not_true,Bool.not_false,Bool.and_true,Bool.and_false,Bool.true_and,Bool.false_and,Bool.or_true,Bool.or_false,Bool.true_or,Bool.false_or,if_true,if_false,Bool.false_eq_true] at hk |-
   have HK:Hid (_=k):=hk
   clear hk hn hh hc
   first|have p9:=of_decide_eq_true d9|have p9:=of_decide_eq_false d9
   first|have p153:=of_decide_eq_true d153|have p153:=of_decide_eq_false d153
   go_enter func207,ntmps207
   go_wp2_with (first|(go_at_call 115;refine (isByte_any _ _).mono ?_;rintro e w' ⟨rfl,rfl⟩)|(go_at_call 248;refine (flagIf_any _ _ _).mono ?_;rintro e w3 ⟨rfl,rfl⟩)|(go_at_call 168;refine (chosen_any _ _ _ _).mono ?_;rintro e w3 ⟨rfl,rfl⟩))
   go_ret2
   try simp only [show chz false 64 0=0 from rfl,show chz true 64 0=64 from rfl,show chz false 16 0=0 from rfl,show chz true 16 0=16 from rfl]
   first|rw [or_daa2,beq_dec]|rw [or_daa3,beq_dec]|rw [or_daa4,beq_dec]|rw [or_daa5,beq_dec]
   have hk:=HK.out
   refine ⟨ret_two (by omega) (fl_close (congrArg (fun x:Int=>decide (x=0)) (by omega))),by first|trivial|rfl⟩
 all_goals
  go_enter func207,ntmps207
  go_wp2_with (go_at_call 115;refine (isByte_any _ _).mono ?_;rintro e w' ⟨rfl,rfl⟩)
  go_ret2
  exact ⟨rfl,rfl⟩
theorem specDaa_any (a f:Int) (w:World) :
  Calls prog 162 #[.int .i64 a,.int .i64 f] w fun e w'=>e=.returned (.tuple #[.int .i64 (daa a f).1,.int .i64 (daa a f).2])/\w'=w:=by
 unfold daa
 cases ha:inB a 0 255 <;> cases hf:inB f 0 255
 case true.true =>
  obtain ⟨a0,a1⟩:=of_decide_eq_true ha
  obtain ⟨f0,f1⟩:=of_decide_eq_true hf
  show Calls _ _ _ _ fun e w'=>e=.returned (.tuple #[.int .i64 (daaR a f).1,.int .i64 (daaR a f).2])/\w'=w
  have cb:=cy_bd f
  unfold daaR daaP
  have q1:chz true 6 0=6:=rfl
  have q2:chz false 6 0=0:=rfl
  have q3:chz true 96 0=96:=rfl
  have q4:chz false 96 0=0:=rfl
  cases hn:nB f <;> cases hh:hB f <;> cases hc:cB f <;> cases d9:decide (9<a%16) <;> cases d153:decide (153<a) <;> simp only [nB,hB,cB,decide_eq_true_eq,decide_eq_false_iff_not] at hn hh hc
  all_goals
   generalize hk:daaK _ _ _ _ _=k
   simp only [daaK,Bool.not_true,Bool.not_false,Bool.and_true,Bool.and_false,Bool.true_and,Bool.false_and,Bool.or_true,Bool.or_false,Bool.true_or,Bool.false_or,if_true,if_false,Bool.false_eq_true] at hk |-
   have HK:Hid (_=k):=hk
   clear hk
   first|have g64:f / 64%2=0:=by omega|have g64:f / 64%2=1:=by omega
   first|have g32:f / 32%2=0:=by omega|have g32:f / 32%2=1:=by omega
   first|have g16:cy f=0:=by omega|have g16:cy f=1:=by omega
   clear hn hh hc cb
   first|have p9:=of_decide_eq_true d9|have p9:=of_decide_eq_false d9
   first|have p153:=of_decide_eq_true d153|have p153:=of_decide_eq_false d153
   go_enter func162,ntmps162
   go_wp2_with (first|(go_at_call 53;refine (l4Byte_any _ _).mono ?_;rintro e w' ⟨rfl,rfl⟩)|(go_at_call 117;refine (l4Flags_any _ _ _ _ _).mono ?_;rintro e w3 ⟨rfl,rfl⟩)|(go_at_call 118;refine (l4Carry_any _ _ f0 f1).mono ?_;rintro e w3 ⟨rfl,rfl⟩))
   go_ret2
   rw [beq_dec]
   have hk:=HK.out
   refine ⟨ret_two (by omega) (fl_close (congrArg (fun x:Int=>decide (x=0)) (by omega))),by first|trivial|rfl⟩
 all_goals
  go_enter func162,ntmps162
  go_wp2_with (go_at_call 53;refine (l4Byte_any _ _).mono ?_;rintro e w' ⟨rfl,rfl⟩)
  go_ret2
  exact ⟨rfl,rfl⟩
end ReckD
namespace Tabs
open Signed (inB l1In_any)
def at8 (l:List ByteArray) (i:Int):ByteArray:=l.getD i.toNat ⟨#[]⟩
theorem cases8 {y:Int} (h0:0<=y) (h1:y<=7):y=0 \/ y=1 \/ y=2 \/ y=3 \/ y=4 \/ y=5 \/ y=6 \/ y=7:=by omega
theorem cases4 {y:Int} (h0:0<=y) (h1:y<=3):y=0 \/ y=1 \/ y=2 \/ y=3:=by omega
theorem ret_str {a b:ByteArray} (h:a=b):Ending.returned (.string a)=.returned (.string b):=by rw [h]
def bitW:List ByteArray:=[⟨#[]⟩,⟨#[98,105,116,32]⟩,⟨#[114,101,115,32]⟩,⟨#[115,101,116,32]⟩]
def decs:List ByteArray:=[⟨#[48]⟩,⟨#[49]⟩,⟨#[50]⟩,⟨#[51]⟩,⟨#[52]⟩,⟨#[53]⟩,⟨#[54]⟩,⟨#[55]⟩]
def regs:List ByteArray:=[⟨#[98]⟩,⟨#[99]⟩,⟨#[100]⟩,⟨#[101]⟩,⟨#[104]⟩,⟨#[108]⟩,⟨#[91,104,108,93]⟩,⟨#[97]⟩]
theorem regs_any (w:World) :
  Calls prog 155 #[] w fun e w'=>e=.returned (.slice (some ⟨w.heap.size,0,none⟩) 8 8)/\w'=w.alloc (.cells #[.string ⟨#[98]⟩,.string ⟨#[99]⟩,.string ⟨#[100]⟩,.string ⟨#[101]⟩,.string ⟨#[104]⟩,.string ⟨#[108]⟩,.string ⟨#[91,104,108,93]⟩,.string ⟨#[97]⟩] 9):=by
 go_enter func155,ntmps155
 go_wp2
 go_ret
 exact ⟨rfl,rfl⟩
theorem pairs_any (w:World) :
  Calls prog 235 #[] w fun e w'=>e=.returned (.slice (some ⟨w.heap.size,0,none⟩) 4 4)/\w'=w.alloc (.cells #[.string ⟨#[98,99]⟩,.string ⟨#[100,101]⟩,.string ⟨#[104,108]⟩,.string ⟨#[115,112]⟩] 9):=by
 go_enter func235,ntmps235
 go_wp2
 go_ret
 exact ⟨rfl,rfl⟩
theorem conds_any (w:World) :
  Calls prog 234 #[] w fun e w'=>e=.returned (.slice (some ⟨w.heap.size,0,none⟩) 4 4)/\w'=w.alloc (.cells #[.string ⟨#[110,122]⟩,.string ⟨#[122]⟩,.string ⟨#[110,99]⟩,.string ⟨#[99]⟩] 9):=by
 go_enter func234,ntmps234
 go_wp2
 go_ret
 exact ⟨rfl,rfl⟩
def alus:List ByteArray:=[⟨#[97,100,100]⟩,⟨#[97,100,99]⟩,⟨#[115,117,98]⟩,⟨#[115,98,99]⟩,⟨#[97,110,100]⟩,⟨#[120,111,114]⟩,⟨#[111,114]⟩,⟨#[99,112]⟩]
theorem alus_any (w:World) :
  Calls prog 157 #[] w fun e w'=>e=.returned (.slice (some ⟨w.heap.size,0,none⟩) 8 8)/\w'=w.alloc (.cells #[.string ⟨#[97,100,100]⟩,.string ⟨#[97,100,99]⟩,.string ⟨#[115,117,98]⟩,.string ⟨#[115,98,99]⟩,.string ⟨#[97,110,100]⟩,.string ⟨#[120,111,114]⟩,.string ⟨#[111,114]⟩,.string ⟨#[99,112]⟩] 9):=by
 go_enter func157,ntmps157
 go_wp2
 go_ret
 exact ⟨rfl,rfl⟩
def turns:List ByteArray:=[⟨#[114,108,99]⟩,⟨#[114,114,99]⟩,⟨#[114,108]⟩,⟨#[114,114]⟩,⟨#[115,108,97]⟩,⟨#[115,114,97]⟩,⟨#[115,119,97,112]⟩,⟨#[115,114,108]⟩]
theorem turns_any (w:World) :
  Calls prog 154 #[] w fun e w'=>e=.returned (.slice (some ⟨w.heap.size,0,none⟩) 8 8)/\w'=w.alloc (.cells #[.string ⟨#[114,108,99]⟩,.string ⟨#[114,114,99]⟩,.string ⟨#[114,108]⟩,.string ⟨#[114,114]⟩,.string ⟨#[115,108,97]⟩,.string ⟨#[115,114,97]⟩,.string ⟨#[115,119,97,112]⟩,.string ⟨#[115,114,108]⟩] 9):=by
 go_enter func154,ntmps154
 go_wp2
 go_ret
 exact ⟨rfl,rfl⟩
theorem regs_get {i:Int} (h0:0<=i) (h1:i<=7):(∀ h,([.string ⟨#[98]⟩,.string ⟨#[99]⟩,.string ⟨#[100]⟩,.string ⟨#[101]⟩,.string ⟨#[104]⟩,.string ⟨#[108]⟩,.string ⟨#[91,104,108,93]⟩,.string ⟨#[97]⟩]:List Value)[i.toNat]'h=.string (at8 regs i))/\(at8 regs i).size<=4:=by
 rcases cases8 h0 h1 with rfl|rfl|rfl|rfl|rfl|rfl|rfl|rfl
 all_goals exact ⟨fun _=>rfl,by decide⟩
theorem alus_get {i:Int} (h0:0<=i) (h1:i<=7):(∀ h,([.string ⟨#[97,100,100]⟩,.string ⟨#[97,100,99]⟩,.string ⟨#[115,117,98]⟩,.string ⟨#[115,98,99]⟩,.string ⟨#[97,110,100]⟩,.string ⟨#[120,111,114]⟩,.string ⟨#[111,114]⟩,.string ⟨#[99,112]⟩]:List Value)[i.toNat]'h=.string (at8 alus i))/\(at8 alus i).size<=4:=by
 rcases cases8 h0 h1 with rfl|rfl|rfl|rfl|rfl|rfl|rfl|rfl
 all_goals exact ⟨fun _=>rfl,by decide⟩
theorem turns_get {i:Int} (h0:0<=i) (h1:i<=7):(∀ h,([.string ⟨#[114,108,99]⟩,.string ⟨#[114,114,99]⟩,.string ⟨#[114,108]⟩,.string ⟨#[114,114]⟩,.string ⟨#[115,108,97]⟩,.string ⟨#[115,114,97]⟩,.string ⟨#[115,119,97,112]⟩,.string ⟨#[115,114,108]⟩]:List Value)[i.toNat]'h=.string (at8 turns i))/\(at8 turns i).size<=4:=by
 rcases cases8 h0 h1 with rfl|rfl|rfl|rfl|rfl|rfl|rfl|rfl
 all_goals exact ⟨fun _=>rfl,by decide⟩
theorem bitW_get {i:Int} (h0:0<=i) (h1:i<=3):(∀ h,([.string ⟨#[]⟩,.string ⟨#[98,105,116,32]⟩,.string ⟨#[114,101,115,32]⟩,.string ⟨#[115,101,116,32]⟩]:List Value)[i.toNat]'h=.string (at8 bitW i))/\(at8 bitW i).size<=4:=by
 rcases cases4 h0 h1 with rfl|rfl|rfl|rfl
 all_goals exact ⟨fun _=>rfl,by decide⟩
set_option maxRecDepth 100000 in
theorem dec_any (y:Int) (w:World) (h0:0<=y) (h1:y<=7) :
  Calls prog 105 #[.int .i64 y] w fun e w'=>e=.returned (.string (at8 decs y))/\w'=w.alloc (.cells #[.int .u8 (48+y)] 5):=by
 have hcv:∀ (u:World) (x:Int),(convert 22 9 (.slice (some ⟨u.heap.size,0,none⟩) 1 1)).run prog (u.alloc (.cells #[.int .u8 x] 5))=.ok (.string (strOfNums [x])) (u.alloc (.cells #[.int .u8 x] 5)):=fun u x =>
  run_convert_bytes_arg _ 22 5 underlying22 underlying5 u.heap.size 0 1 1 [x] rfl (fun i hi=>by
   rw [Nat.zero_add,World.cell?_alloc_new]
   match i,hi with
   | 0,_=>rfl) 9 underlying9
 have hsz:∀ x:Int,(strOfNums [x]).size=1:=fun _=>strOfNums_size _
 rcases cases8 h0 h1 with rfl|rfl|rfl|rfl|rfl|rfl|rfl|rfl
 all_goals
  go_enter func105,ntmps105
  go_wp2
  refine wp_loop_rounds 1 ?_
  rw [rounds_succ]
  go_wp2
  go_ret
  exact ⟨ret_str rfl,rfl⟩
def hex8:List ByteArray:=[⟨#[36,48,48]⟩,⟨#[36,48,56]⟩,⟨#[36,49,48]⟩,⟨#[36,49,56]⟩,⟨#[36,50,48]⟩,⟨#[36,50,56]⟩,⟨#[36,51,48]⟩,⟨#[36,51,56]⟩]
set_option maxRecDepth 100000 in
theorem hex_any (n:Int) (w:World) (h:n=0 \/ n=8 \/ n=16 \/ n=24 \/ n=32 \/ n=40 \/ n=48 \/ n=56) :
  Calls prog 51 #[.int .i64 n,.int .i64 2] w fun e w'=>e=.returned (.string (at8 hex8 (n / 8)))/\w'=w:=by
 have hd:inB 2 1 4=true:=rfl
 rcases h with rfl|rfl|rfl|rfl|rfl|rfl|rfl|rfl
 all_goals
  go_enter func51,ntmps51
  go_wp2_with (go_at_call 42;refine (l1In_any _ _ _ _).mono ?_;rintro e w' ⟨rfl,rfl⟩)
  refine wp_loop_rounds 3 ?_
  rw [rounds_succ]
  go_wp2
  rw [rounds_succ]
  go_wp2
  rw [rounds_succ]
  go_wp2
  go_ret
  exact ⟨ret_str (by kernel_rfl),rfl⟩
end Tabs
namespace Hole
theorem below_drewN {B:Nat} {a b:World} (h:Below B a b) (n:Nat):Below B a (b.drewN n):=⟨h.os,h.tape,h.output,h.size,h.block⟩
theorem slice_3 (s:ByteArray) (k:Nat) (h:k+3<=s.size) (w:World):(Instr.slice 9 (.string s) (some (.int .i64 (k:Int))) (some (.int .i64 ((k:Int)+3))) none).run prog w=.ok (.string (s.extract k (k+3))) w:=by
 have:=run_slice_string (P:=prog) w 9 s .i64 .i64 (k:Int) ((k:Int)+3) underlying9 (by omega) (by omega) (by omega)
 rw [show ((k:Int)+3).toNat=k+3 by omega,Int.toNat_natCast] at this
 exact this
theorem slice_2 (s:ByteArray) (k:Nat) (h:k+2<=s.size) (w:World):(Instr.slice 9 (.string s) (some (.int .i64 (k:Int))) (some (.int .i64 ((k:Int)+2))) none).run prog w=.ok (.string (s.extract k (k+2))) w:=by
 have:=run_slice_string (P:=prog) w 9 s .i64 .i64 (k:Int) ((k:Int)+2) underlying9 (by omega) (by omega) (by omega)
 rw [show ((k:Int)+2).toNat=k+2 by omega,Int.toNat_natCast] at this
 exact this
def Told (e:Ending):Prop:=∃ (i:Int) (h:ByteArray),e=.returned (.tuple #[.int .i64 i,.string h])
theorem hole_any (t:ByteArray) (w:World) (ht:t.size<=1000) :
  Calls prog 104 #[.string t] w fun e w'=>Told e/\Below w.heap.size w w':=by
 go_enter func104,ntmps104
 go_wp2
 have HB:Hid (Below w.heap.size w (w.alloc (.cells #[.string ⟨#[110,49,54]⟩,.string ⟨#[110,56]⟩,.string ⟨#[101,56]⟩] 9))):=zAl _ _
 have c0:(w.alloc (.cells #[.string ⟨#[110,49,54]⟩,.string ⟨#[110,56]⟩,.string ⟨#[101,56]⟩] 9)).cell? ⟨w.heap.size,0,none⟩=some (.string ⟨#[110,49,54]⟩):=World.cell?_alloc_new _ _ _ _
 have c1:(w.alloc (.cells #[.string ⟨#[110,49,54]⟩,.string ⟨#[110,56]⟩,.string ⟨#[101,56]⟩] 9)).cell? ⟨w.heap.size,1,none⟩=some (.string ⟨#[110,56]⟩):=World.cell?_alloc_new _ _ _ _
 have c2:(w.alloc (.cells #[.string ⟨#[110,49,54]⟩,.string ⟨#[110,56]⟩,.string ⟨#[101,56]⟩] 9)).cell? ⟨w.heap.size,2,none⟩=some (.string ⟨#[101,56]⟩):=World.cell?_alloc_new _ _ _ _
 generalize w.alloc (.cells #[.string ⟨#[110,49,54]⟩,.string ⟨#[110,56]⟩,.string ⟨#[101,56]⟩] 9)=W at *
 go_loopw [5] (fun i wr=>∃ n:Nat,(i=.int .i64 0 \/ i=.int .i64 1 \/ i=.int .i64 2 \/ i=.int .i64 3)/\wr=W.drewN n) (fun i _=>3-(intOf i).toNat)
 case atStart=>exact ⟨0,.inl rfl,rfl⟩
 case round =>
  obtain ⟨n,hi,rfl⟩:=hrel
  rcases hi with rfl|rfl|rfl|rfl
  ·go_wp2
   go_loopw [6] (fun i wr=>∃ m n:Nat,m<=t.size/\i=.int .i64 m/\wr=W.drewN n) (fun i _=>t.size-(intOf i).toNat)
   case atStart=>exact ⟨0,n,Nat.zero_le _,rfl,rfl⟩
   case round =>
    obtain ⟨m,n2,hm,rfl,rfl⟩:=hrel
    by_cases hlt:m+3<=t.size
    ·have s1:=slice_3 t m hlt
     have k0:(0:Int)<=(m:Int):=by omega
     have k1:(m:Int)+3<=(t.size:Int):=by omega
     have k2:(m:Int)<=(m:Int)+3:=by omega
     have k4:IntKind.i64.wrap ((m:Int)+3)=(m:Int)+3:=by rw [IntKind.wrap_i64];omega
     have HN:Hid (m+1<=t.size):=by show m+1<=t.size;omega
     go_wp2_with fail
     go_quiet (fail)
     go_wp2_with fail
     ·go_quiet (fail)
      go_wp2
      go_ret2
      exact ⟨⟨_,_,rfl⟩,by repeat' (with_reducible first|exact HB.out|refine below_drewN ?_ _)⟩
     ·go_roundw
      case rel=>exact ⟨m+1,_,HN.out,by go_num,rfl⟩
      case measure=>have:=HN.out;simp [intOf];omega
    ·go_wp2
     go_roundw
     case rel=>exact ⟨_,.inr (.inl rfl),rfl⟩
     case measure=>simp [intOf]
  ·go_wp2
   go_loopw [6] (fun i wr=>∃ m n:Nat,m<=t.size/\i=.int .i64 m/\wr=W.drewN n) (fun i _=>t.size-(intOf i).toNat)
   case atStart=>exact ⟨0,n,Nat.zero_le _,rfl,rfl⟩
   case round =>
    obtain ⟨m,n2,hm,rfl,rfl⟩:=hrel
    by_cases hlt:m+2<=t.size
    ·have s1:=slice_2 t m hlt
     have k0:(0:Int)<=(m:Int):=by omega
     have k1:(m:Int)+2<=(t.size:Int):=by omega
     have k2:(m:Int)<=(m:Int)+2:=by omega
     have k4:IntKind.i64.wrap ((m:Int)+2)=(m:Int)+2:=by rw [IntKind.wrap_i64];omega
     have HN:Hid (m+1<=t.size):=by show m+1<=t.size;omega
     go_wp2_with fail
     go_quiet (fail)
     go_wp2_with fail
     ·go_quiet (fail)
      go_wp2
      go_ret2
      exact ⟨⟨_,_,rfl⟩,by repeat' (with_reducible first|exact HB.out|refine below_drewN ?_ _)⟩
     ·go_roundw
      case rel=>exact ⟨m+1,_,HN.out,by go_num,rfl⟩
      case measure=>have:=HN.out;simp [intOf];omega
    ·go_wp2
     go_roundw
     case rel=>exact ⟨_,.inr (.inr (.inl rfl)),rfl⟩
     case measure=>simp [intOf]
  ·go_wp2
   go_loopw [6] (fun i wr=>∃ m n:Nat,m<=t.size/\i=.int .i64 m/\wr=W.drewN n) (fun i _=>t.size-(intOf i).toNat)
   case atStart=>exact ⟨0,n,Nat.zero_le _,rfl,rfl⟩
   case round =>
    obtain ⟨m,n2,hm,rfl,rfl⟩:=hrel
    by_cases hlt:m+2<=t.size
    ·have s1:=slice_2 t m hlt
     have k0:(0:Int)<=(m:Int):=by omega
     have k1:(m:Int)+2<=(t.size:Int):=by omega
     have k2:(m:Int)<=(m:Int)+2:=by omega
     have k4:IntKind.i64.wrap ((m:Int)+2)=(m:Int)+2:=by rw [IntKind.wrap_i64];omega
     have HN:Hid (m+1<=t.size):=by show m+1<=t.size;omega
     go_wp2_with fail
     go_quiet (fail)
     go_wp2_with fail
     ·go_quiet (fail)
      go_wp2
      go_ret2
      exact ⟨⟨_,_,rfl⟩,by repeat' (with_reducible first|exact HB.out|refine below_drewN ?_ _)⟩
     ·go_roundw
      case rel=>exact ⟨m+1,_,HN.out,by go_num,rfl⟩
      case measure=>have:=HN.out;simp [intOf];omega
    ·go_wp2
     go_roundw
     case rel=>exact ⟨_,.inr (.inr (.inr rfl)),rfl⟩
     case measure=>simp [intOf]
  ·go_wp2
   go_ret2
   exact ⟨⟨_,_,rfl⟩,by repeat' (with_reducible first|exact HB.out|refine below_drewN ?_ _)⟩
end Hole
namespace Shape
open Signed (isByte_any)
open Signed (inB)
def at8 (l:List ByteArray) (i:Int):ByteArray:=l.getD i.toNat ⟨#[]⟩
theorem cases8 {y:Int} (h0:0<=y) (h1:y<=7):y=0 \/ y=1 \/ y=2 \/ y=3 \/ y=4 \/ y=5 \/ y=6 \/ y=7:=by omega
theorem cases2 {q:Int} (h0:0<=q) (h1:q<=1):q=0 \/ q=1:=by omega
theorem ret_str {a b:ByteArray} (h:a=b):Ending.returned (.string a)=.returned (.string b):=by rw [h]
theorem partsOf_any (code:Int) (w:World) (h0:0<=code) (h1:code<=255) :
  Calls prog 94 #[.int .i64 code] w fun e w'=>e=.returned (.agg #[.int .i64 (code / 64),.int .i64 (code / 8%8),.int .i64 (code%8),.int .i64 (code / 8%8 / 2),.int .i64 (code / 8%8%2)])/\Below w.heap.size w w':=by
 go_enter func94,ntmps94
 go_wp2
 refine bodyPost_ret (v:=.agg #[.int .i64 (code / 64),.int .i64 (code / 8%8),.int .i64 (code%8),.int .i64 (code / 8%8 / 2),.int .i64 (code / 8%8%2)]) (by simp [results,results94,go_sem]) rfl ⟨rfl,?_⟩
 exact zAl _ _
def low0:List ByteArray:=[⟨#[110,111,112]⟩,⟨#[108,100,32,91,110,49,54,93,44,115,112]⟩,⟨#[115,116,111,112,32,110,56]⟩,⟨#[106,114,32,101,56]⟩,⟨#[106,114,32,67,44,101,56]⟩,⟨#[106,114,32,67,44,101,56]⟩,⟨#[106,114,32,67,44,101,56]⟩,⟨#[106,114,32,67,44,101,56]⟩]
theorem low0_at {i:Int} (h0:0<=i) (h1:i<=7) (w:World):(Instr.index 190 (.agg #[.string ⟨#[110,111,112]⟩,.string ⟨#[108,100,32,91,110,49,54,93,44,115,112]⟩,.string ⟨#[115,116,111,112,32,110,56]⟩,.string ⟨#[106,114,32,101,56]⟩,.string ⟨#[106,114,32,67,44,101,56]⟩,.string ⟨#[106,114,32,67,44,101,56]⟩,.string ⟨#[106,114,32,67,44,101,56]⟩,.string ⟨#[106,114,32,67,44,101,56]⟩]) (.int .i64 i)).run prog w=.ok (.string (at8 low0 i)) w:=by
 rcases cases8 h0 h1 with rfl|rfl|rfl|rfl|rfl|rfl|rfl|rfl
 all_goals kernel_rfl
def low1:List ByteArray:=[⟨#[108,100,32,80,44,110,49,54]⟩,⟨#[97,100,100,32,104,108,44,80]⟩]
theorem low1_at {i:Int} (h0:0<=i) (h1:i<=1) (w:World):(Instr.index 191 (.agg #[.string ⟨#[108,100,32,80,44,110,49,54]⟩,.string ⟨#[97,100,100,32,104,108,44,80]⟩]) (.int .i64 i)).run prog w=.ok (.string (at8 low1 i)) w:=by
 rcases cases2 h0 h1 with rfl|rfl
 all_goals kernel_rfl
def low2:List ByteArray:=[⟨#[108,100,32,77,44,97]⟩,⟨#[108,100,32,97,44,77]⟩]
theorem low2_at {i:Int} (h0:0<=i) (h1:i<=1) (w:World):(Instr.index 191 (.agg #[.string ⟨#[108,100,32,77,44,97]⟩,.string ⟨#[108,100,32,97,44,77]⟩]) (.int .i64 i)).run prog w=.ok (.string (at8 low2 i)) w:=by
 rcases cases2 h0 h1 with rfl|rfl
 all_goals kernel_rfl
def low3:List ByteArray:=[⟨#[105,110,99,32,80]⟩,⟨#[100,101,99,32,80]⟩]
theorem low3_at {i:Int} (h0:0<=i) (h1:i<=1) (w:World):(Instr.index 191 (.agg #[.string ⟨#[105,110,99,32,80]⟩,.string ⟨#[100,101,99,32,80]⟩]) (.int .i64 i)).run prog w=.ok (.string (at8 low3 i)) w:=by
 rcases cases2 h0 h1 with rfl|rfl
 all_goals kernel_rfl
def low7:List ByteArray:=[⟨#[114,108,99,97]⟩,⟨#[114,114,99,97]⟩,⟨#[114,108,97]⟩,⟨#[114,114,97]⟩,⟨#[100,97,97]⟩,⟨#[99,112,108]⟩,⟨#[115,99,102]⟩,⟨#[99,99,102]⟩]
theorem low7_at {i:Int} (h0:0<=i) (h1:i<=7) (w:World):(Instr.index 190 (.agg #[.string ⟨#[114,108,99,97]⟩,.string ⟨#[114,114,99,97]⟩,.string ⟨#[114,108,97]⟩,.string ⟨#[114,114,97]⟩,.string ⟨#[100,97,97]⟩,.string ⟨#[99,112,108]⟩,.string ⟨#[115,99,102]⟩,.string ⟨#[99,99,102]⟩]) (.int .i64 i)).run prog w=.ok (.string (at8 low7 i)) w:=by
 rcases cases8 h0 h1 with rfl|rfl|rfl|rfl|rfl|rfl|rfl|rfl
 all_goals kernel_rfl
def lowE:List ByteArray:=[⟨#[105,110,99,32,82]⟩,⟨#[100,101,99,32,82]⟩,⟨#[108,100,32,82,44,110,56]⟩]
theorem lowE_0 (w:World):(Instr.index 192 (.agg #[.string ⟨#[105,110,99,32,82]⟩,.string ⟨#[100,101,99,32,82]⟩,.string ⟨#[108,100,32,82,44,110,56]⟩]) (.int .i64 0)).run prog w=.ok (.string (at8 lowE 0)) w:=by kernel_rfl
theorem lowE_1 (w:World):(Instr.index 192 (.agg #[.string ⟨#[105,110,99,32,82]⟩,.string ⟨#[100,101,99,32,82]⟩,.string ⟨#[108,100,32,82,44,110,56]⟩]) (.int .i64 1)).run prog w=.ok (.string (at8 lowE 1)) w:=by kernel_rfl
theorem lowE_2 (w:World):(Instr.index 192 (.agg #[.string ⟨#[105,110,99,32,82]⟩,.string ⟨#[100,101,99,32,82]⟩,.string ⟨#[108,100,32,82,44,110,56]⟩]) (.int .i64 2)).run prog w=.ok (.string (at8 lowE 2)) w:=by kernel_rfl
def lowS (y z:Int):ByteArray:=if z=0 then at8 low0 y else if z=1 then at8 low1 (y%2) else if z=2 then at8 low2 (y%2) else if z=3 then at8 low3 (y%2) else if z=7 then at8 low7 y else at8 lowE (z-4)
theorem lowShape_any (x y z p q:Int) (hq:q=y%2) (w:World) (y0:0<=y) (y1:y<=7) (z0:0<=z) (z1:z<=7) :
  Calls prog 144 #[.agg #[.int .i64 x,.int .i64 y,.int .i64 z,.int .i64 p,.int .i64 q]] w fun e w'=>e=.returned (.string (lowS y z))/\Below w.heap.size w w':=by
 subst hq
 have q0:0<=y%2:=by omega
 have q1:y%2<=1:=by omega
 rcases cases8 z0 z1 with rfl|rfl|rfl|rfl|rfl|rfl|rfl|rfl
 ·have hi:=fun w:World=>low0_at (i:=y) y0 y1 w
  go_enter func144,ntmps144
  go_wp2
  go_ret
  exact ⟨rfl,zAl _ _⟩
 ·have hi:=fun w:World=>low1_at (i:=y%2) q0 q1 w
  go_enter func144,ntmps144
  go_wp2
  go_ret
  exact ⟨rfl,zAl _ _⟩
 ·have hi:=fun w:World=>low2_at (i:=y%2) q0 q1 w
  go_enter func144,ntmps144
  go_wp2
  go_ret
  exact ⟨rfl,zAl _ _⟩
 ·have hi:=fun w:World=>low3_at (i:=y%2) q0 q1 w
  go_enter func144,ntmps144
  go_wp2
  go_ret
  exact ⟨rfl,zAl _ _⟩
 ·have hi:=fun w:World=>lowE_0 w
  go_enter func144,ntmps144
  go_wp2
  go_ret
  exact ⟨rfl,zAl _ _⟩
 ·have hi:=fun w:World=>lowE_1 w
  go_enter func144,ntmps144
  go_wp2
  go_ret
  exact ⟨rfl,zAl _ _⟩
 ·have hi:=fun w:World=>lowE_2 w
  go_enter func144,ntmps144
  go_wp2
  go_ret
  exact ⟨rfl,zAl _ _⟩
 ·have hi:=fun w:World=>low7_at (i:=y) y0 y1 w
  go_enter func144,ntmps144
  go_wp2
  go_ret
  exact ⟨rfl,zAl _ _⟩
def high0:List ByteArray:=[⟨#[114,101,116,32,67]⟩,⟨#[114,101,116,32,67]⟩,⟨#[114,101,116,32,67]⟩,⟨#[114,101,116,32,67]⟩,⟨#[108,100,104,32,91,110,56,93,44,97]⟩,⟨#[97,100,100,32,115,112,44,101,56]⟩,⟨#[108,100,104,32,97,44,91,110,56,93]⟩,⟨#[108,100,32,104,108,44,115,112,43,101,56]⟩]
theorem high0_at {i:Int} (h0:0<=i) (h1:i<=7) (w:World):(Instr.index 190 (.agg #[.string ⟨#[114,101,116,32,67]⟩,.string ⟨#[114,101,116,32,67]⟩,.string ⟨#[114,101,116,32,67]⟩,.string ⟨#[114,101,116,32,67]⟩,.string ⟨#[108,100,104,32,91,110,56,93,44,97]⟩,.string ⟨#[97,100,100,32,115,112,44,101,56]⟩,.string ⟨#[108,100,104,32,97,44,91,110,56,93]⟩,.string ⟨#[108,100,32,104,108,44,115,112,43,101,56]⟩]) (.int .i64 i)).run prog w=.ok (.string (at8 high0 i)) w:=by
 rcases cases8 h0 h1 with rfl|rfl|rfl|rfl|rfl|rfl|rfl|rfl
 all_goals kernel_rfl
def high1:List ByteArray:=[⟨#[112,111,112,32,81]⟩,⟨#[114,101,116]⟩,⟨#[112,111,112,32,81]⟩,⟨#[114,101,116,105]⟩,⟨#[112,111,112,32,81]⟩,⟨#[106,112,32,104,108]⟩,⟨#[112,111,112,32,81]⟩,⟨#[108,100,32,115,112,44,104,108]⟩]
theorem high1_at {i:Int} (h0:0<=i) (h1:i<=7) (w:World):(Instr.index 190 (.agg #[.string ⟨#[112,111,112,32,81]⟩,.string ⟨#[114,101,116]⟩,.string ⟨#[112,111,112,32,81]⟩,.string ⟨#[114,101,116,105]⟩,.string ⟨#[112,111,112,32,81]⟩,.string ⟨#[106,112,32,104,108]⟩,.string ⟨#[112,111,112,32,81]⟩,.string ⟨#[108,100,32,115,112,44,104,108]⟩]) (.int .i64 i)).run prog w=.ok (.string (at8 high1 i)) w:=by
 rcases cases8 h0 h1 with rfl|rfl|rfl|rfl|rfl|rfl|rfl|rfl
 all_goals kernel_rfl
def high2:List ByteArray:=[⟨#[106,112,32,67,44,110,49,54]⟩,⟨#[106,112,32,67,44,110,49,54]⟩,⟨#[106,112,32,67,44,110,49,54]⟩,⟨#[106,112,32,67,44,110,49,54]⟩,⟨#[108,100,104,32,91,99,93,44,97]⟩,⟨#[108,100,32,91,110,49,54,93,44,97]⟩,⟨#[108,100,104,32,97,44,91,99,93]⟩,⟨#[108,100,32,97,44,91,110,49,54,93]⟩]
theorem high2_at {i:Int} (h0:0<=i) (h1:i<=7) (w:World):(Instr.index 190 (.agg #[.string ⟨#[106,112,32,67,44,110,49,54]⟩,.string ⟨#[106,112,32,67,44,110,49,54]⟩,.string ⟨#[106,112,32,67,44,110,49,54]⟩,.string ⟨#[106,112,32,67,44,110,49,54]⟩,.string ⟨#[108,100,104,32,91,99,93,44,97]⟩,.string ⟨#[108,100,32,91,110,49,54,93,44,97]⟩,.string ⟨#[108,100,104,32,97,44,91,99,93]⟩,.string ⟨#[108,100,32,97,44,91,110,49,54,93]⟩]) (.int .i64 i)).run prog w=.ok (.string (at8 high2 i)) w:=by
 rcases cases8 h0 h1 with rfl|rfl|rfl|rfl|rfl|rfl|rfl|rfl
 all_goals kernel_rfl
def high3:List ByteArray:=[⟨#[106,112,32,110,49,54]⟩,⟨#[]⟩,⟨#[]⟩,⟨#[]⟩,⟨#[]⟩,⟨#[]⟩,⟨#[100,105]⟩,⟨#[101,105]⟩]
theorem high3_at {i:Int} (h0:0<=i) (h1:i<=7) (w:World):(Instr.index 190 (.agg #[.string ⟨#[106,112,32,110,49,54]⟩,.string ⟨#[]⟩,.string ⟨#[]⟩,.string ⟨#[]⟩,.string ⟨#[]⟩,.string ⟨#[]⟩,.string ⟨#[100,105]⟩,.string ⟨#[101,105]⟩]) (.int .i64 i)).run prog w=.ok (.string (at8 high3 i)) w:=by
 rcases cases8 h0 h1 with rfl|rfl|rfl|rfl|rfl|rfl|rfl|rfl
 all_goals kernel_rfl
def high4:List ByteArray:=[⟨#[99,97,108,108,32,67,44,110,49,54]⟩,⟨#[99,97,108,108,32,67,44,110,49,54]⟩,⟨#[99,97,108,108,32,67,44,110,49,54]⟩,⟨#[99,97,108,108,32,67,44,110,49,54]⟩,⟨#[]⟩,⟨#[]⟩,⟨#[]⟩,⟨#[]⟩]
theorem high4_at {i:Int} (h0:0<=i) (h1:i<=7) (w:World):(Instr.index 190 (.agg #[.string ⟨#[99,97,108,108,32,67,44,110,49,54]⟩,.string ⟨#[99,97,108,108,32,67,44,110,49,54]⟩,.string ⟨#[99,97,108,108,32,67,44,110,49,54]⟩,.string ⟨#[99,97,108,108,32,67,44,110,49,54]⟩,.string ⟨#[]⟩,.string ⟨#[]⟩,.string ⟨#[]⟩,.string ⟨#[]⟩]) (.int .i64 i)).run prog w=.ok (.string (at8 high4 i)) w:=by
 rcases cases8 h0 h1 with rfl|rfl|rfl|rfl|rfl|rfl|rfl|rfl
 all_goals kernel_rfl
def high5:List ByteArray:=[⟨#[112,117,115,104,32,81]⟩,⟨#[99,97,108,108,32,110,49,54]⟩,⟨#[112,117,115,104,32,81]⟩,⟨#[]⟩,⟨#[112,117,115,104,32,81]⟩,⟨#[]⟩,⟨#[112,117,115,104,32,81]⟩,⟨#[]⟩]
theorem high5_at {i:Int} (h0:0<=i) (h1:i<=7) (w:World):(Instr.index 190 (.agg #[.string ⟨#[112,117,115,104,32,81]⟩,.string ⟨#[99,97,108,108,32,110,49,54]⟩,.string ⟨#[112,117,115,104,32,81]⟩,.string ⟨#[]⟩,.string ⟨#[112,117,115,104,32,81]⟩,.string ⟨#[]⟩,.string ⟨#[112,117,115,104,32,81]⟩,.string ⟨#[]⟩]) (.int .i64 i)).run prog w=.ok (.string (at8 high5 i)) w:=by
 rcases cases8 h0 h1 with rfl|rfl|rfl|rfl|rfl|rfl|rfl|rfl
 all_goals kernel_rfl
def highE:List ByteArray:=[⟨#[65,32,97,44,110,56]⟩,⟨#[114,115,116,32,72]⟩]
theorem highE_0 (w:World):(Instr.index 191 (.agg #[.string ⟨#[65,32,97,44,110,56]⟩,.string ⟨#[114,115,116,32,72]⟩]) (.int .i64 0)).run prog w=.ok (.string (at8 highE 0)) w:=by kernel_rfl
theorem highE_1 (w:World):(Instr.index 191 (.agg #[.string ⟨#[65,32,97,44,110,56]⟩,.string ⟨#[114,115,116,32,72]⟩]) (.int .i64 1)).run prog w=.ok (.string (at8 highE 1)) w:=by kernel_rfl
def highS (y z:Int):ByteArray:=if z=0 then at8 high0 y else if z=1 then at8 high1 y else if z=2 then at8 high2 y else if z=3 then at8 high3 y else if z=4 then at8 high4 y else if z=5 then at8 high5 y else at8 highE (z-6)
theorem highShape_any (x y z p q:Int) (hq:q=y%2) (w:World) (y0:0<=y) (y1:y<=7) (z0:0<=z) (z1:z<=7) :
  Calls prog 145 #[.agg #[.int .i64 x,.int .i64 y,.int .i64 z,.int .i64 p,.int .i64 q]] w fun e w'=>e=.returned (.string (highS y z))/\Below w.heap.size w w':=by
 subst hq
 have q0:0<=y%2:=by omega
 have q1:y%2<=1:=by omega
 rcases cases8 z0 z1 with rfl|rfl|rfl|rfl|rfl|rfl|rfl|rfl
 ·have hi:=fun w:World=>high0_at (i:=y) y0 y1 w
  go_enter func145,ntmps145
  go_wp2
  go_ret
  exact ⟨rfl,zAl _ _⟩
 ·have hi:=fun w:World=>high1_at (i:=y) y0 y1 w
  go_enter func145,ntmps145
  go_wp2
  go_ret
  exact ⟨rfl,zAl _ _⟩
 ·have hi:=fun w:World=>high2_at (i:=y) y0 y1 w
  go_enter func145,ntmps145
  go_wp2
  go_ret
  exact ⟨rfl,zAl _ _⟩
 ·have hi:=fun w:World=>high3_at (i:=y) y0 y1 w
  go_enter func145,ntmps145
  go_wp2
  go_ret
  exact ⟨rfl,zAl _ _⟩
 ·have hi:=fun w:World=>high4_at (i:=y) y0 y1 w
  go_enter func145,ntmps145
  go_wp2
  go_ret
  exact ⟨rfl,zAl _ _⟩
 ·have hi:=fun w:World=>high5_at (i:=y) y0 y1 w
  go_enter func145,ntmps145
  go_wp2
  go_ret
  exact ⟨rfl,zAl _ _⟩
 ·have hi:=fun w:World=>highE_0 w
  go_enter func145,ntmps145
  go_wp2
  go_ret
  exact ⟨rfl,zAl _ _⟩
 ·have hi:=fun w:World=>highE_1 w
  go_enter func145,ntmps145
  go_wp2
  go_ret
  exact ⟨rfl,zAl _ _⟩
def shapeR (code:Int) (cb:Bool):ByteArray :=
 if cb=true then (if code / 64=0 then ⟨#[84,32,83]⟩ else ⟨#[66,32,89,44,83]⟩)
 else if code / 64=0 then lowS (code / 8%8) (code%8) else if code=118 then ⟨#[104,97,108,116]⟩ else if code / 64=1 then ⟨#[108,100,32,82,44,83]⟩ else if code / 64=2 then ⟨#[65,32,97,44,83]⟩ else highS (code / 8%8) (code%8)
def shape (code:Int) (cb:Bool):ByteArray:=if inB code 0 255=true then shapeR code cb else ⟨#[]⟩
theorem shapeR_0 {code:Int} (h:code / 64=0):shapeR code false=lowS (code / 8%8) (code%8):=by unfold shapeR;rw [if_neg (by decide),if_pos h]
theorem shapeR_1 {code:Int} (h:code / 64=1) (hh:¬ code=118):shapeR code false=⟨#[108,100,32,82,44,83]⟩:=by unfold shapeR;rw [if_neg (by decide),if_neg (by omega),if_neg hh,if_pos h]
theorem shapeR_2 {code:Int} (h:code / 64=2) (hh:¬ code=118):shapeR code false=⟨#[65,32,97,44,83]⟩:=by unfold shapeR;rw [if_neg (by decide),if_neg (by omega),if_neg hh,if_neg (by omega),if_pos h]
theorem shapeR_3 {code:Int} (h:code / 64=3) (hh:¬ code=118):shapeR code false=highS (code / 8%8) (code%8):=by unfold shapeR;rw [if_neg (by decide),if_neg (by omega),if_neg hh,if_neg (by omega),if_neg (by omega)]
theorem shapeR_c0 {code:Int} (h:code / 64=0):shapeR code true=⟨#[84,32,83]⟩:=by unfold shapeR;rw [if_pos rfl,if_pos h]
theorem shapeR_c1 {code:Int} (h:¬ code / 64=0):shapeR code true=⟨#[66,32,89,44,83]⟩:=by unfold shapeR;rw [if_pos rfl,if_neg h]
theorem partsOf_x (code x:Int) (hx:code / 64=x) (w:World) (h0:0<=code) (h1:code<=255) :
  Calls prog 94 #[.int .i64 code] w fun e w'=>e=.returned (.agg #[.int .i64 x,.int .i64 (code / 8%8),.int .i64 (code%8),.int .i64 (code / 8%8 / 2),.int .i64 (code / 8%8%2)])/\Below w.heap.size w w':=by
 subst hx;exact partsOf_any code w h0 h1
theorem shapeOf_any (code:Int) (cb:Bool) (w:World) :
  Calls prog 96 #[.int .i64 code,.bool cb] w fun e w'=>e=.returned (.string (shape code cb))/\Below w.heap.size w w':=by
 unfold shape
 cases hb:inB code 0 255
 ·go_enter func96,ntmps96
  go_wp2_with (go_at_call 115;refine (isByte_any _ _).mono ?_;rintro e w' ⟨rfl,rfl⟩)
  go_ret
  exact ⟨rfl,Below.refl _ _⟩
 obtain ⟨h0,h1⟩:=of_decide_eq_true hb
 rw [if_pos rfl]
 have hx:code / 64=0 \/ code / 64=1 \/ code / 64=2 \/ code / 64=3:=by omega
 have y0:0<=code / 8%8:=by omega
 have y1:code / 8%8<=7:=by omega
 have z0:0<=code%8:=by omega
 have z1:code%8<=7:=by omega
 by_cases hh:code=118
 ·subst hh
  cases cb
  all_goals
   go_enter func96,ntmps96
   go_wp2_with (first|(go_at_call 115;refine (isByte_any _ _).mono ?_;rintro e w' ⟨rfl,rfl⟩)|(go_at_call 94;refine (partsOf_any _ _ (by decide) (by decide)).mono ?_;rintro e w1 ⟨rfl,hB1⟩))
   go_ret
   exact ⟨ret_str rfl,hB1.alloc hB1.size _⟩
 have hh':(code == 118)=false:=by simpa using hh
 cases cb
 ·rcases hx with hx|hx|hx|hx
  ·rw [shapeR_0 hx]
   go_enter func96,ntmps96
   go_wp2_with (first|(go_at_call 115;refine (isByte_any _ _).mono ?_;rintro e w' ⟨rfl,rfl⟩)|(go_at_call 94;refine (partsOf_x _ _ hx _ h0 h1).mono ?_;rintro e w1 ⟨rfl,hB1⟩)|(go_at_call 144;refine (lowShape_any _ _ _ _ _ (by omega) _ y0 y1 z0 z1).mono ?_;rintro e w2 ⟨rfl,hB2⟩))
   go_ret
   exact ⟨rfl,(hB1.alloc hB1.size _).trans (hB2.mono (hB1.alloc hB1.size _).size)⟩
  ·rw [shapeR_1 hx hh]
   go_enter func96,ntmps96
   go_wp2_with (first|(go_at_call 115;refine (isByte_any _ _).mono ?_;rintro e w' ⟨rfl,rfl⟩)|(go_at_call 94;refine (partsOf_x _ _ hx _ h0 h1).mono ?_;rintro e w1 ⟨rfl,hB1⟩))
   go_ret
   exact ⟨rfl,hB1.alloc hB1.size _⟩
  ·rw [shapeR_2 hx hh]
   go_enter func96,ntmps96
   go_wp2_with (first|(go_at_call 115;refine (isByte_any _ _).mono ?_;rintro e w' ⟨rfl,rfl⟩)|(go_at_call 94;refine (partsOf_x _ _ hx _ h0 h1).mono ?_;rintro e w1 ⟨rfl,hB1⟩))
   go_ret
   exact ⟨rfl,hB1.alloc hB1.size _⟩
  ·rw [shapeR_3 hx hh]
   go_enter func96,ntmps96
   go_wp2_with (first|(go_at_call 115;refine (isByte_any _ _).mono ?_;rintro e w' ⟨rfl,rfl⟩)|(go_at_call 94;refine (partsOf_x _ _ hx _ h0 h1).mono ?_;rintro e w1 ⟨rfl,hB1⟩)|(go_at_call 145;refine (highShape_any _ _ _ _ _ (by omega) _ y0 y1 z0 z1).mono ?_;rintro e w2 ⟨rfl,hB2⟩))
   go_ret
   exact ⟨rfl,(hB1.alloc hB1.size _).trans (hB2.mono (hB1.alloc hB1.size _).size)⟩
 ·by_cases hx0:code / 64=0
  ·rw [shapeR_c0 hx0]
   go_enter func96,ntmps96
   go_wp2_with (first|(go_at_call 115;refine (isByte_any _ _).mono ?_;rintro e w' ⟨rfl,rfl⟩)|(go_at_call 94;refine (partsOf_x _ _ hx0 _ h0 h1).mono ?_;rintro e w1 ⟨rfl,hB1⟩))
   go_ret
   exact ⟨rfl,hB1.alloc hB1.size _⟩
  ·rw [shapeR_c1 hx0]
   have hx1:(code / 64 == 0)=false:=by simpa using hx0
   go_enter func96,ntmps96
   go_wp2_with (first|(go_at_call 115;refine (isByte_any _ _).mono ?_;rintro e w' ⟨rfl,rfl⟩)|(go_at_call 94;refine (partsOf_any _ _ h0 h1).mono ?_;rintro e w1 ⟨rfl,hB1⟩))
   go_ret
   exact ⟨rfl,hB1.alloc hB1.size _⟩
end Shape
end Go.Proofs.YteglcgnhhoenbaaGreatDoor
