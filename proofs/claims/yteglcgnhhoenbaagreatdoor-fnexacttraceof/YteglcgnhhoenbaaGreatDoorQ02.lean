import Derived.Test.YteglcgnhhoenbaaGreatDoorQ01
set_option linter.all false
set_option maxRecDepth 20000
set_option maxHeartbeats 8000000
open Go.ChangeShapes Go.WideShapes Go.ChangeAt Go.RowKit
open Go.Proofs.Tryz
namespace Go.Proofs.YteglcgnhhoenbaaGreatDoor
namespace CartK
open Signed (inB aG aB aC aE)
open Carts
theorem qG (w:World):Calls prog 113 #[.int .i64 0] w fun e w'=>e=.returned (.iface 175 (.agg #[]))/\w'=w:=gF 0 w
theorem wS (rom:ByteArray) (bank:Int) (ram:ByteArray) (rb:Int) (on:Bool) (mode:Int) (w:World) (hs:rom.size<=maxLen) (hr:ram.size<=maxLen) (b1 b2:Bool) (h1:(decide (bank=1/\rb=0/\mode=0/\on=false))=b1) (h2:lV rom.size=b2) :
  Calls prog 77 #[.agg #[.string rom,.int .i64 0,.int .i64 bank,.string ram,.int .i64 rb,.bool on,.int .i64 mode]] w fun e w'=>e=.returned (.bool (b1 && b2 && ram.size == 256))/\w'=((w.alloc (.cells #[.string rom,.int .i64 0,.int .i64 bank,.string ram,.int .i64 rb,.bool on,.int .i64 mode] 27)).alloc (.cells #[] 175)).alloc (.cells #[.string rom,.int .i64 0,.int .i64 bank,.string ram,.int .i64 rb,.bool on,.int .i64 mode] 27):=by
 have c1:=fun w=>qC rom 0 bank ram rb on mode w
 have c2:=fun w=>nZ rom w hs
 rw [h1] at c1
 rw [h2] at c2
 have m:=m0;have e3:decide ((ram.size:Int)=256)=(ram.size == 256):=by rw [Bool.eq_iff_iff];simp;try omega
 have hr':ram.size<=9223372036854775807:=by unfold maxLen at hr;omega
 clear h1 h2 hr hs
 cases b1 <;> cases b2
 all_goals
  go_enter func77,ntmps77
  go_wp2_with first|(go_at_call 113;refine (qG _).mono ?_;rintro e w' ⟨rfl,rfl⟩)|(go_at_call 319;refine (c1 _).mono ?_;rintro e w' ⟨rfl,rfl⟩)|(go_at_call 114;refine (c2 _).mono ?_;rintro e w' ⟨rfl,rfl⟩)
  all_goals go_ret
  all_goals first|exact ⟨rfl,rfl⟩|exact ⟨aB e3,rfl⟩|exact ⟨aB (by rw [Bool.eq_iff_iff];simp;try omega),rfl⟩
theorem fQ (w:World):Calls prog 113 #[.int .i64 1] w fun e w'=>e=.returned (.iface 176 (.agg #[]))/\w'=w:=gF 1 w
theorem wT (rom:ByteArray) (bank:Int) (ram:ByteArray) (rb:Int) (on:Bool) (mode:Int) (w:World) (hs:rom.size<=maxLen) (hr:ram.size<=maxLen) (b1 b2:Bool) (h1:(inB bank 1 31 && inB rb 0 3 && inB mode 0 1)=b1) (h2:lV rom.size=b2) :
  Calls prog 77 #[.agg #[.string rom,.int .i64 1,.int .i64 bank,.string ram,.int .i64 rb,.bool on,.int .i64 mode]] w fun e w'=>e=.returned (.bool (b1 && b2 && ram.size == 256))/\w'=((w.alloc (.cells #[.string rom,.int .i64 1,.int .i64 bank,.string ram,.int .i64 rb,.bool on,.int .i64 mode] 27)).alloc (.cells #[] 176)).alloc (.cells #[.string rom,.int .i64 1,.int .i64 bank,.string ram,.int .i64 rb,.bool on,.int .i64 mode] 27):=by
 have c1:=fun w=>tO rom 1 bank ram rb on mode w
 have c2:=fun w=>nZ rom w hs
 rw [h1] at c1
 rw [h2] at c2
 have m:=m1;have e3:decide ((ram.size:Int)=256)=(ram.size == 256):=by rw [Bool.eq_iff_iff];simp;try omega
 have hr':ram.size<=9223372036854775807:=by unfold maxLen at hr;omega
 clear h1 h2 hr hs
 cases b1 <;> cases b2
 all_goals
  go_enter func77,ntmps77
  go_wp2_with first|(go_at_call 113;refine (fQ _).mono ?_;rintro e w' ⟨rfl,rfl⟩)|(go_at_call 320;refine (c1 _).mono ?_;rintro e w' ⟨rfl,rfl⟩)|(go_at_call 114;refine (c2 _).mono ?_;rintro e w' ⟨rfl,rfl⟩)
  all_goals go_ret
  all_goals first|exact ⟨rfl,rfl⟩|exact ⟨aB e3,rfl⟩|exact ⟨aB (by rw [Bool.eq_iff_iff];simp;try omega),rfl⟩
theorem fR (w:World):Calls prog 113 #[.int .i64 2] w fun e w'=>e=.returned (.iface 177 (.agg #[]))/\w'=w:=gF 2 w
theorem wU (rom:ByteArray) (bank:Int) (ram:ByteArray) (rb:Int) (on:Bool) (mode:Int) (w:World) (hs:rom.size<=maxLen) (hr:ram.size<=maxLen) (b1 b2:Bool) (h1:(inB bank 0 255 && inB rb 0 3 && mode == 0)=b1) (h2:lV rom.size=b2) :
  Calls prog 77 #[.agg #[.string rom,.int .i64 2,.int .i64 bank,.string ram,.int .i64 rb,.bool on,.int .i64 mode]] w fun e w'=>e=.returned (.bool (b1 && b2 && ram.size == 256))/\w'=((w.alloc (.cells #[.string rom,.int .i64 2,.int .i64 bank,.string ram,.int .i64 rb,.bool on,.int .i64 mode] 27)).alloc (.cells #[] 177)).alloc (.cells #[.string rom,.int .i64 2,.int .i64 bank,.string ram,.int .i64 rb,.bool on,.int .i64 mode] 27):=by
 have c1:=fun w=>rU rom 2 bank ram rb on mode w
 have c2:=fun w=>nZ rom w hs
 rw [h1] at c1
 rw [h2] at c2
 have m:=m2;have e3:decide ((ram.size:Int)=256)=(ram.size == 256):=by rw [Bool.eq_iff_iff];simp;try omega
 have hr':ram.size<=9223372036854775807:=by unfold maxLen at hr;omega
 clear h1 h2 hr hs
 cases b1 <;> cases b2
 all_goals
  go_enter func77,ntmps77
  go_wp2_with first|(go_at_call 113;refine (fR _).mono ?_;rintro e w' ⟨rfl,rfl⟩)|(go_at_call 322;refine (c1 _).mono ?_;rintro e w' ⟨rfl,rfl⟩)|(go_at_call 114;refine (c2 _).mono ?_;rintro e w' ⟨rfl,rfl⟩)
  all_goals go_ret
  all_goals first|exact ⟨rfl,rfl⟩|exact ⟨aB e3,rfl⟩|exact ⟨aB (by rw [Bool.eq_iff_iff];simp;try omega),rfl⟩
theorem aFV (rom:ByteArray) (kind bank:Int) (ram:ByteArray) (rb:Int) (on:Bool) (mode:Int) (w:World) (h0:¬ kind=0) (h1:¬ kind=1) (h2:¬ kind=2) :
  Calls prog 77 #[.agg #[.string rom,.int .i64 kind,.int .i64 bank,.string ram,.int .i64 rb,.bool on,.int .i64 mode]] w fun e w'=>e=.returned (.bool false)/\w'=w.alloc (.cells #[.string rom,.int .i64 kind,.int .i64 bank,.string ram,.int .i64 rb,.bool on,.int .i64 mode] 27):=by
 have c:=fun w=>gF kind w
 have e:aRE kind=.nilIface:=by unfold aRE;simp [h0,h1,h2]
 rw [e] at c
 go_enter func77,ntmps77
 go_wp2_with (go_at_call 113;refine (c _).mono ?_;rintro e w' ⟨rfl,rfl⟩)
 go_ret;exact ⟨rfl,rfl⟩
theorem aJR {n:Nat} (h:lV n=false):eZ n=0:=by
 unfold lV at h;unfold eZ;rw [if_neg (of_decide_eq_false h)]
theorem oC {n:Nat} (h:lV n=true):2<=eZ n/\eZ n<=16/\eZ n=n / 256/\n=256*(n / 256):=by
 unfold lV at h;have h:=u7 h;unfold eZ;rw [if_pos h];omega
theorem aJS (rom:ByteArray) (kind bank:Int) (ram:ByteArray) (rb:Int) (on:Bool) (mode:Int) (w:World) (hs:rom.size<=maxLen) (h:lV rom.size=false) :
  Calls prog 55 #[.agg #[.string rom,.int .i64 kind,.int .i64 bank,.string ram,.int .i64 rb,.bool on,.int .i64 mode]] w fun e w'=>e=.returned (.bool false)/\w'=w.alloc (.cells #[.string rom,.int .i64 kind,.int .i64 bank,.string ram,.int .i64 rb,.bool on,.int .i64 mode] 27):=by
 have c:=fun w=>fY rom w hs
 rw [aJR h] at c
 go_enter func55,ntmps55
 go_wp2_with (go_at_call 107;refine (c _).mono ?_;rintro e w' ⟨rfl,rfl⟩)
 go_ret;exact ⟨rfl,rfl⟩
theorem aJT (rom:ByteArray) (kind bank:Int) (ram:ByteArray) (rb:Int) (on:Bool) (mode:Int) (w:World) (hs:rom.size<=maxLen) (hr:ram.size<=maxLen) (h:lV rom.size=true) (h2:¬ ram.size=256) :
  Calls prog 55 #[.agg #[.string rom,.int .i64 kind,.int .i64 bank,.string ram,.int .i64 rb,.bool on,.int .i64 mode]] w fun e w'=>e=.returned (.bool false)/\w'=w.alloc (.cells #[.string rom,.int .i64 kind,.int .i64 bank,.string ram,.int .i64 rb,.bool on,.int .i64 mode] 27):=by
 have c:=fun w=>fY rom w hs
 obtain ⟨z0,z1,-,-⟩:=oC h;obtain ⟨z,hz⟩ : ∃ z,z=eZ rom.size:=⟨_,rfl⟩
 rw [<- hz] at c z0 z1
 have hr':ram.size<=9223372036854775807:=by unfold maxLen at hr;omega
 have d0:(z == 0)=false:=by simp;omega
 have d1:((ram.size:Int) != 256)=true:=by simp;omega
 clear hz h hs hr
 go_enter func55,ntmps55
 go_wp2_with (go_at_call 107;refine (c _).mono ?_;rintro e w' ⟨rfl,rfl⟩)
 all_goals go_ret
 all_goals exact ⟨rfl,rfl⟩
theorem aRS (rom:ByteArray) (kind bank:Int) (ram:ByteArray) (rb:Int) (on:Bool) (mode:Int) (w:World) (hs:rom.size<=maxLen) (h:lV rom.size=true) (h2:ram.size=256) :
  Calls prog 55 #[.agg #[.string rom,.int .i64 kind,.int .i64 bank,.string ram,.int .i64 rb,.bool on,.int .i64 mode]] w fun e w'=>e=.returned (.bool (kG kind bank rb on mode))/\w'=w.alloc (.cells #[.string rom,.int .i64 kind,.int .i64 bank,.string ram,.int .i64 rb,.bool on,.int .i64 mode] 27):=by
 have c:=fun w=>fY rom w hs
 obtain ⟨z0,z1,-,-⟩:=oC h;obtain ⟨z,hz⟩ : ∃ z,z=eZ rom.size:=⟨_,rfl⟩
 rw [<- hz] at c z0 z1
 have d0:(z == 0)=false:=by simp;omega
 have d1:((ram.size:Int) != 256)=false:=by simp;omega
 clear hz h
 go_enter func55,ntmps55
 go_wp2_with first|(go_at_call 107;refine (c _).mono ?_;rintro e w' ⟨rfl,rfl⟩)|(go_at_call 42;refine (aE _ _ _ _).mono ?_;rintro e w' ⟨rfl,rfl⟩)
 all_goals clear c h2 hs
 all_goals go_ret
 all_goals exact ⟨aB (by rw [Bool.eq_iff_iff];simp_all [kG,inB] <;> omega),by first|rfl|simp_all⟩
theorem jE (rom:ByteArray) (kind bank:Int) (ram:ByteArray) (rb:Int) (on:Bool) (mode:Int) (w:World) (hs:rom.size<=maxLen) (hr:ram.size<=maxLen) :
  Calls prog 55 #[.agg #[.string rom,.int .i64 kind,.int .i64 bank,.string ram,.int .i64 rb,.bool on,.int .i64 mode]] w fun e w'=>e=.returned (.bool (okB rom kind bank ram rb on mode))/\w'=w.alloc (.cells #[.string rom,.int .i64 kind,.int .i64 bank,.string ram,.int .i64 rb,.bool on,.int .i64 mode] 27):=by
 cases h:lV rom.size with
 | false =>
  refine (aJS rom kind bank ram rb on mode w hs h).mono ?_;rintro e w' ⟨rfl,rfl⟩;exact ⟨aB (by simp [okB,h]),rfl⟩
 | true =>
  by_cases h2:ram.size=256
  ·refine (aRS rom kind bank ram rb on mode w hs h h2).mono ?_
   rintro e w' ⟨rfl,rfl⟩;exact ⟨aB (by simp [okB,h,h2]),rfl⟩
  ·refine (aJT rom kind bank ram rb on mode w hs hr h h2).mono ?_
   rintro e w' ⟨rfl,rfl⟩;exact ⟨aB (by simp [okB,h,h2]),rfl⟩
end CartK
namespace ReckS
open Signed (inB aG aB aC aE sgn cR)
open Reck
theorem bFT (z n h c:Bool):fl z n h c=fl false n h c+128*one z:=by cases z <;> cases n <;> cases h <;> cases c <;> decide
theorem mJ {z z' n n' h h' c c':Bool} (e0:z=z') (e1:n=n') (e2:h=h') (e3:c=c'):fl z n h c=fl z' n' h' c':=by subst e0 e1 e2 e3;rfl
theorem lW (x:Int) (n h c:Bool):zd (x,fl false n h c)=(x,fl (decide (x=0)) n h c):=by unfold zd;rw [bFT (decide (x=0))]
theorem aJU (a b f:Int):aS 0 a b f=((a+b)%256,fl (decide ((a+b)%256=0)) false (decide (15<a%16+b%16)) (decide (255<a+b))):=by
 show zd (rV a b 0)=_;unfold rV;rw [lW,Int.add_zero,Int.add_zero]
theorem aJV (a b f:Int):aS 1 a b f=((a+b+cy f)%256,fl (decide ((a+b+cy f)%256=0)) false (decide (15<a%16+b%16+cy f)) (decide (255<a+b+cy f))):=by
 show zd (rV a b (cy f))=_;unfold rV;rw [lW]
theorem tU (a b f:Int):aS 2 a b f=((a-b)%256,fl (decide ((a-b)%256=0)) true (decide (a%16<b%16)) (decide (a-b<0))):=by
 show zd (qD a b 0)=_;unfold qD;rw [lW,Int.add_zero,Int.sub_zero]
theorem aJW (a b f:Int):aS 3 a b f=((a-b-cy f)%256,fl (decide ((a-b-cy f)%256=0)) true (decide (a%16<b%16+cy f)) (decide (a-b-cy f<0))):=by
 show zd (qD a b (cy f))=_;unfold qD;rw [lW]
theorem aJX (a b f:Int):aS 4 a b f=(bits .and .i64 a b,fl (decide (bits .and .i64 a b=0)) false true false):=lW _ false true false
theorem aJY (a b f:Int):aS 5 a b f=(bits .xor .i64 a b,fl (decide (bits .xor .i64 a b=0)) false false false):=lW _ false false false
theorem aJZ (a b f:Int):aS 6 a b f=(bits .or .i64 a b,fl (decide (bits .or .i64 a b=0)) false false false):=lW _ false false false
theorem aKA (a b f:Int):aS 7 a b f=(a,(aS 2 a b f).2):=rfl
theorem wV {a b:Int} (a0:0<=a) (a1:a<=255) (b0:0<=b) (b1:b<=255):bits .xor .i64 a b=((a.toNat ^^^ b.toNat:Nat):Int):=by
 obtain ⟨m,rfl⟩:=Int.eq_ofNat_of_zero_le a0;obtain ⟨n,rfl⟩:=Int.eq_ofNat_of_zero_le b0;show IntKind.i64.wrap ((BitVec.ofInt 64 (m:Int) ^^^ BitVec.ofInt 64 (n:Int)).toNat:Int)=_;have hx:m ^^^ n<2 ^ 8:=Nat.xor_lt_two_pow (by omega) (by omega);rw [BitVec.toNat_xor,BitVec.ofInt_natCast,BitVec.ofInt_natCast,BitVec.toNat_ofNat,BitVec.toNat_ofNat,Nat.mod_eq_of_lt (by omega),Nat.mod_eq_of_lt (by omega),x6];simp only [Int.toNat_natCast];omega
theorem aKB {a b:Int} (a0:0<=a) (a1:a<=255) (b0:0<=b) (b1:b<=255):bits .and .i64 a b=((a.toNat &&& b.toNat:Nat):Int):=by
 obtain ⟨m,rfl⟩:=Int.eq_ofNat_of_zero_le a0;obtain ⟨n,rfl⟩:=Int.eq_ofNat_of_zero_le b0;show IntKind.i64.wrap ((BitVec.ofInt 64 (m:Int) &&& BitVec.ofInt 64 (n:Int)).toNat:Int)=_;have hx:m &&& n<2 ^ 8:=Nat.and_lt_two_pow m (by omega);rw [BitVec.toNat_and,BitVec.ofInt_natCast,BitVec.ofInt_natCast,BitVec.toNat_ofNat,BitVec.toNat_ofNat,Nat.mod_eq_of_lt (by omega),Nat.mod_eq_of_lt (by omega),x6];simp only [Int.toNat_natCast];omega
theorem aRT {a b:Int} (a0:0<=a) (a1:a<=255) (b0:0<=b) (b1:b<=255):bits .or .i64 a b=((a.toNat ||| b.toNat:Nat):Int):=by
 obtain ⟨m,rfl⟩:=Int.eq_ofNat_of_zero_le a0;obtain ⟨n,rfl⟩:=Int.eq_ofNat_of_zero_le b0;show IntKind.i64.wrap ((BitVec.ofInt 64 (m:Int) ||| BitVec.ofInt 64 (n:Int)).toNat:Int)=_;have hx:m ||| n<2 ^ 8:=Nat.or_lt_two_pow (by omega) (by omega)
 rw [BitVec.toNat_or,BitVec.ofInt_natCast,BitVec.ofInt_natCast,BitVec.toNat_ofNat,BitVec.toNat_ofNat,Nat.mod_eq_of_lt (by omega),Nat.mod_eq_of_lt (by omega),x6];simp only [Int.toNat_natCast];omega
theorem aKC {a b:Int} (a0:0<=a) (a1:a<=255) (b0:0<=b) (b1:b<=255):(a == b)=decide (bits .xor .i64 a b=0):=by
 rw [wV a0 a1 b0 b1,Bool.eq_iff_iff]
 simp
 have:a.toNat=b.toNat ↔ a=b:=by omega
 rw [<- this]
 constructor
 ·intro h;rw [h,Nat.xor_self]
 ·intro h
  have:=congrArg (· ^^^ b.toNat) h
  simpa [Nat.xor_assoc] using this
theorem eE (op a b f:Int) (w:World) (o0:0<=op) (o1:op<=7) (a0:0<=a) (a1:a<=255) (b0:0<=b) (b1:b<=255) (f0:0<=f) (f1:f<=255) :
  Calls prog 86 #[.int .i64 op,.int .i64 a,.int .i64 b,.int .i64 f] w fun e w'=>e=.returned (.tuple #[.int .i64 (aS op a b f).1,.int .i64 (aS op a b f).2])/\w'=w:=by
 obtain ⟨c0,c1⟩:=fA f;have hx:=aKC a0 a1 b0 b1;have HX:Hid ((a == b)=decide (bits .xor .i64 a b=0)):=hx;clear hx;have ho:op=0 \/ op=1 \/ op=2 \/ op=3 \/ op=4 \/ op=5 \/ op=6 \/ op=7:=by omega
 rcases ho with rfl|rfl|rfl|rfl|rfl|rfl|rfl|rfl
 all_goals
  go_enter func86,ntmps86
  go_wp2_with (first|(go_at_call 117;refine (cV _ _ _ _ _).mono ?_;rintro e w3 ⟨rfl,rfl⟩)|(go_at_call 118;refine (dE _ _ f0 f1).mono ?_;rintro e w3 ⟨rfl,rfl⟩))
  go_ret2
 all_goals first|rw [aJU]|rw [aJV]|rw [tU]|rw [aJW]|rw [aJX]|rw [aJY]|rw [aJZ]|rw [aKA,tU]
 all_goals refine ⟨bE ?_ (mJ ?_ ?_ ?_ ?_),rfl⟩
 all_goals first
  | rfl
  | omega
  | exact HX.out
  | exact eF _
  | (rw [Bool.eq_iff_iff];simp;done)
  | (rw [Bool.eq_iff_iff];simp;omega)
end ReckS
namespace ReckM
open Signed (inB aG aB aC aE sgn cR fF)
open Reck ReckS
def zB (f:Int):Bool:=decide (f / 128%2=1)
def nB (f:Int):Bool:=decide (f / 64%2=1)
def hB (f:Int):Bool:=decide (f / 32%2=1)
def cB (f:Int):Bool:=decide (cy f=1)
theorem aRU:∀ n:Nat,n<256->bits .and .i64 (n:Int) 128=chz (zB n) 128 0/\bits .and .i64 (n:Int) 64=chz (nB n) 64 0/\bits .and .i64 (n:Int) 32=chz (hB n) 32 0/\bits .and .i64 (n:Int) 16=chz (cB n) 16 0:=by decide +kernel
theorem aZF {f:Int} (f0:0<=f) (f1:f<=255):bits .and .i64 f 128=chz (zB f) 128 0/\bits .and .i64 f 64=chz (nB f) 64 0/\bits .and .i64 f 32=chz (hB f) 32 0/\bits .and .i64 f 16=chz (cB f) 16 0:=by
 obtain ⟨n,rfl⟩:=Int.eq_ofNat_of_zero_le f0;exact aRU n (by omega)
def cP (v f:Int) (down:Bool):Int × Int :=
 if down=true then ((v+255)%256,fl (decide ((v+255)%256=0)) true (decide (v%16=0)) (cB f)) else ((v+1)%256,fl (decide ((v+1)%256=0)) false (decide (v%16=15)) (cB f))
def st8 (v f:Int) (down:Bool):Int × Int:=if (inB v 0 255 && inB f 0 255)=true then cP v f down else (0,0)
theorem bFU (z h c:Bool):bits .or .i64 (bits .or .i64 (chz h 32 0) (chz z 128 0)) (chz c 16 0)=fl z false h c:=by cases z <;> cases h <;> cases c <;> decide
theorem aRV (z h c:Bool):bits .or .i64 (bits .or .i64 (bits .or .i64 64 (chz h 32 0)) (chz z 128 0)) (chz c 16 0)=fl z true h c:=by cases z <;> cases h <;> cases c <;> decide
theorem cG (x y:Int):(x == y)=decide (x=y):=by rw [Bool.eq_iff_iff];simp
theorem oD (v f:Int) (down:Bool) (w:World) :
  Calls prog 246 #[.int .i64 v,.int .i64 f,.bool down] w fun e w'=>e=.returned (.tuple #[.int .i64 (st8 v f down).1,.int .i64 (st8 v f down).2])/\w'=w:=by
 unfold st8
 cases hv:inB v 0 255 <;> cases hf:inB f 0 255
 case true.true =>
  obtain ⟨v0,v1⟩:=u7 hv;obtain ⟨f0,f1⟩:=u7 hf;have HA:Hid (bits .and .i64 f 16=chz (cB f) 16 0):=(aZF f0 f1).2.2.2
  cases down
  all_goals
   go_enter func246,ntmps246
   go_wp2_with (first|(go_at_call 115;refine (aC _ _).mono ?_;rintro e w' ⟨rfl,rfl⟩)|(go_at_call 248;refine (bC _ _ _).mono ?_;rintro e w3 ⟨rfl,rfl⟩))
   go_ret2
  ·refine ⟨bE rfl ?_,rfl⟩
   rw [HA.out,cG,cG];exact bFU _ _ _
  ·refine ⟨bE rfl ?_,rfl⟩
   rw [HA.out,cG,cG];exact aRV _ _ _
 all_goals
  go_enter func246,ntmps246
  go_wp2_with (first|(go_at_call 115;refine (aC _ _).mono ?_;rintro e w' ⟨rfl,rfl⟩))
  go_ret2;exact ⟨rfl,rfl⟩
theorem iS (v f:Int) (down:Bool) (w:World) :
  Calls prog 125 #[.int .i64 v,.int .i64 f,.bool down] w fun e w'=>e=.returned (.tuple #[.int .i64 (st8 v f down).1,.int .i64 (st8 v f down).2])/\w'=w:=by
 unfold st8
 cases hv:inB v 0 255 <;> cases hf:inB f 0 255
 case true.true =>
  obtain ⟨v0,v1⟩:=u7 hv;obtain ⟨f0,f1⟩:=u7 hf
  cases down
  all_goals
   go_enter func125,ntmps125
   go_wp2_with (first|(go_at_call 53;refine (dH _ _).mono ?_;rintro e w' ⟨rfl,rfl⟩)|(go_at_call 117;refine (cV _ _ _ _ _).mono ?_;rintro e w3 ⟨rfl,rfl⟩)|(go_at_call 118;refine (dE _ _ f0 f1).mono ?_;rintro e w3 ⟨rfl,rfl⟩))
   go_ret2;refine ⟨bE rfl (mJ ?_ rfl ?_ ?_),rfl⟩
   all_goals first|exact cG _ _|rfl
 all_goals
  go_enter func125,ntmps125
  go_wp2_with (go_at_call 53;refine (dH _ _).mono ?_;rintro e w' ⟨rfl,rfl⟩)
  go_ret2;exact ⟨rfl,rfl⟩
def awR (a b f:Int):Int × Int:=((a+b)%65536,fl (zB f) false (decide (4095<a%4096+b%4096)) (decide (65535<a+b)))
def aw (a b f:Int):Int × Int:=if (inB a 0 65535 && inB b 0 65535 && inB f 0 255)=true then awR a b f else (0,0)
theorem bFV (z h c:Bool):bits .or .i64 (bits .or .i64 (chz z 128 0) (chz h 32 0)) (chz c 16 0)=fl z false h c:=by cases z <;> cases h <;> cases c <;> decide
theorem oE (a b f:Int) (w:World) :
  Calls prog 247 #[.int .i64 a,.int .i64 b,.int .i64 f] w fun e w'=>e=.returned (.tuple #[.int .i64 (aw a b f).1,.int .i64 (aw a b f).2])/\w'=w:=by
 unfold aw
 cases ha:inB a 0 65535 <;> cases hb:inB b 0 65535 <;> cases hf:inB f 0 255
 case true.true.true =>
  obtain ⟨a0,a1⟩:=u7 ha;obtain ⟨b0,b1⟩:=u7 hb;obtain ⟨f0,f1⟩:=u7 hf;have HA:Hid (bits .and .i64 f 128=chz (zB f) 128 0):=(aZF f0 f1).1
  go_enter func247,ntmps247
  go_wp2_with (first|(go_at_call 115;refine (aC _ _).mono ?_;rintro e w' ⟨rfl,rfl⟩)|(go_at_call 112;refine (bX _ _).mono ?_;rintro e w' ⟨rfl,rfl⟩)|(go_at_call 248;refine (bC _ _ _).mono ?_;rintro e w3 ⟨rfl,rfl⟩))
  go_ret2;refine ⟨bE rfl ?_,rfl⟩;rw [HA.out];exact bFV _ _ _
 all_goals
  go_enter func247,ntmps247
  go_wp2_with (first|(go_at_call 115;refine (aC _ _).mono ?_;rintro e w' ⟨rfl,rfl⟩)|(go_at_call 112;refine (bX _ _).mono ?_;rintro e w' ⟨rfl,rfl⟩))
  go_ret2;exact ⟨rfl,rfl⟩
theorem eO (a b f:Int) (w:World) :
  Calls prog 122 #[.int .i64 a,.int .i64 b,.int .i64 f] w fun e w'=>e=.returned (.tuple #[.int .i64 (aw a b f).1,.int .i64 (aw a b f).2])/\w'=w:=by
 unfold aw
 cases ha:inB a 0 65535 <;> cases hb:inB b 0 65535 <;> cases hf:inB f 0 255
 case true.true.true =>
  obtain ⟨a0,a1⟩:=u7 ha;obtain ⟨b0,b1⟩:=u7 hb;obtain ⟨f0,f1⟩:=u7 hf
  go_enter func122,ntmps122
  go_wp2_with (first|(go_at_call 53;refine (dH _ _).mono ?_;rintro e w' ⟨rfl,rfl⟩)|(go_at_call 54;refine (eV _ _).mono ?_;rintro e w' ⟨rfl,rfl⟩)|(go_at_call 117;refine (cV _ _ _ _ _).mono ?_;rintro e w3 ⟨rfl,rfl⟩))
  go_ret2;refine ⟨bE rfl (mJ ?_ rfl rfl rfl),rfl⟩;unfold zB;rw [Bool.eq_iff_iff];simp;omega
 all_goals
  go_enter func122,ntmps122
  go_wp2_with (first|(go_at_call 53;refine (dH _ _).mono ?_;rintro e w' ⟨rfl,rfl⟩)|(go_at_call 54;refine (eV _ _).mono ?_;rintro e w' ⟨rfl,rfl⟩))
  go_ret2;exact ⟨rfl,rfl⟩
def asR (sp b:Int):Int × Int:=((sp+sgn b)%65536,fl false false (decide (15<sp%16+b%16)) (decide (255<sp%256+b)))
def asg (sp b:Int):Int × Int:=if (inB sp 0 65535 && inB b 0 255)=true then asR sp b else (0,0)
theorem dI (b:Int):-128<=sgn b/\sgn b<=127:=by unfold sgn;split <;> (try split) <;> omega
theorem hZ (sp b:Int) (w:World) :
  Calls prog 202 #[.int .i64 sp,.int .i64 b] w fun e w'=>e=.returned (.tuple #[.int .i64 (asg sp b).1,.int .i64 (asg sp b).2])/\w'=w:=by
 unfold asg;obtain ⟨s0,s1⟩:=dI b
 cases ha:inB sp 0 65535 <;> cases hb:inB b 0 255
 case true.true =>
  obtain ⟨a0,a1⟩:=u7 ha;obtain ⟨b0,b1⟩:=u7 hb
  go_enter func202,ntmps202
  go_wp2_with (first|(go_at_call 115;refine (aC _ _).mono ?_;rintro e w' ⟨rfl,rfl⟩)|(go_at_call 112;refine (bX _ _).mono ?_;rintro e w' ⟨rfl,rfl⟩)|(go_at_call 248;refine (bC _ _ _).mono ?_;rintro e w3 ⟨rfl,rfl⟩)|(go_at_call 212;refine (fF _ _).mono ?_;rintro e w3 ⟨rfl,rfl⟩))
  go_ret2;refine ⟨bE ?_ (aYH _ _),rfl⟩;unfold asR;simp;try omega
 all_goals
  go_enter func202,ntmps202
  go_wp2_with (first|(go_at_call 115;refine (aC _ _).mono ?_;rintro e w' ⟨rfl,rfl⟩)|(go_at_call 112;refine (bX _ _).mono ?_;rintro e w' ⟨rfl,rfl⟩))
  go_ret2;exact ⟨rfl,rfl⟩
theorem iA (sp b:Int) (w:World) :
  Calls prog 128 #[.int .i64 sp,.int .i64 b] w fun e w'=>e=.returned (.tuple #[.int .i64 (asg sp b).1,.int .i64 (asg sp b).2])/\w'=w:=by
 unfold asg;obtain ⟨s0,s1⟩:=dI b
 cases ha:inB sp 0 65535 <;> cases hb:inB b 0 255
 case true.true =>
  obtain ⟨a0,a1⟩:=u7 ha;obtain ⟨b0,b1⟩:=u7 hb
  go_enter func128,ntmps128
  go_wp2_with (first|(go_at_call 53;refine (dH _ _).mono ?_;rintro e w' ⟨rfl,rfl⟩)|(go_at_call 54;refine (eV _ _).mono ?_;rintro e w' ⟨rfl,rfl⟩)|(go_at_call 117;refine (cV _ _ _ _ _).mono ?_;rintro e w3 ⟨rfl,rfl⟩)|(go_at_call 106;refine (cR _ _).mono ?_;rintro e w3 ⟨rfl,rfl⟩))
  go_ret2;refine ⟨bE ?_ rfl,rfl⟩;unfold asR;simp;try omega
 all_goals
  go_enter func128,ntmps128
  go_wp2_with (first|(go_at_call 53;refine (dH _ _).mono ?_;rintro e w' ⟨rfl,rfl⟩)|(go_at_call 54;refine (eV _ _).mono ?_;rintro e w' ⟨rfl,rfl⟩))
  go_ret2;exact ⟨rfl,rfl⟩
end ReckM
namespace ReckD
open Signed (inB aG aB aC aE)
open Reck ReckS ReckM
def aFW (n h c p q:Bool):Int:=let k:=(if (h || (!n && p))=true then 6 else 0)+(if (c || (!n && q))=true then 96 else 0);if n=true then 256-k else k
def aZG (a:Int) (n h c p q:Bool):Int × Int:=((a+aFW n h c p q)%256,fl (decide ((a+aFW n h c p q)%256=0)) n false (c || (!n && q)))
def fJ (a f:Int):Int × Int:=aZG a (nB f) (hB f) (cB f) (decide (9<a%16)) (decide (153<a))
def daa (a f:Int):Int × Int:=if (inB a 0 255 && inB f 0 255)=true then fJ a f else (0,0)
theorem wW {z z' n c:Bool} (e0:z=z'):fl z n false c=fl z' n false c:=by rw [e0]
theorem aRW (z:Bool):bits .or .i64 (bits .or .i64 (chz z 128 0) 0) 0=fl z false false false:=by cases z <;> decide
theorem aRX (z:Bool):bits .or .i64 (bits .or .i64 (chz z 128 0) 0) 16=fl z false false true:=by cases z <;> decide
theorem aRY (z:Bool):bits .or .i64 (bits .or .i64 (chz z 128 0) 64) 0=fl z true false false:=by cases z <;> decide
theorem aRZ (z:Bool):bits .or .i64 (bits .or .i64 (chz z 128 0) 64) 16=fl z true false true:=by cases z <;> decide
theorem wX (a f:Int) (w:World) :
  Calls prog 207 #[.int .i64 a,.int .i64 f] w fun e w'=>e=.returned (.tuple #[.int .i64 (daa a f).1,.int .i64 (daa a f).2])/\w'=w:=by
 unfold daa
 cases ha:inB a 0 255 <;> cases hf:inB f 0 255
 case true.true =>
  obtain ⟨a0,a1⟩:=u7 ha;obtain ⟨f0,f1⟩:=u7 hf;show Calls _ _ _ _ fun e w'=>e=.returned (.tuple #[.int .i64 (fJ a f).1,.int .i64 (fJ a f).2])/\w'=w
  obtain ⟨-,e64,e32,e16⟩:=aZF f0 f1;unfold fJ aZG;have q1:chz true 6 0=6:=rfl;have q2:chz false 6 0=0:=rfl;have q3:chz true 96 0=96:=rfl;have q4:chz false 96 0=0:=rfl
  cases hn:nB f <;> cases hh:hB f <;> cases hc:cB f <;> cases d9:decide (9<a%16) <;> cases d153:decide (153<a) <;> rw [hn] at e64 <;> rw [hh] at e32 <;> rw [hc] at e16
  all_goals
   generalize hk:aFW _ _ _ _ _=k;simp only [aFW,Bool.not_true,Bool.not_false,Bool.and_true,Bool.and_false,Bool.true_and,Bool.false_and,Bool.or_true,Bool.or_false,Bool.true_or,Bool.false_or,if_true,if_false,Bool.false_eq_true] at hk |-
   have HK:Hid (_=k):=hk;clear hk hn hh hc
   first|have p9:=u7 d9|have p9:=of_decide_eq_false d9
   first|have p153:=u7 d153|have p153:=of_decide_eq_false d153
   go_enter func207,ntmps207
   go_wp2_with (first|(go_at_call 115;refine (aC _ _).mono ?_;rintro e w' ⟨rfl,rfl⟩)|(go_at_call 248;refine (bC _ _ _).mono ?_;rintro e w3 ⟨rfl,rfl⟩)|(go_at_call 168;refine (gO _ _ _ _).mono ?_;rintro e w3 ⟨rfl,rfl⟩))
   go_ret2;try simp only [show chz false 64 0=0 from rfl,show chz true 64 0=64 from rfl,show chz false 16 0=0 from rfl,show chz true 16 0=16 from rfl]
   first|rw [aRW,eF]|rw [aRX,eF]|rw [aRY,eF]|rw [aRZ,eF]
   have hk:=HK.out;refine ⟨bE (by omega) (wW (congrArg (fun x:Int=>decide (x=0)) (by omega))),by first|trivial|rfl⟩
 all_goals
  go_enter func207,ntmps207
  go_wp2_with (go_at_call 115;refine (aC _ _).mono ?_;rintro e w' ⟨rfl,rfl⟩)
  go_ret2;exact ⟨rfl,rfl⟩
theorem wY (a f:Int) (w:World) :
  Calls prog 162 #[.int .i64 a,.int .i64 f] w fun e w'=>e=.returned (.tuple #[.int .i64 (daa a f).1,.int .i64 (daa a f).2])/\w'=w:=by
 unfold daa
 cases ha:inB a 0 255 <;> cases hf:inB f 0 255
 case true.true =>
  obtain ⟨a0,a1⟩:=u7 ha;obtain ⟨f0,f1⟩:=u7 hf;show Calls _ _ _ _ fun e w'=>e=.returned (.tuple #[.int .i64 (fJ a f).1,.int .i64 (fJ a f).2])/\w'=w
  have cb:=fA f;unfold fJ aZG;have q1:chz true 6 0=6:=rfl;have q2:chz false 6 0=0:=rfl;have q3:chz true 96 0=96:=rfl;have q4:chz false 96 0=0:=rfl
  cases hn:nB f <;> cases hh:hB f <;> cases hc:cB f <;> cases d9:decide (9<a%16) <;> cases d153:decide (153<a) <;> simp only [nB,hB,cB,decide_eq_true_eq,decide_eq_false_iff_not] at hn hh hc
  all_goals
   generalize hk:aFW _ _ _ _ _=k;simp only [aFW,Bool.not_true,Bool.not_false,Bool.and_true,Bool.and_false,Bool.true_and,Bool.false_and,Bool.or_true,Bool.or_false,Bool.true_or,Bool.false_or,if_true,if_false,Bool.false_eq_true] at hk |-
   have HK:Hid (_=k):=hk;clear hk
   first|have g64:f / 64%2=0:=by omega|have g64:f / 64%2=1:=by omega
   first|have g32:f / 32%2=0:=by omega|have g32:f / 32%2=1:=by omega
   first|have g16:cy f=0:=by omega|have g16:cy f=1:=by omega
   clear hn hh hc cb
   first|have p9:=u7 d9|have p9:=of_decide_eq_false d9
   first|have p153:=u7 d153|have p153:=of_decide_eq_false d153
   go_enter func162,ntmps162
   go_wp2_with (first|(go_at_call 53;refine (dH _ _).mono ?_;rintro e w' ⟨rfl,rfl⟩)|(go_at_call 117;refine (cV _ _ _ _ _).mono ?_;rintro e w3 ⟨rfl,rfl⟩)|(go_at_call 118;refine (dE _ _ f0 f1).mono ?_;rintro e w3 ⟨rfl,rfl⟩))
   go_ret2;rw [eF];have hk:=HK.out;refine ⟨bE (by omega) (wW (congrArg (fun x:Int=>decide (x=0)) (by omega))),by first|trivial|rfl⟩
 all_goals
  go_enter func162,ntmps162
  go_wp2_with (go_at_call 53;refine (dH _ _).mono ?_;rintro e w' ⟨rfl,rfl⟩)
  go_ret2;exact ⟨rfl,rfl⟩
end ReckD
namespace Hole
theorem below_drewN {B:Nat} {a b:World} (h:Below B a b) (n:Nat):Below B a (b.drewN n):=⟨h.os,h.tape,h.output,h.size,h.block⟩
theorem tV (s:ByteArray) (k:Nat) (h:k+3<=s.size) (w:World):(Instr.slice 9 (.string s) (some (.int .i64 (k:Int))) (some (.int .i64 ((k:Int)+3))) none).run prog w=.ok (.string (s.extract k (k+3))) w:=by
 have:=run_slice_string (P:=prog) w 9 s .i64 .i64 (k:Int) ((k:Int)+3) underlying9 (by omega) (by omega) (by omega)
 rw [show ((k:Int)+3).toNat=k+3 by omega,Int.toNat_natCast] at this
 exact this
theorem mK (s:ByteArray) (k:Nat) (h:k+2<=s.size) (w:World):(Instr.slice 9 (.string s) (some (.int .i64 (k:Int))) (some (.int .i64 ((k:Int)+2))) none).run prog w=.ok (.string (s.extract k (k+2))) w:=by
 have:=run_slice_string (P:=prog) w 9 s .i64 .i64 (k:Int) ((k:Int)+2) underlying9 (by omega) (by omega) (by omega)
 rw [show ((k:Int)+2).toNat=k+2 by omega,Int.toNat_natCast] at this
 exact this
def Told (e:Ending):Prop:=∃ (i:Int) (h:ByteArray),e=.returned (.tuple #[.int .i64 i,.string h])
theorem kL (t:ByteArray) (w:World) (ht:t.size<=1000) :
  Calls prog 104 #[.string t] w fun e w'=>Told e/\Below w.heap.size w w':=by
 go_enter func104,ntmps104
 go_wp2;have HB:Hid (Below w.heap.size w (w.alloc (.cells #[.string ⟨#[110,49,54]⟩,.string ⟨#[110,56]⟩,.string ⟨#[101,56]⟩] 9))):=zAl _ _;have c0:(w.alloc (.cells #[.string ⟨#[110,49,54]⟩,.string ⟨#[110,56]⟩,.string ⟨#[101,56]⟩] 9)).cell? ⟨w.heap.size,0,none⟩=some (.string ⟨#[110,49,54]⟩):=World.cell?_alloc_new _ _ _ _;have c1:(w.alloc (.cells #[.string ⟨#[110,49,54]⟩,.string ⟨#[110,56]⟩,.string ⟨#[101,56]⟩] 9)).cell? ⟨w.heap.size,1,none⟩=some (.string ⟨#[110,56]⟩):=World.cell?_alloc_new _ _ _ _;have c2:(w.alloc (.cells #[.string ⟨#[110,49,54]⟩,.string ⟨#[110,56]⟩,.string ⟨#[101,56]⟩] 9)).cell? ⟨w.heap.size,2,none⟩=some (.string ⟨#[101,56]⟩):=World.cell?_alloc_new _ _ _ _;generalize w.alloc (.cells #[.string ⟨#[110,49,54]⟩,.string ⟨#[110,56]⟩,.string ⟨#[101,56]⟩] 9)=W at *
 go_loopw [5] (fun i wr=>∃ n:Nat,(i=.int .i64 0 \/ i=.int .i64 1 \/ i=.int .i64 2 \/ i=.int .i64 3)/\wr=W.drewN n) (fun i _=>3-(intOf i).toNat)
 case atStart=>exact ⟨0,.inl rfl,rfl⟩
 case round =>
  obtain ⟨n,hi,rfl⟩:=hrel;rcases hi with rfl|rfl|rfl|rfl
  ·go_wp2
   go_loopw [6] (fun i wr=>∃ m n:Nat,m<=t.size/\i=.int .i64 m/\wr=W.drewN n) (fun i _=>t.size-(intOf i).toNat)
   case atStart=>exact ⟨0,n,Nat.zero_le _,rfl,rfl⟩
   case round =>
    obtain ⟨m,n2,hm,rfl,rfl⟩:=hrel
    by_cases hlt:m+3<=t.size
    ·have s1:=tV t m hlt
     have k0:(0:Int)<=(m:Int):=by omega
     have k1:(m:Int)+3<=(t.size:Int):=by omega
     have k2:(m:Int)<=(m:Int)+3:=by omega
     have k4:IntKind.i64.wrap ((m:Int)+3)=(m:Int)+3:=by rw [x6];omega
     have HN:Hid (m+1<=t.size):=by show m+1<=t.size;omega
     go_wp2_with fail
     go_quiet (fail)
     go_wp2_with fail
     ·go_quiet (fail)
      go_wp2;go_ret2;exact ⟨⟨_,_,rfl⟩,by repeat' (with_reducible first|exact HB.out|refine below_drewN ?_ _)⟩
     ·go_roundw
      case rel=>exact ⟨m+1,_,HN.out,by go_num,rfl⟩
      case measure=>have:=HN.out;simp [intOf];omega
    ·go_wp2
     go_roundw
     case rel=>exact ⟨_,.inr (.inl rfl),rfl⟩
     case measure=>simp [intOf]
  ·go_wp2
   go_loopw [6] (fun i wr=>∃ m n:Nat,m<=t.size/\i=.int .i64 m/\wr=W.drewN n) (fun i _=>t.size-(intOf i).toNat)
   case atStart=>exact ⟨0,n,Nat.zero_le _,rfl,rfl⟩
   case round =>
    obtain ⟨m,n2,hm,rfl,rfl⟩:=hrel
    by_cases hlt:m+2<=t.size
    ·have s1:=mK t m hlt
     have k0:(0:Int)<=(m:Int):=by omega
     have k1:(m:Int)+2<=(t.size:Int):=by omega
     have k2:(m:Int)<=(m:Int)+2:=by omega
     have k4:IntKind.i64.wrap ((m:Int)+2)=(m:Int)+2:=by rw [x6];omega
     have HN:Hid (m+1<=t.size):=by show m+1<=t.size;omega
     go_wp2_with fail
     go_quiet (fail)
     go_wp2_with fail
     ·go_quiet (fail)
      go_wp2;go_ret2;exact ⟨⟨_,_,rfl⟩,by repeat' (with_reducible first|exact HB.out|refine below_drewN ?_ _)⟩
     ·go_roundw
      case rel=>exact ⟨m+1,_,HN.out,by go_num,rfl⟩
      case measure=>have:=HN.out;simp [intOf];omega
    ·go_wp2
     go_roundw
     case rel=>exact ⟨_,.inr (.inr (.inl rfl)),rfl⟩
     case measure=>simp [intOf]
  ·go_wp2
   go_loopw [6] (fun i wr=>∃ m n:Nat,m<=t.size/\i=.int .i64 m/\wr=W.drewN n) (fun i _=>t.size-(intOf i).toNat)
   case atStart=>exact ⟨0,n,Nat.zero_le _,rfl,rfl⟩
   case round =>
    obtain ⟨m,n2,hm,rfl,rfl⟩:=hrel
    by_cases hlt:m+2<=t.size
    ·have s1:=mK t m hlt
     have k0:(0:Int)<=(m:Int):=by omega
     have k1:(m:Int)+2<=(t.size:Int):=by omega
     have k2:(m:Int)<=(m:Int)+2:=by omega
     have k4:IntKind.i64.wrap ((m:Int)+2)=(m:Int)+2:=by rw [x6];omega
     have HN:Hid (m+1<=t.size):=by show m+1<=t.size;omega
     go_wp2_with fail
     go_quiet (fail)
     go_wp2_with fail
     ·go_quiet (fail)
      go_wp2;go_ret2;exact ⟨⟨_,_,rfl⟩,by repeat' (with_reducible first|exact HB.out|refine below_drewN ?_ _)⟩
     ·go_roundw
      case rel=>exact ⟨m+1,_,HN.out,by go_num,rfl⟩
      case measure=>have:=HN.out;simp [intOf];omega
    ·go_wp2
     go_roundw
     case rel=>exact ⟨_,.inr (.inr (.inr rfl)),rfl⟩
     case measure=>simp [intOf]
  ·go_wp2
   go_ret2;exact ⟨⟨_,_,rfl⟩,by repeat' (with_reducible first|exact HB.out|refine below_drewN ?_ _)⟩
end Hole
namespace Hex
open Nums (tab Tab)
def inB (n low high:Int):Bool:=decide (low<=n/\n<=high)
theorem aB {a b:Bool} (h:a=b):Ending.returned (.bool a)=.returned (.bool b):=by rw [h]
theorem bX (n:Int) (w:World) :
  Calls prog 112 #[.int .i64 n] w fun e w'=>e=.returned (.bool (inB n 0 65535))/\w'=w:=by
 go_enter func112,ntmps112
 go_wp2
 all_goals go_ret
 all_goals exact ⟨aB (by rw [Bool.eq_iff_iff];simp [inB];try omega),rfl⟩
theorem aE (n low high:Int) (w:World) :
  Calls prog 42 #[.int .i64 n,.int .i64 low,.int .i64 high] w fun e w'=>e=.returned (.bool (inB n low high))/\w'=w:=by
 go_enter func42,ntmps42
 go_wp2
 all_goals go_ret
 all_goals exact ⟨aB (by rw [Bool.eq_iff_iff];simp [inB];try omega),rfl⟩
theorem gQ {w:World} (hT:Tab w):0<w.heap.size:=by
 have h:=hT 0 (by decide);rcases Nat.lt_or_ge 0 w.heap.size with a|a
 ·exact a
 ·rw [World.cell?,Array.getElem?_eq_none a] at h;cases h
def eB (n:Int):Nat->List Int
 | 0=>[]
 | k+1=>eB (n / 16) k ++ [tab.getD (n%16).toNat 0]
abbrev bFW:ByteArray:=⟨#[48,49,50,51,52,53,54,55,56,57,65,66,67,68,69,70]⟩
def one (m:Int):ByteArray:=strOfNums [tab.getD m.toNat 0]
theorem cF (m:Int):(one m).size=1:=by unfold one;rw [strOfNums_size];rfl
theorem aFX (u:World):∀ k:Nat,k<16->(Instr.slice 9 (.string bFW) (some (.int .i64 (k:Int))) (some (.int .i64 ((k:Int)+1))) none).run prog u=.ok (.string (one (k:Int))) u
 | 0,_=>by kernel_rfl
 | 1,_=>by kernel_rfl
 | 2,_=>by kernel_rfl
 | 3,_=>by kernel_rfl
 | 4,_=>by kernel_rfl
 | 5,_=>by kernel_rfl
 | 6,_=>by kernel_rfl
 | 7,_=>by kernel_rfl
 | 8,_=>by kernel_rfl
 | 9,_=>by kernel_rfl
 | 10,_=>by kernel_rfl
 | 11,_=>by kernel_rfl
 | 12,_=>by kernel_rfl
 | 13,_=>by kernel_rfl
 | 14,_=>by kernel_rfl
 | 15,_=>by kernel_rfl
 | k+16,h=>absurd h (by omega)
theorem cU (m:Int) (h0:0<=m) (h1:m<16) (u:World):(Instr.slice 9 (.string bFW) (some (.int .i64 m)) (some (.int .i64 (m+1))) none).run prog u=.ok (.string (one m)) u:=by
 obtain ⟨k,rfl⟩:=Int.eq_ofNat_of_zero_le h0;exact aFX u k (by omega)
theorem jF (a b:List Int):strOfNums a ++ strOfNums b=strOfNums (a ++ b):=by
 apply ByteArray.ext
 rw [ByteArray.data_append]
 simp [strOfNums]
theorem kZ:(⟨#[]⟩ : ByteArray)=strOfNums []:=rfl
theorem jG:(⟨#[36]⟩ : ByteArray)=strOfNums [36]:=rfl
def pw (d:Int):Int:=16 ^ d.toNat
def dP (n d:Int):ByteArray:=if 1<=d/\d<=4/\0<=n/\n<=65535/\n / pw d=0 then strOfNums (36 :: eB n d.toNat) else ⟨#[]⟩
theorem eP {n d:Int} (h:¬ (1<=d/\d<=4/\0<=n/\n<=65535/\n / pw d=0)):dP n d=⟨#[]⟩:=if_neg h
theorem eT {n d:Int} (h:1<=d/\d<=4/\0<=n/\n<=65535/\n / pw d=0):dP n d=strOfNums (36 :: eB n d.toNat):=if_pos h
theorem cK {a b:ByteArray} (h:a=b):Ending.returned (.string a)=.returned (.string b):=by rw [h]
set_option maxRecDepth 100000 in
theorem aZH (n:Int) (w:World) (h0:0<=n) (h1:n<=65535) (hT:Tab w) (hq:n / 16=0) :
  Calls prog 98 #[.int .i64 n,.int .i64 1] w fun e w'=>e=.returned (.string (strOfNums (36 :: eB n 1)))/\Below w.heap.size w w':=by
 have hb:(n / 16 != 0)=false:=by simp;omega
 clear hq;have hmk:∀ w,(Instr.makeSlice 22 (.int .i64 2) (.int .i64 2)).run prog w=.ok (.slice (some ⟨w.heap.size,0,none⟩) 2 2) (w.alloc (.cells #[.int .u8 0,.int .u8 0] 5)):=fun _=>by kernel_rfl
 have hi:inB n 0 65535=true:=x9 ⟨h0,h1⟩;have hz:=gQ hT;have t0:=hT (n%16).toNat (by omega);obtain ⟨x0,hx0⟩ : ∃ x,x=tab.getD (n%16).toNat 0:=⟨_,rfl⟩
 rw [<- hx0] at t0
 have HX:Hid (eB n 1=[x0]):=by
  show eB n 1=_;simp only [eB,List.nil_append];rw [<- hx0]
 clear hT hx0;have hcv:∀ u:World,(convert 22 9 (.slice (some ⟨u.heap.size,0,none⟩) 2 2)).run prog (u.alloc (.cells #[.int .u8 36,.int .u8 x0] 5))=.ok (.string (strOfNums [36,x0])) (u.alloc (.cells #[.int .u8 36,.int .u8 x0] 5)):=fun u =>
  run_convert_bytes_arg _ 22 5 underlying22 underlying5 u.heap.size 0 2 2 [36,x0] rfl (fun i hi=>by
   rw [Nat.zero_add,World.cell?_alloc_new]
   match i,hi with
   | 0,_=>rfl
   | 1,_=>rfl) 9 underlying9
 go_enter func98,ntmps98
 go_wp2_with (go_at_call 112;refine (bX _ _).mono ?_;rintro e w' ⟨rfl,rfl⟩)
 refine wp_loop_rounds 2 ?_;rw [rounds_succ];go_wp2;rw [rounds_succ];go_wp2;go_ret;exact ⟨by rw [HX.out];rfl,zAl _ _⟩
set_option maxRecDepth 100000 in
theorem aZI (n:Int) (w:World) (h0:0<=n) (h1:n<=65535) (hT:Tab w) (hq:¬ n / 16=0) :
  Calls prog 98 #[.int .i64 n,.int .i64 1] w fun e w'=>e=.returned (.string (⟨#[]⟩))/\Below w.heap.size w w':=by
 have hb:(n / 16 != 0)=true:=by simp;omega
 clear hq;have hmk:∀ w,(Instr.makeSlice 22 (.int .i64 2) (.int .i64 2)).run prog w=.ok (.slice (some ⟨w.heap.size,0,none⟩) 2 2) (w.alloc (.cells #[.int .u8 0,.int .u8 0] 5)):=fun _=>by kernel_rfl
 have hi:inB n 0 65535=true:=x9 ⟨h0,h1⟩;have hz:=gQ hT;have t0:=hT (n%16).toNat (by omega);obtain ⟨x0,hx0⟩ : ∃ x,x=tab.getD (n%16).toNat 0:=⟨_,rfl⟩
 rw [<- hx0] at t0
 have HX:Hid (eB n 1=[x0]):=by
  show eB n 1=_;simp only [eB,List.nil_append];rw [<- hx0]
 clear hT hx0
 go_enter func98,ntmps98
 go_wp2_with (go_at_call 112;refine (bX _ _).mono ?_;rintro e w' ⟨rfl,rfl⟩)
 refine wp_loop_rounds 2 ?_;rw [rounds_succ];go_wp2;rw [rounds_succ];go_wp2;go_ret;exact ⟨rfl,zAl _ _⟩
set_option maxRecDepth 100000 in
theorem aZJ (n:Int) (w:World) (h0:0<=n) (h1:n<=65535) (hT:Tab w) (hq:n / 16 / 16=0) :
  Calls prog 98 #[.int .i64 n,.int .i64 2] w fun e w'=>e=.returned (.string (strOfNums (36 :: eB n 2)))/\Below w.heap.size w w':=by
 have hb:(n / 16 / 16 != 0)=false:=by simp;omega
 clear hq;have hmk:∀ w,(Instr.makeSlice 22 (.int .i64 3) (.int .i64 3)).run prog w=.ok (.slice (some ⟨w.heap.size,0,none⟩) 3 3) (w.alloc (.cells #[.int .u8 0,.int .u8 0,.int .u8 0] 5)):=fun _=>by kernel_rfl
 have hi:inB n 0 65535=true:=x9 ⟨h0,h1⟩;have hz:=gQ hT;have t0:=hT (n%16).toNat (by omega);have t1:=hT (n / 16%16).toNat (by omega);obtain ⟨x0,hx0⟩ : ∃ x,x=tab.getD (n%16).toNat 0:=⟨_,rfl⟩
 rw [<- hx0] at t0
 obtain ⟨x1,hx1⟩ : ∃ x,x=tab.getD (n / 16%16).toNat 0:=⟨_,rfl⟩
 rw [<- hx1] at t1
 have HX:Hid (eB n 2=[x1,x0]):=by
  show eB n 2=_;simp only [eB,List.nil_append,List.cons_append];rw [<- hx0,<- hx1]
 clear hT hx0 hx1;have hcv:∀ u:World,(convert 22 9 (.slice (some ⟨u.heap.size,0,none⟩) 3 3)).run prog (u.alloc (.cells #[.int .u8 36,.int .u8 x1,.int .u8 x0] 5))=.ok (.string (strOfNums [36,x1,x0])) (u.alloc (.cells #[.int .u8 36,.int .u8 x1,.int .u8 x0] 5)):=fun u =>
  run_convert_bytes_arg _ 22 5 underlying22 underlying5 u.heap.size 0 3 3 [36,x1,x0] rfl (fun i hi=>by
   rw [Nat.zero_add,World.cell?_alloc_new]
   match i,hi with
   | 0,_=>rfl
   | 1,_=>rfl
   | 2,_=>rfl) 9 underlying9
 go_enter func98,ntmps98
 go_wp2_with (go_at_call 112;refine (bX _ _).mono ?_;rintro e w' ⟨rfl,rfl⟩)
 refine wp_loop_rounds 3 ?_;rw [rounds_succ];go_wp2;rw [rounds_succ];go_wp2;rw [rounds_succ];go_wp2;go_ret;exact ⟨by rw [HX.out];rfl,zAl _ _⟩
set_option maxRecDepth 100000 in
theorem aZK (n:Int) (w:World) (h0:0<=n) (h1:n<=65535) (hT:Tab w) (hq:¬ n / 16 / 16=0) :
  Calls prog 98 #[.int .i64 n,.int .i64 2] w fun e w'=>e=.returned (.string (⟨#[]⟩))/\Below w.heap.size w w':=by
 have hb:(n / 16 / 16 != 0)=true:=by simp;omega
 clear hq;have hmk:∀ w,(Instr.makeSlice 22 (.int .i64 3) (.int .i64 3)).run prog w=.ok (.slice (some ⟨w.heap.size,0,none⟩) 3 3) (w.alloc (.cells #[.int .u8 0,.int .u8 0,.int .u8 0] 5)):=fun _=>by kernel_rfl
 have hi:inB n 0 65535=true:=x9 ⟨h0,h1⟩;have hz:=gQ hT;have t0:=hT (n%16).toNat (by omega);have t1:=hT (n / 16%16).toNat (by omega);obtain ⟨x0,hx0⟩ : ∃ x,x=tab.getD (n%16).toNat 0:=⟨_,rfl⟩
 rw [<- hx0] at t0
 obtain ⟨x1,hx1⟩ : ∃ x,x=tab.getD (n / 16%16).toNat 0:=⟨_,rfl⟩
 rw [<- hx1] at t1
 have HX:Hid (eB n 2=[x1,x0]):=by
  show eB n 2=_;simp only [eB,List.nil_append,List.cons_append];rw [<- hx0,<- hx1]
 clear hT hx0 hx1
 go_enter func98,ntmps98
 go_wp2_with (go_at_call 112;refine (bX _ _).mono ?_;rintro e w' ⟨rfl,rfl⟩)
 refine wp_loop_rounds 3 ?_;rw [rounds_succ];go_wp2;rw [rounds_succ];go_wp2;rw [rounds_succ];go_wp2;go_ret;exact ⟨rfl,zAl _ _⟩
set_option maxRecDepth 100000 in
theorem aZL (n:Int) (w:World) (h0:0<=n) (h1:n<=65535) (hT:Tab w) (hq:n / 16 / 16 / 16=0) :
  Calls prog 98 #[.int .i64 n,.int .i64 3] w fun e w'=>e=.returned (.string (strOfNums (36 :: eB n 3)))/\Below w.heap.size w w':=by
 have hb:(n / 16 / 16 / 16 != 0)=false:=by simp;omega
 clear hq;have hmk:∀ w,(Instr.makeSlice 22 (.int .i64 4) (.int .i64 4)).run prog w=.ok (.slice (some ⟨w.heap.size,0,none⟩) 4 4) (w.alloc (.cells #[.int .u8 0,.int .u8 0,.int .u8 0,.int .u8 0] 5)):=fun _=>by kernel_rfl
 have hi:inB n 0 65535=true:=x9 ⟨h0,h1⟩;have hz:=gQ hT;have t0:=hT (n%16).toNat (by omega);have t1:=hT (n / 16%16).toNat (by omega);have t2:=hT (n / 16 / 16%16).toNat (by omega);obtain ⟨x0,hx0⟩ : ∃ x,x=tab.getD (n%16).toNat 0:=⟨_,rfl⟩
 rw [<- hx0] at t0
 obtain ⟨x1,hx1⟩ : ∃ x,x=tab.getD (n / 16%16).toNat 0:=⟨_,rfl⟩
 rw [<- hx1] at t1
 obtain ⟨x2,hx2⟩ : ∃ x,x=tab.getD (n / 16 / 16%16).toNat 0:=⟨_,rfl⟩
 rw [<- hx2] at t2
 have HX:Hid (eB n 3=[x2,x1,x0]):=by
  show eB n 3=_;simp only [eB,List.nil_append,List.cons_append];rw [<- hx0,<- hx1,<- hx2]
 clear hT hx0 hx1 hx2;have hcv:∀ u:World,(convert 22 9 (.slice (some ⟨u.heap.size,0,none⟩) 4 4)).run prog (u.alloc (.cells #[.int .u8 36,.int .u8 x2,.int .u8 x1,.int .u8 x0] 5))=.ok (.string (strOfNums [36,x2,x1,x0])) (u.alloc (.cells #[.int .u8 36,.int .u8 x2,.int .u8 x1,.int .u8 x0] 5)):=fun u =>
  run_convert_bytes_arg _ 22 5 underlying22 underlying5 u.heap.size 0 4 4 [36,x2,x1,x0] rfl (fun i hi=>by
   rw [Nat.zero_add,World.cell?_alloc_new]
   match i,hi with
   | 0,_=>rfl
   | 1,_=>rfl
   | 2,_=>rfl
   | 3,_=>rfl) 9 underlying9
 go_enter func98,ntmps98
 go_wp2_with (go_at_call 112;refine (bX _ _).mono ?_;rintro e w' ⟨rfl,rfl⟩)
 refine wp_loop_rounds 4 ?_;rw [rounds_succ];go_wp2;rw [rounds_succ];go_wp2;rw [rounds_succ];go_wp2;rw [rounds_succ];go_wp2;go_ret;exact ⟨by rw [HX.out];rfl,zAl _ _⟩
set_option maxRecDepth 100000 in
theorem aZM (n:Int) (w:World) (h0:0<=n) (h1:n<=65535) (hT:Tab w) (hq:¬ n / 16 / 16 / 16=0) :
  Calls prog 98 #[.int .i64 n,.int .i64 3] w fun e w'=>e=.returned (.string (⟨#[]⟩))/\Below w.heap.size w w':=by
 have hb:(n / 16 / 16 / 16 != 0)=true:=by simp;omega
 clear hq;have hmk:∀ w,(Instr.makeSlice 22 (.int .i64 4) (.int .i64 4)).run prog w=.ok (.slice (some ⟨w.heap.size,0,none⟩) 4 4) (w.alloc (.cells #[.int .u8 0,.int .u8 0,.int .u8 0,.int .u8 0] 5)):=fun _=>by kernel_rfl
 have hi:inB n 0 65535=true:=x9 ⟨h0,h1⟩;have hz:=gQ hT;have t0:=hT (n%16).toNat (by omega);have t1:=hT (n / 16%16).toNat (by omega);have t2:=hT (n / 16 / 16%16).toNat (by omega);obtain ⟨x0,hx0⟩ : ∃ x,x=tab.getD (n%16).toNat 0:=⟨_,rfl⟩
 rw [<- hx0] at t0
 obtain ⟨x1,hx1⟩ : ∃ x,x=tab.getD (n / 16%16).toNat 0:=⟨_,rfl⟩
 rw [<- hx1] at t1
 obtain ⟨x2,hx2⟩ : ∃ x,x=tab.getD (n / 16 / 16%16).toNat 0:=⟨_,rfl⟩
 rw [<- hx2] at t2
 have HX:Hid (eB n 3=[x2,x1,x0]):=by
  show eB n 3=_;simp only [eB,List.nil_append,List.cons_append];rw [<- hx0,<- hx1,<- hx2]
 clear hT hx0 hx1 hx2
 go_enter func98,ntmps98
 go_wp2_with (go_at_call 112;refine (bX _ _).mono ?_;rintro e w' ⟨rfl,rfl⟩)
 refine wp_loop_rounds 4 ?_;rw [rounds_succ];go_wp2;rw [rounds_succ];go_wp2;rw [rounds_succ];go_wp2;rw [rounds_succ];go_wp2;go_ret;exact ⟨rfl,zAl _ _⟩
set_option maxRecDepth 100000 in
theorem aZN (n:Int) (w:World) (h0:0<=n) (h1:n<=65535) (hT:Tab w) (hq:n / 16 / 16 / 16 / 16=0) :
  Calls prog 98 #[.int .i64 n,.int .i64 4] w fun e w'=>e=.returned (.string (strOfNums (36 :: eB n 4)))/\Below w.heap.size w w':=by
 have hb:(n / 16 / 16 / 16 / 16 != 0)=false:=by simp;omega
 clear hq;have hmk:∀ w,(Instr.makeSlice 22 (.int .i64 5) (.int .i64 5)).run prog w=.ok (.slice (some ⟨w.heap.size,0,none⟩) 5 5) (w.alloc (.cells #[.int .u8 0,.int .u8 0,.int .u8 0,.int .u8 0,.int .u8 0] 5)):=fun _=>by kernel_rfl
 have hi:inB n 0 65535=true:=x9 ⟨h0,h1⟩;have hz:=gQ hT;have t0:=hT (n%16).toNat (by omega);have t1:=hT (n / 16%16).toNat (by omega);have t2:=hT (n / 16 / 16%16).toNat (by omega);have t3:=hT (n / 16 / 16 / 16%16).toNat (by omega);obtain ⟨x0,hx0⟩ : ∃ x,x=tab.getD (n%16).toNat 0:=⟨_,rfl⟩
 rw [<- hx0] at t0
 obtain ⟨x1,hx1⟩ : ∃ x,x=tab.getD (n / 16%16).toNat 0:=⟨_,rfl⟩
 rw [<- hx1] at t1
 obtain ⟨x2,hx2⟩ : ∃ x,x=tab.getD (n / 16 / 16%16).toNat 0:=⟨_,rfl⟩
 rw [<- hx2] at t2
 obtain ⟨x3,hx3⟩ : ∃ x,x=tab.getD (n / 16 / 16 / 16%16).toNat 0:=⟨_,rfl⟩
 rw [<- hx3] at t3
 have HX:Hid (eB n 4=[x3,x2,x1,x0]):=by
  show eB n 4=_;simp only [eB,List.nil_append,List.cons_append];rw [<- hx0,<- hx1,<- hx2,<- hx3]
 clear hT hx0 hx1 hx2 hx3;have hcv:∀ u:World,(convert 22 9 (.slice (some ⟨u.heap.size,0,none⟩) 5 5)).run prog (u.alloc (.cells #[.int .u8 36,.int .u8 x3,.int .u8 x2,.int .u8 x1,.int .u8 x0] 5))=.ok (.string (strOfNums [36,x3,x2,x1,x0])) (u.alloc (.cells #[.int .u8 36,.int .u8 x3,.int .u8 x2,.int .u8 x1,.int .u8 x0] 5)):=fun u =>
  run_convert_bytes_arg _ 22 5 underlying22 underlying5 u.heap.size 0 5 5 [36,x3,x2,x1,x0] rfl (fun i hi=>by
   rw [Nat.zero_add,World.cell?_alloc_new]
   match i,hi with
   | 0,_=>rfl
   | 1,_=>rfl
   | 2,_=>rfl
   | 3,_=>rfl
   | 4,_=>rfl) 9 underlying9
 go_enter func98,ntmps98
 go_wp2_with (go_at_call 112;refine (bX _ _).mono ?_;rintro e w' ⟨rfl,rfl⟩)
 refine wp_loop_rounds 5 ?_;rw [rounds_succ];go_wp2;rw [rounds_succ];go_wp2;rw [rounds_succ];go_wp2;rw [rounds_succ];go_wp2;rw [rounds_succ];go_wp2;go_ret;exact ⟨by rw [HX.out];rfl,zAl _ _⟩
theorem aZO (n:Int) (w:World) (_h0:0<=n) (_h1:n<=65535) (_hT:Tab w) (hq:¬ n / 16 / 16 / 16 / 16=0) :
  Calls prog 98 #[.int .i64 n,.int .i64 4] w fun e w'=>e=.returned (.string (⟨#[]⟩))/\Below w.heap.size w w':=absurd (by omega) hq
set_option maxRecDepth 100000 in
theorem aZP (n:Int) (w:World) (h0:0<=n) (h1:n<=65535) (hq:n / 16=0) :
  Calls prog 51 #[.int .i64 n,.int .i64 1] w fun e w'=>e=.returned (.string (strOfNums (36 :: eB n 1)))/\w'=w:=by
 have hb:¬ 0<n / 16:=by omega
 clear hq;have hi:inB n 0 65535=true:=x9 ⟨h0,h1⟩;have hd:inB 1 1 4=true:=rfl;have s0:=cU (n%16) (by omega) (by omega);have z0:(one (n%16)).size=1:=cF _
 go_enter func51,ntmps51
 go_wp2_with (go_at_call 42;refine (aE _ _ _ _).mono ?_;rintro e w' ⟨rfl,rfl⟩)
 refine wp_loop_rounds 2 ?_;rw [rounds_succ];go_wp2;rw [rounds_succ];go_wp2;go_ret;exact ⟨cK (by rw [kZ,jG];simp only [one,jF,eB,List.nil_append,List.cons_append]),rfl⟩
set_option maxRecDepth 100000 in
theorem aZQ (n:Int) (w:World) (h0:0<=n) (h1:n<=65535) (hq:¬ n / 16=0) :
  Calls prog 51 #[.int .i64 n,.int .i64 1] w fun e w'=>e=.returned (.string (⟨#[]⟩))/\w'=w:=by
 have hb:0<n / 16:=by omega
 clear hq;have hi:inB n 0 65535=true:=x9 ⟨h0,h1⟩;have hd:inB 1 1 4=true:=rfl;have s0:=cU (n%16) (by omega) (by omega);have z0:(one (n%16)).size=1:=cF _
 go_enter func51,ntmps51
 go_wp2_with (go_at_call 42;refine (aE _ _ _ _).mono ?_;rintro e w' ⟨rfl,rfl⟩)
 refine wp_loop_rounds 2 ?_;rw [rounds_succ];go_wp2;rw [rounds_succ];go_wp2;go_ret;exact ⟨rfl,rfl⟩
set_option maxRecDepth 100000 in
theorem aZR (n:Int) (w:World) (h0:0<=n) (h1:n<=65535) (hq:n / 16 / 16=0) :
  Calls prog 51 #[.int .i64 n,.int .i64 2] w fun e w'=>e=.returned (.string (strOfNums (36 :: eB n 2)))/\w'=w:=by
 have hb:¬ 0<n / 16 / 16:=by omega
 clear hq;have hi:inB n 0 65535=true:=x9 ⟨h0,h1⟩;have hd:inB 2 1 4=true:=rfl;have s0:=cU (n%16) (by omega) (by omega);have z0:(one (n%16)).size=1:=cF _;have s1:=cU (n / 16%16) (by omega) (by omega);have z1:(one (n / 16%16)).size=1:=cF _
 go_enter func51,ntmps51
 go_wp2_with (go_at_call 42;refine (aE _ _ _ _).mono ?_;rintro e w' ⟨rfl,rfl⟩)
 refine wp_loop_rounds 3 ?_;rw [rounds_succ];go_wp2;rw [rounds_succ];go_wp2;rw [rounds_succ];go_wp2;go_ret;exact ⟨cK (by rw [kZ,jG];simp only [one,jF,eB,List.nil_append,List.cons_append]),rfl⟩
set_option maxRecDepth 100000 in
theorem aZS (n:Int) (w:World) (h0:0<=n) (h1:n<=65535) (hq:¬ n / 16 / 16=0) :
  Calls prog 51 #[.int .i64 n,.int .i64 2] w fun e w'=>e=.returned (.string (⟨#[]⟩))/\w'=w:=by
 have hb:0<n / 16 / 16:=by omega
 clear hq;have hi:inB n 0 65535=true:=x9 ⟨h0,h1⟩;have hd:inB 2 1 4=true:=rfl;have s0:=cU (n%16) (by omega) (by omega);have z0:(one (n%16)).size=1:=cF _;have s1:=cU (n / 16%16) (by omega) (by omega);have z1:(one (n / 16%16)).size=1:=cF _
 go_enter func51,ntmps51
 go_wp2_with (go_at_call 42;refine (aE _ _ _ _).mono ?_;rintro e w' ⟨rfl,rfl⟩)
 refine wp_loop_rounds 3 ?_;rw [rounds_succ];go_wp2;rw [rounds_succ];go_wp2;rw [rounds_succ];go_wp2;go_ret;exact ⟨rfl,rfl⟩
set_option maxRecDepth 100000 in
theorem aZT (n:Int) (w:World) (h0:0<=n) (h1:n<=65535) (hq:n / 16 / 16 / 16=0) :
  Calls prog 51 #[.int .i64 n,.int .i64 3] w fun e w'=>e=.returned (.string (strOfNums (36 :: eB n 3)))/\w'=w:=by
 have hb:¬ 0<n / 16 / 16 / 16:=by omega
 clear hq;have hi:inB n 0 65535=true:=x9 ⟨h0,h1⟩;have hd:inB 3 1 4=true:=rfl;have s0:=cU (n%16) (by omega) (by omega);have z0:(one (n%16)).size=1:=cF _;have s1:=cU (n / 16%16) (by omega) (by omega);have z1:(one (n / 16%16)).size=1:=cF _;have s2:=cU (n / 16 / 16%16) (by omega) (by omega);have z2:(one (n / 16 / 16%16)).size=1:=cF _
 go_enter func51,ntmps51
 go_wp2_with (go_at_call 42;refine (aE _ _ _ _).mono ?_;rintro e w' ⟨rfl,rfl⟩)
 refine wp_loop_rounds 4 ?_;rw [rounds_succ];go_wp2;rw [rounds_succ];go_wp2;rw [rounds_succ];go_wp2;rw [rounds_succ];go_wp2;go_ret;exact ⟨cK (by rw [kZ,jG];simp only [one,jF,eB,List.nil_append,List.cons_append]),rfl⟩
set_option maxRecDepth 100000 in
theorem aZU (n:Int) (w:World) (h0:0<=n) (h1:n<=65535) (hq:¬ n / 16 / 16 / 16=0) :
  Calls prog 51 #[.int .i64 n,.int .i64 3] w fun e w'=>e=.returned (.string (⟨#[]⟩))/\w'=w:=by
 have hb:0<n / 16 / 16 / 16:=by omega
 clear hq;have hi:inB n 0 65535=true:=x9 ⟨h0,h1⟩;have hd:inB 3 1 4=true:=rfl;have s0:=cU (n%16) (by omega) (by omega);have z0:(one (n%16)).size=1:=cF _;have s1:=cU (n / 16%16) (by omega) (by omega);have z1:(one (n / 16%16)).size=1:=cF _;have s2:=cU (n / 16 / 16%16) (by omega) (by omega);have z2:(one (n / 16 / 16%16)).size=1:=cF _
 go_enter func51,ntmps51
 go_wp2_with (go_at_call 42;refine (aE _ _ _ _).mono ?_;rintro e w' ⟨rfl,rfl⟩)
 refine wp_loop_rounds 4 ?_;rw [rounds_succ];go_wp2;rw [rounds_succ];go_wp2;rw [rounds_succ];go_wp2;rw [rounds_succ];go_wp2;go_ret;exact ⟨rfl,rfl⟩
set_option maxRecDepth 100000 in
theorem aZV (n:Int) (w:World) (h0:0<=n) (h1:n<=65535) (hq:n / 16 / 16 / 16 / 16=0) :
  Calls prog 51 #[.int .i64 n,.int .i64 4] w fun e w'=>e=.returned (.string (strOfNums (36 :: eB n 4)))/\w'=w:=by
 have hb:¬ 0<n / 16 / 16 / 16 / 16:=by omega
 clear hq;have hi:inB n 0 65535=true:=x9 ⟨h0,h1⟩;have hd:inB 4 1 4=true:=rfl;have s0:=cU (n%16) (by omega) (by omega);have z0:(one (n%16)).size=1:=cF _;have s1:=cU (n / 16%16) (by omega) (by omega);have z1:(one (n / 16%16)).size=1:=cF _;have s2:=cU (n / 16 / 16%16) (by omega) (by omega);have z2:(one (n / 16 / 16%16)).size=1:=cF _;have s3:=cU (n / 16 / 16 / 16%16) (by omega) (by omega);have z3:(one (n / 16 / 16 / 16%16)).size=1:=cF _
 go_enter func51,ntmps51
 go_wp2_with (go_at_call 42;refine (aE _ _ _ _).mono ?_;rintro e w' ⟨rfl,rfl⟩)
 refine wp_loop_rounds 5 ?_;rw [rounds_succ];go_wp2;rw [rounds_succ];go_wp2;rw [rounds_succ];go_wp2;rw [rounds_succ];go_wp2;rw [rounds_succ];go_wp2;go_ret;exact ⟨cK (by rw [kZ,jG];simp only [one,jF,eB,List.nil_append,List.cons_append]),rfl⟩
theorem aZW (n:Int) (w:World) (_h0:0<=n) (_h1:n<=65535) (hq:¬ n / 16 / 16 / 16 / 16=0) :
  Calls prog 51 #[.int .i64 n,.int .i64 4] w fun e w'=>e=.returned (.string (⟨#[]⟩))/\w'=w:=absurd (by omega) hq
theorem fZ (n d:Int) (w:World) (hT:Tab w) :
  Calls prog 98 #[.int .i64 n,.int .i64 d] w fun e w'=>e=.returned (.string (dP n d))/\Below w.heap.size w w':=by
 by_cases hd:d<1
 ·rw [eP (by omega)]
  clear hT
  go_enter func98,ntmps98
  go_wp2;go_ret;exact ⟨rfl,Below.refl _ _⟩
 by_cases hd':4<d
 ·rw [eP (by omega)]
  clear hT
  go_enter func98,ntmps98
  go_wp2;go_ret;exact ⟨rfl,Below.refl _ _⟩
 by_cases hn:0<=n/\n<=65535
 ·obtain ⟨h0,h1⟩:=hn
  have hdd:d=1 \/ d=2 \/ d=3 \/ d=4:=by omega
  rcases hdd with rfl|rfl|rfl|rfl
  ·have e:n / pw 1=n / 16:=by unfold pw;show n / (16 ^ 1)=_;omega
   by_cases hq:n / 16=0
   ·rw [eT ⟨by decide,by decide,h0,h1,by omega⟩]
    exact aZH n w h0 h1 hT hq
   ·rw [eP (fun h=>hq (by omega))]
    exact aZI n w h0 h1 hT hq
  ·have e:n / pw 2=n / 16 / 16:=by unfold pw;show n / (16 ^ 2)=_;omega
   by_cases hq:n / 16 / 16=0
   ·rw [eT ⟨by decide,by decide,h0,h1,by omega⟩]
    exact aZJ n w h0 h1 hT hq
   ·rw [eP (fun h=>hq (by omega))]
    exact aZK n w h0 h1 hT hq
  ·have e:n / pw 3=n / 16 / 16 / 16:=by unfold pw;show n / (16 ^ 3)=_;omega
   by_cases hq:n / 16 / 16 / 16=0
   ·rw [eT ⟨by decide,by decide,h0,h1,by omega⟩]
    exact aZL n w h0 h1 hT hq
   ·rw [eP (fun h=>hq (by omega))]
    exact aZM n w h0 h1 hT hq
  ·have e:n / pw 4=n / 16 / 16 / 16 / 16:=by unfold pw;show n / (16 ^ 4)=_;omega
   by_cases hq:n / 16 / 16 / 16 / 16=0
   ·rw [eT ⟨by decide,by decide,h0,h1,by omega⟩]
    exact aZN n w h0 h1 hT hq
   ·rw [eP (fun h=>hq (by omega))]
    exact aZO n w h0 h1 hT hq
 ·rw [eP (by omega)]
  have hi:inB n 0 65535=false:=u6 hn;clear hn hT
  go_enter func98,ntmps98
  go_wp2_with (go_at_call 112;refine (bX _ _).mono ?_;rintro e w' ⟨rfl,rfl⟩)
  go_ret;exact ⟨rfl,Below.refl _ _⟩
theorem iB (n d:Int) (w:World) :
  Calls prog 51 #[.int .i64 n,.int .i64 d] w fun e w'=>e=.returned (.string (dP n d))/\w'=w:=by
 by_cases hd:¬ (1<=d/\d<=4)
 ·rw [eP (by omega)]
  have hi:inB d 1 4=false:=u6 hd;clear hd
  go_enter func51,ntmps51
  go_wp2_with (go_at_call 42;refine (aE _ _ _ _).mono ?_;rintro e w' ⟨rfl,rfl⟩)
  go_ret;exact ⟨rfl,rfl⟩
 by_cases hn:0<=n/\n<=65535
 ·obtain ⟨h0,h1⟩:=hn
  have hdd:d=1 \/ d=2 \/ d=3 \/ d=4:=by omega
  rcases hdd with rfl|rfl|rfl|rfl
  ·have e:n / pw 1=n / 16:=by unfold pw;show n / (16 ^ 1)=_;omega
   by_cases hq:n / 16=0
   ·rw [eT ⟨by decide,by decide,h0,h1,by omega⟩]
    exact aZP n w h0 h1 hq
   ·rw [eP (fun h=>hq (by omega))]
    exact aZQ n w h0 h1 hq
  ·have e:n / pw 2=n / 16 / 16:=by unfold pw;show n / (16 ^ 2)=_;omega
   by_cases hq:n / 16 / 16=0
   ·rw [eT ⟨by decide,by decide,h0,h1,by omega⟩]
    exact aZR n w h0 h1 hq
   ·rw [eP (fun h=>hq (by omega))]
    exact aZS n w h0 h1 hq
  ·have e:n / pw 3=n / 16 / 16 / 16:=by unfold pw;show n / (16 ^ 3)=_;omega
   by_cases hq:n / 16 / 16 / 16=0
   ·rw [eT ⟨by decide,by decide,h0,h1,by omega⟩]
    exact aZT n w h0 h1 hq
   ·rw [eP (fun h=>hq (by omega))]
    exact aZU n w h0 h1 hq
  ·have e:n / pw 4=n / 16 / 16 / 16 / 16:=by unfold pw;show n / (16 ^ 4)=_;omega
   by_cases hq:n / 16 / 16 / 16 / 16=0
   ·rw [eT ⟨by decide,by decide,h0,h1,by omega⟩]
    exact aZV n w h0 h1 hq
   ·rw [eP (fun h=>hq (by omega))]
    exact aZW n w h0 h1 hq
 ·rw [eP (by omega)]
  have hi:inB n 0 65535=false:=u6 hn;have hi':inB d 1 4=true:=x9 (Classical.not_not.1 hd);clear hn hd
  go_enter func51,ntmps51
  go_wp2_with (go_at_call 42;refine (aE _ _ _ _).mono ?_;rintro e w' ⟨rfl,rfl⟩)
  go_ret;exact ⟨rfl,rfl⟩
end Hex
end Go.Proofs.YteglcgnhhoenbaaGreatDoor
