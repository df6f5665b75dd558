import Derived.Test.YteglcgnhhoenbaaGreatDoorQ00
import Derived.Laws.EntriesVeiled
import Derived.Laws.BytesArg
import Derived.Lib.ItoaLen
import Derived.Maps.AppendAt
set_option linter.all false
set_option maxRecDepth 20000
set_option maxHeartbeats 8000000
open Go.ChangeShapes Go.WideShapes Go.ChangeAt Go.RowKit
open Go.Proofs.Tryz
namespace Go.Proofs.YteglcgnhhoenbaaGreatDoor
namespace Carts
open Signed (inB aG aB aC aE)
def eZ (n:Nat):Int:=if n%256=0/\512<=n/\n<=4096 then n / 256 else 0
def lV (n:Nat):Bool:=decide (n%256=0/\512<=n/\n<=4096)
def kG (kind bank rb:Int) (on:Bool) (mode:Int):Bool :=
 if kind=0 then decide (bank=1/\rb=0/\mode=0/\on=false)
 else if kind=1 then inB bank 1 31 && inB rb 0 3 && inB mode 0 1
 else if kind=2 then inB bank 0 255 && inB rb 0 3 && mode == 0
 else false
def okB (rom:ByteArray) (kind bank:Int) (ram:ByteArray) (rb:Int) (on:Bool) (mode:Int):Bool:=kG kind bank rb on mode && lV rom.size && ram.size == 256
def aRE (kind:Int):Value :=
 if kind=0 then .iface 175 (.agg #[])
 else if kind=1 then .iface 176 (.agg #[])
 else if kind=2 then .iface 177 (.agg #[])
 else .nilIface
theorem lU (n:Int) (w:World) :
  Calls prog 321 #[.int .i64 n] w fun e w'=>e=.returned (.bool (inB n 0 3))/\w'=w:=by
 go_enter func321,ntmps321
 go_wp2
 all_goals go_ret
 all_goals exact ⟨aB (by rw [Bool.eq_iff_iff];simp [inB];try omega),rfl⟩
theorem gF (n:Int) (w:World) :
  Calls prog 113 #[.int .i64 n] w fun e w'=>e=.returned (aRE n)/\w'=w:=by
 go_enter func113,ntmps113
 go_wp2
 all_goals go_ret
 all_goals exact ⟨by congr 1;unfold aRE;simp_all,rfl⟩
theorem nZ (rom:ByteArray) (w:World) (hs:rom.size<=maxLen) :
  Calls prog 114 #[.string rom] w fun e w'=>e=.returned (.bool (lV rom.size))/\w'=w:=by
 have hs':rom.size<=9223372036854775807:=by unfold maxLen at hs;omega
 go_enter func114,ntmps114
 go_wp2
 all_goals go_ret
 all_goals exact ⟨aB (by rw [Bool.eq_iff_iff];simp [lV];try omega),rfl⟩
theorem fY (rom:ByteArray) (w:World) (hs:rom.size<=maxLen) :
  Calls prog 107 #[.string rom] w fun e w'=>e=.returned (.int .i64 (eZ rom.size))/\w'=w:=by
 have hs':rom.size<=9223372036854775807:=by unfold maxLen at hs;omega
 go_enter func107,ntmps107
 go_wp2_with (go_at_call 42;refine (aE _ _ _ _).mono ?_;rintro e w' ⟨rfl,rfl⟩)
 all_goals go_ret
 all_goals exact ⟨aG (by unfold eZ;simp_all [inB];try omega),rfl⟩
theorem m0 (w:World):(method 359 175 (.agg #[]) "loop.example/g00460/impl.holds").run prog w=.ok (319,.agg #[]) w:=by kernel_rfl
theorem m1 (w:World):(method 359 176 (.agg #[]) "loop.example/g00460/impl.holds").run prog w=.ok (320,.agg #[]) w:=by kernel_rfl
theorem m2 (w:World):(method 359 177 (.agg #[]) "loop.example/g00460/impl.holds").run prog w=.ok (322,.agg #[]) w:=by kernel_rfl
theorem qC (rom:ByteArray) (kind bank:Int) (ram:ByteArray) (rb:Int) (on:Bool) (mode:Int) (w:World) :
  Calls prog 319 #[.agg #[],.agg #[.string rom,.int .i64 kind,.int .i64 bank,.string ram,.int .i64 rb,.bool on,.int .i64 mode]] w fun e w'=>e=.returned (.bool (decide (bank=1/\rb=0/\mode=0/\on=false)))/\w'=(w.alloc (.cells #[] 175)).alloc (.cells #[.string rom,.int .i64 kind,.int .i64 bank,.string ram,.int .i64 rb,.bool on,.int .i64 mode] 27):=by
 go_enter func319,ntmps319
 go_wp2
 all_goals go_ret
 all_goals exact ⟨aB (by rw [Bool.eq_iff_iff];simp_all),by first|rfl|simp_all⟩
theorem tO (rom:ByteArray) (kind bank:Int) (ram:ByteArray) (rb:Int) (on:Bool) (mode:Int) (w:World) :
  Calls prog 320 #[.agg #[],.agg #[.string rom,.int .i64 kind,.int .i64 bank,.string ram,.int .i64 rb,.bool on,.int .i64 mode]] w fun e w'=>e=.returned (.bool (inB bank 1 31 && inB rb 0 3 && inB mode 0 1))/\w'=(w.alloc (.cells #[] 176)).alloc (.cells #[.string rom,.int .i64 kind,.int .i64 bank,.string ram,.int .i64 rb,.bool on,.int .i64 mode] 27):=by
 go_enter func320,ntmps320
 go_wp2_with (go_at_call 321;refine (lU _ _).mono ?_;rintro e w' ⟨rfl,rfl⟩)
 all_goals go_ret
 all_goals exact ⟨aB (by rw [Bool.eq_iff_iff];simp_all [inB] <;> omega),by first|rfl|simp_all⟩
theorem rU (rom:ByteArray) (kind bank:Int) (ram:ByteArray) (rb:Int) (on:Bool) (mode:Int) (w:World) :
  Calls prog 322 #[.agg #[],.agg #[.string rom,.int .i64 kind,.int .i64 bank,.string ram,.int .i64 rb,.bool on,.int .i64 mode]] w fun e w'=>e=.returned (.bool (inB bank 0 255 && inB rb 0 3 && mode == 0))/\w'=(w.alloc (.cells #[] 177)).alloc (.cells #[.string rom,.int .i64 kind,.int .i64 bank,.string ram,.int .i64 rb,.bool on,.int .i64 mode] 27):=by
 go_enter func322,ntmps322
 go_wp2_with (first|(go_at_call 321;refine (lU _ _).mono ?_;rintro e w' ⟨rfl,rfl⟩)|(go_at_call 115;refine (aC _ _).mono ?_;rintro e w' ⟨rfl,rfl⟩))
 all_goals go_ret
 all_goals exact ⟨aB (by rw [Bool.eq_iff_iff];simp_all [inB] <;> omega),by first|rfl|simp_all⟩
end Carts
namespace Reck
open Signed (inB aG aB aC aE)
def one (b:Bool):Int:=if b=true then 1 else 0
def chz (b:Bool) (y n:Int):Int:=if b=true then y else n
def fl (z n h c:Bool):Int:=128*one z+64*one n+32*one h+16*one c
def cy (f:Int):Int:=f / 16%2
theorem bE {a a' b b':Int} (h:a=a') (h':b=b'):Ending.returned (.tuple #[.int .i64 a,.int .i64 b])=.returned (.tuple #[.int .i64 a',.int .i64 b']):=by rw [h,h']
theorem fA (f:Int):0<=cy f/\cy f<=1:=by unfold cy;omega
theorem aFQ (b:Bool) (w:World) :
  Calls prog 132 #[.bool b] w fun e w'=>e=.returned (.int .i64 (one b))/\w'=w:=by
 cases b
 all_goals
  go_enter func132,ntmps132
  go_wp2;go_ret;exact ⟨rfl,rfl⟩
theorem cV (z n h c:Bool) (w:World) :
  Calls prog 117 #[.bool z,.bool n,.bool h,.bool c] w fun e w'=>e=.returned (.int .i64 (fl z n h c))/\w'=w:=by
 have oz:0<=one z/\one z<=1:=by cases z <;> decide
 have on:0<=one n/\one n<=1:=by cases n <;> decide
 have oh:0<=one h/\one h<=1:=by cases h <;> decide
 have oc:0<=one c/\one c<=1:=by cases c <;> decide
 obtain ⟨z0,z1⟩:=oz;obtain ⟨n0,n1⟩:=on;obtain ⟨h0,h1⟩:=oh;obtain ⟨c0,c1⟩:=oc
 go_enter func117,ntmps117
 go_wp2_with (go_at_call 132;refine (aFQ _ _).mono ?_;rintro e w' ⟨rfl,rfl⟩)
 go_ret;exact ⟨aG (by unfold fl;omega),rfl⟩
theorem dE (f:Int) (w:World) (f0:0<=f) (f1:f<=255) :
  Calls prog 118 #[.int .i64 f] w fun e w'=>e=.returned (.int .i64 (cy f))/\w'=w:=by
 go_enter func118,ntmps118
 go_wp2;go_ret;exact ⟨rfl,rfl⟩
theorem dH (n:Int) (w:World) :
  Calls prog 53 #[.int .i64 n] w fun e w'=>e=.returned (.bool (inB n 0 255))/\w'=w:=by
 go_enter func53,ntmps53
 go_wp2_with (go_at_call 42;refine (aE _ _ _ _).mono ?_;rintro e w' ⟨rfl,rfl⟩)
 go_ret;exact ⟨rfl,rfl⟩
theorem eV (n:Int) (w:World) :
  Calls prog 54 #[.int .i64 n] w fun e w'=>e=.returned (.bool (inB n 0 65535))/\w'=w:=by
 go_enter func54,ntmps54
 go_wp2_with (go_at_call 42;refine (aE _ _ _ _).mono ?_;rintro e w' ⟨rfl,rfl⟩)
 go_ret;exact ⟨rfl,rfl⟩
theorem bX (n:Int) (w:World) :
  Calls prog 112 #[.int .i64 n] w fun e w'=>e=.returned (.bool (inB n 0 65535))/\w'=w:=by
 go_enter func112,ntmps112
 go_wp2
 all_goals go_ret
 all_goals exact ⟨aB (by rw [Bool.eq_iff_iff];simp [inB];try omega),rfl⟩
theorem gO (b:Bool) (y n:Int) (w:World) :
  Calls prog 168 #[.bool b,.int .i64 y,.int .i64 n] w fun e w'=>e=.returned (.int .i64 (chz b y n))/\w'=w:=by
 cases b
 all_goals
  go_enter func168,ntmps168
  go_wp2;go_ret;exact ⟨rfl,rfl⟩
theorem bC (v:Int) (b:Bool) (w:World) :
  Calls prog 248 #[.int .i64 v,.bool b] w fun e w'=>e=.returned (.int .i64 (chz b v 0))/\w'=w:=by
 go_enter func248,ntmps248
 go_wp2_with (go_at_call 168;refine (gO _ _ _ _).mono ?_;rintro e w' ⟨rfl,rfl⟩)
 go_ret;exact ⟨rfl,rfl⟩
theorem bW (f:Int) (w:World) (f0:0<=f) (f1:f<=255) :
  Calls prog 263 #[.int .i64 f] w fun e w'=>e=.returned (.int .i64 (cy f))/\w'=w:=by
 go_enter func263,ntmps263
 go_wp2;go_ret;exact ⟨rfl,rfl⟩
theorem aYH (h c:Bool):bits .or .i64 (chz h 32 0) (chz c 16 0)=fl false false h c:=by cases h <;> cases c <;> decide
theorem aZA (h c:Bool):bits .or .i64 (bits .or .i64 64 (chz h 32 0)) (chz c 16 0)=fl false true h c:=by cases h <;> cases c <;> decide
def rV (a b c:Int):Int × Int:=((a+b+c)%256,fl false false (decide (15<a%16+b%16+c)) (decide (255<a+b+c)))
def qD (a b c:Int):Int × Int:=((a-b-c)%256,fl false true (decide (a%16<b%16+c)) (decide (a-b-c<0)))
def zd (p:Int × Int):Int × Int:=(p.1,p.2+128*one (decide (p.1=0)))
def aS (op a b f:Int):Int × Int :=
 if op=0 then zd (rV a b 0) else if op=1 then zd (rV a b (cy f)) else if op=2 then zd (qD a b 0) else if op=3 then zd (qD a b (cy f))
 else if op=4 then zd (bits .and .i64 a b,32) else if op=5 then zd (bits .xor .i64 a b,0) else if op=6 then zd (bits .or .i64 a b,0) else (a,(zd (qD a b 0)).2)
def alu (op a b f:Int):Int × Int :=
 if (inB op 0 7 && inB a 0 255 && inB b 0 255 && inB f 0 255)=true then aS op a b f else (0,0)
theorem kH (a b c:Int) (w:World) (a0:0<=a) (a1:a<=255) (b0:0<=b) (b1:b<=255) (c0:0<=c) (c1:c<=1) :
  Calls prog 276 #[.int .i64 a,.int .i64 b,.int .i64 c] w fun e w'=>e=.returned (.tuple #[.int .i64 (rV a b c).1,.int .i64 (rV a b c).2])/\w'=w:=by
 go_enter func276,ntmps276
 go_wp2_with (go_at_call 248;refine (bC _ _ _).mono ?_;rintro e w' ⟨rfl,rfl⟩)
 go_ret2;refine ⟨bE rfl ?_,rfl⟩;exact aYH _ _
theorem kI (a b c:Int) (w:World) (a0:0<=a) (a1:a<=255) (b0:0<=b) (b1:b<=255) (c0:0<=c) (c1:c<=1) :
  Calls prog 278 #[.int .i64 a,.int .i64 b,.int .i64 c] w fun e w'=>e=.returned (.tuple #[.int .i64 (qD a b c).1,.int .i64 (qD a b c).2])/\w'=w:=by
 go_enter func278,ntmps278
 go_wp2_with (go_at_call 248;refine (bC _ _ _).mono ?_;rintro e w' ⟨rfl,rfl⟩)
 go_ret2;refine ⟨bE rfl ?_,rfl⟩;exact aZA _ _
theorem tP (a b c:Int) (w:World) (a0:0<=a) (a1:a<=255) (b0:0<=b) (b1:b<=255) :
  Calls prog 275 #[.int .i64 a,.int .i64 b,.int .i64 c] w fun e w'=>e=.returned (.tuple #[.int .i64 (rV a b 0).1,.int .i64 (rV a b 0).2])/\w'=w:=by
 go_enter func275,ntmps275
 go_wp2_with (go_at_call 276;refine (kH _ _ _ _ a0 a1 b0 b1 (by decide) (by decide)).mono ?_;rintro e w' ⟨rfl,rfl⟩)
 go_ret2;exact ⟨rfl,rfl⟩
theorem mH (a b c:Int) (w:World) (a0:0<=a) (a1:a<=255) (b0:0<=b) (b1:b<=255) :
  Calls prog 277 #[.int .i64 a,.int .i64 b,.int .i64 c] w fun e w'=>e=.returned (.tuple #[.int .i64 (qD a b 0).1,.int .i64 (qD a b 0).2])/\w'=w:=by
 go_enter func277,ntmps277
 go_wp2_with (go_at_call 278;refine (kI _ _ _ _ a0 a1 b0 b1 (by decide) (by decide)).mono ?_;rintro e w' ⟨rfl,rfl⟩)
 go_ret2;exact ⟨rfl,rfl⟩
theorem wO (a b c:Int) (w:World) :
  Calls prog 279 #[.int .i64 a,.int .i64 b,.int .i64 c] w fun e w'=>e=.returned (.tuple #[.int .i64 (bits .and .i64 a b,32).1,.int .i64 (bits .and .i64 a b,32).2])/\w'=w:=by
 go_enter func279,ntmps279
 go_wp2;go_ret2;exact ⟨rfl,rfl⟩
theorem wP (a b c:Int) (w:World) :
  Calls prog 280 #[.int .i64 a,.int .i64 b,.int .i64 c] w fun e w'=>e=.returned (.tuple #[.int .i64 (bits .xor .i64 a b,0).1,.int .i64 (bits .xor .i64 a b,0).2])/\w'=w:=by
 go_enter func280,ntmps280
 go_wp2;go_ret2;exact ⟨rfl,rfl⟩
theorem aAM (a b c:Int) (w:World) :
  Calls prog 281 #[.int .i64 a,.int .i64 b,.int .i64 c] w fun e w'=>e=.returned (.tuple #[.int .i64 (bits .or .i64 a b,0).1,.int .i64 (bits .or .i64 a b,0).2])/\w'=w:=by
 go_enter func281,ntmps281
 go_wp2;go_ret2;exact ⟨rfl,rfl⟩
theorem eI (w:World) :
  Calls prog 262 #[] w fun e w'=>e=.returned (.agg #[.func (.func 275) #[] #[],.func (.func 276) #[] #[],.func (.func 277) #[] #[],.func (.func 278) #[] #[],.func (.func 279) #[] #[],.func (.func 280) #[] #[],.func (.func 281) #[] #[],.func (.func 277) #[] #[]])/\Below w.heap.size w w':=by
 go_enter func262,ntmps262
 go_wp2;refine bodyPost_ret (v:=.agg #[.func (.func 275) #[] #[],.func (.func 276) #[] #[],.func (.func 277) #[] #[],.func (.func 278) #[] #[],.func (.func 279) #[] #[],.func (.func 280) #[] #[],.func (.func 281) #[] #[],.func (.func 277) #[] #[]]) (by simp [results,results262,go_sem]) rfl ⟨rfl,?_⟩;exact zAl _ _
theorem aF {w w':World} (h:Below w.drew.heap.size w.drew w'):Below w.heap.size w w':=⟨h.os,h.tape,h.output,h.size,h.block⟩
theorem qE (x:Int) (n h c z:Bool) (hz:z=decide (x=0)):bits .or .i64 (fl false n h c) (chz z 128 0)=(zd (x,fl false n h c)).2:=by
 subst hz;show _=fl false n h c+128*one (decide (x=0));generalize decide (x=0)=z;revert z n h c;decide
theorem bFL (x:Int) (z:Bool) (hz:z=decide (x=0)):bits .or .i64 32 (chz z 128 0)=(zd (x,32)).2:=qE x false true false z hz
theorem bFM (x:Int) (z:Bool) (hz:z=decide (x=0)):bits .or .i64 0 (chz z 128 0)=(zd (x,0)).2:=qE x false false false z hz
theorem eF (x:Int):(x == 0)=decide (x=0):=by rw [Bool.eq_iff_iff];simp
end Reck
namespace Tabs
open Signed (inB aE)
def at8 (l:List ByteArray) (i:Int):ByteArray:=l.getD i.toNat ⟨#[]⟩
theorem bD {y:Int} (h0:0<=y) (h1:y<=7):y=0 \/ y=1 \/ y=2 \/ y=3 \/ y=4 \/ y=5 \/ y=6 \/ y=7:=by omega
theorem fG {y:Int} (h0:0<=y) (h1:y<=3):y=0 \/ y=1 \/ y=2 \/ y=3:=by omega
theorem cK {a b:ByteArray} (h:a=b):Ending.returned (.string a)=.returned (.string b):=by rw [h]
def aRF:List ByteArray:=[⟨#[]⟩,⟨#[98,105,116,32]⟩,⟨#[114,101,115,32]⟩,⟨#[115,101,116,32]⟩]
def tQ:List ByteArray:=[⟨#[48]⟩,⟨#[49]⟩,⟨#[50]⟩,⟨#[51]⟩,⟨#[52]⟩,⟨#[53]⟩,⟨#[54]⟩,⟨#[55]⟩]
def kA:List ByteArray:=[⟨#[98]⟩,⟨#[99]⟩,⟨#[100]⟩,⟨#[101]⟩,⟨#[104]⟩,⟨#[108]⟩,⟨#[91,104,108,93]⟩,⟨#[97]⟩]
theorem cL (w:World) :
  Calls prog 155 #[] w fun e w'=>e=.returned (.slice (some ⟨w.heap.size,0,none⟩) 8 8)/\w'=w.alloc (.cells #[.string ⟨#[98]⟩,.string ⟨#[99]⟩,.string ⟨#[100]⟩,.string ⟨#[101]⟩,.string ⟨#[104]⟩,.string ⟨#[108]⟩,.string ⟨#[91,104,108,93]⟩,.string ⟨#[97]⟩] 9):=by
 go_enter func155,ntmps155
 go_wp2;go_ret;exact ⟨rfl,rfl⟩
def aEI:List ByteArray:=[⟨#[98,99]⟩,⟨#[100,101]⟩,⟨#[104,108]⟩,⟨#[115,112]⟩]
theorem cS (w:World) :
  Calls prog 235 #[] w fun e w'=>e=.returned (.slice (some ⟨w.heap.size,0,none⟩) 4 4)/\w'=w.alloc (.cells #[.string ⟨#[98,99]⟩,.string ⟨#[100,101]⟩,.string ⟨#[104,108]⟩,.string ⟨#[115,112]⟩] 9):=by
 go_enter func235,ntmps235
 go_wp2;go_ret;exact ⟨rfl,rfl⟩
def aEJ:List ByteArray:=[⟨#[110,122]⟩,⟨#[122]⟩,⟨#[110,99]⟩,⟨#[99]⟩]
theorem cT (w:World) :
  Calls prog 234 #[] w fun e w'=>e=.returned (.slice (some ⟨w.heap.size,0,none⟩) 4 4)/\w'=w.alloc (.cells #[.string ⟨#[110,122]⟩,.string ⟨#[122]⟩,.string ⟨#[110,99]⟩,.string ⟨#[99]⟩] 9):=by
 go_enter func234,ntmps234
 go_wp2;go_ret;exact ⟨rfl,rfl⟩
def wQ:List ByteArray:=[⟨#[97,100,100]⟩,⟨#[97,100,99]⟩,⟨#[115,117,98]⟩,⟨#[115,98,99]⟩,⟨#[97,110,100]⟩,⟨#[120,111,114]⟩,⟨#[111,114]⟩,⟨#[99,112]⟩]
theorem fH (w:World) :
  Calls prog 157 #[] w fun e w'=>e=.returned (.slice (some ⟨w.heap.size,0,none⟩) 8 8)/\w'=w.alloc (.cells #[.string ⟨#[97,100,100]⟩,.string ⟨#[97,100,99]⟩,.string ⟨#[115,117,98]⟩,.string ⟨#[115,98,99]⟩,.string ⟨#[97,110,100]⟩,.string ⟨#[120,111,114]⟩,.string ⟨#[111,114]⟩,.string ⟨#[99,112]⟩] 9):=by
 go_enter func157,ntmps157
 go_wp2;go_ret;exact ⟨rfl,rfl⟩
def turns:List ByteArray:=[⟨#[114,108,99]⟩,⟨#[114,114,99]⟩,⟨#[114,108]⟩,⟨#[114,114]⟩,⟨#[115,108,97]⟩,⟨#[115,114,97]⟩,⟨#[115,119,97,112]⟩,⟨#[115,114,108]⟩]
theorem aFR (w:World) :
  Calls prog 154 #[] w fun e w'=>e=.returned (.slice (some ⟨w.heap.size,0,none⟩) 8 8)/\w'=w.alloc (.cells #[.string ⟨#[114,108,99]⟩,.string ⟨#[114,114,99]⟩,.string ⟨#[114,108]⟩,.string ⟨#[114,114]⟩,.string ⟨#[115,108,97]⟩,.string ⟨#[115,114,97]⟩,.string ⟨#[115,119,97,112]⟩,.string ⟨#[115,114,108]⟩] 9):=by
 go_enter func154,ntmps154
 go_wp2;go_ret;exact ⟨rfl,rfl⟩
theorem kJ {i:Int} (h0:0<=i) (h1:i<=7):(∀ h,([.string ⟨#[98]⟩,.string ⟨#[99]⟩,.string ⟨#[100]⟩,.string ⟨#[101]⟩,.string ⟨#[104]⟩,.string ⟨#[108]⟩,.string ⟨#[91,104,108,93]⟩,.string ⟨#[97]⟩]:List Value)[i.toNat]'h=.string (at8 kA i))/\(at8 kA i).size<=4:=by
 rcases bD h0 h1 with rfl|rfl|rfl|rfl|rfl|rfl|rfl|rfl
 all_goals exact ⟨fun _=>rfl,by decide⟩
theorem aJA {i:Int} (h0:0<=i) (h1:i<=7):(∀ h,([.string ⟨#[97,100,100]⟩,.string ⟨#[97,100,99]⟩,.string ⟨#[115,117,98]⟩,.string ⟨#[115,98,99]⟩,.string ⟨#[97,110,100]⟩,.string ⟨#[120,111,114]⟩,.string ⟨#[111,114]⟩,.string ⟨#[99,112]⟩]:List Value)[i.toNat]'h=.string (at8 wQ i))/\(at8 wQ i).size<=4:=by
 rcases bD h0 h1 with rfl|rfl|rfl|rfl|rfl|rfl|rfl|rfl
 all_goals exact ⟨fun _=>rfl,by decide⟩
theorem aFS {i:Int} (h0:0<=i) (h1:i<=7):(∀ h,([.string ⟨#[114,108,99]⟩,.string ⟨#[114,114,99]⟩,.string ⟨#[114,108]⟩,.string ⟨#[114,114]⟩,.string ⟨#[115,108,97]⟩,.string ⟨#[115,114,97]⟩,.string ⟨#[115,119,97,112]⟩,.string ⟨#[115,114,108]⟩]:List Value)[i.toNat]'h=.string (at8 turns i))/\(at8 turns i).size<=4:=by
 rcases bD h0 h1 with rfl|rfl|rfl|rfl|rfl|rfl|rfl|rfl
 all_goals exact ⟨fun _=>rfl,by decide⟩
theorem aJB {i:Int} (h0:0<=i) (h1:i<=3):(∀ h,([.string ⟨#[]⟩,.string ⟨#[98,105,116,32]⟩,.string ⟨#[114,101,115,32]⟩,.string ⟨#[115,101,116,32]⟩]:List Value)[i.toNat]'h=.string (at8 aRF i))/\(at8 aRF i).size<=4:=by
 rcases fG h0 h1 with rfl|rfl|rfl|rfl
 all_goals exact ⟨fun _=>rfl,by decide⟩
set_option maxRecDepth 100000 in
theorem tR (y:Int) (w:World) (h0:0<=y) (h1:y<=7) :
  Calls prog 105 #[.int .i64 y] w fun e w'=>e=.returned (.string (at8 tQ y))/\w'=w.alloc (.cells #[.int .u8 (48+y)] 5):=by
 have hcv:∀ (u:World) (x:Int),(convert 22 9 (.slice (some ⟨u.heap.size,0,none⟩) 1 1)).run prog (u.alloc (.cells #[.int .u8 x] 5))=.ok (.string (strOfNums [x])) (u.alloc (.cells #[.int .u8 x] 5)):=fun u x =>
  run_convert_bytes_arg _ 22 5 underlying22 underlying5 u.heap.size 0 1 1 [x] rfl (fun i hi=>by
   rw [Nat.zero_add,World.cell?_alloc_new]
   match i,hi with
   | 0,_=>rfl) 9 underlying9
 have hsz:∀ x:Int,(strOfNums [x]).size=1:=fun _=>strOfNums_size _
 rcases bD h0 h1 with rfl|rfl|rfl|rfl|rfl|rfl|rfl|rfl
 all_goals
  go_enter func105,ntmps105
  go_wp2;refine wp_loop_rounds 1 ?_;rw [rounds_succ];go_wp2;go_ret;exact ⟨cK rfl,rfl⟩
def aFT:List ByteArray:=[⟨#[36,48,48]⟩,⟨#[36,48,56]⟩,⟨#[36,49,48]⟩,⟨#[36,49,56]⟩,⟨#[36,50,48]⟩,⟨#[36,50,56]⟩,⟨#[36,51,48]⟩,⟨#[36,51,56]⟩]
set_option maxRecDepth 100000 in
theorem gZ (n:Int) (w:World) (h:n=0 \/ n=8 \/ n=16 \/ n=24 \/ n=32 \/ n=40 \/ n=48 \/ n=56) :
  Calls prog 51 #[.int .i64 n,.int .i64 2] w fun e w'=>e=.returned (.string (at8 aFT (n / 8)))/\w'=w:=by
 have hd:inB 2 1 4=true:=rfl;rcases h with rfl|rfl|rfl|rfl|rfl|rfl|rfl|rfl
 all_goals
  go_enter func51,ntmps51
  go_wp2_with (go_at_call 42;refine (aE _ _ _ _).mono ?_;rintro e w' ⟨rfl,rfl⟩)
  refine wp_loop_rounds 3 ?_;rw [rounds_succ];go_wp2;rw [rounds_succ];go_wp2;rw [rounds_succ];go_wp2;go_ret;exact ⟨cK (by kernel_rfl),rfl⟩
end Tabs
namespace Shape
open Signed (aC)
open Signed (inB)
def at8 (l:List ByteArray) (i:Int):ByteArray:=l.getD i.toNat ⟨#[]⟩
theorem bD {y:Int} (h0:0<=y) (h1:y<=7):y=0 \/ y=1 \/ y=2 \/ y=3 \/ y=4 \/ y=5 \/ y=6 \/ y=7:=by omega
theorem aAN {q:Int} (h0:0<=q) (h1:q<=1):q=0 \/ q=1:=by omega
theorem cK {a b:ByteArray} (h:a=b):Ending.returned (.string a)=.returned (.string b):=by rw [h]
theorem eJ (code:Int) (w:World) (h0:0<=code) (h1:code<=255) :
  Calls prog 94 #[.int .i64 code] w fun e w'=>e=.returned (.agg #[.int .i64 (code / 64),.int .i64 (code / 8%8),.int .i64 (code%8),.int .i64 (code / 8%8 / 2),.int .i64 (code / 8%8%2)])/\Below w.heap.size w w':=by
 go_enter func94,ntmps94
 go_wp2;refine bodyPost_ret (v:=.agg #[.int .i64 (code / 64),.int .i64 (code / 8%8),.int .i64 (code%8),.int .i64 (code / 8%8 / 2),.int .i64 (code / 8%8%2)]) (by simp [results,results94,go_sem]) rfl ⟨rfl,?_⟩;exact zAl _ _
def bFN:List ByteArray:=[⟨#[110,111,112]⟩,⟨#[108,100,32,91,110,49,54,93,44,115,112]⟩,⟨#[115,116,111,112,32,110,56]⟩,⟨#[106,114,32,101,56]⟩,⟨#[106,114,32,67,44,101,56]⟩,⟨#[106,114,32,67,44,101,56]⟩,⟨#[106,114,32,67,44,101,56]⟩,⟨#[106,114,32,67,44,101,56]⟩]
theorem aRG {i:Int} (h0:0<=i) (h1:i<=7) (w:World):(Instr.index 190 (.agg #[.string ⟨#[110,111,112]⟩,.string ⟨#[108,100,32,91,110,49,54,93,44,115,112]⟩,.string ⟨#[115,116,111,112,32,110,56]⟩,.string ⟨#[106,114,32,101,56]⟩,.string ⟨#[106,114,32,67,44,101,56]⟩,.string ⟨#[106,114,32,67,44,101,56]⟩,.string ⟨#[106,114,32,67,44,101,56]⟩,.string ⟨#[106,114,32,67,44,101,56]⟩]) (.int .i64 i)).run prog w=.ok (.string (at8 bFN i)) w:=by
 rcases bD h0 h1 with rfl|rfl|rfl|rfl|rfl|rfl|rfl|rfl
 all_goals kernel_rfl
def bFO:List ByteArray:=[⟨#[108,100,32,80,44,110,49,54]⟩,⟨#[97,100,100,32,104,108,44,80]⟩]
theorem aRH {i:Int} (h0:0<=i) (h1:i<=1) (w:World):(Instr.index 191 (.agg #[.string ⟨#[108,100,32,80,44,110,49,54]⟩,.string ⟨#[97,100,100,32,104,108,44,80]⟩]) (.int .i64 i)).run prog w=.ok (.string (at8 bFO i)) w:=by
 rcases aAN h0 h1 with rfl|rfl
 all_goals kernel_rfl
def bFP:List ByteArray:=[⟨#[108,100,32,77,44,97]⟩,⟨#[108,100,32,97,44,77]⟩]
theorem aRI {i:Int} (h0:0<=i) (h1:i<=1) (w:World):(Instr.index 191 (.agg #[.string ⟨#[108,100,32,77,44,97]⟩,.string ⟨#[108,100,32,97,44,77]⟩]) (.int .i64 i)).run prog w=.ok (.string (at8 bFP i)) w:=by
 rcases aAN h0 h1 with rfl|rfl
 all_goals kernel_rfl
def bFQ:List ByteArray:=[⟨#[105,110,99,32,80]⟩,⟨#[100,101,99,32,80]⟩]
theorem aRJ {i:Int} (h0:0<=i) (h1:i<=1) (w:World):(Instr.index 191 (.agg #[.string ⟨#[105,110,99,32,80]⟩,.string ⟨#[100,101,99,32,80]⟩]) (.int .i64 i)).run prog w=.ok (.string (at8 bFQ i)) w:=by
 rcases aAN h0 h1 with rfl|rfl
 all_goals kernel_rfl
def bFR:List ByteArray:=[⟨#[114,108,99,97]⟩,⟨#[114,114,99,97]⟩,⟨#[114,108,97]⟩,⟨#[114,114,97]⟩,⟨#[100,97,97]⟩,⟨#[99,112,108]⟩,⟨#[115,99,102]⟩,⟨#[99,99,102]⟩]
theorem aRK {i:Int} (h0:0<=i) (h1:i<=7) (w:World):(Instr.index 190 (.agg #[.string ⟨#[114,108,99,97]⟩,.string ⟨#[114,114,99,97]⟩,.string ⟨#[114,108,97]⟩,.string ⟨#[114,114,97]⟩,.string ⟨#[100,97,97]⟩,.string ⟨#[99,112,108]⟩,.string ⟨#[115,99,102]⟩,.string ⟨#[99,99,102]⟩]) (.int .i64 i)).run prog w=.ok (.string (at8 bFR i)) w:=by
 rcases bD h0 h1 with rfl|rfl|rfl|rfl|rfl|rfl|rfl|rfl
 all_goals kernel_rfl
def bY:List ByteArray:=[⟨#[105,110,99,32,82]⟩,⟨#[100,101,99,32,82]⟩,⟨#[108,100,32,82,44,110,56]⟩]
theorem aZB (w:World):(Instr.index 192 (.agg #[.string ⟨#[105,110,99,32,82]⟩,.string ⟨#[100,101,99,32,82]⟩,.string ⟨#[108,100,32,82,44,110,56]⟩]) (.int .i64 0)).run prog w=.ok (.string (at8 bY 0)) w:=by kernel_rfl
theorem aZC (w:World):(Instr.index 192 (.agg #[.string ⟨#[105,110,99,32,82]⟩,.string ⟨#[100,101,99,32,82]⟩,.string ⟨#[108,100,32,82,44,110,56]⟩]) (.int .i64 1)).run prog w=.ok (.string (at8 bY 1)) w:=by kernel_rfl
theorem aZD (w:World):(Instr.index 192 (.agg #[.string ⟨#[105,110,99,32,82]⟩,.string ⟨#[100,101,99,32,82]⟩,.string ⟨#[108,100,32,82,44,110,56]⟩]) (.int .i64 2)).run prog w=.ok (.string (at8 bY 2)) w:=by kernel_rfl
def kC (y z:Int):ByteArray:=if z=0 then at8 bFN y else if z=1 then at8 bFO (y%2) else if z=2 then at8 bFP (y%2) else if z=3 then at8 bFQ (y%2) else if z=7 then at8 bFR y else at8 bY (z-4)
theorem tS (x y z p q:Int) (hq:q=y%2) (w:World) (y0:0<=y) (y1:y<=7) (z0:0<=z) (z1:z<=7) :
  Calls prog 144 #[.agg #[.int .i64 x,.int .i64 y,.int .i64 z,.int .i64 p,.int .i64 q]] w fun e w'=>e=.returned (.string (kC y z))/\Below w.heap.size w w':=by
 subst hq;have q0:0<=y%2:=by omega
 have q1:y%2<=1:=by omega
 rcases bD z0 z1 with rfl|rfl|rfl|rfl|rfl|rfl|rfl|rfl
 ·have hi:=fun w:World=>aRG (i:=y) y0 y1 w
  go_enter func144,ntmps144
  go_wp2;go_ret;exact ⟨rfl,zAl _ _⟩
 ·have hi:=fun w:World=>aRH (i:=y%2) q0 q1 w
  go_enter func144,ntmps144
  go_wp2;go_ret;exact ⟨rfl,zAl _ _⟩
 ·have hi:=fun w:World=>aRI (i:=y%2) q0 q1 w
  go_enter func144,ntmps144
  go_wp2;go_ret;exact ⟨rfl,zAl _ _⟩
 ·have hi:=fun w:World=>aRJ (i:=y%2) q0 q1 w
  go_enter func144,ntmps144
  go_wp2;go_ret;exact ⟨rfl,zAl _ _⟩
 ·have hi:=fun w:World=>aZB w
  go_enter func144,ntmps144
  go_wp2;go_ret;exact ⟨rfl,zAl _ _⟩
 ·have hi:=fun w:World=>aZC w
  go_enter func144,ntmps144
  go_wp2;go_ret;exact ⟨rfl,zAl _ _⟩
 ·have hi:=fun w:World=>aZD w
  go_enter func144,ntmps144
  go_wp2;go_ret;exact ⟨rfl,zAl _ _⟩
 ·have hi:=fun w:World=>aRK (i:=y) y0 y1 w
  go_enter func144,ntmps144
  go_wp2;go_ret;exact ⟨rfl,zAl _ _⟩
def aYI:List ByteArray:=[⟨#[114,101,116,32,67]⟩,⟨#[114,101,116,32,67]⟩,⟨#[114,101,116,32,67]⟩,⟨#[114,101,116,32,67]⟩,⟨#[108,100,104,32,91,110,56,93,44,97]⟩,⟨#[97,100,100,32,115,112,44,101,56]⟩,⟨#[108,100,104,32,97,44,91,110,56,93]⟩,⟨#[108,100,32,104,108,44,115,112,43,101,56]⟩]
theorem aJC {i:Int} (h0:0<=i) (h1:i<=7) (w:World):(Instr.index 190 (.agg #[.string ⟨#[114,101,116,32,67]⟩,.string ⟨#[114,101,116,32,67]⟩,.string ⟨#[114,101,116,32,67]⟩,.string ⟨#[114,101,116,32,67]⟩,.string ⟨#[108,100,104,32,91,110,56,93,44,97]⟩,.string ⟨#[97,100,100,32,115,112,44,101,56]⟩,.string ⟨#[108,100,104,32,97,44,91,110,56,93]⟩,.string ⟨#[108,100,32,104,108,44,115,112,43,101,56]⟩]) (.int .i64 i)).run prog w=.ok (.string (at8 aYI i)) w:=by
 rcases bD h0 h1 with rfl|rfl|rfl|rfl|rfl|rfl|rfl|rfl
 all_goals kernel_rfl
def aYJ:List ByteArray:=[⟨#[112,111,112,32,81]⟩,⟨#[114,101,116]⟩,⟨#[112,111,112,32,81]⟩,⟨#[114,101,116,105]⟩,⟨#[112,111,112,32,81]⟩,⟨#[106,112,32,104,108]⟩,⟨#[112,111,112,32,81]⟩,⟨#[108,100,32,115,112,44,104,108]⟩]
theorem aJD {i:Int} (h0:0<=i) (h1:i<=7) (w:World):(Instr.index 190 (.agg #[.string ⟨#[112,111,112,32,81]⟩,.string ⟨#[114,101,116]⟩,.string ⟨#[112,111,112,32,81]⟩,.string ⟨#[114,101,116,105]⟩,.string ⟨#[112,111,112,32,81]⟩,.string ⟨#[106,112,32,104,108]⟩,.string ⟨#[112,111,112,32,81]⟩,.string ⟨#[108,100,32,115,112,44,104,108]⟩]) (.int .i64 i)).run prog w=.ok (.string (at8 aYJ i)) w:=by
 rcases bD h0 h1 with rfl|rfl|rfl|rfl|rfl|rfl|rfl|rfl
 all_goals kernel_rfl
def aYK:List ByteArray:=[⟨#[106,112,32,67,44,110,49,54]⟩,⟨#[106,112,32,67,44,110,49,54]⟩,⟨#[106,112,32,67,44,110,49,54]⟩,⟨#[106,112,32,67,44,110,49,54]⟩,⟨#[108,100,104,32,91,99,93,44,97]⟩,⟨#[108,100,32,91,110,49,54,93,44,97]⟩,⟨#[108,100,104,32,97,44,91,99,93]⟩,⟨#[108,100,32,97,44,91,110,49,54,93]⟩]
theorem aJE {i:Int} (h0:0<=i) (h1:i<=7) (w:World):(Instr.index 190 (.agg #[.string ⟨#[106,112,32,67,44,110,49,54]⟩,.string ⟨#[106,112,32,67,44,110,49,54]⟩,.string ⟨#[106,112,32,67,44,110,49,54]⟩,.string ⟨#[106,112,32,67,44,110,49,54]⟩,.string ⟨#[108,100,104,32,91,99,93,44,97]⟩,.string ⟨#[108,100,32,91,110,49,54,93,44,97]⟩,.string ⟨#[108,100,104,32,97,44,91,99,93]⟩,.string ⟨#[108,100,32,97,44,91,110,49,54,93]⟩]) (.int .i64 i)).run prog w=.ok (.string (at8 aYK i)) w:=by
 rcases bD h0 h1 with rfl|rfl|rfl|rfl|rfl|rfl|rfl|rfl
 all_goals kernel_rfl
def aYL:List ByteArray:=[⟨#[106,112,32,110,49,54]⟩,⟨#[]⟩,⟨#[]⟩,⟨#[]⟩,⟨#[]⟩,⟨#[]⟩,⟨#[100,105]⟩,⟨#[101,105]⟩]
theorem aJF {i:Int} (h0:0<=i) (h1:i<=7) (w:World):(Instr.index 190 (.agg #[.string ⟨#[106,112,32,110,49,54]⟩,.string ⟨#[]⟩,.string ⟨#[]⟩,.string ⟨#[]⟩,.string ⟨#[]⟩,.string ⟨#[]⟩,.string ⟨#[100,105]⟩,.string ⟨#[101,105]⟩]) (.int .i64 i)).run prog w=.ok (.string (at8 aYL i)) w:=by
 rcases bD h0 h1 with rfl|rfl|rfl|rfl|rfl|rfl|rfl|rfl
 all_goals kernel_rfl
def aYM:List ByteArray:=[⟨#[99,97,108,108,32,67,44,110,49,54]⟩,⟨#[99,97,108,108,32,67,44,110,49,54]⟩,⟨#[99,97,108,108,32,67,44,110,49,54]⟩,⟨#[99,97,108,108,32,67,44,110,49,54]⟩,⟨#[]⟩,⟨#[]⟩,⟨#[]⟩,⟨#[]⟩]
theorem aJG {i:Int} (h0:0<=i) (h1:i<=7) (w:World):(Instr.index 190 (.agg #[.string ⟨#[99,97,108,108,32,67,44,110,49,54]⟩,.string ⟨#[99,97,108,108,32,67,44,110,49,54]⟩,.string ⟨#[99,97,108,108,32,67,44,110,49,54]⟩,.string ⟨#[99,97,108,108,32,67,44,110,49,54]⟩,.string ⟨#[]⟩,.string ⟨#[]⟩,.string ⟨#[]⟩,.string ⟨#[]⟩]) (.int .i64 i)).run prog w=.ok (.string (at8 aYM i)) w:=by
 rcases bD h0 h1 with rfl|rfl|rfl|rfl|rfl|rfl|rfl|rfl
 all_goals kernel_rfl
def aYN:List ByteArray:=[⟨#[112,117,115,104,32,81]⟩,⟨#[99,97,108,108,32,110,49,54]⟩,⟨#[112,117,115,104,32,81]⟩,⟨#[]⟩,⟨#[112,117,115,104,32,81]⟩,⟨#[]⟩,⟨#[112,117,115,104,32,81]⟩,⟨#[]⟩]
theorem aJH {i:Int} (h0:0<=i) (h1:i<=7) (w:World):(Instr.index 190 (.agg #[.string ⟨#[112,117,115,104,32,81]⟩,.string ⟨#[99,97,108,108,32,110,49,54]⟩,.string ⟨#[112,117,115,104,32,81]⟩,.string ⟨#[]⟩,.string ⟨#[112,117,115,104,32,81]⟩,.string ⟨#[]⟩,.string ⟨#[112,117,115,104,32,81]⟩,.string ⟨#[]⟩]) (.int .i64 i)).run prog w=.ok (.string (at8 aYN i)) w:=by
 rcases bD h0 h1 with rfl|rfl|rfl|rfl|rfl|rfl|rfl|rfl
 all_goals kernel_rfl
def aJI:List ByteArray:=[⟨#[65,32,97,44,110,56]⟩,⟨#[114,115,116,32,72]⟩]
theorem aRL (w:World):(Instr.index 191 (.agg #[.string ⟨#[65,32,97,44,110,56]⟩,.string ⟨#[114,115,116,32,72]⟩]) (.int .i64 0)).run prog w=.ok (.string (at8 aJI 0)) w:=by kernel_rfl
theorem aRM (w:World):(Instr.index 191 (.agg #[.string ⟨#[65,32,97,44,110,56]⟩,.string ⟨#[114,115,116,32,72]⟩]) (.int .i64 1)).run prog w=.ok (.string (at8 aJI 1)) w:=by kernel_rfl
def aJJ (y z:Int):ByteArray:=if z=0 then at8 aYI y else if z=1 then at8 aYJ y else if z=2 then at8 aYK y else if z=3 then at8 aYL y else if z=4 then at8 aYM y else if z=5 then at8 aYN y else at8 aJI (z-6)
theorem rW (x y z p q:Int) (hq:q=y%2) (w:World) (y0:0<=y) (y1:y<=7) (z0:0<=z) (z1:z<=7) :
  Calls prog 145 #[.agg #[.int .i64 x,.int .i64 y,.int .i64 z,.int .i64 p,.int .i64 q]] w fun e w'=>e=.returned (.string (aJJ y z))/\Below w.heap.size w w':=by
 subst hq;have q0:0<=y%2:=by omega
 have q1:y%2<=1:=by omega
 rcases bD z0 z1 with rfl|rfl|rfl|rfl|rfl|rfl|rfl|rfl
 ·have hi:=fun w:World=>aJC (i:=y) y0 y1 w
  go_enter func145,ntmps145
  go_wp2;go_ret;exact ⟨rfl,zAl _ _⟩
 ·have hi:=fun w:World=>aJD (i:=y) y0 y1 w
  go_enter func145,ntmps145
  go_wp2;go_ret;exact ⟨rfl,zAl _ _⟩
 ·have hi:=fun w:World=>aJE (i:=y) y0 y1 w
  go_enter func145,ntmps145
  go_wp2;go_ret;exact ⟨rfl,zAl _ _⟩
 ·have hi:=fun w:World=>aJF (i:=y) y0 y1 w
  go_enter func145,ntmps145
  go_wp2;go_ret;exact ⟨rfl,zAl _ _⟩
 ·have hi:=fun w:World=>aJG (i:=y) y0 y1 w
  go_enter func145,ntmps145
  go_wp2;go_ret;exact ⟨rfl,zAl _ _⟩
 ·have hi:=fun w:World=>aJH (i:=y) y0 y1 w
  go_enter func145,ntmps145
  go_wp2;go_ret;exact ⟨rfl,zAl _ _⟩
 ·have hi:=fun w:World=>aRL w
  go_enter func145,ntmps145
  go_wp2;go_ret;exact ⟨rfl,zAl _ _⟩
 ·have hi:=fun w:World=>aRM w
  go_enter func145,ntmps145
  go_wp2;go_ret;exact ⟨rfl,zAl _ _⟩
def cC (code:Int) (cb:Bool):ByteArray :=
 if cb=true then (if code / 64=0 then ⟨#[84,32,83]⟩ else ⟨#[66,32,89,44,83]⟩)
 else if code / 64=0 then kC (code / 8%8) (code%8) else if code=118 then ⟨#[104,97,108,116]⟩ else if code / 64=1 then ⟨#[108,100,32,82,44,83]⟩ else if code / 64=2 then ⟨#[65,32,97,44,83]⟩ else aJJ (code / 8%8) (code%8)
def shape (code:Int) (cb:Bool):ByteArray:=if inB code 0 255=true then cC code cb else ⟨#[]⟩
theorem aJK {code:Int} (h:code / 64=0):cC code false=kC (code / 8%8) (code%8):=by unfold cC;rw [if_neg (by decide),if_pos h]
theorem aJL {code:Int} (h:code / 64=1) (hh:¬ code=118):cC code false=⟨#[108,100,32,82,44,83]⟩:=by unfold cC;rw [if_neg (by decide),if_neg (by omega),if_neg hh,if_pos h]
theorem aJM {code:Int} (h:code / 64=2) (hh:¬ code=118):cC code false=⟨#[65,32,97,44,83]⟩:=by unfold cC;rw [if_neg (by decide),if_neg (by omega),if_neg hh,if_neg (by omega),if_pos h]
theorem aJN {code:Int} (h:code / 64=3) (hh:¬ code=118):cC code false=aJJ (code / 8%8) (code%8):=by unfold cC;rw [if_neg (by decide),if_neg (by omega),if_neg hh,if_neg (by omega),if_neg (by omega)]
theorem oA {code:Int} (h:code / 64=0):cC code true=⟨#[84,32,83]⟩:=by unfold cC;rw [if_pos rfl,if_pos h]
theorem iQ {code:Int} (h:¬ code / 64=0):cC code true=⟨#[66,32,89,44,83]⟩:=by unfold cC;rw [if_pos rfl,if_neg h]
theorem iR (code x:Int) (hx:code / 64=x) (w:World) (h0:0<=code) (h1:code<=255) :
  Calls prog 94 #[.int .i64 code] w fun e w'=>e=.returned (.agg #[.int .i64 x,.int .i64 (code / 8%8),.int .i64 (code%8),.int .i64 (code / 8%8 / 2),.int .i64 (code / 8%8%2)])/\Below w.heap.size w w':=by
 subst hx;exact eJ code w h0 h1
theorem dW (code:Int) (cb:Bool) (w:World) :
  Calls prog 96 #[.int .i64 code,.bool cb] w fun e w'=>e=.returned (.string (shape code cb))/\Below w.heap.size w w':=by
 unfold shape
 cases hb:inB code 0 255
 ·go_enter func96,ntmps96
  go_wp2_with (go_at_call 115;refine (aC _ _).mono ?_;rintro e w' ⟨rfl,rfl⟩)
  go_ret;exact ⟨rfl,Below.refl _ _⟩
 obtain ⟨h0,h1⟩:=u7 hb;rw [if_pos rfl];have hx:code / 64=0 \/ code / 64=1 \/ code / 64=2 \/ code / 64=3:=by omega
 have y0:0<=code / 8%8:=by omega
 have y1:code / 8%8<=7:=by omega
 have z0:0<=code%8:=by omega
 have z1:code%8<=7:=by omega
 by_cases hh:code=118
 ·subst hh
  cases cb
  all_goals
   go_enter func96,ntmps96
   go_wp2_with (first|(go_at_call 115;refine (aC _ _).mono ?_;rintro e w' ⟨rfl,rfl⟩)|(go_at_call 94;refine (eJ _ _ (by decide) (by decide)).mono ?_;rintro e w1 ⟨rfl,hB1⟩))
   go_ret;exact ⟨cK rfl,hB1.alloc hB1.size _⟩
 have hh':(code == 118)=false:=by simpa using hh
 cases cb
 ·rcases hx with hx|hx|hx|hx
  ·rw [aJK hx]
   go_enter func96,ntmps96
   go_wp2_with (first|(go_at_call 115;refine (aC _ _).mono ?_;rintro e w' ⟨rfl,rfl⟩)|(go_at_call 94;refine (iR _ _ hx _ h0 h1).mono ?_;rintro e w1 ⟨rfl,hB1⟩)|(go_at_call 144;refine (tS _ _ _ _ _ (by omega) _ y0 y1 z0 z1).mono ?_;rintro e w2 ⟨rfl,hB2⟩))
   go_ret;exact ⟨rfl,(hB1.alloc hB1.size _).trans (hB2.mono (hB1.alloc hB1.size _).size)⟩
  ·rw [aJL hx hh]
   go_enter func96,ntmps96
   go_wp2_with (first|(go_at_call 115;refine (aC _ _).mono ?_;rintro e w' ⟨rfl,rfl⟩)|(go_at_call 94;refine (iR _ _ hx _ h0 h1).mono ?_;rintro e w1 ⟨rfl,hB1⟩))
   go_ret;exact ⟨rfl,hB1.alloc hB1.size _⟩
  ·rw [aJM hx hh]
   go_enter func96,ntmps96
   go_wp2_with (first|(go_at_call 115;refine (aC _ _).mono ?_;rintro e w' ⟨rfl,rfl⟩)|(go_at_call 94;refine (iR _ _ hx _ h0 h1).mono ?_;rintro e w1 ⟨rfl,hB1⟩))
   go_ret;exact ⟨rfl,hB1.alloc hB1.size _⟩
  ·rw [aJN hx hh]
   go_enter func96,ntmps96
   go_wp2_with (first|(go_at_call 115;refine (aC _ _).mono ?_;rintro e w' ⟨rfl,rfl⟩)|(go_at_call 94;refine (iR _ _ hx _ h0 h1).mono ?_;rintro e w1 ⟨rfl,hB1⟩)|(go_at_call 145;refine (rW _ _ _ _ _ (by omega) _ y0 y1 z0 z1).mono ?_;rintro e w2 ⟨rfl,hB2⟩))
   go_ret;exact ⟨rfl,(hB1.alloc hB1.size _).trans (hB2.mono (hB1.alloc hB1.size _).size)⟩
 ·by_cases hx0:code / 64=0
  ·rw [oA hx0]
   go_enter func96,ntmps96
   go_wp2_with (first|(go_at_call 115;refine (aC _ _).mono ?_;rintro e w' ⟨rfl,rfl⟩)|(go_at_call 94;refine (iR _ _ hx0 _ h0 h1).mono ?_;rintro e w1 ⟨rfl,hB1⟩))
   go_ret;exact ⟨rfl,hB1.alloc hB1.size _⟩
  ·rw [iQ hx0]
   have hx1:(code / 64 == 0)=false:=by simpa using hx0
   go_enter func96,ntmps96
   go_wp2_with (first|(go_at_call 115;refine (aC _ _).mono ?_;rintro e w' ⟨rfl,rfl⟩)|(go_at_call 94;refine (eJ _ _ h0 h1).mono ?_;rintro e w1 ⟨rfl,hB1⟩))
   go_ret;exact ⟨rfl,hB1.alloc hB1.size _⟩
end Shape
namespace Bld
open Go.RowKit
abbrev Holds (B b:Nat) (bs:List Value) (w:World):Prop:=Lib.IsBuilder 195 5 B b bs w
theorem aYO:(prog.info? 195).map (·.size)=some 2:=by kernel_rfl
theorem lies:liesAt prog prog.depth 195 (2 / prog.cellsOf 195) 0 195 1=true:=by kernel_rfl
theorem bFS (x:Value) (w:World):(callFunc 265 #[x]).run prog w=.ok (.value x) w:=by
 rw [run_callFunc_extern func265 (by kernel_rfl) (by kernel_rfl) (by kernel_rfl) (e:=Extern.AbiNoEscape.same) (by kernel_rfl),Lib.run_noEscape]
 rfl
theorem aAO (b:Nat) (w:World) (h0:w.cell? ⟨b,0,none⟩=some (.pointer (some ⟨b,0,none⟩))) :
  Calls prog 250 #[.pointer (some ⟨b,0,none⟩)] w fun e w'=>e=.returned (.tuple #[])/\w'=w:=by
 obtain ⟨j,hj,_⟩:=Option.map_eq_some_iff.1 aYO;have hne:=fun w=>Lib.run_neq_ptr_same (P:=prog) w ⟨b,0,none⟩ underlying193 hj
 go_enter func250,ntmps250
 go_wp2
 go_end0
 exact ⟨rfl,rfl⟩
theorem wR (b:Nat) (w:World) (h0:w.cell? ⟨b,0,none⟩=some (.pointer none)) (hsh:w.shape? b=some (195,2)) (hfz:w.frozen? ⟨b,0,none⟩=false) :
  Calls prog 250 #[.pointer (some ⟨b,0,none⟩)] w fun e w'=>e=.returned (.tuple #[])/\w'=w.setCell ⟨b,0,none⟩ (.pointer (some ⟨b,0,none⟩)):=by
 obtain ⟨j,hj,hjs⟩:=Option.map_eq_some_iff.1 aYO;have q1:(convert 193 225 (.pointer (some ⟨b,0,none⟩))).run prog w=.ok (.pointer (some ⟨b,0,none⟩)) w:=Lib.run_to_unsafe w ⟨b,0,none⟩ underlying193 underlying225 hj (by rw [hjs];decide) hsh (Nat.zero_lt_succ 1);have q2:(convert 225 193 (.pointer (some ⟨b,0,none⟩))).run prog w=.ok (.pointer (some ⟨b,0,none⟩)) w:=Lib.run_from_unsafe w ⟨b,0,none⟩ underlying225 underlying193 hj hsh lies;have q3:=bFS (.pointer (some ⟨b,0,none⟩)) w
 go_enter func250,ntmps250
 go_wp2
 go_end0
 exact ⟨rfl,rfl⟩
theorem sM (B b:Nat) (bs:List Value) (w:World) (h:Holds B b bs w) :
  Calls prog 250 #[.pointer (some ⟨b,0,none⟩)] w fun e w'=>e=.returned (.tuple #[])/\(Lib.BuilderAt 195 5 B b (.pointer (some ⟨b,0,none⟩)) bs w'/\Below B w w'):=by
 rcases h with h|h
 ·refine (wR b w h.cell0 h.shape h.frozen0).mono ?_
  rintro e w' ⟨rfl,rfl⟩;exact ⟨rfl,h.used _,(Below.refl B w).setCell (p:=⟨b,0,none⟩) h.1 _⟩
 ·refine (aAO b w h.cell0).mono ?_
  rintro e w' ⟨rfl,rfl⟩;exact ⟨rfl,h,Below.refl B _⟩
theorem ne5:195 ≠ 5:=by decide
theorem aEK:(prog.info? 5).map (fun i=>(i.zero,i.size,i.bytes))=some (some (.int .u8 0),1,1):=by kernel_rfl
theorem aJO {w:World} {b:Nat} {o:Obj} (h:w.heap[b]? = some o):b<w.heap.size:=by
 rcases Nat.lt_or_ge b w.heap.size with h'|h'
 ·exact h'
 ·simp [Array.getElem?_eq_none h'] at h
theorem aJP (B b:Nat) (bs:List Value) (c:Int) (w:World) (h:Holds B b bs w) (hlen:bs.length+1<=140737488355328) (hBw:B<=w.heap.size) :
  Calls prog 227 #[.pointer (some ⟨b,0,none⟩),.int .u8 c] w fun e w'=>e=.returned .nilIface/\(Holds B b (bs ++ [.int .u8 c]) w'/\Below B w w'):=by
 obtain ⟨i0,hi,hz0,hz1,hz2⟩:=info_parts aEK
 go_enter func227,ntmps227
 go_wp2_with (go_at_call 250;refine (sM B b bs _ h).mono ?_)
 rintro e w1 ⟨rfl,h1,hb1⟩;obtain ⟨hB,v,hbk,hown,hne⟩:=h1;have c0:w1.cell? ⟨b,0,none⟩=some (.pointer (some ⟨b,0,none⟩)):=by rw [Lib.cell_of_heap hbk];rfl
 have c1:w1.cell? ⟨b,1,none⟩=some v:=by rw [Lib.cell_of_heap hbk];rfl
 have z1:=hb1.size
 go_wp2_with (at_builtin;refine wpList_append_own _ rfl _ _ 22 rfl B 5 i0 (.int .u8 0) 1 1 underlying22 hi hz0 hz1 hz2 rfl (by decide) _ _ _ rfl (hown.alloc _) ⟨w1.heap.size,0,none⟩ 1 1 [.int .u8 c] rfl rfl ?c1 ?c2 ?c3 ?c4 ?c5 ?_)
 case c1 =>
  intro j u hj
  match j,hj with
  | 0,hj=>simp at hj;subst hj;simp [Addr.add]
 case c2=>intro u hu;simp at hu;subst hu;rfl
 case c3=>unfold maxLen;omega
 case c4=>omega
 case c5=>simp;omega
 intro v' w2 hown' hgrow _;have hlt:=aJO hbk;have hb2:w2.heap[b]? = some (.cells #[.pointer (some ⟨b,0,none⟩),v] 195 (0,0)):=by
  rw [hgrow.block b (by simp;omega) (fun e=>hne e.symm),Lib.alloc_old w1 _ b hlt];exact hbk
 have d0:w2.cell? ⟨b,0,none⟩=some (.pointer (some ⟨b,0,none⟩)):=by rw [Lib.cell_of_heap hb2];rfl
 have d1:w2.cell? ⟨b,1,none⟩=some v:=by rw [Lib.cell_of_heap hb2];rfl
 have f1:w2.frozen? ⟨b,1,none⟩=false:=Lib.frozen_of_heap hb2 1;obtain ⟨g,cap,rfl⟩ : ∃ g cap,v'=.slice (some ⟨g,0,none⟩) (bs.length+1) cap:=by
  rcases hown'.2 with ⟨_,h0⟩|⟨g,cap,cur,hv,_⟩
  ·omega
  ·exact ⟨g,cap,hv⟩
 go_wp2;go_ret;refine ⟨rfl,.inr ?_,?_⟩
 ·exact Lib.BuilderAt.put (T:=195) (e:=5) hB hb2 (bs':=bs ++ [.int .u8 c]) (by simpa using hown') ne5
 ·exact ((hb1.alloc (by omega) _).grown hgrow (by simp;omega) (fun k hk=>(hown.lt k hk).1)).setCell (p:=⟨b,1,none⟩) hB _
theorem aRN (B b:Nat) (bs:List Value) (s:ByteArray) (w:World) (h:Holds B b bs w) (hlen:bs.length+s.size<=140737488355328) (hBw:B<=w.heap.size) :
  Calls prog 225 #[.pointer (some ⟨b,0,none⟩),.string s] w fun e w'=>e=.returned (.tuple #[.int .i64 s.size,.nilIface])/\(Holds B b (bs ++ Lib.strCells s) w'/\Below B w w'):=by
 obtain ⟨i0,hi,hz0,hz1,hz2⟩:=info_parts aEK
 go_enter func225,ntmps225
 go_wp2_with (go_at_call 250;refine (sM B b bs _ h).mono ?_)
 rintro e w1 ⟨rfl,h1,hb1⟩;obtain ⟨hB,v,hbk,hown,hne⟩:=h1;have c0:w1.cell? ⟨b,0,none⟩=some (.pointer (some ⟨b,0,none⟩)):=by rw [Lib.cell_of_heap hbk];rfl
 have c1:w1.cell? ⟨b,1,none⟩=some v:=by rw [Lib.cell_of_heap hbk];rfl
 have z1:=hb1.size
 go_wp2_with (at_builtin;refine Lib.wpList_append_own_string _ rfl _ _ 22 9 rfl B 5 i0 underlying22 underlying9 hi hz0 hz1 hz2 _ _ _ rfl hown s rfl ?c3 ?c4 ?c5 ?_)
 case c3=>unfold maxLen;omega
 case c4=>omega
 case c5=>omega
 intro v' w2 hown' hgrow _;have hlt:=aJO hbk;have hb2:w2.heap[b]? = some (.cells #[.pointer (some ⟨b,0,none⟩),v] 195 (0,0)):=by
  rw [hgrow.block b hlt (fun e=>hne e.symm)];exact hbk
 have d0:w2.cell? ⟨b,0,none⟩=some (.pointer (some ⟨b,0,none⟩)):=by rw [Lib.cell_of_heap hb2];rfl
 have d1:w2.cell? ⟨b,1,none⟩=some v:=by rw [Lib.cell_of_heap hb2];rfl
 have f1:w2.frozen? ⟨b,1,none⟩=false:=Lib.frozen_of_heap hb2 1;obtain ⟨ao,n',cap,rfl⟩ : ∃ ao n' cap,v'=.slice ao n' cap:=by
  rcases hown'.2 with ⟨hv,_⟩|⟨g,cap,cur,hv,_⟩
  ·exact ⟨_,_,_,hv⟩
  ·exact ⟨_,_,_,hv⟩
 go_wp2;go_ret2;refine ⟨rfl,.inr ?_,?_⟩
 ·exact Lib.BuilderAt.put (T:=195) (e:=5) hB hb2 (bs':=bs ++ Lib.strCells s) (by simpa [Lib.strCells_length] using hown') ne5
 ·exact (hb1.grown hgrow (by omega) (fun k hk=>(hown.lt k hk).1)).setCell (p:=⟨b,1,none⟩) hB _
end Bld
namespace Deci
def dec (n:Int) (t:ByteArray):ByteArray:=if n<10 then strOfNums [48+n] ++ t else dec (n / 10) (strOfNums [48+n%10] ++ t)
termination_by n.toNat
decreasing_by omega
theorem kY {n:Int} {t:ByteArray} (h:n<10):dec n t=strOfNums [48+n] ++ t:=by rw [dec,if_pos h]
theorem oB {n:Int} {t:ByteArray} (h:¬ n<10):dec n t=dec (n / 10) (strOfNums [48+n%10] ++ t):=by rw [dec,if_neg h]
theorem cF (x:Int):(strOfNums [x]).size=1:=strOfNums_size _
theorem qF (x:Int) (t:ByteArray):(strOfNums [x] ++ t).size=t.size+1:=by rw [ByteArray.size_append,cF];omega
theorem sN (n:Int) (w:World) (h0:0<=n) (h1:n<=1000000000) :
  Calls prog 105 #[.int .i64 n] w fun e w'=>e=.returned (.string (dec n ⟨#[]⟩))/\Below w.heap.size w w':=by
 have hcv:∀ (u:World) (x:Int),(convert 22 9 (.slice (some ⟨u.heap.size,0,none⟩) 1 1)).run prog (u.alloc (.cells #[.int .u8 x] 5))=.ok (.string (strOfNums [x])) (u.alloc (.cells #[.int .u8 x] 5)):=fun u x =>
  run_convert_bytes_arg _ 22 5 underlying22 underlying5 u.heap.size 0 1 1 [x] rfl (fun i hi=>by
   rw [Nat.zero_add,World.cell?_alloc_new]
   match i,hi with
   | 0,_=>rfl) 9 underlying9
 have hsz:=cF;obtain ⟨r,hr⟩ : ∃ r,r=dec n ⟨#[]⟩:=⟨_,rfl⟩
 rw [<- hr]
 go_enter func105,ntmps105
 go_wp2
 go_loopw [0,3] (fun v t wr=>∃ (m:Int) (s:ByteArray),0<=m/\(s.size:Int)+m<=n/\v=.int .i64 m/\t=.string s/\Hid (r=dec m s)/\Hid (Below w.heap.size w wr)) (fun v _ _=>(intOf v).toNat)
 case atStart=>exact ⟨n,⟨#[]⟩,h0,by show ((0:Nat):Int)+n<=n;omega,rfl,rfl,hr,Below.refl _ _⟩
 case round =>
  clear hr;obtain ⟨m,s,hm0,hm1,rfl,rfl,hr,hb⟩:=hrel
  by_cases hlt:10<=m
  ·have HR:Hid (r=dec (m / 10) (strOfNums [48+m%10] ++ s)):=by have:=hr.out;rw [oB (by omega)] at this;exact this
   clear hr;go_wp2
   go_roundw
   case rel=>exact ⟨m / 10,strOfNums [48+m%10] ++ s,by omega,by rw [qF];omega,rfl,rfl,HR,hb.out.alloc hb.out.size _⟩
   case measure=>simp [intOf];omega
  ·have HR:Hid (r=strOfNums [48+m] ++ s):=by have:=hr.out;rw [kY (by omega)] at this;exact this
   clear hr;go_wp2;go_ret;exact ⟨by rw [HR.out];rfl,hb.out.alloc hb.out.size _⟩
def iK (n:Int):ByteArray:=if n<0 then (if -n<10 then strOfNums [45,48+-n] else if -n<100 then strOfNums [45,48+-n / 10,48+-n%10] else strOfNums [45,48+-n / 100,48+-n / 10%10,48+-n%10])
 else if n<10 then strOfNums [48+n] else if n<100 then strOfNums [48+n / 10,48+n%10] else strOfNums [48+n / 100,48+n / 10%10,48+n%10]
theorem cat (a b:List Int):strOfNums a ++ strOfNums b=strOfNums (a ++ b):=by
 apply ByteArray.ext
 simp [strOfNums,ByteArray.data_append]
theorem kZ:(⟨#[]⟩ : ByteArray)=strOfNums []:=rfl
theorem tT {n:Int} (h0:0<=n) (h1:n<1000):dec n ⟨#[]⟩=(if n<10 then strOfNums [48+n] else if n<100 then strOfNums [48+n / 10,48+n%10] else strOfNums [48+n / 100,48+n / 10%10,48+n%10]):=by
 rw [kZ]
 by_cases h2:n<10
 ·rw [if_pos h2,kY h2,cat];rfl
 rw [if_neg h2,oB h2,cat]
 by_cases h3:n<100
 ·rw [if_pos h3,kY (by omega),cat];rfl
 ·rw [if_neg h3,oB (by omega),cat,kY (by omega),cat,show n / 10 / 10=n / 100 by omega];rfl
theorem aJQ:∀ k:Fin 256,(⟨(Lib.itoa ((k.val:Int)-128)).toArray⟩ : ByteArray)=iK ((k.val:Int)-128):=by decide +kernel
theorem aRO {n:Int} (h0:-128<=n) (h1:n<=127):(⟨(Lib.itoa n).toArray⟩ : ByteArray)=iK n:=by
 have:=aJQ ⟨(n+128).toNat,by omega⟩
 rwa [show (((⟨(n+128).toNat,by omega⟩ : Fin 256).val:Int)-128)=n by show (((n+128).toNat:Nat):Int)-128=n;omega] at this
theorem tR (n:Int) (w:World) (h0:-128<=n) (h1:n<=127) :
  Calls prog 105 #[.int .i64 n] w fun e w'=>e=.returned (.string (iK n))/\Below w.heap.size w w':=by
 by_cases hn:n<0
 ·have c:=fun w=>sN (-n) w (by omega) (by omega)
  have e:iK n=strOfNums [45] ++ dec (-n) ⟨#[]⟩:=by
   rw [tT (by omega) (by omega)];unfold iK;rw [if_pos hn];split
   ·rw [cat];rfl
   ·split
    ·rw [cat];rfl
    ·rw [cat];rfl
  have hz:(dec (-n) ⟨#[]⟩).size<=3:=by
   rw [tT (by omega) (by omega)]
   repeat' split
   all_goals (rw [strOfNums_size];simp)
  rw [e];generalize dec (-n) ⟨#[]⟩=S at c hz
  have hk:wrap64 (-n) = -n:=by unfold wrap64;omega
  have hm:(⟨#[45]⟩ : ByteArray)=strOfNums [45]:=rfl
  go_enter func105,ntmps105
  go_wp2_with fail
  refine (c _).mono ?_;rintro e w1 ⟨rfl,b1⟩;have B1:Hid (Below w.heap.size w w1):=b1;clear b1 hm;go_wp2;go_ret;exact ⟨rfl,B1.out⟩
 ·refine (sN n w (by omega) (by omega)).mono ?_
  rintro e w' ⟨rfl,hb⟩;refine ⟨?_,hb⟩;rw [tT (by omega) (by omega)];unfold iK;rw [if_neg hn]
end Deci
namespace Marks
open Go.Deep
open Txts (aEG)
def dg (n:Int) (t:ByteArray):ByteArray:=if n<=0 then t else dg (n / 10) (strOfNums [48+n%10] ++ t)
termination_by n.toNat
decreasing_by omega
theorem aZE {n:Int} {t:ByteArray} (h:n<=0):dg n t=t:=by rw [dg,if_pos h]
theorem aRP {n:Int} {t:ByteArray} (h:¬ n<=0):dg n t=dg (n / 10) (strOfNums [48+n%10] ++ t):=by rw [dg,if_neg h]
def mark (k:Int):ByteArray:=⟨#[109]⟩ ++ dg k ⟨#[]⟩
theorem cF (x:Int):(strOfNums [x]).size=1:=strOfNums_size _
theorem qF (x:Int) (t:ByteArray):(strOfNums [x] ++ t).size=t.size+1:=by rw [ByteArray.size_append,cF];omega
theorem mI (n:Int) (w:World) (h0:0<n) (h1:n<=1000000000) :
  Calls prog 68 #[.int .i64 n] w fun e w'=>e=.returned (.string (mark n))/\Below w.heap.size w w':=by
 have hcv:∀ (u:World) (x:Int),(convert 22 9 (.slice (some ⟨u.heap.size,0,none⟩) 1 1)).run prog (u.alloc (.cells #[.int .u8 x] 5))=.ok (.string (strOfNums [x])) (u.alloc (.cells #[.int .u8 x] 5)):=fun u x =>
  run_convert_bytes_arg _ 22 5 underlying22 underlying5 u.heap.size 0 1 1 [x] rfl (fun i hi=>by
   rw [Nat.zero_add,World.cell?_alloc_new]
   match i,hi with
   | 0,_=>rfl) 9 underlying9
 have hsz:=cF;obtain ⟨r,hr⟩ : ∃ r,r=dg n ⟨#[]⟩:=⟨_,rfl⟩
 have hm:mark n=⟨#[109]⟩ ++ r:=by rw [hr];rfl
 rw [hm];clear hm
 go_enter func68,ntmps68
 go_wp2
 go_loopw [0,3] (fun v t wr=>∃ (m:Int) (s:ByteArray),0<=m/\(s.size:Int)+m<=n/\v=.int .i64 m/\t=.string s/\Hid (r=dg m s)/\Hid (Below w.heap.size w wr)) (fun v _ _=>(intOf v).toNat)
 case atStart=>exact ⟨n,⟨#[]⟩,by omega,by show ((0:Nat):Int)+n<=n;omega,rfl,rfl,hr,Below.refl _ _⟩
 case round =>
  clear hr;obtain ⟨m,s,hm0,hm1,rfl,rfl,hr,hb⟩:=hrel
  by_cases hlt:0<m
  ·have HR:Hid (r=dg (m / 10) (strOfNums [48+m%10] ++ s)):=by have:=hr.out;rw [aRP (by omega)] at this;exact this
   clear hr;go_wp2
   go_roundw
   case rel=>exact ⟨m / 10,strOfNums [48+m%10] ++ s,by omega,by rw [qF];omega,rfl,rfl,HR,hb.out.alloc hb.out.size _⟩
   case measure=>simp [intOf];omega
  ·have HR:Hid (r=s):=by have:=hr.out;rw [aZE (by omega)] at this;exact this
   clear hr;go_wp2;go_ret;exact ⟨by rw [HR.out];rfl,hb.out⟩
def fI (m:Int) (i:Nat):List Value:=(List.range i).map fun (j:Nat)=>Value.string (mark (m+(j:Int)))
def gP (m:Int) (i:Nat) (L:List Value):List Value:=fI m i ++ L.drop i
theorem hM (m:Int) (i:Nat):(fI m i).length=i:=by unfold fI;simp
theorem aRQ {m:Int} {i:Nat} {L:List Value} (h:i<L.length):(gP m i L)[i]? = some L[i]:=by
 unfold gP;rw [List.getElem?_append_right (by rw [hM];exact Nat.le_refl _),hM,Nat.sub_self,List.getElem?_drop]
 simp [h]
theorem aRR {m:Int} {i:Nat} {L:List Value} (h:i<L.length):(gP m i L).set i (.string (mark (m+i)))=gP m (i+1) L:=by
 unfold gP;rw [List.set_append_right _ _ (by rw [hM];exact Nat.le_refl _),hM,Nat.sub_self,List.drop_eq_getElem_cons h,List.set_cons_zero];unfold fI;rw [List.range_succ,List.map_append,List.append_assoc]
 rfl
theorem mid_end {m:Int} {i:Nat} {L:List Value} (h:¬ i<L.length) (hi:i<=L.length):gP m i L=fI m L.length:=by
 have e:i=L.length:=by omega
 subst e;unfold gP;rw [List.drop_length,List.append_nil]
theorem kK {w w1:World} (hb:Below w.heap.size w w1) (row:Option Nat):w.grownBy w1 row:=⟨hb.os,hb.tape,hb.output,hb.size,fun k hk _=>hb.block k hk⟩
theorem own_below {w w1:World} {base:Nat} {e:TypeId} {size:Nat} {v:Value} {n:Nat} {xs:List Value} (h:w.ownsRow base e size v n xs) (hb:Below w.heap.size w w1):w1.ownsRow base e size v n xs :=
 h.kept (kK hb none) (by cases hv:Value.ownBlock v <;> simp)
theorem aFU (w:World) (g i:Nat) (u:Value):w.grownBy (w.setCell ⟨g,i,none⟩ u) (some g) :=
 ⟨rfl,rfl,rfl,by simp [World.setCell],fun k _ hk=>Below.heap_setCell _ _ _ _ (fun e=>hk (by rw [e]))⟩
theorem pR (v:Value) (n:Nat) (L:List Value) (base:Nat) (w:World) (hown:w.ownsRow base 9 1 v n L) (hn:n<=10000000) :
  Calls prog 30 #[v,.int .i64 1] w fun e w'=>e=.returned (.int .i64 (1+n))/\w'.ownsRow base 9 1 v n (fI 1 n)/\w.grownBy w' v.ownBlock:=by
 have hL:L.length=n:=by have:=hown.1;omega
 rcases hown.2 with ⟨rfl,rfl⟩|⟨g,cap,cur,rfl,hbg,hg,hnc,hcm,hcs,htake⟩
 ·go_enter func30,ntmps30
  go_wp2
  go_loopw [1,5] (fun k i wr=>k=.int .i64 1/\i=.int .i64 0/\wr=w) (fun _ _ _=>0)
  case atStart=>exact ⟨rfl,rfl,rfl⟩
  case round =>
   obtain ⟨rfl,rfl,rfl⟩:=hrel;go_wp2;go_ret;exact ⟨rfl,World.ownsRow_nil _ _ _ _,World.grownBy.refl _ _⟩
 clear hg hcs htake hcm;have HO:Hid (w.ownsRow base 9 1 (.slice (some ⟨g,0,none⟩) n cap) n L):=hown;have HL:Hid (L.length=n):=hL;clear hown hL
 go_enter func30,ntmps30
 go_wp2
 go_loopw [1,5] (fun c i wr=>∃ k:Nat,k<=n/\i=.int .i64 k/\c=.int .i64 (1+(k:Int))/\Hid (wr.ownsRow base 9 1 (.slice (some ⟨g,0,none⟩) n cap) n (gP 1 k L))/\Hid (w.grownBy wr (some g))) (fun _ i _=>n-(intOf i).toNat)
 case atStart=>exact ⟨0,Nat.zero_le _,rfl,rfl,HO.out,World.grownBy.refl _ _⟩
 case round =>
  obtain ⟨k,hk,rfl,rfl,hown,hgr⟩:=hrel;clear HO
  by_cases hlt:k<n
  ·have hkL:k<L.length:=by have:=HL.out;omega
   have cm:=fun w=>mI (1+(k:Int)) w (by omega) (by omega)
   obtain ⟨t,ht⟩ : ∃ t,t=mark (1+(k:Int)):=⟨_,rfl⟩
   have HS:Hid ((gP 1 k L).set k (.string t)=gP 1 (k+1) L):=by rw [ht];exact aRR hkL
   rw [<- ht] at cm
   clear ht
   go_wp2_with fail
   refine (cm _).mono ?_;rintro e w1 ⟨rfl,hb1⟩;have own1:=own_below hown.out hb1;have c0:w1.cell? ⟨g,k,none⟩=some L[k]:=(own1.cellAt k (by omega)).trans (aRQ hkL);have f0:w1.frozen? ⟨g,k,none⟩=false:=own1.frozenAt k;have hst:=own1.stored k (.string t);rw [HS.out] at hst
   have OW:=(show Hid _ from hst.1);have GR:Hid (w.grownBy (w1.setCell ⟨g,k,none⟩ (.string t)) (some g)):=hgr.out.trans ((kK hb1 (some g)).trans (aFU _ _ _ _));clear hst own1 hown hgr hb1 cm HS;go_wp2
   go_roundw
   case rel=>exact ⟨k+1,by omega,by go_num,by go_num,OW.out,GR.out⟩
   case measure=>simp [intOf];omega
  ·have e:k=n:=by omega
   subst e;have HM:Hid (gP 1 k L=fI 1 k):=(mid_end (by have:=HL.out;omega) (by have:=HL.out;omega)).trans (by rw [HL.out]);go_wp2;go_ret;exact ⟨rfl,by rw [<- HM.out];exact hown.out,hgr.out⟩
theorem pS (v:Value) (n:Nat) (base:Nat) (w:World) (hown:w.ownsRow base 9 1 v n (fI 1 n)) (hn:n<=10000000) :
  Calls prog 31 #[v,.int .i64 1] w fun e w'=>e=.returned (.int .i64 (1+n))/\Below w.heap.size w w':=by
 rcases hown.2 with ⟨rfl,rfl⟩|⟨g,cap,cur,rfl,hbg,hg,hnc,hcm,hcs,htake⟩
 ·go_enter func31,ntmps31
  go_wp2
  go_loopw [1,5] (fun k i wr=>k=.int .i64 1/\i=.int .i64 0/\wr=w) (fun _ _ _=>0)
  case atStart=>exact ⟨rfl,rfl,rfl⟩
  case round =>
   obtain ⟨rfl,rfl,rfl⟩:=hrel;go_wp2;go_ret;exact ⟨rfl,Below.refl _ _⟩
 have hgl:g<w.heap.size:=(zLo hg);clear hg hcs htake hcm;have HO:Hid (∀ k,k<n->w.cell? ⟨g,k,none⟩=some (.string (mark (1+(k:Int))))):=fun k hk=>(hown.cellAt k (by omega)).trans (by unfold fI;simp [hk])
 clear hown
 go_enter func31,ntmps31
 go_wp2
 go_loopw [1,5] (fun c i wr=>∃ k:Nat,k<=n/\i=.int .i64 k/\c=.int .i64 (1+(k:Int))/\Hid (Below w.heap.size w wr)) (fun _ i _=>n-(intOf i).toNat)
 case atStart=>exact ⟨0,Nat.zero_le _,rfl,rfl,Below.refl _ _⟩
 case round =>
  obtain ⟨k,hk,rfl,rfl,hbel⟩:=hrel
  by_cases hlt:k<n
  ·have cm:=fun w=>mI (1+(k:Int)) w (by omega) (by omega)
   have c0:wr.cell? ⟨g,k,none⟩=some (.string (mark (1+(k:Int)))):=(hbel.out.cell (p:=⟨g,_,none⟩) hgl).trans (HO.out k hlt);have hgr:g<wr.heap.size:=Nat.lt_of_lt_of_le hgl hbel.out.size;generalize mark (1+(k:Int))=t at cm c0
   have k0:(0:Int)<=(k:Int):=by omega
   have k1:(k:Int)<(n:Int):=by omega
   clear HO
   go_wp2_with fail
   go_region_with (go_at_call 68;refine (cm _).mono ?_;rintro e w1 ⟨rfl,hb1⟩;have c1:w1.cell? ⟨g,k,none⟩=some (.string t):=(hb1.cell (p:=⟨g,k,none⟩) hgr).trans c0;have b1:Hid (Below w.heap.size w w1):=hbel.out.trans (Below.mono ⟨hb1.os,hb1.tape,hb1.output,hb1.size,hb1.block⟩ hbel.out.size);clear hb1)
   all_goals go_wp2
   all_goals go_roundw
   all_goals first
    | (case rel=>exact ⟨k+1,by omega,by go_num,by go_num,by first|exact b1.out|exact b1.out.drew|exact below_drewN b1.out _⟩)
    | skip
   all_goals first
    | (case measure=>simp [intOf];omega)
    | skip
  ·have e:k=n:=by omega
   subst e;clear HO;go_wp2;go_ret;exact ⟨rfl,hbel.out⟩
end Marks
end Go.Proofs.YteglcgnhhoenbaaGreatDoor
