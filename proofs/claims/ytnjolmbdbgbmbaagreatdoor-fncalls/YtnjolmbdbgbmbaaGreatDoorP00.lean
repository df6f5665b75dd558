/-
  Contracts and facts of ours, joined: Signed, Carts, CartK, CartL, CartM, CartN, CartR, CartP.
-/
import Derived.Test.YtnjolmbdbgbmbaaGreatDoorRows
import Derived.WalkKit
import Derived.ProofKit
import Derived.OpenShut
import Derived.BigQuiet
import Derived.Deep.RegionWith
import Derived.Deep.QuietTactic
import Derived.Below
import Derived.Deep.Strs
import Derived.WalkSmall
import Derived.Laws.IdiomStrings
import Derived.Laws.OwnMore
set_option linter.unusedVariables false
set_option linter.unusedSimpArgs false
set_option maxRecDepth 20000
set_option maxHeartbeats 8000000
open Go.ChangeShapes Go.WideShapes Go.ChangeAt Go.RowKit
open Go.Proofs.Tryz
namespace Go.Proofs.YtnjolmbdbgbmbaaGreatDoor
theorem zHd {p:Prop} (h:p):Hid p:=h
theorem zRf {B:Nat} {w:World}:Below B w w:=Below.refl _ _
theorem zAl (w:World) (o:Obj):Below w.heap.size w (w.alloc o):=(Below.refl _ _).alloc (Nat.le_refl _) o
theorem zLo {w:World} {b:Nat} {o:Obj} (h:w.heap[b]?=some o):b<w.heap.size:=(Array.getElem?_eq_some_iff.1 h).1
end Go.Proofs.YtnjolmbdbgbmbaaGreatDoor
namespace Go.Proofs.YtnjolmbdbgbmbaaGreatDoor.Signed
def inB (n low high:Int):Bool:=decide (low<=n/\n<=high)
def sgn (b:Int):Int:=if b<0 \/ 255<b then 0 else if 127<b then b-256 else b
theorem ret_int {k:IntKind} {a b:Int} (h:a=b):Ending.returned (.int k a)=.returned (.int k b):=by rw [h]
theorem ret_bool {a b:Bool} (h:a=b):Ending.returned (.bool a)=.returned (.bool b):=by rw [h]
theorem isByte_any (n:Int) (w:World) :
  Calls prog 107 #[.int .i64 n] w fun e w'=>e=.returned (.bool (inB n 0 255))/\w'=w:=by
 go_enter func107,ntmps107
 go_wp2
 all_goals go_ret
 all_goals exact ⟨ret_bool (by rw [Bool.eq_iff_iff];simp [inB];try omega),rfl⟩
theorem l1In_any (n low high:Int) (w:World) :
  Calls prog 43 #[.int .i64 n,.int .i64 low,.int .i64 high] w fun e w'=>e=.returned (.bool (inB n low high))/\w'=w:=by
 go_enter func43,ntmps43
 go_wp2
 all_goals go_ret
 all_goals exact ⟨ret_bool (by rw [Bool.eq_iff_iff];simp [inB];try omega),rfl⟩
theorem implSigned_any (b:Int) (w:World) :
  Calls prog 196 #[.int .i64 b] w fun e w'=>e=.returned (.int .i64 (sgn b))/\w'=w:=by
 have hb:(b<0 \/ 255<b) \/ (0<=b/\b<=127) \/ (127<b/\b<=255):=by omega
 rcases hb with h|⟨h,h'⟩|⟨h,h'⟩
 ·have hi:inB b 0 255=false:=decide_eq_false (by omega)
  have hs:sgn b=0:=by unfold sgn;rw [if_pos h]
  go_enter func196,ntmps196
  go_wp2_with (go_at_call 107;refine (isByte_any _ _).mono ?_;rintro e w' ⟨rfl,rfl⟩)
  go_ret
  first|exact ⟨rfl,rfl⟩|exact ⟨ret_int hs.symm,rfl⟩
 ·have hi:inB b 0 255=true:=decide_eq_true (by omega)
  have hs:sgn b=b:=by unfold sgn;rw [if_neg (by omega),if_neg (by omega)]
  go_enter func196,ntmps196
  go_wp2_with (go_at_call 107;refine (isByte_any _ _).mono ?_;rintro e w' ⟨rfl,rfl⟩)
  go_ret
  first|exact ⟨rfl,rfl⟩|exact ⟨ret_int hs.symm,rfl⟩
 ·have hi:inB b 0 255=true:=decide_eq_true (by omega)
  have hs:sgn b=b-256:=by unfold sgn;rw [if_neg (by omega),if_pos h]
  go_enter func196,ntmps196
  go_wp2_with (go_at_call 107;refine (isByte_any _ _).mono ?_;rintro e w' ⟨rfl,rfl⟩)
  go_ret
  first|exact ⟨rfl,rfl⟩|exact ⟨ret_int hs.symm,rfl⟩
end Go.Proofs.YtnjolmbdbgbmbaaGreatDoor.Signed
namespace Go.Proofs.YtnjolmbdbgbmbaaGreatDoor.Carts
open Signed (inB ret_int ret_bool isByte_any l1In_any)
def banks (n:Nat):Int:=if n%256=0/\512<=n/\n<=4096 then n / 256 else 0
def romB (n:Nat):Bool:=decide (n%256=0/\512<=n/\n<=4096)
def heldB (kind bank rb:Int) (on:Bool) (mode:Int):Bool :=
 if kind=0 then decide (bank=1/\rb=0/\mode=0/\on=false)
 else if kind=1 then inB bank 1 31 && inB rb 0 3 && inB mode 0 1
 else if kind=2 then inB bank 0 255 && inB rb 0 3 && mode == 0
 else false
def okB (rom:ByteArray) (kind bank:Int) (ram:ByteArray) (rb:Int) (on:Bool) (mode:Int):Bool:=heldB kind bank rb on mode && romB rom.size && ram.size == 256
def mapV (kind:Int):Value :=
 if kind=0 then .iface 162 (.agg #[])
 else if kind=1 then .iface 163 (.agg #[])
 else if kind=2 then .iface 164 (.agg #[])
 else .nilIface
theorem isRamBank_any (n:Int) (w:World) :
  Calls prog 288 #[.int .i64 n] w fun e w'=>e=.returned (.bool (inB n 0 3))/\w'=w:=by
 go_enter func288,ntmps288
 go_wp2
 all_goals go_ret
 all_goals exact ⟨ret_bool (by rw [Bool.eq_iff_iff];simp [inB];try omega),rfl⟩
theorem mapperOf_any (n:Int) (w:World) :
  Calls prog 105 #[.int .i64 n] w fun e w'=>e=.returned (mapV n)/\w'=w:=by
 go_enter func105,ntmps105
 go_wp2
 all_goals go_ret
 all_goals exact ⟨by congr 1;unfold mapV;simp_all,rfl⟩
theorem romOk_any (rom:ByteArray) (w:World) (hs:rom.size<=maxLen) :
  Calls prog 106 #[.string rom] w fun e w'=>e=.returned (.bool (romB rom.size))/\w'=w:=by
 have hs':rom.size<=9223372036854775807:=by unfold maxLen at hs;omega
 go_enter func106,ntmps106
 go_wp2
 all_goals go_ret
 all_goals exact ⟨ret_bool (by rw [Bool.eq_iff_iff];simp [romB];try omega),rfl⟩
theorem l5Banks_any (rom:ByteArray) (w:World) (hs:rom.size<=maxLen) :
  Calls prog 108 #[.string rom] w fun e w'=>e=.returned (.int .i64 (banks rom.size))/\w'=w:=by
 have hs':rom.size<=9223372036854775807:=by unfold maxLen at hs;omega
 go_enter func108,ntmps108
 go_wp2_with (go_at_call 43;refine (l1In_any _ _ _ _).mono ?_;rintro e w' ⟨rfl,rfl⟩)
 all_goals go_ret
 all_goals exact ⟨ret_int (by unfold banks;simp_all [inB];try omega),rfl⟩
theorem m0 (w:World):(method 319 162 (.agg #[]) "loop.example/g00460/impl.holds").run prog w=.ok (286,.agg #[]) w:=by kernel_rfl
theorem m1 (w:World):(method 319 163 (.agg #[]) "loop.example/g00460/impl.holds").run prog w=.ok (287,.agg #[]) w:=by kernel_rfl
theorem m2 (w:World):(method 319 164 (.agg #[]) "loop.example/g00460/impl.holds").run prog w=.ok (289,.agg #[]) w:=by kernel_rfl
theorem plainHolds_any (rom:ByteArray) (kind bank:Int) (ram:ByteArray) (rb:Int) (on:Bool) (mode:Int) (w:World) :
  Calls prog 286 #[.agg #[],.agg #[.string rom,.int .i64 kind,.int .i64 bank,.string ram,.int .i64 rb,.bool on,.int .i64 mode]] w fun e w'=>e=.returned (.bool (decide (bank=1/\rb=0/\mode=0/\on=false)))/\w'=(w.alloc (.cells #[] 162)).alloc (.cells #[.string rom,.int .i64 kind,.int .i64 bank,.string ram,.int .i64 rb,.bool on,.int .i64 mode] 31):=by
 go_enter func286,ntmps286
 go_wp2
 all_goals go_ret
 all_goals exact ⟨ret_bool (by rw [Bool.eq_iff_iff];simp_all),by first|rfl|simp_all⟩
theorem oneHolds_any (rom:ByteArray) (kind bank:Int) (ram:ByteArray) (rb:Int) (on:Bool) (mode:Int) (w:World) :
  Calls prog 287 #[.agg #[],.agg #[.string rom,.int .i64 kind,.int .i64 bank,.string ram,.int .i64 rb,.bool on,.int .i64 mode]] w fun e w'=>e=.returned (.bool (inB bank 1 31 && inB rb 0 3 && inB mode 0 1))/\w'=(w.alloc (.cells #[] 163)).alloc (.cells #[.string rom,.int .i64 kind,.int .i64 bank,.string ram,.int .i64 rb,.bool on,.int .i64 mode] 31):=by
 go_enter func287,ntmps287
 go_wp2_with (go_at_call 288;refine (isRamBank_any _ _).mono ?_;rintro e w' ⟨rfl,rfl⟩)
 all_goals go_ret
 all_goals exact ⟨ret_bool (by rw [Bool.eq_iff_iff];simp_all [inB] <;> omega),by first|rfl|simp_all⟩
theorem fiveHolds_any (rom:ByteArray) (kind bank:Int) (ram:ByteArray) (rb:Int) (on:Bool) (mode:Int) (w:World) :
  Calls prog 289 #[.agg #[],.agg #[.string rom,.int .i64 kind,.int .i64 bank,.string ram,.int .i64 rb,.bool on,.int .i64 mode]] w fun e w'=>e=.returned (.bool (inB bank 0 255 && inB rb 0 3 && mode == 0))/\w'=(w.alloc (.cells #[] 164)).alloc (.cells #[.string rom,.int .i64 kind,.int .i64 bank,.string ram,.int .i64 rb,.bool on,.int .i64 mode] 31):=by
 go_enter func289,ntmps289
 go_wp2_with (first|(go_at_call 288;refine (isRamBank_any _ _).mono ?_;rintro e w' ⟨rfl,rfl⟩)|(go_at_call 107;refine (isByte_any _ _).mono ?_;rintro e w' ⟨rfl,rfl⟩))
 all_goals go_ret
 all_goals exact ⟨ret_bool (by rw [Bool.eq_iff_iff];simp_all [inB] <;> omega),by first|rfl|simp_all⟩
end Go.Proofs.YtnjolmbdbgbmbaaGreatDoor.Carts
namespace Go.Proofs.YtnjolmbdbgbmbaaGreatDoor.CartK
open Signed (inB ret_int ret_bool isByte_any l1In_any)
open Carts
theorem mapperOf_0 (w:World):Calls prog 105 #[.int .i64 0] w fun e w'=>e=.returned (.iface 162 (.agg #[]))/\w'=w:=mapperOf_any 0 w
theorem cartOk_0 (rom:ByteArray) (bank:Int) (ram:ByteArray) (rb:Int) (on:Bool) (mode:Int) (w:World) (hs:rom.size<=maxLen) (hr:ram.size<=maxLen) (b1 b2:Bool) (h1:(decide (bank=1/\rb=0/\mode=0/\on=false))=b1) (h2:romB rom.size=b2) :
  Calls prog 69 #[.agg #[.string rom,.int .i64 0,.int .i64 bank,.string ram,.int .i64 rb,.bool on,.int .i64 mode]] w fun e w'=>e=.returned (.bool (b1 && b2 && ram.size == 256))/\w'=((w.alloc (.cells #[.string rom,.int .i64 0,.int .i64 bank,.string ram,.int .i64 rb,.bool on,.int .i64 mode] 31)).alloc (.cells #[] 162)).alloc (.cells #[.string rom,.int .i64 0,.int .i64 bank,.string ram,.int .i64 rb,.bool on,.int .i64 mode] 31):=by
 have c1:=fun w=>plainHolds_any rom 0 bank ram rb on mode w
 have c2:=fun w=>romOk_any rom w hs
 rw [h1] at c1
 rw [h2] at c2
 have m:=m0
 have e3:decide ((ram.size:Int)=256)=(ram.size == 256):=by rw [Bool.eq_iff_iff];simp;try omega
 have hr':ram.size<=9223372036854775807:=by unfold maxLen at hr;omega
 clear h1 h2 hr hs
 cases b1 <;> cases b2
 all_goals
  go_enter func69,ntmps69
  go_wp2_with first|(go_at_call 105;refine (mapperOf_0 _).mono ?_;rintro e w' ⟨rfl,rfl⟩)|(go_at_call 286;refine (c1 _).mono ?_;rintro e w' ⟨rfl,rfl⟩)|(go_at_call 106;refine (c2 _).mono ?_;rintro e w' ⟨rfl,rfl⟩)
  all_goals go_ret
  all_goals first|exact ⟨rfl,rfl⟩|exact ⟨ret_bool e3,rfl⟩|exact ⟨ret_bool (by rw [Bool.eq_iff_iff];simp;try omega),rfl⟩
theorem mapperOf_1 (w:World):Calls prog 105 #[.int .i64 1] w fun e w'=>e=.returned (.iface 163 (.agg #[]))/\w'=w:=mapperOf_any 1 w
theorem cartOk_1 (rom:ByteArray) (bank:Int) (ram:ByteArray) (rb:Int) (on:Bool) (mode:Int) (w:World) (hs:rom.size<=maxLen) (hr:ram.size<=maxLen) (b1 b2:Bool) (h1:(inB bank 1 31 && inB rb 0 3 && inB mode 0 1)=b1) (h2:romB rom.size=b2) :
  Calls prog 69 #[.agg #[.string rom,.int .i64 1,.int .i64 bank,.string ram,.int .i64 rb,.bool on,.int .i64 mode]] w fun e w'=>e=.returned (.bool (b1 && b2 && ram.size == 256))/\w'=((w.alloc (.cells #[.string rom,.int .i64 1,.int .i64 bank,.string ram,.int .i64 rb,.bool on,.int .i64 mode] 31)).alloc (.cells #[] 163)).alloc (.cells #[.string rom,.int .i64 1,.int .i64 bank,.string ram,.int .i64 rb,.bool on,.int .i64 mode] 31):=by
 have c1:=fun w=>oneHolds_any rom 1 bank ram rb on mode w
 have c2:=fun w=>romOk_any rom w hs
 rw [h1] at c1
 rw [h2] at c2
 have m:=m1
 have e3:decide ((ram.size:Int)=256)=(ram.size == 256):=by rw [Bool.eq_iff_iff];simp;try omega
 have hr':ram.size<=9223372036854775807:=by unfold maxLen at hr;omega
 clear h1 h2 hr hs
 cases b1 <;> cases b2
 all_goals
  go_enter func69,ntmps69
  go_wp2_with first|(go_at_call 105;refine (mapperOf_1 _).mono ?_;rintro e w' ⟨rfl,rfl⟩)|(go_at_call 287;refine (c1 _).mono ?_;rintro e w' ⟨rfl,rfl⟩)|(go_at_call 106;refine (c2 _).mono ?_;rintro e w' ⟨rfl,rfl⟩)
  all_goals go_ret
  all_goals first|exact ⟨rfl,rfl⟩|exact ⟨ret_bool e3,rfl⟩|exact ⟨ret_bool (by rw [Bool.eq_iff_iff];simp;try omega),rfl⟩
theorem mapperOf_2 (w:World):Calls prog 105 #[.int .i64 2] w fun e w'=>e=.returned (.iface 164 (.agg #[]))/\w'=w:=mapperOf_any 2 w
theorem cartOk_2 (rom:ByteArray) (bank:Int) (ram:ByteArray) (rb:Int) (on:Bool) (mode:Int) (w:World) (hs:rom.size<=maxLen) (hr:ram.size<=maxLen) (b1 b2:Bool) (h1:(inB bank 0 255 && inB rb 0 3 && mode == 0)=b1) (h2:romB rom.size=b2) :
  Calls prog 69 #[.agg #[.string rom,.int .i64 2,.int .i64 bank,.string ram,.int .i64 rb,.bool on,.int .i64 mode]] w fun e w'=>e=.returned (.bool (b1 && b2 && ram.size == 256))/\w'=((w.alloc (.cells #[.string rom,.int .i64 2,.int .i64 bank,.string ram,.int .i64 rb,.bool on,.int .i64 mode] 31)).alloc (.cells #[] 164)).alloc (.cells #[.string rom,.int .i64 2,.int .i64 bank,.string ram,.int .i64 rb,.bool on,.int .i64 mode] 31):=by
 have c1:=fun w=>fiveHolds_any rom 2 bank ram rb on mode w
 have c2:=fun w=>romOk_any rom w hs
 rw [h1] at c1
 rw [h2] at c2
 have m:=m2
 have e3:decide ((ram.size:Int)=256)=(ram.size == 256):=by rw [Bool.eq_iff_iff];simp;try omega
 have hr':ram.size<=9223372036854775807:=by unfold maxLen at hr;omega
 clear h1 h2 hr hs
 cases b1 <;> cases b2
 all_goals
  go_enter func69,ntmps69
  go_wp2_with first|(go_at_call 105;refine (mapperOf_2 _).mono ?_;rintro e w' ⟨rfl,rfl⟩)|(go_at_call 289;refine (c1 _).mono ?_;rintro e w' ⟨rfl,rfl⟩)|(go_at_call 106;refine (c2 _).mono ?_;rintro e w' ⟨rfl,rfl⟩)
  all_goals go_ret
  all_goals first|exact ⟨rfl,rfl⟩|exact ⟨ret_bool e3,rfl⟩|exact ⟨ret_bool (by rw [Bool.eq_iff_iff];simp;try omega),rfl⟩
theorem cartOk_no (rom:ByteArray) (kind bank:Int) (ram:ByteArray) (rb:Int) (on:Bool) (mode:Int) (w:World) (h0:¬ kind=0) (h1:¬ kind=1) (h2:¬ kind=2) :
  Calls prog 69 #[.agg #[.string rom,.int .i64 kind,.int .i64 bank,.string ram,.int .i64 rb,.bool on,.int .i64 mode]] w fun e w'=>e=.returned (.bool false)/\w'=w.alloc (.cells #[.string rom,.int .i64 kind,.int .i64 bank,.string ram,.int .i64 rb,.bool on,.int .i64 mode] 31):=by
 have c:=fun w=>mapperOf_any kind w
 have e:mapV kind=.nilIface:=by unfold mapV;simp [h0,h1,h2]
 rw [e] at c
 go_enter func69,ntmps69
 go_wp2_with (go_at_call 105;refine (c _).mono ?_;rintro e w' ⟨rfl,rfl⟩)
 go_ret
 exact ⟨rfl,rfl⟩
theorem banks_no {n:Nat} (h:romB n=false):banks n=0:=by
 unfold romB at h;unfold banks;rw [if_neg (of_decide_eq_false h)]
theorem banks_yes {n:Nat} (h:romB n=true):2<=banks n/\banks n<=16/\banks n=n / 256/\n=256*(n / 256):=by
 unfold romB at h;have h:=of_decide_eq_true h;unfold banks;rw [if_pos h];omega
theorem specNot1 (rom:ByteArray) (kind bank:Int) (ram:ByteArray) (rb:Int) (on:Bool) (mode:Int) (w:World) (hs:rom.size<=maxLen) (h:romB rom.size=false) :
  Calls prog 73 #[.agg #[.string rom,.int .i64 kind,.int .i64 bank,.string ram,.int .i64 rb,.bool on,.int .i64 mode]] w fun e w'=>e=.returned (.bool false)/\w'=w.alloc (.cells #[.string rom,.int .i64 kind,.int .i64 bank,.string ram,.int .i64 rb,.bool on,.int .i64 mode] 31):=by
 have c:=fun w=>l5Banks_any rom w hs
 rw [banks_no h] at c
 go_enter func73,ntmps73
 go_wp2_with (go_at_call 108;refine (c _).mono ?_;rintro e w' ⟨rfl,rfl⟩)
 go_ret
 exact ⟨rfl,rfl⟩
theorem specNot2 (rom:ByteArray) (kind bank:Int) (ram:ByteArray) (rb:Int) (on:Bool) (mode:Int) (w:World) (hs:rom.size<=maxLen) (hr:ram.size<=maxLen) (h:romB rom.size=true) (h2:¬ ram.size=256) :
  Calls prog 73 #[.agg #[.string rom,.int .i64 kind,.int .i64 bank,.string ram,.int .i64 rb,.bool on,.int .i64 mode]] w fun e w'=>e=.returned (.bool false)/\w'=w.alloc (.cells #[.string rom,.int .i64 kind,.int .i64 bank,.string ram,.int .i64 rb,.bool on,.int .i64 mode] 31):=by
 have c:=fun w=>l5Banks_any rom w hs
 obtain ⟨z0,z1,-,-⟩:=banks_yes h
 obtain ⟨z,hz⟩ : ∃ z,z=banks rom.size:=⟨_,rfl⟩
 rw [<- hz] at c z0 z1
 have hr':ram.size<=9223372036854775807:=by unfold maxLen at hr;omega
 have d0:(z == 0)=false:=by simp;omega
 have d1:((ram.size:Int) != 256)=true:=by simp;omega
 clear hz h hs hr
 go_enter func73,ntmps73
 go_wp2_with (go_at_call 108;refine (c _).mono ?_;rintro e w' ⟨rfl,rfl⟩)
 all_goals go_ret
 all_goals exact ⟨rfl,rfl⟩
theorem specYes (rom:ByteArray) (kind bank:Int) (ram:ByteArray) (rb:Int) (on:Bool) (mode:Int) (w:World) (hs:rom.size<=maxLen) (h:romB rom.size=true) (h2:ram.size=256) :
  Calls prog 73 #[.agg #[.string rom,.int .i64 kind,.int .i64 bank,.string ram,.int .i64 rb,.bool on,.int .i64 mode]] w fun e w'=>e=.returned (.bool (heldB kind bank rb on mode))/\w'=w.alloc (.cells #[.string rom,.int .i64 kind,.int .i64 bank,.string ram,.int .i64 rb,.bool on,.int .i64 mode] 31):=by
 have c:=fun w=>l5Banks_any rom w hs
 obtain ⟨z0,z1,-,-⟩:=banks_yes h
 obtain ⟨z,hz⟩ : ∃ z,z=banks rom.size:=⟨_,rfl⟩
 rw [<- hz] at c z0 z1
 have d0:(z == 0)=false:=by simp;omega
 have d1:((ram.size:Int) != 256)=false:=by simp;omega
 clear hz h
 go_enter func73,ntmps73
 go_wp2_with first|(go_at_call 108;refine (c _).mono ?_;rintro e w' ⟨rfl,rfl⟩)|(go_at_call 43;refine (l1In_any _ _ _ _).mono ?_;rintro e w' ⟨rfl,rfl⟩)
 all_goals clear c h2 hs
 all_goals go_ret
 all_goals exact ⟨ret_bool (by rw [Bool.eq_iff_iff];simp_all [heldB,inB] <;> omega),by first|rfl|simp_all⟩
theorem specOk_any (rom:ByteArray) (kind bank:Int) (ram:ByteArray) (rb:Int) (on:Bool) (mode:Int) (w:World) (hs:rom.size<=maxLen) (hr:ram.size<=maxLen) :
  Calls prog 73 #[.agg #[.string rom,.int .i64 kind,.int .i64 bank,.string ram,.int .i64 rb,.bool on,.int .i64 mode]] w fun e w'=>e=.returned (.bool (okB rom kind bank ram rb on mode))/\w'=w.alloc (.cells #[.string rom,.int .i64 kind,.int .i64 bank,.string ram,.int .i64 rb,.bool on,.int .i64 mode] 31):=by
 cases h:romB rom.size with
 | false =>
  refine (specNot1 rom kind bank ram rb on mode w hs h).mono ?_
  rintro e w' ⟨rfl,rfl⟩
  exact ⟨ret_bool (by simp [okB,h]),rfl⟩
 | true =>
  by_cases h2:ram.size=256
  ·refine (specYes rom kind bank ram rb on mode w hs h h2).mono ?_
   rintro e w' ⟨rfl,rfl⟩
   exact ⟨ret_bool (by simp [okB,h,h2]),rfl⟩
  ·refine (specNot2 rom kind bank ram rb on mode w hs hr h h2).mono ?_
   rintro e w' ⟨rfl,rfl⟩
   exact ⟨ret_bool (by simp [okB,h,h2]),rfl⟩
end Go.Proofs.YtnjolmbdbgbmbaaGreatDoor.CartK
namespace Go.Proofs.YtnjolmbdbgbmbaaGreatDoor.CartL
open Go.Deep
open Signed (inB ret_int ret_bool isByte_any l1In_any)
open Carts CartK
theorem grow {a w:World} (h:Below a.heap.size a w) (o:Obj):Below a.heap.size a (w.alloc o):=h.alloc h.size o
theorem after {a w w':World} (h:Below a.heap.size a w) (k:Below w.heap.size w w'):Below a.heap.size a w':=h.trans (k.mono h.size)
theorem implOk_yes (rom:ByteArray) (kind bank:Int) (ram:ByteArray) (rb:Int) (on:Bool) (mode:Int) (w:World) (hs:rom.size<=maxLen) (hr:ram.size<=maxLen) (h:okB rom kind bank ram rb on mode=true) :
  Calls prog 69 #[.agg #[.string rom,.int .i64 kind,.int .i64 bank,.string ram,.int .i64 rb,.bool on,.int .i64 mode]] w fun e w'=>e=.returned (.bool true)/\∃ T:TypeId,w'=((w.alloc (.cells #[.string rom,.int .i64 kind,.int .i64 bank,.string ram,.int .i64 rb,.bool on,.int .i64 mode] 31)).alloc (.cells #[] T)).alloc (.cells #[.string rom,.int .i64 kind,.int .i64 bank,.string ram,.int .i64 rb,.bool on,.int .i64 mode] 31):=by
 have hh:=h
 simp only [okB,Bool.and_eq_true] at hh
 obtain ⟨⟨h1,h2⟩,h3⟩:=hh
 by_cases k0:kind=0
 ·subst k0
  refine (cartOk_0 rom bank ram rb on mode w hs hr true true (by simpa [heldB] using h1) h2).mono ?_
  rintro e w' ⟨rfl,rfl⟩
  exact ⟨ret_bool (by simpa using h3),_,rfl⟩
 by_cases k1:kind=1
 ·subst k1
  refine (cartOk_1 rom bank ram rb on mode w hs hr true true (by simpa [heldB] using h1) h2).mono ?_
  rintro e w' ⟨rfl,rfl⟩
  exact ⟨ret_bool (by simpa using h3),_,rfl⟩
 by_cases k2:kind=2
 ·subst k2
  refine (cartOk_2 rom bank ram rb on mode w hs hr true true (by simpa [heldB] using h1) h2).mono ?_
  rintro e w' ⟨rfl,rfl⟩
  exact ⟨ret_bool (by simpa using h3),_,rfl⟩
 exfalso
 simp [heldB,k0,k1,k2] at h1
theorem implOk_any (rom:ByteArray) (kind bank:Int) (ram:ByteArray) (rb:Int) (on:Bool) (mode:Int) (w:World) (hs:rom.size<=maxLen) (hr:ram.size<=maxLen) :
  Calls prog 69 #[.agg #[.string rom,.int .i64 kind,.int .i64 bank,.string ram,.int .i64 rb,.bool on,.int .i64 mode]] w fun e w'=>e=.returned (.bool (okB rom kind bank ram rb on mode))/\Below w.heap.size w w':=by
 by_cases k0:kind=0
 ·subst k0
  refine (cartOk_0 rom bank ram rb on mode w hs hr _ _ rfl rfl).mono ?_
  rintro e w' ⟨rfl,rfl⟩
  exact ⟨rfl,((zRf.alloc (by simp) _).alloc (by simp) _).alloc (by simp;try omega) _⟩
 by_cases k1:kind=1
 ·subst k1
  refine (cartOk_1 rom bank ram rb on mode w hs hr _ _ rfl rfl).mono ?_
  rintro e w' ⟨rfl,rfl⟩
  exact ⟨rfl,((zRf.alloc (by simp) _).alloc (by simp) _).alloc (by simp;try omega) _⟩
 by_cases k2:kind=2
 ·subst k2
  refine (cartOk_2 rom bank ram rb on mode w hs hr _ _ rfl rfl).mono ?_
  rintro e w' ⟨rfl,rfl⟩
  exact ⟨rfl,((zRf.alloc (by simp) _).alloc (by simp) _).alloc (by simp;try omega) _⟩
 refine (cartOk_no rom kind bank ram rb on mode w k0 k1 k2).mono ?_
 rintro e w' ⟨rfl,rfl⟩
 exact ⟨ret_bool (by simp [okB,heldB,k0,k1,k2]),zRf.alloc (by simp) _⟩
end Go.Proofs.YtnjolmbdbgbmbaaGreatDoor.CartL
namespace Go.Proofs.YtnjolmbdbgbmbaaGreatDoor
theorem zGr {a w:World} (h:Below a.heap.size a w) (o:Obj):Below a.heap.size a (w.alloc o):=h.alloc h.size o
end Go.Proofs.YtnjolmbdbgbmbaaGreatDoor
namespace Go.Proofs.YtnjolmbdbgbmbaaGreatDoor.CartM
open Go.Deep
open Signed (inB ret_int ret_bool isByte_any l1In_any)
open Carts CartK CartL
theorem right (rom:ByteArray) (kind bank:Int) (ram:ByteArray) (rb:Int) (on:Bool) (mode:Int) (h:okB rom kind bank ram rb on mode=true) :
  ∃ n:Nat,2<=n/\n<=16/\rom.size=256*n/\banks rom.size=n/\ram.size=256/\0<=bank/\bank<=255/\0<=rb/\rb<=3/\0<=mode/\mode<=1/\(kind=0/\on=false \/ kind=1 \/ kind=2/\mode=0):=by
 simp only [okB,Bool.and_eq_true,beq_iff_eq] at h
 obtain ⟨⟨h1,h2⟩,h3⟩:=h
 obtain ⟨z0,z1,z2,z3⟩:=banks_yes h2
 refine ⟨rom.size / 256,by omega,by omega,z3,by omega,h3,?_⟩
 unfold heldB inB at h1
 by_cases k0:kind=0
 ·rw [if_pos k0] at h1
  simp at h1
  obtain ⟨h4,h5,h6,h7⟩:=h1
  exact ⟨by omega,by omega,by omega,by omega,by omega,by omega,.inl ⟨k0,h7⟩⟩
 rw [if_neg k0] at h1
 by_cases k1:kind=1
 ·rw [if_pos k1] at h1
  simp at h1
  omega
 rw [if_neg k1] at h1
 by_cases k2:kind=2
 ·rw [if_pos k2] at h1
  simp at h1
  omega
 rw [if_neg k2] at h1
 cases h1
theorem bankSeen_any (rom:ByteArray) (kind bank:Int) (ram:ByteArray) (rb:Int) (on:Bool) (mode:Int) (w:World) (n:Nat) (n0:2<=n) (n1:n<=16) (hn:rom.size=256*n) (b0:0<=bank) (b1:bank<=255) :
  Calls prog 99 #[.agg #[.string rom,.int .i64 kind,.int .i64 bank,.string ram,.int .i64 rb,.bool on,.int .i64 mode]] w fun e w'=>e=.returned (.int .i64 (bank%n))/\w'=w.alloc (.cells #[.string rom,.int .i64 kind,.int .i64 bank,.string ram,.int .i64 rb,.bool on,.int .i64 mode] 31):=by
 have q:(rom.size:Int) / 256=n:=by omega
 go_enter func99,ntmps99
 go_wp2
 go_ret
 exact ⟨rfl,rfl⟩
end Go.Proofs.YtnjolmbdbgbmbaaGreatDoor.CartM
namespace Go.Proofs.YtnjolmbdbgbmbaaGreatDoor.CartN
open Go.Deep
open Signed (inB ret_int ret_bool isByte_any l1In_any)
open Carts CartK CartL CartM
theorem infoB:(prog.info? 5).map (fun i=>(i.zero,i.size,i.bytes))=some (some (.int .u8 0),1,1):=by kernel_rfl
theorem info_parts {P:Program} {t:TypeId} {z:Value} {s b:Nat} (h:(P.info? t).map (fun i=>(i.zero,i.size,i.bytes))=some (some z,s,b)):∃ i,P.info? t=some i/\i.zero=some z/\i.size=s/\i.bytes=b:=by
 cases e:P.info? t with
 | none=>rw [e] at h;cases h
 | some i =>
  rw [e] at h
  simp only [Option.map_some,Option.some.injEq,Prod.mk.injEq] at h
  exact ⟨i,rfl,h.1,h.2.1,h.2.2⟩
def Z (n:Nat):ByteArray:=⟨(List.replicate n (0:UInt8)).toArray⟩
theorem Z_size (n:Nat):(Z n).size=n:=by simp [Z,ByteArray.size]
theorem made (n:Nat) (hn:n<=1000):∃ o:Obj,∀ u:World,(Instr.makeSlice 48 (.int .i64 (n:Int)) (.int .i64 (n:Int))).run prog u=.ok (.slice (some ⟨u.heap.size,0,none⟩) n n) (u.alloc o) /\
  (convert 48 9 (.slice (some ⟨u.heap.size,0,none⟩) n n)).run prog (u.alloc o)=.ok (.string (Z n)) (u.alloc o):=by
 obtain ⟨i0,hi,hz0,hz1,hz2⟩:=info_parts infoB
 refine ⟨.cells (madeCells #[.int .u8 0] n) 5,fun u=>⟨?_,?_⟩⟩
 ·have h:=run_make (P:=prog) u 48 5 i0 (.int .u8 0) underlying48 hi hz0 .i64 .i64 (n:Int) (n:Int) (by omega) (Int.le_refl _) (by rw [hz2];omega) (by omega)
  simpa [hz1,Value.cells] using h
 ·have h:=run_convert_bytes_back (P:=prog) (u.alloc (.cells (madeCells #[.int .u8 0] n) 5)) 48 9 5 ⟨u.heap.size,0,none⟩ n (List.replicate n 0) underlying48 underlying5 underlying9 (fun j hj=>by
   have hj':j<n:=by simpa using hj
   have ea:(⟨u.heap.size,0,none⟩ : Addr).add j=⟨u.heap.size,j,none⟩:=by unfold Addr.add;split <;> simp_all
   rw [ea,World.cell?_alloc_new,<- Array.getElem?_toList,toList_madeCells_one]
   simp [hj'])
  simpa [Z] using h
theorem noughts_256 (w:World):Calls prog 63 #[.int .i64 256] w fun e w'=>e=.returned (.string (Z 256))/\∃ o,w'=w.alloc o:=by
 obtain ⟨o,h⟩:=made 256 (by decide)
 have h1:∀ u:World,(Instr.makeSlice 48 (.int .i64 256) (.int .i64 256)).run prog u=.ok (.slice (some ⟨u.heap.size,0,none⟩) 256 256) (u.alloc o):=fun u=>(h u).1
 have h2:=fun u=>(h u).2
 clear h
 go_enter func63,ntmps63
 go_wp2
 go_ret
 exact ⟨rfl,_,rfl⟩
theorem implOk_kind (rom:ByteArray) (kind bank:Int) (ram:ByteArray) (rb:Int) (on:Bool) (mode:Int) (w:World) (hs:rom.size<=maxLen) (hr:ram.size<=maxLen) (hk:kind=0 \/ kind=1 \/ kind=2) :
  Calls prog 69 #[.agg #[.string rom,.int .i64 kind,.int .i64 bank,.string ram,.int .i64 rb,.bool on,.int .i64 mode]] w fun e w'=>e=.returned (.bool (okB rom kind bank ram rb on mode))/\∃ T:TypeId,w'=((w.alloc (.cells #[.string rom,.int .i64 kind,.int .i64 bank,.string ram,.int .i64 rb,.bool on,.int .i64 mode] 31)).alloc (.cells #[] T)).alloc (.cells #[.string rom,.int .i64 kind,.int .i64 bank,.string ram,.int .i64 rb,.bool on,.int .i64 mode] 31):=by
 rcases hk with rfl|rfl|rfl
 ·refine (cartOk_0 rom bank ram rb on mode w hs hr _ _ rfl rfl).mono ?_
  rintro e w' ⟨rfl,rfl⟩
  exact ⟨rfl,_,rfl⟩
 ·refine (cartOk_1 rom bank ram rb on mode w hs hr _ _ rfl rfl).mono ?_
  rintro e w' ⟨rfl,rfl⟩
  exact ⟨rfl,_,rfl⟩
 ·refine (cartOk_2 rom bank ram rb on mode w hs hr _ _ rfl rfl).mono ?_
  rintro e w' ⟨rfl,rfl⟩
  exact ⟨rfl,_,rfl⟩
def newB (rom:ByteArray) (kind:Int):Bool:=okB rom kind 1 (Z 256) 0 false 0
def noCart:Value:=.agg #[.string ⟨#[]⟩,.int .i64 0,.int .i64 0,.string ⟨#[]⟩,.int .i64 0,.bool false,.int .i64 0]
def newCart (rom:ByteArray) (kind:Int):Value:=.agg #[.string rom,.int .i64 kind,.int .i64 1,.string (Z 256),.int .i64 0,.bool false,.int .i64 0]
theorem zmax:(Z 256).size<=maxLen:=by rw [Z_size];decide
theorem specNew_any (rom:ByteArray) (kind:Int) (w:World) (hs:rom.size<=maxLen) (b:Bool) (h:newB rom kind=b) :
  Calls prog 64 #[.string rom,.int .i64 kind] w fun e w'=>e=.returned (.tuple #[if b=true then newCart rom kind else noCart,.bool b])/\∃ o1 o2 o3 o4,w'=(((w.alloc o1).alloc o2).alloc o3).alloc o4:=by
 obtain ⟨o,hh⟩:=made 256 (by decide)
 have h1:∀ u:World,(Instr.makeSlice 48 (.int .i64 256) (.int .i64 256)).run prog u=.ok (.slice (some ⟨u.heap.size,0,none⟩) 256 256) (u.alloc o):=fun u=>(hh u).1
 have h2:∀ (u:World) (p:Obj),(convert 48 9 (.slice (some ⟨u.heap.size+1,0,none⟩) 256 256)).run prog ((u.alloc p).alloc o)=.ok (.string (Z 256)) ((u.alloc p).alloc o):=fun u p=>by
  have h:=(hh (u.alloc p)).2
  simpa using h
 have c:=fun w=>specOk_any rom kind 1 (Z 256) 0 false 0 w hs zmax
 unfold newB at h
 rw [h] at c
 clear hh h hs
 cases b
 ·go_enter func64,ntmps64
  go_wp2_with (go_at_call 73;refine (c _).mono ?_;rintro e w' ⟨rfl,rfl⟩)
  exact bodyPost_ret (v:=.tuple #[noCart,.bool false]) (by simp [results,results64,noCart,go_sem]) rfl ⟨rfl,_,_,_,_,rfl⟩
 ·go_enter func64,ntmps64
  go_wp2_with (go_at_call 73;refine (c _).mono ?_;rintro e w' ⟨rfl,rfl⟩)
  exact bodyPost_ret (v:=.tuple #[newCart rom kind,.bool true]) (by simp [results,results64,newCart,go_sem]) rfl ⟨rfl,_,_,_,_,rfl⟩
theorem implNew_any (rom:ByteArray) (kind:Int) (w:World) (hs:rom.size<=maxLen) (b:Bool) (h:newB rom kind=b) :
  Calls prog 62 #[.string rom,.int .i64 kind] w fun e w'=>e=.returned (.tuple #[if b=true then newCart rom kind else noCart,.bool b])/\∃ o1 o2 o3 o4,w'=(((w.alloc o1).alloc o2).alloc o3).alloc o4 \/ ∃ o5 o6,w'=(((((w.alloc o1).alloc o2).alloc o3).alloc o4).alloc o5).alloc o6:=by
 by_cases hk:kind=0 \/ kind=1 \/ kind=2
 ·have c:=fun w=>implOk_kind rom kind 1 (Z 256) 0 false 0 w hs zmax hk
  unfold newB at h
  rw [h] at c
  clear h hs hk
  cases b
  ·go_enter func62,ntmps62
   go_wp2_with first|(go_at_call 63;refine (noughts_256 _).mono ?_;rintro e w' ⟨rfl,o,rfl⟩)|(go_at_call 69;refine (c _).mono ?_;rintro e w' ⟨rfl,T,rfl⟩)
   exact bodyPost_ret (v:=.tuple #[noCart,.bool false]) (by simp [results,results62,noCart,go_sem]) rfl ⟨rfl,_,_,_,_,.inr ⟨_,_,rfl⟩⟩
  ·go_enter func62,ntmps62
   go_wp2_with first|(go_at_call 63;refine (noughts_256 _).mono ?_;rintro e w' ⟨rfl,o,rfl⟩)|(go_at_call 69;refine (c _).mono ?_;rintro e w' ⟨rfl,T,rfl⟩)
   exact bodyPost_ret (v:=.tuple #[newCart rom kind,.bool true]) (by simp [results,results62,newCart,go_sem]) rfl ⟨rfl,_,_,_,_,.inr ⟨_,_,rfl⟩⟩
 ·have c:=fun w=>cartOk_no rom kind 1 (Z 256) 0 false 0 w (by omega) (by omega) (by omega)
  have hb:b=false:=by
   rw [<- h]
   unfold newB okB heldB
   rw [if_neg (by omega),if_neg (by omega),if_neg (by omega)]
   rfl
  subst hb
  clear h hs hk
  go_enter func62,ntmps62
  go_wp2_with first|(go_at_call 63;refine (noughts_256 _).mono ?_;rintro e w' ⟨rfl,o,rfl⟩)|(go_at_call 69;refine (c _).mono ?_;rintro e w' ⟨rfl,rfl⟩)
  exact bodyPost_ret (v:=.tuple #[noCart,.bool false]) (by simp [results,results62,noCart,go_sem]) rfl ⟨rfl,_,_,_,_,.inl rfl⟩
end Go.Proofs.YtnjolmbdbgbmbaaGreatDoor.CartN
namespace Go.Proofs.YtnjolmbdbgbmbaaGreatDoor.CartR
open Go.Deep
open Signed (inB ret_int ret_bool isByte_any l1In_any)
open Carts CartK CartL CartM
def byteAt (s:ByteArray) (i:Int):Int:=if h:i.toNat<s.size then ((s[i.toNat]'h).toNat:Int) else 0
theorem byteAt_eq {s:ByteArray} {i:Int} (h:i.toNat<s.size):((s[i.toNat]'h).toNat:Int)=byteAt s i:=by unfold byteAt;rw [dif_pos h]
theorem byteAt_bd (s:ByteArray) (i:Int):0<=byteAt s i/\byteAt s i<=255:=by
 unfold byteAt
 split
 ·rename_i h
  have:=(s[i.toNat]'h).toNat_lt
  omega
 ·omega
theorem byteAt_wrap {s:ByteArray} {i:Int} (h:i.toNat<s.size):wrap64 ((s[i.toNat]'h).toNat:Int)=byteAt s i:=by
 rw [byteAt_eq h]
 have:=byteAt_bd s i
 unfold wrap64
 omega
theorem byteAt_wrapk {s:ByteArray} {i:Int} (h:i.toNat<s.size):IntKind.i64.wrap ((s[i.toNat]'h).toNat:Int)=byteAt s i:=by
 rw [byteAt_eq h]
 have:=byteAt_bd s i
 rw [IntKind.wrap_i64]
 omega
def ramQ (kind rb mode:Int):Int:=if kind=1/\mode=0 then 0 else rb
theorem ramQ_bd {kind rb mode:Int} (h0:0<=rb) (h1:rb<=3):0<=ramQ kind rb mode/\ramQ kind rb mode<=3:=by unfold ramQ;split <;> omega
theorem isWord_any (n:Int) (w:World) :
  Calls prog 74 #[.int .i64 n] w fun e w'=>e=.returned (.bool (inB n 0 65535))/\w'=w:=by
 go_enter func74,ntmps74
 go_wp2
 all_goals go_ret
 all_goals exact ⟨ret_bool (by rw [Bool.eq_iff_iff];simp [inB];try omega),rfl⟩
theorem as01 (w:World):(Instr.typeAssert (.iface 162 (.agg #[])) 136 163 true).run prog w=.ok (.tuple #[.agg #[],.bool false]) w:=by kernel_rfl
theorem as02 (w:World):(Instr.typeAssert (.iface 162 (.agg #[])) 136 164 true).run prog w=.ok (.tuple #[.agg #[],.bool false]) w:=by kernel_rfl
theorem as11 (w:World):(Instr.typeAssert (.iface 163 (.agg #[])) 136 163 true).run prog w=.ok (.tuple #[.agg #[],.bool true]) w:=by kernel_rfl
theorem as12 (w:World):(Instr.typeAssert (.iface 163 (.agg #[])) 136 164 true).run prog w=.ok (.tuple #[.agg #[],.bool false]) w:=by kernel_rfl
theorem as21 (w:World):(Instr.typeAssert (.iface 164 (.agg #[])) 136 163 true).run prog w=.ok (.tuple #[.agg #[],.bool false]) w:=by kernel_rfl
theorem as22 (w:World):(Instr.typeAssert (.iface 164 (.agg #[])) 136 164 true).run prog w=.ok (.tuple #[.agg #[],.bool true]) w:=by kernel_rfl
theorem seen_1 (rom:ByteArray) (bank:Int) (ram:ByteArray) (rb:Int) (on:Bool) (mode:Int) (w:World) (h0:0<=rb) (h1:rb<=3) (m0:0<=mode) (m1:mode<=1) :
  Calls prog 211 #[.agg #[.string rom,.int .i64 1,.int .i64 bank,.string ram,.int .i64 rb,.bool on,.int .i64 mode]] w fun e w'=>e=.returned (.int .i64 (ramQ 1 rb mode))/\w'=w.alloc (.cells #[.string rom,.int .i64 1,.int .i64 bank,.string ram,.int .i64 rb,.bool on,.int .i64 mode] 31):=by
 have hm:mode=0 \/ mode=1:=by omega
 have a1:=as11
 have a2:=as12
 rcases hm with rfl|rfl
 all_goals
  go_enter func211,ntmps211
  go_wp2_with (go_at_call 105;refine (mapperOf_1 _).mono ?_;rintro e w' ⟨rfl,rfl⟩)
  go_ret
  exact ⟨ret_int (by simp [ramQ]),rfl⟩
theorem seen_2 (rom:ByteArray) (bank:Int) (ram:ByteArray) (rb:Int) (on:Bool) (mode:Int) (w:World) :
  Calls prog 211 #[.agg #[.string rom,.int .i64 2,.int .i64 bank,.string ram,.int .i64 rb,.bool on,.int .i64 mode]] w fun e w'=>e=.returned (.int .i64 (ramQ 2 rb mode))/\w'=w.alloc (.cells #[.string rom,.int .i64 2,.int .i64 bank,.string ram,.int .i64 rb,.bool on,.int .i64 mode] 31):=by
 have a1:=as21
 have a2:=as22
 go_enter func211,ntmps211
 go_wp2_with (go_at_call 105;refine (mapperOf_2 _).mono ?_;rintro e w' ⟨rfl,rfl⟩)
 go_ret
 exact ⟨ret_int (by simp [ramQ]),rfl⟩
theorem seen_any (rom:ByteArray) (kind bank:Int) (ram:ByteArray) (rb:Int) (on:Bool) (mode:Int) (w:World) (h0:0<=rb) (h1:rb<=3) (m0:0<=mode) (m1:mode<=1) (hk:kind=1 \/ kind=2) :
  Calls prog 211 #[.agg #[.string rom,.int .i64 kind,.int .i64 bank,.string ram,.int .i64 rb,.bool on,.int .i64 mode]] w fun e w'=>e=.returned (.int .i64 (ramQ kind rb mode))/\w'=w.alloc (.cells #[.string rom,.int .i64 kind,.int .i64 bank,.string ram,.int .i64 rb,.bool on,.int .i64 mode] 31):=by
 rcases hk with rfl|rfl
 ·exact seen_1 rom bank ram rb on mode w h0 h1 m0 m1
 ·exact seen_2 rom bank ram rb on mode w
theorem place_no (rom:ByteArray) (kind bank:Int) (ram:ByteArray) (rb:Int) (on:Bool) (mode:Int) (addr:Int) (w:World) (h:on=false \/ addr<40960 \/ 41024<=addr) :
  Calls prog 146 #[.agg #[.string rom,.int .i64 kind,.int .i64 bank,.string ram,.int .i64 rb,.bool on,.int .i64 mode],.int .i64 addr] w fun e w'=>e=.returned (.int .i64 (-1))/\w'=w.alloc (.cells #[.string rom,.int .i64 kind,.int .i64 bank,.string ram,.int .i64 rb,.bool on,.int .i64 mode] 31):=by
 cases on with
 | false =>
  go_enter func146,ntmps146
  go_wp2
  go_ret
  exact ⟨rfl,rfl⟩
 | true =>
  have h':addr<40960 \/ 41024<=addr:=by simpa using h
  rcases h' with h'|h'
  ·go_enter func146,ntmps146
   go_wp2
   go_ret
   exact ⟨rfl,rfl⟩
  ·have d:¬ addr<40960:=by omega
   have d2:decide (addr<40960)=false:=decide_eq_false d
   go_enter func146,ntmps146
   go_wp2
   go_ret
   exact ⟨rfl,rfl⟩
theorem place_yes (rom:ByteArray) (kind bank:Int) (ram:ByteArray) (rb:Int) (mode:Int) (addr:Int) (w:World) (h0:0<=rb) (h1:rb<=3) (m0:0<=mode) (m1:mode<=1) (hk:kind=1 \/ kind=2) (a0:40960<=addr) (a1:addr<41024) (r:Int) (hr:ramQ kind rb mode=r) :
  Calls prog 146 #[.agg #[.string rom,.int .i64 kind,.int .i64 bank,.string ram,.int .i64 rb,.bool true,.int .i64 mode],.int .i64 addr] w fun e w'=>e=.returned (.int .i64 (r*64+addr-40960))/\w'=(w.alloc (.cells #[.string rom,.int .i64 kind,.int .i64 bank,.string ram,.int .i64 rb,.bool true,.int .i64 mode] 31)).alloc (.cells #[.string rom,.int .i64 kind,.int .i64 bank,.string ram,.int .i64 rb,.bool true,.int .i64 mode] 31):=by
 have c:=fun w=>seen_any rom kind bank ram rb true mode w h0 h1 m0 m1 hk
 obtain ⟨r0,r1⟩:=ramQ_bd (kind:=kind) (mode:=mode) h0 h1
 rw [hr] at c r0 r1
 have d2:decide (addr<40960)=false:=decide_eq_false (by omega)
 have d3:decide (41024<=addr)=false:=decide_eq_false (by omega)
 clear hr hk h0 h1 m0 m1
 go_enter func146,ntmps146
 go_wp2_with (go_at_call 211;refine (c _).mono ?_;rintro e w' ⟨rfl,rfl⟩)
 go_ret
 exact ⟨rfl,rfl⟩
def rdV (rom:ByteArray) (q:Int) (ram:ByteArray) (r:Int) (on:Bool) (addr:Int):Int :=
 if addr<256 then byteAt rom addr else if addr<512 then byteAt rom (q*256+addr-256) else if on=true/\40960<=addr/\addr<41024 then byteAt ram (r*64+addr-40960) else 255
theorem rdV_bd (rom:ByteArray) (q:Int) (ram:ByteArray) (r:Int) (on:Bool) (addr:Int):0<=rdV rom q ram r on addr/\rdV rom q ram r on addr<=255:=by
 unfold rdV
 split;exact byteAt_bd _ _
 split;exact byteAt_bd _ _
 split;exact byteAt_bd _ _
 omega
theorem read1 (rom:ByteArray) (kind bank:Int) (ram:ByteArray) (rb:Int) (on:Bool) (mode:Int) (addr:Int) (w:World) (s0:512<=rom.size) (a0:0<=addr) (a1:addr<256) :
  Calls prog 111 #[.agg #[.string rom,.int .i64 kind,.int .i64 bank,.string ram,.int .i64 rb,.bool on,.int .i64 mode],.int .i64 addr] w fun e w'=>e=.returned (.int .i64 (byteAt rom addr))/\Below w.heap.size w w':=by
 have h:addr.toNat<rom.size:=by omega
 have hb:=byteAt_wrap h
 go_enter func111,ntmps111
 go_wp2
 go_ret
 exact ⟨ret_int hb,by repeat (with_reducible first|exact zRf|refine zGr ?_ _|refine below_drewN ?_ _|refine Below.drew ?_)⟩
theorem read2 (rom:ByteArray) (kind bank:Int) (ram:ByteArray) (rb:Int) (on:Bool) (mode:Int) (addr q:Int) (w:World) (s1:rom.size<=4096) (q0:0<=q) (q1:q<=15) (q2:q*256+256<=rom.size) (a0:256<=addr) (a1:addr<512)
  (c2:∀ w,Calls prog 99 #[.agg #[.string rom,.int .i64 kind,.int .i64 bank,.string ram,.int .i64 rb,.bool on,.int .i64 mode]] w fun e w'=>e=.returned (.int .i64 q)/\w'=w.alloc (.cells #[.string rom,.int .i64 kind,.int .i64 bank,.string ram,.int .i64 rb,.bool on,.int .i64 mode] 31)) :
  Calls prog 111 #[.agg #[.string rom,.int .i64 kind,.int .i64 bank,.string ram,.int .i64 rb,.bool on,.int .i64 mode],.int .i64 addr] w fun e w'=>e=.returned (.int .i64 (byteAt rom (q*256+addr-256)))/\Below w.heap.size w w':=by
 have i0:0<=q*256+addr-256:=by omega
 have i1:q*256+addr-256<(rom.size:Int):=by omega
 have h:(q*256+addr-256).toNat<rom.size:=by omega
 have hb:=byteAt_wrap h
 have e1:IntKind.i64.wrap (q*256)=q*256:=by rw [IntKind.wrap_i64];omega
 have e2:IntKind.i64.wrap (q*256+addr)=q*256+addr:=by rw [IntKind.wrap_i64];omega
 have e3:IntKind.i64.wrap (q*256+addr-256)=q*256+addr-256:=by rw [IntKind.wrap_i64];omega
 go_enter func111,ntmps111
 go_wp2
 go_region_with (go_at_call 99;refine (c2 _).mono ?_;rintro e w' ⟨rfl,rfl⟩)
 all_goals go_wp2
 all_goals go_ret
 all_goals exact ⟨ret_int (byteAt_wrapk h),by repeat (with_reducible first|exact zRf|refine zGr ?_ _|refine below_drewN ?_ _|refine Below.drew ?_)⟩
theorem read4 (rom:ByteArray) (kind bank:Int) (ram:ByteArray) (rb:Int) (on:Bool) (mode:Int) (addr:Int) (w:World) (a0:512<=addr) (h:on=false \/ addr<40960 \/ 41024<=addr) :
  Calls prog 111 #[.agg #[.string rom,.int .i64 kind,.int .i64 bank,.string ram,.int .i64 rb,.bool on,.int .i64 mode],.int .i64 addr] w fun e w'=>e=.returned (.int .i64 255)/\Below w.heap.size w w':=by
 have c:=fun w=>place_no rom kind bank ram rb on mode addr w h
 clear h
 go_enter func111,ntmps111
 go_wp2_with (go_at_call 146;refine (c _).mono ?_;rintro e w' ⟨rfl,rfl⟩)
 go_ret
 exact ⟨rfl,by repeat (with_reducible first|exact zRf|refine zGr ?_ _|refine below_drewN ?_ _|refine Below.drew ?_)⟩
theorem read3 (rom:ByteArray) (kind bank:Int) (ram:ByteArray) (rb:Int) (mode:Int) (addr r:Int) (w:World) (sr:ram.size=256) (h0:0<=rb) (h1:rb<=3) (m0:0<=mode) (m1:mode<=1) (hk:kind=1 \/ kind=2) (a0:40960<=addr) (a1:addr<41024) (hr:ramQ kind rb mode=r) :
  Calls prog 111 #[.agg #[.string rom,.int .i64 kind,.int .i64 bank,.string ram,.int .i64 rb,.bool true,.int .i64 mode],.int .i64 addr] w fun e w'=>e=.returned (.int .i64 (byteAt ram (r*64+addr-40960)))/\Below w.heap.size w w':=by
 have c:=fun w=>place_yes rom kind bank ram rb mode addr w h0 h1 m0 m1 hk a0 a1 r hr
 obtain ⟨r0,r1⟩:=ramQ_bd (kind:=kind) (mode:=mode) h0 h1
 rw [hr] at r0 r1
 clear hr hk h0 h1 m0 m1
 have i0:0<=r*64+addr-40960:=by omega
 have i1:r*64+addr-40960<(ram.size:Int):=by omega
 have h:(r*64+addr-40960).toNat<ram.size:=by omega
 clear sr
 have hb:=byteAt_wrap h
 go_enter func111,ntmps111
 go_wp2_with (go_at_call 146;refine (c _).mono ?_;rintro e w' ⟨rfl,rfl⟩)
 go_ret
 exact ⟨ret_int hb,by repeat (with_reducible first|exact zRf|refine zGr ?_ _|refine below_drewN ?_ _|refine Below.drew ?_)⟩
end Go.Proofs.YtnjolmbdbgbmbaaGreatDoor.CartR
namespace Go.Proofs.YtnjolmbdbgbmbaaGreatDoor.CartP
open Go.Deep
open Signed (inB ret_int ret_bool isByte_any l1In_any)
open Carts CartK CartL CartM CartN
def putB (s:ByteArray) (i v:Int):ByteArray:=⟨(s.data.toList.set i.toNat (UInt8.ofNat v.toNat)).toArray⟩
theorem putB_size (s:ByteArray) (i v:Int):(putB s i v).size=s.size:=by show ((s.data.toList.set i.toNat (UInt8.ofNat v.toNat)).toArray).size=s.data.size;simp only [List.size_toArray,List.length_set,Array.length_toList]
theorem set_new (u:World) (o:Obj) (i:Nat) (v:Value):∃ o',(u.alloc o).setCell ⟨u.heap.size,i,none⟩ v=u.alloc o':=by
 have hm:∀ (a:Array Obj) (x:Obj) (f:Obj->Obj),(a.push x).modify a.size f=a.push (f x):=by
  intro a x f
  apply Array.ext
  ·simp
  ·intro i h1 h2
   simp only [Array.getElem_modify,Array.getElem_push]
   by_cases h:a.size=i
   ·subst h
    simp
   ·have hi:i<a.size:=by simp at h1;omega
    simp [h,hi]
 have h:=hm u.heap o
 refine ⟨?_,?_⟩
 rotate_left
 ·unfold World.setCell World.alloc
  simp only [h]
  rfl
theorem put_facts (s:ByteArray) (n:Nat) (hs:s.size=n) (i v:Int) (i0:0<=i) (i1:i<n) (v0:0<=v) (v1:v<=255) (w:World) :
  ∃ (W:World) (cap:Nat) (u:Value) (o:Obj),(convert 9 48 (.string s)).run prog w=.ok (.slice (some ⟨w.heap.size,0,none⟩) n cap) W/\n<=cap/\W.cell? ⟨w.heap.size,i.toNat,none⟩=some u/\W.frozen? ⟨w.heap.size,i.toNat,none⟩=false /\
   W.setCell ⟨w.heap.size,i.toNat,none⟩ (.int .u8 v)=w.drew.alloc o /\
   (convert 48 9 (.slice (some ⟨w.heap.size,0,none⟩) n cap)).run prog (W.setCell ⟨w.heap.size,i.toNat,none⟩ (.int .u8 v))=.ok (.string (putB s i v)) (W.setCell ⟨w.heap.size,i.toNat,none⟩ (.int .u8 v)):=by
 subst hs
 have hc:=run_bytes_of_string (P:=prog) w 9 48 5 s underlying9 underlying48 underlying5
 have hge:=grownCap_ge w s.size 0 5
 obtain ⟨cap,hcap⟩ : ∃ cap,cap=grownCap w s.size 0 5:=⟨_,rfl⟩
 rw [<- hcap] at hc hge
 have hi:i.toNat<s.data.size:=by have:s.data.size=s.size:=rfl;omega
 have hcell:∀ j (hj:j<s.data.size),(w.drew.alloc (.cells (bytesRow s cap) 5 ((bytesRow s cap).size,(bytesRow s cap).size+1))).cell? ⟨w.heap.size,j,none⟩=some (.int .u8 (s.data[j].toNat:Int)):=fun j hj=>by
  have h:=World.cell?_alloc_mark w.drew (bytesRow s cap) 5 ((bytesRow s cap).size,(bytesRow s cap).size+1) j
  rw [bytesRow_at s cap j hj] at h
  exact h
 obtain ⟨o,ho⟩:=set_new w.drew (.cells (bytesRow s cap) 5 ((bytesRow s cap).size,(bytesRow s cap).size+1)) i.toNat (.int .u8 v)
 refine ⟨_,cap,_,o,hc,hge,hcell i.toNat hi,?_,ho,?_⟩
 ·have h:=World.frozen?_alloc_mark w.drew (bytesRow s cap) 5 (bytesRow s cap).size ((bytesRow s cap).size+1) i.toNat
  have hb:i.toNat<(bytesRow s cap).size:=by unfold bytesRow;simp;omega
  rw [decide_eq_false (by omega:¬ (bytesRow s cap).size<=i.toNat)] at h
  exact h
 ·have hl:(s.data.toList.set i.toNat (UInt8.ofNat v.toNat)).length=s.size:=by show _=s.data.size;simp only [List.length_set,Array.length_toList]
  have h:=run_convert_bytes_back (P:=prog) ((w.drew.alloc (.cells (bytesRow s cap) 5 ((bytesRow s cap).size,(bytesRow s cap).size+1))).setCell ⟨w.heap.size,i.toNat,none⟩ (.int .u8 v)) 48 9 5 ⟨w.heap.size,0,none⟩ cap (s.data.toList.set i.toNat (UInt8.ofNat v.toNat)) underlying48 underlying5 underlying9 (fun j hj=>by
   have ea:(⟨w.heap.size,0,none⟩ : Addr).add j=⟨w.heap.size,j,none⟩:=by unfold Addr.add;split <;> simp_all
   have hj':j<s.data.size:=by rw [hl] at hj;exact hj
   rw [ea]
   by_cases e:j=i.toNat
   ·subst e
    rw [World.cell?_setCell_same _ _ _ (hcell i.toNat hi)]
    rw [List.getElem_set_self]
    have:(UInt8.ofNat v.toNat).toNat=v.toNat:=by simp;omega
    rw [this]
    congr 2
    omega
   ·rw [World.cell?_setCell_other _ _ _ _ (fun x=>e (by have:=congrArg Addr.off x;exact this.symm)),hcell j hj',List.getElem_set_ne (by omega)]
    simp)
  rw [hl] at h
  exact h
theorem put_impl (s:ByteArray) (n:Nat) (hs:s.size=n) (hn:n<=1000) (i v:Int) (i0:0<=i) (i1:i<n) (v0:0<=v) (v1:v<=255) (w:World) :
  Calls prog 247 #[.string s,.int .i64 i,.int .i64 v] w fun e w'=>e=.returned (.string (putB s i v))/\∃ o,w'=w.drew.alloc o:=by
 obtain ⟨W,cap,u,o,hc,hge,hu,hf,ho,hb⟩:=put_facts s n hs i v i0 i1 v0 v1 w
 clear hs
 have HO:Hid (W.setCell ⟨w.heap.size,i.toNat,none⟩ (.int .u8 v)=w.drew.alloc o):=ho
 clear ho
 go_enter func247,ntmps247
 go_wp2
 go_ret
 exact ⟨rfl,o,HO.out⟩
end Go.Proofs.YtnjolmbdbgbmbaaGreatDoor.CartP
