/-
  Contracts and facts of ours, joined: Signed, Carts, CartK, CartL, CartM, CartR, CartP.
-/
import Derived.Test.YtkfehdkjeodbmaaGreatDoorRows
import Derived.WalkKit
import Derived.ProofKit
import Derived.OpenShut
import Derived.BigQuiet
import Derived.Deep.RegionWith
import Derived.Deep.QuietTactic
import Derived.Below
import Derived.Deep.Strs
import Derived.WalkSmall
import Derived.Laws.IdiomStrings
import Derived.Laws.OwnMore
set_option linter.unusedVariables false
set_option linter.unusedSimpArgs false
set_option maxRecDepth 20000
set_option maxHeartbeats 8000000
open Go.ChangeShapes Go.WideShapes Go.ChangeAt Go.RowKit
open Go.Proofs.Tryz
namespace Go.Proofs.YtkfehdkjeodbmaaGreatDoor
theorem zHd {p:Prop} (h:p):Hid p:=h
theorem zRf {B:Nat} {w:World}:Below B w w:=Below.refl _ _
theorem zAl (w:World) (o:Obj):Below w.heap.size w (w.alloc o):=(Below.refl _ _).alloc (Nat.le_refl _) o
theorem zLo {w:World} {b:Nat} {o:Obj} (h:w.heap[b]?=some o):b<w.heap.size:=(Array.getElem?_eq_some_iff.1 h).1
end Go.Proofs.YtkfehdkjeodbmaaGreatDoor
namespace Go.Proofs.YtkfehdkjeodbmaaGreatDoor.Signed
def inB (n low high:Int):Bool:=decide (low<=n/\n<=high)
def sgn (b:Int):Int:=if b<0 \/ 255<b then 0 else if 127<b then b-256 else b
theorem ret_int {k:IntKind} {a b:Int} (h:a=b):Ending.returned (.int k a)=.returned (.int k b):=by rw [h]
theorem ret_bool {a b:Bool} (h:a=b):Ending.returned (.bool a)=.returned (.bool b):=by rw [h]
theorem isByte_any (n:Int) (w:World) :
  Calls prog 94 #[.int .i64 n] w fun e w'=>e=.returned (.bool (inB n 0 255))/\w'=w:=by
 go_enter func94,ntmps94
 go_wp2
 all_goals go_ret
 all_goals exact ⟨ret_bool (by rw [Bool.eq_iff_iff];simp [inB];try omega),rfl⟩
theorem l1In_any (n low high:Int) (w:World) :
  Calls prog 36 #[.int .i64 n,.int .i64 low,.int .i64 high] w fun e w'=>e=.returned (.bool (inB n low high))/\w'=w:=by
 go_enter func36,ntmps36
 go_wp2
 all_goals go_ret
 all_goals exact ⟨ret_bool (by rw [Bool.eq_iff_iff];simp [inB];try omega),rfl⟩
theorem implSigned_any (b:Int) (w:World) :
  Calls prog 161 #[.int .i64 b] w fun e w'=>e=.returned (.int .i64 (sgn b))/\w'=w:=by
 have hb:(b<0 \/ 255<b) \/ (0<=b/\b<=127) \/ (127<b/\b<=255):=by omega
 rcases hb with h|⟨h,h'⟩|⟨h,h'⟩
 ·have hi:inB b 0 255=false:=decide_eq_false (by omega)
  have hs:sgn b=0:=by unfold sgn;rw [if_pos h]
  go_enter func161,ntmps161
  go_wp2_with (go_at_call 94;refine (isByte_any _ _).mono ?_;rintro e w' ⟨rfl,rfl⟩)
  go_ret
  first|exact ⟨rfl,rfl⟩|exact ⟨ret_int hs.symm,rfl⟩
 ·have hi:inB b 0 255=true:=decide_eq_true (by omega)
  have hs:sgn b=b:=by unfold sgn;rw [if_neg (by omega),if_neg (by omega)]
  go_enter func161,ntmps161
  go_wp2_with (go_at_call 94;refine (isByte_any _ _).mono ?_;rintro e w' ⟨rfl,rfl⟩)
  go_ret
  first|exact ⟨rfl,rfl⟩|exact ⟨ret_int hs.symm,rfl⟩
 ·have hi:inB b 0 255=true:=decide_eq_true (by omega)
  have hs:sgn b=b-256:=by unfold sgn;rw [if_neg (by omega),if_pos h]
  go_enter func161,ntmps161
  go_wp2_with (go_at_call 94;refine (isByte_any _ _).mono ?_;rintro e w' ⟨rfl,rfl⟩)
  go_ret
  first|exact ⟨rfl,rfl⟩|exact ⟨ret_int hs.symm,rfl⟩
theorem specSigned_any (b:Int) (w:World) :
  Calls prog 77 #[.int .i64 b] w fun e w'=>e=.returned (.int .i64 (sgn b))/\w'=w:=by
 have hb:(b<0 \/ 255<b) \/ (0<=b/\b<=127) \/ (127<b/\b<=255):=by omega
 rcases hb with h|⟨h,h'⟩|⟨h,h'⟩
 ·have hi:inB b 0 255=false:=decide_eq_false (by omega)
  have hs:sgn b=0:=by unfold sgn;rw [if_pos h]
  go_enter func77,ntmps77
  go_wp2_with (go_at_call 36;refine (l1In_any _ _ _ _).mono ?_;rintro e w' ⟨rfl,rfl⟩)
  go_ret
  first|exact ⟨rfl,rfl⟩|exact ⟨ret_int hs.symm,rfl⟩
 ·have hi:inB b 0 255=true:=decide_eq_true (by omega)
  have hs:sgn b=b:=by unfold sgn;rw [if_neg (by omega),if_neg (by omega)]
  go_enter func77,ntmps77
  go_wp2_with (go_at_call 36;refine (l1In_any _ _ _ _).mono ?_;rintro e w' ⟨rfl,rfl⟩)
  go_ret
  first|exact ⟨rfl,rfl⟩|exact ⟨ret_int hs.symm,rfl⟩
 ·have hi:inB b 0 255=true:=decide_eq_true (by omega)
  have hs:sgn b=b-256:=by unfold sgn;rw [if_neg (by omega),if_pos h]
  go_enter func77,ntmps77
  go_wp2_with (go_at_call 36;refine (l1In_any _ _ _ _).mono ?_;rintro e w' ⟨rfl,rfl⟩)
  go_ret
  first|exact ⟨rfl,rfl⟩|exact ⟨ret_int hs.symm,rfl⟩
end Go.Proofs.YtkfehdkjeodbmaaGreatDoor.Signed
namespace Go.Proofs.YtkfehdkjeodbmaaGreatDoor.Carts
open Signed (inB ret_int ret_bool isByte_any l1In_any)
def banks (n:Nat):Int:=if n%256=0/\512<=n/\n<=4096 then n / 256 else 0
def romB (n:Nat):Bool:=decide (n%256=0/\512<=n/\n<=4096)
def heldB (kind bank rb:Int) (on:Bool) (mode:Int):Bool :=
 if kind=0 then decide (bank=1/\rb=0/\mode=0/\on=false)
 else if kind=1 then inB bank 1 31 && inB rb 0 3 && inB mode 0 1
 else if kind=2 then inB bank 0 255 && inB rb 0 3 && mode == 0
 else false
def okB (rom:ByteArray) (kind bank:Int) (ram:ByteArray) (rb:Int) (on:Bool) (mode:Int):Bool:=heldB kind bank rb on mode && romB rom.size && ram.size == 256
def mapV (kind:Int):Value :=
 if kind=0 then .iface 141 (.agg #[])
 else if kind=1 then .iface 142 (.agg #[])
 else if kind=2 then .iface 143 (.agg #[])
 else .nilIface
theorem isRamBank_any (n:Int) (w:World) :
  Calls prog 251 #[.int .i64 n] w fun e w'=>e=.returned (.bool (inB n 0 3))/\w'=w:=by
 go_enter func251,ntmps251
 go_wp2
 all_goals go_ret
 all_goals exact ⟨ret_bool (by rw [Bool.eq_iff_iff];simp [inB];try omega),rfl⟩
theorem mapperOf_any (n:Int) (w:World) :
  Calls prog 92 #[.int .i64 n] w fun e w'=>e=.returned (mapV n)/\w'=w:=by
 go_enter func92,ntmps92
 go_wp2
 all_goals go_ret
 all_goals exact ⟨by congr 1;unfold mapV;simp_all,rfl⟩
theorem romOk_any (rom:ByteArray) (w:World) (hs:rom.size<=maxLen) :
  Calls prog 93 #[.string rom] w fun e w'=>e=.returned (.bool (romB rom.size))/\w'=w:=by
 have hs':rom.size<=9223372036854775807:=by unfold maxLen at hs;omega
 go_enter func93,ntmps93
 go_wp2
 all_goals go_ret
 all_goals exact ⟨ret_bool (by rw [Bool.eq_iff_iff];simp [romB];try omega),rfl⟩
theorem l5Banks_any (rom:ByteArray) (w:World) (hs:rom.size<=maxLen) :
  Calls prog 69 #[.string rom] w fun e w'=>e=.returned (.int .i64 (banks rom.size))/\w'=w:=by
 have hs':rom.size<=9223372036854775807:=by unfold maxLen at hs;omega
 go_enter func69,ntmps69
 go_wp2_with (go_at_call 36;refine (l1In_any _ _ _ _).mono ?_;rintro e w' ⟨rfl,rfl⟩)
 all_goals go_ret
 all_goals exact ⟨ret_int (by unfold banks;simp_all [inB];try omega),rfl⟩
theorem m0 (w:World):(method 301 141 (.agg #[]) "loop.example/g00460/impl.holds").run prog w=.ok (249,.agg #[]) w:=by kernel_rfl
theorem m1 (w:World):(method 301 142 (.agg #[]) "loop.example/g00460/impl.holds").run prog w=.ok (250,.agg #[]) w:=by kernel_rfl
theorem m2 (w:World):(method 301 143 (.agg #[]) "loop.example/g00460/impl.holds").run prog w=.ok (252,.agg #[]) w:=by kernel_rfl
theorem plainHolds_any (rom:ByteArray) (kind bank:Int) (ram:ByteArray) (rb:Int) (on:Bool) (mode:Int) (w:World) :
  Calls prog 249 #[.agg #[],.agg #[.string rom,.int .i64 kind,.int .i64 bank,.string ram,.int .i64 rb,.bool on,.int .i64 mode]] w fun e w'=>e=.returned (.bool (decide (bank=1/\rb=0/\mode=0/\on=false)))/\w'=(w.alloc (.cells #[] 141)).alloc (.cells #[.string rom,.int .i64 kind,.int .i64 bank,.string ram,.int .i64 rb,.bool on,.int .i64 mode] 31):=by
 go_enter func249,ntmps249
 go_wp2
 all_goals go_ret
 all_goals exact ⟨ret_bool (by rw [Bool.eq_iff_iff];simp_all),by first|rfl|simp_all⟩
theorem oneHolds_any (rom:ByteArray) (kind bank:Int) (ram:ByteArray) (rb:Int) (on:Bool) (mode:Int) (w:World) :
  Calls prog 250 #[.agg #[],.agg #[.string rom,.int .i64 kind,.int .i64 bank,.string ram,.int .i64 rb,.bool on,.int .i64 mode]] w fun e w'=>e=.returned (.bool (inB bank 1 31 && inB rb 0 3 && inB mode 0 1))/\w'=(w.alloc (.cells #[] 142)).alloc (.cells #[.string rom,.int .i64 kind,.int .i64 bank,.string ram,.int .i64 rb,.bool on,.int .i64 mode] 31):=by
 go_enter func250,ntmps250
 go_wp2_with (go_at_call 251;refine (isRamBank_any _ _).mono ?_;rintro e w' ⟨rfl,rfl⟩)
 all_goals go_ret
 all_goals exact ⟨ret_bool (by rw [Bool.eq_iff_iff];simp_all [inB] <;> omega),by first|rfl|simp_all⟩
theorem fiveHolds_any (rom:ByteArray) (kind bank:Int) (ram:ByteArray) (rb:Int) (on:Bool) (mode:Int) (w:World) :
  Calls prog 252 #[.agg #[],.agg #[.string rom,.int .i64 kind,.int .i64 bank,.string ram,.int .i64 rb,.bool on,.int .i64 mode]] w fun e w'=>e=.returned (.bool (inB bank 0 255 && inB rb 0 3 && mode == 0))/\w'=(w.alloc (.cells #[] 143)).alloc (.cells #[.string rom,.int .i64 kind,.int .i64 bank,.string ram,.int .i64 rb,.bool on,.int .i64 mode] 31):=by
 go_enter func252,ntmps252
 go_wp2_with (first|(go_at_call 251;refine (isRamBank_any _ _).mono ?_;rintro e w' ⟨rfl,rfl⟩)|(go_at_call 94;refine (isByte_any _ _).mono ?_;rintro e w' ⟨rfl,rfl⟩))
 all_goals go_ret
 all_goals exact ⟨ret_bool (by rw [Bool.eq_iff_iff];simp_all [inB] <;> omega),by first|rfl|simp_all⟩
end Go.Proofs.YtkfehdkjeodbmaaGreatDoor.Carts
namespace Go.Proofs.YtkfehdkjeodbmaaGreatDoor.CartK
open Signed (inB ret_int ret_bool isByte_any l1In_any)
open Carts
theorem mapperOf_0 (w:World):Calls prog 92 #[.int .i64 0] w fun e w'=>e=.returned (.iface 141 (.agg #[]))/\w'=w:=mapperOf_any 0 w
theorem cartOk_0 (rom:ByteArray) (bank:Int) (ram:ByteArray) (rb:Int) (on:Bool) (mode:Int) (w:World) (hs:rom.size<=maxLen) (hr:ram.size<=maxLen) (b1 b2:Bool) (h1:(decide (bank=1/\rb=0/\mode=0/\on=false))=b1) (h2:romB rom.size=b2) :
  Calls prog 56 #[.agg #[.string rom,.int .i64 0,.int .i64 bank,.string ram,.int .i64 rb,.bool on,.int .i64 mode]] w fun e w'=>e=.returned (.bool (b1 && b2 && ram.size == 256))/\w'=((w.alloc (.cells #[.string rom,.int .i64 0,.int .i64 bank,.string ram,.int .i64 rb,.bool on,.int .i64 mode] 31)).alloc (.cells #[] 141)).alloc (.cells #[.string rom,.int .i64 0,.int .i64 bank,.string ram,.int .i64 rb,.bool on,.int .i64 mode] 31):=by
 have c1:=fun w=>plainHolds_any rom 0 bank ram rb on mode w
 have c2:=fun w=>romOk_any rom w hs
 rw [h1] at c1
 rw [h2] at c2
 have m:=m0
 have e3:decide ((ram.size:Int)=256)=(ram.size == 256):=by rw [Bool.eq_iff_iff];simp;try omega
 have hr':ram.size<=9223372036854775807:=by unfold maxLen at hr;omega
 clear h1 h2 hr hs
 cases b1 <;> cases b2
 all_goals
  go_enter func56,ntmps56
  go_wp2_with first|(go_at_call 92;refine (mapperOf_0 _).mono ?_;rintro e w' ⟨rfl,rfl⟩)|(go_at_call 249;refine (c1 _).mono ?_;rintro e w' ⟨rfl,rfl⟩)|(go_at_call 93;refine (c2 _).mono ?_;rintro e w' ⟨rfl,rfl⟩)
  all_goals go_ret
  all_goals first|exact ⟨rfl,rfl⟩|exact ⟨ret_bool e3,rfl⟩|exact ⟨ret_bool (by rw [Bool.eq_iff_iff];simp;try omega),rfl⟩
theorem mapperOf_1 (w:World):Calls prog 92 #[.int .i64 1] w fun e w'=>e=.returned (.iface 142 (.agg #[]))/\w'=w:=mapperOf_any 1 w
theorem cartOk_1 (rom:ByteArray) (bank:Int) (ram:ByteArray) (rb:Int) (on:Bool) (mode:Int) (w:World) (hs:rom.size<=maxLen) (hr:ram.size<=maxLen) (b1 b2:Bool) (h1:(inB bank 1 31 && inB rb 0 3 && inB mode 0 1)=b1) (h2:romB rom.size=b2) :
  Calls prog 56 #[.agg #[.string rom,.int .i64 1,.int .i64 bank,.string ram,.int .i64 rb,.bool on,.int .i64 mode]] w fun e w'=>e=.returned (.bool (b1 && b2 && ram.size == 256))/\w'=((w.alloc (.cells #[.string rom,.int .i64 1,.int .i64 bank,.string ram,.int .i64 rb,.bool on,.int .i64 mode] 31)).alloc (.cells #[] 142)).alloc (.cells #[.string rom,.int .i64 1,.int .i64 bank,.string ram,.int .i64 rb,.bool on,.int .i64 mode] 31):=by
 have c1:=fun w=>oneHolds_any rom 1 bank ram rb on mode w
 have c2:=fun w=>romOk_any rom w hs
 rw [h1] at c1
 rw [h2] at c2
 have m:=m1
 have e3:decide ((ram.size:Int)=256)=(ram.size == 256):=by rw [Bool.eq_iff_iff];simp;try omega
 have hr':ram.size<=9223372036854775807:=by unfold maxLen at hr;omega
 clear h1 h2 hr hs
 cases b1 <;> cases b2
 all_goals
  go_enter func56,ntmps56
  go_wp2_with first|(go_at_call 92;refine (mapperOf_1 _).mono ?_;rintro e w' ⟨rfl,rfl⟩)|(go_at_call 250;refine (c1 _).mono ?_;rintro e w' ⟨rfl,rfl⟩)|(go_at_call 93;refine (c2 _).mono ?_;rintro e w' ⟨rfl,rfl⟩)
  all_goals go_ret
  all_goals first|exact ⟨rfl,rfl⟩|exact ⟨ret_bool e3,rfl⟩|exact ⟨ret_bool (by rw [Bool.eq_iff_iff];simp;try omega),rfl⟩
theorem mapperOf_2 (w:World):Calls prog 92 #[.int .i64 2] w fun e w'=>e=.returned (.iface 143 (.agg #[]))/\w'=w:=mapperOf_any 2 w
theorem cartOk_2 (rom:ByteArray) (bank:Int) (ram:ByteArray) (rb:Int) (on:Bool) (mode:Int) (w:World) (hs:rom.size<=maxLen) (hr:ram.size<=maxLen) (b1 b2:Bool) (h1:(inB bank 0 255 && inB rb 0 3 && mode == 0)=b1) (h2:romB rom.size=b2) :
  Calls prog 56 #[.agg #[.string rom,.int .i64 2,.int .i64 bank,.string ram,.int .i64 rb,.bool on,.int .i64 mode]] w fun e w'=>e=.returned (.bool (b1 && b2 && ram.size == 256))/\w'=((w.alloc (.cells #[.string rom,.int .i64 2,.int .i64 bank,.string ram,.int .i64 rb,.bool on,.int .i64 mode] 31)).alloc (.cells #[] 143)).alloc (.cells #[.string rom,.int .i64 2,.int .i64 bank,.string ram,.int .i64 rb,.bool on,.int .i64 mode] 31):=by
 have c1:=fun w=>fiveHolds_any rom 2 bank ram rb on mode w
 have c2:=fun w=>romOk_any rom w hs
 rw [h1] at c1
 rw [h2] at c2
 have m:=m2
 have e3:decide ((ram.size:Int)=256)=(ram.size == 256):=by rw [Bool.eq_iff_iff];simp;try omega
 have hr':ram.size<=9223372036854775807:=by unfold maxLen at hr;omega
 clear h1 h2 hr hs
 cases b1 <;> cases b2
 all_goals
  go_enter func56,ntmps56
  go_wp2_with first|(go_at_call 92;refine (mapperOf_2 _).mono ?_;rintro e w' ⟨rfl,rfl⟩)|(go_at_call 252;refine (c1 _).mono ?_;rintro e w' ⟨rfl,rfl⟩)|(go_at_call 93;refine (c2 _).mono ?_;rintro e w' ⟨rfl,rfl⟩)
  all_goals go_ret
  all_goals first|exact ⟨rfl,rfl⟩|exact ⟨ret_bool e3,rfl⟩|exact ⟨ret_bool (by rw [Bool.eq_iff_iff];simp;try omega),rfl⟩
theorem cartOk_no (rom:ByteArray) (kind bank:Int) (ram:ByteArray) (rb:Int) (on:Bool) (mode:Int) (w:World) (h0:¬ kind=0) (h1:¬ kind=1) (h2:¬ kind=2) :
  Calls prog 56 #[.agg #[.string rom,.int .i64 kind,.int .i64 bank,.string ram,.int .i64 rb,.bool on,.int .i64 mode]] w fun e w'=>e=.returned (.bool false)/\w'=w.alloc (.cells #[.string rom,.int .i64 kind,.int .i64 bank,.string ram,.int .i64 rb,.bool on,.int .i64 mode] 31):=by
 have c:=fun w=>mapperOf_any kind w
 have e:mapV kind=.nilIface:=by unfold mapV;simp [h0,h1,h2]
 rw [e] at c
 go_enter func56,ntmps56
 go_wp2_with (go_at_call 92;refine (c _).mono ?_;rintro e w' ⟨rfl,rfl⟩)
 go_ret
 exact ⟨rfl,rfl⟩
theorem banks_no {n:Nat} (h:romB n=false):banks n=0:=by
 unfold romB at h;unfold banks;rw [if_neg (of_decide_eq_false h)]
theorem banks_yes {n:Nat} (h:romB n=true):2<=banks n/\banks n<=16/\banks n=n / 256/\n=256*(n / 256):=by
 unfold romB at h;have h:=of_decide_eq_true h;unfold banks;rw [if_pos h];omega
theorem specNot1 (rom:ByteArray) (kind bank:Int) (ram:ByteArray) (rb:Int) (on:Bool) (mode:Int) (w:World) (hs:rom.size<=maxLen) (h:romB rom.size=false) :
  Calls prog 46 #[.agg #[.string rom,.int .i64 kind,.int .i64 bank,.string ram,.int .i64 rb,.bool on,.int .i64 mode]] w fun e w'=>e=.returned (.bool false)/\w'=w.alloc (.cells #[.string rom,.int .i64 kind,.int .i64 bank,.string ram,.int .i64 rb,.bool on,.int .i64 mode] 31):=by
 have c:=fun w=>l5Banks_any rom w hs
 rw [banks_no h] at c
 go_enter func46,ntmps46
 go_wp2_with (go_at_call 69;refine (c _).mono ?_;rintro e w' ⟨rfl,rfl⟩)
 go_ret
 exact ⟨rfl,rfl⟩
theorem specNot2 (rom:ByteArray) (kind bank:Int) (ram:ByteArray) (rb:Int) (on:Bool) (mode:Int) (w:World) (hs:rom.size<=maxLen) (hr:ram.size<=maxLen) (h:romB rom.size=true) (h2:¬ ram.size=256) :
  Calls prog 46 #[.agg #[.string rom,.int .i64 kind,.int .i64 bank,.string ram,.int .i64 rb,.bool on,.int .i64 mode]] w fun e w'=>e=.returned (.bool false)/\w'=w.alloc (.cells #[.string rom,.int .i64 kind,.int .i64 bank,.string ram,.int .i64 rb,.bool on,.int .i64 mode] 31):=by
 have c:=fun w=>l5Banks_any rom w hs
 obtain ⟨z0,z1,-,-⟩:=banks_yes h
 obtain ⟨z,hz⟩ : ∃ z,z=banks rom.size:=⟨_,rfl⟩
 rw [<- hz] at c z0 z1
 have hr':ram.size<=9223372036854775807:=by unfold maxLen at hr;omega
 have d0:(z == 0)=false:=by simp;omega
 have d1:((ram.size:Int) != 256)=true:=by simp;omega
 clear hz h hs hr
 go_enter func46,ntmps46
 go_wp2_with (go_at_call 69;refine (c _).mono ?_;rintro e w' ⟨rfl,rfl⟩)
 all_goals go_ret
 all_goals exact ⟨rfl,rfl⟩
theorem specYes (rom:ByteArray) (kind bank:Int) (ram:ByteArray) (rb:Int) (on:Bool) (mode:Int) (w:World) (hs:rom.size<=maxLen) (h:romB rom.size=true) (h2:ram.size=256) :
  Calls prog 46 #[.agg #[.string rom,.int .i64 kind,.int .i64 bank,.string ram,.int .i64 rb,.bool on,.int .i64 mode]] w fun e w'=>e=.returned (.bool (heldB kind bank rb on mode))/\w'=w.alloc (.cells #[.string rom,.int .i64 kind,.int .i64 bank,.string ram,.int .i64 rb,.bool on,.int .i64 mode] 31):=by
 have c:=fun w=>l5Banks_any rom w hs
 obtain ⟨z0,z1,-,-⟩:=banks_yes h
 obtain ⟨z,hz⟩ : ∃ z,z=banks rom.size:=⟨_,rfl⟩
 rw [<- hz] at c z0 z1
 have d0:(z == 0)=false:=by simp;omega
 have d1:((ram.size:Int) != 256)=false:=by simp;omega
 clear hz h
 go_enter func46,ntmps46
 go_wp2_with first|(go_at_call 69;refine (c _).mono ?_;rintro e w' ⟨rfl,rfl⟩)|(go_at_call 36;refine (l1In_any _ _ _ _).mono ?_;rintro e w' ⟨rfl,rfl⟩)
 all_goals clear c h2 hs
 all_goals go_ret
 all_goals exact ⟨ret_bool (by rw [Bool.eq_iff_iff];simp_all [heldB,inB] <;> omega),by first|rfl|simp_all⟩
theorem specOk_any (rom:ByteArray) (kind bank:Int) (ram:ByteArray) (rb:Int) (on:Bool) (mode:Int) (w:World) (hs:rom.size<=maxLen) (hr:ram.size<=maxLen) :
  Calls prog 46 #[.agg #[.string rom,.int .i64 kind,.int .i64 bank,.string ram,.int .i64 rb,.bool on,.int .i64 mode]] w fun e w'=>e=.returned (.bool (okB rom kind bank ram rb on mode))/\w'=w.alloc (.cells #[.string rom,.int .i64 kind,.int .i64 bank,.string ram,.int .i64 rb,.bool on,.int .i64 mode] 31):=by
 cases h:romB rom.size with
 | false =>
  refine (specNot1 rom kind bank ram rb on mode w hs h).mono ?_
  rintro e w' ⟨rfl,rfl⟩
  exact ⟨ret_bool (by simp [okB,h]),rfl⟩
 | true =>
  by_cases h2:ram.size=256
  ·refine (specYes rom kind bank ram rb on mode w hs h h2).mono ?_
   rintro e w' ⟨rfl,rfl⟩
   exact ⟨ret_bool (by simp [okB,h,h2]),rfl⟩
  ·refine (specNot2 rom kind bank ram rb on mode w hs hr h h2).mono ?_
   rintro e w' ⟨rfl,rfl⟩
   exact ⟨ret_bool (by simp [okB,h,h2]),rfl⟩
end Go.Proofs.YtkfehdkjeodbmaaGreatDoor.CartK
namespace Go.Proofs.YtkfehdkjeodbmaaGreatDoor.CartL
open Go.Deep
open Signed (inB ret_int ret_bool isByte_any l1In_any)
open Carts CartK
theorem grow {a w:World} (h:Below a.heap.size a w) (o:Obj):Below a.heap.size a (w.alloc o):=h.alloc h.size o
theorem after {a w w':World} (h:Below a.heap.size a w) (k:Below w.heap.size w w'):Below a.heap.size a w':=h.trans (k.mono h.size)
theorem cellsC:prog.cellsOf 25=7:=by kernel_rfl
theorem cells2:prog.cellsOf 2=1:=by kernel_rfl
theorem cells4:prog.cellsOf 4=1:=by kernel_rfl
theorem cells9:prog.cellsOf 9=1:=by kernel_rfl
theorem fieldsC:∃ f0 f1 f2 f3 f4 f5 f6:Field,prog.underlying 25=some (.struct #[f0,f1,f2,f3,f4,f5,f6])/\(f0.type=9/\f0.offset=0)/\(f1.type=2/\f1.offset=1)/\(f2.type=2/\f2.offset=2)/\(f3.type=9/\f3.offset=3)/\(f4.type=2/\f4.offset=4)/\(f5.type=4/\f5.offset=5)/\(f6.type=2/\f6.offset=6) :=
 ⟨_,_,_,_,_,_,_,underlying25,⟨rfl,rfl⟩,⟨rfl,rfl⟩,⟨rfl,rfl⟩,⟨rfl,rfl⟩,⟨rfl,rfl⟩,⟨rfl,rfl⟩,⟨rfl,rfl⟩⟩
theorem cart_of {H:Type} {enc:TypeId × Value->H} {w:World} {base:Nat} {spare:Nat->Bool} {held:Bool} {fuel:Nat} {cs:List Value} {x:DataW H × List MemPlace}
  (h:DataW.trod enc prog w base spare held fuel 25 cs=some x) :
  ∃ (rom:ByteArray) (kind bank:Int) (ram:ByteArray) (rb:Int) (on:Bool) (mode:Int),cs=[.string rom,.int .i64 kind,.int .i64 bank,.string ram,.int .i64 rb,.bool on,.int .i64 mode]/\rom.size<=maxLen/\ram.size<=maxLen:=by
 obtain ⟨f0,f1,f2,f3,f4,f5,f6,hf,⟨t0,o0⟩,⟨t1,o1⟩,⟨t2,o2⟩,⟨t3,o3⟩,⟨t4,o4⟩,⟨t5,o5⟩,⟨t6,o6⟩⟩:=fieldsC
 obtain ⟨xs,n,_,_,hl,hlen,g⟩:=DataW.trod_struct hf h
 rw [cellsC] at hl
 match cs,hl,xs,hlen with
 | [v0,v1,v2,v3,v4,v5,v6],_,[y0,y1,y2,y3,y4,y5,y6],_ =>
  have g0:=g 0 f0 rfl
  have g1:=g 1 f1 rfl
  have g2:=g 2 f2 rfl
  have g3:=g 3 f3 rfl
  have g4:=g 4 f4 rfl
  have g5:=g 5 f5 rfl
  have g6:=g 6 f6 rfl
  rw [t0,o0,cells9] at g0
  rw [t1,o1,cells2] at g1
  rw [t2,o2,cells2] at g2
  rw [t3,o3,cells9] at g3
  rw [t4,o4,cells2] at g4
  rw [t5,o5,cells4] at g5
  rw [t6,o6,cells2] at g6
  obtain ⟨s0,e0,_,z0⟩:=DataW.trod_string underlying9 g0
  obtain ⟨n1,e1,_⟩:=DataW.trod_int underlying2 g1
  obtain ⟨n2,e2,_⟩:=DataW.trod_int underlying2 g2
  obtain ⟨s3,e3,_,z3⟩:=DataW.trod_string underlying9 g3
  obtain ⟨n4,e4,_⟩:=DataW.trod_int underlying2 g4
  obtain ⟨b5,e5,_⟩:=DataW.trod_bool underlying4 g5
  obtain ⟨n6,e6,_⟩:=DataW.trod_int underlying2 g6
  simp at e0 e1 e2 e3 e4 e5 e6
  subst e0 e1 e2 e3 e4 e5 e6
  exact ⟨s0,n1,n2,s3,n4,b5,n6,rfl,z0,z3⟩
def left2 (m:Int) (a b:Nat):Int:=if m-a<0 then -1 else if m-a-b<0 then -1 else m-a-b
theorem szCart_any (rom:ByteArray) (kind bank:Int) (ram:ByteArray) (rb:Int) (on:Bool) (mode:Int) (m:Int) (w:World) (hs:rom.size<=maxLen) (hr:ram.size<=maxLen) (h0:0<=m) (h1:m<=1048576) :
  Calls prog 21 #[.agg #[.string rom,.int .i64 kind,.int .i64 bank,.string ram,.int .i64 rb,.bool on,.int .i64 mode],.int .i64 m] w fun e w'=>e=.returned (.int .i64 (left2 m rom.size ram.size))/\w'=w.alloc (.cells #[.string rom,.int .i64 kind,.int .i64 bank,.string ram,.int .i64 rb,.bool on,.int .i64 mode] 25):=by
 unfold maxLen at hs hr
 by_cases h:m-rom.size<0
 ·have e:left2 m rom.size ram.size = -1:=by unfold left2;rw [if_pos h]
  rw [e]
  clear e
  go_enter func21,ntmps21
  go_wp2
  go_ret
  exact ⟨rfl,rfl⟩
 by_cases h2:m-rom.size-ram.size<0
 ·have e:left2 m rom.size ram.size = -1:=by unfold left2;rw [if_neg h,if_pos h2]
  rw [e]
  clear e
  go_enter func21,ntmps21
  go_wp2
  go_ret
  exact ⟨rfl,rfl⟩
 have e:left2 m rom.size ram.size=m-rom.size-ram.size:=by unfold left2;rw [if_neg h,if_neg h2]
 rw [e]
 clear e
 go_enter func21,ntmps21
 go_wp2
 go_ret
 exact ⟨rfl,rfl⟩
theorem toCart_any (rom:ByteArray) (kind bank:Int) (ram:ByteArray) (rb:Int) (on:Bool) (mode:Int) (w:World) :
  Calls prog 26 #[.agg #[.string rom,.int .i64 kind,.int .i64 bank,.string ram,.int .i64 rb,.bool on,.int .i64 mode]] w fun e w'=>e=.returned (.agg #[.string rom,.int .i64 kind,.int .i64 bank,.string ram,.int .i64 rb,.bool on,.int .i64 mode])/\w'=((w.alloc (.cells #[.string rom,.int .i64 kind,.int .i64 bank,.string ram,.int .i64 rb,.bool on,.int .i64 mode] 25)).alloc (.cells #[.string rom,.int .i64 kind,.int .i64 bank,.string ram,.int .i64 rb,.bool on,.int .i64 mode] 31)).alloc (.cells #[.string rom,.int .i64 kind,.int .i64 bank,.string ram,.int .i64 rb,.bool on,.int .i64 mode] 31):=by
 go_enter func26,ntmps26
 go_wp2
 exact bodyPost_ret (v:=.agg #[.string rom,.int .i64 kind,.int .i64 bank,.string ram,.int .i64 rb,.bool on,.int .i64 mode]) (by simp [results,results26,go_sem]) rfl ⟨rfl,rfl⟩
theorem eqCart_any (rom:ByteArray) (kind bank:Int) (ram:ByteArray) (rb:Int) (on:Bool) (mode:Int) (w:World) :
  Calls prog 32 #[.agg #[.string rom,.int .i64 kind,.int .i64 bank,.string ram,.int .i64 rb,.bool on,.int .i64 mode],.agg #[.string rom,.int .i64 kind,.int .i64 bank,.string ram,.int .i64 rb,.bool on,.int .i64 mode]] w fun e w'=>e=.returned (.bool true)/\w'=(w.alloc (.cells #[.string rom,.int .i64 kind,.int .i64 bank,.string ram,.int .i64 rb,.bool on,.int .i64 mode] 31)).alloc (.cells #[.string rom,.int .i64 kind,.int .i64 bank,.string ram,.int .i64 rb,.bool on,.int .i64 mode] 31):=by
 go_enter func32,ntmps32
 go_wp2
 go_ret
 exact ⟨rfl,rfl⟩
theorem implOk_yes (rom:ByteArray) (kind bank:Int) (ram:ByteArray) (rb:Int) (on:Bool) (mode:Int) (w:World) (hs:rom.size<=maxLen) (hr:ram.size<=maxLen) (h:okB rom kind bank ram rb on mode=true) :
  Calls prog 56 #[.agg #[.string rom,.int .i64 kind,.int .i64 bank,.string ram,.int .i64 rb,.bool on,.int .i64 mode]] w fun e w'=>e=.returned (.bool true)/\∃ T:TypeId,w'=((w.alloc (.cells #[.string rom,.int .i64 kind,.int .i64 bank,.string ram,.int .i64 rb,.bool on,.int .i64 mode] 31)).alloc (.cells #[] T)).alloc (.cells #[.string rom,.int .i64 kind,.int .i64 bank,.string ram,.int .i64 rb,.bool on,.int .i64 mode] 31):=by
 have hh:=h
 simp only [okB,Bool.and_eq_true] at hh
 obtain ⟨⟨h1,h2⟩,h3⟩:=hh
 by_cases k0:kind=0
 ·subst k0
  refine (cartOk_0 rom bank ram rb on mode w hs hr true true (by simpa [heldB] using h1) h2).mono ?_
  rintro e w' ⟨rfl,rfl⟩
  exact ⟨ret_bool (by simpa using h3),_,rfl⟩
 by_cases k1:kind=1
 ·subst k1
  refine (cartOk_1 rom bank ram rb on mode w hs hr true true (by simpa [heldB] using h1) h2).mono ?_
  rintro e w' ⟨rfl,rfl⟩
  exact ⟨ret_bool (by simpa using h3),_,rfl⟩
 by_cases k2:kind=2
 ·subst k2
  refine (cartOk_2 rom bank ram rb on mode w hs hr true true (by simpa [heldB] using h1) h2).mono ?_
  rintro e w' ⟨rfl,rfl⟩
  exact ⟨ret_bool (by simpa using h3),_,rfl⟩
 exfalso
 simp [heldB,k0,k1,k2] at h1
theorem implOk_any (rom:ByteArray) (kind bank:Int) (ram:ByteArray) (rb:Int) (on:Bool) (mode:Int) (w:World) (hs:rom.size<=maxLen) (hr:ram.size<=maxLen) :
  Calls prog 56 #[.agg #[.string rom,.int .i64 kind,.int .i64 bank,.string ram,.int .i64 rb,.bool on,.int .i64 mode]] w fun e w'=>e=.returned (.bool (okB rom kind bank ram rb on mode))/\Below w.heap.size w w':=by
 by_cases k0:kind=0
 ·subst k0
  refine (cartOk_0 rom bank ram rb on mode w hs hr _ _ rfl rfl).mono ?_
  rintro e w' ⟨rfl,rfl⟩
  exact ⟨rfl,((zRf.alloc (by simp) _).alloc (by simp) _).alloc (by simp;try omega) _⟩
 by_cases k1:kind=1
 ·subst k1
  refine (cartOk_1 rom bank ram rb on mode w hs hr _ _ rfl rfl).mono ?_
  rintro e w' ⟨rfl,rfl⟩
  exact ⟨rfl,((zRf.alloc (by simp) _).alloc (by simp) _).alloc (by simp;try omega) _⟩
 by_cases k2:kind=2
 ·subst k2
  refine (cartOk_2 rom bank ram rb on mode w hs hr _ _ rfl rfl).mono ?_
  rintro e w' ⟨rfl,rfl⟩
  exact ⟨rfl,((zRf.alloc (by simp) _).alloc (by simp) _).alloc (by simp;try omega) _⟩
 refine (cartOk_no rom kind bank ram rb on mode w k0 k1 k2).mono ?_
 rintro e w' ⟨rfl,rfl⟩
 exact ⟨ret_bool (by simp [okB,heldB,k0,k1,k2]),zRf.alloc (by simp) _⟩
end Go.Proofs.YtkfehdkjeodbmaaGreatDoor.CartL
namespace Go.Proofs.YtkfehdkjeodbmaaGreatDoor
theorem zGr {a w:World} (h:Below a.heap.size a w) (o:Obj):Below a.heap.size a (w.alloc o):=h.alloc h.size o
end Go.Proofs.YtkfehdkjeodbmaaGreatDoor
namespace Go.Proofs.YtkfehdkjeodbmaaGreatDoor.CartM
open Go.Deep
open Signed (inB ret_int ret_bool isByte_any l1In_any)
open Carts CartK CartL
theorem right (rom:ByteArray) (kind bank:Int) (ram:ByteArray) (rb:Int) (on:Bool) (mode:Int) (h:okB rom kind bank ram rb on mode=true) :
  ∃ n:Nat,2<=n/\n<=16/\rom.size=256*n/\banks rom.size=n/\ram.size=256/\0<=bank/\bank<=255/\0<=rb/\rb<=3/\0<=mode/\mode<=1/\(kind=0/\on=false \/ kind=1 \/ kind=2/\mode=0):=by
 simp only [okB,Bool.and_eq_true,beq_iff_eq] at h
 obtain ⟨⟨h1,h2⟩,h3⟩:=h
 obtain ⟨z0,z1,z2,z3⟩:=banks_yes h2
 refine ⟨rom.size / 256,by omega,by omega,z3,by omega,h3,?_⟩
 unfold heldB inB at h1
 by_cases k0:kind=0
 ·rw [if_pos k0] at h1
  simp at h1
  obtain ⟨h4,h5,h6,h7⟩:=h1
  exact ⟨by omega,by omega,by omega,by omega,by omega,by omega,.inl ⟨k0,h7⟩⟩
 rw [if_neg k0] at h1
 by_cases k1:kind=1
 ·rw [if_pos k1] at h1
  simp at h1
  omega
 rw [if_neg k1] at h1
 by_cases k2:kind=2
 ·rw [if_pos k2] at h1
  simp at h1
  omega
 rw [if_neg k2] at h1
 cases h1
theorem bankSeen_any (rom:ByteArray) (kind bank:Int) (ram:ByteArray) (rb:Int) (on:Bool) (mode:Int) (w:World) (n:Nat) (n0:2<=n) (n1:n<=16) (hn:rom.size=256*n) (b0:0<=bank) (b1:bank<=255) :
  Calls prog 68 #[.agg #[.string rom,.int .i64 kind,.int .i64 bank,.string ram,.int .i64 rb,.bool on,.int .i64 mode]] w fun e w'=>e=.returned (.int .i64 (bank%n))/\w'=w.alloc (.cells #[.string rom,.int .i64 kind,.int .i64 bank,.string ram,.int .i64 rb,.bool on,.int .i64 mode] 31):=by
 have q:(rom.size:Int) / 256=n:=by omega
 go_enter func68,ntmps68
 go_wp2
 go_ret
 exact ⟨rfl,rfl⟩
end Go.Proofs.YtkfehdkjeodbmaaGreatDoor.CartM
namespace Go.Proofs.YtkfehdkjeodbmaaGreatDoor.CartR
open Go.Deep
open Signed (inB ret_int ret_bool isByte_any l1In_any)
open Carts CartK CartL CartM
def byteAt (s:ByteArray) (i:Int):Int:=if h:i.toNat<s.size then ((s[i.toNat]'h).toNat:Int) else 0
theorem byteAt_eq {s:ByteArray} {i:Int} (h:i.toNat<s.size):((s[i.toNat]'h).toNat:Int)=byteAt s i:=by unfold byteAt;rw [dif_pos h]
theorem byteAt_bd (s:ByteArray) (i:Int):0<=byteAt s i/\byteAt s i<=255:=by
 unfold byteAt
 split
 ·rename_i h
  have:=(s[i.toNat]'h).toNat_lt
  omega
 ·omega
theorem byteAt_wrap {s:ByteArray} {i:Int} (h:i.toNat<s.size):wrap64 ((s[i.toNat]'h).toNat:Int)=byteAt s i:=by
 rw [byteAt_eq h]
 have:=byteAt_bd s i
 unfold wrap64
 omega
theorem byteAt_wrapk {s:ByteArray} {i:Int} (h:i.toNat<s.size):IntKind.i64.wrap ((s[i.toNat]'h).toNat:Int)=byteAt s i:=by
 rw [byteAt_eq h]
 have:=byteAt_bd s i
 rw [IntKind.wrap_i64]
 omega
def ramQ (kind rb mode:Int):Int:=if kind=1/\mode=0 then 0 else rb
theorem ramQ_bd {kind rb mode:Int} (h0:0<=rb) (h1:rb<=3):0<=ramQ kind rb mode/\ramQ kind rb mode<=3:=by unfold ramQ;split <;> omega
theorem l4Word_any (n:Int) (w:World) :
  Calls prog 45 #[.int .i64 n] w fun e w'=>e=.returned (.bool (inB n 0 65535))/\w'=w:=by
 go_enter func45,ntmps45
 go_wp2_with (go_at_call 36;refine (l1In_any _ _ _ _).mono ?_;rintro e w' ⟨rfl,rfl⟩)
 go_ret
 exact ⟨rfl,rfl⟩
theorem isWord_any (n:Int) (w:World) :
  Calls prog 91 #[.int .i64 n] w fun e w'=>e=.returned (.bool (inB n 0 65535))/\w'=w:=by
 go_enter func91,ntmps91
 go_wp2
 all_goals go_ret
 all_goals exact ⟨ret_bool (by rw [Bool.eq_iff_iff];simp [inB];try omega),rfl⟩
theorem as01 (w:World):(Instr.typeAssert (.iface 141 (.agg #[])) 125 142 true).run prog w=.ok (.tuple #[.agg #[],.bool false]) w:=by kernel_rfl
theorem as02 (w:World):(Instr.typeAssert (.iface 141 (.agg #[])) 125 143 true).run prog w=.ok (.tuple #[.agg #[],.bool false]) w:=by kernel_rfl
theorem as11 (w:World):(Instr.typeAssert (.iface 142 (.agg #[])) 125 142 true).run prog w=.ok (.tuple #[.agg #[],.bool true]) w:=by kernel_rfl
theorem as12 (w:World):(Instr.typeAssert (.iface 142 (.agg #[])) 125 143 true).run prog w=.ok (.tuple #[.agg #[],.bool false]) w:=by kernel_rfl
theorem as21 (w:World):(Instr.typeAssert (.iface 143 (.agg #[])) 125 142 true).run prog w=.ok (.tuple #[.agg #[],.bool false]) w:=by kernel_rfl
theorem as22 (w:World):(Instr.typeAssert (.iface 143 (.agg #[])) 125 143 true).run prog w=.ok (.tuple #[.agg #[],.bool true]) w:=by kernel_rfl
theorem seen_1 (rom:ByteArray) (bank:Int) (ram:ByteArray) (rb:Int) (on:Bool) (mode:Int) (w:World) (h0:0<=rb) (h1:rb<=3) (m0:0<=mode) (m1:mode<=1) :
  Calls prog 197 #[.agg #[.string rom,.int .i64 1,.int .i64 bank,.string ram,.int .i64 rb,.bool on,.int .i64 mode]] w fun e w'=>e=.returned (.int .i64 (ramQ 1 rb mode))/\w'=w.alloc (.cells #[.string rom,.int .i64 1,.int .i64 bank,.string ram,.int .i64 rb,.bool on,.int .i64 mode] 31):=by
 have hm:mode=0 \/ mode=1:=by omega
 have a1:=as11
 have a2:=as12
 rcases hm with rfl|rfl
 all_goals
  go_enter func197,ntmps197
  go_wp2_with (go_at_call 92;refine (mapperOf_1 _).mono ?_;rintro e w' ⟨rfl,rfl⟩)
  go_ret
  exact ⟨ret_int (by simp [ramQ]),rfl⟩
theorem seen_2 (rom:ByteArray) (bank:Int) (ram:ByteArray) (rb:Int) (on:Bool) (mode:Int) (w:World) :
  Calls prog 197 #[.agg #[.string rom,.int .i64 2,.int .i64 bank,.string ram,.int .i64 rb,.bool on,.int .i64 mode]] w fun e w'=>e=.returned (.int .i64 (ramQ 2 rb mode))/\w'=w.alloc (.cells #[.string rom,.int .i64 2,.int .i64 bank,.string ram,.int .i64 rb,.bool on,.int .i64 mode] 31):=by
 have a1:=as21
 have a2:=as22
 go_enter func197,ntmps197
 go_wp2_with (go_at_call 92;refine (mapperOf_2 _).mono ?_;rintro e w' ⟨rfl,rfl⟩)
 go_ret
 exact ⟨ret_int (by simp [ramQ]),rfl⟩
theorem seen_any (rom:ByteArray) (kind bank:Int) (ram:ByteArray) (rb:Int) (on:Bool) (mode:Int) (w:World) (h0:0<=rb) (h1:rb<=3) (m0:0<=mode) (m1:mode<=1) (hk:kind=1 \/ kind=2) :
  Calls prog 197 #[.agg #[.string rom,.int .i64 kind,.int .i64 bank,.string ram,.int .i64 rb,.bool on,.int .i64 mode]] w fun e w'=>e=.returned (.int .i64 (ramQ kind rb mode))/\w'=w.alloc (.cells #[.string rom,.int .i64 kind,.int .i64 bank,.string ram,.int .i64 rb,.bool on,.int .i64 mode] 31):=by
 rcases hk with rfl|rfl
 ·exact seen_1 rom bank ram rb on mode w h0 h1 m0 m1
 ·exact seen_2 rom bank ram rb on mode w
theorem l5RamBank_any (rom:ByteArray) (kind bank:Int) (ram:ByteArray) (rb:Int) (on:Bool) (mode:Int) (w:World) :
  Calls prog 173 #[.agg #[.string rom,.int .i64 kind,.int .i64 bank,.string ram,.int .i64 rb,.bool on,.int .i64 mode]] w fun e w'=>e=.returned (.int .i64 (ramQ kind rb mode))/\w'=w.alloc (.cells #[.string rom,.int .i64 kind,.int .i64 bank,.string ram,.int .i64 rb,.bool on,.int .i64 mode] 31):=by
 go_enter func173,ntmps173
 go_wp2
 all_goals go_ret
 all_goals exact ⟨ret_int (by simp_all [ramQ]),by first|rfl|simp_all⟩
theorem place_no (rom:ByteArray) (kind bank:Int) (ram:ByteArray) (rb:Int) (on:Bool) (mode:Int) (addr:Int) (w:World) (h:on=false \/ addr<40960 \/ 41024<=addr) :
  Calls prog 178 #[.agg #[.string rom,.int .i64 kind,.int .i64 bank,.string ram,.int .i64 rb,.bool on,.int .i64 mode],.int .i64 addr] w fun e w'=>e=.returned (.int .i64 (-1))/\w'=w.alloc (.cells #[.string rom,.int .i64 kind,.int .i64 bank,.string ram,.int .i64 rb,.bool on,.int .i64 mode] 31):=by
 cases on with
 | false =>
  go_enter func178,ntmps178
  go_wp2
  go_ret
  exact ⟨rfl,rfl⟩
 | true =>
  have h':addr<40960 \/ 41024<=addr:=by simpa using h
  rcases h' with h'|h'
  ·go_enter func178,ntmps178
   go_wp2
   go_ret
   exact ⟨rfl,rfl⟩
  ·have d:¬ addr<40960:=by omega
   have d2:decide (addr<40960)=false:=decide_eq_false d
   go_enter func178,ntmps178
   go_wp2
   go_ret
   exact ⟨rfl,rfl⟩
theorem place_yes (rom:ByteArray) (kind bank:Int) (ram:ByteArray) (rb:Int) (mode:Int) (addr:Int) (w:World) (h0:0<=rb) (h1:rb<=3) (m0:0<=mode) (m1:mode<=1) (hk:kind=1 \/ kind=2) (a0:40960<=addr) (a1:addr<41024) (r:Int) (hr:ramQ kind rb mode=r) :
  Calls prog 178 #[.agg #[.string rom,.int .i64 kind,.int .i64 bank,.string ram,.int .i64 rb,.bool true,.int .i64 mode],.int .i64 addr] w fun e w'=>e=.returned (.int .i64 (r*64+addr-40960))/\w'=(w.alloc (.cells #[.string rom,.int .i64 kind,.int .i64 bank,.string ram,.int .i64 rb,.bool true,.int .i64 mode] 31)).alloc (.cells #[.string rom,.int .i64 kind,.int .i64 bank,.string ram,.int .i64 rb,.bool true,.int .i64 mode] 31):=by
 have c:=fun w=>seen_any rom kind bank ram rb true mode w h0 h1 m0 m1 hk
 obtain ⟨r0,r1⟩:=ramQ_bd (kind:=kind) (mode:=mode) h0 h1
 rw [hr] at c r0 r1
 have d2:decide (addr<40960)=false:=decide_eq_false (by omega)
 have d3:decide (41024<=addr)=false:=decide_eq_false (by omega)
 clear hr hk h0 h1 m0 m1
 go_enter func178,ntmps178
 go_wp2_with (go_at_call 197;refine (c _).mono ?_;rintro e w' ⟨rfl,rfl⟩)
 go_ret
 exact ⟨rfl,rfl⟩
def rdV (rom:ByteArray) (q:Int) (ram:ByteArray) (r:Int) (on:Bool) (addr:Int):Int :=
 if addr<256 then byteAt rom addr else if addr<512 then byteAt rom (q*256+addr-256) else if on=true/\40960<=addr/\addr<41024 then byteAt ram (r*64+addr-40960) else 255
theorem rdV_bd (rom:ByteArray) (q:Int) (ram:ByteArray) (r:Int) (on:Bool) (addr:Int):0<=rdV rom q ram r on addr/\rdV rom q ram r on addr<=255:=by
 unfold rdV
 split;exact byteAt_bd _ _
 split;exact byteAt_bd _ _
 split;exact byteAt_bd _ _
 omega
theorem read1 (rom:ByteArray) (kind bank:Int) (ram:ByteArray) (rb:Int) (on:Bool) (mode:Int) (addr:Int) (w:World) (s0:512<=rom.size) (a0:0<=addr) (a1:addr<256) :
  Calls prog 114 #[.agg #[.string rom,.int .i64 kind,.int .i64 bank,.string ram,.int .i64 rb,.bool on,.int .i64 mode],.int .i64 addr] w fun e w'=>e=.returned (.int .i64 (byteAt rom addr))/\Below w.heap.size w w':=by
 have h:addr.toNat<rom.size:=by omega
 have hb:=byteAt_wrap h
 go_enter func114,ntmps114
 go_wp2
 go_ret
 exact ⟨ret_int hb,by repeat (with_reducible first|exact zRf|refine zGr ?_ _|refine below_drewN ?_ _|refine Below.drew ?_)⟩
theorem read2 (rom:ByteArray) (kind bank:Int) (ram:ByteArray) (rb:Int) (on:Bool) (mode:Int) (addr q:Int) (w:World) (s1:rom.size<=4096) (q0:0<=q) (q1:q<=15) (q2:q*256+256<=rom.size) (a0:256<=addr) (a1:addr<512)
  (c2:∀ w,Calls prog 68 #[.agg #[.string rom,.int .i64 kind,.int .i64 bank,.string ram,.int .i64 rb,.bool on,.int .i64 mode]] w fun e w'=>e=.returned (.int .i64 q)/\w'=w.alloc (.cells #[.string rom,.int .i64 kind,.int .i64 bank,.string ram,.int .i64 rb,.bool on,.int .i64 mode] 31)) :
  Calls prog 114 #[.agg #[.string rom,.int .i64 kind,.int .i64 bank,.string ram,.int .i64 rb,.bool on,.int .i64 mode],.int .i64 addr] w fun e w'=>e=.returned (.int .i64 (byteAt rom (q*256+addr-256)))/\Below w.heap.size w w':=by
 have i0:0<=q*256+addr-256:=by omega
 have i1:q*256+addr-256<(rom.size:Int):=by omega
 have h:(q*256+addr-256).toNat<rom.size:=by omega
 have hb:=byteAt_wrap h
 have e1:IntKind.i64.wrap (q*256)=q*256:=by rw [IntKind.wrap_i64];omega
 have e2:IntKind.i64.wrap (q*256+addr)=q*256+addr:=by rw [IntKind.wrap_i64];omega
 have e3:IntKind.i64.wrap (q*256+addr-256)=q*256+addr-256:=by rw [IntKind.wrap_i64];omega
 go_enter func114,ntmps114
 go_wp2
 go_region_with (go_at_call 68;refine (c2 _).mono ?_;rintro e w' ⟨rfl,rfl⟩)
 all_goals go_wp2
 all_goals go_ret
 all_goals exact ⟨ret_int (byteAt_wrapk h),by repeat (with_reducible first|exact zRf|refine zGr ?_ _|refine below_drewN ?_ _|refine Below.drew ?_)⟩
theorem read4 (rom:ByteArray) (kind bank:Int) (ram:ByteArray) (rb:Int) (on:Bool) (mode:Int) (addr:Int) (w:World) (a0:512<=addr) (h:on=false \/ addr<40960 \/ 41024<=addr) :
  Calls prog 114 #[.agg #[.string rom,.int .i64 kind,.int .i64 bank,.string ram,.int .i64 rb,.bool on,.int .i64 mode],.int .i64 addr] w fun e w'=>e=.returned (.int .i64 255)/\Below w.heap.size w w':=by
 have c:=fun w=>place_no rom kind bank ram rb on mode addr w h
 clear h
 go_enter func114,ntmps114
 go_wp2_with (go_at_call 178;refine (c _).mono ?_;rintro e w' ⟨rfl,rfl⟩)
 go_ret
 exact ⟨rfl,by repeat (with_reducible first|exact zRf|refine zGr ?_ _|refine below_drewN ?_ _|refine Below.drew ?_)⟩
theorem read3 (rom:ByteArray) (kind bank:Int) (ram:ByteArray) (rb:Int) (mode:Int) (addr r:Int) (w:World) (sr:ram.size=256) (h0:0<=rb) (h1:rb<=3) (m0:0<=mode) (m1:mode<=1) (hk:kind=1 \/ kind=2) (a0:40960<=addr) (a1:addr<41024) (hr:ramQ kind rb mode=r) :
  Calls prog 114 #[.agg #[.string rom,.int .i64 kind,.int .i64 bank,.string ram,.int .i64 rb,.bool true,.int .i64 mode],.int .i64 addr] w fun e w'=>e=.returned (.int .i64 (byteAt ram (r*64+addr-40960)))/\Below w.heap.size w w':=by
 have c:=fun w=>place_yes rom kind bank ram rb mode addr w h0 h1 m0 m1 hk a0 a1 r hr
 obtain ⟨r0,r1⟩:=ramQ_bd (kind:=kind) (mode:=mode) h0 h1
 rw [hr] at r0 r1
 clear hr hk h0 h1 m0 m1
 have i0:0<=r*64+addr-40960:=by omega
 have i1:r*64+addr-40960<(ram.size:Int):=by omega
 have h:(r*64+addr-40960).toNat<ram.size:=by omega
 clear sr
 have hb:=byteAt_wrap h
 go_enter func114,ntmps114
 go_wp2_with (go_at_call 178;refine (c _).mono ?_;rintro e w' ⟨rfl,rfl⟩)
 go_ret
 exact ⟨ret_int hb,by repeat (with_reducible first|exact zRf|refine zGr ?_ _|refine below_drewN ?_ _|refine Below.drew ?_)⟩
theorem sread1 (rom:ByteArray) (kind bank:Int) (ram:ByteArray) (rb:Int) (on:Bool) (mode:Int) (addr:Int) (w:World) (s0:512<=rom.size) (a0:0<=addr) (a1:addr<256) :
  Calls prog 107 #[.agg #[.string rom,.int .i64 kind,.int .i64 bank,.string ram,.int .i64 rb,.bool on,.int .i64 mode],.int .i64 addr] w fun e w'=>e=.returned (.int .i64 (byteAt rom addr))/\Below w.heap.size w w':=by
 have h:addr.toNat<rom.size:=by omega
 have hb:=byteAt_wrap h
 have b1:inB addr 0 255=true:=decide_eq_true (by omega)
 have c:=fun w=>l1In_any addr 0 255 w
 rw [b1] at c
 go_enter func107,ntmps107
 go_wp2_with (go_at_call 36;refine (c _).mono ?_;rintro e w' ⟨rfl,rfl⟩)
 go_ret
 exact ⟨ret_int hb,by repeat (with_reducible first|exact zRf|refine zGr ?_ _|refine below_drewN ?_ _|refine Below.drew ?_)⟩
end Go.Proofs.YtkfehdkjeodbmaaGreatDoor.CartR
namespace Go.Proofs.YtkfehdkjeodbmaaGreatDoor.CartP
open Go.Deep
open Signed (inB ret_int ret_bool isByte_any l1In_any)
open Carts CartK CartL CartM
def putB (s:ByteArray) (i v:Int):ByteArray:=⟨(s.data.toList.set i.toNat (UInt8.ofNat v.toNat)).toArray⟩
theorem putB_size (s:ByteArray) (i v:Int):(putB s i v).size=s.size:=by show ((s.data.toList.set i.toNat (UInt8.ofNat v.toNat)).toArray).size=s.data.size;simp only [List.size_toArray,List.length_set,Array.length_toList]
theorem set_new (u:World) (o:Obj) (i:Nat) (v:Value):∃ o',(u.alloc o).setCell ⟨u.heap.size,i,none⟩ v=u.alloc o':=by
 have hm:∀ (a:Array Obj) (x:Obj) (f:Obj->Obj),(a.push x).modify a.size f=a.push (f x):=by
  intro a x f
  apply Array.ext
  ·simp
  ·intro i h1 h2
   simp only [Array.getElem_modify,Array.getElem_push]
   by_cases h:a.size=i
   ·subst h
    simp
   ·have hi:i<a.size:=by simp at h1;omega
    simp [h,hi]
 have h:=hm u.heap o
 refine ⟨?_,?_⟩
 rotate_left
 ·unfold World.setCell World.alloc
  simp only [h]
  rfl
theorem put_facts (s:ByteArray) (n:Nat) (hs:s.size=n) (i v:Int) (i0:0<=i) (i1:i<n) (v0:0<=v) (v1:v<=255) (w:World) :
  ∃ (W:World) (cap:Nat) (u:Value) (o:Obj),(convert 9 109 (.string s)).run prog w=.ok (.slice (some ⟨w.heap.size,0,none⟩) n cap) W/\n<=cap/\W.cell? ⟨w.heap.size,i.toNat,none⟩=some u/\W.frozen? ⟨w.heap.size,i.toNat,none⟩=false /\
   W.setCell ⟨w.heap.size,i.toNat,none⟩ (.int .u8 v)=w.drew.alloc o /\
   (convert 109 9 (.slice (some ⟨w.heap.size,0,none⟩) n cap)).run prog (W.setCell ⟨w.heap.size,i.toNat,none⟩ (.int .u8 v))=.ok (.string (putB s i v)) (W.setCell ⟨w.heap.size,i.toNat,none⟩ (.int .u8 v)):=by
 subst hs
 have hc:=run_bytes_of_string (P:=prog) w 9 109 5 s underlying9 underlying109 underlying5
 have hge:=grownCap_ge w s.size 0 5
 obtain ⟨cap,hcap⟩ : ∃ cap,cap=grownCap w s.size 0 5:=⟨_,rfl⟩
 rw [<- hcap] at hc hge
 have hi:i.toNat<s.data.size:=by have:s.data.size=s.size:=rfl;omega
 have hcell:∀ j (hj:j<s.data.size),(w.drew.alloc (.cells (bytesRow s cap) 5 ((bytesRow s cap).size,(bytesRow s cap).size+1))).cell? ⟨w.heap.size,j,none⟩=some (.int .u8 (s.data[j].toNat:Int)):=fun j hj=>by
  have h:=World.cell?_alloc_mark w.drew (bytesRow s cap) 5 ((bytesRow s cap).size,(bytesRow s cap).size+1) j
  rw [bytesRow_at s cap j hj] at h
  exact h
 obtain ⟨o,ho⟩:=set_new w.drew (.cells (bytesRow s cap) 5 ((bytesRow s cap).size,(bytesRow s cap).size+1)) i.toNat (.int .u8 v)
 refine ⟨_,cap,_,o,hc,hge,hcell i.toNat hi,?_,ho,?_⟩
 ·have h:=World.frozen?_alloc_mark w.drew (bytesRow s cap) 5 (bytesRow s cap).size ((bytesRow s cap).size+1) i.toNat
  have hb:i.toNat<(bytesRow s cap).size:=by unfold bytesRow;simp;omega
  rw [decide_eq_false (by omega:¬ (bytesRow s cap).size<=i.toNat)] at h
  exact h
 ·have hl:(s.data.toList.set i.toNat (UInt8.ofNat v.toNat)).length=s.size:=by show _=s.data.size;simp only [List.length_set,Array.length_toList]
  have h:=run_convert_bytes_back (P:=prog) ((w.drew.alloc (.cells (bytesRow s cap) 5 ((bytesRow s cap).size,(bytesRow s cap).size+1))).setCell ⟨w.heap.size,i.toNat,none⟩ (.int .u8 v)) 109 9 5 ⟨w.heap.size,0,none⟩ cap (s.data.toList.set i.toNat (UInt8.ofNat v.toNat)) underlying109 underlying5 underlying9 (fun j hj=>by
   have ea:(⟨w.heap.size,0,none⟩ : Addr).add j=⟨w.heap.size,j,none⟩:=by unfold Addr.add;split <;> simp_all
   have hj':j<s.data.size:=by rw [hl] at hj;exact hj
   rw [ea]
   by_cases e:j=i.toNat
   ·subst e
    rw [World.cell?_setCell_same _ _ _ (hcell i.toNat hi)]
    rw [List.getElem_set_self]
    have:(UInt8.ofNat v.toNat).toNat=v.toNat:=by simp;omega
    rw [this]
    congr 2
    omega
   ·rw [World.cell?_setCell_other _ _ _ _ (fun x=>e (by have:=congrArg Addr.off x;exact this.symm)),hcell j hj',List.getElem_set_ne (by omega)]
    simp)
  rw [hl] at h
  exact h
theorem put_impl (s:ByteArray) (n:Nat) (hs:s.size=n) (hn:n<=1000) (i v:Int) (i0:0<=i) (i1:i<n) (v0:0<=v) (v1:v<=255) (w:World) :
  Calls prog 211 #[.string s,.int .i64 i,.int .i64 v] w fun e w'=>e=.returned (.string (putB s i v))/\∃ o,w'=w.drew.alloc o:=by
 obtain ⟨W,cap,u,o,hc,hge,hu,hf,ho,hb⟩:=put_facts s n hs i v i0 i1 v0 v1 w
 clear hs
 have HO:Hid (W.setCell ⟨w.heap.size,i.toNat,none⟩ (.int .u8 v)=w.drew.alloc o):=ho
 clear ho
 go_enter func211,ntmps211
 go_wp2
 go_ret
 exact ⟨rfl,o,HO.out⟩
theorem put_spec (s:ByteArray) (n:Nat) (hs:s.size=n) (hn:n<=1000) (i v:Int) (i0:0<=i) (i1:i<n) (v0:0<=v) (v1:v<=255) (w:World) :
  Calls prog 176 #[.string s,.int .i64 i,.int .i64 v] w fun e w'=>e=.returned (.string (putB s i v))/\∃ o,w'=w.drew.alloc o:=by
 obtain ⟨W,cap,u,o,hc,hge,hu,hf,ho,hb⟩:=put_facts s n hs i v i0 i1 v0 v1 w
 clear hs
 have HO:Hid (W.setCell ⟨w.heap.size,i.toNat,none⟩ (.int .u8 v)=w.drew.alloc o):=ho
 clear ho
 go_enter func176,ntmps176
 go_wp2
 go_ret
 exact ⟨rfl,o,HO.out⟩
end Go.Proofs.YtkfehdkjeodbmaaGreatDoor.CartP
