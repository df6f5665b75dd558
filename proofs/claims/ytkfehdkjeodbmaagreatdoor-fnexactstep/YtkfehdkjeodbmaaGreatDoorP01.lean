/-
  Contracts and facts of ours, joined: CartW, CartV, CartX, CartY.
-/
import Derived.Test.YtkfehdkjeodbmaaGreatDoorP00
set_option linter.unusedVariables false
set_option linter.unusedSimpArgs false
set_option maxRecDepth 20000
set_option maxHeartbeats 8000000
open Go.ChangeShapes Go.WideShapes Go.ChangeAt Go.RowKit
open Go.Proofs.Tryz
namespace Go.Proofs.YtkfehdkjeodbmaaGreatDoor.CartW
open Go.Deep
open Signed (inB ret_int ret_bool isByte_any l1In_any)
open Carts CartK CartL CartM CartP CartR
def bank1 (v:Int):Int:=if v%32<1 then 1 else v%32
theorem askedRam_0 (rom:ByteArray) (kind bank:Int) (ram:ByteArray) (rb:Int) (on:Bool) (mode:Int) (v:Int) (w:World) (v0:0<=v) (v1:v<=255) :
  Calls prog 233 #[.agg #[.string rom,.int .i64 kind,.int .i64 bank,.string ram,.int .i64 rb,.bool on,.int .i64 mode],.int .i64 0,.int .i64 v] w fun e w'=>e=.returned (.agg #[.string rom,.int .i64 kind,.int .i64 bank,.string ram,.int .i64 rb,.bool (v%16 == 10),.int .i64 mode])/\∃ o1 o2,w'=((w.alloc o1).alloc o2):=by
 go_enter func233,ntmps233
 go_wp2
 all_goals exact bodyPost_ret (v:=.agg #[.string rom,.int .i64 kind,.int .i64 bank,.string ram,.int .i64 rb,.bool (v%16 == 10),.int .i64 mode]) (by simp [results,results233,go_sem]) rfl ⟨rfl,_,_,rfl⟩
theorem askedRam_2 (rom:ByteArray) (kind bank:Int) (ram:ByteArray) (rb:Int) (on:Bool) (mode:Int) (v:Int) (w:World) (v0:0<=v) (v1:v<=255) :
  Calls prog 233 #[.agg #[.string rom,.int .i64 kind,.int .i64 bank,.string ram,.int .i64 rb,.bool on,.int .i64 mode],.int .i64 2,.int .i64 v] w fun e w'=>e=.returned (.agg #[.string rom,.int .i64 kind,.int .i64 bank,.string ram,.int .i64 (v%4),.bool on,.int .i64 mode])/\∃ o1 o2,w'=((w.alloc o1).alloc o2):=by
 go_enter func233,ntmps233
 go_wp2
 all_goals exact bodyPost_ret (v:=.agg #[.string rom,.int .i64 kind,.int .i64 bank,.string ram,.int .i64 (v%4),.bool on,.int .i64 mode]) (by simp [results,results233,go_sem]) rfl ⟨rfl,_,_,rfl⟩
theorem askedRam_3 (rom:ByteArray) (kind bank:Int) (ram:ByteArray) (rb:Int) (on:Bool) (mode:Int) (v:Int) (w:World) (v0:0<=v) (v1:v<=255) :
  Calls prog 233 #[.agg #[.string rom,.int .i64 kind,.int .i64 bank,.string ram,.int .i64 rb,.bool on,.int .i64 mode],.int .i64 3,.int .i64 v] w fun e w'=>e=.returned (.agg #[.string rom,.int .i64 kind,.int .i64 bank,.string ram,.int .i64 rb,.bool on,.int .i64 mode])/\∃ o1 o2,w'=((w.alloc o1).alloc o2):=by
 go_enter func233,ntmps233
 go_wp2
 all_goals exact bodyPost_ret (v:=.agg #[.string rom,.int .i64 kind,.int .i64 bank,.string ram,.int .i64 rb,.bool on,.int .i64 mode]) (by simp [results,results233,go_sem]) rfl ⟨rfl,_,_,rfl⟩
theorem askedOne_0 (rom:ByteArray) (kind bank:Int) (ram:ByteArray) (rb:Int) (on:Bool) (mode:Int) (v:Int) (w:World) (v0:0<=v) (v1:v<=255) :
  Calls prog 231 #[.agg #[.string rom,.int .i64 kind,.int .i64 bank,.string ram,.int .i64 rb,.bool on,.int .i64 mode],.int .i64 0,.int .i64 v] w fun e w'=>e=.returned (.agg #[.string rom,.int .i64 kind,.int .i64 bank,.string ram,.int .i64 rb,.bool (v%16 == 10),.int .i64 mode])/\∃ o1 o2 o3 o4,w'=((((w.alloc o1).alloc o2).alloc o3).alloc o4):=by
 go_enter func231,ntmps231
 go_wp2_with (go_at_call 233;refine (askedRam_0 rom kind bank ram rb on mode v _ v0 v1).mono ?_;rintro e w' ⟨rfl,p1,p2,rfl⟩)
 all_goals exact bodyPost_ret (v:=.agg #[.string rom,.int .i64 kind,.int .i64 bank,.string ram,.int .i64 rb,.bool (v%16 == 10),.int .i64 mode]) (by simp [results,results231,go_sem]) rfl ⟨rfl,_,_,_,_,rfl⟩
theorem askedFive_0 (rom:ByteArray) (kind bank:Int) (ram:ByteArray) (rb:Int) (on:Bool) (mode:Int) (v:Int) (w:World) (v0:0<=v) (v1:v<=255) :
  Calls prog 232 #[.agg #[.string rom,.int .i64 kind,.int .i64 bank,.string ram,.int .i64 rb,.bool on,.int .i64 mode],.int .i64 0,.int .i64 v] w fun e w'=>e=.returned (.agg #[.string rom,.int .i64 kind,.int .i64 bank,.string ram,.int .i64 rb,.bool (v%16 == 10),.int .i64 mode])/\∃ o1 o2 o3 o4,w'=((((w.alloc o1).alloc o2).alloc o3).alloc o4):=by
 go_enter func232,ntmps232
 go_wp2_with (go_at_call 233;refine (askedRam_0 rom kind bank ram rb on mode v _ v0 v1).mono ?_;rintro e w' ⟨rfl,p1,p2,rfl⟩)
 all_goals exact bodyPost_ret (v:=.agg #[.string rom,.int .i64 kind,.int .i64 bank,.string ram,.int .i64 rb,.bool (v%16 == 10),.int .i64 mode]) (by simp [results,results232,go_sem]) rfl ⟨rfl,_,_,_,_,rfl⟩
theorem askedOne_1 (rom:ByteArray) (kind bank:Int) (ram:ByteArray) (rb:Int) (on:Bool) (mode:Int) (v:Int) (w:World) (v0:0<=v) (v1:v<=255) :
  Calls prog 231 #[.agg #[.string rom,.int .i64 kind,.int .i64 bank,.string ram,.int .i64 rb,.bool on,.int .i64 mode],.int .i64 1,.int .i64 v] w fun e w'=>e=.returned (.agg #[.string rom,.int .i64 kind,.int .i64 (bank1 v),.string ram,.int .i64 rb,.bool on,.int .i64 mode])/\∃ o1 o2,w'=((w.alloc o1).alloc o2):=by
 go_enter func231,ntmps231
 go_wp2
 all_goals exact bodyPost_ret (v:=.agg #[.string rom,.int .i64 kind,.int .i64 (bank1 v),.string ram,.int .i64 rb,.bool on,.int .i64 mode]) (by simp [results,results231,bank1,go_sem];try omega) rfl ⟨rfl,_,_,rfl⟩
theorem askedFive_1 (rom:ByteArray) (kind bank:Int) (ram:ByteArray) (rb:Int) (on:Bool) (mode:Int) (v:Int) (w:World) (v0:0<=v) (v1:v<=255) :
  Calls prog 232 #[.agg #[.string rom,.int .i64 kind,.int .i64 bank,.string ram,.int .i64 rb,.bool on,.int .i64 mode],.int .i64 1,.int .i64 v] w fun e w'=>e=.returned (.agg #[.string rom,.int .i64 kind,.int .i64 v,.string ram,.int .i64 rb,.bool on,.int .i64 mode])/\∃ o1 o2,w'=((w.alloc o1).alloc o2):=by
 go_enter func232,ntmps232
 go_wp2
 all_goals exact bodyPost_ret (v:=.agg #[.string rom,.int .i64 kind,.int .i64 v,.string ram,.int .i64 rb,.bool on,.int .i64 mode]) (by simp [results,results232,go_sem]) rfl ⟨rfl,_,_,rfl⟩
theorem askedOne_2 (rom:ByteArray) (kind bank:Int) (ram:ByteArray) (rb:Int) (on:Bool) (mode:Int) (v:Int) (w:World) (v0:0<=v) (v1:v<=255) :
  Calls prog 231 #[.agg #[.string rom,.int .i64 kind,.int .i64 bank,.string ram,.int .i64 rb,.bool on,.int .i64 mode],.int .i64 2,.int .i64 v] w fun e w'=>e=.returned (.agg #[.string rom,.int .i64 kind,.int .i64 bank,.string ram,.int .i64 (v%4),.bool on,.int .i64 mode])/\∃ o1 o2 o3 o4,w'=((((w.alloc o1).alloc o2).alloc o3).alloc o4):=by
 go_enter func231,ntmps231
 go_wp2_with (go_at_call 233;refine (askedRam_2 rom kind bank ram rb on mode v _ v0 v1).mono ?_;rintro e w' ⟨rfl,p1,p2,rfl⟩)
 all_goals exact bodyPost_ret (v:=.agg #[.string rom,.int .i64 kind,.int .i64 bank,.string ram,.int .i64 (v%4),.bool on,.int .i64 mode]) (by simp [results,results231,go_sem]) rfl ⟨rfl,_,_,_,_,rfl⟩
theorem askedFive_2 (rom:ByteArray) (kind bank:Int) (ram:ByteArray) (rb:Int) (on:Bool) (mode:Int) (v:Int) (w:World) (v0:0<=v) (v1:v<=255) :
  Calls prog 232 #[.agg #[.string rom,.int .i64 kind,.int .i64 bank,.string ram,.int .i64 rb,.bool on,.int .i64 mode],.int .i64 2,.int .i64 v] w fun e w'=>e=.returned (.agg #[.string rom,.int .i64 kind,.int .i64 bank,.string ram,.int .i64 (v%4),.bool on,.int .i64 mode])/\∃ o1 o2 o3 o4,w'=((((w.alloc o1).alloc o2).alloc o3).alloc o4):=by
 go_enter func232,ntmps232
 go_wp2_with (go_at_call 233;refine (askedRam_2 rom kind bank ram rb on mode v _ v0 v1).mono ?_;rintro e w' ⟨rfl,p1,p2,rfl⟩)
 all_goals exact bodyPost_ret (v:=.agg #[.string rom,.int .i64 kind,.int .i64 bank,.string ram,.int .i64 (v%4),.bool on,.int .i64 mode]) (by simp [results,results232,go_sem]) rfl ⟨rfl,_,_,_,_,rfl⟩
theorem askedOne_3 (rom:ByteArray) (kind bank:Int) (ram:ByteArray) (rb:Int) (on:Bool) (mode:Int) (v:Int) (w:World) (v0:0<=v) (v1:v<=255) :
  Calls prog 231 #[.agg #[.string rom,.int .i64 kind,.int .i64 bank,.string ram,.int .i64 rb,.bool on,.int .i64 mode],.int .i64 3,.int .i64 v] w fun e w'=>e=.returned (.agg #[.string rom,.int .i64 kind,.int .i64 bank,.string ram,.int .i64 rb,.bool on,.int .i64 (v%2)])/\∃ o1 o2,w'=((w.alloc o1).alloc o2):=by
 go_enter func231,ntmps231
 go_wp2
 all_goals exact bodyPost_ret (v:=.agg #[.string rom,.int .i64 kind,.int .i64 bank,.string ram,.int .i64 rb,.bool on,.int .i64 (v%2)]) (by simp [results,results231,go_sem]) rfl ⟨rfl,_,_,rfl⟩
theorem askedFive_3 (rom:ByteArray) (kind bank:Int) (ram:ByteArray) (rb:Int) (on:Bool) (mode:Int) (v:Int) (w:World) (v0:0<=v) (v1:v<=255) :
  Calls prog 232 #[.agg #[.string rom,.int .i64 kind,.int .i64 bank,.string ram,.int .i64 rb,.bool on,.int .i64 mode],.int .i64 3,.int .i64 v] w fun e w'=>e=.returned (.agg #[.string rom,.int .i64 kind,.int .i64 bank,.string ram,.int .i64 rb,.bool on,.int .i64 mode])/\∃ o1 o2 o3 o4,w'=((((w.alloc o1).alloc o2).alloc o3).alloc o4):=by
 go_enter func232,ntmps232
 go_wp2_with (go_at_call 233;refine (askedRam_3 rom kind bank ram rb on mode v _ v0 v1).mono ?_;rintro e w' ⟨rfl,p1,p2,rfl⟩)
 all_goals exact bodyPost_ret (v:=.agg #[.string rom,.int .i64 kind,.int .i64 bank,.string ram,.int .i64 rb,.bool on,.int .i64 mode]) (by simp [results,results232,go_sem]) rfl ⟨rfl,_,_,_,_,rfl⟩
theorem askedCart_0 (rom:ByteArray) (bank:Int) (ram:ByteArray) (rb:Int) (on:Bool) (mode:Int) (what:Int) (v:Int) (w:World) (v0:0<=v) (v1:v<=255) :
  Calls prog 228 #[.agg #[.string rom,.int .i64 0,.int .i64 bank,.string ram,.int .i64 rb,.bool on,.int .i64 mode],.int .i64 what,.int .i64 v] w fun e w'=>e=.returned (.agg #[.string rom,.int .i64 0,.int .i64 bank,.string ram,.int .i64 rb,.bool on,.int .i64 mode])/\∃ o1 o2,w'=((w.alloc o1).alloc o2):=by
 have a1:=as01
 have a2:=as02
 go_enter func228,ntmps228
 go_wp2_with (go_at_call 92;refine (mapperOf_0 _).mono ?_;rintro e w' ⟨rfl,rfl⟩)
 all_goals exact bodyPost_ret (v:=.agg #[.string rom,.int .i64 0,.int .i64 bank,.string ram,.int .i64 rb,.bool on,.int .i64 mode]) (by simp [results,results228,go_sem]) rfl ⟨rfl,_,_,rfl⟩
theorem askedCart_10 (rom:ByteArray) (bank:Int) (ram:ByteArray) (rb:Int) (on:Bool) (mode:Int) (what:Int) (hw:what=0) (v:Int) (w:World) (v0:0<=v) (v1:v<=255) :
  Calls prog 228 #[.agg #[.string rom,.int .i64 1,.int .i64 bank,.string ram,.int .i64 rb,.bool on,.int .i64 mode],.int .i64 what,.int .i64 v] w fun e w'=>e=.returned (.agg #[.string rom,.int .i64 1,.int .i64 bank,.string ram,.int .i64 rb,.bool (v%16 == 10),.int .i64 mode])/\∃ o1 o2 o3 o4 o5 o6,w'=((((((w.alloc o1).alloc o2).alloc o3).alloc o4).alloc o5).alloc o6):=by
 subst hw
 have a1:=as11
 have a2:=as12
 go_enter func228,ntmps228
 go_wp2_with first|(go_at_call 92;refine (mapperOf_1 _).mono ?_;rintro e w' ⟨rfl,rfl⟩)|(go_at_call 231;refine (askedOne_0 rom 1 bank ram rb on mode v _ v0 v1).mono ?_;rintro e w' ⟨rfl,p1,p2,p3,p4,rfl⟩)
 all_goals exact bodyPost_ret (v:=.agg #[.string rom,.int .i64 1,.int .i64 bank,.string ram,.int .i64 rb,.bool (v%16 == 10),.int .i64 mode]) (by simp [results,results228,go_sem]) rfl ⟨rfl,_,_,_,_,_,_,rfl⟩
theorem askedCart_11 (rom:ByteArray) (bank:Int) (ram:ByteArray) (rb:Int) (on:Bool) (mode:Int) (what:Int) (hw:what=1) (v:Int) (w:World) (v0:0<=v) (v1:v<=255) :
  Calls prog 228 #[.agg #[.string rom,.int .i64 1,.int .i64 bank,.string ram,.int .i64 rb,.bool on,.int .i64 mode],.int .i64 what,.int .i64 v] w fun e w'=>e=.returned (.agg #[.string rom,.int .i64 1,.int .i64 (bank1 v),.string ram,.int .i64 rb,.bool on,.int .i64 mode])/\∃ o1 o2 o3 o4,w'=((((w.alloc o1).alloc o2).alloc o3).alloc o4):=by
 subst hw
 have a1:=as11
 have a2:=as12
 go_enter func228,ntmps228
 go_wp2_with first|(go_at_call 92;refine (mapperOf_1 _).mono ?_;rintro e w' ⟨rfl,rfl⟩)|(go_at_call 231;refine (askedOne_1 rom 1 bank ram rb on mode v _ v0 v1).mono ?_;rintro e w' ⟨rfl,p1,p2,rfl⟩)
 all_goals exact bodyPost_ret (v:=.agg #[.string rom,.int .i64 1,.int .i64 (bank1 v),.string ram,.int .i64 rb,.bool on,.int .i64 mode]) (by simp [results,results228,go_sem]) rfl ⟨rfl,_,_,_,_,rfl⟩
theorem askedCart_12 (rom:ByteArray) (bank:Int) (ram:ByteArray) (rb:Int) (on:Bool) (mode:Int) (what:Int) (hw:what=2) (v:Int) (w:World) (v0:0<=v) (v1:v<=255) :
  Calls prog 228 #[.agg #[.string rom,.int .i64 1,.int .i64 bank,.string ram,.int .i64 rb,.bool on,.int .i64 mode],.int .i64 what,.int .i64 v] w fun e w'=>e=.returned (.agg #[.string rom,.int .i64 1,.int .i64 bank,.string ram,.int .i64 (v%4),.bool on,.int .i64 mode])/\∃ o1 o2 o3 o4 o5 o6,w'=((((((w.alloc o1).alloc o2).alloc o3).alloc o4).alloc o5).alloc o6):=by
 subst hw
 have a1:=as11
 have a2:=as12
 go_enter func228,ntmps228
 go_wp2_with first|(go_at_call 92;refine (mapperOf_1 _).mono ?_;rintro e w' ⟨rfl,rfl⟩)|(go_at_call 231;refine (askedOne_2 rom 1 bank ram rb on mode v _ v0 v1).mono ?_;rintro e w' ⟨rfl,p1,p2,p3,p4,rfl⟩)
 all_goals exact bodyPost_ret (v:=.agg #[.string rom,.int .i64 1,.int .i64 bank,.string ram,.int .i64 (v%4),.bool on,.int .i64 mode]) (by simp [results,results228,go_sem]) rfl ⟨rfl,_,_,_,_,_,_,rfl⟩
theorem askedCart_13 (rom:ByteArray) (bank:Int) (ram:ByteArray) (rb:Int) (on:Bool) (mode:Int) (what:Int) (hw:what=3) (v:Int) (w:World) (v0:0<=v) (v1:v<=255) :
  Calls prog 228 #[.agg #[.string rom,.int .i64 1,.int .i64 bank,.string ram,.int .i64 rb,.bool on,.int .i64 mode],.int .i64 what,.int .i64 v] w fun e w'=>e=.returned (.agg #[.string rom,.int .i64 1,.int .i64 bank,.string ram,.int .i64 rb,.bool on,.int .i64 (v%2)])/\∃ o1 o2 o3 o4,w'=((((w.alloc o1).alloc o2).alloc o3).alloc o4):=by
 subst hw
 have a1:=as11
 have a2:=as12
 go_enter func228,ntmps228
 go_wp2_with first|(go_at_call 92;refine (mapperOf_1 _).mono ?_;rintro e w' ⟨rfl,rfl⟩)|(go_at_call 231;refine (askedOne_3 rom 1 bank ram rb on mode v _ v0 v1).mono ?_;rintro e w' ⟨rfl,p1,p2,rfl⟩)
 all_goals exact bodyPost_ret (v:=.agg #[.string rom,.int .i64 1,.int .i64 bank,.string ram,.int .i64 rb,.bool on,.int .i64 (v%2)]) (by simp [results,results228,go_sem]) rfl ⟨rfl,_,_,_,_,rfl⟩
theorem askedCart_20 (rom:ByteArray) (bank:Int) (ram:ByteArray) (rb:Int) (on:Bool) (mode:Int) (what:Int) (hw:what=0) (v:Int) (w:World) (v0:0<=v) (v1:v<=255) :
  Calls prog 228 #[.agg #[.string rom,.int .i64 2,.int .i64 bank,.string ram,.int .i64 rb,.bool on,.int .i64 mode],.int .i64 what,.int .i64 v] w fun e w'=>e=.returned (.agg #[.string rom,.int .i64 2,.int .i64 bank,.string ram,.int .i64 rb,.bool (v%16 == 10),.int .i64 mode])/\∃ o1 o2 o3 o4 o5 o6,w'=((((((w.alloc o1).alloc o2).alloc o3).alloc o4).alloc o5).alloc o6):=by
 subst hw
 have a1:=as21
 have a2:=as22
 go_enter func228,ntmps228
 go_wp2_with first|(go_at_call 92;refine (mapperOf_2 _).mono ?_;rintro e w' ⟨rfl,rfl⟩)|(go_at_call 232;refine (askedFive_0 rom 2 bank ram rb on mode v _ v0 v1).mono ?_;rintro e w' ⟨rfl,p1,p2,p3,p4,rfl⟩)
 all_goals exact bodyPost_ret (v:=.agg #[.string rom,.int .i64 2,.int .i64 bank,.string ram,.int .i64 rb,.bool (v%16 == 10),.int .i64 mode]) (by simp [results,results228,go_sem]) rfl ⟨rfl,_,_,_,_,_,_,rfl⟩
theorem askedCart_21 (rom:ByteArray) (bank:Int) (ram:ByteArray) (rb:Int) (on:Bool) (mode:Int) (what:Int) (hw:what=1) (v:Int) (w:World) (v0:0<=v) (v1:v<=255) :
  Calls prog 228 #[.agg #[.string rom,.int .i64 2,.int .i64 bank,.string ram,.int .i64 rb,.bool on,.int .i64 mode],.int .i64 what,.int .i64 v] w fun e w'=>e=.returned (.agg #[.string rom,.int .i64 2,.int .i64 v,.string ram,.int .i64 rb,.bool on,.int .i64 mode])/\∃ o1 o2 o3 o4,w'=((((w.alloc o1).alloc o2).alloc o3).alloc o4):=by
 subst hw
 have a1:=as21
 have a2:=as22
 go_enter func228,ntmps228
 go_wp2_with first|(go_at_call 92;refine (mapperOf_2 _).mono ?_;rintro e w' ⟨rfl,rfl⟩)|(go_at_call 232;refine (askedFive_1 rom 2 bank ram rb on mode v _ v0 v1).mono ?_;rintro e w' ⟨rfl,p1,p2,rfl⟩)
 all_goals exact bodyPost_ret (v:=.agg #[.string rom,.int .i64 2,.int .i64 v,.string ram,.int .i64 rb,.bool on,.int .i64 mode]) (by simp [results,results228,go_sem]) rfl ⟨rfl,_,_,_,_,rfl⟩
theorem askedCart_22 (rom:ByteArray) (bank:Int) (ram:ByteArray) (rb:Int) (on:Bool) (mode:Int) (what:Int) (hw:what=2) (v:Int) (w:World) (v0:0<=v) (v1:v<=255) :
  Calls prog 228 #[.agg #[.string rom,.int .i64 2,.int .i64 bank,.string ram,.int .i64 rb,.bool on,.int .i64 mode],.int .i64 what,.int .i64 v] w fun e w'=>e=.returned (.agg #[.string rom,.int .i64 2,.int .i64 bank,.string ram,.int .i64 (v%4),.bool on,.int .i64 mode])/\∃ o1 o2 o3 o4 o5 o6,w'=((((((w.alloc o1).alloc o2).alloc o3).alloc o4).alloc o5).alloc o6):=by
 subst hw
 have a1:=as21
 have a2:=as22
 go_enter func228,ntmps228
 go_wp2_with first|(go_at_call 92;refine (mapperOf_2 _).mono ?_;rintro e w' ⟨rfl,rfl⟩)|(go_at_call 232;refine (askedFive_2 rom 2 bank ram rb on mode v _ v0 v1).mono ?_;rintro e w' ⟨rfl,p1,p2,p3,p4,rfl⟩)
 all_goals exact bodyPost_ret (v:=.agg #[.string rom,.int .i64 2,.int .i64 bank,.string ram,.int .i64 (v%4),.bool on,.int .i64 mode]) (by simp [results,results228,go_sem]) rfl ⟨rfl,_,_,_,_,_,_,rfl⟩
theorem askedCart_23 (rom:ByteArray) (bank:Int) (ram:ByteArray) (rb:Int) (on:Bool) (mode:Int) (what:Int) (hw:what=3) (v:Int) (w:World) (v0:0<=v) (v1:v<=255) :
  Calls prog 228 #[.agg #[.string rom,.int .i64 2,.int .i64 bank,.string ram,.int .i64 rb,.bool on,.int .i64 mode],.int .i64 what,.int .i64 v] w fun e w'=>e=.returned (.agg #[.string rom,.int .i64 2,.int .i64 bank,.string ram,.int .i64 rb,.bool on,.int .i64 mode])/\∃ o1 o2 o3 o4 o5 o6,w'=((((((w.alloc o1).alloc o2).alloc o3).alloc o4).alloc o5).alloc o6):=by
 subst hw
 have a1:=as21
 have a2:=as22
 go_enter func228,ntmps228
 go_wp2_with first|(go_at_call 92;refine (mapperOf_2 _).mono ?_;rintro e w' ⟨rfl,rfl⟩)|(go_at_call 232;refine (askedFive_3 rom 2 bank ram rb on mode v _ v0 v1).mono ?_;rintro e w' ⟨rfl,p1,p2,p3,p4,rfl⟩)
 all_goals exact bodyPost_ret (v:=.agg #[.string rom,.int .i64 2,.int .i64 bank,.string ram,.int .i64 rb,.bool on,.int .i64 mode]) (by simp [results,results228,go_sem]) rfl ⟨rfl,_,_,_,_,_,_,rfl⟩
theorem written_0 (rom:ByteArray) (bank:Int) (ram:ByteArray) (rb:Int) (on:Bool) (mode:Int) (addr v:Int) (w:World) (v0:0<=v) (v1:v<=255) (a0:0<=addr) (a1:addr<512) :
  Calls prog 212 #[.agg #[.string rom,.int .i64 0,.int .i64 bank,.string ram,.int .i64 rb,.bool on,.int .i64 mode],.int .i64 addr,.int .i64 v] w fun e w'=>e=.returned (.agg #[.string rom,.int .i64 0,.int .i64 bank,.string ram,.int .i64 rb,.bool on,.int .i64 mode])/\∃ o1 o2 o3 o4,w'=((((w.alloc o1).alloc o2).alloc o3).alloc o4):=by
 have c:=fun w=>askedCart_0 rom bank ram rb on mode (addr / 128) v w v0 v1
 go_enter func212,ntmps212
 go_wp2_with (go_at_call 228;refine (c _).mono ?_;rintro e w' ⟨rfl,p1,p2,rfl⟩)
 all_goals exact bodyPost_ret (v:=.agg #[.string rom,.int .i64 0,.int .i64 bank,.string ram,.int .i64 rb,.bool on,.int .i64 mode]) (by simp [results,results212,go_sem]) rfl ⟨rfl,_,_,_,_,rfl⟩
theorem written_10 (rom:ByteArray) (bank:Int) (ram:ByteArray) (rb:Int) (on:Bool) (mode:Int) (addr v:Int) (w:World) (v0:0<=v) (v1:v<=255) (a0:0<=addr) (a1:addr<128) :
  Calls prog 212 #[.agg #[.string rom,.int .i64 1,.int .i64 bank,.string ram,.int .i64 rb,.bool on,.int .i64 mode],.int .i64 addr,.int .i64 v] w fun e w'=>e=.returned (.agg #[.string rom,.int .i64 1,.int .i64 bank,.string ram,.int .i64 rb,.bool (v%16 == 10),.int .i64 mode])/\∃ o1 o2 o3 o4 o5 o6 o7 o8,w'=((((((((w.alloc o1).alloc o2).alloc o3).alloc o4).alloc o5).alloc o6).alloc o7).alloc o8):=by
 have c:=fun w=>askedCart_10 rom bank ram rb on mode (addr / 128) (by omega) v w v0 v1
 go_enter func212,ntmps212
 go_wp2_with (go_at_call 228;refine (c _).mono ?_;rintro e w' ⟨rfl,p1,p2,p3,p4,p5,p6,rfl⟩)
 all_goals exact bodyPost_ret (v:=.agg #[.string rom,.int .i64 1,.int .i64 bank,.string ram,.int .i64 rb,.bool (v%16 == 10),.int .i64 mode]) (by simp [results,results212,go_sem]) rfl ⟨rfl,_,_,_,_,_,_,_,_,rfl⟩
theorem written_11 (rom:ByteArray) (bank:Int) (ram:ByteArray) (rb:Int) (on:Bool) (mode:Int) (addr v:Int) (w:World) (v0:0<=v) (v1:v<=255) (a0:128<=addr) (a1:addr<256) :
  Calls prog 212 #[.agg #[.string rom,.int .i64 1,.int .i64 bank,.string ram,.int .i64 rb,.bool on,.int .i64 mode],.int .i64 addr,.int .i64 v] w fun e w'=>e=.returned (.agg #[.string rom,.int .i64 1,.int .i64 (bank1 v),.string ram,.int .i64 rb,.bool on,.int .i64 mode])/\∃ o1 o2 o3 o4 o5 o6,w'=((((((w.alloc o1).alloc o2).alloc o3).alloc o4).alloc o5).alloc o6):=by
 have c:=fun w=>askedCart_11 rom bank ram rb on mode (addr / 128) (by omega) v w v0 v1
 go_enter func212,ntmps212
 go_wp2_with (go_at_call 228;refine (c _).mono ?_;rintro e w' ⟨rfl,p1,p2,p3,p4,rfl⟩)
 all_goals exact bodyPost_ret (v:=.agg #[.string rom,.int .i64 1,.int .i64 (bank1 v),.string ram,.int .i64 rb,.bool on,.int .i64 mode]) (by simp [results,results212,go_sem]) rfl ⟨rfl,_,_,_,_,_,_,rfl⟩
theorem written_12 (rom:ByteArray) (bank:Int) (ram:ByteArray) (rb:Int) (on:Bool) (mode:Int) (addr v:Int) (w:World) (v0:0<=v) (v1:v<=255) (a0:256<=addr) (a1:addr<384) :
  Calls prog 212 #[.agg #[.string rom,.int .i64 1,.int .i64 bank,.string ram,.int .i64 rb,.bool on,.int .i64 mode],.int .i64 addr,.int .i64 v] w fun e w'=>e=.returned (.agg #[.string rom,.int .i64 1,.int .i64 bank,.string ram,.int .i64 (v%4),.bool on,.int .i64 mode])/\∃ o1 o2 o3 o4 o5 o6 o7 o8,w'=((((((((w.alloc o1).alloc o2).alloc o3).alloc o4).alloc o5).alloc o6).alloc o7).alloc o8):=by
 have c:=fun w=>askedCart_12 rom bank ram rb on mode (addr / 128) (by omega) v w v0 v1
 go_enter func212,ntmps212
 go_wp2_with (go_at_call 228;refine (c _).mono ?_;rintro e w' ⟨rfl,p1,p2,p3,p4,p5,p6,rfl⟩)
 all_goals exact bodyPost_ret (v:=.agg #[.string rom,.int .i64 1,.int .i64 bank,.string ram,.int .i64 (v%4),.bool on,.int .i64 mode]) (by simp [results,results212,go_sem]) rfl ⟨rfl,_,_,_,_,_,_,_,_,rfl⟩
theorem written_13 (rom:ByteArray) (bank:Int) (ram:ByteArray) (rb:Int) (on:Bool) (mode:Int) (addr v:Int) (w:World) (v0:0<=v) (v1:v<=255) (a0:384<=addr) (a1:addr<512) :
  Calls prog 212 #[.agg #[.string rom,.int .i64 1,.int .i64 bank,.string ram,.int .i64 rb,.bool on,.int .i64 mode],.int .i64 addr,.int .i64 v] w fun e w'=>e=.returned (.agg #[.string rom,.int .i64 1,.int .i64 bank,.string ram,.int .i64 rb,.bool on,.int .i64 (v%2)])/\∃ o1 o2 o3 o4 o5 o6,w'=((((((w.alloc o1).alloc o2).alloc o3).alloc o4).alloc o5).alloc o6):=by
 have c:=fun w=>askedCart_13 rom bank ram rb on mode (addr / 128) (by omega) v w v0 v1
 go_enter func212,ntmps212
 go_wp2_with (go_at_call 228;refine (c _).mono ?_;rintro e w' ⟨rfl,p1,p2,p3,p4,rfl⟩)
 all_goals exact bodyPost_ret (v:=.agg #[.string rom,.int .i64 1,.int .i64 bank,.string ram,.int .i64 rb,.bool on,.int .i64 (v%2)]) (by simp [results,results212,go_sem]) rfl ⟨rfl,_,_,_,_,_,_,rfl⟩
theorem written_20 (rom:ByteArray) (bank:Int) (ram:ByteArray) (rb:Int) (on:Bool) (mode:Int) (addr v:Int) (w:World) (v0:0<=v) (v1:v<=255) (a0:0<=addr) (a1:addr<128) :
  Calls prog 212 #[.agg #[.string rom,.int .i64 2,.int .i64 bank,.string ram,.int .i64 rb,.bool on,.int .i64 mode],.int .i64 addr,.int .i64 v] w fun e w'=>e=.returned (.agg #[.string rom,.int .i64 2,.int .i64 bank,.string ram,.int .i64 rb,.bool (v%16 == 10),.int .i64 mode])/\∃ o1 o2 o3 o4 o5 o6 o7 o8,w'=((((((((w.alloc o1).alloc o2).alloc o3).alloc o4).alloc o5).alloc o6).alloc o7).alloc o8):=by
 have c:=fun w=>askedCart_20 rom bank ram rb on mode (addr / 128) (by omega) v w v0 v1
 go_enter func212,ntmps212
 go_wp2_with (go_at_call 228;refine (c _).mono ?_;rintro e w' ⟨rfl,p1,p2,p3,p4,p5,p6,rfl⟩)
 all_goals exact bodyPost_ret (v:=.agg #[.string rom,.int .i64 2,.int .i64 bank,.string ram,.int .i64 rb,.bool (v%16 == 10),.int .i64 mode]) (by simp [results,results212,go_sem]) rfl ⟨rfl,_,_,_,_,_,_,_,_,rfl⟩
theorem written_21 (rom:ByteArray) (bank:Int) (ram:ByteArray) (rb:Int) (on:Bool) (mode:Int) (addr v:Int) (w:World) (v0:0<=v) (v1:v<=255) (a0:128<=addr) (a1:addr<256) :
  Calls prog 212 #[.agg #[.string rom,.int .i64 2,.int .i64 bank,.string ram,.int .i64 rb,.bool on,.int .i64 mode],.int .i64 addr,.int .i64 v] w fun e w'=>e=.returned (.agg #[.string rom,.int .i64 2,.int .i64 v,.string ram,.int .i64 rb,.bool on,.int .i64 mode])/\∃ o1 o2 o3 o4 o5 o6,w'=((((((w.alloc o1).alloc o2).alloc o3).alloc o4).alloc o5).alloc o6):=by
 have c:=fun w=>askedCart_21 rom bank ram rb on mode (addr / 128) (by omega) v w v0 v1
 go_enter func212,ntmps212
 go_wp2_with (go_at_call 228;refine (c _).mono ?_;rintro e w' ⟨rfl,p1,p2,p3,p4,rfl⟩)
 all_goals exact bodyPost_ret (v:=.agg #[.string rom,.int .i64 2,.int .i64 v,.string ram,.int .i64 rb,.bool on,.int .i64 mode]) (by simp [results,results212,go_sem]) rfl ⟨rfl,_,_,_,_,_,_,rfl⟩
theorem written_22 (rom:ByteArray) (bank:Int) (ram:ByteArray) (rb:Int) (on:Bool) (mode:Int) (addr v:Int) (w:World) (v0:0<=v) (v1:v<=255) (a0:256<=addr) (a1:addr<384) :
  Calls prog 212 #[.agg #[.string rom,.int .i64 2,.int .i64 bank,.string ram,.int .i64 rb,.bool on,.int .i64 mode],.int .i64 addr,.int .i64 v] w fun e w'=>e=.returned (.agg #[.string rom,.int .i64 2,.int .i64 bank,.string ram,.int .i64 (v%4),.bool on,.int .i64 mode])/\∃ o1 o2 o3 o4 o5 o6 o7 o8,w'=((((((((w.alloc o1).alloc o2).alloc o3).alloc o4).alloc o5).alloc o6).alloc o7).alloc o8):=by
 have c:=fun w=>askedCart_22 rom bank ram rb on mode (addr / 128) (by omega) v w v0 v1
 go_enter func212,ntmps212
 go_wp2_with (go_at_call 228;refine (c _).mono ?_;rintro e w' ⟨rfl,p1,p2,p3,p4,p5,p6,rfl⟩)
 all_goals exact bodyPost_ret (v:=.agg #[.string rom,.int .i64 2,.int .i64 bank,.string ram,.int .i64 (v%4),.bool on,.int .i64 mode]) (by simp [results,results212,go_sem]) rfl ⟨rfl,_,_,_,_,_,_,_,_,rfl⟩
theorem written_23 (rom:ByteArray) (bank:Int) (ram:ByteArray) (rb:Int) (on:Bool) (mode:Int) (addr v:Int) (w:World) (v0:0<=v) (v1:v<=255) (a0:384<=addr) (a1:addr<512) :
  Calls prog 212 #[.agg #[.string rom,.int .i64 2,.int .i64 bank,.string ram,.int .i64 rb,.bool on,.int .i64 mode],.int .i64 addr,.int .i64 v] w fun e w'=>e=.returned (.agg #[.string rom,.int .i64 2,.int .i64 bank,.string ram,.int .i64 rb,.bool on,.int .i64 mode])/\∃ o1 o2 o3 o4 o5 o6 o7 o8,w'=((((((((w.alloc o1).alloc o2).alloc o3).alloc o4).alloc o5).alloc o6).alloc o7).alloc o8):=by
 have c:=fun w=>askedCart_23 rom bank ram rb on mode (addr / 128) (by omega) v w v0 v1
 go_enter func212,ntmps212
 go_wp2_with (go_at_call 228;refine (c _).mono ?_;rintro e w' ⟨rfl,p1,p2,p3,p4,p5,p6,rfl⟩)
 all_goals exact bodyPost_ret (v:=.agg #[.string rom,.int .i64 2,.int .i64 bank,.string ram,.int .i64 rb,.bool on,.int .i64 mode]) (by simp [results,results212,go_sem]) rfl ⟨rfl,_,_,_,_,_,_,_,_,rfl⟩
theorem written_no (rom:ByteArray) (kind bank:Int) (ram:ByteArray) (rb:Int) (on:Bool) (mode:Int) (addr v:Int) (w:World) (v0:0<=v) (v1:v<=255) (a0:512<=addr) (h:on=false \/ addr<40960 \/ 41024<=addr) :
  Calls prog 212 #[.agg #[.string rom,.int .i64 kind,.int .i64 bank,.string ram,.int .i64 rb,.bool on,.int .i64 mode],.int .i64 addr,.int .i64 v] w fun e w'=>e=.returned (.agg #[.string rom,.int .i64 kind,.int .i64 bank,.string ram,.int .i64 rb,.bool on,.int .i64 mode])/\∃ o1 o2 o3,w'=(((w.alloc o1).alloc o2).alloc o3):=by
 have c:=fun w=>place_no rom kind bank ram rb on mode addr w h
 clear h
 go_enter func212,ntmps212
 go_wp2_with (go_at_call 178;refine (c _).mono ?_;rintro e w' ⟨rfl,rfl⟩)
 all_goals exact bodyPost_ret (v:=.agg #[.string rom,.int .i64 kind,.int .i64 bank,.string ram,.int .i64 rb,.bool on,.int .i64 mode]) (by simp [results,results212,go_sem]) rfl ⟨rfl,_,_,_,rfl⟩
theorem written_yes (rom:ByteArray) (kind bank:Int) (ram:ByteArray) (rb:Int) (mode:Int) (addr v r:Int) (w:World) (v0:0<=v) (v1:v<=255) (sr:ram.size=256) (h0:0<=rb) (h1:rb<=3) (m0:0<=mode) (m1:mode<=1) (hk:kind=1 \/ kind=2) (a0:40960<=addr) (a1:addr<41024) (hr:ramQ kind rb mode=r) :
  Calls prog 212 #[.agg #[.string rom,.int .i64 kind,.int .i64 bank,.string ram,.int .i64 rb,.bool true,.int .i64 mode],.int .i64 addr,.int .i64 v] w fun e w'=>e=.returned (.agg #[.string rom,.int .i64 kind,.int .i64 bank,.string (putB ram (r*64+addr-40960) v),.int .i64 rb,.bool true,.int .i64 mode])/\∃ o1 o2 o3 o4 o5,w'=((((w.alloc o1).alloc o2).alloc o3).alloc o4).drew.alloc o5:=by
 have c:=fun w=>place_yes rom kind bank ram rb mode addr w h0 h1 m0 m1 hk a0 a1 r hr
 obtain ⟨r0,r1⟩:=ramQ_bd (kind:=kind) (mode:=mode) h0 h1
 rw [hr] at r0 r1
 clear hr hk h0 h1 m0 m1
 have c2:=fun w=>put_impl ram 256 sr (by decide) (r*64+addr-40960) v (by omega) (by omega) v0 v1 w
 have i0:0<=r*64+addr-40960:=by omega
 clear sr
 go_enter func212,ntmps212
 go_wp2_with first|(go_at_call 178;refine (c _).mono ?_;rintro e w' ⟨rfl,rfl⟩)|(go_at_call 211;refine (c2 _).mono ?_;rintro e w' ⟨rfl,p1,rfl⟩)
 all_goals exact bodyPost_ret (v:=.agg #[.string rom,.int .i64 kind,.int .i64 bank,.string (putB ram (r*64+addr-40960) v),.int .i64 rb,.bool true,.int .i64 mode]) (by simp [results,results212,go_sem]) rfl ⟨rfl,_,_,_,_,_,rfl⟩
end Go.Proofs.YtkfehdkjeodbmaaGreatDoor.CartW
namespace Go.Proofs.YtkfehdkjeodbmaaGreatDoor.CartV
open Go.Deep
open Signed (inB ret_int ret_bool isByte_any l1In_any)
open Carts CartK CartL CartM CartP CartR CartW
theorem swrite_0 (rom:ByteArray) (bank:Int) (ram:ByteArray) (rb:Int) (on:Bool) (mode:Int) (addr v:Int) (w:World) (v0:0<=v) (v1:v<=255) :
  Calls prog 177 #[.agg #[.string rom,.int .i64 0,.int .i64 bank,.string ram,.int .i64 rb,.bool on,.int .i64 mode],.int .i64 addr,.int .i64 v] w fun e w'=>e=.returned (.agg #[.string rom,.int .i64 0,.int .i64 bank,.string ram,.int .i64 rb,.bool on,.int .i64 mode])/\∃ o1 o2,w'=((w.alloc o1).alloc o2):=by
 go_enter func177,ntmps177
 go_wp2
 all_goals exact bodyPost_ret (v:=.agg #[.string rom,.int .i64 0,.int .i64 bank,.string ram,.int .i64 rb,.bool on,.int .i64 mode]) (by simp [results,results177,go_sem]) rfl ⟨rfl,_,_,rfl⟩
theorem swrite_10 (rom:ByteArray) (bank:Int) (ram:ByteArray) (rb:Int) (on:Bool) (mode:Int) (addr v:Int) (w:World) (v0:0<=v) (v1:v<=255) (a0:0<=addr) (a1:addr<128) :
  Calls prog 177 #[.agg #[.string rom,.int .i64 1,.int .i64 bank,.string ram,.int .i64 rb,.bool on,.int .i64 mode],.int .i64 addr,.int .i64 v] w fun e w'=>e=.returned (.agg #[.string rom,.int .i64 1,.int .i64 bank,.string ram,.int .i64 rb,.bool (v%16 == 10),.int .i64 mode])/\∃ o1 o2,w'=((w.alloc o1).alloc o2):=by
 have d128:decide (addr<128)=true:=decide_eq_true (by omega)
 have d256:decide (addr<256)=true:=decide_eq_true (by omega)
 have d384:decide (addr<384)=true:=decide_eq_true (by omega)
 have d512:decide (addr<512)=true:=decide_eq_true (by omega)
 go_enter func177,ntmps177
 go_wp2
 all_goals exact bodyPost_ret (v:=.agg #[.string rom,.int .i64 1,.int .i64 bank,.string ram,.int .i64 rb,.bool (v%16 == 10),.int .i64 mode]) (by simp [results,results177,go_sem]) rfl ⟨rfl,_,_,rfl⟩
theorem swrite_11 (rom:ByteArray) (bank:Int) (ram:ByteArray) (rb:Int) (on:Bool) (mode:Int) (addr v:Int) (w:World) (v0:0<=v) (v1:v<=255) (a0:128<=addr) (a1:addr<256) :
  Calls prog 177 #[.agg #[.string rom,.int .i64 1,.int .i64 bank,.string ram,.int .i64 rb,.bool on,.int .i64 mode],.int .i64 addr,.int .i64 v] w fun e w'=>e=.returned (.agg #[.string rom,.int .i64 1,.int .i64 (bank1 v),.string ram,.int .i64 rb,.bool on,.int .i64 mode])/\∃ o1 o2,w'=((w.alloc o1).alloc o2):=by
 have d128:decide (addr<128)=false:=decide_eq_false (by omega)
 have d256:decide (addr<256)=true:=decide_eq_true (by omega)
 have d384:decide (addr<384)=true:=decide_eq_true (by omega)
 have d512:decide (addr<512)=true:=decide_eq_true (by omega)
 go_enter func177,ntmps177
 go_wp2
 all_goals exact bodyPost_ret (v:=.agg #[.string rom,.int .i64 1,.int .i64 (bank1 v),.string ram,.int .i64 rb,.bool on,.int .i64 mode]) (by simp [results,results177,bank1,go_sem];try omega) rfl ⟨rfl,_,_,rfl⟩
theorem swrite_12 (rom:ByteArray) (bank:Int) (ram:ByteArray) (rb:Int) (on:Bool) (mode:Int) (addr v:Int) (w:World) (v0:0<=v) (v1:v<=255) (a0:256<=addr) (a1:addr<384) :
  Calls prog 177 #[.agg #[.string rom,.int .i64 1,.int .i64 bank,.string ram,.int .i64 rb,.bool on,.int .i64 mode],.int .i64 addr,.int .i64 v] w fun e w'=>e=.returned (.agg #[.string rom,.int .i64 1,.int .i64 bank,.string ram,.int .i64 (v%4),.bool on,.int .i64 mode])/\∃ o1 o2,w'=((w.alloc o1).alloc o2):=by
 have d128:decide (addr<128)=false:=decide_eq_false (by omega)
 have d256:decide (addr<256)=false:=decide_eq_false (by omega)
 have d384:decide (addr<384)=true:=decide_eq_true (by omega)
 have d512:decide (addr<512)=true:=decide_eq_true (by omega)
 go_enter func177,ntmps177
 go_wp2
 all_goals exact bodyPost_ret (v:=.agg #[.string rom,.int .i64 1,.int .i64 bank,.string ram,.int .i64 (v%4),.bool on,.int .i64 mode]) (by simp [results,results177,go_sem]) rfl ⟨rfl,_,_,rfl⟩
theorem swrite_13 (rom:ByteArray) (bank:Int) (ram:ByteArray) (rb:Int) (on:Bool) (mode:Int) (addr v:Int) (w:World) (v0:0<=v) (v1:v<=255) (a0:384<=addr) (a1:addr<512) :
  Calls prog 177 #[.agg #[.string rom,.int .i64 1,.int .i64 bank,.string ram,.int .i64 rb,.bool on,.int .i64 mode],.int .i64 addr,.int .i64 v] w fun e w'=>e=.returned (.agg #[.string rom,.int .i64 1,.int .i64 bank,.string ram,.int .i64 rb,.bool on,.int .i64 (v%2)])/\∃ o1 o2,w'=((w.alloc o1).alloc o2):=by
 have d128:decide (addr<128)=false:=decide_eq_false (by omega)
 have d256:decide (addr<256)=false:=decide_eq_false (by omega)
 have d384:decide (addr<384)=false:=decide_eq_false (by omega)
 have d512:decide (addr<512)=true:=decide_eq_true (by omega)
 go_enter func177,ntmps177
 go_wp2
 all_goals exact bodyPost_ret (v:=.agg #[.string rom,.int .i64 1,.int .i64 bank,.string ram,.int .i64 rb,.bool on,.int .i64 (v%2)]) (by simp [results,results177,go_sem]) rfl ⟨rfl,_,_,rfl⟩
theorem swrite_20 (rom:ByteArray) (bank:Int) (ram:ByteArray) (rb:Int) (on:Bool) (mode:Int) (addr v:Int) (w:World) (v0:0<=v) (v1:v<=255) (a0:0<=addr) (a1:addr<128) :
  Calls prog 177 #[.agg #[.string rom,.int .i64 2,.int .i64 bank,.string ram,.int .i64 rb,.bool on,.int .i64 mode],.int .i64 addr,.int .i64 v] w fun e w'=>e=.returned (.agg #[.string rom,.int .i64 2,.int .i64 bank,.string ram,.int .i64 rb,.bool (v%16 == 10),.int .i64 mode])/\∃ o1 o2,w'=((w.alloc o1).alloc o2):=by
 have d128:decide (addr<128)=true:=decide_eq_true (by omega)
 have d256:decide (addr<256)=true:=decide_eq_true (by omega)
 have d384:decide (addr<384)=true:=decide_eq_true (by omega)
 have d512:decide (addr<512)=true:=decide_eq_true (by omega)
 go_enter func177,ntmps177
 go_wp2
 all_goals exact bodyPost_ret (v:=.agg #[.string rom,.int .i64 2,.int .i64 bank,.string ram,.int .i64 rb,.bool (v%16 == 10),.int .i64 mode]) (by simp [results,results177,go_sem]) rfl ⟨rfl,_,_,rfl⟩
theorem swrite_21 (rom:ByteArray) (bank:Int) (ram:ByteArray) (rb:Int) (on:Bool) (mode:Int) (addr v:Int) (w:World) (v0:0<=v) (v1:v<=255) (a0:128<=addr) (a1:addr<256) :
  Calls prog 177 #[.agg #[.string rom,.int .i64 2,.int .i64 bank,.string ram,.int .i64 rb,.bool on,.int .i64 mode],.int .i64 addr,.int .i64 v] w fun e w'=>e=.returned (.agg #[.string rom,.int .i64 2,.int .i64 v,.string ram,.int .i64 rb,.bool on,.int .i64 mode])/\∃ o1 o2,w'=((w.alloc o1).alloc o2):=by
 have d128:decide (addr<128)=false:=decide_eq_false (by omega)
 have d256:decide (addr<256)=true:=decide_eq_true (by omega)
 have d384:decide (addr<384)=true:=decide_eq_true (by omega)
 have d512:decide (addr<512)=true:=decide_eq_true (by omega)
 go_enter func177,ntmps177
 go_wp2
 all_goals exact bodyPost_ret (v:=.agg #[.string rom,.int .i64 2,.int .i64 v,.string ram,.int .i64 rb,.bool on,.int .i64 mode]) (by simp [results,results177,go_sem]) rfl ⟨rfl,_,_,rfl⟩
theorem swrite_22 (rom:ByteArray) (bank:Int) (ram:ByteArray) (rb:Int) (on:Bool) (mode:Int) (addr v:Int) (w:World) (v0:0<=v) (v1:v<=255) (a0:256<=addr) (a1:addr<384) :
  Calls prog 177 #[.agg #[.string rom,.int .i64 2,.int .i64 bank,.string ram,.int .i64 rb,.bool on,.int .i64 mode],.int .i64 addr,.int .i64 v] w fun e w'=>e=.returned (.agg #[.string rom,.int .i64 2,.int .i64 bank,.string ram,.int .i64 (v%4),.bool on,.int .i64 mode])/\∃ o1 o2,w'=((w.alloc o1).alloc o2):=by
 have d128:decide (addr<128)=false:=decide_eq_false (by omega)
 have d256:decide (addr<256)=false:=decide_eq_false (by omega)
 have d384:decide (addr<384)=true:=decide_eq_true (by omega)
 have d512:decide (addr<512)=true:=decide_eq_true (by omega)
 go_enter func177,ntmps177
 go_wp2
 all_goals exact bodyPost_ret (v:=.agg #[.string rom,.int .i64 2,.int .i64 bank,.string ram,.int .i64 (v%4),.bool on,.int .i64 mode]) (by simp [results,results177,go_sem]) rfl ⟨rfl,_,_,rfl⟩
theorem swrite_23 (rom:ByteArray) (bank:Int) (ram:ByteArray) (rb:Int) (on:Bool) (mode:Int) (addr v:Int) (w:World) (v0:0<=v) (v1:v<=255) (a0:384<=addr) (a1:addr<512) :
  Calls prog 177 #[.agg #[.string rom,.int .i64 2,.int .i64 bank,.string ram,.int .i64 rb,.bool on,.int .i64 mode],.int .i64 addr,.int .i64 v] w fun e w'=>e=.returned (.agg #[.string rom,.int .i64 2,.int .i64 bank,.string ram,.int .i64 rb,.bool on,.int .i64 mode])/\∃ o1 o2,w'=((w.alloc o1).alloc o2):=by
 have d128:decide (addr<128)=false:=decide_eq_false (by omega)
 have d256:decide (addr<256)=false:=decide_eq_false (by omega)
 have d384:decide (addr<384)=false:=decide_eq_false (by omega)
 have d512:decide (addr<512)=true:=decide_eq_true (by omega)
 go_enter func177,ntmps177
 go_wp2
 all_goals exact bodyPost_ret (v:=.agg #[.string rom,.int .i64 2,.int .i64 bank,.string ram,.int .i64 rb,.bool on,.int .i64 mode]) (by simp [results,results177,go_sem]) rfl ⟨rfl,_,_,rfl⟩
theorem swrite_1no (rom:ByteArray) (bank:Int) (ram:ByteArray) (rb:Int) (on:Bool) (mode:Int) (addr v:Int) (w:World) (v0:0<=v) (v1:v<=255) (a0:512<=addr) (h:on=false \/ addr<40960 \/ 41024<=addr) :
  Calls prog 177 #[.agg #[.string rom,.int .i64 1,.int .i64 bank,.string ram,.int .i64 rb,.bool on,.int .i64 mode],.int .i64 addr,.int .i64 v] w fun e w'=>e=.returned (.agg #[.string rom,.int .i64 1,.int .i64 bank,.string ram,.int .i64 rb,.bool on,.int .i64 mode])/\∃ o1 o2,w'=((w.alloc o1).alloc o2):=by
 have d128:decide (addr<128)=false:=decide_eq_false (by omega)
 have d256:decide (addr<256)=false:=decide_eq_false (by omega)
 have d384:decide (addr<384)=false:=decide_eq_false (by omega)
 have d512:decide (addr<512)=false:=decide_eq_false (by omega)
 cases on with
 | false =>
  go_enter func177,ntmps177
  go_wp2
  all_goals exact bodyPost_ret (v:=.agg #[.string rom,.int .i64 1,.int .i64 bank,.string ram,.int .i64 rb,.bool false,.int .i64 mode]) (by simp [results,results177,go_sem]) rfl ⟨rfl,_,_,rfl⟩
 | true =>
  have d3:inB addr 40960 41023=false:=decide_eq_false (by simp at h;omega)
  go_enter func177,ntmps177
  go_wp2_with (go_at_call 36;refine (l1In_any _ _ _ _).mono ?_;rintro e w' ⟨rfl,rfl⟩)
  all_goals exact bodyPost_ret (v:=.agg #[.string rom,.int .i64 1,.int .i64 bank,.string ram,.int .i64 rb,.bool true,.int .i64 mode]) (by simp [results,results177,go_sem]) rfl ⟨rfl,_,_,rfl⟩
theorem swrite_1yes (rom:ByteArray) (bank:Int) (ram:ByteArray) (rb:Int) (mode:Int) (addr v r:Int) (w:World) (v0:0<=v) (v1:v<=255) (sr:ram.size=256) (h0:0<=rb) (h1:rb<=3) (a0:40960<=addr) (a1:addr<41024) (hr:ramQ 1 rb mode=r) :
  Calls prog 177 #[.agg #[.string rom,.int .i64 1,.int .i64 bank,.string ram,.int .i64 rb,.bool true,.int .i64 mode],.int .i64 addr,.int .i64 v] w fun e w'=>e=.returned (.agg #[.string rom,.int .i64 1,.int .i64 bank,.string (putB ram (r*64+addr-40960) v),.int .i64 rb,.bool true,.int .i64 mode])/\∃ o1 o2 o3 o4,w'=((((w.alloc o1).alloc o2).alloc o3).alloc o4).drew.drew:=by
 have d128:decide (addr<128)=false:=decide_eq_false (by omega)
 have d256:decide (addr<256)=false:=decide_eq_false (by omega)
 have d384:decide (addr<384)=false:=decide_eq_false (by omega)
 have d512:decide (addr<512)=false:=decide_eq_false (by omega)
 have d3:inB addr 40960 41023=true:=decide_eq_true (by omega)
 have c:=fun w=>l5RamBank_any rom 1 bank ram rb true mode w
 obtain ⟨r0,r1⟩:=ramQ_bd (kind:=1) (mode:=mode) h0 h1
 rw [hr] at c r0 r1
 clear hr h0 h1
 have c2:=fun w=>put_spec ram 256 sr (by decide) (r*64+addr-40960) v (by omega) (by omega) v0 v1 w
 have i0:0<=r*64+addr-40960:=by omega
 have i2:40960<=r*64+addr:=by omega
 have e1:IntKind.i64.wrap (r*64)=r*64:=by rw [IntKind.wrap_i64];omega
 have e2:IntKind.i64.wrap (r*64+addr)=r*64+addr:=by rw [IntKind.wrap_i64];omega
 have e3:IntKind.i64.wrap (r*64+addr-40960)=r*64+addr-40960:=by rw [IntKind.wrap_i64];omega
 clear sr
 go_enter func177,ntmps177
 go_wp2_with (go_at_call 36;refine (l1In_any _ _ _ _).mono ?_;rintro e w' ⟨rfl,rfl⟩)
 go_region_with first|(go_at_call 173;refine (c _).mono ?_;rintro e w' ⟨rfl,rfl⟩)|(go_at_call 176;refine (c2 _).mono ?_;rintro e w' ⟨rfl,p1,rfl⟩)
 all_goals go_wp2
 all_goals exact bodyPost_ret (v:=.agg #[.string rom,.int .i64 1,.int .i64 bank,.string (putB ram (r*64+addr-40960) v),.int .i64 rb,.bool true,.int .i64 mode]) (by simp [results,results177,go_sem]) rfl ⟨rfl,_,_,_,_,rfl⟩
theorem swrite_2no (rom:ByteArray) (bank:Int) (ram:ByteArray) (rb:Int) (on:Bool) (mode:Int) (addr v:Int) (w:World) (v0:0<=v) (v1:v<=255) (a0:512<=addr) (h:on=false \/ addr<40960 \/ 41024<=addr) :
  Calls prog 177 #[.agg #[.string rom,.int .i64 2,.int .i64 bank,.string ram,.int .i64 rb,.bool on,.int .i64 mode],.int .i64 addr,.int .i64 v] w fun e w'=>e=.returned (.agg #[.string rom,.int .i64 2,.int .i64 bank,.string ram,.int .i64 rb,.bool on,.int .i64 mode])/\∃ o1 o2,w'=((w.alloc o1).alloc o2):=by
 have d128:decide (addr<128)=false:=decide_eq_false (by omega)
 have d256:decide (addr<256)=false:=decide_eq_false (by omega)
 have d384:decide (addr<384)=false:=decide_eq_false (by omega)
 have d512:decide (addr<512)=false:=decide_eq_false (by omega)
 cases on with
 | false =>
  go_enter func177,ntmps177
  go_wp2
  all_goals exact bodyPost_ret (v:=.agg #[.string rom,.int .i64 2,.int .i64 bank,.string ram,.int .i64 rb,.bool false,.int .i64 mode]) (by simp [results,results177,go_sem]) rfl ⟨rfl,_,_,rfl⟩
 | true =>
  have d3:inB addr 40960 41023=false:=decide_eq_false (by simp at h;omega)
  go_enter func177,ntmps177
  go_wp2_with (go_at_call 36;refine (l1In_any _ _ _ _).mono ?_;rintro e w' ⟨rfl,rfl⟩)
  all_goals exact bodyPost_ret (v:=.agg #[.string rom,.int .i64 2,.int .i64 bank,.string ram,.int .i64 rb,.bool true,.int .i64 mode]) (by simp [results,results177,go_sem]) rfl ⟨rfl,_,_,rfl⟩
theorem swrite_2yes (rom:ByteArray) (bank:Int) (ram:ByteArray) (rb:Int) (mode:Int) (addr v r:Int) (w:World) (v0:0<=v) (v1:v<=255) (sr:ram.size=256) (h0:0<=rb) (h1:rb<=3) (a0:40960<=addr) (a1:addr<41024) (hr:ramQ 2 rb mode=r) :
  Calls prog 177 #[.agg #[.string rom,.int .i64 2,.int .i64 bank,.string ram,.int .i64 rb,.bool true,.int .i64 mode],.int .i64 addr,.int .i64 v] w fun e w'=>e=.returned (.agg #[.string rom,.int .i64 2,.int .i64 bank,.string (putB ram (r*64+addr-40960) v),.int .i64 rb,.bool true,.int .i64 mode])/\∃ o1 o2 o3 o4,w'=((((w.alloc o1).alloc o2).alloc o3).alloc o4).drew.drew:=by
 have d128:decide (addr<128)=false:=decide_eq_false (by omega)
 have d256:decide (addr<256)=false:=decide_eq_false (by omega)
 have d384:decide (addr<384)=false:=decide_eq_false (by omega)
 have d512:decide (addr<512)=false:=decide_eq_false (by omega)
 have d3:inB addr 40960 41023=true:=decide_eq_true (by omega)
 have c:=fun w=>l5RamBank_any rom 2 bank ram rb true mode w
 obtain ⟨r0,r1⟩:=ramQ_bd (kind:=2) (mode:=mode) h0 h1
 rw [hr] at c r0 r1
 clear hr h0 h1
 have c2:=fun w=>put_spec ram 256 sr (by decide) (r*64+addr-40960) v (by omega) (by omega) v0 v1 w
 have i0:0<=r*64+addr-40960:=by omega
 have i2:40960<=r*64+addr:=by omega
 have e1:IntKind.i64.wrap (r*64)=r*64:=by rw [IntKind.wrap_i64];omega
 have e2:IntKind.i64.wrap (r*64+addr)=r*64+addr:=by rw [IntKind.wrap_i64];omega
 have e3:IntKind.i64.wrap (r*64+addr-40960)=r*64+addr-40960:=by rw [IntKind.wrap_i64];omega
 clear sr
 go_enter func177,ntmps177
 go_wp2_with (go_at_call 36;refine (l1In_any _ _ _ _).mono ?_;rintro e w' ⟨rfl,rfl⟩)
 go_region_with first|(go_at_call 173;refine (c _).mono ?_;rintro e w' ⟨rfl,rfl⟩)|(go_at_call 176;refine (c2 _).mono ?_;rintro e w' ⟨rfl,p1,rfl⟩)
 all_goals go_wp2
 all_goals exact bodyPost_ret (v:=.agg #[.string rom,.int .i64 2,.int .i64 bank,.string (putB ram (r*64+addr-40960) v),.int .i64 rb,.bool true,.int .i64 mode]) (by simp [results,results177,go_sem]) rfl ⟨rfl,_,_,_,_,rfl⟩
end Go.Proofs.YtkfehdkjeodbmaaGreatDoor.CartV
namespace Go.Proofs.YtkfehdkjeodbmaaGreatDoor.CartX
open Go.Deep
open Signed (inB ret_int ret_bool isByte_any l1In_any)
open Carts CartK CartL CartM CartP CartR CartW CartV
theorem l4Byte_any (n:Int) (w:World) :
  Calls prog 44 #[.int .i64 n] w fun e w'=>e=.returned (.bool (inB n 0 255))/\w'=w:=by
 go_enter func44,ntmps44
 go_wp2_with (go_at_call 36;refine (l1In_any _ _ _ _).mono ?_;rintro e w' ⟨rfl,rfl⟩)
 go_ret
 exact ⟨rfl,rfl⟩
end Go.Proofs.YtkfehdkjeodbmaaGreatDoor.CartX
namespace Go.Proofs.YtkfehdkjeodbmaaGreatDoor.CartY
open Go.Deep
open Signed (inB ret_int ret_bool isByte_any l1In_any)
open Carts CartK CartL CartM CartP CartR CartW CartV CartX
def wBank (kind bank addr v:Int):Int:=if 128<=addr/\addr<256 then (if kind=1 then bank1 v else if kind=2 then v else bank) else bank
def wRam (kind:Int) (ram:ByteArray) (rb:Int) (on:Bool) (mode addr v:Int):ByteArray:=if 40960<=addr/\addr<41024 then (if on=true then putB ram (ramQ kind rb mode*64+addr-40960) v else ram) else ram
def wRb (kind rb addr v:Int):Int:=if 256<=addr/\addr<384/\¬ kind=0 then v%4 else rb
def wOn (kind:Int) (on:Bool) (addr v:Int):Bool:=if addr<128/\¬ kind=0 then v%16 == 10 else on
def wMode (kind mode addr v:Int):Int:=if 384<=addr/\addr<512/\kind=1 then v%2 else mode
def wrote (rom:ByteArray) (kind bank:Int) (ram:ByteArray) (rb:Int) (on:Bool) (mode:Int) (addr v:Int):Value:=.agg #[.string rom,.int .i64 kind,.int .i64 (wBank kind bank addr v),.string (wRam kind ram rb on mode addr v),.int .i64 (wRb kind rb addr v),.bool (wOn kind on addr v),.int .i64 (wMode kind mode addr v)]
end Go.Proofs.YtkfehdkjeodbmaaGreatDoor.CartY
