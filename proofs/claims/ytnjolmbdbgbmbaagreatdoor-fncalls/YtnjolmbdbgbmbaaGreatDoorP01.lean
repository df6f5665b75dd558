/-
  Contracts and facts of ours, joined: CartW, CartY, CartU, Outs, MachT, CartS.
-/
import Derived.Test.YtnjolmbdbgbmbaaGreatDoorP00
import Derived.Deep.Strs
import Derived.Deep.RegionWith
import Derived.Deep.Cut
import Derived.Laws.Tables
import Derived.Laws.Rows
set_option linter.unusedVariables false
set_option linter.unusedSimpArgs false
set_option maxRecDepth 20000
set_option maxHeartbeats 8000000
open Go.ChangeShapes Go.WideShapes Go.ChangeAt Go.RowKit
open Go.Proofs.Tryz
namespace Go.Proofs.YtnjolmbdbgbmbaaGreatDoor.CartW
open Go.Deep
open Signed (inB ret_int ret_bool isByte_any l1In_any)
open Carts CartK CartL CartM CartN CartP CartR
def bank1 (v:Int):Int:=if v%32<1 then 1 else v%32
theorem askedRam_0 (rom:ByteArray) (kind bank:Int) (ram:ByteArray) (rb:Int) (on:Bool) (mode:Int) (v:Int) (w:World) (v0:0<=v) (v1:v<=255) :
  Calls prog 269 #[.agg #[.string rom,.int .i64 kind,.int .i64 bank,.string ram,.int .i64 rb,.bool on,.int .i64 mode],.int .i64 0,.int .i64 v] w fun e w'=>e=.returned (.agg #[.string rom,.int .i64 kind,.int .i64 bank,.string ram,.int .i64 rb,.bool (v%16 == 10),.int .i64 mode])/\∃ o1 o2,w'=((w.alloc o1).alloc o2):=by
 go_enter func269,ntmps269
 go_wp2
 all_goals exact bodyPost_ret (v:=.agg #[.string rom,.int .i64 kind,.int .i64 bank,.string ram,.int .i64 rb,.bool (v%16 == 10),.int .i64 mode]) (by simp [results,results269,go_sem]) rfl ⟨rfl,_,_,rfl⟩
theorem askedRam_2 (rom:ByteArray) (kind bank:Int) (ram:ByteArray) (rb:Int) (on:Bool) (mode:Int) (v:Int) (w:World) (v0:0<=v) (v1:v<=255) :
  Calls prog 269 #[.agg #[.string rom,.int .i64 kind,.int .i64 bank,.string ram,.int .i64 rb,.bool on,.int .i64 mode],.int .i64 2,.int .i64 v] w fun e w'=>e=.returned (.agg #[.string rom,.int .i64 kind,.int .i64 bank,.string ram,.int .i64 (v%4),.bool on,.int .i64 mode])/\∃ o1 o2,w'=((w.alloc o1).alloc o2):=by
 go_enter func269,ntmps269
 go_wp2
 all_goals exact bodyPost_ret (v:=.agg #[.string rom,.int .i64 kind,.int .i64 bank,.string ram,.int .i64 (v%4),.bool on,.int .i64 mode]) (by simp [results,results269,go_sem]) rfl ⟨rfl,_,_,rfl⟩
theorem askedRam_3 (rom:ByteArray) (kind bank:Int) (ram:ByteArray) (rb:Int) (on:Bool) (mode:Int) (v:Int) (w:World) (v0:0<=v) (v1:v<=255) :
  Calls prog 269 #[.agg #[.string rom,.int .i64 kind,.int .i64 bank,.string ram,.int .i64 rb,.bool on,.int .i64 mode],.int .i64 3,.int .i64 v] w fun e w'=>e=.returned (.agg #[.string rom,.int .i64 kind,.int .i64 bank,.string ram,.int .i64 rb,.bool on,.int .i64 mode])/\∃ o1 o2,w'=((w.alloc o1).alloc o2):=by
 go_enter func269,ntmps269
 go_wp2
 all_goals exact bodyPost_ret (v:=.agg #[.string rom,.int .i64 kind,.int .i64 bank,.string ram,.int .i64 rb,.bool on,.int .i64 mode]) (by simp [results,results269,go_sem]) rfl ⟨rfl,_,_,rfl⟩
theorem askedOne_0 (rom:ByteArray) (kind bank:Int) (ram:ByteArray) (rb:Int) (on:Bool) (mode:Int) (v:Int) (w:World) (v0:0<=v) (v1:v<=255) :
  Calls prog 267 #[.agg #[.string rom,.int .i64 kind,.int .i64 bank,.string ram,.int .i64 rb,.bool on,.int .i64 mode],.int .i64 0,.int .i64 v] w fun e w'=>e=.returned (.agg #[.string rom,.int .i64 kind,.int .i64 bank,.string ram,.int .i64 rb,.bool (v%16 == 10),.int .i64 mode])/\∃ o1 o2 o3 o4,w'=((((w.alloc o1).alloc o2).alloc o3).alloc o4):=by
 go_enter func267,ntmps267
 go_wp2_with (go_at_call 269;refine (askedRam_0 rom kind bank ram rb on mode v _ v0 v1).mono ?_;rintro e w' ⟨rfl,p1,p2,rfl⟩)
 all_goals exact bodyPost_ret (v:=.agg #[.string rom,.int .i64 kind,.int .i64 bank,.string ram,.int .i64 rb,.bool (v%16 == 10),.int .i64 mode]) (by simp [results,results267,go_sem]) rfl ⟨rfl,_,_,_,_,rfl⟩
theorem askedFive_0 (rom:ByteArray) (kind bank:Int) (ram:ByteArray) (rb:Int) (on:Bool) (mode:Int) (v:Int) (w:World) (v0:0<=v) (v1:v<=255) :
  Calls prog 268 #[.agg #[.string rom,.int .i64 kind,.int .i64 bank,.string ram,.int .i64 rb,.bool on,.int .i64 mode],.int .i64 0,.int .i64 v] w fun e w'=>e=.returned (.agg #[.string rom,.int .i64 kind,.int .i64 bank,.string ram,.int .i64 rb,.bool (v%16 == 10),.int .i64 mode])/\∃ o1 o2 o3 o4,w'=((((w.alloc o1).alloc o2).alloc o3).alloc o4):=by
 go_enter func268,ntmps268
 go_wp2_with (go_at_call 269;refine (askedRam_0 rom kind bank ram rb on mode v _ v0 v1).mono ?_;rintro e w' ⟨rfl,p1,p2,rfl⟩)
 all_goals exact bodyPost_ret (v:=.agg #[.string rom,.int .i64 kind,.int .i64 bank,.string ram,.int .i64 rb,.bool (v%16 == 10),.int .i64 mode]) (by simp [results,results268,go_sem]) rfl ⟨rfl,_,_,_,_,rfl⟩
theorem askedOne_1 (rom:ByteArray) (kind bank:Int) (ram:ByteArray) (rb:Int) (on:Bool) (mode:Int) (v:Int) (w:World) (v0:0<=v) (v1:v<=255) :
  Calls prog 267 #[.agg #[.string rom,.int .i64 kind,.int .i64 bank,.string ram,.int .i64 rb,.bool on,.int .i64 mode],.int .i64 1,.int .i64 v] w fun e w'=>e=.returned (.agg #[.string rom,.int .i64 kind,.int .i64 (bank1 v),.string ram,.int .i64 rb,.bool on,.int .i64 mode])/\∃ o1 o2,w'=((w.alloc o1).alloc o2):=by
 go_enter func267,ntmps267
 go_wp2
 all_goals exact bodyPost_ret (v:=.agg #[.string rom,.int .i64 kind,.int .i64 (bank1 v),.string ram,.int .i64 rb,.bool on,.int .i64 mode]) (by simp [results,results267,bank1,go_sem];try omega) rfl ⟨rfl,_,_,rfl⟩
theorem askedFive_1 (rom:ByteArray) (kind bank:Int) (ram:ByteArray) (rb:Int) (on:Bool) (mode:Int) (v:Int) (w:World) (v0:0<=v) (v1:v<=255) :
  Calls prog 268 #[.agg #[.string rom,.int .i64 kind,.int .i64 bank,.string ram,.int .i64 rb,.bool on,.int .i64 mode],.int .i64 1,.int .i64 v] w fun e w'=>e=.returned (.agg #[.string rom,.int .i64 kind,.int .i64 v,.string ram,.int .i64 rb,.bool on,.int .i64 mode])/\∃ o1 o2,w'=((w.alloc o1).alloc o2):=by
 go_enter func268,ntmps268
 go_wp2
 all_goals exact bodyPost_ret (v:=.agg #[.string rom,.int .i64 kind,.int .i64 v,.string ram,.int .i64 rb,.bool on,.int .i64 mode]) (by simp [results,results268,go_sem]) rfl ⟨rfl,_,_,rfl⟩
theorem askedOne_2 (rom:ByteArray) (kind bank:Int) (ram:ByteArray) (rb:Int) (on:Bool) (mode:Int) (v:Int) (w:World) (v0:0<=v) (v1:v<=255) :
  Calls prog 267 #[.agg #[.string rom,.int .i64 kind,.int .i64 bank,.string ram,.int .i64 rb,.bool on,.int .i64 mode],.int .i64 2,.int .i64 v] w fun e w'=>e=.returned (.agg #[.string rom,.int .i64 kind,.int .i64 bank,.string ram,.int .i64 (v%4),.bool on,.int .i64 mode])/\∃ o1 o2 o3 o4,w'=((((w.alloc o1).alloc o2).alloc o3).alloc o4):=by
 go_enter func267,ntmps267
 go_wp2_with (go_at_call 269;refine (askedRam_2 rom kind bank ram rb on mode v _ v0 v1).mono ?_;rintro e w' ⟨rfl,p1,p2,rfl⟩)
 all_goals exact bodyPost_ret (v:=.agg #[.string rom,.int .i64 kind,.int .i64 bank,.string ram,.int .i64 (v%4),.bool on,.int .i64 mode]) (by simp [results,results267,go_sem]) rfl ⟨rfl,_,_,_,_,rfl⟩
theorem askedFive_2 (rom:ByteArray) (kind bank:Int) (ram:ByteArray) (rb:Int) (on:Bool) (mode:Int) (v:Int) (w:World) (v0:0<=v) (v1:v<=255) :
  Calls prog 268 #[.agg #[.string rom,.int .i64 kind,.int .i64 bank,.string ram,.int .i64 rb,.bool on,.int .i64 mode],.int .i64 2,.int .i64 v] w fun e w'=>e=.returned (.agg #[.string rom,.int .i64 kind,.int .i64 bank,.string ram,.int .i64 (v%4),.bool on,.int .i64 mode])/\∃ o1 o2 o3 o4,w'=((((w.alloc o1).alloc o2).alloc o3).alloc o4):=by
 go_enter func268,ntmps268
 go_wp2_with (go_at_call 269;refine (askedRam_2 rom kind bank ram rb on mode v _ v0 v1).mono ?_;rintro e w' ⟨rfl,p1,p2,rfl⟩)
 all_goals exact bodyPost_ret (v:=.agg #[.string rom,.int .i64 kind,.int .i64 bank,.string ram,.int .i64 (v%4),.bool on,.int .i64 mode]) (by simp [results,results268,go_sem]) rfl ⟨rfl,_,_,_,_,rfl⟩
theorem askedOne_3 (rom:ByteArray) (kind bank:Int) (ram:ByteArray) (rb:Int) (on:Bool) (mode:Int) (v:Int) (w:World) (v0:0<=v) (v1:v<=255) :
  Calls prog 267 #[.agg #[.string rom,.int .i64 kind,.int .i64 bank,.string ram,.int .i64 rb,.bool on,.int .i64 mode],.int .i64 3,.int .i64 v] w fun e w'=>e=.returned (.agg #[.string rom,.int .i64 kind,.int .i64 bank,.string ram,.int .i64 rb,.bool on,.int .i64 (v%2)])/\∃ o1 o2,w'=((w.alloc o1).alloc o2):=by
 go_enter func267,ntmps267
 go_wp2
 all_goals exact bodyPost_ret (v:=.agg #[.string rom,.int .i64 kind,.int .i64 bank,.string ram,.int .i64 rb,.bool on,.int .i64 (v%2)]) (by simp [results,results267,go_sem]) rfl ⟨rfl,_,_,rfl⟩
theorem askedFive_3 (rom:ByteArray) (kind bank:Int) (ram:ByteArray) (rb:Int) (on:Bool) (mode:Int) (v:Int) (w:World) (v0:0<=v) (v1:v<=255) :
  Calls prog 268 #[.agg #[.string rom,.int .i64 kind,.int .i64 bank,.string ram,.int .i64 rb,.bool on,.int .i64 mode],.int .i64 3,.int .i64 v] w fun e w'=>e=.returned (.agg #[.string rom,.int .i64 kind,.int .i64 bank,.string ram,.int .i64 rb,.bool on,.int .i64 mode])/\∃ o1 o2 o3 o4,w'=((((w.alloc o1).alloc o2).alloc o3).alloc o4):=by
 go_enter func268,ntmps268
 go_wp2_with (go_at_call 269;refine (askedRam_3 rom kind bank ram rb on mode v _ v0 v1).mono ?_;rintro e w' ⟨rfl,p1,p2,rfl⟩)
 all_goals exact bodyPost_ret (v:=.agg #[.string rom,.int .i64 kind,.int .i64 bank,.string ram,.int .i64 rb,.bool on,.int .i64 mode]) (by simp [results,results268,go_sem]) rfl ⟨rfl,_,_,_,_,rfl⟩
theorem askedCart_0 (rom:ByteArray) (bank:Int) (ram:ByteArray) (rb:Int) (on:Bool) (mode:Int) (what:Int) (v:Int) (w:World) (v0:0<=v) (v1:v<=255) :
  Calls prog 264 #[.agg #[.string rom,.int .i64 0,.int .i64 bank,.string ram,.int .i64 rb,.bool on,.int .i64 mode],.int .i64 what,.int .i64 v] w fun e w'=>e=.returned (.agg #[.string rom,.int .i64 0,.int .i64 bank,.string ram,.int .i64 rb,.bool on,.int .i64 mode])/\∃ o1 o2,w'=((w.alloc o1).alloc o2):=by
 have a1:=as01
 have a2:=as02
 go_enter func264,ntmps264
 go_wp2_with (go_at_call 105;refine (mapperOf_0 _).mono ?_;rintro e w' ⟨rfl,rfl⟩)
 all_goals exact bodyPost_ret (v:=.agg #[.string rom,.int .i64 0,.int .i64 bank,.string ram,.int .i64 rb,.bool on,.int .i64 mode]) (by simp [results,results264,go_sem]) rfl ⟨rfl,_,_,rfl⟩
theorem askedCart_10 (rom:ByteArray) (bank:Int) (ram:ByteArray) (rb:Int) (on:Bool) (mode:Int) (what:Int) (hw:what=0) (v:Int) (w:World) (v0:0<=v) (v1:v<=255) :
  Calls prog 264 #[.agg #[.string rom,.int .i64 1,.int .i64 bank,.string ram,.int .i64 rb,.bool on,.int .i64 mode],.int .i64 what,.int .i64 v] w fun e w'=>e=.returned (.agg #[.string rom,.int .i64 1,.int .i64 bank,.string ram,.int .i64 rb,.bool (v%16 == 10),.int .i64 mode])/\∃ o1 o2 o3 o4 o5 o6,w'=((((((w.alloc o1).alloc o2).alloc o3).alloc o4).alloc o5).alloc o6):=by
 subst hw
 have a1:=as11
 have a2:=as12
 go_enter func264,ntmps264
 go_wp2_with first|(go_at_call 105;refine (mapperOf_1 _).mono ?_;rintro e w' ⟨rfl,rfl⟩)|(go_at_call 267;refine (askedOne_0 rom 1 bank ram rb on mode v _ v0 v1).mono ?_;rintro e w' ⟨rfl,p1,p2,p3,p4,rfl⟩)
 all_goals exact bodyPost_ret (v:=.agg #[.string rom,.int .i64 1,.int .i64 bank,.string ram,.int .i64 rb,.bool (v%16 == 10),.int .i64 mode]) (by simp [results,results264,go_sem]) rfl ⟨rfl,_,_,_,_,_,_,rfl⟩
theorem askedCart_11 (rom:ByteArray) (bank:Int) (ram:ByteArray) (rb:Int) (on:Bool) (mode:Int) (what:Int) (hw:what=1) (v:Int) (w:World) (v0:0<=v) (v1:v<=255) :
  Calls prog 264 #[.agg #[.string rom,.int .i64 1,.int .i64 bank,.string ram,.int .i64 rb,.bool on,.int .i64 mode],.int .i64 what,.int .i64 v] w fun e w'=>e=.returned (.agg #[.string rom,.int .i64 1,.int .i64 (bank1 v),.string ram,.int .i64 rb,.bool on,.int .i64 mode])/\∃ o1 o2 o3 o4,w'=((((w.alloc o1).alloc o2).alloc o3).alloc o4):=by
 subst hw
 have a1:=as11
 have a2:=as12
 go_enter func264,ntmps264
 go_wp2_with first|(go_at_call 105;refine (mapperOf_1 _).mono ?_;rintro e w' ⟨rfl,rfl⟩)|(go_at_call 267;refine (askedOne_1 rom 1 bank ram rb on mode v _ v0 v1).mono ?_;rintro e w' ⟨rfl,p1,p2,rfl⟩)
 all_goals exact bodyPost_ret (v:=.agg #[.string rom,.int .i64 1,.int .i64 (bank1 v),.string ram,.int .i64 rb,.bool on,.int .i64 mode]) (by simp [results,results264,go_sem]) rfl ⟨rfl,_,_,_,_,rfl⟩
theorem askedCart_12 (rom:ByteArray) (bank:Int) (ram:ByteArray) (rb:Int) (on:Bool) (mode:Int) (what:Int) (hw:what=2) (v:Int) (w:World) (v0:0<=v) (v1:v<=255) :
  Calls prog 264 #[.agg #[.string rom,.int .i64 1,.int .i64 bank,.string ram,.int .i64 rb,.bool on,.int .i64 mode],.int .i64 what,.int .i64 v] w fun e w'=>e=.returned (.agg #[.string rom,.int .i64 1,.int .i64 bank,.string ram,.int .i64 (v%4),.bool on,.int .i64 mode])/\∃ o1 o2 o3 o4 o5 o6,w'=((((((w.alloc o1).alloc o2).alloc o3).alloc o4).alloc o5).alloc o6):=by
 subst hw
 have a1:=as11
 have a2:=as12
 go_enter func264,ntmps264
 go_wp2_with first|(go_at_call 105;refine (mapperOf_1 _).mono ?_;rintro e w' ⟨rfl,rfl⟩)|(go_at_call 267;refine (askedOne_2 rom 1 bank ram rb on mode v _ v0 v1).mono ?_;rintro e w' ⟨rfl,p1,p2,p3,p4,rfl⟩)
 all_goals exact bodyPost_ret (v:=.agg #[.string rom,.int .i64 1,.int .i64 bank,.string ram,.int .i64 (v%4),.bool on,.int .i64 mode]) (by simp [results,results264,go_sem]) rfl ⟨rfl,_,_,_,_,_,_,rfl⟩
theorem askedCart_13 (rom:ByteArray) (bank:Int) (ram:ByteArray) (rb:Int) (on:Bool) (mode:Int) (what:Int) (hw:what=3) (v:Int) (w:World) (v0:0<=v) (v1:v<=255) :
  Calls prog 264 #[.agg #[.string rom,.int .i64 1,.int .i64 bank,.string ram,.int .i64 rb,.bool on,.int .i64 mode],.int .i64 what,.int .i64 v] w fun e w'=>e=.returned (.agg #[.string rom,.int .i64 1,.int .i64 bank,.string ram,.int .i64 rb,.bool on,.int .i64 (v%2)])/\∃ o1 o2 o3 o4,w'=((((w.alloc o1).alloc o2).alloc o3).alloc o4):=by
 subst hw
 have a1:=as11
 have a2:=as12
 go_enter func264,ntmps264
 go_wp2_with first|(go_at_call 105;refine (mapperOf_1 _).mono ?_;rintro e w' ⟨rfl,rfl⟩)|(go_at_call 267;refine (askedOne_3 rom 1 bank ram rb on mode v _ v0 v1).mono ?_;rintro e w' ⟨rfl,p1,p2,rfl⟩)
 all_goals exact bodyPost_ret (v:=.agg #[.string rom,.int .i64 1,.int .i64 bank,.string ram,.int .i64 rb,.bool on,.int .i64 (v%2)]) (by simp [results,results264,go_sem]) rfl ⟨rfl,_,_,_,_,rfl⟩
theorem askedCart_20 (rom:ByteArray) (bank:Int) (ram:ByteArray) (rb:Int) (on:Bool) (mode:Int) (what:Int) (hw:what=0) (v:Int) (w:World) (v0:0<=v) (v1:v<=255) :
  Calls prog 264 #[.agg #[.string rom,.int .i64 2,.int .i64 bank,.string ram,.int .i64 rb,.bool on,.int .i64 mode],.int .i64 what,.int .i64 v] w fun e w'=>e=.returned (.agg #[.string rom,.int .i64 2,.int .i64 bank,.string ram,.int .i64 rb,.bool (v%16 == 10),.int .i64 mode])/\∃ o1 o2 o3 o4 o5 o6,w'=((((((w.alloc o1).alloc o2).alloc o3).alloc o4).alloc o5).alloc o6):=by
 subst hw
 have a1:=as21
 have a2:=as22
 go_enter func264,ntmps264
 go_wp2_with first|(go_at_call 105;refine (mapperOf_2 _).mono ?_;rintro e w' ⟨rfl,rfl⟩)|(go_at_call 268;refine (askedFive_0 rom 2 bank ram rb on mode v _ v0 v1).mono ?_;rintro e w' ⟨rfl,p1,p2,p3,p4,rfl⟩)
 all_goals exact bodyPost_ret (v:=.agg #[.string rom,.int .i64 2,.int .i64 bank,.string ram,.int .i64 rb,.bool (v%16 == 10),.int .i64 mode]) (by simp [results,results264,go_sem]) rfl ⟨rfl,_,_,_,_,_,_,rfl⟩
theorem askedCart_21 (rom:ByteArray) (bank:Int) (ram:ByteArray) (rb:Int) (on:Bool) (mode:Int) (what:Int) (hw:what=1) (v:Int) (w:World) (v0:0<=v) (v1:v<=255) :
  Calls prog 264 #[.agg #[.string rom,.int .i64 2,.int .i64 bank,.string ram,.int .i64 rb,.bool on,.int .i64 mode],.int .i64 what,.int .i64 v] w fun e w'=>e=.returned (.agg #[.string rom,.int .i64 2,.int .i64 v,.string ram,.int .i64 rb,.bool on,.int .i64 mode])/\∃ o1 o2 o3 o4,w'=((((w.alloc o1).alloc o2).alloc o3).alloc o4):=by
 subst hw
 have a1:=as21
 have a2:=as22
 go_enter func264,ntmps264
 go_wp2_with first|(go_at_call 105;refine (mapperOf_2 _).mono ?_;rintro e w' ⟨rfl,rfl⟩)|(go_at_call 268;refine (askedFive_1 rom 2 bank ram rb on mode v _ v0 v1).mono ?_;rintro e w' ⟨rfl,p1,p2,rfl⟩)
 all_goals exact bodyPost_ret (v:=.agg #[.string rom,.int .i64 2,.int .i64 v,.string ram,.int .i64 rb,.bool on,.int .i64 mode]) (by simp [results,results264,go_sem]) rfl ⟨rfl,_,_,_,_,rfl⟩
theorem askedCart_22 (rom:ByteArray) (bank:Int) (ram:ByteArray) (rb:Int) (on:Bool) (mode:Int) (what:Int) (hw:what=2) (v:Int) (w:World) (v0:0<=v) (v1:v<=255) :
  Calls prog 264 #[.agg #[.string rom,.int .i64 2,.int .i64 bank,.string ram,.int .i64 rb,.bool on,.int .i64 mode],.int .i64 what,.int .i64 v] w fun e w'=>e=.returned (.agg #[.string rom,.int .i64 2,.int .i64 bank,.string ram,.int .i64 (v%4),.bool on,.int .i64 mode])/\∃ o1 o2 o3 o4 o5 o6,w'=((((((w.alloc o1).alloc o2).alloc o3).alloc o4).alloc o5).alloc o6):=by
 subst hw
 have a1:=as21
 have a2:=as22
 go_enter func264,ntmps264
 go_wp2_with first|(go_at_call 105;refine (mapperOf_2 _).mono ?_;rintro e w' ⟨rfl,rfl⟩)|(go_at_call 268;refine (askedFive_2 rom 2 bank ram rb on mode v _ v0 v1).mono ?_;rintro e w' ⟨rfl,p1,p2,p3,p4,rfl⟩)
 all_goals exact bodyPost_ret (v:=.agg #[.string rom,.int .i64 2,.int .i64 bank,.string ram,.int .i64 (v%4),.bool on,.int .i64 mode]) (by simp [results,results264,go_sem]) rfl ⟨rfl,_,_,_,_,_,_,rfl⟩
theorem askedCart_23 (rom:ByteArray) (bank:Int) (ram:ByteArray) (rb:Int) (on:Bool) (mode:Int) (what:Int) (hw:what=3) (v:Int) (w:World) (v0:0<=v) (v1:v<=255) :
  Calls prog 264 #[.agg #[.string rom,.int .i64 2,.int .i64 bank,.string ram,.int .i64 rb,.bool on,.int .i64 mode],.int .i64 what,.int .i64 v] w fun e w'=>e=.returned (.agg #[.string rom,.int .i64 2,.int .i64 bank,.string ram,.int .i64 rb,.bool on,.int .i64 mode])/\∃ o1 o2 o3 o4 o5 o6,w'=((((((w.alloc o1).alloc o2).alloc o3).alloc o4).alloc o5).alloc o6):=by
 subst hw
 have a1:=as21
 have a2:=as22
 go_enter func264,ntmps264
 go_wp2_with first|(go_at_call 105;refine (mapperOf_2 _).mono ?_;rintro e w' ⟨rfl,rfl⟩)|(go_at_call 268;refine (askedFive_3 rom 2 bank ram rb on mode v _ v0 v1).mono ?_;rintro e w' ⟨rfl,p1,p2,p3,p4,rfl⟩)
 all_goals exact bodyPost_ret (v:=.agg #[.string rom,.int .i64 2,.int .i64 bank,.string ram,.int .i64 rb,.bool on,.int .i64 mode]) (by simp [results,results264,go_sem]) rfl ⟨rfl,_,_,_,_,_,_,rfl⟩
theorem written_0 (rom:ByteArray) (bank:Int) (ram:ByteArray) (rb:Int) (on:Bool) (mode:Int) (addr v:Int) (w:World) (v0:0<=v) (v1:v<=255) (a0:0<=addr) (a1:addr<512) :
  Calls prog 248 #[.agg #[.string rom,.int .i64 0,.int .i64 bank,.string ram,.int .i64 rb,.bool on,.int .i64 mode],.int .i64 addr,.int .i64 v] w fun e w'=>e=.returned (.agg #[.string rom,.int .i64 0,.int .i64 bank,.string ram,.int .i64 rb,.bool on,.int .i64 mode])/\∃ o1 o2 o3 o4,w'=((((w.alloc o1).alloc o2).alloc o3).alloc o4):=by
 have c:=fun w=>askedCart_0 rom bank ram rb on mode (addr / 128) v w v0 v1
 go_enter func248,ntmps248
 go_wp2_with (go_at_call 264;refine (c _).mono ?_;rintro e w' ⟨rfl,p1,p2,rfl⟩)
 all_goals exact bodyPost_ret (v:=.agg #[.string rom,.int .i64 0,.int .i64 bank,.string ram,.int .i64 rb,.bool on,.int .i64 mode]) (by simp [results,results248,go_sem]) rfl ⟨rfl,_,_,_,_,rfl⟩
theorem written_10 (rom:ByteArray) (bank:Int) (ram:ByteArray) (rb:Int) (on:Bool) (mode:Int) (addr v:Int) (w:World) (v0:0<=v) (v1:v<=255) (a0:0<=addr) (a1:addr<128) :
  Calls prog 248 #[.agg #[.string rom,.int .i64 1,.int .i64 bank,.string ram,.int .i64 rb,.bool on,.int .i64 mode],.int .i64 addr,.int .i64 v] w fun e w'=>e=.returned (.agg #[.string rom,.int .i64 1,.int .i64 bank,.string ram,.int .i64 rb,.bool (v%16 == 10),.int .i64 mode])/\∃ o1 o2 o3 o4 o5 o6 o7 o8,w'=((((((((w.alloc o1).alloc o2).alloc o3).alloc o4).alloc o5).alloc o6).alloc o7).alloc o8):=by
 have c:=fun w=>askedCart_10 rom bank ram rb on mode (addr / 128) (by omega) v w v0 v1
 go_enter func248,ntmps248
 go_wp2_with (go_at_call 264;refine (c _).mono ?_;rintro e w' ⟨rfl,p1,p2,p3,p4,p5,p6,rfl⟩)
 all_goals exact bodyPost_ret (v:=.agg #[.string rom,.int .i64 1,.int .i64 bank,.string ram,.int .i64 rb,.bool (v%16 == 10),.int .i64 mode]) (by simp [results,results248,go_sem]) rfl ⟨rfl,_,_,_,_,_,_,_,_,rfl⟩
theorem written_11 (rom:ByteArray) (bank:Int) (ram:ByteArray) (rb:Int) (on:Bool) (mode:Int) (addr v:Int) (w:World) (v0:0<=v) (v1:v<=255) (a0:128<=addr) (a1:addr<256) :
  Calls prog 248 #[.agg #[.string rom,.int .i64 1,.int .i64 bank,.string ram,.int .i64 rb,.bool on,.int .i64 mode],.int .i64 addr,.int .i64 v] w fun e w'=>e=.returned (.agg #[.string rom,.int .i64 1,.int .i64 (bank1 v),.string ram,.int .i64 rb,.bool on,.int .i64 mode])/\∃ o1 o2 o3 o4 o5 o6,w'=((((((w.alloc o1).alloc o2).alloc o3).alloc o4).alloc o5).alloc o6):=by
 have c:=fun w=>askedCart_11 rom bank ram rb on mode (addr / 128) (by omega) v w v0 v1
 go_enter func248,ntmps248
 go_wp2_with (go_at_call 264;refine (c _).mono ?_;rintro e w' ⟨rfl,p1,p2,p3,p4,rfl⟩)
 all_goals exact bodyPost_ret (v:=.agg #[.string rom,.int .i64 1,.int .i64 (bank1 v),.string ram,.int .i64 rb,.bool on,.int .i64 mode]) (by simp [results,results248,go_sem]) rfl ⟨rfl,_,_,_,_,_,_,rfl⟩
theorem written_12 (rom:ByteArray) (bank:Int) (ram:ByteArray) (rb:Int) (on:Bool) (mode:Int) (addr v:Int) (w:World) (v0:0<=v) (v1:v<=255) (a0:256<=addr) (a1:addr<384) :
  Calls prog 248 #[.agg #[.string rom,.int .i64 1,.int .i64 bank,.string ram,.int .i64 rb,.bool on,.int .i64 mode],.int .i64 addr,.int .i64 v] w fun e w'=>e=.returned (.agg #[.string rom,.int .i64 1,.int .i64 bank,.string ram,.int .i64 (v%4),.bool on,.int .i64 mode])/\∃ o1 o2 o3 o4 o5 o6 o7 o8,w'=((((((((w.alloc o1).alloc o2).alloc o3).alloc o4).alloc o5).alloc o6).alloc o7).alloc o8):=by
 have c:=fun w=>askedCart_12 rom bank ram rb on mode (addr / 128) (by omega) v w v0 v1
 go_enter func248,ntmps248
 go_wp2_with (go_at_call 264;refine (c _).mono ?_;rintro e w' ⟨rfl,p1,p2,p3,p4,p5,p6,rfl⟩)
 all_goals exact bodyPost_ret (v:=.agg #[.string rom,.int .i64 1,.int .i64 bank,.string ram,.int .i64 (v%4),.bool on,.int .i64 mode]) (by simp [results,results248,go_sem]) rfl ⟨rfl,_,_,_,_,_,_,_,_,rfl⟩
theorem written_13 (rom:ByteArray) (bank:Int) (ram:ByteArray) (rb:Int) (on:Bool) (mode:Int) (addr v:Int) (w:World) (v0:0<=v) (v1:v<=255) (a0:384<=addr) (a1:addr<512) :
  Calls prog 248 #[.agg #[.string rom,.int .i64 1,.int .i64 bank,.string ram,.int .i64 rb,.bool on,.int .i64 mode],.int .i64 addr,.int .i64 v] w fun e w'=>e=.returned (.agg #[.string rom,.int .i64 1,.int .i64 bank,.string ram,.int .i64 rb,.bool on,.int .i64 (v%2)])/\∃ o1 o2 o3 o4 o5 o6,w'=((((((w.alloc o1).alloc o2).alloc o3).alloc o4).alloc o5).alloc o6):=by
 have c:=fun w=>askedCart_13 rom bank ram rb on mode (addr / 128) (by omega) v w v0 v1
 go_enter func248,ntmps248
 go_wp2_with (go_at_call 264;refine (c _).mono ?_;rintro e w' ⟨rfl,p1,p2,p3,p4,rfl⟩)
 all_goals exact bodyPost_ret (v:=.agg #[.string rom,.int .i64 1,.int .i64 bank,.string ram,.int .i64 rb,.bool on,.int .i64 (v%2)]) (by simp [results,results248,go_sem]) rfl ⟨rfl,_,_,_,_,_,_,rfl⟩
theorem written_20 (rom:ByteArray) (bank:Int) (ram:ByteArray) (rb:Int) (on:Bool) (mode:Int) (addr v:Int) (w:World) (v0:0<=v) (v1:v<=255) (a0:0<=addr) (a1:addr<128) :
  Calls prog 248 #[.agg #[.string rom,.int .i64 2,.int .i64 bank,.string ram,.int .i64 rb,.bool on,.int .i64 mode],.int .i64 addr,.int .i64 v] w fun e w'=>e=.returned (.agg #[.string rom,.int .i64 2,.int .i64 bank,.string ram,.int .i64 rb,.bool (v%16 == 10),.int .i64 mode])/\∃ o1 o2 o3 o4 o5 o6 o7 o8,w'=((((((((w.alloc o1).alloc o2).alloc o3).alloc o4).alloc o5).alloc o6).alloc o7).alloc o8):=by
 have c:=fun w=>askedCart_20 rom bank ram rb on mode (addr / 128) (by omega) v w v0 v1
 go_enter func248,ntmps248
 go_wp2_with (go_at_call 264;refine (c _).mono ?_;rintro e w' ⟨rfl,p1,p2,p3,p4,p5,p6,rfl⟩)
 all_goals exact bodyPost_ret (v:=.agg #[.string rom,.int .i64 2,.int .i64 bank,.string ram,.int .i64 rb,.bool (v%16 == 10),.int .i64 mode]) (by simp [results,results248,go_sem]) rfl ⟨rfl,_,_,_,_,_,_,_,_,rfl⟩
theorem written_21 (rom:ByteArray) (bank:Int) (ram:ByteArray) (rb:Int) (on:Bool) (mode:Int) (addr v:Int) (w:World) (v0:0<=v) (v1:v<=255) (a0:128<=addr) (a1:addr<256) :
  Calls prog 248 #[.agg #[.string rom,.int .i64 2,.int .i64 bank,.string ram,.int .i64 rb,.bool on,.int .i64 mode],.int .i64 addr,.int .i64 v] w fun e w'=>e=.returned (.agg #[.string rom,.int .i64 2,.int .i64 v,.string ram,.int .i64 rb,.bool on,.int .i64 mode])/\∃ o1 o2 o3 o4 o5 o6,w'=((((((w.alloc o1).alloc o2).alloc o3).alloc o4).alloc o5).alloc o6):=by
 have c:=fun w=>askedCart_21 rom bank ram rb on mode (addr / 128) (by omega) v w v0 v1
 go_enter func248,ntmps248
 go_wp2_with (go_at_call 264;refine (c _).mono ?_;rintro e w' ⟨rfl,p1,p2,p3,p4,rfl⟩)
 all_goals exact bodyPost_ret (v:=.agg #[.string rom,.int .i64 2,.int .i64 v,.string ram,.int .i64 rb,.bool on,.int .i64 mode]) (by simp [results,results248,go_sem]) rfl ⟨rfl,_,_,_,_,_,_,rfl⟩
theorem written_22 (rom:ByteArray) (bank:Int) (ram:ByteArray) (rb:Int) (on:Bool) (mode:Int) (addr v:Int) (w:World) (v0:0<=v) (v1:v<=255) (a0:256<=addr) (a1:addr<384) :
  Calls prog 248 #[.agg #[.string rom,.int .i64 2,.int .i64 bank,.string ram,.int .i64 rb,.bool on,.int .i64 mode],.int .i64 addr,.int .i64 v] w fun e w'=>e=.returned (.agg #[.string rom,.int .i64 2,.int .i64 bank,.string ram,.int .i64 (v%4),.bool on,.int .i64 mode])/\∃ o1 o2 o3 o4 o5 o6 o7 o8,w'=((((((((w.alloc o1).alloc o2).alloc o3).alloc o4).alloc o5).alloc o6).alloc o7).alloc o8):=by
 have c:=fun w=>askedCart_22 rom bank ram rb on mode (addr / 128) (by omega) v w v0 v1
 go_enter func248,ntmps248
 go_wp2_with (go_at_call 264;refine (c _).mono ?_;rintro e w' ⟨rfl,p1,p2,p3,p4,p5,p6,rfl⟩)
 all_goals exact bodyPost_ret (v:=.agg #[.string rom,.int .i64 2,.int .i64 bank,.string ram,.int .i64 (v%4),.bool on,.int .i64 mode]) (by simp [results,results248,go_sem]) rfl ⟨rfl,_,_,_,_,_,_,_,_,rfl⟩
theorem written_23 (rom:ByteArray) (bank:Int) (ram:ByteArray) (rb:Int) (on:Bool) (mode:Int) (addr v:Int) (w:World) (v0:0<=v) (v1:v<=255) (a0:384<=addr) (a1:addr<512) :
  Calls prog 248 #[.agg #[.string rom,.int .i64 2,.int .i64 bank,.string ram,.int .i64 rb,.bool on,.int .i64 mode],.int .i64 addr,.int .i64 v] w fun e w'=>e=.returned (.agg #[.string rom,.int .i64 2,.int .i64 bank,.string ram,.int .i64 rb,.bool on,.int .i64 mode])/\∃ o1 o2 o3 o4 o5 o6 o7 o8,w'=((((((((w.alloc o1).alloc o2).alloc o3).alloc o4).alloc o5).alloc o6).alloc o7).alloc o8):=by
 have c:=fun w=>askedCart_23 rom bank ram rb on mode (addr / 128) (by omega) v w v0 v1
 go_enter func248,ntmps248
 go_wp2_with (go_at_call 264;refine (c _).mono ?_;rintro e w' ⟨rfl,p1,p2,p3,p4,p5,p6,rfl⟩)
 all_goals exact bodyPost_ret (v:=.agg #[.string rom,.int .i64 2,.int .i64 bank,.string ram,.int .i64 rb,.bool on,.int .i64 mode]) (by simp [results,results248,go_sem]) rfl ⟨rfl,_,_,_,_,_,_,_,_,rfl⟩
theorem written_no (rom:ByteArray) (kind bank:Int) (ram:ByteArray) (rb:Int) (on:Bool) (mode:Int) (addr v:Int) (w:World) (v0:0<=v) (v1:v<=255) (a0:512<=addr) (h:on=false \/ addr<40960 \/ 41024<=addr) :
  Calls prog 248 #[.agg #[.string rom,.int .i64 kind,.int .i64 bank,.string ram,.int .i64 rb,.bool on,.int .i64 mode],.int .i64 addr,.int .i64 v] w fun e w'=>e=.returned (.agg #[.string rom,.int .i64 kind,.int .i64 bank,.string ram,.int .i64 rb,.bool on,.int .i64 mode])/\∃ o1 o2 o3,w'=(((w.alloc o1).alloc o2).alloc o3):=by
 have c:=fun w=>place_no rom kind bank ram rb on mode addr w h
 clear h
 go_enter func248,ntmps248
 go_wp2_with (go_at_call 146;refine (c _).mono ?_;rintro e w' ⟨rfl,rfl⟩)
 all_goals exact bodyPost_ret (v:=.agg #[.string rom,.int .i64 kind,.int .i64 bank,.string ram,.int .i64 rb,.bool on,.int .i64 mode]) (by simp [results,results248,go_sem]) rfl ⟨rfl,_,_,_,rfl⟩
theorem written_yes (rom:ByteArray) (kind bank:Int) (ram:ByteArray) (rb:Int) (mode:Int) (addr v r:Int) (w:World) (v0:0<=v) (v1:v<=255) (sr:ram.size=256) (h0:0<=rb) (h1:rb<=3) (m0:0<=mode) (m1:mode<=1) (hk:kind=1 \/ kind=2) (a0:40960<=addr) (a1:addr<41024) (hr:ramQ kind rb mode=r) :
  Calls prog 248 #[.agg #[.string rom,.int .i64 kind,.int .i64 bank,.string ram,.int .i64 rb,.bool true,.int .i64 mode],.int .i64 addr,.int .i64 v] w fun e w'=>e=.returned (.agg #[.string rom,.int .i64 kind,.int .i64 bank,.string (putB ram (r*64+addr-40960) v),.int .i64 rb,.bool true,.int .i64 mode])/\∃ o1 o2 o3 o4 o5,w'=((((w.alloc o1).alloc o2).alloc o3).alloc o4).drew.alloc o5:=by
 have c:=fun w=>place_yes rom kind bank ram rb mode addr w h0 h1 m0 m1 hk a0 a1 r hr
 obtain ⟨r0,r1⟩:=ramQ_bd (kind:=kind) (mode:=mode) h0 h1
 rw [hr] at r0 r1
 clear hr hk h0 h1 m0 m1
 have c2:=fun w=>put_impl ram 256 sr (by decide) (r*64+addr-40960) v (by omega) (by omega) v0 v1 w
 have i0:0<=r*64+addr-40960:=by omega
 clear sr
 go_enter func248,ntmps248
 go_wp2_with first|(go_at_call 146;refine (c _).mono ?_;rintro e w' ⟨rfl,rfl⟩)|(go_at_call 247;refine (c2 _).mono ?_;rintro e w' ⟨rfl,p1,rfl⟩)
 all_goals exact bodyPost_ret (v:=.agg #[.string rom,.int .i64 kind,.int .i64 bank,.string (putB ram (r*64+addr-40960) v),.int .i64 rb,.bool true,.int .i64 mode]) (by simp [results,results248,go_sem]) rfl ⟨rfl,_,_,_,_,_,rfl⟩
end Go.Proofs.YtnjolmbdbgbmbaaGreatDoor.CartW
namespace Go.Proofs.YtnjolmbdbgbmbaaGreatDoor.CartY
open Go.Deep
open Signed (inB ret_int ret_bool isByte_any l1In_any)
open Carts CartK CartL CartM CartN CartP CartR CartW
def wBank (kind bank addr v:Int):Int:=if 128<=addr/\addr<256 then (if kind=1 then bank1 v else if kind=2 then v else bank) else bank
def wRam (kind:Int) (ram:ByteArray) (rb:Int) (on:Bool) (mode addr v:Int):ByteArray:=if 40960<=addr/\addr<41024 then (if on=true then putB ram (ramQ kind rb mode*64+addr-40960) v else ram) else ram
def wRb (kind rb addr v:Int):Int:=if 256<=addr/\addr<384/\¬ kind=0 then v%4 else rb
def wOn (kind:Int) (on:Bool) (addr v:Int):Bool:=if addr<128/\¬ kind=0 then v%16 == 10 else on
def wMode (kind mode addr v:Int):Int:=if 384<=addr/\addr<512/\kind=1 then v%2 else mode
def wrote (rom:ByteArray) (kind bank:Int) (ram:ByteArray) (rb:Int) (on:Bool) (mode:Int) (addr v:Int):Value:=.agg #[.string rom,.int .i64 kind,.int .i64 (wBank kind bank addr v),.string (wRam kind ram rb on mode addr v),.int .i64 (wRb kind rb addr v),.bool (wOn kind on addr v),.int .i64 (wMode kind mode addr v)]
end Go.Proofs.YtnjolmbdbgbmbaaGreatDoor.CartY
namespace Go.Proofs.YtnjolmbdbgbmbaaGreatDoor.CartU
open Go.Deep
open Signed (inB ret_int ret_bool isByte_any l1In_any)
open Carts CartK CartL CartM CartN CartP CartR CartW CartY
theorem fin1 {rom:ByteArray} {kind b b':Int} {m m':ByteArray} {r r':Int} {o o':Bool} {d d':Int} {e:Ending} (hb:b=b') (hm:m=m') (hr:r=r') (ho:o=o') (hd:d=d')
  (k:e=.returned (.agg #[.string rom,.int .i64 kind,.int .i64 b,.string m,.int .i64 r,.bool o,.int .i64 d])) :
  e=.returned (.agg #[.string rom,.int .i64 kind,.int .i64 b',.string m',.int .i64 r',.bool o',.int .i64 d']):=by
 subst hb hm hr ho hd
 exact k
theorem bel {w w':World} (h:(∃ o1 o2,w'=((w.alloc o1).alloc o2)) \/ (∃ o1 o2 o3,w'=(((w.alloc o1).alloc o2).alloc o3)) \/ (∃ o1 o2 o3 o4,w'=((((w.alloc o1).alloc o2).alloc o3).alloc o4)) \/ (∃ o1 o2 o3 o4 o5 o6,w'=((((((w.alloc o1).alloc o2).alloc o3).alloc o4).alloc o5).alloc o6)) \/ (∃ o1 o2 o3 o4 o5 o6 o7 o8,w'=((((((((w.alloc o1).alloc o2).alloc o3).alloc o4).alloc o5).alloc o6).alloc o7).alloc o8)) \/ (∃ o1 o2 o3 o4 o5,w'=((((w.alloc o1).alloc o2).alloc o3).alloc o4).drew.alloc o5) \/ (∃ o1 o2 o3 o4,w'=((((w.alloc o1).alloc o2).alloc o3).alloc o4).drew.drew)):Below w.heap.size w w':=by
 rcases h with h|h|h|h|h|h|h
 ·obtain ⟨_,_,rfl⟩:=h;exact (by repeat (with_reducible first|exact zRf|refine zGr ?_ _|refine below_drewN ?_ _|refine Below.drew ?_))
 ·obtain ⟨_,_,_,rfl⟩:=h;exact (by repeat (with_reducible first|exact zRf|refine zGr ?_ _|refine below_drewN ?_ _|refine Below.drew ?_))
 ·obtain ⟨_,_,_,_,rfl⟩:=h;exact (by repeat (with_reducible first|exact zRf|refine zGr ?_ _|refine below_drewN ?_ _|refine Below.drew ?_))
 ·obtain ⟨_,_,_,_,_,_,rfl⟩:=h;exact (by repeat (with_reducible first|exact zRf|refine zGr ?_ _|refine below_drewN ?_ _|refine Below.drew ?_))
 ·obtain ⟨_,_,_,_,_,_,_,_,rfl⟩:=h;exact (by repeat (with_reducible first|exact zRf|refine zGr ?_ _|refine below_drewN ?_ _|refine Below.drew ?_))
 ·obtain ⟨_,_,_,_,_,rfl⟩:=h;exact (by repeat (with_reducible first|exact zRf|refine zGr ?_ _|refine below_drewN ?_ _|refine Below.drew ?_))
 ·obtain ⟨_,_,_,_,rfl⟩:=h;exact (by repeat (with_reducible first|exact zRf|refine zGr ?_ _|refine below_drewN ?_ _|refine Below.drew ?_))
theorem written_right (rom:ByteArray) (kind bank:Int) (ram:ByteArray) (rb:Int) (on:Bool) (mode:Int) (addr v:Int) (w:World) (hs:rom.size<=maxLen) (hr:ram.size<=maxLen) (h:okB rom kind bank ram rb on mode=true) (hw:inB addr 0 65535=true) (hb:inB v 0 255=true) :
  Calls prog 248 #[.agg #[.string rom,.int .i64 kind,.int .i64 bank,.string ram,.int .i64 rb,.bool on,.int .i64 mode],.int .i64 addr,.int .i64 v] w fun e w'=>e=.returned (wrote rom kind bank ram rb on mode addr v)/\Below w.heap.size w w':=by
 obtain ⟨n,n0,n1,hn,hbk,hm,b0,b1,r0,r1,m0,m1,hk⟩:=right rom kind bank ram rb on mode h
 obtain ⟨a0,a1⟩:=of_decide_eq_true hw
 obtain ⟨v0,v1⟩:=of_decide_eq_true hb
 unfold wrote
 by_cases big:512<=addr
 ·by_cases hyes:on=true/\40960<=addr/\addr<41024
  ·obtain ⟨rfl,y0,y1⟩:=hyes
   have hk':kind=1 \/ kind=2:=by
    rcases hk with hk|hk|hk
    ·exact absurd hk.2 (by decide)
    ·exact .inl hk
    ·exact .inr hk.1
   exact (written_yes rom kind bank ram rb mode addr v _ w v0 v1 hm r0 r1 m0 m1 hk' y0 y1 rfl).mono (fun e w' k=>⟨fin1 (by unfold wBank;rw [if_neg (by omega)]) (by unfold wRam;rw [if_pos (by omega),if_pos rfl]) (by unfold wRb;rw [if_neg (by omega)]) (by unfold wOn;rw [if_neg (by omega)]) (by unfold wMode;rw [if_neg (by omega)]) k.1,bel (by first|exact .inl k.2|exact .inr (.inl k.2)|exact .inr (.inr (.inl k.2))|exact .inr (.inr (.inr (.inl k.2)))|exact .inr (.inr (.inr (.inr (.inl k.2))))|exact .inr (.inr (.inr (.inr (.inr (.inl k.2)))))|exact .inr (.inr (.inr (.inr (.inr (.inr k.2))))))⟩)
  ·have hno:on=false \/ addr<40960 \/ 41024<=addr:=by cases on <;> simp at hyes |-;omega
   exact (written_no rom kind bank ram rb on mode addr v w v0 v1 big hno).mono (fun e w' k=>⟨fin1 (by unfold wBank;rw [if_neg (by omega)]) (by unfold wRam;rcases hno with h|h|h;(split;rw [if_neg (by simp [h])];rfl);rw [if_neg (by omega)];rw [if_neg (by omega)]) (by unfold wRb;rw [if_neg (by omega)]) (by unfold wOn;rw [if_neg (by omega)]) (by unfold wMode;rw [if_neg (by omega)]) k.1,bel (by first|exact .inl k.2|exact .inr (.inl k.2)|exact .inr (.inr (.inl k.2))|exact .inr (.inr (.inr (.inl k.2)))|exact .inr (.inr (.inr (.inr (.inl k.2))))|exact .inr (.inr (.inr (.inr (.inr (.inl k.2)))))|exact .inr (.inr (.inr (.inr (.inr (.inr k.2))))))⟩)
 ·rcases hk with ⟨rfl,hon⟩|rfl|⟨rfl,hmode⟩
  ·exact (written_0 rom bank ram rb on mode addr v w v0 v1 a0 (by omega)).mono (fun e w' k=>⟨fin1 (by unfold wBank;split;rw [if_neg (by omega),if_neg (by omega)];rfl) (by unfold wRam;rw [if_neg (by omega)]) (by unfold wRb;rw [if_neg (by omega)]) (by unfold wOn;rw [if_neg (by omega)]) (by unfold wMode;rw [if_neg (by omega)]) k.1,bel (by first|exact .inl k.2|exact .inr (.inl k.2)|exact .inr (.inr (.inl k.2))|exact .inr (.inr (.inr (.inl k.2)))|exact .inr (.inr (.inr (.inr (.inl k.2))))|exact .inr (.inr (.inr (.inr (.inr (.inl k.2)))))|exact .inr (.inr (.inr (.inr (.inr (.inr k.2))))))⟩)
  ·have q:addr<128 \/ (128<=addr/\addr<256) \/ (256<=addr/\addr<384) \/ (384<=addr/\addr<512):=by omega
   rcases q with q|q|q|q
   ·exact (written_10 rom bank ram rb on mode addr v w v0 v1 a0 q).mono (fun e w' k=>⟨fin1 (by unfold wBank;rw [if_neg (by omega)]) (by unfold wRam;rw [if_neg (by omega)]) (by unfold wRb;rw [if_neg (by omega)]) (by unfold wOn;rw [if_pos (by omega)]) (by unfold wMode;rw [if_neg (by omega)]) k.1,bel (by first|exact .inl k.2|exact .inr (.inl k.2)|exact .inr (.inr (.inl k.2))|exact .inr (.inr (.inr (.inl k.2)))|exact .inr (.inr (.inr (.inr (.inl k.2))))|exact .inr (.inr (.inr (.inr (.inr (.inl k.2)))))|exact .inr (.inr (.inr (.inr (.inr (.inr k.2))))))⟩)
   ·exact (written_11 rom bank ram rb on mode addr v w v0 v1 q.1 q.2).mono (fun e w' k=>⟨fin1 (by unfold wBank;rw [if_pos (by omega),if_pos rfl]) (by unfold wRam;rw [if_neg (by omega)]) (by unfold wRb;rw [if_neg (by omega)]) (by unfold wOn;rw [if_neg (by omega)]) (by unfold wMode;rw [if_neg (by omega)]) k.1,bel (by first|exact .inl k.2|exact .inr (.inl k.2)|exact .inr (.inr (.inl k.2))|exact .inr (.inr (.inr (.inl k.2)))|exact .inr (.inr (.inr (.inr (.inl k.2))))|exact .inr (.inr (.inr (.inr (.inr (.inl k.2)))))|exact .inr (.inr (.inr (.inr (.inr (.inr k.2))))))⟩)
   ·exact (written_12 rom bank ram rb on mode addr v w v0 v1 q.1 q.2).mono (fun e w' k=>⟨fin1 (by unfold wBank;rw [if_neg (by omega)]) (by unfold wRam;rw [if_neg (by omega)]) (by unfold wRb;rw [if_pos (by omega)]) (by unfold wOn;rw [if_neg (by omega)]) (by unfold wMode;rw [if_neg (by omega)]) k.1,bel (by first|exact .inl k.2|exact .inr (.inl k.2)|exact .inr (.inr (.inl k.2))|exact .inr (.inr (.inr (.inl k.2)))|exact .inr (.inr (.inr (.inr (.inl k.2))))|exact .inr (.inr (.inr (.inr (.inr (.inl k.2)))))|exact .inr (.inr (.inr (.inr (.inr (.inr k.2))))))⟩)
   ·exact (written_13 rom bank ram rb on mode addr v w v0 v1 q.1 q.2).mono (fun e w' k=>⟨fin1 (by unfold wBank;rw [if_neg (by omega)]) (by unfold wRam;rw [if_neg (by omega)]) (by unfold wRb;rw [if_neg (by omega)]) (by unfold wOn;rw [if_neg (by omega)]) (by unfold wMode;rw [if_pos (by omega)]) k.1,bel (by first|exact .inl k.2|exact .inr (.inl k.2)|exact .inr (.inr (.inl k.2))|exact .inr (.inr (.inr (.inl k.2)))|exact .inr (.inr (.inr (.inr (.inl k.2))))|exact .inr (.inr (.inr (.inr (.inr (.inl k.2)))))|exact .inr (.inr (.inr (.inr (.inr (.inr k.2))))))⟩)
  ·have q:addr<128 \/ (128<=addr/\addr<256) \/ (256<=addr/\addr<384) \/ (384<=addr/\addr<512):=by omega
   rcases q with q|q|q|q
   ·exact (written_20 rom bank ram rb on mode addr v w v0 v1 a0 q).mono (fun e w' k=>⟨fin1 (by unfold wBank;rw [if_neg (by omega)]) (by unfold wRam;rw [if_neg (by omega)]) (by unfold wRb;rw [if_neg (by omega)]) (by unfold wOn;rw [if_pos (by omega)]) (by unfold wMode;rw [if_neg (by omega)]) k.1,bel (by first|exact .inl k.2|exact .inr (.inl k.2)|exact .inr (.inr (.inl k.2))|exact .inr (.inr (.inr (.inl k.2)))|exact .inr (.inr (.inr (.inr (.inl k.2))))|exact .inr (.inr (.inr (.inr (.inr (.inl k.2)))))|exact .inr (.inr (.inr (.inr (.inr (.inr k.2))))))⟩)
   ·exact (written_21 rom bank ram rb on mode addr v w v0 v1 q.1 q.2).mono (fun e w' k=>⟨fin1 (by unfold wBank;rw [if_pos (by omega),if_neg (by omega),if_pos rfl]) (by unfold wRam;rw [if_neg (by omega)]) (by unfold wRb;rw [if_neg (by omega)]) (by unfold wOn;rw [if_neg (by omega)]) (by unfold wMode;rw [if_neg (by omega)]) k.1,bel (by first|exact .inl k.2|exact .inr (.inl k.2)|exact .inr (.inr (.inl k.2))|exact .inr (.inr (.inr (.inl k.2)))|exact .inr (.inr (.inr (.inr (.inl k.2))))|exact .inr (.inr (.inr (.inr (.inr (.inl k.2)))))|exact .inr (.inr (.inr (.inr (.inr (.inr k.2))))))⟩)
   ·exact (written_22 rom bank ram rb on mode addr v w v0 v1 q.1 q.2).mono (fun e w' k=>⟨fin1 (by unfold wBank;rw [if_neg (by omega)]) (by unfold wRam;rw [if_neg (by omega)]) (by unfold wRb;rw [if_pos (by omega)]) (by unfold wOn;rw [if_neg (by omega)]) (by unfold wMode;rw [if_neg (by omega)]) k.1,bel (by first|exact .inl k.2|exact .inr (.inl k.2)|exact .inr (.inr (.inl k.2))|exact .inr (.inr (.inr (.inl k.2)))|exact .inr (.inr (.inr (.inr (.inl k.2))))|exact .inr (.inr (.inr (.inr (.inr (.inl k.2)))))|exact .inr (.inr (.inr (.inr (.inr (.inr k.2))))))⟩)
   ·exact (written_23 rom bank ram rb on mode addr v w v0 v1 q.1 q.2).mono (fun e w' k=>⟨fin1 (by unfold wBank;rw [if_neg (by omega)]) (by unfold wRam;rw [if_neg (by omega)]) (by unfold wRb;rw [if_neg (by omega)]) (by unfold wOn;rw [if_neg (by omega)]) (by unfold wMode;rw [if_neg (by omega)]) k.1,bel (by first|exact .inl k.2|exact .inr (.inl k.2)|exact .inr (.inr (.inl k.2))|exact .inr (.inr (.inr (.inl k.2)))|exact .inr (.inr (.inr (.inr (.inl k.2))))|exact .inr (.inr (.inr (.inr (.inr (.inl k.2)))))|exact .inr (.inr (.inr (.inr (.inr (.inr k.2))))))⟩)
end Go.Proofs.YtnjolmbdbgbmbaaGreatDoor.CartU
namespace Go.Proofs.YtnjolmbdbgbmbaaGreatDoor.Outs
open Go.Deep
open Signed (inB ret_int ret_bool isByte_any l1In_any)
open CartN (info_parts)
def Row (w:World) (a:Option Addr) (L:List Int):Prop:=L=[] \/ ∃ b off,a=some ⟨b,off,none⟩/\b<w.heap.size/\∀ i (h:i<L.length),w.cell? ⟨b,off+i,none⟩=some (.int .i64 L[i])
theorem Row.below {w w':World} {a:Option Addr} {L:List Int} (h:Row w a L) (hb:Below w.heap.size w w'):Row w' a L:=by
 rcases h with h|⟨b,off,ha,hl,hc⟩
 ·exact .inl h
 ·exact .inr ⟨b,off,ha,Nat.lt_of_lt_of_le hl hb.size,fun i hi=>(hb.cell (p:=⟨b,_,none⟩) hl).trans (hc i hi)⟩
end Go.Proofs.YtnjolmbdbgbmbaaGreatDoor.Outs
namespace Go.Proofs.YtnjolmbdbgbmbaaGreatDoor.MachT
open Go.Deep
open Signed (inB ret_int ret_bool isByte_any l1In_any)
open CartL Outs
theorem cel {W:World} {B:Nat} {vs:Array Value} {T:TypeId} (h:W.heap[B]? = some (.cells vs T)) (i:Nat) (v:Value) (hv:vs[i]? = some v):W.cell? ⟨B,i,none⟩=some v:=by
 unfold World.cell?
 rw [h]
 simpa using hv
theorem heap_row {W:World} {B:Nat} {vs cs:Array Value} {T:TypeId} (h:W.heap[B]? = some (.cells vs T)):(W.setRow B cs).heap[B]? = some (.cells cs T):=by
 unfold World.setRow
 simp [Array.getElem?_modify,h]
theorem heap_row_other {B B':Nat} {cs:Array Value} (hne:B ≠ B') (W:World):(W.setRow B cs).heap[B']? = W.heap[B']?:=by
 unfold World.setRow
 simp [Array.getElem?_modify,hne]
theorem size_row {B:Nat} {cs:Array Value} (W:World):(W.setRow B cs).heap.size=W.heap.size:=by
 unfold World.setRow
 simp
theorem below_row {n g:Nat} {a w:World} {cs:Array Value} (h:Below n a w) (hg:n<=g):Below n a (w.setRow g cs) :=
 h.trans ⟨rfl,rfl,rfl,by rw [size_row];exact Nat.le_refl _,fun k hk=>heap_row_other (by omega) w⟩
end Go.Proofs.YtnjolmbdbgbmbaaGreatDoor.MachT
namespace Go.Proofs.YtnjolmbdbgbmbaaGreatDoor.CartS
open Go.Deep
open Signed (inB ret_int ret_bool isByte_any l1In_any)
open Carts CartK CartL CartM CartR
theorem ret_i {a b:Int} {w:World} {w':World} {e:Ending} (h:a=b) (k:e=.returned (.int .i64 a)/\Below w.heap.size w w'):e=.returned (.int .i64 b)/\Below w.heap.size w w':=by rw [<- h];exact k
theorem implRead_right (rom:ByteArray) (kind bank:Int) (ram:ByteArray) (rb:Int) (on:Bool) (mode:Int) (addr:Int) (w:World) (h:okB rom kind bank ram rb on mode=true) (a0:0<=addr) :
  Calls prog 111 #[.agg #[.string rom,.int .i64 kind,.int .i64 bank,.string ram,.int .i64 rb,.bool on,.int .i64 mode],.int .i64 addr] w fun e w'=>e=.returned (.int .i64 (rdV rom (bank%banks rom.size) ram (ramQ kind rb mode) on addr))/\Below w.heap.size w w':=by
 obtain ⟨n,n0,n1,hn,hb,hm,b0,b1,r0,r1,m0,m1,hk⟩:=right rom kind bank ram rb on mode h
 rw [hb]
 have q0:0<=bank%(n:Int):=Int.emod_nonneg _ (by omega)
 have q1:bank%(n:Int)<n:=Int.emod_lt_of_pos _ (by omega)
 by_cases h1:addr<256
 ·exact (read1 rom kind bank ram rb on mode addr w (by omega) a0 h1).mono fun e w' k=>ret_i (by unfold rdV;rw [if_pos h1]) k
 by_cases h2:addr<512
 ·exact (read2 rom kind bank ram rb on mode addr _ w (by omega) q0 (by omega) (by omega) (by omega) h2 (fun w=>bankSeen_any rom kind bank ram rb on mode w n n0 n1 hn b0 b1)).mono fun e w' k=>ret_i (by unfold rdV;rw [if_neg h1,if_pos h2]) k
 by_cases h3:on=true/\40960<=addr/\addr<41024
 ·obtain ⟨rfl,h4,h5⟩:=h3
  exact (read3 rom kind bank ram rb mode addr _ w hm r0 r1 m0 m1 (by simp at hk;omega) h4 h5 rfl).mono fun e w' k=>ret_i (by unfold rdV;rw [if_neg h1,if_neg h2,if_pos ⟨rfl,h4,h5⟩]) k
 ·exact (read4 rom kind bank ram rb on mode addr w (by omega) (by cases on <;> simp at h3 |-;omega)).mono fun e w' k=>ret_i (by unfold rdV;rw [if_neg h1,if_neg h2,if_neg h3]) k
end Go.Proofs.YtnjolmbdbgbmbaaGreatDoor.CartS
