import Derived.Test.YteglcgnhhoenbaaGreatDoorP06
set_option linter.all false
set_option maxRecDepth 20000
set_option maxHeartbeats 8000000
open Go.ChangeShapes Go.WideShapes Go.ChangeAt Go.RowKit
open Go.Proofs.Tryz
namespace Go.Proofs.YteglcgnhhoenbaaGreatDoor
namespace CartW
open Go.Deep
open Signed (inB ret_int ret_bool isByte_any l1In_any)
open Carts CartK CartL CartM CartP CartR
def bank1 (v:Int):Int:=if v%32<1 then 1 else v%32
theorem askedRam_0 (rom:ByteArray) (kind bank:Int) (ram:ByteArray) (rb:Int) (on:Bool) (mode:Int) (v:Int) (w:World) (v0:0<=v) (v1:v<=255) :
  Calls prog 302 #[.agg #[.string rom,.int .i64 kind,.int .i64 bank,.string ram,.int .i64 rb,.bool on,.int .i64 mode],.int .i64 0,.int .i64 v] w fun e w'=>e=.returned (.agg #[.string rom,.int .i64 kind,.int .i64 bank,.string ram,.int .i64 rb,.bool (v%16 == 10),.int .i64 mode])/\∃ o1 o2,w'=((w.alloc o1).alloc o2):=by
 go_enter func302,ntmps302
 go_wp2
 all_goals exact bodyPost_ret (v:=.agg #[.string rom,.int .i64 kind,.int .i64 bank,.string ram,.int .i64 rb,.bool (v%16 == 10),.int .i64 mode]) (by simp [results,results302,go_sem]) rfl ⟨rfl,_,_,rfl⟩
theorem askedRam_2 (rom:ByteArray) (kind bank:Int) (ram:ByteArray) (rb:Int) (on:Bool) (mode:Int) (v:Int) (w:World) (v0:0<=v) (v1:v<=255) :
  Calls prog 302 #[.agg #[.string rom,.int .i64 kind,.int .i64 bank,.string ram,.int .i64 rb,.bool on,.int .i64 mode],.int .i64 2,.int .i64 v] w fun e w'=>e=.returned (.agg #[.string rom,.int .i64 kind,.int .i64 bank,.string ram,.int .i64 (v%4),.bool on,.int .i64 mode])/\∃ o1 o2,w'=((w.alloc o1).alloc o2):=by
 go_enter func302,ntmps302
 go_wp2
 all_goals exact bodyPost_ret (v:=.agg #[.string rom,.int .i64 kind,.int .i64 bank,.string ram,.int .i64 (v%4),.bool on,.int .i64 mode]) (by simp [results,results302,go_sem]) rfl ⟨rfl,_,_,rfl⟩
theorem askedRam_3 (rom:ByteArray) (kind bank:Int) (ram:ByteArray) (rb:Int) (on:Bool) (mode:Int) (v:Int) (w:World) (v0:0<=v) (v1:v<=255) :
  Calls prog 302 #[.agg #[.string rom,.int .i64 kind,.int .i64 bank,.string ram,.int .i64 rb,.bool on,.int .i64 mode],.int .i64 3,.int .i64 v] w fun e w'=>e=.returned (.agg #[.string rom,.int .i64 kind,.int .i64 bank,.string ram,.int .i64 rb,.bool on,.int .i64 mode])/\∃ o1 o2,w'=((w.alloc o1).alloc o2):=by
 go_enter func302,ntmps302
 go_wp2
 all_goals exact bodyPost_ret (v:=.agg #[.string rom,.int .i64 kind,.int .i64 bank,.string ram,.int .i64 rb,.bool on,.int .i64 mode]) (by simp [results,results302,go_sem]) rfl ⟨rfl,_,_,rfl⟩
theorem askedOne_0 (rom:ByteArray) (kind bank:Int) (ram:ByteArray) (rb:Int) (on:Bool) (mode:Int) (v:Int) (w:World) (v0:0<=v) (v1:v<=255) :
  Calls prog 300 #[.agg #[.string rom,.int .i64 kind,.int .i64 bank,.string ram,.int .i64 rb,.bool on,.int .i64 mode],.int .i64 0,.int .i64 v] w fun e w'=>e=.returned (.agg #[.string rom,.int .i64 kind,.int .i64 bank,.string ram,.int .i64 rb,.bool (v%16 == 10),.int .i64 mode])/\∃ o1 o2 o3 o4,w'=((((w.alloc o1).alloc o2).alloc o3).alloc o4):=by
 go_enter func300,ntmps300
 go_wp2_with (go_at_call 302;refine (askedRam_0 rom kind bank ram rb on mode v _ v0 v1).mono ?_;rintro e w' ⟨rfl,p1,p2,rfl⟩)
 all_goals exact bodyPost_ret (v:=.agg #[.string rom,.int .i64 kind,.int .i64 bank,.string ram,.int .i64 rb,.bool (v%16 == 10),.int .i64 mode]) (by simp [results,results300,go_sem]) rfl ⟨rfl,_,_,_,_,rfl⟩
theorem askedFive_0 (rom:ByteArray) (kind bank:Int) (ram:ByteArray) (rb:Int) (on:Bool) (mode:Int) (v:Int) (w:World) (v0:0<=v) (v1:v<=255) :
  Calls prog 301 #[.agg #[.string rom,.int .i64 kind,.int .i64 bank,.string ram,.int .i64 rb,.bool on,.int .i64 mode],.int .i64 0,.int .i64 v] w fun e w'=>e=.returned (.agg #[.string rom,.int .i64 kind,.int .i64 bank,.string ram,.int .i64 rb,.bool (v%16 == 10),.int .i64 mode])/\∃ o1 o2 o3 o4,w'=((((w.alloc o1).alloc o2).alloc o3).alloc o4):=by
 go_enter func301,ntmps301
 go_wp2_with (go_at_call 302;refine (askedRam_0 rom kind bank ram rb on mode v _ v0 v1).mono ?_;rintro e w' ⟨rfl,p1,p2,rfl⟩)
 all_goals exact bodyPost_ret (v:=.agg #[.string rom,.int .i64 kind,.int .i64 bank,.string ram,.int .i64 rb,.bool (v%16 == 10),.int .i64 mode]) (by simp [results,results301,go_sem]) rfl ⟨rfl,_,_,_,_,rfl⟩
theorem askedOne_1 (rom:ByteArray) (kind bank:Int) (ram:ByteArray) (rb:Int) (on:Bool) (mode:Int) (v:Int) (w:World) (v0:0<=v) (v1:v<=255) :
  Calls prog 300 #[.agg #[.string rom,.int .i64 kind,.int .i64 bank,.string ram,.int .i64 rb,.bool on,.int .i64 mode],.int .i64 1,.int .i64 v] w fun e w'=>e=.returned (.agg #[.string rom,.int .i64 kind,.int .i64 (bank1 v),.string ram,.int .i64 rb,.bool on,.int .i64 mode])/\∃ o1 o2,w'=((w.alloc o1).alloc o2):=by
 go_enter func300,ntmps300
 go_wp2
 all_goals exact bodyPost_ret (v:=.agg #[.string rom,.int .i64 kind,.int .i64 (bank1 v),.string ram,.int .i64 rb,.bool on,.int .i64 mode]) (by simp [results,results300,bank1,go_sem];try omega) rfl ⟨rfl,_,_,rfl⟩
theorem askedFive_1 (rom:ByteArray) (kind bank:Int) (ram:ByteArray) (rb:Int) (on:Bool) (mode:Int) (v:Int) (w:World) (v0:0<=v) (v1:v<=255) :
  Calls prog 301 #[.agg #[.string rom,.int .i64 kind,.int .i64 bank,.string ram,.int .i64 rb,.bool on,.int .i64 mode],.int .i64 1,.int .i64 v] w fun e w'=>e=.returned (.agg #[.string rom,.int .i64 kind,.int .i64 v,.string ram,.int .i64 rb,.bool on,.int .i64 mode])/\∃ o1 o2,w'=((w.alloc o1).alloc o2):=by
 go_enter func301,ntmps301
 go_wp2
 all_goals exact bodyPost_ret (v:=.agg #[.string rom,.int .i64 kind,.int .i64 v,.string ram,.int .i64 rb,.bool on,.int .i64 mode]) (by simp [results,results301,go_sem]) rfl ⟨rfl,_,_,rfl⟩
theorem askedOne_2 (rom:ByteArray) (kind bank:Int) (ram:ByteArray) (rb:Int) (on:Bool) (mode:Int) (v:Int) (w:World) (v0:0<=v) (v1:v<=255) :
  Calls prog 300 #[.agg #[.string rom,.int .i64 kind,.int .i64 bank,.string ram,.int .i64 rb,.bool on,.int .i64 mode],.int .i64 2,.int .i64 v] w fun e w'=>e=.returned (.agg #[.string rom,.int .i64 kind,.int .i64 bank,.string ram,.int .i64 (v%4),.bool on,.int .i64 mode])/\∃ o1 o2 o3 o4,w'=((((w.alloc o1).alloc o2).alloc o3).alloc o4):=by
 go_enter func300,ntmps300
 go_wp2_with (go_at_call 302;refine (askedRam_2 rom kind bank ram rb on mode v _ v0 v1).mono ?_;rintro e w' ⟨rfl,p1,p2,rfl⟩)
 all_goals exact bodyPost_ret (v:=.agg #[.string rom,.int .i64 kind,.int .i64 bank,.string ram,.int .i64 (v%4),.bool on,.int .i64 mode]) (by simp [results,results300,go_sem]) rfl ⟨rfl,_,_,_,_,rfl⟩
theorem askedFive_2 (rom:ByteArray) (kind bank:Int) (ram:ByteArray) (rb:Int) (on:Bool) (mode:Int) (v:Int) (w:World) (v0:0<=v) (v1:v<=255) :
  Calls prog 301 #[.agg #[.string rom,.int .i64 kind,.int .i64 bank,.string ram,.int .i64 rb,.bool on,.int .i64 mode],.int .i64 2,.int .i64 v] w fun e w'=>e=.returned (.agg #[.string rom,.int .i64 kind,.int .i64 bank,.string ram,.int .i64 (v%4),.bool on,.int .i64 mode])/\∃ o1 o2 o3 o4,w'=((((w.alloc o1).alloc o2).alloc o3).alloc o4):=by
 go_enter func301,ntmps301
 go_wp2_with (go_at_call 302;refine (askedRam_2 rom kind bank ram rb on mode v _ v0 v1).mono ?_;rintro e w' ⟨rfl,p1,p2,rfl⟩)
 all_goals exact bodyPost_ret (v:=.agg #[.string rom,.int .i64 kind,.int .i64 bank,.string ram,.int .i64 (v%4),.bool on,.int .i64 mode]) (by simp [results,results301,go_sem]) rfl ⟨rfl,_,_,_,_,rfl⟩
theorem askedOne_3 (rom:ByteArray) (kind bank:Int) (ram:ByteArray) (rb:Int) (on:Bool) (mode:Int) (v:Int) (w:World) (v0:0<=v) (v1:v<=255) :
  Calls prog 300 #[.agg #[.string rom,.int .i64 kind,.int .i64 bank,.string ram,.int .i64 rb,.bool on,.int .i64 mode],.int .i64 3,.int .i64 v] w fun e w'=>e=.returned (.agg #[.string rom,.int .i64 kind,.int .i64 bank,.string ram,.int .i64 rb,.bool on,.int .i64 (v%2)])/\∃ o1 o2,w'=((w.alloc o1).alloc o2):=by
 go_enter func300,ntmps300
 go_wp2
 all_goals exact bodyPost_ret (v:=.agg #[.string rom,.int .i64 kind,.int .i64 bank,.string ram,.int .i64 rb,.bool on,.int .i64 (v%2)]) (by simp [results,results300,go_sem]) rfl ⟨rfl,_,_,rfl⟩
theorem askedFive_3 (rom:ByteArray) (kind bank:Int) (ram:ByteArray) (rb:Int) (on:Bool) (mode:Int) (v:Int) (w:World) (v0:0<=v) (v1:v<=255) :
  Calls prog 301 #[.agg #[.string rom,.int .i64 kind,.int .i64 bank,.string ram,.int .i64 rb,.bool on,.int .i64 mode],.int .i64 3,.int .i64 v] w fun e w'=>e=.returned (.agg #[.string rom,.int .i64 kind,.int .i64 bank,.string ram,.int .i64 rb,.bool on,.int .i64 mode])/\∃ o1 o2 o3 o4,w'=((((w.alloc o1).alloc o2).alloc o3).alloc o4):=by
 go_enter func301,ntmps301
 go_wp2_with (go_at_call 302;refine (askedRam_3 rom kind bank ram rb on mode v _ v0 v1).mono ?_;rintro e w' ⟨rfl,p1,p2,rfl⟩)
 all_goals exact bodyPost_ret (v:=.agg #[.string rom,.int .i64 kind,.int .i64 bank,.string ram,.int .i64 rb,.bool on,.int .i64 mode]) (by simp [results,results301,go_sem]) rfl ⟨rfl,_,_,_,_,rfl⟩
theorem askedCart_0 (rom:ByteArray) (bank:Int) (ram:ByteArray) (rb:Int) (on:Bool) (mode:Int) (what:Int) (v:Int) (w:World) (v0:0<=v) (v1:v<=255) :
  Calls prog 295 #[.agg #[.string rom,.int .i64 0,.int .i64 bank,.string ram,.int .i64 rb,.bool on,.int .i64 mode],.int .i64 what,.int .i64 v] w fun e w'=>e=.returned (.agg #[.string rom,.int .i64 0,.int .i64 bank,.string ram,.int .i64 rb,.bool on,.int .i64 mode])/\∃ o1 o2,w'=((w.alloc o1).alloc o2):=by
 have a1:=as01
 have a2:=as02
 go_enter func295,ntmps295
 go_wp2_with (go_at_call 113;refine (mapperOf_0 _).mono ?_;rintro e w' ⟨rfl,rfl⟩)
 all_goals exact bodyPost_ret (v:=.agg #[.string rom,.int .i64 0,.int .i64 bank,.string ram,.int .i64 rb,.bool on,.int .i64 mode]) (by simp [results,results295,go_sem]) rfl ⟨rfl,_,_,rfl⟩
theorem askedCart_10 (rom:ByteArray) (bank:Int) (ram:ByteArray) (rb:Int) (on:Bool) (mode:Int) (what:Int) (hw:what=0) (v:Int) (w:World) (v0:0<=v) (v1:v<=255) :
  Calls prog 295 #[.agg #[.string rom,.int .i64 1,.int .i64 bank,.string ram,.int .i64 rb,.bool on,.int .i64 mode],.int .i64 what,.int .i64 v] w fun e w'=>e=.returned (.agg #[.string rom,.int .i64 1,.int .i64 bank,.string ram,.int .i64 rb,.bool (v%16 == 10),.int .i64 mode])/\∃ o1 o2 o3 o4 o5 o6,w'=((((((w.alloc o1).alloc o2).alloc o3).alloc o4).alloc o5).alloc o6):=by
 subst hw
 have a1:=as11
 have a2:=as12
 go_enter func295,ntmps295
 go_wp2_with first|(go_at_call 113;refine (mapperOf_1 _).mono ?_;rintro e w' ⟨rfl,rfl⟩)|(go_at_call 300;refine (askedOne_0 rom 1 bank ram rb on mode v _ v0 v1).mono ?_;rintro e w' ⟨rfl,p1,p2,p3,p4,rfl⟩)
 all_goals exact bodyPost_ret (v:=.agg #[.string rom,.int .i64 1,.int .i64 bank,.string ram,.int .i64 rb,.bool (v%16 == 10),.int .i64 mode]) (by simp [results,results295,go_sem]) rfl ⟨rfl,_,_,_,_,_,_,rfl⟩
theorem askedCart_11 (rom:ByteArray) (bank:Int) (ram:ByteArray) (rb:Int) (on:Bool) (mode:Int) (what:Int) (hw:what=1) (v:Int) (w:World) (v0:0<=v) (v1:v<=255) :
  Calls prog 295 #[.agg #[.string rom,.int .i64 1,.int .i64 bank,.string ram,.int .i64 rb,.bool on,.int .i64 mode],.int .i64 what,.int .i64 v] w fun e w'=>e=.returned (.agg #[.string rom,.int .i64 1,.int .i64 (bank1 v),.string ram,.int .i64 rb,.bool on,.int .i64 mode])/\∃ o1 o2 o3 o4,w'=((((w.alloc o1).alloc o2).alloc o3).alloc o4):=by
 subst hw
 have a1:=as11
 have a2:=as12
 go_enter func295,ntmps295
 go_wp2_with first|(go_at_call 113;refine (mapperOf_1 _).mono ?_;rintro e w' ⟨rfl,rfl⟩)|(go_at_call 300;refine (askedOne_1 rom 1 bank ram rb on mode v _ v0 v1).mono ?_;rintro e w' ⟨rfl,p1,p2,rfl⟩)
 all_goals exact bodyPost_ret (v:=.agg #[.string rom,.int .i64 1,.int .i64 (bank1 v),.string ram,.int .i64 rb,.bool on,.int .i64 mode]) (by simp [results,results295,go_sem]) rfl ⟨rfl,_,_,_,_,rfl⟩
theorem askedCart_12 (rom:ByteArray) (bank:Int) (ram:ByteArray) (rb:Int) (on:Bool) (mode:Int) (what:Int) (hw:what=2) (v:Int) (w:World) (v0:0<=v) (v1:v<=255) :
  Calls prog 295 #[.agg #[.string rom,.int .i64 1,.int .i64 bank,.string ram,.int .i64 rb,.bool on,.int .i64 mode],.int .i64 what,.int .i64 v] w fun e w'=>e=.returned (.agg #[.string rom,.int .i64 1,.int .i64 bank,.string ram,.int .i64 (v%4),.bool on,.int .i64 mode])/\∃ o1 o2 o3 o4 o5 o6,w'=((((((w.alloc o1).alloc o2).alloc o3).alloc o4).alloc o5).alloc o6):=by
 subst hw
 have a1:=as11
 have a2:=as12
 go_enter func295,ntmps295
 go_wp2_with first|(go_at_call 113;refine (mapperOf_1 _).mono ?_;rintro e w' ⟨rfl,rfl⟩)|(go_at_call 300;refine (askedOne_2 rom 1 bank ram rb on mode v _ v0 v1).mono ?_;rintro e w' ⟨rfl,p1,p2,p3,p4,rfl⟩)
 all_goals exact bodyPost_ret (v:=.agg #[.string rom,.int .i64 1,.int .i64 bank,.string ram,.int .i64 (v%4),.bool on,.int .i64 mode]) (by simp [results,results295,go_sem]) rfl ⟨rfl,_,_,_,_,_,_,rfl⟩
theorem askedCart_13 (rom:ByteArray) (bank:Int) (ram:ByteArray) (rb:Int) (on:Bool) (mode:Int) (what:Int) (hw:what=3) (v:Int) (w:World) (v0:0<=v) (v1:v<=255) :
  Calls prog 295 #[.agg #[.string rom,.int .i64 1,.int .i64 bank,.string ram,.int .i64 rb,.bool on,.int .i64 mode],.int .i64 what,.int .i64 v] w fun e w'=>e=.returned (.agg #[.string rom,.int .i64 1,.int .i64 bank,.string ram,.int .i64 rb,.bool on,.int .i64 (v%2)])/\∃ o1 o2 o3 o4,w'=((((w.alloc o1).alloc o2).alloc o3).alloc o4):=by
 subst hw
 have a1:=as11
 have a2:=as12
 go_enter func295,ntmps295
 go_wp2_with first|(go_at_call 113;refine (mapperOf_1 _).mono ?_;rintro e w' ⟨rfl,rfl⟩)|(go_at_call 300;refine (askedOne_3 rom 1 bank ram rb on mode v _ v0 v1).mono ?_;rintro e w' ⟨rfl,p1,p2,rfl⟩)
 all_goals exact bodyPost_ret (v:=.agg #[.string rom,.int .i64 1,.int .i64 bank,.string ram,.int .i64 rb,.bool on,.int .i64 (v%2)]) (by simp [results,results295,go_sem]) rfl ⟨rfl,_,_,_,_,rfl⟩
theorem askedCart_20 (rom:ByteArray) (bank:Int) (ram:ByteArray) (rb:Int) (on:Bool) (mode:Int) (what:Int) (hw:what=0) (v:Int) (w:World) (v0:0<=v) (v1:v<=255) :
  Calls prog 295 #[.agg #[.string rom,.int .i64 2,.int .i64 bank,.string ram,.int .i64 rb,.bool on,.int .i64 mode],.int .i64 what,.int .i64 v] w fun e w'=>e=.returned (.agg #[.string rom,.int .i64 2,.int .i64 bank,.string ram,.int .i64 rb,.bool (v%16 == 10),.int .i64 mode])/\∃ o1 o2 o3 o4 o5 o6,w'=((((((w.alloc o1).alloc o2).alloc o3).alloc o4).alloc o5).alloc o6):=by
 subst hw
 have a1:=as21
 have a2:=as22
 go_enter func295,ntmps295
 go_wp2_with first|(go_at_call 113;refine (mapperOf_2 _).mono ?_;rintro e w' ⟨rfl,rfl⟩)|(go_at_call 301;refine (askedFive_0 rom 2 bank ram rb on mode v _ v0 v1).mono ?_;rintro e w' ⟨rfl,p1,p2,p3,p4,rfl⟩)
 all_goals exact bodyPost_ret (v:=.agg #[.string rom,.int .i64 2,.int .i64 bank,.string ram,.int .i64 rb,.bool (v%16 == 10),.int .i64 mode]) (by simp [results,results295,go_sem]) rfl ⟨rfl,_,_,_,_,_,_,rfl⟩
theorem askedCart_21 (rom:ByteArray) (bank:Int) (ram:ByteArray) (rb:Int) (on:Bool) (mode:Int) (what:Int) (hw:what=1) (v:Int) (w:World) (v0:0<=v) (v1:v<=255) :
  Calls prog 295 #[.agg #[.string rom,.int .i64 2,.int .i64 bank,.string ram,.int .i64 rb,.bool on,.int .i64 mode],.int .i64 what,.int .i64 v] w fun e w'=>e=.returned (.agg #[.string rom,.int .i64 2,.int .i64 v,.string ram,.int .i64 rb,.bool on,.int .i64 mode])/\∃ o1 o2 o3 o4,w'=((((w.alloc o1).alloc o2).alloc o3).alloc o4):=by
 subst hw
 have a1:=as21
 have a2:=as22
 go_enter func295,ntmps295
 go_wp2_with first|(go_at_call 113;refine (mapperOf_2 _).mono ?_;rintro e w' ⟨rfl,rfl⟩)|(go_at_call 301;refine (askedFive_1 rom 2 bank ram rb on mode v _ v0 v1).mono ?_;rintro e w' ⟨rfl,p1,p2,rfl⟩)
 all_goals exact bodyPost_ret (v:=.agg #[.string rom,.int .i64 2,.int .i64 v,.string ram,.int .i64 rb,.bool on,.int .i64 mode]) (by simp [results,results295,go_sem]) rfl ⟨rfl,_,_,_,_,rfl⟩
theorem askedCart_22 (rom:ByteArray) (bank:Int) (ram:ByteArray) (rb:Int) (on:Bool) (mode:Int) (what:Int) (hw:what=2) (v:Int) (w:World) (v0:0<=v) (v1:v<=255) :
  Calls prog 295 #[.agg #[.string rom,.int .i64 2,.int .i64 bank,.string ram,.int .i64 rb,.bool on,.int .i64 mode],.int .i64 what,.int .i64 v] w fun e w'=>e=.returned (.agg #[.string rom,.int .i64 2,.int .i64 bank,.string ram,.int .i64 (v%4),.bool on,.int .i64 mode])/\∃ o1 o2 o3 o4 o5 o6,w'=((((((w.alloc o1).alloc o2).alloc o3).alloc o4).alloc o5).alloc o6):=by
 subst hw
 have a1:=as21
 have a2:=as22
 go_enter func295,ntmps295
 go_wp2_with first|(go_at_call 113;refine (mapperOf_2 _).mono ?_;rintro e w' ⟨rfl,rfl⟩)|(go_at_call 301;refine (askedFive_2 rom 2 bank ram rb on mode v _ v0 v1).mono ?_;rintro e w' ⟨rfl,p1,p2,p3,p4,rfl⟩)
 all_goals exact bodyPost_ret (v:=.agg #[.string rom,.int .i64 2,.int .i64 bank,.string ram,.int .i64 (v%4),.bool on,.int .i64 mode]) (by simp [results,results295,go_sem]) rfl ⟨rfl,_,_,_,_,_,_,rfl⟩
theorem askedCart_23 (rom:ByteArray) (bank:Int) (ram:ByteArray) (rb:Int) (on:Bool) (mode:Int) (what:Int) (hw:what=3) (v:Int) (w:World) (v0:0<=v) (v1:v<=255) :
  Calls prog 295 #[.agg #[.string rom,.int .i64 2,.int .i64 bank,.string ram,.int .i64 rb,.bool on,.int .i64 mode],.int .i64 what,.int .i64 v] w fun e w'=>e=.returned (.agg #[.string rom,.int .i64 2,.int .i64 bank,.string ram,.int .i64 rb,.bool on,.int .i64 mode])/\∃ o1 o2 o3 o4 o5 o6,w'=((((((w.alloc o1).alloc o2).alloc o3).alloc o4).alloc o5).alloc o6):=by
 subst hw
 have a1:=as21
 have a2:=as22
 go_enter func295,ntmps295
 go_wp2_with first|(go_at_call 113;refine (mapperOf_2 _).mono ?_;rintro e w' ⟨rfl,rfl⟩)|(go_at_call 301;refine (askedFive_3 rom 2 bank ram rb on mode v _ v0 v1).mono ?_;rintro e w' ⟨rfl,p1,p2,p3,p4,rfl⟩)
 all_goals exact bodyPost_ret (v:=.agg #[.string rom,.int .i64 2,.int .i64 bank,.string ram,.int .i64 rb,.bool on,.int .i64 mode]) (by simp [results,results295,go_sem]) rfl ⟨rfl,_,_,_,_,_,_,rfl⟩
theorem written_0 (rom:ByteArray) (bank:Int) (ram:ByteArray) (rb:Int) (on:Bool) (mode:Int) (addr v:Int) (w:World) (v0:0<=v) (v1:v<=255) (a0:0<=addr) (a1:addr<512) :
  Calls prog 274 #[.agg #[.string rom,.int .i64 0,.int .i64 bank,.string ram,.int .i64 rb,.bool on,.int .i64 mode],.int .i64 addr,.int .i64 v] w fun e w'=>e=.returned (.agg #[.string rom,.int .i64 0,.int .i64 bank,.string ram,.int .i64 rb,.bool on,.int .i64 mode])/\∃ o1 o2 o3 o4,w'=((((w.alloc o1).alloc o2).alloc o3).alloc o4):=by
 have c:=fun w=>askedCart_0 rom bank ram rb on mode (addr / 128) v w v0 v1
 go_enter func274,ntmps274
 go_wp2_with (go_at_call 295;refine (c _).mono ?_;rintro e w' ⟨rfl,p1,p2,rfl⟩)
 all_goals exact bodyPost_ret (v:=.agg #[.string rom,.int .i64 0,.int .i64 bank,.string ram,.int .i64 rb,.bool on,.int .i64 mode]) (by simp [results,results274,go_sem]) rfl ⟨rfl,_,_,_,_,rfl⟩
theorem written_10 (rom:ByteArray) (bank:Int) (ram:ByteArray) (rb:Int) (on:Bool) (mode:Int) (addr v:Int) (w:World) (v0:0<=v) (v1:v<=255) (a0:0<=addr) (a1:addr<128) :
  Calls prog 274 #[.agg #[.string rom,.int .i64 1,.int .i64 bank,.string ram,.int .i64 rb,.bool on,.int .i64 mode],.int .i64 addr,.int .i64 v] w fun e w'=>e=.returned (.agg #[.string rom,.int .i64 1,.int .i64 bank,.string ram,.int .i64 rb,.bool (v%16 == 10),.int .i64 mode])/\∃ o1 o2 o3 o4 o5 o6 o7 o8,w'=((((((((w.alloc o1).alloc o2).alloc o3).alloc o4).alloc o5).alloc o6).alloc o7).alloc o8):=by
 have c:=fun w=>askedCart_10 rom bank ram rb on mode (addr / 128) (by omega) v w v0 v1
 go_enter func274,ntmps274
 go_wp2_with (go_at_call 295;refine (c _).mono ?_;rintro e w' ⟨rfl,p1,p2,p3,p4,p5,p6,rfl⟩)
 all_goals exact bodyPost_ret (v:=.agg #[.string rom,.int .i64 1,.int .i64 bank,.string ram,.int .i64 rb,.bool (v%16 == 10),.int .i64 mode]) (by simp [results,results274,go_sem]) rfl ⟨rfl,_,_,_,_,_,_,_,_,rfl⟩
theorem written_11 (rom:ByteArray) (bank:Int) (ram:ByteArray) (rb:Int) (on:Bool) (mode:Int) (addr v:Int) (w:World) (v0:0<=v) (v1:v<=255) (a0:128<=addr) (a1:addr<256) :
  Calls prog 274 #[.agg #[.string rom,.int .i64 1,.int .i64 bank,.string ram,.int .i64 rb,.bool on,.int .i64 mode],.int .i64 addr,.int .i64 v] w fun e w'=>e=.returned (.agg #[.string rom,.int .i64 1,.int .i64 (bank1 v),.string ram,.int .i64 rb,.bool on,.int .i64 mode])/\∃ o1 o2 o3 o4 o5 o6,w'=((((((w.alloc o1).alloc o2).alloc o3).alloc o4).alloc o5).alloc o6):=by
 have c:=fun w=>askedCart_11 rom bank ram rb on mode (addr / 128) (by omega) v w v0 v1
 go_enter func274,ntmps274
 go_wp2_with (go_at_call 295;refine (c _).mono ?_;rintro e w' ⟨rfl,p1,p2,p3,p4,rfl⟩)
 all_goals exact bodyPost_ret (v:=.agg #[.string rom,.int .i64 1,.int .i64 (bank1 v),.string ram,.int .i64 rb,.bool on,.int .i64 mode]) (by simp [results,results274,go_sem]) rfl ⟨rfl,_,_,_,_,_,_,rfl⟩
theorem written_12 (rom:ByteArray) (bank:Int) (ram:ByteArray) (rb:Int) (on:Bool) (mode:Int) (addr v:Int) (w:World) (v0:0<=v) (v1:v<=255) (a0:256<=addr) (a1:addr<384) :
  Calls prog 274 #[.agg #[.string rom,.int .i64 1,.int .i64 bank,.string ram,.int .i64 rb,.bool on,.int .i64 mode],.int .i64 addr,.int .i64 v] w fun e w'=>e=.returned (.agg #[.string rom,.int .i64 1,.int .i64 bank,.string ram,.int .i64 (v%4),.bool on,.int .i64 mode])/\∃ o1 o2 o3 o4 o5 o6 o7 o8,w'=((((((((w.alloc o1).alloc o2).alloc o3).alloc o4).alloc o5).alloc o6).alloc o7).alloc o8):=by
 have c:=fun w=>askedCart_12 rom bank ram rb on mode (addr / 128) (by omega) v w v0 v1
 go_enter func274,ntmps274
 go_wp2_with (go_at_call 295;refine (c _).mono ?_;rintro e w' ⟨rfl,p1,p2,p3,p4,p5,p6,rfl⟩)
 all_goals exact bodyPost_ret (v:=.agg #[.string rom,.int .i64 1,.int .i64 bank,.string ram,.int .i64 (v%4),.bool on,.int .i64 mode]) (by simp [results,results274,go_sem]) rfl ⟨rfl,_,_,_,_,_,_,_,_,rfl⟩
theorem written_13 (rom:ByteArray) (bank:Int) (ram:ByteArray) (rb:Int) (on:Bool) (mode:Int) (addr v:Int) (w:World) (v0:0<=v) (v1:v<=255) (a0:384<=addr) (a1:addr<512) :
  Calls prog 274 #[.agg #[.string rom,.int .i64 1,.int .i64 bank,.string ram,.int .i64 rb,.bool on,.int .i64 mode],.int .i64 addr,.int .i64 v] w fun e w'=>e=.returned (.agg #[.string rom,.int .i64 1,.int .i64 bank,.string ram,.int .i64 rb,.bool on,.int .i64 (v%2)])/\∃ o1 o2 o3 o4 o5 o6,w'=((((((w.alloc o1).alloc o2).alloc o3).alloc o4).alloc o5).alloc o6):=by
 have c:=fun w=>askedCart_13 rom bank ram rb on mode (addr / 128) (by omega) v w v0 v1
 go_enter func274,ntmps274
 go_wp2_with (go_at_call 295;refine (c _).mono ?_;rintro e w' ⟨rfl,p1,p2,p3,p4,rfl⟩)
 all_goals exact bodyPost_ret (v:=.agg #[.string rom,.int .i64 1,.int .i64 bank,.string ram,.int .i64 rb,.bool on,.int .i64 (v%2)]) (by simp [results,results274,go_sem]) rfl ⟨rfl,_,_,_,_,_,_,rfl⟩
theorem written_20 (rom:ByteArray) (bank:Int) (ram:ByteArray) (rb:Int) (on:Bool) (mode:Int) (addr v:Int) (w:World) (v0:0<=v) (v1:v<=255) (a0:0<=addr) (a1:addr<128) :
  Calls prog 274 #[.agg #[.string rom,.int .i64 2,.int .i64 bank,.string ram,.int .i64 rb,.bool on,.int .i64 mode],.int .i64 addr,.int .i64 v] w fun e w'=>e=.returned (.agg #[.string rom,.int .i64 2,.int .i64 bank,.string ram,.int .i64 rb,.bool (v%16 == 10),.int .i64 mode])/\∃ o1 o2 o3 o4 o5 o6 o7 o8,w'=((((((((w.alloc o1).alloc o2).alloc o3).alloc o4).alloc o5).alloc o6).alloc o7).alloc o8):=by
 have c:=fun w=>askedCart_20 rom bank ram rb on mode (addr / 128) (by omega) v w v0 v1
 go_enter func274,ntmps274
 go_wp2_with (go_at_call 295;refine (c _).mono ?_;rintro e w' ⟨rfl,p1,p2,p3,p4,p5,p6,rfl⟩)
 all_goals exact bodyPost_ret (v:=.agg #[.string rom,.int .i64 2,.int .i64 bank,.string ram,.int .i64 rb,.bool (v%16 == 10),.int .i64 mode]) (by simp [results,results274,go_sem]) rfl ⟨rfl,_,_,_,_,_,_,_,_,rfl⟩
theorem written_21 (rom:ByteArray) (bank:Int) (ram:ByteArray) (rb:Int) (on:Bool) (mode:Int) (addr v:Int) (w:World) (v0:0<=v) (v1:v<=255) (a0:128<=addr) (a1:addr<256) :
  Calls prog 274 #[.agg #[.string rom,.int .i64 2,.int .i64 bank,.string ram,.int .i64 rb,.bool on,.int .i64 mode],.int .i64 addr,.int .i64 v] w fun e w'=>e=.returned (.agg #[.string rom,.int .i64 2,.int .i64 v,.string ram,.int .i64 rb,.bool on,.int .i64 mode])/\∃ o1 o2 o3 o4 o5 o6,w'=((((((w.alloc o1).alloc o2).alloc o3).alloc o4).alloc o5).alloc o6):=by
 have c:=fun w=>askedCart_21 rom bank ram rb on mode (addr / 128) (by omega) v w v0 v1
 go_enter func274,ntmps274
 go_wp2_with (go_at_call 295;refine (c _).mono ?_;rintro e w' ⟨rfl,p1,p2,p3,p4,rfl⟩)
 all_goals exact bodyPost_ret (v:=.agg #[.string rom,.int .i64 2,.int .i64 v,.string ram,.int .i64 rb,.bool on,.int .i64 mode]) (by simp [results,results274,go_sem]) rfl ⟨rfl,_,_,_,_,_,_,rfl⟩
theorem written_22 (rom:ByteArray) (bank:Int) (ram:ByteArray) (rb:Int) (on:Bool) (mode:Int) (addr v:Int) (w:World) (v0:0<=v) (v1:v<=255) (a0:256<=addr) (a1:addr<384) :
  Calls prog 274 #[.agg #[.string rom,.int .i64 2,.int .i64 bank,.string ram,.int .i64 rb,.bool on,.int .i64 mode],.int .i64 addr,.int .i64 v] w fun e w'=>e=.returned (.agg #[.string rom,.int .i64 2,.int .i64 bank,.string ram,.int .i64 (v%4),.bool on,.int .i64 mode])/\∃ o1 o2 o3 o4 o5 o6 o7 o8,w'=((((((((w.alloc o1).alloc o2).alloc o3).alloc o4).alloc o5).alloc o6).alloc o7).alloc o8):=by
 have c:=fun w=>askedCart_22 rom bank ram rb on mode (addr / 128) (by omega) v w v0 v1
 go_enter func274,ntmps274
 go_wp2_with (go_at_call 295;refine (c _).mono ?_;rintro e w' ⟨rfl,p1,p2,p3,p4,p5,p6,rfl⟩)
 all_goals exact bodyPost_ret (v:=.agg #[.string rom,.int .i64 2,.int .i64 bank,.string ram,.int .i64 (v%4),.bool on,.int .i64 mode]) (by simp [results,results274,go_sem]) rfl ⟨rfl,_,_,_,_,_,_,_,_,rfl⟩
theorem written_23 (rom:ByteArray) (bank:Int) (ram:ByteArray) (rb:Int) (on:Bool) (mode:Int) (addr v:Int) (w:World) (v0:0<=v) (v1:v<=255) (a0:384<=addr) (a1:addr<512) :
  Calls prog 274 #[.agg #[.string rom,.int .i64 2,.int .i64 bank,.string ram,.int .i64 rb,.bool on,.int .i64 mode],.int .i64 addr,.int .i64 v] w fun e w'=>e=.returned (.agg #[.string rom,.int .i64 2,.int .i64 bank,.string ram,.int .i64 rb,.bool on,.int .i64 mode])/\∃ o1 o2 o3 o4 o5 o6 o7 o8,w'=((((((((w.alloc o1).alloc o2).alloc o3).alloc o4).alloc o5).alloc o6).alloc o7).alloc o8):=by
 have c:=fun w=>askedCart_23 rom bank ram rb on mode (addr / 128) (by omega) v w v0 v1
 go_enter func274,ntmps274
 go_wp2_with (go_at_call 295;refine (c _).mono ?_;rintro e w' ⟨rfl,p1,p2,p3,p4,p5,p6,rfl⟩)
 all_goals exact bodyPost_ret (v:=.agg #[.string rom,.int .i64 2,.int .i64 bank,.string ram,.int .i64 rb,.bool on,.int .i64 mode]) (by simp [results,results274,go_sem]) rfl ⟨rfl,_,_,_,_,_,_,_,_,rfl⟩
theorem written_no (rom:ByteArray) (kind bank:Int) (ram:ByteArray) (rb:Int) (on:Bool) (mode:Int) (addr v:Int) (w:World) (v0:0<=v) (v1:v<=255) (a0:512<=addr) (h:on=false \/ addr<40960 \/ 41024<=addr) :
  Calls prog 274 #[.agg #[.string rom,.int .i64 kind,.int .i64 bank,.string ram,.int .i64 rb,.bool on,.int .i64 mode],.int .i64 addr,.int .i64 v] w fun e w'=>e=.returned (.agg #[.string rom,.int .i64 kind,.int .i64 bank,.string ram,.int .i64 rb,.bool on,.int .i64 mode])/\∃ o1 o2 o3,w'=(((w.alloc o1).alloc o2).alloc o3):=by
 have c:=fun w=>place_no rom kind bank ram rb on mode addr w h
 clear h
 go_enter func274,ntmps274
 go_wp2_with (go_at_call 238;refine (c _).mono ?_;rintro e w' ⟨rfl,rfl⟩)
 all_goals exact bodyPost_ret (v:=.agg #[.string rom,.int .i64 kind,.int .i64 bank,.string ram,.int .i64 rb,.bool on,.int .i64 mode]) (by simp [results,results274,go_sem]) rfl ⟨rfl,_,_,_,rfl⟩
theorem written_yes (rom:ByteArray) (kind bank:Int) (ram:ByteArray) (rb:Int) (mode:Int) (addr v r:Int) (w:World) (v0:0<=v) (v1:v<=255) (sr:ram.size=256) (h0:0<=rb) (h1:rb<=3) (m0:0<=mode) (m1:mode<=1) (hk:kind=1 \/ kind=2) (a0:40960<=addr) (a1:addr<41024) (hr:ramQ kind rb mode=r) :
  Calls prog 274 #[.agg #[.string rom,.int .i64 kind,.int .i64 bank,.string ram,.int .i64 rb,.bool true,.int .i64 mode],.int .i64 addr,.int .i64 v] w fun e w'=>e=.returned (.agg #[.string rom,.int .i64 kind,.int .i64 bank,.string (putB ram (r*64+addr-40960) v),.int .i64 rb,.bool true,.int .i64 mode])/\∃ o1 o2 o3 o4 o5,w'=((((w.alloc o1).alloc o2).alloc o3).alloc o4).drew.alloc o5:=by
 have c:=fun w=>place_yes rom kind bank ram rb mode addr w h0 h1 m0 m1 hk a0 a1 r hr
 obtain ⟨r0,r1⟩:=ramQ_bd (kind:=kind) (mode:=mode) h0 h1
 rw [hr] at r0 r1
 clear hr hk h0 h1 m0 m1
 have c2:=fun w=>put_impl ram 256 sr (by decide) (r*64+addr-40960) v (by omega) (by omega) v0 v1 w
 have i0:0<=r*64+addr-40960:=by omega
 clear sr
 go_enter func274,ntmps274
 go_wp2_with first|(go_at_call 238;refine (c _).mono ?_;rintro e w' ⟨rfl,rfl⟩)|(go_at_call 273;refine (c2 _).mono ?_;rintro e w' ⟨rfl,p1,rfl⟩)
 all_goals exact bodyPost_ret (v:=.agg #[.string rom,.int .i64 kind,.int .i64 bank,.string (putB ram (r*64+addr-40960) v),.int .i64 rb,.bool true,.int .i64 mode]) (by simp [results,results274,go_sem]) rfl ⟨rfl,_,_,_,_,_,rfl⟩
end CartW
end Go.Proofs.YteglcgnhhoenbaaGreatDoor
