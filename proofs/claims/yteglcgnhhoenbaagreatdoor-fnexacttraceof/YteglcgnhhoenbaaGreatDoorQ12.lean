import Derived.Test.YteglcgnhhoenbaaGreatDoorQ11
set_option linter.all false
set_option maxRecDepth 20000
set_option maxHeartbeats 8000000
open Go.ChangeShapes Go.WideShapes Go.ChangeAt Go.RowKit
open Go.Proofs.Tryz
namespace Go.Proofs.YteglcgnhhoenbaaGreatDoor
namespace CartW
open Go.Deep
open Signed (inB aG aB aC aE)
open Carts CartK CartL CartM CartP CartR
def jX (v:Int):Int:=if v%32<1 then 1 else v%32
theorem qS (rom:ByteArray) (kind bank:Int) (ram:ByteArray) (rb:Int) (on:Bool) (mode:Int) (v:Int) (w:World) (v0:0<=v) (v1:v<=255) :
  Calls prog 302 #[.agg #[.string rom,.int .i64 kind,.int .i64 bank,.string ram,.int .i64 rb,.bool on,.int .i64 mode],.int .i64 0,.int .i64 v] w fun e w'=>e=.returned (.agg #[.string rom,.int .i64 kind,.int .i64 bank,.string ram,.int .i64 rb,.bool (v%16 == 10),.int .i64 mode])/\∃ o1 o2,w'=((w.alloc o1).alloc o2):=by
 go_enter func302,ntmps302
 go_wp2
 all_goals exact bodyPost_ret (v:=.agg #[.string rom,.int .i64 kind,.int .i64 bank,.string ram,.int .i64 rb,.bool (v%16 == 10),.int .i64 mode]) (by simp [results,results302,go_sem]) rfl ⟨rfl,_,_,rfl⟩
theorem qT (rom:ByteArray) (kind bank:Int) (ram:ByteArray) (rb:Int) (on:Bool) (mode:Int) (v:Int) (w:World) (v0:0<=v) (v1:v<=255) :
  Calls prog 302 #[.agg #[.string rom,.int .i64 kind,.int .i64 bank,.string ram,.int .i64 rb,.bool on,.int .i64 mode],.int .i64 2,.int .i64 v] w fun e w'=>e=.returned (.agg #[.string rom,.int .i64 kind,.int .i64 bank,.string ram,.int .i64 (v%4),.bool on,.int .i64 mode])/\∃ o1 o2,w'=((w.alloc o1).alloc o2):=by
 go_enter func302,ntmps302
 go_wp2
 all_goals exact bodyPost_ret (v:=.agg #[.string rom,.int .i64 kind,.int .i64 bank,.string ram,.int .i64 (v%4),.bool on,.int .i64 mode]) (by simp [results,results302,go_sem]) rfl ⟨rfl,_,_,rfl⟩
theorem aAY (rom:ByteArray) (kind bank:Int) (ram:ByteArray) (rb:Int) (on:Bool) (mode:Int) (v:Int) (w:World) (v0:0<=v) (v1:v<=255) :
  Calls prog 302 #[.agg #[.string rom,.int .i64 kind,.int .i64 bank,.string ram,.int .i64 rb,.bool on,.int .i64 mode],.int .i64 3,.int .i64 v] w fun e w'=>e=.returned (.agg #[.string rom,.int .i64 kind,.int .i64 bank,.string ram,.int .i64 rb,.bool on,.int .i64 mode])/\∃ o1 o2,w'=((w.alloc o1).alloc o2):=by
 go_enter func302,ntmps302
 go_wp2
 all_goals exact bodyPost_ret (v:=.agg #[.string rom,.int .i64 kind,.int .i64 bank,.string ram,.int .i64 rb,.bool on,.int .i64 mode]) (by simp [results,results302,go_sem]) rfl ⟨rfl,_,_,rfl⟩
theorem aAZ (rom:ByteArray) (kind bank:Int) (ram:ByteArray) (rb:Int) (on:Bool) (mode:Int) (v:Int) (w:World) (v0:0<=v) (v1:v<=255) :
  Calls prog 300 #[.agg #[.string rom,.int .i64 kind,.int .i64 bank,.string ram,.int .i64 rb,.bool on,.int .i64 mode],.int .i64 0,.int .i64 v] w fun e w'=>e=.returned (.agg #[.string rom,.int .i64 kind,.int .i64 bank,.string ram,.int .i64 rb,.bool (v%16 == 10),.int .i64 mode])/\∃ o1 o2 o3 o4,w'=((((w.alloc o1).alloc o2).alloc o3).alloc o4):=by
 go_enter func300,ntmps300
 go_wp2_with (go_at_call 302;refine (qS rom kind bank ram rb on mode v _ v0 v1).mono ?_;rintro e w' ⟨rfl,p1,p2,rfl⟩)
 all_goals exact bodyPost_ret (v:=.agg #[.string rom,.int .i64 kind,.int .i64 bank,.string ram,.int .i64 rb,.bool (v%16 == 10),.int .i64 mode]) (by simp [results,results300,go_sem]) rfl ⟨rfl,_,_,_,_,rfl⟩
theorem xG (rom:ByteArray) (kind bank:Int) (ram:ByteArray) (rb:Int) (on:Bool) (mode:Int) (v:Int) (w:World) (v0:0<=v) (v1:v<=255) :
  Calls prog 301 #[.agg #[.string rom,.int .i64 kind,.int .i64 bank,.string ram,.int .i64 rb,.bool on,.int .i64 mode],.int .i64 0,.int .i64 v] w fun e w'=>e=.returned (.agg #[.string rom,.int .i64 kind,.int .i64 bank,.string ram,.int .i64 rb,.bool (v%16 == 10),.int .i64 mode])/\∃ o1 o2 o3 o4,w'=((((w.alloc o1).alloc o2).alloc o3).alloc o4):=by
 go_enter func301,ntmps301
 go_wp2_with (go_at_call 302;refine (qS rom kind bank ram rb on mode v _ v0 v1).mono ?_;rintro e w' ⟨rfl,p1,p2,rfl⟩)
 all_goals exact bodyPost_ret (v:=.agg #[.string rom,.int .i64 kind,.int .i64 bank,.string ram,.int .i64 rb,.bool (v%16 == 10),.int .i64 mode]) (by simp [results,results301,go_sem]) rfl ⟨rfl,_,_,_,_,rfl⟩
theorem aBA (rom:ByteArray) (kind bank:Int) (ram:ByteArray) (rb:Int) (on:Bool) (mode:Int) (v:Int) (w:World) (v0:0<=v) (v1:v<=255) :
  Calls prog 300 #[.agg #[.string rom,.int .i64 kind,.int .i64 bank,.string ram,.int .i64 rb,.bool on,.int .i64 mode],.int .i64 1,.int .i64 v] w fun e w'=>e=.returned (.agg #[.string rom,.int .i64 kind,.int .i64 (jX v),.string ram,.int .i64 rb,.bool on,.int .i64 mode])/\∃ o1 o2,w'=((w.alloc o1).alloc o2):=by
 go_enter func300,ntmps300
 go_wp2
 all_goals exact bodyPost_ret (v:=.agg #[.string rom,.int .i64 kind,.int .i64 (jX v),.string ram,.int .i64 rb,.bool on,.int .i64 mode]) (by simp [results,results300,jX,go_sem];try omega) rfl ⟨rfl,_,_,rfl⟩
theorem xH (rom:ByteArray) (kind bank:Int) (ram:ByteArray) (rb:Int) (on:Bool) (mode:Int) (v:Int) (w:World) (v0:0<=v) (v1:v<=255) :
  Calls prog 301 #[.agg #[.string rom,.int .i64 kind,.int .i64 bank,.string ram,.int .i64 rb,.bool on,.int .i64 mode],.int .i64 1,.int .i64 v] w fun e w'=>e=.returned (.agg #[.string rom,.int .i64 kind,.int .i64 v,.string ram,.int .i64 rb,.bool on,.int .i64 mode])/\∃ o1 o2,w'=((w.alloc o1).alloc o2):=by
 go_enter func301,ntmps301
 go_wp2
 all_goals exact bodyPost_ret (v:=.agg #[.string rom,.int .i64 kind,.int .i64 v,.string ram,.int .i64 rb,.bool on,.int .i64 mode]) (by simp [results,results301,go_sem]) rfl ⟨rfl,_,_,rfl⟩
theorem aBB (rom:ByteArray) (kind bank:Int) (ram:ByteArray) (rb:Int) (on:Bool) (mode:Int) (v:Int) (w:World) (v0:0<=v) (v1:v<=255) :
  Calls prog 300 #[.agg #[.string rom,.int .i64 kind,.int .i64 bank,.string ram,.int .i64 rb,.bool on,.int .i64 mode],.int .i64 2,.int .i64 v] w fun e w'=>e=.returned (.agg #[.string rom,.int .i64 kind,.int .i64 bank,.string ram,.int .i64 (v%4),.bool on,.int .i64 mode])/\∃ o1 o2 o3 o4,w'=((((w.alloc o1).alloc o2).alloc o3).alloc o4):=by
 go_enter func300,ntmps300
 go_wp2_with (go_at_call 302;refine (qT rom kind bank ram rb on mode v _ v0 v1).mono ?_;rintro e w' ⟨rfl,p1,p2,rfl⟩)
 all_goals exact bodyPost_ret (v:=.agg #[.string rom,.int .i64 kind,.int .i64 bank,.string ram,.int .i64 (v%4),.bool on,.int .i64 mode]) (by simp [results,results300,go_sem]) rfl ⟨rfl,_,_,_,_,rfl⟩
theorem xJ (rom:ByteArray) (kind bank:Int) (ram:ByteArray) (rb:Int) (on:Bool) (mode:Int) (v:Int) (w:World) (v0:0<=v) (v1:v<=255) :
  Calls prog 301 #[.agg #[.string rom,.int .i64 kind,.int .i64 bank,.string ram,.int .i64 rb,.bool on,.int .i64 mode],.int .i64 2,.int .i64 v] w fun e w'=>e=.returned (.agg #[.string rom,.int .i64 kind,.int .i64 bank,.string ram,.int .i64 (v%4),.bool on,.int .i64 mode])/\∃ o1 o2 o3 o4,w'=((((w.alloc o1).alloc o2).alloc o3).alloc o4):=by
 go_enter func301,ntmps301
 go_wp2_with (go_at_call 302;refine (qT rom kind bank ram rb on mode v _ v0 v1).mono ?_;rintro e w' ⟨rfl,p1,p2,rfl⟩)
 all_goals exact bodyPost_ret (v:=.agg #[.string rom,.int .i64 kind,.int .i64 bank,.string ram,.int .i64 (v%4),.bool on,.int .i64 mode]) (by simp [results,results301,go_sem]) rfl ⟨rfl,_,_,_,_,rfl⟩
theorem aBC (rom:ByteArray) (kind bank:Int) (ram:ByteArray) (rb:Int) (on:Bool) (mode:Int) (v:Int) (w:World) (v0:0<=v) (v1:v<=255) :
  Calls prog 300 #[.agg #[.string rom,.int .i64 kind,.int .i64 bank,.string ram,.int .i64 rb,.bool on,.int .i64 mode],.int .i64 3,.int .i64 v] w fun e w'=>e=.returned (.agg #[.string rom,.int .i64 kind,.int .i64 bank,.string ram,.int .i64 rb,.bool on,.int .i64 (v%2)])/\∃ o1 o2,w'=((w.alloc o1).alloc o2):=by
 go_enter func300,ntmps300
 go_wp2
 all_goals exact bodyPost_ret (v:=.agg #[.string rom,.int .i64 kind,.int .i64 bank,.string ram,.int .i64 rb,.bool on,.int .i64 (v%2)]) (by simp [results,results300,go_sem]) rfl ⟨rfl,_,_,rfl⟩
theorem xK (rom:ByteArray) (kind bank:Int) (ram:ByteArray) (rb:Int) (on:Bool) (mode:Int) (v:Int) (w:World) (v0:0<=v) (v1:v<=255) :
  Calls prog 301 #[.agg #[.string rom,.int .i64 kind,.int .i64 bank,.string ram,.int .i64 rb,.bool on,.int .i64 mode],.int .i64 3,.int .i64 v] w fun e w'=>e=.returned (.agg #[.string rom,.int .i64 kind,.int .i64 bank,.string ram,.int .i64 rb,.bool on,.int .i64 mode])/\∃ o1 o2 o3 o4,w'=((((w.alloc o1).alloc o2).alloc o3).alloc o4):=by
 go_enter func301,ntmps301
 go_wp2_with (go_at_call 302;refine (aAY rom kind bank ram rb on mode v _ v0 v1).mono ?_;rintro e w' ⟨rfl,p1,p2,rfl⟩)
 all_goals exact bodyPost_ret (v:=.agg #[.string rom,.int .i64 kind,.int .i64 bank,.string ram,.int .i64 rb,.bool on,.int .i64 mode]) (by simp [results,results301,go_sem]) rfl ⟨rfl,_,_,_,_,rfl⟩
theorem xM (rom:ByteArray) (bank:Int) (ram:ByteArray) (rb:Int) (on:Bool) (mode:Int) (what:Int) (v:Int) (w:World) (v0:0<=v) (v1:v<=255) :
  Calls prog 295 #[.agg #[.string rom,.int .i64 0,.int .i64 bank,.string ram,.int .i64 rb,.bool on,.int .i64 mode],.int .i64 what,.int .i64 v] w fun e w'=>e=.returned (.agg #[.string rom,.int .i64 0,.int .i64 bank,.string ram,.int .i64 rb,.bool on,.int .i64 mode])/\∃ o1 o2,w'=((w.alloc o1).alloc o2):=by
 have a1:=bKZ;have a2:=bLA
 go_enter func295,ntmps295
 go_wp2_with (go_at_call 113;refine (qG _).mono ?_;rintro e w' ⟨rfl,rfl⟩)
 all_goals exact bodyPost_ret (v:=.agg #[.string rom,.int .i64 0,.int .i64 bank,.string ram,.int .i64 rb,.bool on,.int .i64 mode]) (by simp [results,results295,go_sem]) rfl ⟨rfl,_,_,rfl⟩
theorem uN (rom:ByteArray) (bank:Int) (ram:ByteArray) (rb:Int) (on:Bool) (mode:Int) (what:Int) (hw:what=0) (v:Int) (w:World) (v0:0<=v) (v1:v<=255) :
  Calls prog 295 #[.agg #[.string rom,.int .i64 1,.int .i64 bank,.string ram,.int .i64 rb,.bool on,.int .i64 mode],.int .i64 what,.int .i64 v] w fun e w'=>e=.returned (.agg #[.string rom,.int .i64 1,.int .i64 bank,.string ram,.int .i64 rb,.bool (v%16 == 10),.int .i64 mode])/\∃ o1 o2 o3 o4 o5 o6,w'=((((((w.alloc o1).alloc o2).alloc o3).alloc o4).alloc o5).alloc o6):=by
 subst hw;have a1:=aKJ;have a2:=aKK
 go_enter func295,ntmps295
 go_wp2_with first|(go_at_call 113;refine (fQ _).mono ?_;rintro e w' ⟨rfl,rfl⟩)|(go_at_call 300;refine (aAZ rom 1 bank ram rb on mode v _ v0 v1).mono ?_;rintro e w' ⟨rfl,p1,p2,p3,p4,rfl⟩)
 all_goals exact bodyPost_ret (v:=.agg #[.string rom,.int .i64 1,.int .i64 bank,.string ram,.int .i64 rb,.bool (v%16 == 10),.int .i64 mode]) (by simp [results,results295,go_sem]) rfl ⟨rfl,_,_,_,_,_,_,rfl⟩
theorem uO (rom:ByteArray) (bank:Int) (ram:ByteArray) (rb:Int) (on:Bool) (mode:Int) (what:Int) (hw:what=1) (v:Int) (w:World) (v0:0<=v) (v1:v<=255) :
  Calls prog 295 #[.agg #[.string rom,.int .i64 1,.int .i64 bank,.string ram,.int .i64 rb,.bool on,.int .i64 mode],.int .i64 what,.int .i64 v] w fun e w'=>e=.returned (.agg #[.string rom,.int .i64 1,.int .i64 (jX v),.string ram,.int .i64 rb,.bool on,.int .i64 mode])/\∃ o1 o2 o3 o4,w'=((((w.alloc o1).alloc o2).alloc o3).alloc o4):=by
 subst hw;have a1:=aKJ;have a2:=aKK
 go_enter func295,ntmps295
 go_wp2_with first|(go_at_call 113;refine (fQ _).mono ?_;rintro e w' ⟨rfl,rfl⟩)|(go_at_call 300;refine (aBA rom 1 bank ram rb on mode v _ v0 v1).mono ?_;rintro e w' ⟨rfl,p1,p2,rfl⟩)
 all_goals exact bodyPost_ret (v:=.agg #[.string rom,.int .i64 1,.int .i64 (jX v),.string ram,.int .i64 rb,.bool on,.int .i64 mode]) (by simp [results,results295,go_sem]) rfl ⟨rfl,_,_,_,_,rfl⟩
theorem uP (rom:ByteArray) (bank:Int) (ram:ByteArray) (rb:Int) (on:Bool) (mode:Int) (what:Int) (hw:what=2) (v:Int) (w:World) (v0:0<=v) (v1:v<=255) :
  Calls prog 295 #[.agg #[.string rom,.int .i64 1,.int .i64 bank,.string ram,.int .i64 rb,.bool on,.int .i64 mode],.int .i64 what,.int .i64 v] w fun e w'=>e=.returned (.agg #[.string rom,.int .i64 1,.int .i64 bank,.string ram,.int .i64 (v%4),.bool on,.int .i64 mode])/\∃ o1 o2 o3 o4 o5 o6,w'=((((((w.alloc o1).alloc o2).alloc o3).alloc o4).alloc o5).alloc o6):=by
 subst hw;have a1:=aKJ;have a2:=aKK
 go_enter func295,ntmps295
 go_wp2_with first|(go_at_call 113;refine (fQ _).mono ?_;rintro e w' ⟨rfl,rfl⟩)|(go_at_call 300;refine (aBB rom 1 bank ram rb on mode v _ v0 v1).mono ?_;rintro e w' ⟨rfl,p1,p2,p3,p4,rfl⟩)
 all_goals exact bodyPost_ret (v:=.agg #[.string rom,.int .i64 1,.int .i64 bank,.string ram,.int .i64 (v%4),.bool on,.int .i64 mode]) (by simp [results,results295,go_sem]) rfl ⟨rfl,_,_,_,_,_,_,rfl⟩
theorem uQ (rom:ByteArray) (bank:Int) (ram:ByteArray) (rb:Int) (on:Bool) (mode:Int) (what:Int) (hw:what=3) (v:Int) (w:World) (v0:0<=v) (v1:v<=255) :
  Calls prog 295 #[.agg #[.string rom,.int .i64 1,.int .i64 bank,.string ram,.int .i64 rb,.bool on,.int .i64 mode],.int .i64 what,.int .i64 v] w fun e w'=>e=.returned (.agg #[.string rom,.int .i64 1,.int .i64 bank,.string ram,.int .i64 rb,.bool on,.int .i64 (v%2)])/\∃ o1 o2 o3 o4,w'=((((w.alloc o1).alloc o2).alloc o3).alloc o4):=by
 subst hw;have a1:=aKJ;have a2:=aKK
 go_enter func295,ntmps295
 go_wp2_with first|(go_at_call 113;refine (fQ _).mono ?_;rintro e w' ⟨rfl,rfl⟩)|(go_at_call 300;refine (aBC rom 1 bank ram rb on mode v _ v0 v1).mono ?_;rintro e w' ⟨rfl,p1,p2,rfl⟩)
 all_goals exact bodyPost_ret (v:=.agg #[.string rom,.int .i64 1,.int .i64 bank,.string ram,.int .i64 rb,.bool on,.int .i64 (v%2)]) (by simp [results,results295,go_sem]) rfl ⟨rfl,_,_,_,_,rfl⟩
theorem uR (rom:ByteArray) (bank:Int) (ram:ByteArray) (rb:Int) (on:Bool) (mode:Int) (what:Int) (hw:what=0) (v:Int) (w:World) (v0:0<=v) (v1:v<=255) :
  Calls prog 295 #[.agg #[.string rom,.int .i64 2,.int .i64 bank,.string ram,.int .i64 rb,.bool on,.int .i64 mode],.int .i64 what,.int .i64 v] w fun e w'=>e=.returned (.agg #[.string rom,.int .i64 2,.int .i64 bank,.string ram,.int .i64 rb,.bool (v%16 == 10),.int .i64 mode])/\∃ o1 o2 o3 o4 o5 o6,w'=((((((w.alloc o1).alloc o2).alloc o3).alloc o4).alloc o5).alloc o6):=by
 subst hw;have a1:=aKL;have a2:=aKM
 go_enter func295,ntmps295
 go_wp2_with first|(go_at_call 113;refine (fR _).mono ?_;rintro e w' ⟨rfl,rfl⟩)|(go_at_call 301;refine (xG rom 2 bank ram rb on mode v _ v0 v1).mono ?_;rintro e w' ⟨rfl,p1,p2,p3,p4,rfl⟩)
 all_goals exact bodyPost_ret (v:=.agg #[.string rom,.int .i64 2,.int .i64 bank,.string ram,.int .i64 rb,.bool (v%16 == 10),.int .i64 mode]) (by simp [results,results295,go_sem]) rfl ⟨rfl,_,_,_,_,_,_,rfl⟩
theorem uT (rom:ByteArray) (bank:Int) (ram:ByteArray) (rb:Int) (on:Bool) (mode:Int) (what:Int) (hw:what=1) (v:Int) (w:World) (v0:0<=v) (v1:v<=255) :
  Calls prog 295 #[.agg #[.string rom,.int .i64 2,.int .i64 bank,.string ram,.int .i64 rb,.bool on,.int .i64 mode],.int .i64 what,.int .i64 v] w fun e w'=>e=.returned (.agg #[.string rom,.int .i64 2,.int .i64 v,.string ram,.int .i64 rb,.bool on,.int .i64 mode])/\∃ o1 o2 o3 o4,w'=((((w.alloc o1).alloc o2).alloc o3).alloc o4):=by
 subst hw;have a1:=aKL;have a2:=aKM
 go_enter func295,ntmps295
 go_wp2_with first|(go_at_call 113;refine (fR _).mono ?_;rintro e w' ⟨rfl,rfl⟩)|(go_at_call 301;refine (xH rom 2 bank ram rb on mode v _ v0 v1).mono ?_;rintro e w' ⟨rfl,p1,p2,rfl⟩)
 all_goals exact bodyPost_ret (v:=.agg #[.string rom,.int .i64 2,.int .i64 v,.string ram,.int .i64 rb,.bool on,.int .i64 mode]) (by simp [results,results295,go_sem]) rfl ⟨rfl,_,_,_,_,rfl⟩
theorem uU (rom:ByteArray) (bank:Int) (ram:ByteArray) (rb:Int) (on:Bool) (mode:Int) (what:Int) (hw:what=2) (v:Int) (w:World) (v0:0<=v) (v1:v<=255) :
  Calls prog 295 #[.agg #[.string rom,.int .i64 2,.int .i64 bank,.string ram,.int .i64 rb,.bool on,.int .i64 mode],.int .i64 what,.int .i64 v] w fun e w'=>e=.returned (.agg #[.string rom,.int .i64 2,.int .i64 bank,.string ram,.int .i64 (v%4),.bool on,.int .i64 mode])/\∃ o1 o2 o3 o4 o5 o6,w'=((((((w.alloc o1).alloc o2).alloc o3).alloc o4).alloc o5).alloc o6):=by
 subst hw;have a1:=aKL;have a2:=aKM
 go_enter func295,ntmps295
 go_wp2_with first|(go_at_call 113;refine (fR _).mono ?_;rintro e w' ⟨rfl,rfl⟩)|(go_at_call 301;refine (xJ rom 2 bank ram rb on mode v _ v0 v1).mono ?_;rintro e w' ⟨rfl,p1,p2,p3,p4,rfl⟩)
 all_goals exact bodyPost_ret (v:=.agg #[.string rom,.int .i64 2,.int .i64 bank,.string ram,.int .i64 (v%4),.bool on,.int .i64 mode]) (by simp [results,results295,go_sem]) rfl ⟨rfl,_,_,_,_,_,_,rfl⟩
theorem uV (rom:ByteArray) (bank:Int) (ram:ByteArray) (rb:Int) (on:Bool) (mode:Int) (what:Int) (hw:what=3) (v:Int) (w:World) (v0:0<=v) (v1:v<=255) :
  Calls prog 295 #[.agg #[.string rom,.int .i64 2,.int .i64 bank,.string ram,.int .i64 rb,.bool on,.int .i64 mode],.int .i64 what,.int .i64 v] w fun e w'=>e=.returned (.agg #[.string rom,.int .i64 2,.int .i64 bank,.string ram,.int .i64 rb,.bool on,.int .i64 mode])/\∃ o1 o2 o3 o4 o5 o6,w'=((((((w.alloc o1).alloc o2).alloc o3).alloc o4).alloc o5).alloc o6):=by
 subst hw;have a1:=aKL;have a2:=aKM
 go_enter func295,ntmps295
 go_wp2_with first|(go_at_call 113;refine (fR _).mono ?_;rintro e w' ⟨rfl,rfl⟩)|(go_at_call 301;refine (xK rom 2 bank ram rb on mode v _ v0 v1).mono ?_;rintro e w' ⟨rfl,p1,p2,p3,p4,rfl⟩)
 all_goals exact bodyPost_ret (v:=.agg #[.string rom,.int .i64 2,.int .i64 bank,.string ram,.int .i64 rb,.bool on,.int .i64 mode]) (by simp [results,results295,go_sem]) rfl ⟨rfl,_,_,_,_,_,_,rfl⟩
theorem aGO (rom:ByteArray) (bank:Int) (ram:ByteArray) (rb:Int) (on:Bool) (mode:Int) (addr v:Int) (w:World) (v0:0<=v) (v1:v<=255) (a0:0<=addr) (a1:addr<512) :
  Calls prog 274 #[.agg #[.string rom,.int .i64 0,.int .i64 bank,.string ram,.int .i64 rb,.bool on,.int .i64 mode],.int .i64 addr,.int .i64 v] w fun e w'=>e=.returned (.agg #[.string rom,.int .i64 0,.int .i64 bank,.string ram,.int .i64 rb,.bool on,.int .i64 mode])/\∃ o1 o2 o3 o4,w'=((((w.alloc o1).alloc o2).alloc o3).alloc o4):=by
 have c:=fun w=>xM rom bank ram rb on mode (addr / 128) v w v0 v1
 go_enter func274,ntmps274
 go_wp2_with (go_at_call 295;refine (c _).mono ?_;rintro e w' ⟨rfl,p1,p2,rfl⟩)
 all_goals exact bodyPost_ret (v:=.agg #[.string rom,.int .i64 0,.int .i64 bank,.string ram,.int .i64 rb,.bool on,.int .i64 mode]) (by simp [results,results274,go_sem]) rfl ⟨rfl,_,_,_,_,rfl⟩
theorem aBD (rom:ByteArray) (bank:Int) (ram:ByteArray) (rb:Int) (on:Bool) (mode:Int) (addr v:Int) (w:World) (v0:0<=v) (v1:v<=255) (a0:0<=addr) (a1:addr<128) :
  Calls prog 274 #[.agg #[.string rom,.int .i64 1,.int .i64 bank,.string ram,.int .i64 rb,.bool on,.int .i64 mode],.int .i64 addr,.int .i64 v] w fun e w'=>e=.returned (.agg #[.string rom,.int .i64 1,.int .i64 bank,.string ram,.int .i64 rb,.bool (v%16 == 10),.int .i64 mode])/\∃ o1 o2 o3 o4 o5 o6 o7 o8,w'=((((((((w.alloc o1).alloc o2).alloc o3).alloc o4).alloc o5).alloc o6).alloc o7).alloc o8):=by
 have c:=fun w=>uN rom bank ram rb on mode (addr / 128) (by omega) v w v0 v1
 go_enter func274,ntmps274
 go_wp2_with (go_at_call 295;refine (c _).mono ?_;rintro e w' ⟨rfl,p1,p2,p3,p4,p5,p6,rfl⟩)
 all_goals exact bodyPost_ret (v:=.agg #[.string rom,.int .i64 1,.int .i64 bank,.string ram,.int .i64 rb,.bool (v%16 == 10),.int .i64 mode]) (by simp [results,results274,go_sem]) rfl ⟨rfl,_,_,_,_,_,_,_,_,rfl⟩
theorem aBE (rom:ByteArray) (bank:Int) (ram:ByteArray) (rb:Int) (on:Bool) (mode:Int) (addr v:Int) (w:World) (v0:0<=v) (v1:v<=255) (a0:128<=addr) (a1:addr<256) :
  Calls prog 274 #[.agg #[.string rom,.int .i64 1,.int .i64 bank,.string ram,.int .i64 rb,.bool on,.int .i64 mode],.int .i64 addr,.int .i64 v] w fun e w'=>e=.returned (.agg #[.string rom,.int .i64 1,.int .i64 (jX v),.string ram,.int .i64 rb,.bool on,.int .i64 mode])/\∃ o1 o2 o3 o4 o5 o6,w'=((((((w.alloc o1).alloc o2).alloc o3).alloc o4).alloc o5).alloc o6):=by
 have c:=fun w=>uO rom bank ram rb on mode (addr / 128) (by omega) v w v0 v1
 go_enter func274,ntmps274
 go_wp2_with (go_at_call 295;refine (c _).mono ?_;rintro e w' ⟨rfl,p1,p2,p3,p4,rfl⟩)
 all_goals exact bodyPost_ret (v:=.agg #[.string rom,.int .i64 1,.int .i64 (jX v),.string ram,.int .i64 rb,.bool on,.int .i64 mode]) (by simp [results,results274,go_sem]) rfl ⟨rfl,_,_,_,_,_,_,rfl⟩
theorem aBF (rom:ByteArray) (bank:Int) (ram:ByteArray) (rb:Int) (on:Bool) (mode:Int) (addr v:Int) (w:World) (v0:0<=v) (v1:v<=255) (a0:256<=addr) (a1:addr<384) :
  Calls prog 274 #[.agg #[.string rom,.int .i64 1,.int .i64 bank,.string ram,.int .i64 rb,.bool on,.int .i64 mode],.int .i64 addr,.int .i64 v] w fun e w'=>e=.returned (.agg #[.string rom,.int .i64 1,.int .i64 bank,.string ram,.int .i64 (v%4),.bool on,.int .i64 mode])/\∃ o1 o2 o3 o4 o5 o6 o7 o8,w'=((((((((w.alloc o1).alloc o2).alloc o3).alloc o4).alloc o5).alloc o6).alloc o7).alloc o8):=by
 have c:=fun w=>uP rom bank ram rb on mode (addr / 128) (by omega) v w v0 v1
 go_enter func274,ntmps274
 go_wp2_with (go_at_call 295;refine (c _).mono ?_;rintro e w' ⟨rfl,p1,p2,p3,p4,p5,p6,rfl⟩)
 all_goals exact bodyPost_ret (v:=.agg #[.string rom,.int .i64 1,.int .i64 bank,.string ram,.int .i64 (v%4),.bool on,.int .i64 mode]) (by simp [results,results274,go_sem]) rfl ⟨rfl,_,_,_,_,_,_,_,_,rfl⟩
theorem aBG (rom:ByteArray) (bank:Int) (ram:ByteArray) (rb:Int) (on:Bool) (mode:Int) (addr v:Int) (w:World) (v0:0<=v) (v1:v<=255) (a0:384<=addr) (a1:addr<512) :
  Calls prog 274 #[.agg #[.string rom,.int .i64 1,.int .i64 bank,.string ram,.int .i64 rb,.bool on,.int .i64 mode],.int .i64 addr,.int .i64 v] w fun e w'=>e=.returned (.agg #[.string rom,.int .i64 1,.int .i64 bank,.string ram,.int .i64 rb,.bool on,.int .i64 (v%2)])/\∃ o1 o2 o3 o4 o5 o6,w'=((((((w.alloc o1).alloc o2).alloc o3).alloc o4).alloc o5).alloc o6):=by
 have c:=fun w=>uQ rom bank ram rb on mode (addr / 128) (by omega) v w v0 v1
 go_enter func274,ntmps274
 go_wp2_with (go_at_call 295;refine (c _).mono ?_;rintro e w' ⟨rfl,p1,p2,p3,p4,rfl⟩)
 all_goals exact bodyPost_ret (v:=.agg #[.string rom,.int .i64 1,.int .i64 bank,.string ram,.int .i64 rb,.bool on,.int .i64 (v%2)]) (by simp [results,results274,go_sem]) rfl ⟨rfl,_,_,_,_,_,_,rfl⟩
theorem aBH (rom:ByteArray) (bank:Int) (ram:ByteArray) (rb:Int) (on:Bool) (mode:Int) (addr v:Int) (w:World) (v0:0<=v) (v1:v<=255) (a0:0<=addr) (a1:addr<128) :
  Calls prog 274 #[.agg #[.string rom,.int .i64 2,.int .i64 bank,.string ram,.int .i64 rb,.bool on,.int .i64 mode],.int .i64 addr,.int .i64 v] w fun e w'=>e=.returned (.agg #[.string rom,.int .i64 2,.int .i64 bank,.string ram,.int .i64 rb,.bool (v%16 == 10),.int .i64 mode])/\∃ o1 o2 o3 o4 o5 o6 o7 o8,w'=((((((((w.alloc o1).alloc o2).alloc o3).alloc o4).alloc o5).alloc o6).alloc o7).alloc o8):=by
 have c:=fun w=>uR rom bank ram rb on mode (addr / 128) (by omega) v w v0 v1
 go_enter func274,ntmps274
 go_wp2_with (go_at_call 295;refine (c _).mono ?_;rintro e w' ⟨rfl,p1,p2,p3,p4,p5,p6,rfl⟩)
 all_goals exact bodyPost_ret (v:=.agg #[.string rom,.int .i64 2,.int .i64 bank,.string ram,.int .i64 rb,.bool (v%16 == 10),.int .i64 mode]) (by simp [results,results274,go_sem]) rfl ⟨rfl,_,_,_,_,_,_,_,_,rfl⟩
theorem aBI (rom:ByteArray) (bank:Int) (ram:ByteArray) (rb:Int) (on:Bool) (mode:Int) (addr v:Int) (w:World) (v0:0<=v) (v1:v<=255) (a0:128<=addr) (a1:addr<256) :
  Calls prog 274 #[.agg #[.string rom,.int .i64 2,.int .i64 bank,.string ram,.int .i64 rb,.bool on,.int .i64 mode],.int .i64 addr,.int .i64 v] w fun e w'=>e=.returned (.agg #[.string rom,.int .i64 2,.int .i64 v,.string ram,.int .i64 rb,.bool on,.int .i64 mode])/\∃ o1 o2 o3 o4 o5 o6,w'=((((((w.alloc o1).alloc o2).alloc o3).alloc o4).alloc o5).alloc o6):=by
 have c:=fun w=>uT rom bank ram rb on mode (addr / 128) (by omega) v w v0 v1
 go_enter func274,ntmps274
 go_wp2_with (go_at_call 295;refine (c _).mono ?_;rintro e w' ⟨rfl,p1,p2,p3,p4,rfl⟩)
 all_goals exact bodyPost_ret (v:=.agg #[.string rom,.int .i64 2,.int .i64 v,.string ram,.int .i64 rb,.bool on,.int .i64 mode]) (by simp [results,results274,go_sem]) rfl ⟨rfl,_,_,_,_,_,_,rfl⟩
theorem aBJ (rom:ByteArray) (bank:Int) (ram:ByteArray) (rb:Int) (on:Bool) (mode:Int) (addr v:Int) (w:World) (v0:0<=v) (v1:v<=255) (a0:256<=addr) (a1:addr<384) :
  Calls prog 274 #[.agg #[.string rom,.int .i64 2,.int .i64 bank,.string ram,.int .i64 rb,.bool on,.int .i64 mode],.int .i64 addr,.int .i64 v] w fun e w'=>e=.returned (.agg #[.string rom,.int .i64 2,.int .i64 bank,.string ram,.int .i64 (v%4),.bool on,.int .i64 mode])/\∃ o1 o2 o3 o4 o5 o6 o7 o8,w'=((((((((w.alloc o1).alloc o2).alloc o3).alloc o4).alloc o5).alloc o6).alloc o7).alloc o8):=by
 have c:=fun w=>uU rom bank ram rb on mode (addr / 128) (by omega) v w v0 v1
 go_enter func274,ntmps274
 go_wp2_with (go_at_call 295;refine (c _).mono ?_;rintro e w' ⟨rfl,p1,p2,p3,p4,p5,p6,rfl⟩)
 all_goals exact bodyPost_ret (v:=.agg #[.string rom,.int .i64 2,.int .i64 bank,.string ram,.int .i64 (v%4),.bool on,.int .i64 mode]) (by simp [results,results274,go_sem]) rfl ⟨rfl,_,_,_,_,_,_,_,_,rfl⟩
theorem aBK (rom:ByteArray) (bank:Int) (ram:ByteArray) (rb:Int) (on:Bool) (mode:Int) (addr v:Int) (w:World) (v0:0<=v) (v1:v<=255) (a0:384<=addr) (a1:addr<512) :
  Calls prog 274 #[.agg #[.string rom,.int .i64 2,.int .i64 bank,.string ram,.int .i64 rb,.bool on,.int .i64 mode],.int .i64 addr,.int .i64 v] w fun e w'=>e=.returned (.agg #[.string rom,.int .i64 2,.int .i64 bank,.string ram,.int .i64 rb,.bool on,.int .i64 mode])/\∃ o1 o2 o3 o4 o5 o6 o7 o8,w'=((((((((w.alloc o1).alloc o2).alloc o3).alloc o4).alloc o5).alloc o6).alloc o7).alloc o8):=by
 have c:=fun w=>uV rom bank ram rb on mode (addr / 128) (by omega) v w v0 v1
 go_enter func274,ntmps274
 go_wp2_with (go_at_call 295;refine (c _).mono ?_;rintro e w' ⟨rfl,p1,p2,p3,p4,p5,p6,rfl⟩)
 all_goals exact bodyPost_ret (v:=.agg #[.string rom,.int .i64 2,.int .i64 bank,.string ram,.int .i64 rb,.bool on,.int .i64 mode]) (by simp [results,results274,go_sem]) rfl ⟨rfl,_,_,_,_,_,_,_,_,rfl⟩
theorem aBL (rom:ByteArray) (kind bank:Int) (ram:ByteArray) (rb:Int) (on:Bool) (mode:Int) (addr v:Int) (w:World) (v0:0<=v) (v1:v<=255) (a0:512<=addr) (h:on=false \/ addr<40960 \/ 41024<=addr) :
  Calls prog 274 #[.agg #[.string rom,.int .i64 kind,.int .i64 bank,.string ram,.int .i64 rb,.bool on,.int .i64 mode],.int .i64 addr,.int .i64 v] w fun e w'=>e=.returned (.agg #[.string rom,.int .i64 kind,.int .i64 bank,.string ram,.int .i64 rb,.bool on,.int .i64 mode])/\∃ o1 o2 o3,w'=(((w.alloc o1).alloc o2).alloc o3):=by
 have c:=fun w=>xA rom kind bank ram rb on mode addr w h
 clear h
 go_enter func274,ntmps274
 go_wp2_with (go_at_call 238;refine (c _).mono ?_;rintro e w' ⟨rfl,rfl⟩)
 all_goals exact bodyPost_ret (v:=.agg #[.string rom,.int .i64 kind,.int .i64 bank,.string ram,.int .i64 rb,.bool on,.int .i64 mode]) (by simp [results,results274,go_sem]) rfl ⟨rfl,_,_,_,rfl⟩
theorem xN (rom:ByteArray) (kind bank:Int) (ram:ByteArray) (rb:Int) (mode:Int) (addr v r:Int) (w:World) (v0:0<=v) (v1:v<=255) (sr:ram.size=256) (h0:0<=rb) (h1:rb<=3) (m0:0<=mode) (m1:mode<=1) (hk:kind=1 \/ kind=2) (a0:40960<=addr) (a1:addr<41024) (hr:gX kind rb mode=r) :
  Calls prog 274 #[.agg #[.string rom,.int .i64 kind,.int .i64 bank,.string ram,.int .i64 rb,.bool true,.int .i64 mode],.int .i64 addr,.int .i64 v] w fun e w'=>e=.returned (.agg #[.string rom,.int .i64 kind,.int .i64 bank,.string (fK ram (r*64+addr-40960) v),.int .i64 rb,.bool true,.int .i64 mode])/\∃ o1 o2 o3 o4 o5,w'=((((w.alloc o1).alloc o2).alloc o3).alloc o4).drew.alloc o5:=by
 have c:=fun w=>sO rom kind bank ram rb mode addr w h0 h1 m0 m1 hk a0 a1 r hr
 obtain ⟨r0,r1⟩:=lC (kind:=kind) (mode:=mode) h0 h1;rw [hr] at r0 r1
 clear hr hk h0 h1 m0 m1;have c2:=fun w=>qO ram 256 sr (by decide) (r*64+addr-40960) v (by omega) (by omega) v0 v1 w
 have i0:0<=r*64+addr-40960:=by omega
 clear sr
 go_enter func274,ntmps274
 go_wp2_with first|(go_at_call 238;refine (c _).mono ?_;rintro e w' ⟨rfl,rfl⟩)|(go_at_call 273;refine (c2 _).mono ?_;rintro e w' ⟨rfl,p1,rfl⟩)
 all_goals exact bodyPost_ret (v:=.agg #[.string rom,.int .i64 kind,.int .i64 bank,.string (fK ram (r*64+addr-40960) v),.int .i64 rb,.bool true,.int .i64 mode]) (by simp [results,results274,go_sem]) rfl ⟨rfl,_,_,_,_,_,rfl⟩
end CartW
end Go.Proofs.YteglcgnhhoenbaaGreatDoor
