import Derived.Test.YteglcgnhhoenbaaGreatDoorQ12
set_option linter.all false
set_option maxRecDepth 20000
set_option maxHeartbeats 8000000
open Go.ChangeShapes Go.WideShapes Go.ChangeAt Go.RowKit
open Go.Proofs.Tryz
namespace Go.Proofs.YteglcgnhhoenbaaGreatDoor
namespace CartV
open Go.Deep
open Signed (inB aG aB aC aE)
open Carts CartK CartL CartM CartP CartR CartW
theorem xO (rom:ByteArray) (bank:Int) (ram:ByteArray) (rb:Int) (on:Bool) (mode:Int) (addr v:Int) (w:World) (v0:0<=v) (v1:v<=255) :
  Calls prog 237 #[.agg #[.string rom,.int .i64 0,.int .i64 bank,.string ram,.int .i64 rb,.bool on,.int .i64 mode],.int .i64 addr,.int .i64 v] w fun e w'=>e=.returned (.agg #[.string rom,.int .i64 0,.int .i64 bank,.string ram,.int .i64 rb,.bool on,.int .i64 mode])/\∃ o1 o2,w'=((w.alloc o1).alloc o2):=by
 go_enter func237,ntmps237
 go_wp2
 all_goals exact bodyPost_ret (v:=.agg #[.string rom,.int .i64 0,.int .i64 bank,.string ram,.int .i64 rb,.bool on,.int .i64 mode]) (by simp [results,results237,go_sem]) rfl ⟨rfl,_,_,rfl⟩
theorem aGP (rom:ByteArray) (bank:Int) (ram:ByteArray) (rb:Int) (on:Bool) (mode:Int) (addr v:Int) (w:World) (v0:0<=v) (v1:v<=255) (a0:0<=addr) (a1:addr<128) :
  Calls prog 237 #[.agg #[.string rom,.int .i64 1,.int .i64 bank,.string ram,.int .i64 rb,.bool on,.int .i64 mode],.int .i64 addr,.int .i64 v] w fun e w'=>e=.returned (.agg #[.string rom,.int .i64 1,.int .i64 bank,.string ram,.int .i64 rb,.bool (v%16 == 10),.int .i64 mode])/\∃ o1 o2,w'=((w.alloc o1).alloc o2):=by
 have d128:decide (addr<128)=true:=x9 (by omega);have d256:decide (addr<256)=true:=x9 (by omega);have d384:decide (addr<384)=true:=x9 (by omega);have d512:decide (addr<512)=true:=x9 (by omega)
 go_enter func237,ntmps237
 go_wp2
 all_goals exact bodyPost_ret (v:=.agg #[.string rom,.int .i64 1,.int .i64 bank,.string ram,.int .i64 rb,.bool (v%16 == 10),.int .i64 mode]) (by simp [results,results237,go_sem]) rfl ⟨rfl,_,_,rfl⟩
theorem aGQ (rom:ByteArray) (bank:Int) (ram:ByteArray) (rb:Int) (on:Bool) (mode:Int) (addr v:Int) (w:World) (v0:0<=v) (v1:v<=255) (a0:128<=addr) (a1:addr<256) :
  Calls prog 237 #[.agg #[.string rom,.int .i64 1,.int .i64 bank,.string ram,.int .i64 rb,.bool on,.int .i64 mode],.int .i64 addr,.int .i64 v] w fun e w'=>e=.returned (.agg #[.string rom,.int .i64 1,.int .i64 (jX v),.string ram,.int .i64 rb,.bool on,.int .i64 mode])/\∃ o1 o2,w'=((w.alloc o1).alloc o2):=by
 have d128:decide (addr<128)=false:=u6 (by omega);have d256:decide (addr<256)=true:=x9 (by omega);have d384:decide (addr<384)=true:=x9 (by omega);have d512:decide (addr<512)=true:=x9 (by omega)
 go_enter func237,ntmps237
 go_wp2
 all_goals exact bodyPost_ret (v:=.agg #[.string rom,.int .i64 1,.int .i64 (jX v),.string ram,.int .i64 rb,.bool on,.int .i64 mode]) (by simp [results,results237,jX,go_sem];try omega) rfl ⟨rfl,_,_,rfl⟩
theorem aGR (rom:ByteArray) (bank:Int) (ram:ByteArray) (rb:Int) (on:Bool) (mode:Int) (addr v:Int) (w:World) (v0:0<=v) (v1:v<=255) (a0:256<=addr) (a1:addr<384) :
  Calls prog 237 #[.agg #[.string rom,.int .i64 1,.int .i64 bank,.string ram,.int .i64 rb,.bool on,.int .i64 mode],.int .i64 addr,.int .i64 v] w fun e w'=>e=.returned (.agg #[.string rom,.int .i64 1,.int .i64 bank,.string ram,.int .i64 (v%4),.bool on,.int .i64 mode])/\∃ o1 o2,w'=((w.alloc o1).alloc o2):=by
 have d128:decide (addr<128)=false:=u6 (by omega);have d256:decide (addr<256)=false:=u6 (by omega);have d384:decide (addr<384)=true:=x9 (by omega);have d512:decide (addr<512)=true:=x9 (by omega)
 go_enter func237,ntmps237
 go_wp2
 all_goals exact bodyPost_ret (v:=.agg #[.string rom,.int .i64 1,.int .i64 bank,.string ram,.int .i64 (v%4),.bool on,.int .i64 mode]) (by simp [results,results237,go_sem]) rfl ⟨rfl,_,_,rfl⟩
theorem aGS (rom:ByteArray) (bank:Int) (ram:ByteArray) (rb:Int) (on:Bool) (mode:Int) (addr v:Int) (w:World) (v0:0<=v) (v1:v<=255) (a0:384<=addr) (a1:addr<512) :
  Calls prog 237 #[.agg #[.string rom,.int .i64 1,.int .i64 bank,.string ram,.int .i64 rb,.bool on,.int .i64 mode],.int .i64 addr,.int .i64 v] w fun e w'=>e=.returned (.agg #[.string rom,.int .i64 1,.int .i64 bank,.string ram,.int .i64 rb,.bool on,.int .i64 (v%2)])/\∃ o1 o2,w'=((w.alloc o1).alloc o2):=by
 have d128:decide (addr<128)=false:=u6 (by omega);have d256:decide (addr<256)=false:=u6 (by omega);have d384:decide (addr<384)=false:=u6 (by omega);have d512:decide (addr<512)=true:=x9 (by omega)
 go_enter func237,ntmps237
 go_wp2
 all_goals exact bodyPost_ret (v:=.agg #[.string rom,.int .i64 1,.int .i64 bank,.string ram,.int .i64 rb,.bool on,.int .i64 (v%2)]) (by simp [results,results237,go_sem]) rfl ⟨rfl,_,_,rfl⟩
theorem aGT (rom:ByteArray) (bank:Int) (ram:ByteArray) (rb:Int) (on:Bool) (mode:Int) (addr v:Int) (w:World) (v0:0<=v) (v1:v<=255) (a0:0<=addr) (a1:addr<128) :
  Calls prog 237 #[.agg #[.string rom,.int .i64 2,.int .i64 bank,.string ram,.int .i64 rb,.bool on,.int .i64 mode],.int .i64 addr,.int .i64 v] w fun e w'=>e=.returned (.agg #[.string rom,.int .i64 2,.int .i64 bank,.string ram,.int .i64 rb,.bool (v%16 == 10),.int .i64 mode])/\∃ o1 o2,w'=((w.alloc o1).alloc o2):=by
 have d128:decide (addr<128)=true:=x9 (by omega);have d256:decide (addr<256)=true:=x9 (by omega);have d384:decide (addr<384)=true:=x9 (by omega);have d512:decide (addr<512)=true:=x9 (by omega)
 go_enter func237,ntmps237
 go_wp2
 all_goals exact bodyPost_ret (v:=.agg #[.string rom,.int .i64 2,.int .i64 bank,.string ram,.int .i64 rb,.bool (v%16 == 10),.int .i64 mode]) (by simp [results,results237,go_sem]) rfl ⟨rfl,_,_,rfl⟩
theorem aGU (rom:ByteArray) (bank:Int) (ram:ByteArray) (rb:Int) (on:Bool) (mode:Int) (addr v:Int) (w:World) (v0:0<=v) (v1:v<=255) (a0:128<=addr) (a1:addr<256) :
  Calls prog 237 #[.agg #[.string rom,.int .i64 2,.int .i64 bank,.string ram,.int .i64 rb,.bool on,.int .i64 mode],.int .i64 addr,.int .i64 v] w fun e w'=>e=.returned (.agg #[.string rom,.int .i64 2,.int .i64 v,.string ram,.int .i64 rb,.bool on,.int .i64 mode])/\∃ o1 o2,w'=((w.alloc o1).alloc o2):=by
 have d128:decide (addr<128)=false:=u6 (by omega);have d256:decide (addr<256)=true:=x9 (by omega);have d384:decide (addr<384)=true:=x9 (by omega);have d512:decide (addr<512)=true:=x9 (by omega)
 go_enter func237,ntmps237
 go_wp2
 all_goals exact bodyPost_ret (v:=.agg #[.string rom,.int .i64 2,.int .i64 v,.string ram,.int .i64 rb,.bool on,.int .i64 mode]) (by simp [results,results237,go_sem]) rfl ⟨rfl,_,_,rfl⟩
theorem aGV (rom:ByteArray) (bank:Int) (ram:ByteArray) (rb:Int) (on:Bool) (mode:Int) (addr v:Int) (w:World) (v0:0<=v) (v1:v<=255) (a0:256<=addr) (a1:addr<384) :
  Calls prog 237 #[.agg #[.string rom,.int .i64 2,.int .i64 bank,.string ram,.int .i64 rb,.bool on,.int .i64 mode],.int .i64 addr,.int .i64 v] w fun e w'=>e=.returned (.agg #[.string rom,.int .i64 2,.int .i64 bank,.string ram,.int .i64 (v%4),.bool on,.int .i64 mode])/\∃ o1 o2,w'=((w.alloc o1).alloc o2):=by
 have d128:decide (addr<128)=false:=u6 (by omega);have d256:decide (addr<256)=false:=u6 (by omega);have d384:decide (addr<384)=true:=x9 (by omega);have d512:decide (addr<512)=true:=x9 (by omega)
 go_enter func237,ntmps237
 go_wp2
 all_goals exact bodyPost_ret (v:=.agg #[.string rom,.int .i64 2,.int .i64 bank,.string ram,.int .i64 (v%4),.bool on,.int .i64 mode]) (by simp [results,results237,go_sem]) rfl ⟨rfl,_,_,rfl⟩
theorem aGW (rom:ByteArray) (bank:Int) (ram:ByteArray) (rb:Int) (on:Bool) (mode:Int) (addr v:Int) (w:World) (v0:0<=v) (v1:v<=255) (a0:384<=addr) (a1:addr<512) :
  Calls prog 237 #[.agg #[.string rom,.int .i64 2,.int .i64 bank,.string ram,.int .i64 rb,.bool on,.int .i64 mode],.int .i64 addr,.int .i64 v] w fun e w'=>e=.returned (.agg #[.string rom,.int .i64 2,.int .i64 bank,.string ram,.int .i64 rb,.bool on,.int .i64 mode])/\∃ o1 o2,w'=((w.alloc o1).alloc o2):=by
 have d128:decide (addr<128)=false:=u6 (by omega);have d256:decide (addr<256)=false:=u6 (by omega);have d384:decide (addr<384)=false:=u6 (by omega);have d512:decide (addr<512)=true:=x9 (by omega)
 go_enter func237,ntmps237
 go_wp2
 all_goals exact bodyPost_ret (v:=.agg #[.string rom,.int .i64 2,.int .i64 bank,.string ram,.int .i64 rb,.bool on,.int .i64 mode]) (by simp [results,results237,go_sem]) rfl ⟨rfl,_,_,rfl⟩
theorem aBM (rom:ByteArray) (bank:Int) (ram:ByteArray) (rb:Int) (on:Bool) (mode:Int) (addr v:Int) (w:World) (v0:0<=v) (v1:v<=255) (a0:512<=addr) (h:on=false \/ addr<40960 \/ 41024<=addr) :
  Calls prog 237 #[.agg #[.string rom,.int .i64 1,.int .i64 bank,.string ram,.int .i64 rb,.bool on,.int .i64 mode],.int .i64 addr,.int .i64 v] w fun e w'=>e=.returned (.agg #[.string rom,.int .i64 1,.int .i64 bank,.string ram,.int .i64 rb,.bool on,.int .i64 mode])/\∃ o1 o2,w'=((w.alloc o1).alloc o2):=by
 have d128:decide (addr<128)=false:=u6 (by omega);have d256:decide (addr<256)=false:=u6 (by omega);have d384:decide (addr<384)=false:=u6 (by omega);have d512:decide (addr<512)=false:=u6 (by omega)
 cases on with
 | false =>
  go_enter func237,ntmps237
  go_wp2
  all_goals exact bodyPost_ret (v:=.agg #[.string rom,.int .i64 1,.int .i64 bank,.string ram,.int .i64 rb,.bool false,.int .i64 mode]) (by simp [results,results237,go_sem]) rfl ⟨rfl,_,_,rfl⟩
 | true =>
  have d3:inB addr 40960 41023=false:=u6 (by simp at h;omega)
  go_enter func237,ntmps237
  go_wp2_with (go_at_call 42;refine (aE _ _ _ _).mono ?_;rintro e w' ⟨rfl,rfl⟩)
  all_goals exact bodyPost_ret (v:=.agg #[.string rom,.int .i64 1,.int .i64 bank,.string ram,.int .i64 rb,.bool true,.int .i64 mode]) (by simp [results,results237,go_sem]) rfl ⟨rfl,_,_,rfl⟩
theorem xQ (rom:ByteArray) (bank:Int) (ram:ByteArray) (rb:Int) (mode:Int) (addr v r:Int) (w:World) (v0:0<=v) (v1:v<=255) (sr:ram.size=256) (h0:0<=rb) (h1:rb<=3) (a0:40960<=addr) (a1:addr<41024) (hr:gX 1 rb mode=r) :
  Calls prog 237 #[.agg #[.string rom,.int .i64 1,.int .i64 bank,.string ram,.int .i64 rb,.bool true,.int .i64 mode],.int .i64 addr,.int .i64 v] w fun e w'=>e=.returned (.agg #[.string rom,.int .i64 1,.int .i64 bank,.string (fK ram (r*64+addr-40960) v),.int .i64 rb,.bool true,.int .i64 mode])/\∃ o1 o2 o3 o4,w'=((((w.alloc o1).alloc o2).alloc o3).alloc o4).drew.drew:=by
 have d128:decide (addr<128)=false:=u6 (by omega);have d256:decide (addr<256)=false:=u6 (by omega);have d384:decide (addr<384)=false:=u6 (by omega);have d512:decide (addr<512)=false:=u6 (by omega);have d3:inB addr 40960 41023=true:=x9 (by omega);have c:=fun w=>iL rom 1 bank ram rb true mode w
 obtain ⟨r0,r1⟩:=lC (kind:=1) (mode:=mode) h0 h1;rw [hr] at c r0 r1
 clear hr h0 h1;have c2:=fun w=>mR ram 256 sr (by decide) (r*64+addr-40960) v (by omega) (by omega) v0 v1 w
 have i0:0<=r*64+addr-40960:=by omega
 have i2:40960<=r*64+addr:=by omega
 have e1:IntKind.i64.wrap (r*64)=r*64:=by rw [x6];omega
 have e2:IntKind.i64.wrap (r*64+addr)=r*64+addr:=by rw [x6];omega
 have e3:IntKind.i64.wrap (r*64+addr-40960)=r*64+addr-40960:=by rw [x6];omega
 clear sr
 go_enter func237,ntmps237
 go_wp2_with (go_at_call 42;refine (aE _ _ _ _).mono ?_;rintro e w' ⟨rfl,rfl⟩)
 go_region_with first|(go_at_call 233;refine (c _).mono ?_;rintro e w' ⟨rfl,rfl⟩)|(go_at_call 236;refine (c2 _).mono ?_;rintro e w' ⟨rfl,p1,rfl⟩)
 all_goals go_wp2
 all_goals exact bodyPost_ret (v:=.agg #[.string rom,.int .i64 1,.int .i64 bank,.string (fK ram (r*64+addr-40960) v),.int .i64 rb,.bool true,.int .i64 mode]) (by simp [results,results237,go_sem]) rfl ⟨rfl,_,_,_,_,rfl⟩
theorem aBN (rom:ByteArray) (bank:Int) (ram:ByteArray) (rb:Int) (on:Bool) (mode:Int) (addr v:Int) (w:World) (v0:0<=v) (v1:v<=255) (a0:512<=addr) (h:on=false \/ addr<40960 \/ 41024<=addr) :
  Calls prog 237 #[.agg #[.string rom,.int .i64 2,.int .i64 bank,.string ram,.int .i64 rb,.bool on,.int .i64 mode],.int .i64 addr,.int .i64 v] w fun e w'=>e=.returned (.agg #[.string rom,.int .i64 2,.int .i64 bank,.string ram,.int .i64 rb,.bool on,.int .i64 mode])/\∃ o1 o2,w'=((w.alloc o1).alloc o2):=by
 have d128:decide (addr<128)=false:=u6 (by omega);have d256:decide (addr<256)=false:=u6 (by omega);have d384:decide (addr<384)=false:=u6 (by omega);have d512:decide (addr<512)=false:=u6 (by omega)
 cases on with
 | false =>
  go_enter func237,ntmps237
  go_wp2
  all_goals exact bodyPost_ret (v:=.agg #[.string rom,.int .i64 2,.int .i64 bank,.string ram,.int .i64 rb,.bool false,.int .i64 mode]) (by simp [results,results237,go_sem]) rfl ⟨rfl,_,_,rfl⟩
 | true =>
  have d3:inB addr 40960 41023=false:=u6 (by simp at h;omega)
  go_enter func237,ntmps237
  go_wp2_with (go_at_call 42;refine (aE _ _ _ _).mono ?_;rintro e w' ⟨rfl,rfl⟩)
  all_goals exact bodyPost_ret (v:=.agg #[.string rom,.int .i64 2,.int .i64 bank,.string ram,.int .i64 rb,.bool true,.int .i64 mode]) (by simp [results,results237,go_sem]) rfl ⟨rfl,_,_,rfl⟩
theorem xR (rom:ByteArray) (bank:Int) (ram:ByteArray) (rb:Int) (mode:Int) (addr v r:Int) (w:World) (v0:0<=v) (v1:v<=255) (sr:ram.size=256) (h0:0<=rb) (h1:rb<=3) (a0:40960<=addr) (a1:addr<41024) (hr:gX 2 rb mode=r) :
  Calls prog 237 #[.agg #[.string rom,.int .i64 2,.int .i64 bank,.string ram,.int .i64 rb,.bool true,.int .i64 mode],.int .i64 addr,.int .i64 v] w fun e w'=>e=.returned (.agg #[.string rom,.int .i64 2,.int .i64 bank,.string (fK ram (r*64+addr-40960) v),.int .i64 rb,.bool true,.int .i64 mode])/\∃ o1 o2 o3 o4,w'=((((w.alloc o1).alloc o2).alloc o3).alloc o4).drew.drew:=by
 have d128:decide (addr<128)=false:=u6 (by omega);have d256:decide (addr<256)=false:=u6 (by omega);have d384:decide (addr<384)=false:=u6 (by omega);have d512:decide (addr<512)=false:=u6 (by omega);have d3:inB addr 40960 41023=true:=x9 (by omega);have c:=fun w=>iL rom 2 bank ram rb true mode w
 obtain ⟨r0,r1⟩:=lC (kind:=2) (mode:=mode) h0 h1;rw [hr] at c r0 r1
 clear hr h0 h1;have c2:=fun w=>mR ram 256 sr (by decide) (r*64+addr-40960) v (by omega) (by omega) v0 v1 w
 have i0:0<=r*64+addr-40960:=by omega
 have i2:40960<=r*64+addr:=by omega
 have e1:IntKind.i64.wrap (r*64)=r*64:=by rw [x6];omega
 have e2:IntKind.i64.wrap (r*64+addr)=r*64+addr:=by rw [x6];omega
 have e3:IntKind.i64.wrap (r*64+addr-40960)=r*64+addr-40960:=by rw [x6];omega
 clear sr
 go_enter func237,ntmps237
 go_wp2_with (go_at_call 42;refine (aE _ _ _ _).mono ?_;rintro e w' ⟨rfl,rfl⟩)
 go_region_with first|(go_at_call 233;refine (c _).mono ?_;rintro e w' ⟨rfl,rfl⟩)|(go_at_call 236;refine (c2 _).mono ?_;rintro e w' ⟨rfl,p1,rfl⟩)
 all_goals go_wp2
 all_goals exact bodyPost_ret (v:=.agg #[.string rom,.int .i64 2,.int .i64 bank,.string (fK ram (r*64+addr-40960) v),.int .i64 rb,.bool true,.int .i64 mode]) (by simp [results,results237,go_sem]) rfl ⟨rfl,_,_,_,_,rfl⟩
end CartV
end Go.Proofs.YteglcgnhhoenbaaGreatDoor
