import Derived.Test.YtfpecdgcapfgfaaGreatP00
import Derived.Deep.Strs
import Derived.WalkSmall
import Derived.Lib.IndexMore
import Derived.OwnWalk
set_option linter.all false
set_option maxRecDepth 20000
set_option maxHeartbeats 8000000
open Go.ChangeShapes Go.WideShapes Go.ChangeAt Go.RowKit
open Go.Proofs.Tryz
namespace Go.Proofs.YtfpecdgcapfgfaaGreat
namespace CartK
open Signed (inB ret_int ret_bool isByte_any l1In_any)
open Carts
theorem mapperOf_0 (w:World):Calls prog 50 #[.int .i64 0] w fun e w'=>e=.returned (.iface 83 (.agg #[]))/\w'=w:=mapperOf_any 0 w
theorem cartOk_0 (rom:ByteArray) (bank:Int) (ram:ByteArray) (rb:Int) (on:Bool) (mode:Int) (w:World) (hs:rom.size<=maxLen) (hr:ram.size<=maxLen) (b1 b2:Bool) (h1:(decide (bank=1/\rb=0/\mode=0/\on=false))=b1) (h2:romB rom.size=b2) :
  Calls prog 31 #[.agg #[.string rom,.int .i64 0,.int .i64 bank,.string ram,.int .i64 rb,.bool on,.int .i64 mode]] w fun e w'=>e=.returned (.bool (b1 && b2 && ram.size == 256))/\w'=((w.alloc (.cells #[.string rom,.int .i64 0,.int .i64 bank,.string ram,.int .i64 rb,.bool on,.int .i64 mode] 27)).alloc (.cells #[] 83)).alloc (.cells #[.string rom,.int .i64 0,.int .i64 bank,.string ram,.int .i64 rb,.bool on,.int .i64 mode] 27):=by
 have c1:=fun w=>plainHolds_any rom 0 bank ram rb on mode w
 have c2:=fun w=>romOk_any rom w hs
 rw [h1] at c1
 rw [h2] at c2
 have m:=m0
 have e3:decide ((ram.size:Int)=256)=(ram.size == 256):=by rw [Bool.eq_iff_iff];simp;try omega
 have hr':ram.size<=9223372036854775807:=by unfold maxLen at hr;omega
 clear h1 h2 hr hs
 cases b1 <;> cases b2
 all_goals
  go_enter func31,ntmps31
  go_wp2_with first|(go_at_call 50;refine (mapperOf_0 _).mono ?_;rintro e w' ⟨rfl,rfl⟩)|(go_at_call 127;refine (c1 _).mono ?_;rintro e w' ⟨rfl,rfl⟩)|(go_at_call 51;refine (c2 _).mono ?_;rintro e w' ⟨rfl,rfl⟩)
  all_goals go_ret
  all_goals first|exact ⟨rfl,rfl⟩|exact ⟨ret_bool e3,rfl⟩|exact ⟨ret_bool (by rw [Bool.eq_iff_iff];simp;try omega),rfl⟩
theorem mapperOf_1 (w:World):Calls prog 50 #[.int .i64 1] w fun e w'=>e=.returned (.iface 84 (.agg #[]))/\w'=w:=mapperOf_any 1 w
theorem cartOk_1 (rom:ByteArray) (bank:Int) (ram:ByteArray) (rb:Int) (on:Bool) (mode:Int) (w:World) (hs:rom.size<=maxLen) (hr:ram.size<=maxLen) (b1 b2:Bool) (h1:(inB bank 1 31 && inB rb 0 3 && inB mode 0 1)=b1) (h2:romB rom.size=b2) :
  Calls prog 31 #[.agg #[.string rom,.int .i64 1,.int .i64 bank,.string ram,.int .i64 rb,.bool on,.int .i64 mode]] w fun e w'=>e=.returned (.bool (b1 && b2 && ram.size == 256))/\w'=((w.alloc (.cells #[.string rom,.int .i64 1,.int .i64 bank,.string ram,.int .i64 rb,.bool on,.int .i64 mode] 27)).alloc (.cells #[] 84)).alloc (.cells #[.string rom,.int .i64 1,.int .i64 bank,.string ram,.int .i64 rb,.bool on,.int .i64 mode] 27):=by
 have c1:=fun w=>oneHolds_any rom 1 bank ram rb on mode w
 have c2:=fun w=>romOk_any rom w hs
 rw [h1] at c1
 rw [h2] at c2
 have m:=m1
 have e3:decide ((ram.size:Int)=256)=(ram.size == 256):=by rw [Bool.eq_iff_iff];simp;try omega
 have hr':ram.size<=9223372036854775807:=by unfold maxLen at hr;omega
 clear h1 h2 hr hs
 cases b1 <;> cases b2
 all_goals
  go_enter func31,ntmps31
  go_wp2_with first|(go_at_call 50;refine (mapperOf_1 _).mono ?_;rintro e w' ⟨rfl,rfl⟩)|(go_at_call 128;refine (c1 _).mono ?_;rintro e w' ⟨rfl,rfl⟩)|(go_at_call 51;refine (c2 _).mono ?_;rintro e w' ⟨rfl,rfl⟩)
  all_goals go_ret
  all_goals first|exact ⟨rfl,rfl⟩|exact ⟨ret_bool e3,rfl⟩|exact ⟨ret_bool (by rw [Bool.eq_iff_iff];simp;try omega),rfl⟩
theorem mapperOf_2 (w:World):Calls prog 50 #[.int .i64 2] w fun e w'=>e=.returned (.iface 85 (.agg #[]))/\w'=w:=mapperOf_any 2 w
theorem cartOk_2 (rom:ByteArray) (bank:Int) (ram:ByteArray) (rb:Int) (on:Bool) (mode:Int) (w:World) (hs:rom.size<=maxLen) (hr:ram.size<=maxLen) (b1 b2:Bool) (h1:(inB bank 0 255 && inB rb 0 3 && mode == 0)=b1) (h2:romB rom.size=b2) :
  Calls prog 31 #[.agg #[.string rom,.int .i64 2,.int .i64 bank,.string ram,.int .i64 rb,.bool on,.int .i64 mode]] w fun e w'=>e=.returned (.bool (b1 && b2 && ram.size == 256))/\w'=((w.alloc (.cells #[.string rom,.int .i64 2,.int .i64 bank,.string ram,.int .i64 rb,.bool on,.int .i64 mode] 27)).alloc (.cells #[] 85)).alloc (.cells #[.string rom,.int .i64 2,.int .i64 bank,.string ram,.int .i64 rb,.bool on,.int .i64 mode] 27):=by
 have c1:=fun w=>fiveHolds_any rom 2 bank ram rb on mode w
 have c2:=fun w=>romOk_any rom w hs
 rw [h1] at c1
 rw [h2] at c2
 have m:=m2
 have e3:decide ((ram.size:Int)=256)=(ram.size == 256):=by rw [Bool.eq_iff_iff];simp;try omega
 have hr':ram.size<=9223372036854775807:=by unfold maxLen at hr;omega
 clear h1 h2 hr hs
 cases b1 <;> cases b2
 all_goals
  go_enter func31,ntmps31
  go_wp2_with first|(go_at_call 50;refine (mapperOf_2 _).mono ?_;rintro e w' ⟨rfl,rfl⟩)|(go_at_call 130;refine (c1 _).mono ?_;rintro e w' ⟨rfl,rfl⟩)|(go_at_call 51;refine (c2 _).mono ?_;rintro e w' ⟨rfl,rfl⟩)
  all_goals go_ret
  all_goals first|exact ⟨rfl,rfl⟩|exact ⟨ret_bool e3,rfl⟩|exact ⟨ret_bool (by rw [Bool.eq_iff_iff];simp;try omega),rfl⟩
theorem cartOk_no (rom:ByteArray) (kind bank:Int) (ram:ByteArray) (rb:Int) (on:Bool) (mode:Int) (w:World) (h0:¬ kind=0) (h1:¬ kind=1) (h2:¬ kind=2) :
  Calls prog 31 #[.agg #[.string rom,.int .i64 kind,.int .i64 bank,.string ram,.int .i64 rb,.bool on,.int .i64 mode]] w fun e w'=>e=.returned (.bool false)/\w'=w.alloc (.cells #[.string rom,.int .i64 kind,.int .i64 bank,.string ram,.int .i64 rb,.bool on,.int .i64 mode] 27):=by
 have c:=fun w=>mapperOf_any kind w
 have e:mapV kind=.nilIface:=by unfold mapV;simp [h0,h1,h2]
 rw [e] at c
 go_enter func31,ntmps31
 go_wp2_with (go_at_call 50;refine (c _).mono ?_;rintro e w' ⟨rfl,rfl⟩)
 go_ret
 exact ⟨rfl,rfl⟩
theorem banks_no {n:Nat} (h:romB n=false):banks n=0:=by
 unfold romB at h;unfold banks;rw [if_neg (of_decide_eq_false h)]
theorem banks_yes {n:Nat} (h:romB n=true):2<=banks n/\banks n<=16/\banks n=n / 256/\n=256*(n / 256):=by
 unfold romB at h;have h:=of_decide_eq_true h;unfold banks;rw [if_pos h];omega
theorem specNot1 (rom:ByteArray) (kind bank:Int) (ram:ByteArray) (rb:Int) (on:Bool) (mode:Int) (w:World) (hs:rom.size<=maxLen) (h:romB rom.size=false) :
  Calls prog 44 #[.agg #[.string rom,.int .i64 kind,.int .i64 bank,.string ram,.int .i64 rb,.bool on,.int .i64 mode]] w fun e w'=>e=.returned (.bool false)/\w'=w.alloc (.cells #[.string rom,.int .i64 kind,.int .i64 bank,.string ram,.int .i64 rb,.bool on,.int .i64 mode] 27):=by
 have c:=fun w=>l5Banks_any rom w hs
 rw [banks_no h] at c
 go_enter func44,ntmps44
 go_wp2_with (go_at_call 60;refine (c _).mono ?_;rintro e w' ⟨rfl,rfl⟩)
 go_ret
 exact ⟨rfl,rfl⟩
theorem specNot2 (rom:ByteArray) (kind bank:Int) (ram:ByteArray) (rb:Int) (on:Bool) (mode:Int) (w:World) (hs:rom.size<=maxLen) (hr:ram.size<=maxLen) (h:romB rom.size=true) (h2:¬ ram.size=256) :
  Calls prog 44 #[.agg #[.string rom,.int .i64 kind,.int .i64 bank,.string ram,.int .i64 rb,.bool on,.int .i64 mode]] w fun e w'=>e=.returned (.bool false)/\w'=w.alloc (.cells #[.string rom,.int .i64 kind,.int .i64 bank,.string ram,.int .i64 rb,.bool on,.int .i64 mode] 27):=by
 have c:=fun w=>l5Banks_any rom w hs
 obtain ⟨z0,z1,-,-⟩:=banks_yes h
 obtain ⟨z,hz⟩ : ∃ z,z=banks rom.size:=⟨_,rfl⟩
 rw [<- hz] at c z0 z1
 have hr':ram.size<=9223372036854775807:=by unfold maxLen at hr;omega
 have d0:(z == 0)=false:=by simp;omega
 have d1:((ram.size:Int) != 256)=true:=by simp;omega
 clear hz h hs hr
 go_enter func44,ntmps44
 go_wp2_with (go_at_call 60;refine (c _).mono ?_;rintro e w' ⟨rfl,rfl⟩)
 all_goals go_ret
 all_goals exact ⟨rfl,rfl⟩
theorem specYes (rom:ByteArray) (kind bank:Int) (ram:ByteArray) (rb:Int) (on:Bool) (mode:Int) (w:World) (hs:rom.size<=maxLen) (h:romB rom.size=true) (h2:ram.size=256) :
  Calls prog 44 #[.agg #[.string rom,.int .i64 kind,.int .i64 bank,.string ram,.int .i64 rb,.bool on,.int .i64 mode]] w fun e w'=>e=.returned (.bool (heldB kind bank rb on mode))/\w'=w.alloc (.cells #[.string rom,.int .i64 kind,.int .i64 bank,.string ram,.int .i64 rb,.bool on,.int .i64 mode] 27):=by
 have c:=fun w=>l5Banks_any rom w hs
 obtain ⟨z0,z1,-,-⟩:=banks_yes h
 obtain ⟨z,hz⟩ : ∃ z,z=banks rom.size:=⟨_,rfl⟩
 rw [<- hz] at c z0 z1
 have d0:(z == 0)=false:=by simp;omega
 have d1:((ram.size:Int) != 256)=false:=by simp;omega
 clear hz h
 go_enter func44,ntmps44
 go_wp2_with first|(go_at_call 60;refine (c _).mono ?_;rintro e w' ⟨rfl,rfl⟩)|(go_at_call 45;refine (l1In_any _ _ _ _).mono ?_;rintro e w' ⟨rfl,rfl⟩)
 all_goals clear c h2 hs
 all_goals go_ret
 all_goals exact ⟨ret_bool (by rw [Bool.eq_iff_iff];simp_all [heldB,inB] <;> omega),by first|rfl|simp_all⟩
theorem specOk_any (rom:ByteArray) (kind bank:Int) (ram:ByteArray) (rb:Int) (on:Bool) (mode:Int) (w:World) (hs:rom.size<=maxLen) (hr:ram.size<=maxLen) :
  Calls prog 44 #[.agg #[.string rom,.int .i64 kind,.int .i64 bank,.string ram,.int .i64 rb,.bool on,.int .i64 mode]] w fun e w'=>e=.returned (.bool (okB rom kind bank ram rb on mode))/\w'=w.alloc (.cells #[.string rom,.int .i64 kind,.int .i64 bank,.string ram,.int .i64 rb,.bool on,.int .i64 mode] 27):=by
 cases h:romB rom.size with
 | false =>
  refine (specNot1 rom kind bank ram rb on mode w hs h).mono ?_
  rintro e w' ⟨rfl,rfl⟩
  exact ⟨ret_bool (by simp [okB,h]),rfl⟩
 | true =>
  by_cases h2:ram.size=256
  ·refine (specYes rom kind bank ram rb on mode w hs h h2).mono ?_
   rintro e w' ⟨rfl,rfl⟩
   exact ⟨ret_bool (by simp [okB,h,h2]),rfl⟩
  ·refine (specNot2 rom kind bank ram rb on mode w hs hr h h2).mono ?_
   rintro e w' ⟨rfl,rfl⟩
   exact ⟨ret_bool (by simp [okB,h,h2]),rfl⟩
end CartK
namespace CartL
open Go.Deep
open Signed (inB ret_int ret_bool isByte_any l1In_any)
open Carts CartK
theorem grow {a w:World} (h:Below a.heap.size a w) (o:Obj):Below a.heap.size a (w.alloc o):=h.alloc h.size o
theorem after {a w w':World} (h:Below a.heap.size a w) (k:Below w.heap.size w w'):Below a.heap.size a w':=h.trans (k.mono h.size)
theorem implOk_yes (rom:ByteArray) (kind bank:Int) (ram:ByteArray) (rb:Int) (on:Bool) (mode:Int) (w:World) (hs:rom.size<=maxLen) (hr:ram.size<=maxLen) (h:okB rom kind bank ram rb on mode=true) :
  Calls prog 31 #[.agg #[.string rom,.int .i64 kind,.int .i64 bank,.string ram,.int .i64 rb,.bool on,.int .i64 mode]] w fun e w'=>e=.returned (.bool true)/\∃ T:TypeId,w'=((w.alloc (.cells #[.string rom,.int .i64 kind,.int .i64 bank,.string ram,.int .i64 rb,.bool on,.int .i64 mode] 27)).alloc (.cells #[] T)).alloc (.cells #[.string rom,.int .i64 kind,.int .i64 bank,.string ram,.int .i64 rb,.bool on,.int .i64 mode] 27):=by
 have hh:=h
 simp only [okB,Bool.and_eq_true] at hh
 obtain ⟨⟨h1,h2⟩,h3⟩:=hh
 by_cases k0:kind=0
 ·subst k0
  refine (cartOk_0 rom bank ram rb on mode w hs hr true true (by simpa [heldB] using h1) h2).mono ?_
  rintro e w' ⟨rfl,rfl⟩
  exact ⟨ret_bool (by simpa using h3),_,rfl⟩
 by_cases k1:kind=1
 ·subst k1
  refine (cartOk_1 rom bank ram rb on mode w hs hr true true (by simpa [heldB] using h1) h2).mono ?_
  rintro e w' ⟨rfl,rfl⟩
  exact ⟨ret_bool (by simpa using h3),_,rfl⟩
 by_cases k2:kind=2
 ·subst k2
  refine (cartOk_2 rom bank ram rb on mode w hs hr true true (by simpa [heldB] using h1) h2).mono ?_
  rintro e w' ⟨rfl,rfl⟩
  exact ⟨ret_bool (by simpa using h3),_,rfl⟩
 exfalso
 simp [heldB,k0,k1,k2] at h1
theorem implOk_any (rom:ByteArray) (kind bank:Int) (ram:ByteArray) (rb:Int) (on:Bool) (mode:Int) (w:World) (hs:rom.size<=maxLen) (hr:ram.size<=maxLen) :
  Calls prog 31 #[.agg #[.string rom,.int .i64 kind,.int .i64 bank,.string ram,.int .i64 rb,.bool on,.int .i64 mode]] w fun e w'=>e=.returned (.bool (okB rom kind bank ram rb on mode))/\Below w.heap.size w w':=by
 by_cases k0:kind=0
 ·subst k0
  refine (cartOk_0 rom bank ram rb on mode w hs hr _ _ rfl rfl).mono ?_
  rintro e w' ⟨rfl,rfl⟩
  exact ⟨rfl,((zRf.alloc (by simp) _).alloc (by simp) _).alloc (by simp;try omega) _⟩
 by_cases k1:kind=1
 ·subst k1
  refine (cartOk_1 rom bank ram rb on mode w hs hr _ _ rfl rfl).mono ?_
  rintro e w' ⟨rfl,rfl⟩
  exact ⟨rfl,((zRf.alloc (by simp) _).alloc (by simp) _).alloc (by simp;try omega) _⟩
 by_cases k2:kind=2
 ·subst k2
  refine (cartOk_2 rom bank ram rb on mode w hs hr _ _ rfl rfl).mono ?_
  rintro e w' ⟨rfl,rfl⟩
  exact ⟨rfl,((zRf.alloc (by simp) _).alloc (by simp) _).alloc (by simp;try omega) _⟩
 refine (cartOk_no rom kind bank ram rb on mode w k0 k1 k2).mono ?_
 rintro e w' ⟨rfl,rfl⟩
 exact ⟨ret_bool (by simp [okB,heldB,k0,k1,k2]),zRf.alloc (by simp) _⟩
end CartL
section
theorem zGr {a w:World} (h:Below a.heap.size a w) (o:Obj):Below a.heap.size a (w.alloc o):=h.alloc h.size o
end
namespace CartM
open Go.Deep
open Signed (inB ret_int ret_bool isByte_any l1In_any)
open Carts CartK CartL
theorem right (rom:ByteArray) (kind bank:Int) (ram:ByteArray) (rb:Int) (on:Bool) (mode:Int) (h:okB rom kind bank ram rb on mode=true) :
  ∃ n:Nat,2<=n/\n<=16/\rom.size=256*n/\banks rom.size=n/\ram.size=256/\0<=bank/\bank<=255/\0<=rb/\rb<=3/\0<=mode/\mode<=1/\(kind=0/\on=false \/ kind=1 \/ kind=2/\mode=0):=by
 simp only [okB,Bool.and_eq_true,beq_iff_eq] at h
 obtain ⟨⟨h1,h2⟩,h3⟩:=h
 obtain ⟨z0,z1,z2,z3⟩:=banks_yes h2
 refine ⟨rom.size / 256,by omega,by omega,z3,by omega,h3,?_⟩
 unfold heldB inB at h1
 by_cases k0:kind=0
 ·rw [if_pos k0] at h1
  simp at h1
  obtain ⟨h4,h5,h6,h7⟩:=h1
  exact ⟨by omega,by omega,by omega,by omega,by omega,by omega,.inl ⟨k0,h7⟩⟩
 rw [if_neg k0] at h1
 by_cases k1:kind=1
 ·rw [if_pos k1] at h1
  simp at h1
  omega
 rw [if_neg k1] at h1
 by_cases k2:kind=2
 ·rw [if_pos k2] at h1
  simp at h1
  omega
 rw [if_neg k2] at h1
 cases h1
theorem bankSeen_any (rom:ByteArray) (kind bank:Int) (ram:ByteArray) (rb:Int) (on:Bool) (mode:Int) (w:World) (n:Nat) (n0:2<=n) (n1:n<=16) (hn:rom.size=256*n) (b0:0<=bank) (b1:bank<=255) :
  Calls prog 62 #[.agg #[.string rom,.int .i64 kind,.int .i64 bank,.string ram,.int .i64 rb,.bool on,.int .i64 mode]] w fun e w'=>e=.returned (.int .i64 (bank%n))/\w'=w.alloc (.cells #[.string rom,.int .i64 kind,.int .i64 bank,.string ram,.int .i64 rb,.bool on,.int .i64 mode] 27):=by
 have q:(rom.size:Int) / 256=n:=by omega
 go_enter func62,ntmps62
 go_wp2
 go_ret
 exact ⟨rfl,rfl⟩
end CartM
namespace CartN
open Go.Deep
open Signed (inB ret_int ret_bool isByte_any l1In_any)
open Carts CartK CartL CartM
theorem infoB:(prog.info? 5).map (fun i=>(i.zero,i.size,i.bytes))=some (some (.int .u8 0),1,1):=by kernel_rfl
theorem info_parts {P:Program} {t:TypeId} {z:Value} {s b:Nat} (h:(P.info? t).map (fun i=>(i.zero,i.size,i.bytes))=some (some z,s,b)):∃ i,P.info? t=some i/\i.zero=some z/\i.size=s/\i.bytes=b:=by
 cases e:P.info? t with
 | none=>rw [e] at h;cases h
 | some i =>
  rw [e] at h
  simp only [Option.map_some,Option.some.injEq,Prod.mk.injEq] at h
  exact ⟨i,rfl,h.1,h.2.1,h.2.2⟩
def Z (n:Nat):ByteArray:=⟨(List.replicate n (0:UInt8)).toArray⟩
theorem Z_size (n:Nat):(Z n).size=n:=by simp [Z,ByteArray.size]
theorem made (n:Nat) (hn:n<=1000):∃ o:Obj,∀ u:World,(Instr.makeSlice 22 (.int .i64 (n:Int)) (.int .i64 (n:Int))).run prog u=.ok (.slice (some ⟨u.heap.size,0,none⟩) n n) (u.alloc o) /\
  (convert 22 9 (.slice (some ⟨u.heap.size,0,none⟩) n n)).run prog (u.alloc o)=.ok (.string (Z n)) (u.alloc o):=by
 obtain ⟨i0,hi,hz0,hz1,hz2⟩:=info_parts infoB
 refine ⟨.cells (madeCells #[.int .u8 0] n) 5,fun u=>⟨?_,?_⟩⟩
 ·have h:=run_make (P:=prog) u 22 5 i0 (.int .u8 0) underlying22 hi hz0 .i64 .i64 (n:Int) (n:Int) (by omega) (Int.le_refl _) (by rw [hz2];omega) (by omega)
  simpa [hz1,Value.cells] using h
 ·have h:=run_convert_bytes_back (P:=prog) (u.alloc (.cells (madeCells #[.int .u8 0] n) 5)) 22 9 5 ⟨u.heap.size,0,none⟩ n (List.replicate n 0) underlying22 underlying5 underlying9 (fun j hj=>by
   have hj':j<n:=by simpa using hj
   have ea:(⟨u.heap.size,0,none⟩ : Addr).add j=⟨u.heap.size,j,none⟩:=by unfold Addr.add;split <;> simp_all
   rw [ea,World.cell?_alloc_new,<- Array.getElem?_toList,toList_madeCells_one]
   simp [hj'])
  simpa [Z] using h
def newB (rom:ByteArray) (kind:Int):Bool:=okB rom kind 1 (Z 256) 0 false 0
def noCart:Value:=.agg #[.string ⟨#[]⟩,.int .i64 0,.int .i64 0,.string ⟨#[]⟩,.int .i64 0,.bool false,.int .i64 0]
def newCart (rom:ByteArray) (kind:Int):Value:=.agg #[.string rom,.int .i64 kind,.int .i64 1,.string (Z 256),.int .i64 0,.bool false,.int .i64 0]
theorem zmax:(Z 256).size<=maxLen:=by rw [Z_size];decide
theorem specNew_any (rom:ByteArray) (kind:Int) (w:World) (hs:rom.size<=maxLen) (b:Bool) (h:newB rom kind=b) :
  Calls prog 52 #[.string rom,.int .i64 kind] w fun e w'=>e=.returned (.tuple #[if b=true then newCart rom kind else noCart,.bool b])/\∃ o1 o2 o3 o4,w'=(((w.alloc o1).alloc o2).alloc o3).alloc o4:=by
 obtain ⟨o,hh⟩:=made 256 (by decide)
 have h1:∀ u:World,(Instr.makeSlice 22 (.int .i64 256) (.int .i64 256)).run prog u=.ok (.slice (some ⟨u.heap.size,0,none⟩) 256 256) (u.alloc o):=fun u=>(hh u).1
 have h2:∀ (u:World) (p:Obj),(convert 22 9 (.slice (some ⟨u.heap.size+1,0,none⟩) 256 256)).run prog ((u.alloc p).alloc o)=.ok (.string (Z 256)) ((u.alloc p).alloc o):=fun u p=>by
  have h:=(hh (u.alloc p)).2
  simpa using h
 have c:=fun w=>specOk_any rom kind 1 (Z 256) 0 false 0 w hs zmax
 unfold newB at h
 rw [h] at c
 clear hh h hs
 cases b
 ·go_enter func52,ntmps52
  go_wp2_with (go_at_call 44;refine (c _).mono ?_;rintro e w' ⟨rfl,rfl⟩)
  exact bodyPost_ret (v:=.tuple #[noCart,.bool false]) (by simp [results,results52,noCart,go_sem]) rfl ⟨rfl,_,_,_,_,rfl⟩
 ·go_enter func52,ntmps52
  go_wp2_with (go_at_call 44;refine (c _).mono ?_;rintro e w' ⟨rfl,rfl⟩)
  exact bodyPost_ret (v:=.tuple #[newCart rom kind,.bool true]) (by simp [results,results52,newCart,go_sem]) rfl ⟨rfl,_,_,_,_,rfl⟩
end CartN
namespace CartR
open Go.Deep
open Signed (inB ret_int ret_bool isByte_any l1In_any)
open Carts CartK CartL CartM
def byteAt (s:ByteArray) (i:Int):Int:=if h:i.toNat<s.size then ((s[i.toNat]'h).toNat:Int) else 0
theorem byteAt_eq {s:ByteArray} {i:Int} (h:i.toNat<s.size):((s[i.toNat]'h).toNat:Int)=byteAt s i:=by unfold byteAt;rw [dif_pos h]
theorem byteAt_bd (s:ByteArray) (i:Int):0<=byteAt s i/\byteAt s i<=255:=by
 unfold byteAt
 split
 ·rename_i h
  have:=(s[i.toNat]'h).toNat_lt
  omega
 ·omega
theorem byteAt_wrap {s:ByteArray} {i:Int} (h:i.toNat<s.size):wrap64 ((s[i.toNat]'h).toNat:Int)=byteAt s i:=by
 rw [byteAt_eq h]
 have:=byteAt_bd s i
 unfold wrap64
 omega
theorem byteAt_wrapk {s:ByteArray} {i:Int} (h:i.toNat<s.size):IntKind.i64.wrap ((s[i.toNat]'h).toNat:Int)=byteAt s i:=by
 rw [byteAt_eq h]
 have:=byteAt_bd s i
 rw [IntKind.wrap_i64]
 omega
def ramQ (kind rb mode:Int):Int:=if kind=1/\mode=0 then 0 else rb
theorem ramQ_bd {kind rb mode:Int} (h0:0<=rb) (h1:rb<=3):0<=ramQ kind rb mode/\ramQ kind rb mode<=3:=by unfold ramQ;split <;> omega
theorem l4Word_any (n:Int) (w:World) :
  Calls prog 23 #[.int .i64 n] w fun e w'=>e=.returned (.bool (inB n 0 65535))/\w'=w:=by
 go_enter func23,ntmps23
 go_wp2_with (go_at_call 45;refine (l1In_any _ _ _ _).mono ?_;rintro e w' ⟨rfl,rfl⟩)
 go_ret
 exact ⟨rfl,rfl⟩
theorem isWord_any (n:Int) (w:World) :
  Calls prog 18 #[.int .i64 n] w fun e w'=>e=.returned (.bool (inB n 0 65535))/\w'=w:=by
 go_enter func18,ntmps18
 go_wp2
 all_goals go_ret
 all_goals exact ⟨ret_bool (by rw [Bool.eq_iff_iff];simp [inB];try omega),rfl⟩
theorem as01 (w:World):(Instr.typeAssert (.iface 83 (.agg #[])) 69 84 true).run prog w=.ok (.tuple #[.agg #[],.bool false]) w:=by kernel_rfl
theorem as02 (w:World):(Instr.typeAssert (.iface 83 (.agg #[])) 69 85 true).run prog w=.ok (.tuple #[.agg #[],.bool false]) w:=by kernel_rfl
theorem as11 (w:World):(Instr.typeAssert (.iface 84 (.agg #[])) 69 84 true).run prog w=.ok (.tuple #[.agg #[],.bool true]) w:=by kernel_rfl
theorem as12 (w:World):(Instr.typeAssert (.iface 84 (.agg #[])) 69 85 true).run prog w=.ok (.tuple #[.agg #[],.bool false]) w:=by kernel_rfl
theorem as21 (w:World):(Instr.typeAssert (.iface 85 (.agg #[])) 69 84 true).run prog w=.ok (.tuple #[.agg #[],.bool false]) w:=by kernel_rfl
theorem as22 (w:World):(Instr.typeAssert (.iface 85 (.agg #[])) 69 85 true).run prog w=.ok (.tuple #[.agg #[],.bool true]) w:=by kernel_rfl
theorem seen_1 (rom:ByteArray) (bank:Int) (ram:ByteArray) (rb:Int) (on:Bool) (mode:Int) (w:World) (h0:0<=rb) (h1:rb<=3) (m0:0<=mode) (m1:mode<=1) :
  Calls prog 77 #[.agg #[.string rom,.int .i64 1,.int .i64 bank,.string ram,.int .i64 rb,.bool on,.int .i64 mode]] w fun e w'=>e=.returned (.int .i64 (ramQ 1 rb mode))/\w'=w.alloc (.cells #[.string rom,.int .i64 1,.int .i64 bank,.string ram,.int .i64 rb,.bool on,.int .i64 mode] 27):=by
 have hm:mode=0 \/ mode=1:=by omega
 have a1:=as11
 have a2:=as12
 rcases hm with rfl|rfl
 all_goals
  go_enter func77,ntmps77
  go_wp2_with (go_at_call 50;refine (mapperOf_1 _).mono ?_;rintro e w' ⟨rfl,rfl⟩)
  go_ret
  exact ⟨ret_int (by simp [ramQ]),rfl⟩
theorem seen_2 (rom:ByteArray) (bank:Int) (ram:ByteArray) (rb:Int) (on:Bool) (mode:Int) (w:World) :
  Calls prog 77 #[.agg #[.string rom,.int .i64 2,.int .i64 bank,.string ram,.int .i64 rb,.bool on,.int .i64 mode]] w fun e w'=>e=.returned (.int .i64 (ramQ 2 rb mode))/\w'=w.alloc (.cells #[.string rom,.int .i64 2,.int .i64 bank,.string ram,.int .i64 rb,.bool on,.int .i64 mode] 27):=by
 have a1:=as21
 have a2:=as22
 go_enter func77,ntmps77
 go_wp2_with (go_at_call 50;refine (mapperOf_2 _).mono ?_;rintro e w' ⟨rfl,rfl⟩)
 go_ret
 exact ⟨ret_int (by simp [ramQ]),rfl⟩
theorem seen_any (rom:ByteArray) (kind bank:Int) (ram:ByteArray) (rb:Int) (on:Bool) (mode:Int) (w:World) (h0:0<=rb) (h1:rb<=3) (m0:0<=mode) (m1:mode<=1) (hk:kind=1 \/ kind=2) :
  Calls prog 77 #[.agg #[.string rom,.int .i64 kind,.int .i64 bank,.string ram,.int .i64 rb,.bool on,.int .i64 mode]] w fun e w'=>e=.returned (.int .i64 (ramQ kind rb mode))/\w'=w.alloc (.cells #[.string rom,.int .i64 kind,.int .i64 bank,.string ram,.int .i64 rb,.bool on,.int .i64 mode] 27):=by
 rcases hk with rfl|rfl
 ·exact seen_1 rom bank ram rb on mode w h0 h1 m0 m1
 ·exact seen_2 rom bank ram rb on mode w
theorem l5RamBank_any (rom:ByteArray) (kind bank:Int) (ram:ByteArray) (rb:Int) (on:Bool) (mode:Int) (w:World) :
  Calls prog 61 #[.agg #[.string rom,.int .i64 kind,.int .i64 bank,.string ram,.int .i64 rb,.bool on,.int .i64 mode]] w fun e w'=>e=.returned (.int .i64 (ramQ kind rb mode))/\w'=w.alloc (.cells #[.string rom,.int .i64 kind,.int .i64 bank,.string ram,.int .i64 rb,.bool on,.int .i64 mode] 27):=by
 go_enter func61,ntmps61
 go_wp2
 all_goals go_ret
 all_goals exact ⟨ret_int (by simp_all [ramQ]),by first|rfl|simp_all⟩
theorem place_no (rom:ByteArray) (kind bank:Int) (ram:ByteArray) (rb:Int) (on:Bool) (mode:Int) (addr:Int) (w:World) (h:on=false \/ addr<40960 \/ 41024<=addr) :
  Calls prog 59 #[.agg #[.string rom,.int .i64 kind,.int .i64 bank,.string ram,.int .i64 rb,.bool on,.int .i64 mode],.int .i64 addr] w fun e w'=>e=.returned (.int .i64 (-1))/\w'=w.alloc (.cells #[.string rom,.int .i64 kind,.int .i64 bank,.string ram,.int .i64 rb,.bool on,.int .i64 mode] 27):=by
 cases on with
 | false =>
  go_enter func59,ntmps59
  go_wp2
  go_ret
  exact ⟨rfl,rfl⟩
 | true =>
  have h':addr<40960 \/ 41024<=addr:=by simpa using h
  rcases h' with h'|h'
  ·go_enter func59,ntmps59
   go_wp2
   go_ret
   exact ⟨rfl,rfl⟩
  ·have d:¬ addr<40960:=by omega
   have d2:decide (addr<40960)=false:=decide_eq_false d
   go_enter func59,ntmps59
   go_wp2
   go_ret
   exact ⟨rfl,rfl⟩
theorem place_yes (rom:ByteArray) (kind bank:Int) (ram:ByteArray) (rb:Int) (mode:Int) (addr:Int) (w:World) (h0:0<=rb) (h1:rb<=3) (m0:0<=mode) (m1:mode<=1) (hk:kind=1 \/ kind=2) (a0:40960<=addr) (a1:addr<41024) (r:Int) (hr:ramQ kind rb mode=r) :
  Calls prog 59 #[.agg #[.string rom,.int .i64 kind,.int .i64 bank,.string ram,.int .i64 rb,.bool true,.int .i64 mode],.int .i64 addr] w fun e w'=>e=.returned (.int .i64 (r*64+addr-40960))/\w'=(w.alloc (.cells #[.string rom,.int .i64 kind,.int .i64 bank,.string ram,.int .i64 rb,.bool true,.int .i64 mode] 27)).alloc (.cells #[.string rom,.int .i64 kind,.int .i64 bank,.string ram,.int .i64 rb,.bool true,.int .i64 mode] 27):=by
 have c:=fun w=>seen_any rom kind bank ram rb true mode w h0 h1 m0 m1 hk
 obtain ⟨r0,r1⟩:=ramQ_bd (kind:=kind) (mode:=mode) h0 h1
 rw [hr] at c r0 r1
 have d2:decide (addr<40960)=false:=decide_eq_false (by omega)
 have d3:decide (41024<=addr)=false:=decide_eq_false (by omega)
 clear hr hk h0 h1 m0 m1
 go_enter func59,ntmps59
 go_wp2_with (go_at_call 77;refine (c _).mono ?_;rintro e w' ⟨rfl,rfl⟩)
 go_ret
 exact ⟨rfl,rfl⟩
def rdV (rom:ByteArray) (q:Int) (ram:ByteArray) (r:Int) (on:Bool) (addr:Int):Int :=
 if addr<256 then byteAt rom addr else if addr<512 then byteAt rom (q*256+addr-256) else if on=true/\40960<=addr/\addr<41024 then byteAt ram (r*64+addr-40960) else 255
theorem rdV_bd (rom:ByteArray) (q:Int) (ram:ByteArray) (r:Int) (on:Bool) (addr:Int):0<=rdV rom q ram r on addr/\rdV rom q ram r on addr<=255:=by
 unfold rdV
 split;exact byteAt_bd _ _
 split;exact byteAt_bd _ _
 split;exact byteAt_bd _ _
 omega
theorem read1 (rom:ByteArray) (kind bank:Int) (ram:ByteArray) (rb:Int) (on:Bool) (mode:Int) (addr:Int) (w:World) (s0:512<=rom.size) (a0:0<=addr) (a1:addr<256) :
  Calls prog 48 #[.agg #[.string rom,.int .i64 kind,.int .i64 bank,.string ram,.int .i64 rb,.bool on,.int .i64 mode],.int .i64 addr] w fun e w'=>e=.returned (.int .i64 (byteAt rom addr))/\Below w.heap.size w w':=by
 have h:addr.toNat<rom.size:=by omega
 have hb:=byteAt_wrap h
 go_enter func48,ntmps48
 go_wp2
 go_ret
 exact ⟨ret_int hb,by repeat (with_reducible first|exact zRf|refine zGr ?_ _|refine below_drewN ?_ _|refine Below.drew ?_)⟩
theorem read2 (rom:ByteArray) (kind bank:Int) (ram:ByteArray) (rb:Int) (on:Bool) (mode:Int) (addr q:Int) (w:World) (s1:rom.size<=4096) (q0:0<=q) (q1:q<=15) (q2:q*256+256<=rom.size) (a0:256<=addr) (a1:addr<512)
  (c2:∀ w,Calls prog 62 #[.agg #[.string rom,.int .i64 kind,.int .i64 bank,.string ram,.int .i64 rb,.bool on,.int .i64 mode]] w fun e w'=>e=.returned (.int .i64 q)/\w'=w.alloc (.cells #[.string rom,.int .i64 kind,.int .i64 bank,.string ram,.int .i64 rb,.bool on,.int .i64 mode] 27)) :
  Calls prog 48 #[.agg #[.string rom,.int .i64 kind,.int .i64 bank,.string ram,.int .i64 rb,.bool on,.int .i64 mode],.int .i64 addr] w fun e w'=>e=.returned (.int .i64 (byteAt rom (q*256+addr-256)))/\Below w.heap.size w w':=by
 have i0:0<=q*256+addr-256:=by omega
 have i1:q*256+addr-256<(rom.size:Int):=by omega
 have h:(q*256+addr-256).toNat<rom.size:=by omega
 have hb:=byteAt_wrap h
 have e1:IntKind.i64.wrap (q*256)=q*256:=by rw [IntKind.wrap_i64];omega
 have e2:IntKind.i64.wrap (q*256+addr)=q*256+addr:=by rw [IntKind.wrap_i64];omega
 have e3:IntKind.i64.wrap (q*256+addr-256)=q*256+addr-256:=by rw [IntKind.wrap_i64];omega
 go_enter func48,ntmps48
 go_wp2
 go_region_with (go_at_call 62;refine (c2 _).mono ?_;rintro e w' ⟨rfl,rfl⟩)
 all_goals go_wp2
 all_goals go_ret
 all_goals exact ⟨ret_int (byteAt_wrapk h),by repeat (with_reducible first|exact zRf|refine zGr ?_ _|refine below_drewN ?_ _|refine Below.drew ?_)⟩
theorem read4 (rom:ByteArray) (kind bank:Int) (ram:ByteArray) (rb:Int) (on:Bool) (mode:Int) (addr:Int) (w:World) (a0:512<=addr) (h:on=false \/ addr<40960 \/ 41024<=addr) :
  Calls prog 48 #[.agg #[.string rom,.int .i64 kind,.int .i64 bank,.string ram,.int .i64 rb,.bool on,.int .i64 mode],.int .i64 addr] w fun e w'=>e=.returned (.int .i64 255)/\Below w.heap.size w w':=by
 have c:=fun w=>place_no rom kind bank ram rb on mode addr w h
 clear h
 go_enter func48,ntmps48
 go_wp2_with (go_at_call 59;refine (c _).mono ?_;rintro e w' ⟨rfl,rfl⟩)
 go_ret
 exact ⟨rfl,by repeat (with_reducible first|exact zRf|refine zGr ?_ _|refine below_drewN ?_ _|refine Below.drew ?_)⟩
theorem read3 (rom:ByteArray) (kind bank:Int) (ram:ByteArray) (rb:Int) (mode:Int) (addr r:Int) (w:World) (sr:ram.size=256) (h0:0<=rb) (h1:rb<=3) (m0:0<=mode) (m1:mode<=1) (hk:kind=1 \/ kind=2) (a0:40960<=addr) (a1:addr<41024) (hr:ramQ kind rb mode=r) :
  Calls prog 48 #[.agg #[.string rom,.int .i64 kind,.int .i64 bank,.string ram,.int .i64 rb,.bool true,.int .i64 mode],.int .i64 addr] w fun e w'=>e=.returned (.int .i64 (byteAt ram (r*64+addr-40960)))/\Below w.heap.size w w':=by
 have c:=fun w=>place_yes rom kind bank ram rb mode addr w h0 h1 m0 m1 hk a0 a1 r hr
 obtain ⟨r0,r1⟩:=ramQ_bd (kind:=kind) (mode:=mode) h0 h1
 rw [hr] at r0 r1
 clear hr hk h0 h1 m0 m1
 have i0:0<=r*64+addr-40960:=by omega
 have i1:r*64+addr-40960<(ram.size:Int):=by omega
 have h:(r*64+addr-40960).toNat<ram.size:=by omega
 clear sr
 have hb:=byteAt_wrap h
 go_enter func48,ntmps48
 go_wp2_with (go_at_call 59;refine (c _).mono ?_;rintro e w' ⟨rfl,rfl⟩)
 go_ret
 exact ⟨ret_int hb,by repeat (with_reducible first|exact zRf|refine zGr ?_ _|refine below_drewN ?_ _|refine Below.drew ?_)⟩
theorem sread1 (rom:ByteArray) (kind bank:Int) (ram:ByteArray) (rb:Int) (on:Bool) (mode:Int) (addr:Int) (w:World) (s0:512<=rom.size) (a0:0<=addr) (a1:addr<256) :
  Calls prog 49 #[.agg #[.string rom,.int .i64 kind,.int .i64 bank,.string ram,.int .i64 rb,.bool on,.int .i64 mode],.int .i64 addr] w fun e w'=>e=.returned (.int .i64 (byteAt rom addr))/\Below w.heap.size w w':=by
 have h:addr.toNat<rom.size:=by omega
 have hb:=byteAt_wrap h
 have b1:inB addr 0 255=true:=decide_eq_true (by omega)
 have c:=fun w=>l1In_any addr 0 255 w
 rw [b1] at c
 go_enter func49,ntmps49
 go_wp2_with (go_at_call 45;refine (c _).mono ?_;rintro e w' ⟨rfl,rfl⟩)
 go_ret
 exact ⟨ret_int hb,by repeat (with_reducible first|exact zRf|refine zGr ?_ _|refine below_drewN ?_ _|refine Below.drew ?_)⟩
end CartR
namespace ReckM
open Signed (inB ret_int ret_bool isByte_any l1In_any sgn specSigned_any)
open Reck ReckS
def zB (f:Int):Bool:=decide (f / 128%2=1)
def nB (f:Int):Bool:=decide (f / 64%2=1)
def hB (f:Int):Bool:=decide (f / 32%2=1)
def cB (f:Int):Bool:=decide (cy f=1)
def st8R (v f:Int) (down:Bool):Int × Int :=
 if down=true then ((v+255)%256,fl (decide ((v+255)%256=0)) true (decide (v%16=0)) (cB f)) else ((v+1)%256,fl (decide ((v+1)%256=0)) false (decide (v%16=15)) (cB f))
def st8 (v f:Int) (down:Bool):Int × Int:=if (inB v 0 255 && inB f 0 255)=true then st8R v f down else (0,0)
theorem beq_dec' (x y:Int):(x == y)=decide (x=y):=by rw [Bool.eq_iff_iff];simp
theorem specStepped8_any (v f:Int) (down:Bool) (w:World) :
  Calls prog 92 #[.int .i64 v,.int .i64 f,.bool down] w fun e w'=>e=.returned (.tuple #[.int .i64 (st8 v f down).1,.int .i64 (st8 v f down).2])/\w'=w:=by
 unfold st8
 cases hv:inB v 0 255 <;> cases hf:inB f 0 255
 case true.true =>
  obtain ⟨v0,v1⟩:=of_decide_eq_true hv
  obtain ⟨f0,f1⟩:=of_decide_eq_true hf
  cases down
  all_goals
   go_enter func92,ntmps92
   go_wp2_with (first|(go_at_call 24;refine (l4Byte_any _ _).mono ?_;rintro e w' ⟨rfl,rfl⟩)|(go_at_call 83;refine (l4Flags_any _ _ _ _ _).mono ?_;rintro e w3 ⟨rfl,rfl⟩)|(go_at_call 84;refine (l4Carry_any _ _ f0 f1).mono ?_;rintro e w3 ⟨rfl,rfl⟩))
   go_ret2
   refine ⟨ret_two rfl (fl_congr ?_ rfl ?_ ?_),rfl⟩
   all_goals first|exact beq_dec' _ _|rfl
 all_goals
  go_enter func92,ntmps92
  go_wp2_with (go_at_call 24;refine (l4Byte_any _ _).mono ?_;rintro e w' ⟨rfl,rfl⟩)
  go_ret2
  exact ⟨rfl,rfl⟩
def awR (a b f:Int):Int × Int:=((a+b)%65536,fl (zB f) false (decide (4095<a%4096+b%4096)) (decide (65535<a+b)))
def aw (a b f:Int):Int × Int:=if (inB a 0 65535 && inB b 0 65535 && inB f 0 255)=true then awR a b f else (0,0)
theorem specAddWords_any (a b f:Int) (w:World) :
  Calls prog 89 #[.int .i64 a,.int .i64 b,.int .i64 f] w fun e w'=>e=.returned (.tuple #[.int .i64 (aw a b f).1,.int .i64 (aw a b f).2])/\w'=w:=by
 unfold aw
 cases ha:inB a 0 65535 <;> cases hb:inB b 0 65535 <;> cases hf:inB f 0 255
 case true.true.true =>
  obtain ⟨a0,a1⟩:=of_decide_eq_true ha
  obtain ⟨b0,b1⟩:=of_decide_eq_true hb
  obtain ⟨f0,f1⟩:=of_decide_eq_true hf
  go_enter func89,ntmps89
  go_wp2_with (first|(go_at_call 24;refine (l4Byte_any _ _).mono ?_;rintro e w' ⟨rfl,rfl⟩)|(go_at_call 23;refine (l4Word_any _ _).mono ?_;rintro e w' ⟨rfl,rfl⟩)|(go_at_call 83;refine (l4Flags_any _ _ _ _ _).mono ?_;rintro e w3 ⟨rfl,rfl⟩))
  go_ret2
  refine ⟨ret_two rfl (fl_congr ?_ rfl rfl rfl),rfl⟩
  unfold zB;rw [Bool.eq_iff_iff];simp;omega
 all_goals
  go_enter func89,ntmps89
  go_wp2_with (first|(go_at_call 24;refine (l4Byte_any _ _).mono ?_;rintro e w' ⟨rfl,rfl⟩)|(go_at_call 23;refine (l4Word_any _ _).mono ?_;rintro e w' ⟨rfl,rfl⟩))
  go_ret2
  exact ⟨rfl,rfl⟩
def asR (sp b:Int):Int × Int:=((sp+sgn b)%65536,fl false false (decide (15<sp%16+b%16)) (decide (255<sp%256+b)))
def asg (sp b:Int):Int × Int:=if (inB sp 0 65535 && inB b 0 255)=true then asR sp b else (0,0)
theorem sgn_bd (b:Int):-128<=sgn b/\sgn b<=127:=by unfold sgn;split <;> (try split) <;> omega
theorem specAddSigned_any (sp b:Int) (w:World) :
  Calls prog 95 #[.int .i64 sp,.int .i64 b] w fun e w'=>e=.returned (.tuple #[.int .i64 (asg sp b).1,.int .i64 (asg sp b).2])/\w'=w:=by
 unfold asg
 obtain ⟨s0,s1⟩:=sgn_bd b
 cases ha:inB sp 0 65535 <;> cases hb:inB b 0 255
 case true.true =>
  obtain ⟨a0,a1⟩:=of_decide_eq_true ha
  obtain ⟨b0,b1⟩:=of_decide_eq_true hb
  go_enter func95,ntmps95
  go_wp2_with (first|(go_at_call 24;refine (l4Byte_any _ _).mono ?_;rintro e w' ⟨rfl,rfl⟩)|(go_at_call 23;refine (l4Word_any _ _).mono ?_;rintro e w' ⟨rfl,rfl⟩)|(go_at_call 83;refine (l4Flags_any _ _ _ _ _).mono ?_;rintro e w3 ⟨rfl,rfl⟩)|(go_at_call 87;refine (specSigned_any _ _).mono ?_;rintro e w3 ⟨rfl,rfl⟩))
  go_ret2
  refine ⟨ret_two ?_ rfl,rfl⟩
  unfold asR;simp;try omega
 all_goals
  go_enter func95,ntmps95
  go_wp2_with (first|(go_at_call 24;refine (l4Byte_any _ _).mono ?_;rintro e w' ⟨rfl,rfl⟩)|(go_at_call 23;refine (l4Word_any _ _).mono ?_;rintro e w' ⟨rfl,rfl⟩))
  go_ret2
  exact ⟨rfl,rfl⟩
end ReckM
namespace ReckD
open Signed (inB ret_int ret_bool isByte_any l1In_any)
open Reck ReckS ReckM
def daaK (n h c p q:Bool):Int:=let k:=(if (h || (!n && p))=true then 6 else 0)+(if (c || (!n && q))=true then 96 else 0);if n=true then 256-k else k
def daaP (a:Int) (n h c p q:Bool):Int × Int:=((a+daaK n h c p q)%256,fl (decide ((a+daaK n h c p q)%256=0)) n false (c || (!n && q)))
def daaR (a f:Int):Int × Int:=daaP a (nB f) (hB f) (cB f) (decide (9<a%16)) (decide (153<a))
def daa (a f:Int):Int × Int:=if (inB a 0 255 && inB f 0 255)=true then daaR a f else (0,0)
theorem fl_close {z z' n c:Bool} (e0:z=z'):fl z n false c=fl z' n false c:=by rw [e0]
theorem specDaa_any (a f:Int) (w:World) :
  Calls prog 108 #[.int .i64 a,.int .i64 f] w fun e w'=>e=.returned (.tuple #[.int .i64 (daa a f).1,.int .i64 (daa a f).2])/\w'=w:=by
 unfold daa
 cases ha:inB a 0 255 <;> cases hf:inB f 0 255
 case true.true =>
  obtain ⟨a0,a1⟩:=of_decide_eq_true ha
  obtain ⟨f0,f1⟩:=of_decide_eq_true hf
  show Calls _ _ _ _ fun e w'=>e=.returned (.tuple #[.int .i64 (daaR a f).1,.int .i64 (daaR a f).2])/\w'=w
  have cb:=cy_bd f
  unfold daaR daaP
  have q1:chz true 6 0=6:=rfl
  have q2:chz false 6 0=0:=rfl
  have q3:chz true 96 0=96:=rfl
  have q4:chz false 96 0=0:=rfl
  cases hn:nB f <;> cases hh:hB f <;> cases hc:cB f <;> cases d9:decide (9<a%16) <;> cases d153:decide (153<a) <;> simp only [nB,hB,cB,decide_eq_true_eq,decide_eq_false_iff_not] at hn hh hc
  all_goals
   generalize hk:daaK _ _ _ _ _=k
   simp only [daaK,Bool.not_true,Bool.not_false,Bool.and_true,Bool.and_false,Bool.true_and,Bool.false_and,Bool.or_true,Bool.or_false,Bool.true_or,Bool.false_or,if_true,if_false,Bool.false_eq_true] at hk |-
   have HK:Hid (_=k):=hk
   clear hk
   first|have g64:f / 64%2=0:=by omega|have g64:f / 64%2=1:=by omega
   first|have g32:f / 32%2=0:=by omega|have g32:f / 32%2=1:=by omega
   first|have g16:cy f=0:=by omega|have g16:cy f=1:=by omega
   clear hn hh hc cb
   first|have p9:=of_decide_eq_true d9|have p9:=of_decide_eq_false d9
   first|have p153:=of_decide_eq_true d153|have p153:=of_decide_eq_false d153
   go_enter func108,ntmps108
   go_wp2_with (first|(go_at_call 24;refine (l4Byte_any _ _).mono ?_;rintro e w' ⟨rfl,rfl⟩)|(go_at_call 83;refine (l4Flags_any _ _ _ _ _).mono ?_;rintro e w3 ⟨rfl,rfl⟩)|(go_at_call 84;refine (l4Carry_any _ _ f0 f1).mono ?_;rintro e w3 ⟨rfl,rfl⟩))
   go_ret2
   rw [beq_dec]
   have hk:=HK.out
   refine ⟨ret_two (by omega) (fl_close (congrArg (fun x:Int=>decide (x=0)) (by omega))),by first|trivial|rfl⟩
 all_goals
  go_enter func108,ntmps108
  go_wp2_with (go_at_call 24;refine (l4Byte_any _ _).mono ?_;rintro e w' ⟨rfl,rfl⟩)
  go_ret2
  exact ⟨rfl,rfl⟩
end ReckD
namespace TurnS
open Signed (inB ret_int ret_bool isByte_any l1In_any)
open Reck ReckS ReckM
def trnP (op v c:Int):Int × Int :=
 if op=0 then (v*2%256+v / 128,v / 128) else
 if op=1 then (v / 2+128*(v%2),v%2) else
 if op=2 then (v*2%256+c,v / 128) else
 if op=3 then (v / 2+128*c,v%2) else
 if op=4 then (v*2%256,v / 128) else
 if op=5 then (v / 2+128*(v / 128),v%2) else
 if op=6 then (v%16*16+v / 16,0) else
 (v / 2,v%2)
def trnR (op v f:Int):Int × Int:=((trnP op v (cy f)).1,fl (decide ((trnP op v (cy f)).1=0)) false false (decide ((trnP op v (cy f)).2=1)))
theorem l4Turned_any (op v f:Int) (w:World) (o0:0<=op) (o1:op<=7) (v0:0<=v) (v1:v<=255) (f0:0<=f) (f1:f<=255) :
  Calls prog 82 #[.int .i64 op,.int .i64 v,.int .i64 f] w fun e w'=>e=.returned (.tuple #[.int .i64 (trnR op v f).1,.int .i64 (trnR op v f).2])/\w'=w:=by
 obtain ⟨c0,c1⟩:=cy_bd f
 have ho:op=0 \/ op=1 \/ op=2 \/ op=3 \/ op=4 \/ op=5 \/ op=6 \/ op=7:=by omega
 rcases ho with rfl|rfl|rfl|rfl|rfl|rfl|rfl|rfl
 all_goals
  go_enter func82,ntmps82
  go_wp2_with (first|(go_at_call 83;refine (l4Flags_any _ _ _ _ _).mono ?_;rintro e w3 ⟨rfl,rfl⟩)|(go_at_call 84;refine (l4Carry_any _ _ f0 f1).mono ?_;rintro e w3 ⟨rfl,rfl⟩))
  go_ret2
  refine ⟨ret_two ?_ (fl_congr ?_ rfl rfl ?_),rfl⟩
 ·show _=v*2%256+v / 128;omega
 ·show _=decide (v*2%256+v / 128=0);rw [Bool.eq_iff_iff];simp;try omega
 ·show _=decide (v / 128=1);rw [Bool.eq_iff_iff];simp;try omega
 ·show _=v / 2+128*(v%2);omega
 ·show _=decide (v / 2+128*(v%2)=0);rw [Bool.eq_iff_iff];simp;try omega
 ·show _=decide (v%2=1);rw [Bool.eq_iff_iff];simp;try omega
 ·show _=v*2%256+cy f;omega
 ·show _=decide (v*2%256+cy f=0);rw [Bool.eq_iff_iff];simp;try omega
 ·show _=decide (v / 128=1);rw [Bool.eq_iff_iff];simp;try omega
 ·show _=v / 2+128*cy f;omega
 ·show _=decide (v / 2+128*cy f=0);rw [Bool.eq_iff_iff];simp;try omega
 ·show _=decide (v%2=1);rw [Bool.eq_iff_iff];simp;try omega
 ·show _=v*2%256;omega
 ·show _=decide (v*2%256=0);rw [Bool.eq_iff_iff];simp;try omega
 ·show _=decide (v / 128=1);rw [Bool.eq_iff_iff];simp;try omega
 ·show _=v / 2+128*(v / 128);omega
 ·show _=decide (v / 2+128*(v / 128)=0);rw [Bool.eq_iff_iff];simp;try omega
 ·show _=decide (v%2=1);rw [Bool.eq_iff_iff];simp;try omega
 ·show _=v%16*16+v / 16;omega
 ·show _=decide (v%16*16+v / 16=0);rw [Bool.eq_iff_iff];simp;try omega
 ·show _=decide (0=1);rw [Bool.eq_iff_iff];simp;try omega
 ·show _=v / 2;omega
 ·show _=decide (v / 2=0);rw [Bool.eq_iff_iff];simp;try omega
 ·show _=decide (v%2=1);rw [Bool.eq_iff_iff];simp;try omega
end TurnS
namespace Hole
theorem below_drewN {B:Nat} {a b:World} (h:Below B a b) (n:Nat):Below B a (b.drewN n):=⟨h.os,h.tape,h.output,h.size,h.block⟩
theorem slice_3 (s:ByteArray) (k:Nat) (h:k+3<=s.size) (w:World):(Instr.slice 9 (.string s) (some (.int .i64 (k:Int))) (some (.int .i64 ((k:Int)+3))) none).run prog w=.ok (.string (s.extract k (k+3))) w:=by
 have:=run_slice_string (P:=prog) w 9 s .i64 .i64 (k:Int) ((k:Int)+3) underlying9 (by omega) (by omega) (by omega)
 rw [show ((k:Int)+3).toNat=k+3 by omega,Int.toNat_natCast] at this
 exact this
theorem slice_2 (s:ByteArray) (k:Nat) (h:k+2<=s.size) (w:World):(Instr.slice 9 (.string s) (some (.int .i64 (k:Int))) (some (.int .i64 ((k:Int)+2))) none).run prog w=.ok (.string (s.extract k (k+2))) w:=by
 have:=run_slice_string (P:=prog) w 9 s .i64 .i64 (k:Int) ((k:Int)+2) underlying9 (by omega) (by omega) (by omega)
 rw [show ((k:Int)+2).toNat=k+2 by omega,Int.toNat_natCast] at this
 exact this
def Told (e:Ending):Prop:=∃ (i:Int) (h:ByteArray),e=.returned (.tuple #[.int .i64 i,.string h])
theorem hole_any (t:ByteArray) (w:World) (ht:t.size<=1000) :
  Calls prog 79 #[.string t] w fun e w'=>Told e/\Below w.heap.size w w':=by
 go_enter func79,ntmps79
 go_wp2
 have HB:Hid (Below w.heap.size w (w.alloc (.cells #[.string ⟨#[110,49,54]⟩,.string ⟨#[110,56]⟩,.string ⟨#[101,56]⟩] 9))):=zAl _ _
 have c0:(w.alloc (.cells #[.string ⟨#[110,49,54]⟩,.string ⟨#[110,56]⟩,.string ⟨#[101,56]⟩] 9)).cell? ⟨w.heap.size,0,none⟩=some (.string ⟨#[110,49,54]⟩):=World.cell?_alloc_new _ _ _ _
 have c1:(w.alloc (.cells #[.string ⟨#[110,49,54]⟩,.string ⟨#[110,56]⟩,.string ⟨#[101,56]⟩] 9)).cell? ⟨w.heap.size,1,none⟩=some (.string ⟨#[110,56]⟩):=World.cell?_alloc_new _ _ _ _
 have c2:(w.alloc (.cells #[.string ⟨#[110,49,54]⟩,.string ⟨#[110,56]⟩,.string ⟨#[101,56]⟩] 9)).cell? ⟨w.heap.size,2,none⟩=some (.string ⟨#[101,56]⟩):=World.cell?_alloc_new _ _ _ _
 generalize w.alloc (.cells #[.string ⟨#[110,49,54]⟩,.string ⟨#[110,56]⟩,.string ⟨#[101,56]⟩] 9)=W at *
 go_loopw [5] (fun i wr=>∃ n:Nat,(i=.int .i64 0 \/ i=.int .i64 1 \/ i=.int .i64 2 \/ i=.int .i64 3)/\wr=W.drewN n) (fun i _=>3-(intOf i).toNat)
 case atStart=>exact ⟨0,.inl rfl,rfl⟩
 case round =>
  obtain ⟨n,hi,rfl⟩:=hrel
  rcases hi with rfl|rfl|rfl|rfl
  ·go_wp2
   go_loopw [6] (fun i wr=>∃ m n:Nat,m<=t.size/\i=.int .i64 m/\wr=W.drewN n) (fun i _=>t.size-(intOf i).toNat)
   case atStart=>exact ⟨0,n,Nat.zero_le _,rfl,rfl⟩
   case round =>
    obtain ⟨m,n2,hm,rfl,rfl⟩:=hrel
    by_cases hlt:m+3<=t.size
    ·have s1:=slice_3 t m hlt
     have k0:(0:Int)<=(m:Int):=by omega
     have k1:(m:Int)+3<=(t.size:Int):=by omega
     have k2:(m:Int)<=(m:Int)+3:=by omega
     have k4:IntKind.i64.wrap ((m:Int)+3)=(m:Int)+3:=by rw [IntKind.wrap_i64];omega
     have HN:Hid (m+1<=t.size):=by show m+1<=t.size;omega
     go_wp2_with fail
     go_quiet (fail)
     go_wp2_with fail
     ·go_quiet (fail)
      go_wp2
      go_ret2
      exact ⟨⟨_,_,rfl⟩,by repeat' (with_reducible first|exact HB.out|refine below_drewN ?_ _)⟩
     ·go_roundw
      case rel=>exact ⟨m+1,_,HN.out,by go_num,rfl⟩
      case measure=>have:=HN.out;simp [intOf];omega
    ·go_wp2
     go_roundw
     case rel=>exact ⟨_,.inr (.inl rfl),rfl⟩
     case measure=>simp [intOf]
  ·go_wp2
   go_loopw [6] (fun i wr=>∃ m n:Nat,m<=t.size/\i=.int .i64 m/\wr=W.drewN n) (fun i _=>t.size-(intOf i).toNat)
   case atStart=>exact ⟨0,n,Nat.zero_le _,rfl,rfl⟩
   case round =>
    obtain ⟨m,n2,hm,rfl,rfl⟩:=hrel
    by_cases hlt:m+2<=t.size
    ·have s1:=slice_2 t m hlt
     have k0:(0:Int)<=(m:Int):=by omega
     have k1:(m:Int)+2<=(t.size:Int):=by omega
     have k2:(m:Int)<=(m:Int)+2:=by omega
     have k4:IntKind.i64.wrap ((m:Int)+2)=(m:Int)+2:=by rw [IntKind.wrap_i64];omega
     have HN:Hid (m+1<=t.size):=by show m+1<=t.size;omega
     go_wp2_with fail
     go_quiet (fail)
     go_wp2_with fail
     ·go_quiet (fail)
      go_wp2
      go_ret2
      exact ⟨⟨_,_,rfl⟩,by repeat' (with_reducible first|exact HB.out|refine below_drewN ?_ _)⟩
     ·go_roundw
      case rel=>exact ⟨m+1,_,HN.out,by go_num,rfl⟩
      case measure=>have:=HN.out;simp [intOf];omega
    ·go_wp2
     go_roundw
     case rel=>exact ⟨_,.inr (.inr (.inl rfl)),rfl⟩
     case measure=>simp [intOf]
  ·go_wp2
   go_loopw [6] (fun i wr=>∃ m n:Nat,m<=t.size/\i=.int .i64 m/\wr=W.drewN n) (fun i _=>t.size-(intOf i).toNat)
   case atStart=>exact ⟨0,n,Nat.zero_le _,rfl,rfl⟩
   case round =>
    obtain ⟨m,n2,hm,rfl,rfl⟩:=hrel
    by_cases hlt:m+2<=t.size
    ·have s1:=slice_2 t m hlt
     have k0:(0:Int)<=(m:Int):=by omega
     have k1:(m:Int)+2<=(t.size:Int):=by omega
     have k2:(m:Int)<=(m:Int)+2:=by omega
     have k4:IntKind.i64.wrap ((m:Int)+2)=(m:Int)+2:=by rw [IntKind.wrap_i64];omega
     have HN:Hid (m+1<=t.size):=by show m+1<=t.size;omega
     go_wp2_with fail
     go_quiet (fail)
     go_wp2_with fail
     ·go_quiet (fail)
      go_wp2
      go_ret2
      exact ⟨⟨_,_,rfl⟩,by repeat' (with_reducible first|exact HB.out|refine below_drewN ?_ _)⟩
     ·go_roundw
      case rel=>exact ⟨m+1,_,HN.out,by go_num,rfl⟩
      case measure=>have:=HN.out;simp [intOf];omega
    ·go_wp2
     go_roundw
     case rel=>exact ⟨_,.inr (.inr (.inr rfl)),rfl⟩
     case measure=>simp [intOf]
  ·go_wp2
   go_ret2
   exact ⟨⟨_,_,rfl⟩,by repeat' (with_reducible first|exact HB.out|refine below_drewN ?_ _)⟩
end Hole
namespace HoleX
open Hole (below_drewN slice_3 slice_2)
def firstAt (t h:ByteArray):Nat->Nat->Option Nat
 | 0,_=>none
 | f+1,k=>if k+h.size<=t.size then (if t.extract k (k+h.size)=h then some k else firstAt t h f (k+1)) else none
def n16:ByteArray:=⟨#[110,49,54]⟩
def n8:ByteArray:=⟨#[110,56]⟩
def e8:ByteArray:=⟨#[101,56]⟩
def at1 (t h:ByteArray):Option Nat:=firstAt t h (t.size+1) 0
def holeP (t:ByteArray):Int :=
 match at1 t n16 with
 | some k=>k
 | none=>match at1 t n8 with
  | some k=>k
  | none=>match at1 t e8 with
   | some k=>k
   | none=>-1
def holeT (t:ByteArray):ByteArray:=if (at1 t n16).isSome then n16 else if (at1 t n8).isSome then n8 else if (at1 t e8).isSome then e8 else ⟨#[]⟩
theorem firstAt_hit {t h:ByteArray} {m:Nat} (hm:m<=t.size) (h1:m+h.size<=t.size) (h2:t.extract m (m+h.size)=h) (e:at1 t h=firstAt t h (t.size+1-m) m):at1 t h=some m:=by
 rw [e,show t.size+1-m=(t.size-m)+1 by omega,firstAt,if_pos h1,if_pos h2]
theorem firstAt_next {t h:ByteArray} {m:Nat} (hm:m<=t.size) (h1:m+h.size<=t.size) (h2:¬ t.extract m (m+h.size)=h) (e:at1 t h=firstAt t h (t.size+1-m) m):at1 t h=firstAt t h (t.size+1-(m+1)) (m+1):=by
 rw [e,show t.size+1-m=(t.size+1-(m+1))+1 by omega,firstAt,if_pos h1,if_neg h2]
theorem firstAt_end {t h:ByteArray} {m:Nat} (hm:m<=t.size) (h1:¬ m+h.size<=t.size) (e:at1 t h=firstAt t h (t.size+1-m) m):at1 t h=none:=by
 rw [e,show t.size+1-m=(t.size-m)+1 by omega,firstAt,if_neg h1]
def ret (t:ByteArray):Ending:=.returned (.tuple #[.int .i64 (holeP t),.string (holeT t)])
theorem ret_n16 {t:ByteArray} {m:Nat} (h:at1 t n16=some m):Ending.returned (.tuple #[.int .i64 (m:Int),.string ⟨#[110,49,54]⟩])=ret t:=by
 unfold ret holeP holeT;rw [h];rfl
theorem ret_n8 {t:ByteArray} {m:Nat} (h0:at1 t n16=none) (h:at1 t n8=some m):Ending.returned (.tuple #[.int .i64 (m:Int),.string ⟨#[110,56]⟩])=ret t:=by
 unfold ret holeP holeT;rw [h0,h];rfl
theorem ret_e8 {t:ByteArray} {m:Nat} (h0:at1 t n16=none) (h1:at1 t n8=none) (h:at1 t e8=some m):Ending.returned (.tuple #[.int .i64 (m:Int),.string ⟨#[101,56]⟩])=ret t:=by
 unfold ret holeP holeT;rw [h0,h1,h];rfl
theorem ret_no {t:ByteArray} (h0:at1 t n16=none) (h1:at1 t n8=none) (h:at1 t e8=none):Ending.returned (.tuple #[.int .i64 (-1),.string ⟨#[]⟩])=ret t:=by
 unfold ret holeP holeT;rw [h0,h1,h];rfl
theorem lits_ne {X:ByteArray} {l:List UInt8} (h:¬ X=⟨l.toArray⟩):(X.toList == l)=false:=by
 rw [ByteArray.toList_eq]
 cases hb:X.data.toList == l
 ·rfl
 ·exfalso
  apply h
  have:=eq_of_beq hb
  cases X with|mk d=>cases d with|mk d=>simp only at this;rw [<- this]
def At (t:ByteArray) (i:Nat):Prop:=(1<=i->at1 t n16=none)/\(2<=i->at1 t n8=none)/\(3<=i->at1 t e8=none)
theorem hole_any (t:ByteArray) (w:World) (ht:t.size<=1000) :
  Calls prog 79 #[.string t] w fun e w'=>e=ret t/\Below w.heap.size w w':=by
 go_enter func79,ntmps79
 go_wp2
 have HB:Hid (Below w.heap.size w (w.alloc (.cells #[.string ⟨#[110,49,54]⟩,.string ⟨#[110,56]⟩,.string ⟨#[101,56]⟩] 9))):=zAl _ _
 have c0:(w.alloc (.cells #[.string ⟨#[110,49,54]⟩,.string ⟨#[110,56]⟩,.string ⟨#[101,56]⟩] 9)).cell? ⟨w.heap.size,0,none⟩=some (.string ⟨#[110,49,54]⟩):=World.cell?_alloc_new _ _ _ _
 have c1:(w.alloc (.cells #[.string ⟨#[110,49,54]⟩,.string ⟨#[110,56]⟩,.string ⟨#[101,56]⟩] 9)).cell? ⟨w.heap.size,1,none⟩=some (.string ⟨#[110,56]⟩):=World.cell?_alloc_new _ _ _ _
 have c2:(w.alloc (.cells #[.string ⟨#[110,49,54]⟩,.string ⟨#[110,56]⟩,.string ⟨#[101,56]⟩] 9)).cell? ⟨w.heap.size,2,none⟩=some (.string ⟨#[101,56]⟩):=World.cell?_alloc_new _ _ _ _
 generalize w.alloc (.cells #[.string ⟨#[110,49,54]⟩,.string ⟨#[110,56]⟩,.string ⟨#[101,56]⟩] 9)=W at *
 go_loopw [5] (fun i wr=>∃ n:Nat,((i=.int .i64 0/\At t 0) \/ (i=.int .i64 1/\At t 1) \/ (i=.int .i64 2/\At t 2) \/ (i=.int .i64 3/\At t 3))/\wr=W.drewN n) (fun i _=>3-(intOf i).toNat)
 case atStart=>exact ⟨0,.inl ⟨rfl,by unfold At;refine ⟨fun h=>?_,fun h=>?_,fun h=>?_⟩ <;> omega⟩,rfl⟩
 case round =>
  obtain ⟨n,hi,rfl⟩:=hrel
  rcases hi with ⟨rfl,ha⟩|⟨rfl,ha⟩|⟨rfl,ha⟩|⟨rfl,ha⟩
  ·have ha:Hid (At t 0):=ha
   go_wp2
   go_loopw [6] (fun i wr=>∃ m n:Nat,m<=t.size/\i=.int .i64 m/\wr=W.drewN n/\at1 t n16=firstAt t n16 (t.size+1-m) m) (fun i _=>t.size-(intOf i).toNat)
   case atStart=>exact ⟨0,n,Nat.zero_le _,rfl,rfl,rfl⟩
   case round =>
    obtain ⟨m,n2,hm,rfl,rfl,he⟩:=hrel
    by_cases hlt:m+3<=t.size
    ·have s1:=slice_3 t m hlt
     have HM:Hid (m<=t.size/\m+3<=t.size/\at1 t n16=firstAt t n16 (t.size+1-m) m):=⟨hm,hlt,he⟩
     clear he
     have k0:(0:Int)<=(m:Int):=by omega
     have k1:(m:Int)+3<=(t.size:Int):=by omega
     have k2:(m:Int)<=(m:Int)+3:=by omega
     have k4:IntKind.i64.wrap ((m:Int)+3)=(m:Int)+3:=by rw [IntKind.wrap_i64];omega
     by_cases hx:t.extract m (m+3)=⟨#[110,49,54]⟩
     ·have HX:Hid (t.extract m (m+3)=⟨#[110,49,54]⟩):=hx
      have hy:(t.extract m (m+3) == ⟨#[110,49,54]⟩)=true:=by rw [hx];rfl
      rw [hx] at s1
      clear hx hy
      go_wp2_with fail
      go_quiet (fail)
      go_wp2_with fail
      go_quiet (fail)
      go_wp2
      go_ret2
      exact ⟨ret_n16 (firstAt_hit HM.out.1 HM.out.2.1 HX.out HM.out.2.2),by repeat' (with_reducible first|exact HB.out|refine below_drewN ?_ _)⟩
     ·have HX:Hid (¬ t.extract m (m+3)=⟨#[110,49,54]⟩):=hx
      have hy:((t.extract m (m+3)).toList == [110,49,54])=false:=lits_ne hx
      clear hx
      generalize t.extract m (m+3)=X at s1 hy
      go_wp2_with fail
      go_quiet (fail)
      go_wp2_with fail
      go_roundw
      case rel=>exact ⟨m+1,_,by have:=HM.out.2.1;omega,by go_num,rfl,firstAt_next HM.out.1 HM.out.2.1 HX.out HM.out.2.2⟩
      case measure=>have:=HM.out.2.1;simp [intOf];omega
    ·have HE:Hid (at1 t n16=none):=firstAt_end hm hlt he
     clear he
     go_wp2
     go_roundw
     case rel =>
      have HE:=HE.out
      exact ⟨_,.inr (.inl ⟨rfl,⟨fun _=>HE,fun h=>by omega,fun h=>by omega⟩⟩),rfl⟩
     case measure=>simp [intOf]
  ·have ha:Hid (At t 1):=ha
   go_wp2
   go_loopw [6] (fun i wr=>∃ m n:Nat,m<=t.size/\i=.int .i64 m/\wr=W.drewN n/\at1 t n8=firstAt t n8 (t.size+1-m) m) (fun i _=>t.size-(intOf i).toNat)
   case atStart=>exact ⟨0,n,Nat.zero_le _,rfl,rfl,rfl⟩
   case round =>
    obtain ⟨m,n2,hm,rfl,rfl,he⟩:=hrel
    by_cases hlt:m+2<=t.size
    ·have s1:=slice_2 t m hlt
     have HM:Hid (m<=t.size/\m+2<=t.size/\at1 t n8=firstAt t n8 (t.size+1-m) m):=⟨hm,hlt,he⟩
     clear he
     have k0:(0:Int)<=(m:Int):=by omega
     have k1:(m:Int)+2<=(t.size:Int):=by omega
     have k2:(m:Int)<=(m:Int)+2:=by omega
     have k4:IntKind.i64.wrap ((m:Int)+2)=(m:Int)+2:=by rw [IntKind.wrap_i64];omega
     by_cases hx:t.extract m (m+2)=⟨#[110,56]⟩
     ·have HX:Hid (t.extract m (m+2)=⟨#[110,56]⟩):=hx
      have hy:(t.extract m (m+2) == ⟨#[110,56]⟩)=true:=by rw [hx];rfl
      rw [hx] at s1
      clear hx hy
      go_wp2_with fail
      go_quiet (fail)
      go_wp2_with fail
      go_quiet (fail)
      go_wp2
      go_ret2
      exact ⟨ret_n8 (ha.out.1 (by omega)) (firstAt_hit HM.out.1 HM.out.2.1 HX.out HM.out.2.2),by repeat' (with_reducible first|exact HB.out|refine below_drewN ?_ _)⟩
     ·have HX:Hid (¬ t.extract m (m+2)=⟨#[110,56]⟩):=hx
      have hy:((t.extract m (m+2)).toList == [110,56])=false:=lits_ne hx
      clear hx
      generalize t.extract m (m+2)=X at s1 hy
      go_wp2_with fail
      go_quiet (fail)
      go_wp2_with fail
      go_roundw
      case rel=>exact ⟨m+1,_,by have:=HM.out.2.1;omega,by go_num,rfl,firstAt_next HM.out.1 HM.out.2.1 HX.out HM.out.2.2⟩
      case measure=>have:=HM.out.2.1;simp [intOf];omega
    ·have HE:Hid (at1 t n8=none):=firstAt_end hm hlt he
     clear he
     go_wp2
     go_roundw
     case rel =>
      have HE:=HE.out
      exact ⟨_,.inr (.inr (.inl ⟨rfl,⟨fun _=>ha.out.1 (by omega),fun _=>HE,fun h=>by omega⟩⟩)),rfl⟩
     case measure=>simp [intOf]
  ·have ha:Hid (At t 2):=ha
   go_wp2
   go_loopw [6] (fun i wr=>∃ m n:Nat,m<=t.size/\i=.int .i64 m/\wr=W.drewN n/\at1 t e8=firstAt t e8 (t.size+1-m) m) (fun i _=>t.size-(intOf i).toNat)
   case atStart=>exact ⟨0,n,Nat.zero_le _,rfl,rfl,rfl⟩
   case round =>
    obtain ⟨m,n2,hm,rfl,rfl,he⟩:=hrel
    by_cases hlt:m+2<=t.size
    ·have s1:=slice_2 t m hlt
     have HM:Hid (m<=t.size/\m+2<=t.size/\at1 t e8=firstAt t e8 (t.size+1-m) m):=⟨hm,hlt,he⟩
     clear he
     have k0:(0:Int)<=(m:Int):=by omega
     have k1:(m:Int)+2<=(t.size:Int):=by omega
     have k2:(m:Int)<=(m:Int)+2:=by omega
     have k4:IntKind.i64.wrap ((m:Int)+2)=(m:Int)+2:=by rw [IntKind.wrap_i64];omega
     by_cases hx:t.extract m (m+2)=⟨#[101,56]⟩
     ·have HX:Hid (t.extract m (m+2)=⟨#[101,56]⟩):=hx
      have hy:(t.extract m (m+2) == ⟨#[101,56]⟩)=true:=by rw [hx];rfl
      rw [hx] at s1
      clear hx hy
      go_wp2_with fail
      go_quiet (fail)
      go_wp2_with fail
      go_quiet (fail)
      go_wp2
      go_ret2
      exact ⟨ret_e8 (ha.out.1 (by omega)) (ha.out.2.1 (by omega)) (firstAt_hit HM.out.1 HM.out.2.1 HX.out HM.out.2.2),by repeat' (with_reducible first|exact HB.out|refine below_drewN ?_ _)⟩
     ·have HX:Hid (¬ t.extract m (m+2)=⟨#[101,56]⟩):=hx
      have hy:((t.extract m (m+2)).toList == [101,56])=false:=lits_ne hx
      clear hx
      generalize t.extract m (m+2)=X at s1 hy
      go_wp2_with fail
      go_quiet (fail)
      go_wp2_with fail
      go_roundw
      case rel=>exact ⟨m+1,_,by have:=HM.out.2.1;omega,by go_num,rfl,firstAt_next HM.out.1 HM.out.2.1 HX.out HM.out.2.2⟩
      case measure=>have:=HM.out.2.1;simp [intOf];omega
    ·have HE:Hid (at1 t e8=none):=firstAt_end hm hlt he
     clear he
     go_wp2
     go_roundw
     case rel =>
      have HE:=HE.out
      exact ⟨_,.inr (.inr (.inr ⟨rfl,⟨fun _=>ha.out.1 (by omega),fun _=>ha.out.2.1 (by omega),fun _=>HE⟩⟩)),rfl⟩
     case measure=>simp [intOf]
  ·have ha:Hid (At t 3):=ha
   go_wp2
   go_ret2
   exact ⟨ret_no (ha.out.1 (by omega)) (ha.out.2.1 (by omega)) (ha.out.2.2 (by omega)),by repeat' (with_reducible first|exact HB.out|refine below_drewN ?_ _)⟩
end HoleX
namespace HolI
open HoleX (n8 n16 e8)
theorem box {w w':World} {vs:Array Value} {T:TypeId} (h:Below (w.alloc (.cells vs T)).heap.size (w.alloc (.cells vs T)) w') (i:Nat) (v:Value) (hv:vs[i]? = some v):w'.cell? ⟨w.heap.size,i,none⟩=some v:=by
 rw [h.cell (p:=⟨w.heap.size,i,none⟩) (by simp),World.cell?_alloc_new]
 exact hv
theorem unbox {w w':World} {o:Obj} (h:Below (w.alloc o).heap.size (w.alloc o) w'):Below w.heap.size w w':=(zAl _ _).trans (h.mono (by simp))
theorem after {a w w':World} (h:Below a.heap.size a w) (k:Below w.heap.size w w'):Below a.heap.size a w':=h.trans (k.mono h.size)
def holeI (s:ByteArray):ByteArray:=if Lib.contains s.data.toList n8.data.toList=true then n8 else if Lib.contains s.data.toList n16.data.toList=true then n16 else if Lib.contains s.data.toList e8.data.toList=true then e8 else ⟨#[]⟩
end HolI
namespace Cyc
open Shape
def prefC (x z:Int):Int:=if z=6 then (if x=1 then 3 else 4) else 2
end Cyc
namespace CycD
theorem grow {B:Nat} {a b:World} (h:Below B a b) (hB:B=a.heap.size) (o:Obj):Below B a (b.alloc o):=h.alloc (by subst hB;exact h.size) o
def ob (b:Bool):Int:=if b=true then 1 else 0
def lowC (y z:Int) (t:Bool):Int:=if z=0 then (if y=0 then 1 else if y=1 then 5 else if y=2 then 1 else if y=3 then 3 else 2+ob t) else if z=1 then 3-y%2 else if z=2 then 2 else if z=3 then 2 else if z=7 then 1 else if y=6 then 3 else if z=6 then 2 else 1
def topC (y z:Int) (t:Bool):Int:=if z=0 then (if y<4 then 2+3*ob t else if y=5 then 4 else 3) else if z=1 then (if y%2=0 then 3 else if y=5 then 1 else if y=7 then 2 else 4) else if z=2 then (if y<4 then 3+ob t else if y%2=0 then 2 else 4) else if z=3 then (if y=0 then 4 else 1) else if z=4 then 3+3*ob t else if z=5 then (if y=1 then 6 else 4) else if z=6 then 2 else 4
end CycD
namespace CycE
open Tabs (cases8)
open CycD
theorem one_any (b:Bool) (w:World):Calls prog 98 #[.bool b] w fun e w'=>e=.returned (.int .i64 (ob b))/\w'=w:=by
 cases b
 all_goals
  go_enter func98,ntmps98
  go_wp2
  go_ret
  exact ⟨rfl,rfl⟩
end CycE
namespace CycS
open Tabs (cases8)
open CycD CycE
theorem cycles_any (y z:Int) (t:Bool) (w:World) (y0:0<=y) (y1:y<=7) (z0:0<=z) (z1:z<=7) :
  Calls prog 99 #[.int .i64 y,.int .i64 z,.bool t] w fun e w'=>e=.returned (.int .i64 (topC y z t))/\Below w.heap.size w w':=by
 have c:=fun w=>one_any t w
 rcases cases8 z0 z1 with rfl|rfl|rfl|rfl|rfl|rfl|rfl|rfl <;> rcases cases8 y0 y1 with rfl|rfl|rfl|rfl|rfl|rfl|rfl|rfl <;> cases t
 all_goals
  rw [show ob _=_ from rfl] at c
  go_enter func99,ntmps99
  go_wp2_with (go_at_call 98;refine (c _).mono ?_;rintro e w' ⟨rfl,hw'⟩;have hw':=hw'.symm;subst hw')
  go_ret
  refine ⟨Signed.ret_int (by decide +kernel),?_⟩
  repeat' with_reducible first|exact zRf|refine below_of_drew ?_|refine grow ?_ rfl _
end CycS
namespace DrawR
open Rdr (Rd Post)
theorem flags_any (rb:Nat) (w:World) (h:Rd w rb) :
  Calls prog 36 #[.pointer (some ⟨rb,0,none⟩)] w fun e w'=>(∃ x:Int,0<=x/\x<=255/\e=.returned (.int .i64 x))/\Post w rb w':=by
 have H:Hid (Rd w rb):=h
 clear h
 go_enter func36,ntmps36
 go_wp2_with (go_at_call 35;refine (Rdr.below_any _ _ _ H.out (by decide) (by decide)).mono ?_;rintro e w' ⟨⟨x,x0,x1,rfl⟩,hp⟩)
 go_ret
 exact ⟨⟨16*x,by omega,by omega,rfl⟩,hp⟩
end DrawR
end Go.Proofs.YtfpecdgcapfgfaaGreat
