/-
  Contracts and facts of ours, joined: CycP, CycX, Stpo.
-/
import Derived.Test.YtnjolmbdbgbmbaaGreatDoorP19
import Derived.Test.YtnjolmbdbgbmbaaGreatDoorP18
import Derived.Test.YtnjolmbdbgbmbaaGreatDoorP00
set_option linter.unusedVariables false
set_option linter.unusedSimpArgs false
set_option maxRecDepth 20000
set_option maxHeartbeats 8000000
open Go.ChangeShapes Go.WideShapes Go.ChangeAt Go.RowKit
open Go.Proofs.Tryz
namespace Go.Proofs.YtnjolmbdbgbmbaaGreatDoor.CycP
open Signed (inB ret_int)
open CycD CycA CycB Cyc Leng CycQ
def Shp (code:Int) (cb:Bool):Prop:=∀ w,Calls prog 77 #[.int .i64 code,.bool cb] w fun e w'=>(∃ s:ByteArray,e=.returned (.string s)/\¬ s.size=0)/\Below w.heap.size w w'
def Prt (code x y z p q:Int):Prop:=∀ w,Calls prog 78 #[.int .i64 code] w fun e w'=>e=.returned (.agg #[.int .i64 x,.int .i64 y,.int .i64 z,.int .i64 p,.int .i64 q])/\Below w.heap.size w w'
theorem impl_cb (code x y z p q:Int) (t:Bool) (w:World)  (hs:Shp code true) (hp:Prt code x y z p q) :
  Calls prog 37 #[.int .i64 code,.bool true,.bool t] w fun e w'=>e=.returned (.int .i64 (prefC x z))/\Below w.heap.size w w':=by
 have c:=fun w=>prefixCycles_any x y z p q w
 generalize prefC x z=T at c |-
 go_enter func37,ntmps37
 go_wp2_with fail
 refine (hs _).mono ?_
 rintro e w1 ⟨⟨s,rfl,hs0⟩,b1⟩
 have he:=empty_no hs0
 have B1:Hid (Below w.heap.size w w1):=b1
 clear b1 hs
 go_wp2_with fail
 refine (hp _).mono ?_
 rintro e w2 ⟨rfl,b2⟩
 have B2:Hid (Below w.heap.size w w2):=B1.out.trans (b2.mono B1.out.size)
 clear b2 hp B1 he hs0
 go_wp2_with fail
 refine (c _).mono ?_
 rintro e w3 ⟨rfl,b3⟩
 have B3:Hid (Below w.heap.size w w3):=(Lgrow B2.out _).trans (b3.mono (by have:=B2.out.size;first|omega|(simp;omega)))
 clear b3 B2
 go_wp2
 go_ret
 exact ⟨rfl,B3.out⟩
theorem impl_low (code y z p q:Int) (t:Bool) (w:World) (hq:q=y%2) (y0:0<=y) (y1:y<=7) (z0:0<=z) (z1:z<=7) (hs:Shp code false) (hp:Prt code 0 y z p q) :
  Calls prog 37 #[.int .i64 code,.bool false,.bool t] w fun e w'=>e=.returned (.int .i64 (lowC y z t))/\Below w.heap.size w w':=by
 have c:=fun w=>lowCycles_any 0 y z p q t w hq y0 y1 z0 z1
 generalize lowC y z t=T at c |-
 clear hq y0 y1 z0 z1
 go_enter func37,ntmps37
 go_wp2_with fail
 refine (hs _).mono ?_
 rintro e w1 ⟨⟨s,rfl,hs0⟩,b1⟩
 have he:=empty_no hs0
 have B1:Hid (Below w.heap.size w w1):=b1
 clear b1 hs
 go_wp2_with fail
 refine (hp _).mono ?_
 rintro e w2 ⟨rfl,b2⟩
 have B2:Hid (Below w.heap.size w w2):=B1.out.trans (b2.mono B1.out.size)
 clear b2 hp B1 he hs0
 go_wp2_with fail
 refine (c _).mono ?_
 rintro e w3 ⟨rfl,b3⟩
 have B3:Hid (Below w.heap.size w w3):=(Lgrow B2.out _).trans (b3.mono (by have:=B2.out.size;first|omega|(simp;omega)))
 clear b3 B2
 go_wp2
 go_ret
 exact ⟨rfl,B3.out⟩
theorem impl_top (code y z p q:Int) (t:Bool) (w:World) (hq:q=y%2) (y0:0<=y) (y1:y<=7) (z0:0<=z) (z1:z<=7) (hg:¬ goneB y z=true) (hs:Shp code false) (hp:Prt code 3 y z p q) :
  Calls prog 37 #[.int .i64 code,.bool false,.bool t] w fun e w'=>e=.returned (.int .i64 (topC y z t))/\Below w.heap.size w w':=by
 have c:=fun w=>highCycles_any 3 y z p q t w hq y0 y1 z0 z1 hg
 generalize topC y z t=T at c |-
 clear hq y0 y1 z0 z1 hg
 go_enter func37,ntmps37
 go_wp2_with fail
 refine (hs _).mono ?_
 rintro e w1 ⟨⟨s,rfl,hs0⟩,b1⟩
 have he:=empty_no hs0
 have B1:Hid (Below w.heap.size w w1):=b1
 clear b1 hs
 go_wp2_with fail
 refine (hp _).mono ?_
 rintro e w2 ⟨rfl,b2⟩
 have B2:Hid (Below w.heap.size w w2):=B1.out.trans (b2.mono B1.out.size)
 clear b2 hp B1 he hs0
 go_wp2_with fail
 refine (c _).mono ?_
 rintro e w3 ⟨rfl,b3⟩
 have B3:Hid (Below w.heap.size w w3):=(Lgrow B2.out _).trans (b3.mono (by have:=B2.out.size;first|omega|(simp;omega)))
 clear b3 B2
 go_wp2
 go_ret
 exact ⟨rfl,B3.out⟩
theorem impl_halt (code x y z p q:Int) (t:Bool) (w:World) (hx0:¬ x=0) (hx3:¬ x=3) (hc:code=118) (hs:Shp code false) (hp:Prt code x y z p q) :
  Calls prog 37 #[.int .i64 code,.bool false,.bool t] w fun e w'=>e=.returned (.int .i64 (1))/\Below w.heap.size w w':=by
 subst hc
 have qx0:(x == 0)=false:=by simpa using hx0
 have qx3:(x == 3)=false:=by simpa using hx3
 go_enter func37,ntmps37
 go_wp2_with fail
 refine (hs _).mono ?_
 rintro e w1 ⟨⟨s,rfl,hs0⟩,b1⟩
 have he:=empty_no hs0
 have B1:Hid (Below w.heap.size w w1):=b1
 clear b1 hs
 go_wp2_with fail
 refine (hp _).mono ?_
 rintro e w2 ⟨rfl,b2⟩
 have B2:Hid (Below w.heap.size w w2):=B1.out.trans (b2.mono B1.out.size)
 clear b2 hp B1 he hs0
 go_wp2
 go_ret
 refine ⟨rfl,?_⟩
 with_reducible first|exact B2.out|exact Lgrow B2.out _
theorem impl_z (code x y p q:Int) (t:Bool) (w:World) (hx0:¬ x=0) (hx3:¬ x=3) (hh:¬ code=118) (hs:Shp code false) (hp:Prt code x y 6 p q) :
  Calls prog 37 #[.int .i64 code,.bool false,.bool t] w fun e w'=>e=.returned (.int .i64 (2))/\Below w.heap.size w w':=by
 have qx0:(x == 0)=false:=by simpa using hx0
 have qx3:(x == 3)=false:=by simpa using hx3
 have q118:(code == 118)=false:=by simpa using hh
 go_enter func37,ntmps37
 go_wp2_with fail
 refine (hs _).mono ?_
 rintro e w1 ⟨⟨s,rfl,hs0⟩,b1⟩
 have he:=empty_no hs0
 have B1:Hid (Below w.heap.size w w1):=b1
 clear b1 hs
 go_wp2_with fail
 refine (hp _).mono ?_
 rintro e w2 ⟨rfl,b2⟩
 have B2:Hid (Below w.heap.size w w2):=B1.out.trans (b2.mono B1.out.size)
 clear b2 hp B1 he hs0
 go_wp2
 go_ret
 refine ⟨rfl,?_⟩
 with_reducible first|exact B2.out|exact Lgrow B2.out _
theorem impl_y (code z p q:Int) (t:Bool) (w:World) (hh:¬ code=118) (hz:¬ z=6) (hs:Shp code false) (hp:Prt code 1 6 z p q) :
  Calls prog 37 #[.int .i64 code,.bool false,.bool t] w fun e w'=>e=.returned (.int .i64 (2))/\Below w.heap.size w w':=by
 have q118:(code == 118)=false:=by simpa using hh
 have qz:(z == 6)=false:=by simpa using hz
 go_enter func37,ntmps37
 go_wp2_with fail
 refine (hs _).mono ?_
 rintro e w1 ⟨⟨s,rfl,hs0⟩,b1⟩
 have he:=empty_no hs0
 have B1:Hid (Below w.heap.size w w1):=b1
 clear b1 hs
 go_wp2_with fail
 refine (hp _).mono ?_
 rintro e w2 ⟨rfl,b2⟩
 have B2:Hid (Below w.heap.size w w2):=B1.out.trans (b2.mono B1.out.size)
 clear b2 hp B1 he hs0
 go_wp2
 go_ret
 refine ⟨rfl,?_⟩
 with_reducible first|exact B2.out|exact Lgrow B2.out _
theorem impl_n1 (code y z p q:Int) (t:Bool) (w:World) (hh:¬ code=118) (hz:¬ z=6) (hy:¬ y=6) (hs:Shp code false) (hp:Prt code 1 y z p q) :
  Calls prog 37 #[.int .i64 code,.bool false,.bool t] w fun e w'=>e=.returned (.int .i64 (1))/\Below w.heap.size w w':=by
 have q118:(code == 118)=false:=by simpa using hh
 have qz:(z == 6)=false:=by simpa using hz
 have qy:(y == 6)=false:=by simpa using hy
 go_enter func37,ntmps37
 go_wp2_with fail
 refine (hs _).mono ?_
 rintro e w1 ⟨⟨s,rfl,hs0⟩,b1⟩
 have he:=empty_no hs0
 have B1:Hid (Below w.heap.size w w1):=b1
 clear b1 hs
 go_wp2_with fail
 refine (hp _).mono ?_
 rintro e w2 ⟨rfl,b2⟩
 have B2:Hid (Below w.heap.size w w2):=B1.out.trans (b2.mono B1.out.size)
 clear b2 hp B1 he hs0
 go_wp2
 go_ret
 refine ⟨rfl,?_⟩
 with_reducible first|exact B2.out|exact Lgrow B2.out _
theorem impl_n2 (code y z p q:Int) (t:Bool) (w:World) (hh:¬ code=118) (hz:¬ z=6) (hs:Shp code false) (hp:Prt code 2 y z p q) :
  Calls prog 37 #[.int .i64 code,.bool false,.bool t] w fun e w'=>e=.returned (.int .i64 (1))/\Below w.heap.size w w':=by
 have q118:(code == 118)=false:=by simpa using hh
 have qz:(z == 6)=false:=by simpa using hz
 go_enter func37,ntmps37
 go_wp2_with fail
 refine (hs _).mono ?_
 rintro e w1 ⟨⟨s,rfl,hs0⟩,b1⟩
 have he:=empty_no hs0
 have B1:Hid (Below w.heap.size w w1):=b1
 clear b1 hs
 go_wp2_with fail
 refine (hp _).mono ?_
 rintro e w2 ⟨rfl,b2⟩
 have B2:Hid (Below w.heap.size w w2):=B1.out.trans (b2.mono B1.out.size)
 clear b2 hp B1 he hs0
 go_wp2
 go_ret
 refine ⟨rfl,?_⟩
 with_reducible first|exact B2.out|exact Lgrow B2.out _
theorem impl_any (code:Int) (cb t:Bool) (w:World) (h0:0<=code) (h1:code<=255) (hs:Shp code cb) (hg:cb=false->code / 64=3->¬ goneB (code / 8%8) (code%8)=true) :
  Calls prog 37 #[.int .i64 code,.bool cb,.bool t] w fun e w'=>e=.returned (.int .i64 (cycV code cb t))/\Below w.heap.size w w':=by
 have hp:Prt code (code / 64) (code / 8%8) (code%8) (code / 8%8 / 2) (code / 8%8%2):=fun w=>Shape.partsOf_any code w h0 h1
 unfold cycV
 cases cb with
 | true =>
  rw [if_pos rfl];exact impl_cb code _ _ _ _ _ t w hs hp
 | false =>
  rw [if_neg (by decide)]
  by_cases hx:code / 64=0
  ·rw [if_pos hx];rw [hx] at hp;exact impl_low code _ _ _ _ t w rfl (by omega) (by omega) (by omega) (by omega) hs hp
  rw [if_neg hx]
  by_cases h3:code / 64=3
  ·rw [if_pos h3];have hg':=hg rfl h3;rw [h3] at hp;exact impl_top code _ _ _ _ t w rfl (by omega) (by omega) (by omega) (by omega) hg' hs hp
  rw [if_neg h3]
  by_cases h8:code=118
  ·rw [if_pos h8];exact impl_halt code _ _ _ _ _ t w hx h3 h8 hs hp
  rw [if_neg h8]
  by_cases hz:code%8=6
  ·rw [if_pos hz];rw [hz] at hp;exact impl_z code _ _ _ _ t w hx h3 h8 hs hp
  rw [if_neg hz]
  by_cases h2:code / 64=1
  ·rw [h2] at hp
   by_cases hy:code / 8%8=6
   ·rw [if_pos ⟨h2,hy⟩];rw [hy] at hp;exact impl_y code _ _ _ t w h8 hz hs hp
   ·rw [if_neg (fun h=>hy h.2)];exact impl_n1 code _ _ _ _ t w h8 hz hy hs hp
  ·have h4:code / 64=2:=by omega
   rw [h4] at hp
   rw [if_neg (fun h=>h2 h.1)];exact impl_n2 code _ _ _ _ t w h8 hz hs hp
end Go.Proofs.YtnjolmbdbgbmbaaGreatDoor.CycP
namespace Go.Proofs.YtnjolmbdbgbmbaaGreatDoor.CycX
open Signed (inB)
theorem both_all:∀ (c:Fin 256) (b:Bool),((Tmpl.tmplS (c.val:Int) b).size=0 ↔ (Shape.shapeR (c.val:Int) b).size=0)/\((Tmpl.tmplS (c.val:Int) b).size ≠ 0->b=false->(c.val:Int) / 64=3->¬ CycD.goneB ((c.val:Int) / 8%8) ((c.val:Int)%8)=true):=by decide +kernel
theorem both (code:Int) (cb:Bool) (h0:0<=code) (h1:code<=255):((Tmpl.tmplS code cb).size=0 ↔ (Shape.shapeR code cb).size=0)/\((Tmpl.tmplS code cb).size ≠ 0->cb=false->code / 64=3->¬ CycD.goneB (code / 8%8) (code%8)=true):=by
 have:=both_all ⟨code.toNat,by omega⟩ cb
 rwa [show ((⟨code.toNat,by omega⟩ : Fin 256).val:Int)=code by show ((code.toNat:Nat):Int)=code;omega] at this
theorem shape_in {code:Int} {cb:Bool} (h:inB code 0 255=true):Shape.shape code cb=Shape.shapeR code cb:=by unfold Shape.shape;rw [if_pos h]
theorem shape_out {code:Int} {cb:Bool} (h:inB code 0 255=false):Shape.shape code cb=⟨#[]⟩:=by unfold Shape.shape;rw [h];rfl
def Sp (code:Int) (cb t:Bool) (v:Int):Prop:=∀ w,Calls prog 91 #[.int .i64 code,.bool cb,.bool t] w fun e w'=>e=.returned (.int .i64 v)/\Below w.heap.size w w'
def Im (code:Int) (cb t:Bool) (v:Int):Prop:=∀ w,Calls prog 37 #[.int .i64 code,.bool cb,.bool t] w fun e w'=>e=.returned (.int .i64 v)/\Below w.heap.size w w'
theorem spec_none (code:Int) (cb t:Bool) (hl:∀ w,Calls prog 135 #[.int .i64 code,.bool cb] w fun e w'=>e=.returned (.int .i64 0)/\Below w.heap.size w w'):Sp code cb t 0:=fun w=>by
 go_enter func91,ntmps91
 go_wp2_with fail
 refine (hl _).mono ?_
 rintro e w1 ⟨rfl,b1⟩
 have B1:Hid (Below w.heap.size w w1):=b1
 clear b1 hl
 go_wp2
 go_ret
 exact ⟨rfl,B1.out⟩
theorem impl_none (code:Int) (cb t:Bool) (hs:(Shape.shape code cb).size=0):Im code cb t 0:=fun w=>by
 have c:=fun w=>Shape.shapeOf_any code cb w
 have he:=Leng.empty_yes hs
 generalize Shape.shape code cb=T at c he
 go_enter func37,ntmps37
 go_wp2_with fail
 refine (c _).mono ?_
 rintro e w1 ⟨rfl,b1⟩
 have B1:Hid (Below w.heap.size w w1):=b1
 clear b1 c
 go_wp2
 go_ret
 exact ⟨rfl,B1.out⟩
def cyc (code:Int) (cb t:Bool):Int:=if LenX.none? code cb=true then 0 else CycQ.cycV code cb t
theorem same (code:Int) (cb t:Bool):Sp code cb t (cyc code cb t)/\Im code cb t (cyc code cb t):=by
 cases hb:inB code 0 255
 ·have hn:LenX.none? code cb=true:=by unfold LenX.none?;rw [hb];rfl
  have hc:cyc code cb t=0:=by unfold cyc;rw [if_pos hn]
  rw [hc]
  refine ⟨spec_none code cb t (fun w=>(Leng.lengthOf_out code cb w hb).mono ?_),impl_none code cb t ?_⟩
  ·rintro e w' ⟨he,hw⟩
   exact ⟨he,by rw [hw];exact zRf⟩
  ·rw [shape_out hb];rfl
 obtain ⟨h0,h1⟩:=of_decide_eq_true hb
 obtain ⟨h2,h3⟩:=both code cb h0 h1
 by_cases hz:(Tmpl.tmplS code cb).size=0
 ·have hn:LenX.none? code cb=true:=by unfold LenX.none?;rw [hz];simp
  have hc:cyc code cb t=0:=by unfold cyc;rw [if_pos hn]
  rw [hc]
  refine ⟨spec_none code cb t (fun w=>(Leng.lengthOf_any code cb w h0 h1).mono ?_),impl_none code cb t ?_⟩
  ·rintro e w' ⟨⟨n,rfl,hn,_⟩,hw⟩
   exact ⟨by rw [hn.2 hz],hw⟩
  ·rw [shape_in hb];exact h2.1 hz
 ·have hn:LenX.none? code cb=false:=by unfold LenX.none?;rw [hb];simp [hz]
  have hc:cyc code cb t=CycQ.cycV code cb t:=by unfold cyc;rw [hn];rfl
  rw [hc]
  refine ⟨fun w=>CycO.spec_any code cb t w h0 h1 (fun w=>(Leng.lengthOf_any code cb w h0 h1).mono ?_),fun w=>CycP.impl_any code cb t w h0 h1 (fun w=>(Shape.shapeOf_any code cb w).mono ?_) (h3 hz)⟩
  ·rintro e w' ⟨⟨n,rfl,hn,_⟩,hw⟩
   exact ⟨⟨n,rfl,fun h=>hz (hn.1 h)⟩,hw⟩
  ·rintro e w' ⟨rfl,hw⟩
   exact ⟨⟨_,rfl,fun h=>hz (h2.2 (by rwa [shape_in hb] at h))⟩,hw⟩
theorem range_all:∀ (c:Fin 256) (b t:Bool),LenX.none? (c.val:Int) b=false->0<CycQ.cycV (c.val:Int) b t/\CycQ.cycV (c.val:Int) b t<7/\CycQ.cycV (c.val:Int) b false<=CycQ.cycV (c.val:Int) b true:=by decide +kernel
theorem range (code:Int) (cb t:Bool) (h0:0<=code) (h1:code<=255) (h:LenX.none? code cb=false):0<cyc code cb t/\cyc code cb t<7/\cyc code cb false<=cyc code cb true:=by
 have:=range_all ⟨code.toNat,by omega⟩ cb t
 rw [show ((⟨code.toNat,by omega⟩ : Fin 256).val:Int)=code by show ((code.toNat:Nat):Int)=code;omega] at this
 unfold cyc
 rw [h]
 exact this h
end Go.Proofs.YtnjolmbdbgbmbaaGreatDoor.CycX
namespace Go.Proofs.YtnjolmbdbgbmbaaGreatDoor.Stpo
open Signed (inB sgn)
open Reck ReckS ReckM ReckD TurnS
open Busw (M wrM Rt)
open Stpp Stpq Stpt Stpc Stpf Stpe Stph
open ReadI (byteAt lenC immV readI readN)
def insOf (m:M):Int × Bool × Int:=if byteAt (fetch m) 0=203 then (byteAt (fetch m) 1,true,0) else (byteAt (fetch m) 0,false,immV (fetch m) 0 (lenC (byteAt (fetch m) 0)))
def lenOf (m:M):Int:=readN (fetch m) 0
def nextOf (m:M):M:={ m with pc:=(m.pc+lenOf m)%65536 }
def semOf (m:M):S × Bool:=sem (insOf m).1 (insOf m).2.1 (insOf m).2.2 ⟨nextOf m,false⟩
def cycOf (m:M):Int:=m.cyc+CycX.cyc (insOf m).1 (insOf m).2.1 (semOf m).2
def stepP (m:M):M × Int :=
 if m.hal=true then (m,1) else if lenOf m=0 then (m,2)
 else if (semOf m).1.full=true \/ 1000000000<cycOf m then (m,4) else (cm (cycOf m) (semOf m).1.m,0)
theorem shape_ne_all:∀ (k:Fin 256) (cb:Bool),LenX.none? (k.val:Int) cb=false->(Shape.shapeR (k.val:Int) cb).size ≠ 0:=by
 intro k cb h
 have h0:(0:Int)<=(k.val:Int):=by omega
 have h1:(k.val:Int)<=255:=by have:=k.isLt;omega
 have hs:=(CycX.both (k.val:Int) cb h0 h1).1
 unfold LenX.none? at h
 simp only [Bool.or_eq_false_iff] at h
 intro h2
 have h3:=hs.2 h2
 rw [h3] at h
 simp at h
theorem imm_all:∀ k:Fin 256,lenC (k.val:Int)=3->¬ ((k.val:Int)=224 \/ (k.val:Int)=240 \/ (k.val:Int)=232 \/ (k.val:Int)=248 \/ (192<=(k.val:Int)/\(k.val:Int)%8=6))/\((k.val:Int)<64->(k.val:Int)%8=1 \/ ((k.val:Int)%8=0/\(k.val:Int) / 8=1)):=by decide +kernel
theorem byteAt_bd (s:ByteArray) (i:Int):0<=byteAt s i/\byteAt s i<=255:=ReadI.byteAt_bd s i
theorem cb_all:∀ k:Fin 256,(Tmpl.tmplS (k.val:Int) true).size ≠ 0:=by decide +kernel
structure Ins (m:M) (c:Int) (cb:Bool) (imm:Int):Prop where
 cbd:0<=c/\c<=255
 iok:ImmOk c cb imm
 non:LenX.none? c cb=false
 val:readI (fetch m) 0=.agg #[.int .i64 c,.bool cb,.int .i64 imm]
 len:0<=lenOf m/\lenOf m<=3
theorem ins_of (m:M) (h:¬ lenOf m=0):Ins m (insOf m).1 (insOf m).2.1 (insOf m).2.2:=by
 unfold lenOf readN at h
 rw [fetch_size,if_neg (by omega)] at h
 by_cases h2:byteAt (fetch m) 0=203
 ·have e:insOf m=(byteAt (fetch m) 1,true,0):=by unfold insOf;rw [if_pos h2]
  rw [e]
  refine ⟨byteAt_bd (fetch m) 1,.inl rfl,?_,?_,?_⟩
  ·unfold LenX.none?
   rw [show inB (byteAt (fetch m) 1) 0 255=true from decide_eq_true (byteAt_bd (fetch m) 1)]
   obtain ⟨k,hk⟩:=fin_of (byteAt_bd (fetch m) 1).1 (byteAt_bd (fetch m) 1).2
   rw [<- hk]
   have:=cb_all k
   simpa using this
  ·unfold readI
   rw [fetch_size,if_neg (by omega),if_pos h2,if_neg (by omega)]
   rfl
  ·unfold lenOf readN
   rw [fetch_size,if_neg (by omega),if_pos h2,if_neg (by omega)]
   omega
 ·rw [if_neg h2] at h
  have h3:¬ (lenC (byteAt (fetch m) 0)=0 \/ ((3:Nat):Int)-0<lenC (byteAt (fetch m) 0)):=fun h4=>by rw [if_pos h4] at h;exact h rfl
  have e:insOf m=(byteAt (fetch m) 0,false,immV (fetch m) 0 (lenC (byteAt (fetch m) 0))):=by unfold insOf;rw [if_neg h2]
  rw [e]
  have b0:=byteAt_bd (fetch m) 0
  have b1:=byteAt_bd (fetch m) (0+1)
  have b2:=byteAt_bd (fetch m) (0+2)
  obtain ⟨k,hk⟩:=fin_of b0.1 b0.2
  refine ⟨b0,.inr ?_,?_,?_,?_⟩
  ·simp only []
   have h3:¬ (lenC (k.val:Int)=0 \/ ((3:Nat):Int)-0<lenC (k.val:Int)):=by rw [hk];exact h3
   rw [<- hk]
   have hi:=imm_all k
   unfold immV
   rcases ReadI.lenC_cases (k.val:Int) with h5|h5|h5|h5
   ·exact absurd (.inl h5) h3
   ·rw [if_pos h5]
    exact ⟨by omega,by omega,fun _ _ _=>by omega,fun _=>by omega⟩
   ·rw [if_neg (by omega),if_pos h5]
    exact ⟨by omega,by omega,fun _ _ _=>by omega,fun _=>by omega⟩
   ·rw [if_neg (by omega),if_neg (by omega)]
    have h6:=hi h5
    exact ⟨by omega,by omega,fun h7 h8 h9=>by rcases h6.2 h7 with h|h <;> omega,fun h7=>absurd h7 h6.1⟩
  ·have h4:¬ lenC (byteAt (fetch m) 0)=0:=fun h5=>h3 (.inl h5)
   unfold ReadI.lenC LenX.lenV at h4
   cases hn:LenX.none? (byteAt (fetch m) 0) false with
   | false=>rfl
   | true=>rw [hn,if_pos rfl] at h4;exact absurd rfl h4
  ·unfold readI
   rw [fetch_size,if_neg (by omega),if_neg h2,if_neg h3]
  ·unfold lenOf readN
   rw [fetch_size,if_neg (by omega),if_neg h2,if_neg h3]
   have:=ReadI.lenC_cases (byteAt (fetch m) 0)
   omega
theorem shape_ne {c:Int} {cb:Bool} (h:0<=c/\c<=255) (hn:LenX.none? c cb=false):Shape.shape c cb ≠ ⟨#[]⟩:=by
 obtain ⟨k,rfl⟩:=fin_of h.1 h.2
 unfold Shape.shape
 rw [show inB (k.val:Int) 0 255=true from decide_eq_true h,if_pos rfl]
 intro h2
 have:=shape_ne_all k cb hn
 rw [h2] at this
 exact this rfl
theorem cyc_all:∀ (k:Fin 256) (cb:Bool),(cb=true \/ kd (k.val:Int) ≠ 0)->hasC (k.val:Int) cb=false->CycQ.cycV (k.val:Int) cb true=CycQ.cycV (k.val:Int) cb false:=by decide +kernel
theorem cyc_still {c:Int} {cb:Bool} (h:0<=c/\c<=255) (hn:LenX.none? c cb=false) (hc:hasC c cb=false) (t t':Bool):CycX.cyc c cb t=CycX.cyc c cb t':=by
 obtain ⟨k,rfl⟩:=fin_of h.1 h.2
 have hs:=shape_ne h hn
 have:=cyc_all k cb (by
  cases cb with
  | true=>exact .inl rfl
  | false=>exact .inr (fun h0=>hs (by rw [shape_kd h.1 h.2,h0];rfl))) hc
 unfold CycX.cyc
 split
 ·rfl
 ·cases t <;> cases t' <;> simp_all
theorem no_jr_Ce8 (m:M) (full:Bool) (c imm:Int) (hc:c<64/\c%8=0/\3<c / 8) (c0:0<=c) (c1:c<=255) (hm:cond m (c / 8%8%4)=false):sem c false imm ⟨m,full⟩=(⟨m,full⟩,false):=by
 unfold sem
 rw [if_neg (by decide),if_pos (by omega)]
 unfold lowE
 rw [if_pos (by omega),if_neg (by omega),if_neg (by rintro (h|⟨_,h⟩) <;> first|omega|(rw [show c / 8-4=c / 8%8%4 by omega] at h;exact absurd (h.symm.trans hm) (by decide)))]
theorem yes_jr_Ce8 (m:M) (full:Bool) (c imm:Int) (hc:c<64/\c%8=0/\3<c / 8) (c0:0<=c) (c1:c<=255) (hm:cond m (c / 8%8%4)=true):(sem c false imm ⟨m,full⟩).2=true:=by
 unfold sem
 rw [if_neg (by decide),if_pos (by omega)]
 unfold lowE
 rw [if_pos (by omega),if_neg (by omega),if_pos (.inr ⟨by omega,by rw [show c / 8-4=c / 8%8%4 by omega];exact hm⟩)]
theorem no_jp_Cn16 (m:M) (full:Bool) (c imm:Int) (hc:192<=c/\c%8=2/\c / 8%8<4) (c0:0<=c) (c1:c<=255) (hm:cond m (c / 8%8%4)=false):sem c false imm ⟨m,full⟩=(⟨m,full⟩,false):=by
 unfold sem
 rw [if_neg (by decide),if_neg (by omega),if_neg (by omega),if_neg (by omega),if_neg (by omega)]
 unfold topE
 rw [if_neg (by rintro (⟨h1,h2,h3⟩|h1|h1) <;> first|omega|(rw [show c / 8%8=c / 8%8%4 by omega] at h3;rw [hm] at h3;cases h3)),if_neg (by omega),if_neg (by omega),if_neg (by omega),if_neg (by omega),if_neg (by omega),if_neg (by omega),if_neg (by omega),if_neg (by omega),if_neg (by omega),if_neg (by omega),if_neg (by omega),if_neg (by omega),if_neg (by rintro (⟨h1,h2,h3⟩|h1) <;> first|omega|(rw [show c / 8%8=c / 8%8%4 by omega] at h3;rw [hm] at h3;cases h3)),if_neg (by omega),if_neg (by rintro (⟨h1,h3⟩|h1) <;> first|omega|(rw [show c / 8%8=c / 8%8%4 by omega] at h3;rw [hm] at h3;cases h3)),if_neg (by omega),if_neg (by omega)]
theorem yes_jp_Cn16 (m:M) (full:Bool) (c imm:Int) (hc:192<=c/\c%8=2/\c / 8%8<4) (c0:0<=c) (c1:c<=255) (hm:cond m (c / 8%8%4)=true):(sem c false imm ⟨m,full⟩).2=true:=by
 unfold sem
 rw [if_neg (by decide),if_neg (by omega),if_neg (by omega),if_neg (by omega),if_neg (by omega)]
 unfold topE
 rw [if_neg (by rintro (⟨h1,_,_⟩|h1|h1) <;> omega),if_neg (by omega),if_neg (by omega),if_neg (by omega),if_neg (by omega),if_neg (by omega),if_neg (by omega),if_neg (by omega),if_neg (by omega),if_neg (by omega),if_neg (by omega),if_neg (by omega),if_neg (by omega),if_pos (by exact .inl ⟨by omega,by omega,by rw [show c / 8%8=c / 8%8%4 by omega];exact hm⟩)]
theorem no_call_Cn16 (m:M) (full:Bool) (c imm:Int) (hc:192<=c/\c%8=4/\c / 8%8<4) (c0:0<=c) (c1:c<=255) (hm:cond m (c / 8%8%4)=false):sem c false imm ⟨m,full⟩=(⟨m,full⟩,false):=by
 unfold sem
 rw [if_neg (by decide),if_neg (by omega),if_neg (by omega),if_neg (by omega),if_neg (by omega)]
 unfold topE
 rw [if_neg (by rintro (⟨h1,h2,h3⟩|h1|h1) <;> first|omega|(rw [show c / 8%8=c / 8%8%4 by omega] at h3;rw [hm] at h3;cases h3)),if_neg (by omega),if_neg (by omega),if_neg (by omega),if_neg (by omega),if_neg (by omega),if_neg (by omega),if_neg (by omega),if_neg (by omega),if_neg (by omega),if_neg (by omega),if_neg (by omega),if_neg (by omega),if_neg (by rintro (⟨h1,h2,h3⟩|h1) <;> first|omega|(rw [show c / 8%8=c / 8%8%4 by omega] at h3;rw [hm] at h3;cases h3)),if_neg (by omega),if_neg (by rintro (⟨h1,h3⟩|h1) <;> first|omega|(rw [show c / 8%8=c / 8%8%4 by omega] at h3;rw [hm] at h3;cases h3)),if_neg (by omega),if_neg (by omega)]
theorem yes_call_Cn16 (m:M) (full:Bool) (c imm:Int) (hc:192<=c/\c%8=4/\c / 8%8<4) (c0:0<=c) (c1:c<=255) (hm:cond m (c / 8%8%4)=true):(sem c false imm ⟨m,full⟩).2=true:=by
 unfold sem
 rw [if_neg (by decide),if_neg (by omega),if_neg (by omega),if_neg (by omega),if_neg (by omega)]
 unfold topE
 rw [if_neg (by rintro (⟨h1,_,_⟩|h1|h1) <;> omega),if_neg (by omega),if_neg (by omega),if_neg (by omega),if_neg (by omega),if_neg (by omega),if_neg (by omega),if_neg (by omega),if_neg (by omega),if_neg (by omega),if_neg (by omega),if_neg (by omega),if_neg (by omega),if_neg (by rintro (⟨h1,_,_⟩|h1) <;> omega),if_neg (by omega),if_pos (by exact .inl ⟨by omega,by rw [show c / 8%8=c / 8%8%4 by omega];exact hm⟩)]
theorem no_ret_C (m:M) (full:Bool) (c imm:Int) (hc:192<=c/\c%8=0/\c / 8%8<4) (c0:0<=c) (c1:c<=255) (hm:cond m (c / 8%8%4)=false):sem c false imm ⟨m,full⟩=(⟨m,full⟩,false):=by
 unfold sem
 rw [if_neg (by decide),if_neg (by omega),if_neg (by omega),if_neg (by omega),if_neg (by omega)]
 unfold topE
 rw [if_neg (by rintro (⟨h1,h2,h3⟩|h1|h1) <;> first|omega|(rw [show c / 8%8=c / 8%8%4 by omega] at h3;rw [hm] at h3;cases h3)),if_neg (by omega),if_neg (by omega),if_neg (by omega),if_neg (by omega),if_neg (by omega),if_neg (by omega),if_neg (by omega),if_neg (by omega),if_neg (by omega),if_neg (by omega),if_neg (by omega),if_neg (by omega),if_neg (by rintro (⟨h1,h2,h3⟩|h1) <;> first|omega|(rw [show c / 8%8=c / 8%8%4 by omega] at h3;rw [hm] at h3;cases h3)),if_neg (by omega),if_neg (by rintro (⟨h1,h3⟩|h1) <;> first|omega|(rw [show c / 8%8=c / 8%8%4 by omega] at h3;rw [hm] at h3;cases h3)),if_neg (by omega),if_neg (by omega)]
theorem yes_ret_C (m:M) (full:Bool) (c imm:Int) (hc:192<=c/\c%8=0/\c / 8%8<4) (c0:0<=c) (c1:c<=255) (hm:cond m (c / 8%8%4)=true):(sem c false imm ⟨m,full⟩).2=true:=by
 unfold sem
 rw [if_neg (by decide),if_neg (by omega),if_neg (by omega),if_neg (by omega),if_neg (by omega)]
 unfold topE
 rw [if_pos (by exact .inl ⟨by omega,by omega,by rw [show c / 8%8=c / 8%8%4 by omega];exact hm⟩)]
theorem has_cases {c:Int} {cb:Bool} (h:hasC c cb=true):cb=false/\(kd c=34 \/ kd c=36 \/ kd c=39 \/ kd c=42):=by
 unfold hasC at h
 simp only [Bool.and_eq_true,Bool.or_eq_true,beq_iff_eq,Bool.not_eq_true'] at h
 obtain ⟨h1,h2⟩:=h
 exact ⟨h1,by rcases h2 with ((h2|h2)|h2)|h2 <;> simp [h2]⟩
theorem not_met (m:M) (full:Bool) (c:Int) (cb:Bool) (imm:Int) (h:0<=c/\c<=255) (hm:met c cb m.rf=false):sem c cb imm ⟨m,full⟩=(⟨m,full⟩,false):=by
 unfold met at hm
 simp only [Bool.or_eq_false_iff,Bool.not_eq_false'] at hm
 obtain ⟨hh,hc⟩:=hm
 obtain ⟨rfl,hk⟩:=has_cases hh
 obtain ⟨k,hkk⟩:=fin_of h.1 h.2
 have hc:cond m (c / 8%8%4)=false:=hc
 rcases hk with hk|hk|hk|hk
 ·exact no_jr_Ce8 m full c imm (ar_jr_Ce8 k (by rw [hkk];exact hk) c hkk.symm) h.1 h.2 hc
 ·exact no_jp_Cn16 m full c imm (ar_jp_Cn16 k (by rw [hkk];exact hk) c hkk.symm) h.1 h.2 hc
 ·exact no_call_Cn16 m full c imm (ar_call_Cn16 k (by rw [hkk];exact hk) c hkk.symm) h.1 h.2 hc
 ·exact no_ret_C m full c imm (ar_ret_C k (by rw [hkk];exact hk) c hkk.symm) h.1 h.2 hc
theorem met_cyc (m:M) (full:Bool) (c:Int) (cb:Bool) (imm:Int) (h:0<=c/\c<=255) (hn:LenX.none? c cb=false) (hm:met c cb m.rf=true):CycX.cyc c cb true=CycX.cyc c cb (sem c cb imm ⟨m,full⟩).2:=by
 cases hh:hasC c cb with
 | false=>exact cyc_still h hn hh _ _
 | true =>
  unfold met at hm
  rw [hh] at hm
  have hc:cond m (c / 8%8%4)=true:=hm
  obtain ⟨rfl,hk⟩:=has_cases hh
  obtain ⟨k,hkk⟩:=fin_of h.1 h.2
  have e:(sem c false imm ⟨m,full⟩).2=true:=by
   rcases hk with hk|hk|hk|hk
   ·exact yes_jr_Ce8 m full c imm (ar_jr_Ce8 k (by rw [hkk];exact hk) c hkk.symm) h.1 h.2 hc
   ·exact yes_jp_Cn16 m full c imm (ar_jp_Cn16 k (by rw [hkk];exact hk) c hkk.symm) h.1 h.2 hc
   ·exact yes_call_Cn16 m full c imm (ar_call_Cn16 k (by rw [hkk];exact hk) c hkk.symm) h.1 h.2 hc
   ·exact yes_ret_C m full c imm (ar_ret_C k (by rw [hkk];exact hk) c hkk.symm) h.1 h.2 hc
  rw [e]
end Go.Proofs.YtnjolmbdbgbmbaaGreatDoor.Stpo
