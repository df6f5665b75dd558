import Derived.Test.YteglcgnhhoenbaaGreatDoorRows
import Derived.WalkKit
import Derived.ProofKit
import Derived.OpenShut
import Derived.BigQuiet
import Derived.Deep.RegionWith
import Derived.Deep.QuietTactic
import Derived.Below
import Derived.Shelf.Strings.Builder1
import Derived.Shelf.Strings.Builder2
import Derived.Shelf.Strconv.Itoa0
import Derived.Shelf.Strconv.Itoa1
import Derived.Shelf.LaysM
import Derived.Shelf.Strconv.Itoa2
import Derived.Shelf.Strconv.Itoa3
import Derived.Shelf.Strconv.Itoa4
import Derived.Shelf.Strings.Search1
import Derived.Shelf.Strings.Search2
import Derived.Shelf.Strings.Search3
import Derived.Shelf.Strings.Count
import Derived.Shelf.Strings.Shaped
import Derived.Shelf.Unicode.DecodeSlow
import Derived.Test.YteglcgnhhoenbaaGreatDoorProg
import Derived.Lib.LaidTab
import Derived.Laws.EntriesVeiled
import Derived.StillTail
import Derived.Deep.Quiet
import Derived.Lib.QuietBelow
import Derived.RangeFuncNested
import Derived.RangeFuncBox
import Derived.OwnWalkIn
import Derived.TacticsIn
import Derived.Laws.Rows
import Derived.Laws.Tables
import Derived.RangeFuncBound
import Derived.RangeFuncCalls
import Derived.RangeFuncLeaves
import Derived.OwnWalk
import Derived.OrdersIn
import Derived.RangeFuncWrites
set_option linter.all false
set_option maxRecDepth 20000
set_option maxHeartbeats 8000000
open Go.ChangeShapes Go.WideShapes Go.ChangeAt Go.RowKit
open Go.Proofs.Tryz
namespace Go.Proofs.YteglcgnhhoenbaaGreatDoor
theorem zHd {p:Prop} (h:p):Hid p:=h
theorem zRf {B:Nat} {w:World}:Below B w w:=Below.refl _ _
theorem zAl (w:World) (o:Obj):Below w.heap.size w (w.alloc o):=(Below.refl _ _).alloc (Nat.le_refl _) o
theorem zLo {w:World} {b:Nat} {o:Obj} (h:w.heap[b]?=some o):b<w.heap.size:=(Array.getElem?_eq_some_iff.1 h).1
end Go.Proofs.YteglcgnhhoenbaaGreatDoor
namespace Go.Proofs.YteglcgnhhoenbaaGreatDoor
namespace Signed
def inB (n low high:Int):Bool:=decide (low<=n/\n<=high)
def sgn (b:Int):Int:=if b<0 \/ 255<b then 0 else if 127<b then b-256 else b
theorem ret_int {k:IntKind} {a b:Int} (h:a=b):Ending.returned (.int k a)=.returned (.int k b):=by rw [h]
theorem ret_bool {a b:Bool} (h:a=b):Ending.returned (.bool a)=.returned (.bool b):=by rw [h]
theorem isByte_any (n:Int) (w:World) :
  Calls prog 115 #[.int .i64 n] w fun e w'=>e=.returned (.bool (inB n 0 255))/\w'=w:=by
 go_enter func115,ntmps115
 go_wp2
 all_goals go_ret
 all_goals exact ⟨ret_bool (by rw [Bool.eq_iff_iff];simp [inB];try omega),rfl⟩
theorem l1In_any (n low high:Int) (w:World) :
  Calls prog 42 #[.int .i64 n,.int .i64 low,.int .i64 high] w fun e w'=>e=.returned (.bool (inB n low high))/\w'=w:=by
 go_enter func42,ntmps42
 go_wp2
 all_goals go_ret
 all_goals exact ⟨ret_bool (by rw [Bool.eq_iff_iff];simp [inB];try omega),rfl⟩
theorem implSigned_any (b:Int) (w:World) :
  Calls prog 212 #[.int .i64 b] w fun e w'=>e=.returned (.int .i64 (sgn b))/\w'=w:=by
 have hb:(b<0 \/ 255<b) \/ (0<=b/\b<=127) \/ (127<b/\b<=255):=by omega
 rcases hb with h|⟨h,h'⟩|⟨h,h'⟩
 ·have hi:inB b 0 255=false:=decide_eq_false (by omega)
  have hs:sgn b=0:=by unfold sgn;rw [if_pos h]
  go_enter func212,ntmps212
  go_wp2_with (go_at_call 115;refine (isByte_any _ _).mono ?_;rintro e w' ⟨rfl,rfl⟩)
  go_ret
  first|exact ⟨rfl,rfl⟩|exact ⟨ret_int hs.symm,rfl⟩
 ·have hi:inB b 0 255=true:=decide_eq_true (by omega)
  have hs:sgn b=b:=by unfold sgn;rw [if_neg (by omega),if_neg (by omega)]
  go_enter func212,ntmps212
  go_wp2_with (go_at_call 115;refine (isByte_any _ _).mono ?_;rintro e w' ⟨rfl,rfl⟩)
  go_ret
  first|exact ⟨rfl,rfl⟩|exact ⟨ret_int hs.symm,rfl⟩
 ·have hi:inB b 0 255=true:=decide_eq_true (by omega)
  have hs:sgn b=b-256:=by unfold sgn;rw [if_neg (by omega),if_pos h]
  go_enter func212,ntmps212
  go_wp2_with (go_at_call 115;refine (isByte_any _ _).mono ?_;rintro e w' ⟨rfl,rfl⟩)
  go_ret
  first|exact ⟨rfl,rfl⟩|exact ⟨ret_int hs.symm,rfl⟩
theorem specSigned_any (b:Int) (w:World) :
  Calls prog 106 #[.int .i64 b] w fun e w'=>e=.returned (.int .i64 (sgn b))/\w'=w:=by
 have hb:(b<0 \/ 255<b) \/ (0<=b/\b<=127) \/ (127<b/\b<=255):=by omega
 rcases hb with h|⟨h,h'⟩|⟨h,h'⟩
 ·have hi:inB b 0 255=false:=decide_eq_false (by omega)
  have hs:sgn b=0:=by unfold sgn;rw [if_pos h]
  go_enter func106,ntmps106
  go_wp2_with (go_at_call 42;refine (l1In_any _ _ _ _).mono ?_;rintro e w' ⟨rfl,rfl⟩)
  go_ret
  first|exact ⟨rfl,rfl⟩|exact ⟨ret_int hs.symm,rfl⟩
 ·have hi:inB b 0 255=true:=decide_eq_true (by omega)
  have hs:sgn b=b:=by unfold sgn;rw [if_neg (by omega),if_neg (by omega)]
  go_enter func106,ntmps106
  go_wp2_with (go_at_call 42;refine (l1In_any _ _ _ _).mono ?_;rintro e w' ⟨rfl,rfl⟩)
  go_ret
  first|exact ⟨rfl,rfl⟩|exact ⟨ret_int hs.symm,rfl⟩
 ·have hi:inB b 0 255=true:=decide_eq_true (by omega)
  have hs:sgn b=b-256:=by unfold sgn;rw [if_neg (by omega),if_pos h]
  go_enter func106,ntmps106
  go_wp2_with (go_at_call 42;refine (l1In_any _ _ _ _).mono ?_;rintro e w' ⟨rfl,rfl⟩)
  go_ret
  first|exact ⟨rfl,rfl⟩|exact ⟨ret_int hs.symm,rfl⟩
end Signed
namespace Carts
open Signed (inB ret_int ret_bool isByte_any l1In_any)
def banks (n:Nat):Int:=if n%256=0/\512<=n/\n<=4096 then n / 256 else 0
def romB (n:Nat):Bool:=decide (n%256=0/\512<=n/\n<=4096)
def heldB (kind bank rb:Int) (on:Bool) (mode:Int):Bool :=
 if kind=0 then decide (bank=1/\rb=0/\mode=0/\on=false)
 else if kind=1 then inB bank 1 31 && inB rb 0 3 && inB mode 0 1
 else if kind=2 then inB bank 0 255 && inB rb 0 3 && mode == 0
 else false
def okB (rom:ByteArray) (kind bank:Int) (ram:ByteArray) (rb:Int) (on:Bool) (mode:Int):Bool:=heldB kind bank rb on mode && romB rom.size && ram.size == 256
def mapV (kind:Int):Value :=
 if kind=0 then .iface 175 (.agg #[])
 else if kind=1 then .iface 176 (.agg #[])
 else if kind=2 then .iface 177 (.agg #[])
 else .nilIface
theorem isRamBank_any (n:Int) (w:World) :
  Calls prog 321 #[.int .i64 n] w fun e w'=>e=.returned (.bool (inB n 0 3))/\w'=w:=by
 go_enter func321,ntmps321
 go_wp2
 all_goals go_ret
 all_goals exact ⟨ret_bool (by rw [Bool.eq_iff_iff];simp [inB];try omega),rfl⟩
theorem mapperOf_any (n:Int) (w:World) :
  Calls prog 113 #[.int .i64 n] w fun e w'=>e=.returned (mapV n)/\w'=w:=by
 go_enter func113,ntmps113
 go_wp2
 all_goals go_ret
 all_goals exact ⟨by congr 1;unfold mapV;simp_all,rfl⟩
theorem romOk_any (rom:ByteArray) (w:World) (hs:rom.size<=maxLen) :
  Calls prog 114 #[.string rom] w fun e w'=>e=.returned (.bool (romB rom.size))/\w'=w:=by
 have hs':rom.size<=9223372036854775807:=by unfold maxLen at hs;omega
 go_enter func114,ntmps114
 go_wp2
 all_goals go_ret
 all_goals exact ⟨ret_bool (by rw [Bool.eq_iff_iff];simp [romB];try omega),rfl⟩
theorem l5Banks_any (rom:ByteArray) (w:World) (hs:rom.size<=maxLen) :
  Calls prog 107 #[.string rom] w fun e w'=>e=.returned (.int .i64 (banks rom.size))/\w'=w:=by
 have hs':rom.size<=9223372036854775807:=by unfold maxLen at hs;omega
 go_enter func107,ntmps107
 go_wp2_with (go_at_call 42;refine (l1In_any _ _ _ _).mono ?_;rintro e w' ⟨rfl,rfl⟩)
 all_goals go_ret
 all_goals exact ⟨ret_int (by unfold banks;simp_all [inB];try omega),rfl⟩
theorem m0 (w:World):(method 359 175 (.agg #[]) "loop.example/g00460/impl.holds").run prog w=.ok (319,.agg #[]) w:=by kernel_rfl
theorem m1 (w:World):(method 359 176 (.agg #[]) "loop.example/g00460/impl.holds").run prog w=.ok (320,.agg #[]) w:=by kernel_rfl
theorem m2 (w:World):(method 359 177 (.agg #[]) "loop.example/g00460/impl.holds").run prog w=.ok (322,.agg #[]) w:=by kernel_rfl
theorem plainHolds_any (rom:ByteArray) (kind bank:Int) (ram:ByteArray) (rb:Int) (on:Bool) (mode:Int) (w:World) :
  Calls prog 319 #[.agg #[],.agg #[.string rom,.int .i64 kind,.int .i64 bank,.string ram,.int .i64 rb,.bool on,.int .i64 mode]] w fun e w'=>e=.returned (.bool (decide (bank=1/\rb=0/\mode=0/\on=false)))/\w'=(w.alloc (.cells #[] 175)).alloc (.cells #[.string rom,.int .i64 kind,.int .i64 bank,.string ram,.int .i64 rb,.bool on,.int .i64 mode] 27):=by
 go_enter func319,ntmps319
 go_wp2
 all_goals go_ret
 all_goals exact ⟨ret_bool (by rw [Bool.eq_iff_iff];simp_all),by first|rfl|simp_all⟩
theorem oneHolds_any (rom:ByteArray) (kind bank:Int) (ram:ByteArray) (rb:Int) (on:Bool) (mode:Int) (w:World) :
  Calls prog 320 #[.agg #[],.agg #[.string rom,.int .i64 kind,.int .i64 bank,.string ram,.int .i64 rb,.bool on,.int .i64 mode]] w fun e w'=>e=.returned (.bool (inB bank 1 31 && inB rb 0 3 && inB mode 0 1))/\w'=(w.alloc (.cells #[] 176)).alloc (.cells #[.string rom,.int .i64 kind,.int .i64 bank,.string ram,.int .i64 rb,.bool on,.int .i64 mode] 27):=by
 go_enter func320,ntmps320
 go_wp2_with (go_at_call 321;refine (isRamBank_any _ _).mono ?_;rintro e w' ⟨rfl,rfl⟩)
 all_goals go_ret
 all_goals exact ⟨ret_bool (by rw [Bool.eq_iff_iff];simp_all [inB] <;> omega),by first|rfl|simp_all⟩
theorem fiveHolds_any (rom:ByteArray) (kind bank:Int) (ram:ByteArray) (rb:Int) (on:Bool) (mode:Int) (w:World) :
  Calls prog 322 #[.agg #[],.agg #[.string rom,.int .i64 kind,.int .i64 bank,.string ram,.int .i64 rb,.bool on,.int .i64 mode]] w fun e w'=>e=.returned (.bool (inB bank 0 255 && inB rb 0 3 && mode == 0))/\w'=(w.alloc (.cells #[] 177)).alloc (.cells #[.string rom,.int .i64 kind,.int .i64 bank,.string ram,.int .i64 rb,.bool on,.int .i64 mode] 27):=by
 go_enter func322,ntmps322
 go_wp2_with (first|(go_at_call 321;refine (isRamBank_any _ _).mono ?_;rintro e w' ⟨rfl,rfl⟩)|(go_at_call 115;refine (isByte_any _ _).mono ?_;rintro e w' ⟨rfl,rfl⟩))
 all_goals go_ret
 all_goals exact ⟨ret_bool (by rw [Bool.eq_iff_iff];simp_all [inB] <;> omega),by first|rfl|simp_all⟩
end Carts
end Go.Proofs.YteglcgnhhoenbaaGreatDoor
namespace Go.Proofs
open Go.Shelf Go.RowKit
def Tryz.lays144_ren:Go.Shelf.Ren:=⟨fun|144=>136|143=>167|219=>239|217=>257|225=>258|224=>259|267=>260|266=>271|314=>272|n=>n,fun|9=>9|4=>4|3=>3|5=>5|46=>147|146=>238|51=>237|n=>n,fun|1=>9|n=>n⟩
theorem Tryz.lays144:Go.Proofs.Lays.n144 Tryz.prog Tryz.lays144_ren:={
 mixed:=by kernel_rfl
 f143:=Tryz.func167.trans (congrArg some (by kernel_rfl))
 f144:=Tryz.func136.trans (congrArg some (by kernel_rfl))
 f217:=Tryz.func257.trans (congrArg some (by kernel_rfl))
 f219:=Tryz.func239.trans (congrArg some (by kernel_rfl))
 f224:=Tryz.func259.trans (congrArg some (by kernel_rfl))
 f225:=Tryz.func258.trans (congrArg some (by kernel_rfl))
 f266:=Tryz.func271.trans (congrArg some (by kernel_rfl))
 f267:=Tryz.func260.trans (congrArg some (by kernel_rfl))
 f314:=Tryz.func272.trans (congrArg some (by kernel_rfl))
 t3:=Tryz.underlying3
 a3:=Tryz.isAgg3
 z3:=Tryz.sizeOf3
 v3:=Tryz.zeroValue3
 t4:=Tryz.underlying4
 a4:=Tryz.isAgg4
 z4:=Tryz.sizeOf4
 v4:=Tryz.zeroValue4
 t5:=Tryz.underlying5
 a5:=Tryz.isAgg5
 z5:=Tryz.sizeOf5
 v5:=Tryz.zeroValue5
 t9:=Tryz.underlying9
 a9:=Tryz.isAgg9
 z9:=Tryz.sizeOf9
 v9:=Tryz.zeroValue9
 t46:=Tryz.underlying147
 a46:=Tryz.isAgg147
 z46:=Tryz.sizeOf147
 v46:=Tryz.zeroValue147
 t51:=Tryz.underlying237
 a51:=Tryz.isAgg237
 z51:=Tryz.sizeOf237
 v51:=Tryz.zeroValue237
 t146:=Tryz.underlying238
 a146:=Tryz.isAgg238
 z146:=Tryz.sizeOf238
 v146:=Tryz.zeroValue238
 g1:=by kernel_rfl }
open Go.RowKit Go.Lib in
theorem Tryz.strings_Contains_one (s:ByteArray) (c:UInt8) (w:World) :
  Calls Tryz.prog 136 #[.string s,.string ⟨#[c]⟩] w fun e w'=>e=.returned (.bool (decide (0<=Lib.indexByte s.data.toList c)))/\w'=w:=Any.strings_Contains_one Tryz.lays144 s c w
open Go.RowKit Go.Lib in
theorem Tryz.strings_Contains (s sub:ByteArray) (m:Int) (w:World) (hs:s.size<4294967281) (hm:w.cell? ⟨9,0,none⟩=some (.int .i64 m)) :
  Calls Tryz.prog 136 #[.string s,.string sub] w fun e w'=>e=.returned (.bool (Lib.contains s.data.toList sub.data.toList))/\w'=w:=Any.strings_Contains Tryz.lays144 s sub m w hs hm
def Tryz.laysM144_ren:Go.Shelf.Ren:=⟨fun|144=>136|143=>167|219=>239|217=>257|225=>258|224=>259|267=>260|266=>271|314=>272|n=>n,fun|9=>9|4=>4|3=>3|5=>5|46=>147|146=>238|51=>237|n=>n,fun|1=>9|n=>n⟩
theorem Tryz.laysM144:Go.Proofs.LaysM.n144 Tryz.prog Tryz.laysM144_ren:={
 mixed:=by kernel_rfl
 f143:=Tryz.func167.trans (congrArg some (by kernel_rfl))
 f144:=Tryz.func136.trans (congrArg some (by kernel_rfl))
 f217:=Tryz.func257.trans (congrArg some (by kernel_rfl))
 f219:=Tryz.func239.trans (congrArg some (by kernel_rfl))
 f224:=Tryz.func259.trans (congrArg some (by kernel_rfl))
 f225:=Tryz.func258.trans (congrArg some (by kernel_rfl))
 f266:=Tryz.func271.trans (congrArg some (by kernel_rfl))
 f267:=Tryz.func260.trans (congrArg some (by kernel_rfl))
 f314:=Tryz.func272.trans (congrArg some (by kernel_rfl))
 t3:=Tryz.underlying3
 a3:=Tryz.isAgg3
 z3:=Tryz.sizeOf3
 v3:=Tryz.zeroValue3
 t4:=Tryz.underlying4
 a4:=Tryz.isAgg4
 z4:=Tryz.sizeOf4
 v4:=Tryz.zeroValue4
 t5:=Tryz.underlying5
 a5:=Tryz.isAgg5
 z5:=Tryz.sizeOf5
 v5:=Tryz.zeroValue5
 t9:=Tryz.underlying9
 a9:=Tryz.isAgg9
 z9:=Tryz.sizeOf9
 v9:=Tryz.zeroValue9
 t46:=Tryz.underlying147
 a46:=Tryz.isAgg147
 z46:=Tryz.sizeOf147
 v46:=Tryz.zeroValue147
 t51:=Tryz.underlying237
 a51:=Tryz.isAgg237
 z51:=Tryz.sizeOf237
 v51:=Tryz.zeroValue237
 t146:=Tryz.underlying238
 a146:=Tryz.isAgg238
 z146:=Tryz.sizeOf238
 v146:=Tryz.zeroValue238
 g1:=by kernel_rfl
 i3:=by kernel_rfl
 i4:=by kernel_rfl
 i5:=by kernel_rfl
 i9:=by kernel_rfl
 i46:=by kernel_rfl
 i51:=by kernel_rfl
 i146:=by kernel_rfl
 m1:=by kernel_rfl
 s1_3:=fun w h=>Go.Proofs.cell_of_shapedOpen_int (zero:=#[.int .i64 0]) (t:=3) h (of_decide_eq_true (by kernel_rfl)) (by kernel_rfl) rfl (by kernel_rfl) (by kernel_rfl) Tryz.underlying3 }
end Go.Proofs
namespace Go.Proofs.YteglcgnhhoenbaaGreatDoor
namespace Laid
open Go.ChangeShapes Go.WideShapes Go.RowKit
theorem skip {P:Program} {W:World} {x:String × DataW Unit} {rest:List (String × DataW Unit)} {ps:List MemPlace} (h:DataW.LaidVars P W (x :: rest) ps):∃ q,DataW.LaidVars P W rest q:=by
 obtain ⟨n,d⟩:=x
 obtain ⟨_,_,_,_,_,q,_,_,_,_,h,_⟩:=h
 exact ⟨q,h⟩
def txtData (l:List (List UInt8)):DataW Unit:=.agg (l.map fun s=>.lit (.string s))
theorem txts {P:Program} {W:World} {name:String} {l:List (List UInt8)} {rest:List (String × DataW Unit)} {ps:List MemPlace} {g:Nat} {t e:TypeId} {n:Nat}
  (hg:P.globalNamed name=some g) (hty:(P.globals[g]?).map (·.type)=some t) (ht:P.underlying t=some (.array n e)) (he:P.underlying e=some .string) (hce:P.cellsOf e=1) (hct:P.cellsOf t=n)
  (h:DataW.LaidVars P W ((name,txtData l) :: rest) ps):∀ i,i<l.length->W.cell? ⟨g,i,none⟩=some (.string ⟨(l.getD i []).toArray⟩):=by
 obtain ⟨g',t',cs,fuel,p,q,hg',ht',hvar,hd,_,_⟩:=h
 obtain rfl:=Option.some.inj (hg.symm.trans hg')
 obtain rfl:=Option.some.inj (hty.symm.trans ht')
 intro i hi
 rw [World.var?_cell hg hvar i]
 cases fuel with
 | zero=>simp [DataW.trod] at hd
 | succ fuel =>
  simp only [DataW.trod,ht,hce,hct,Nat.mul_one] at hd
  split at hd
  ·obtain ⟨xs,hm,hx⟩:=Option.map_eq_some_iff.1 hd
   have hxs:xs.map (·.1)=l.map fun s=>(DataW.lit (.string s):DataW Unit):=by
    have:=congrArg Prod.fst hx
    simpa [txtData] using this
   have hxl:xs.length=n:=by simpa using Lib.mapM_length hm
   have hln:l.length=n:=by
    have:=congrArg List.length hxs
    simp at this
    omega
   have hi':i<n:=by omega
   obtain ⟨b,hb,hf⟩:=Lib.mapM_at hm i i (by simp [hi'])
   obtain ⟨s,hc,rfl,_⟩:=DataW.trod_string he hf
   have h1:cs.toList[i]? = some (.string s):=by
    have:=congrArg (·[0]?) hc
    simpa [List.getElem?_take,List.getElem?_drop] using this
   have h2:(xs.map (·.1))[i]? = some (DataW.lit (.string s.data.toList):DataW Unit):=by simp [hb]
   rw [hxs] at h2
   simp only [List.getElem?_map,Option.map_eq_some_iff,DataW.lit.injEq,Lit.string.injEq] at h2
   obtain ⟨z,hz,hzs⟩:=h2
   rw [<- Array.getElem?_toList,h1,List.getD_eq_getElem?_getD,hz]
   simp [hzs]
  ·cases hd
theorem vars_len {H:Type} {enc:TypeId × Value->H} {P:Program} {w:World} {sp:Nat->Bool}:∀ {ns:List String} {gs:List (DataW H)} {ps:List MemPlace},DataW.TrodVars enc P w sp ns gs ps->gs.length=ns.length
 | [],[],_,_=>rfl
 | [],_ :: _,_,h=>h.elim
 | _ :: _,[],_,h=>h.elim
 | _ :: ns,_ :: gs,_,h=>by
  obtain ⟨_,_,_,_,_,q,_,_,_,_,h,_⟩:=h
  simp only [List.length_cons]
  rw [vars_len h]
end Laid
namespace Reck
open Signed (inB ret_int ret_bool isByte_any l1In_any)
def one (b:Bool):Int:=if b=true then 1 else 0
def chz (b:Bool) (y n:Int):Int:=if b=true then y else n
def fl (z n h c:Bool):Int:=128*one z+64*one n+32*one h+16*one c
def cy (f:Int):Int:=f / 16%2
theorem ret_two {a a' b b':Int} (h:a=a') (h':b=b'):Ending.returned (.tuple #[.int .i64 a,.int .i64 b])=.returned (.tuple #[.int .i64 a',.int .i64 b']):=by rw [h,h']
theorem cy_bd (f:Int):0<=cy f/\cy f<=1:=by unfold cy;omega
theorem l3One_any (b:Bool) (w:World) :
  Calls prog 132 #[.bool b] w fun e w'=>e=.returned (.int .i64 (one b))/\w'=w:=by
 cases b
 all_goals
  go_enter func132,ntmps132
  go_wp2
  go_ret
  exact ⟨rfl,rfl⟩
theorem l4Flags_any (z n h c:Bool) (w:World) :
  Calls prog 117 #[.bool z,.bool n,.bool h,.bool c] w fun e w'=>e=.returned (.int .i64 (fl z n h c))/\w'=w:=by
 have oz:0<=one z/\one z<=1:=by cases z <;> decide
 have on:0<=one n/\one n<=1:=by cases n <;> decide
 have oh:0<=one h/\one h<=1:=by cases h <;> decide
 have oc:0<=one c/\one c<=1:=by cases c <;> decide
 obtain ⟨z0,z1⟩:=oz
 obtain ⟨n0,n1⟩:=on
 obtain ⟨h0,h1⟩:=oh
 obtain ⟨c0,c1⟩:=oc
 go_enter func117,ntmps117
 go_wp2_with (go_at_call 132;refine (l3One_any _ _).mono ?_;rintro e w' ⟨rfl,rfl⟩)
 go_ret
 exact ⟨ret_int (by unfold fl;omega),rfl⟩
theorem l4Carry_any (f:Int) (w:World) (f0:0<=f) (f1:f<=255) :
  Calls prog 118 #[.int .i64 f] w fun e w'=>e=.returned (.int .i64 (cy f))/\w'=w:=by
 go_enter func118,ntmps118
 go_wp2
 go_ret
 exact ⟨rfl,rfl⟩
theorem l4Byte_any (n:Int) (w:World) :
  Calls prog 53 #[.int .i64 n] w fun e w'=>e=.returned (.bool (inB n 0 255))/\w'=w:=by
 go_enter func53,ntmps53
 go_wp2_with (go_at_call 42;refine (l1In_any _ _ _ _).mono ?_;rintro e w' ⟨rfl,rfl⟩)
 go_ret
 exact ⟨rfl,rfl⟩
theorem l4Word_any (n:Int) (w:World) :
  Calls prog 54 #[.int .i64 n] w fun e w'=>e=.returned (.bool (inB n 0 65535))/\w'=w:=by
 go_enter func54,ntmps54
 go_wp2_with (go_at_call 42;refine (l1In_any _ _ _ _).mono ?_;rintro e w' ⟨rfl,rfl⟩)
 go_ret
 exact ⟨rfl,rfl⟩
theorem isWord_any (n:Int) (w:World) :
  Calls prog 112 #[.int .i64 n] w fun e w'=>e=.returned (.bool (inB n 0 65535))/\w'=w:=by
 go_enter func112,ntmps112
 go_wp2
 all_goals go_ret
 all_goals exact ⟨ret_bool (by rw [Bool.eq_iff_iff];simp [inB];try omega),rfl⟩
theorem chosen_any (b:Bool) (y n:Int) (w:World) :
  Calls prog 168 #[.bool b,.int .i64 y,.int .i64 n] w fun e w'=>e=.returned (.int .i64 (chz b y n))/\w'=w:=by
 cases b
 all_goals
  go_enter func168,ntmps168
  go_wp2
  go_ret
  exact ⟨rfl,rfl⟩
theorem flagIf_any (v:Int) (b:Bool) (w:World) :
  Calls prog 248 #[.int .i64 v,.bool b] w fun e w'=>e=.returned (.int .i64 (chz b v 0))/\w'=w:=by
 go_enter func248,ntmps248
 go_wp2_with (go_at_call 168;refine (chosen_any _ _ _ _).mono ?_;rintro e w' ⟨rfl,rfl⟩)
 go_ret
 exact ⟨rfl,rfl⟩
theorem carryOf_any (f:Int) (w:World) (f0:0<=f) (f1:f<=255) :
  Calls prog 263 #[.int .i64 f] w fun e w'=>e=.returned (.int .i64 (cy f))/\w'=w:=by
 go_enter func263,ntmps263
 go_wp2
 go_ret
 exact ⟨rfl,rfl⟩
theorem or_hc (h c:Bool):bits .or .i64 (chz h 32 0) (chz c 16 0)=fl false false h c:=by cases h <;> cases c <;> decide
theorem or_nhc (h c:Bool):bits .or .i64 (bits .or .i64 64 (chz h 32 0)) (chz c 16 0)=fl false true h c:=by cases h <;> cases c <;> decide
def addR (a b c:Int):Int × Int:=((a+b+c)%256,fl false false (decide (15<a%16+b%16+c)) (decide (255<a+b+c)))
def subR (a b c:Int):Int × Int:=((a-b-c)%256,fl false true (decide (a%16<b%16+c)) (decide (a-b-c<0)))
def zd (p:Int × Int):Int × Int:=(p.1,p.2+128*one (decide (p.1=0)))
def aluR (op a b f:Int):Int × Int :=
 if op=0 then zd (addR a b 0) else if op=1 then zd (addR a b (cy f)) else if op=2 then zd (subR a b 0) else if op=3 then zd (subR a b (cy f))
 else if op=4 then zd (bits .and .i64 a b,32) else if op=5 then zd (bits .xor .i64 a b,0) else if op=6 then zd (bits .or .i64 a b,0) else (a,(zd (subR a b 0)).2)
def alu (op a b f:Int):Int × Int :=
 if (inB op 0 7 && inB a 0 255 && inB b 0 255 && inB f 0 255)=true then aluR op a b f else (0,0)
theorem addCarried_any (a b c:Int) (w:World) (a0:0<=a) (a1:a<=255) (b0:0<=b) (b1:b<=255) (c0:0<=c) (c1:c<=1) :
  Calls prog 276 #[.int .i64 a,.int .i64 b,.int .i64 c] w fun e w'=>e=.returned (.tuple #[.int .i64 (addR a b c).1,.int .i64 (addR a b c).2])/\w'=w:=by
 go_enter func276,ntmps276
 go_wp2_with (go_at_call 248;refine (flagIf_any _ _ _).mono ?_;rintro e w' ⟨rfl,rfl⟩)
 go_ret2
 refine ⟨ret_two rfl ?_,rfl⟩
 exact or_hc _ _
theorem subCarried_any (a b c:Int) (w:World) (a0:0<=a) (a1:a<=255) (b0:0<=b) (b1:b<=255) (c0:0<=c) (c1:c<=1) :
  Calls prog 278 #[.int .i64 a,.int .i64 b,.int .i64 c] w fun e w'=>e=.returned (.tuple #[.int .i64 (subR a b c).1,.int .i64 (subR a b c).2])/\w'=w:=by
 go_enter func278,ntmps278
 go_wp2_with (go_at_call 248;refine (flagIf_any _ _ _).mono ?_;rintro e w' ⟨rfl,rfl⟩)
 go_ret2
 refine ⟨ret_two rfl ?_,rfl⟩
 exact or_nhc _ _
theorem addAlone_any (a b c:Int) (w:World) (a0:0<=a) (a1:a<=255) (b0:0<=b) (b1:b<=255) :
  Calls prog 275 #[.int .i64 a,.int .i64 b,.int .i64 c] w fun e w'=>e=.returned (.tuple #[.int .i64 (addR a b 0).1,.int .i64 (addR a b 0).2])/\w'=w:=by
 go_enter func275,ntmps275
 go_wp2_with (go_at_call 276;refine (addCarried_any _ _ _ _ a0 a1 b0 b1 (by decide) (by decide)).mono ?_;rintro e w' ⟨rfl,rfl⟩)
 go_ret2
 exact ⟨rfl,rfl⟩
theorem subAlone_any (a b c:Int) (w:World) (a0:0<=a) (a1:a<=255) (b0:0<=b) (b1:b<=255) :
  Calls prog 277 #[.int .i64 a,.int .i64 b,.int .i64 c] w fun e w'=>e=.returned (.tuple #[.int .i64 (subR a b 0).1,.int .i64 (subR a b 0).2])/\w'=w:=by
 go_enter func277,ntmps277
 go_wp2_with (go_at_call 278;refine (subCarried_any _ _ _ _ a0 a1 b0 b1 (by decide) (by decide)).mono ?_;rintro e w' ⟨rfl,rfl⟩)
 go_ret2
 exact ⟨rfl,rfl⟩
theorem andBits_any (a b c:Int) (w:World) :
  Calls prog 279 #[.int .i64 a,.int .i64 b,.int .i64 c] w fun e w'=>e=.returned (.tuple #[.int .i64 (bits .and .i64 a b,32).1,.int .i64 (bits .and .i64 a b,32).2])/\w'=w:=by
 go_enter func279,ntmps279
 go_wp2
 go_ret2
 exact ⟨rfl,rfl⟩
theorem xorBits_any (a b c:Int) (w:World) :
  Calls prog 280 #[.int .i64 a,.int .i64 b,.int .i64 c] w fun e w'=>e=.returned (.tuple #[.int .i64 (bits .xor .i64 a b,0).1,.int .i64 (bits .xor .i64 a b,0).2])/\w'=w:=by
 go_enter func280,ntmps280
 go_wp2
 go_ret2
 exact ⟨rfl,rfl⟩
theorem orBits_any (a b c:Int) (w:World) :
  Calls prog 281 #[.int .i64 a,.int .i64 b,.int .i64 c] w fun e w'=>e=.returned (.tuple #[.int .i64 (bits .or .i64 a b,0).1,.int .i64 (bits .or .i64 a b,0).2])/\w'=w:=by
 go_enter func281,ntmps281
 go_wp2
 go_ret2
 exact ⟨rfl,rfl⟩
theorem aluOps_any (w:World) :
  Calls prog 262 #[] w fun e w'=>e=.returned (.agg #[.func (.func 275) #[] #[],.func (.func 276) #[] #[],.func (.func 277) #[] #[],.func (.func 278) #[] #[],.func (.func 279) #[] #[],.func (.func 280) #[] #[],.func (.func 281) #[] #[],.func (.func 277) #[] #[]])/\Below w.heap.size w w':=by
 go_enter func262,ntmps262
 go_wp2
 refine bodyPost_ret (v:=.agg #[.func (.func 275) #[] #[],.func (.func 276) #[] #[],.func (.func 277) #[] #[],.func (.func 278) #[] #[],.func (.func 279) #[] #[],.func (.func 280) #[] #[],.func (.func 281) #[] #[],.func (.func 277) #[] #[]]) (by simp [results,results262,go_sem]) rfl ⟨rfl,?_⟩
 exact zAl _ _
theorem below_of_drew {w w':World} (h:Below w.drew.heap.size w.drew w'):Below w.heap.size w w':=⟨h.os,h.tape,h.output,h.size,h.block⟩
theorem zd_fl (x:Int) (n h c z:Bool) (hz:z=decide (x=0)):bits .or .i64 (fl false n h c) (chz z 128 0)=(zd (x,fl false n h c)).2:=by
 subst hz;show _=fl false n h c+128*one (decide (x=0));generalize decide (x=0)=z;revert z n h c;decide
theorem zd_32 (x:Int) (z:Bool) (hz:z=decide (x=0)):bits .or .i64 32 (chz z 128 0)=(zd (x,32)).2:=zd_fl x false true false z hz
theorem zd_0 (x:Int) (z:Bool) (hz:z=decide (x=0)):bits .or .i64 0 (chz z 128 0)=(zd (x,0)).2:=zd_fl x false false false z hz
theorem beq_dec (x:Int):(x == 0)=decide (x=0):=by rw [Bool.eq_iff_iff];simp
end Reck
namespace Qtail
open Go.RowKit
def anyT (P:Program) (md:Region.Mode) (ops:Array Oper) (C:World->Prop) (n:Nat) (L:Array Bool->Act->Prop):Nat->Array Bool->Act->Prop
 | 0,listed,a=>L listed a
 | f+1,listed,a =>
  Region.ready md ops listed ≠ []/\∀ i ∈ Region.ready md ops listed,i<n/\qOp P ops C i (anyT P md ops C n L f (listed.setIfInBounds i true)) a
theorem any_of_head {P:Program} {ops:Array Oper} {md:Region.Mode} {C:World->Prop} {n g:Nat} {L:Array Bool->Act->Prop} {Q':Exit->Act->World->Prop} (hL:∀ listed a w,C w->L listed a->wpAny P md ops Q' g listed a w) :
  ∀ (f:Nat) (listed:Array Bool) (a:Act) (w:World),C w->anyT P md ops C n L f listed a->wpAny P md ops Q' (f+g) listed a w
 | 0,listed,a,w,hw,h=>by rw [Nat.zero_add];exact hL _ _ _ hw h
 | f+1,listed,a,w,hw,h=>by
  rw [show f+1+g=(f+g)+1 by omega]
  exact ⟨fun h0=>absurd h0 h.1,fun i hi=>wpOp_of_qOp hw (fun a' w' hw' h'=>any_of_head hL f _ a' w' hw' h') (h.2 i hi).2⟩
theorem anyT_first {P:Program} {ops:Array Oper} {md:Region.Mode} {C:World->Prop} {n i:Nat} {oi:Oper} {v:Value} {L:Array Bool->Act->Prop} (hi:ops[i]? = some oi) (hsel:∀ (j:Nat) (o:Oper) cs b,ops[j]? = some o->o.op ≠ .select cs b)
  (hs:Region.sinkB md ops n=true) (hc:Region.chainB md ops n=true) (hn:n<ops.size) (hin:i<n)
  (hdone:∀ listed a,L listed a->∀ j ∈ Region.ready md ops listed,n<=j) :
  ∀ (f:Nat) (listed:Array Bool) (a:Act),HeadInv md ops n listed ->
   (∀ j oj,ops[j]? = some oj->j ≠ i->listed.getD j true=false->(∀ e ∈ oj.after,Region.binds md e=true->e.on ≠ i)->oi.apart ops oj=true) ->
   i ∈ Region.ready md ops listed->YieldsIn P ops C oi v a ->
   anyT P md ops C n L f (listed.setIfInBounds i true) (a.put oi.dst v)->anyT P md ops C n L (f+1) listed a:=by
 intro f
 induction f with
 | zero =>
  intro listed a inv _ hr hy H
  have hun:=(mem_ready.1 hr).1
  refine ⟨fun h=>(by rw [h] at hr;cases hr),fun j hj=>?_⟩
  have hjn:j<n:=by
   rcases Nat.lt_or_ge j n with h|h
   ·exact h
   ·exact absurd hj (tail_waits hs hc hn inv _ i rfl hin hun j h)
  refine ⟨hjn,?_⟩
  by_cases hji:j=i
  ·subst hji;exact hy.qOp hi H
  ·have:=hdone _ _ H j (ready_mono hj hji)
   omega
 | succ f ih =>
  intro listed a inv hfree hr hy H
  have hun:=(mem_ready.1 hr).1
  refine ⟨fun h=>(by rw [h] at hr;cases hr),fun j hj=>?_⟩
  have hjn:j<n:=by
   rcases Nat.lt_or_ge j n with h|h
   ·exact h
   ·exact absurd hj (tail_waits hs hc hn inv _ i rfl hin hun j h)
  refine ⟨hjn,?_⟩
  by_cases hji:j=i
  ·subst hji;exact hy.qOp hi H
  ·have h1:=(H.2 j (ready_mono hj hji)).2
   obtain ⟨hjun,oj,hoj,hall⟩:=mem_ready.1 hj
   have hnot:∀ e ∈ oj.after,Region.binds md e=true->e.on ≠ i:=fun e he hb heq=>by
    have h1:=hall e he hb
    rw [heq,getD_both hun] at h1
    cases h1
   have h2:=qOp_put hoj (hfree j oj hoj hji hjun hnot) (fun cs b=>hsel i oi cs b hi) (fun cs b=>hsel j oj cs b hoj) hy h1
   have hfree':∀ k ok,ops[k]? = some ok->k ≠ i->(listed.setIfInBounds j true).getD k true=false ->
     (∀ e ∈ ok.after,Region.binds md e=true->e.on ≠ i)->oi.apart ops ok=true:=fun k ok hk hki hun hno=>by
    refine hfree k ok hk hki ?_ hno
    by_cases hjk:j=k
    ·subst hjk;exact hjun
    ·rw [getD_set_ne true hjk] at hun;exact hun
   refine qOp_mono (fun a' h3=>ih (listed.setIfInBounds j true) a' (inv.set hj hjn) hfree' (ready_mono hr (Ne.symm hji)) h3.1 ?_) h2
   rw [Array.setIfInBounds_comm _ _ hji]
   exact h3.2
theorem anyT_lex {P:Program} {ops:Array Oper} {md:Region.Mode} {C:World->Prop} {n g:Nat} {Lq:Act->Prop} (hsel:Region.noSelect ops=true) (hs:Region.sinkB md ops n=true) (hc:Region.chainB md ops n=true) (hn:n<ops.size) :
  ∀ (l:List Oper) (k:Nat) (listed:Array Bool) (a:Act),(∀ j,j<l.length->l[j]? = ops[k+j]?)->k+l.length=n->HeadInv md ops n listed ->
  Region.lexHead md ops g l.length k listed=true->wpQuiet P ops C Lq l a ->
  anyT P md ops C n (fun listed' a'=>Region.seqB md ops g n listed'=true/\Lq a') l.length listed a
 | [],k,listed,a,_,hk,_,hB,h=>by
  have:k=n:=by simpa using hk
  subst this
  exact ⟨by simpa [Region.lexHead] using hB,h⟩
 | o :: l,k,listed,a,hl,hk,inv,hB,h=>by
  have h0:ops[k]? = some o:=by simpa using (hl 0 (by simp)).symm
  simp only [List.length_cons,Region.lexHead,Bool.and_eq_true] at hB
  obtain ⟨⟨hr,hf⟩,hB'⟩:=hB
  have hkn:k<n:=by simp only [List.length_cons] at hk;omega
  have hr':k ∈ Region.ready md ops listed:=by simpa using hr
  have hst:qOp P ops C k (wpQuiet P ops C Lq l) a:=by unfold qOp;simp only [h0];exact h
  obtain ⟨v,hy,hK⟩:=yieldsIn_of_qOp h0 hst
  exact anyT_first h0 (Region.noSelect_spec hsel) hs hc hn hkn (fun listed' a' hL=>seqB_ready hL.1) l.length listed a inv (Region.free_spec h0 hf) hr' hy
   (anyT_lex hsel hs hc hn l (k+1) _ _ (fun j hj=>by have:=hl (j+1) (by simp;omega);simpa [Nat.add_assoc,Nat.add_comm 1 j] using this) (by simp only [List.length_cons] at hk;omega) (inv.set hr' hkn) hB' hK)
theorem region_tail {P:Program} {C:World->Prop} {id:Nat} {Q:Exit->Act->World->Prop} {a:Act} {w:World} {l:List Oper} (n:Nat) (hm:P.follows .mixedOrders=true) (hB:Region.lexTailB .any l.toArray n=true) (hC:C { w with drawn:=w.drawn+1 })
  (h:wpQuiet P l.toArray C (fun a'=>∀ w',C w'->wpList P l.toArray Q (l.drop n) a' w') (l.take n) a):(Code.region id l.toArray true).wp P Q a w:=by
 simp only [Region.lexTailB,Bool.and_eq_true,decide_eq_true_eq] at hB
 obtain ⟨⟨⟨⟨hsel,hn⟩,hs⟩,hc⟩,hlex⟩:=hB
 have hn':n<l.length:=by simpa using hn
 have htl:(l.take n).length=n:=by simp;omega
 have hdl:(l.drop n).length=l.toArray.size-n:=by simp
 have inv0:HeadInv .any l.toArray n (Array.replicate l.toArray.size false) :=
  ⟨by simp,fun j oj _ hl=>(by rw [getD_replicate_false] at hl;cases hl),fun t _ ht=>getD_in (by simpa using ht) (getD_replicate_false _ _)⟩
 have H:=anyT_lex (md:=.any) (g:=l.toArray.size-n) hsel hs hc hn (l.take n) 0 _ a (fun j hj=>by
  have hj':j<n:=by rw [htl] at hj;exact hj
  simp [hj']) (by simpa using htl) inv0 (by rw [htl];exact hlex) h
 refine wp_region_any hm ?_
 have:=any_of_head (Q':=Q) (g:=l.toArray.size-n) (fun listed a' w' hw' hL=>by
  have:=wpAny_of_seq (md:=.any) (Q':=Q) (l.drop n) n listed a' w' (fun j=>by simp [List.getElem?_drop]) (by rw [hdl];exact hL.1) (hL.2 w' hw')
  rwa [hdl] at this) _ _ _ { w with drawn:=w.drawn+1 } hC H
 rw [htl,show n+(l.toArray.size-n)=l.toArray.size by omega] at this
 exact this
theorem tail_below {P:Program} {id:Nat} {Q:Exit->Act->World->Prop} {a:Act} {w:World} {l:List Oper} (n:Nat) (hm:P.follows .mixedOrders=true) (hB:Region.lexTailB .any l.toArray n=true)
  (h:wpQuiet P l.toArray (fun w'=>∃ p:Regrown,w'=Go.Sort.grow (redrawn w p.d) p.os) (fun a'=>∀ w',(∃ p:Regrown,w'=Go.Sort.grow (redrawn w p.d) p.os)->wpList P l.toArray Q (l.drop n) a' w') (l.take n) a):(Code.region id l.toArray true).wp P Q a w :=
 region_tail (C:=fun w'=>∃ p:Regrown,w'=Go.Sort.grow (redrawn w p.d) p.os) n hm hB ⟨⟨w.drawn+1,#[]⟩,by rw [Go.Sort.grow_empty];rfl⟩ h
end Qtail
namespace Qflo
open Go.RowKit
def lay (k:Nat) (o:Oper):Oper:={ o with after:=o.after.push ⟨k,.data⟩ }
def bound (ops:Array Oper) (k n:Nat):Array Oper:=ops.modify n (lay k)
theorem get_bound (ops:Array Oper) (k n i:Nat):(bound ops k n)[i]? = if n=i then (ops[i]?).map (lay k) else ops[i]?:=by
 unfold bound
 rw [Array.getElem?_modify]
theorem dst_bound (ops:Array Oper) (k n i:Nat):((bound ops k n)[i]?).bind (·.dst)=(ops[i]?).bind (·.dst):=by
 rw [get_bound]
 split
 ·cases ops[i]? <;> rfl
 ·rfl
theorem yielded_bound (ops:Array Oper) (k n:Nat) (t:Array Value):yielded (bound ops k n) t=yielded ops t:=by
 funext j
 unfold yielded
 rw [dst_bound]
theorem wpOp_bound {P:Program} {ops:Array Oper} {Q:Exit->Act->World->Prop} {k n i:Nat} {K:Act->World->Prop} {a:Act} {w:World}:wpOp P (bound ops k n) Q i K a w ↔ wpOp P ops Q i K a w:=by
 unfold wpOp
 rw [get_bound,yielded_bound]
 by_cases hn:n=i
 ·rw [if_pos hn]
  cases ops[i]? with
  | none=>exact Iff.rfl
  | some o=>exact Iff.rfl
 ·rw [if_neg hn]
theorem wpQuiet_bound {P:Program} {ops:Array Oper} {C:World->Prop} {k n:Nat}:∀ (l:List Oper) {Q:Act->Prop} {a:Act},wpQuiet P ops C Q l a->wpQuiet P (bound ops k n) C Q l a
 | [],_,_,h=>h
 | o :: l,Q,a,h=>by
  unfold wpQuiet at h |-
  rw [yielded_bound]
  split
  ·rename_i hw
   rw [if_pos hw] at h
   exact Oper.quiet_mono (fun a h=>wpQuiet_bound l h) h
  ·rename_i hw
   rw [if_neg hw] at h
   exact wpQuiet_bound l h
theorem wpList_bound {P:Program} {ops:Array Oper} {Q:Exit->Act->World->Prop} {k n:Nat}:∀ (l:List Oper) {a:Act} {w:World},wpList P ops Q l a w->wpList P (bound ops k n) Q l a w
 | [],_,_,h=>h
 | o :: l,a,w,h=>by
  unfold wpList at h |-
  rw [yielded_bound]
  split
  ·rename_i hw
   rw [if_pos hw] at h
   exact h.imp (Oper.wp_mono (fun a w h=>wpList_bound l h)) id
  ·rename_i hw
   rw [if_neg hw] at h
   exact wpList_bound l h
theorem wpList_lay {P:Program} {ops:Array Oper} {Q:Exit->Act->World->Prop} {k:Nat} {o:Oper} {l:List Oper} {a:Act} {w:World} (h:wpList P ops Q (o :: l) a w):wpList P ops Q (lay k o :: l) a w:=h
theorem no_events {P:Program} {x:Value} {ix:Nat} {w:World}:¬ noRoomEvent ∈ ((do pure (.value (<- Instr.extract x ix)):Sem Next).runT P w #[]).2:=by
 intro h
 cases x with
 | tuple vs =>
  cases hk:vs[ix]? with
  | some v=>simp only [Instr.extract,hk] at h;exact absurd (show noRoomEvent ∈ (#[]:Array _) from h) (by simp)
  | none=>simp only [Instr.extract,hk] at h;exact absurd (show noRoomEvent ∈ (#[]:Array _) from h) (by simp)
 | _=>exact absurd (show noRoomEvent ∈ (#[]:Array _) from h) (by simp)
theorem extract_wp {P:Program} {ops:Array Oper} {Q:Exit->Act->World->Prop} {i:Nat} {o:Oper} {x:Operand} {ix:Nat} (hi:ops[i]? = some o) (ho:o.op=.extract x ix) (hg:o.guard=none) {K:Act->World->Prop} {a:Act} {w:World}
  (h:wpOp P ops Q i K a w):∃ v,Yields P ops o v a/\K (a.put o.dst v) w:=by
 have hw:Region.wanted o (yielded ops a.tmps)=true:=by unfold Region.wanted;rw [hg]
 unfold wpOp at h
 simp only [hi,hw,if_true] at h
 have hx:execOp a.eval o=(do pure (.value (<- Instr.extract (a.eval x) ix)):Sem Next):=by unfold execOp;rw [ho]
 rcases h with h|h
 ·unfold Oper.wp at h
  rw [hx] at h
  have hv:∃ v,∀ w,(execOp a.eval o).run P w=.ok (.value v) w:=by
   cases hq:a.eval x with
   | tuple vs =>
    cases hk:vs[ix]? with
    | some v=>exact ⟨v,fun w=>by rw [hx,hq];simp [Instr.extract,hk]⟩
    | none=>rw [hq] at h;simp [Instr.extract,hk,Oper.upon,go_sem] at h
   | _=>rw [hq] at h;simp [Instr.extract,Oper.upon,go_sem] at h
  obtain ⟨v,hv⟩:=hv
  refine ⟨v,.inl ⟨hw,hv⟩,?_⟩
  rw [<- hx,hv w] at h
  exact h
 ·have h3:=h.1
  unfold Oper.asks at h3
  rw [hx] at h3
  exact absurd h3.1 no_events
theorem ready_bound {md:Region.Mode} {ops:Array Oper} {listed:Array Bool} {k n j:Nat}:j ∈ Region.ready md (bound ops k n) listed ↔ j ∈ Region.ready md ops listed/\(j=n->listed.getD k false=true):=by
 rw [mem_ready,mem_ready,get_bound]
 constructor
 ·rintro ⟨h0,o,ho,hall⟩
  split at ho
  ·rename_i hn
   subst hn
   cases hq:ops[n]? with
   | none=>rw [hq] at ho;cases ho
   | some o1 =>
    rw [hq] at ho
    cases ho
    refine ⟨⟨h0,o1,rfl,fun e he hb=>hall e (Array.mem_push.2 (.inl he)) hb⟩,fun _=>hall ⟨k,.data⟩ (Array.mem_push.2 (.inr rfl)) rfl⟩
  ·rename_i hn
   exact ⟨⟨h0,o,ho,hall⟩,fun e=>absurd e.symm hn⟩
 ·rintro ⟨⟨h0,o,ho,hall⟩,hk⟩
  by_cases hn:n=j
  ·subst hn
   refine ⟨h0,lay k o,by rw [if_pos rfl,ho];rfl,fun e he hb=>?_⟩
   rcases Array.mem_push.1 he with he|rfl
   ·exact hall e he hb
   ·exact hk rfl
  ·exact ⟨h0,o,by rw [if_neg hn];exact ho,hall⟩
def follows (md:Region.Mode) (ops:Array Oper) (k n:Nat):Bool :=
 match ops[k]?,ops[n]? with
 | some ok,some on=>ok.after.all (fun e=>!Region.binds md e || on.after.any (fun d=>Region.binds md d && d.on == e.on)) && (match ok.op with|.extract ..=>true|_=>false) && ok.guard.isNone
 | _,_=>false
theorem follows_spec {md:Region.Mode} {ops:Array Oper} {k n:Nat} (h:follows md ops k n=true):∃ ok on,ops[k]? = some ok/\ops[n]? = some on/\(∀ e ∈ ok.after,Region.binds md e=true->∃ d ∈ on.after,Region.binds md d=true/\d.on=e.on)/\(∃ x ix,ok.op=.extract x ix)/\ok.guard=none:=by
 unfold follows at h
 split at h
 ·rename_i ok on h1 h2
  simp only [Bool.and_eq_true] at h
  refine ⟨ok,on,h1,h2,fun e he hb=>?_,?_,by simpa using h.2⟩
  ·have:=(Array.all_eq_true_iff_forall_mem.1 h.1.1) e he
   simp only [hb,Bool.not_true,Bool.false_or] at this
   obtain ⟨d,hd,hb2⟩:=Array.any_eq_true'.1 this
   simp only [Bool.and_eq_true,beq_iff_eq] at hb2
   exact ⟨d,hd,hb2.1,hb2.2⟩
  ·have:=h.1.2
   split at this
   ·rename_i x ix hop;exact ⟨x,ix,hop⟩
   ·cases this
 ·cases h
def before (md:Region.Mode) (ops:Array Oper) (k:Nat):Array Bool:=((List.range ops.size).map fun j=>Region.waitsFor md ops k j).toArray
theorem before_get {md:Region.Mode} {ops:Array Oper} {k j:Nat} (hj:j<ops.size):(before md ops k).getD j true=Region.waitsFor md ops k j:=by
 unfold before
 simp [hj]
theorem put_panic {Q:Exit->Act->World->Prop} (hQ:∀ (d:Tmp) v c a w,Q (.panic c) (a.put (some d) v) w->Q (.panic c) a w) (d:Option Tmp) (v:Value) (c) (a:Act) (w:World) (h:Q (.panic c) (a.put d v) w):Q (.panic c) a w:=by
 cases d with
 | none=>exact h
 | some d=>exact hQ d v c a w h
theorem any_bound {P:Program} {ops:Array Oper} {md:Region.Mode} {Q:Exit->Act->World->Prop} {k n:Nat} (hsel:Region.noSelect ops=true) (hf:follows md ops k n=true) (hfree:Region.free md ops (before md ops k) k=true) (hkn:k ≠ n)
  (hQ:∀ (d:Tmp) v c a w,Q (.panic c) (a.put (some d) v) w->Q (.panic c) a w) :
  ∀ (fuel:Nat) (listed:Array Bool) (a:Act) (w:World),listed.size=ops.size->wpAny P md (bound ops k n) Q fuel listed a w->wpAny P md ops Q fuel listed a w:=by
 obtain ⟨ok,on,hk,hn,hdep,⟨x,ix,hop⟩,hg⟩:=follows_spec hf
 have hlt:k<ops.size:=(Array.getElem?_eq_some_iff.1 hk).1
 have key:∀ (listed:Array Bool),listed.size=ops.size->n ∈ Region.ready md ops listed->¬ listed.getD k false=true->k ∈ Region.ready md ops listed:=fun listed hs hr hl=>by
  obtain ⟨_,o,ho,hall⟩:=mem_ready.1 hr
  rw [hn] at ho
  cases ho
  refine mem_ready.2 ⟨getD_in (by omega) (by simpa using hl),ok,hk,fun e he hb=>?_⟩
  obtain ⟨d,hd,hbd,heq⟩:=hdep e he hb
  rw [<- heq]
  exact hall d hd hbd
 intro fuel
 induction fuel with
 | zero =>
  intro listed a w hs H
  refine ⟨?_,H.2⟩
  cases hr:Region.ready md ops listed with
  | nil=>rfl
  | cons j js =>
   have hj:j ∈ Region.ready md ops listed:=by rw [hr];simp
   by_cases hjn:j=n/\¬ listed.getD k false=true
   ·have h1:=key listed hs (hjn.1 ▸ hj) hjn.2
    have h2:k ∈ Region.ready md (bound ops k n) listed:=ready_bound.2 ⟨h1,fun e=>absurd e hkn⟩
    rw [H.1] at h2
    cases h2
   ·have h2:j ∈ Region.ready md (bound ops k n) listed:=ready_bound.2 ⟨hj,fun e=>Decidable.byContradiction fun h=>hjn ⟨e,h⟩⟩
    rw [H.1] at h2
    cases h2
 | succ fuel ih =>
  intro listed a w hs H
  by_cases hr:k ∈ Region.ready md ops listed
  ·have h1:=H.2 k (ready_bound.2 ⟨hr,fun e=>absurd e hkn⟩)
   obtain ⟨v,hy,h2⟩:=extract_wp hk hop hg (wpOp_bound.1 h1)
   have h3:=ih _ _ _ (by simp [hs]) h2
   refine wpAny_first hk (Region.noSelect_spec hsel) (fun c a w=>put_panic hQ _ _ c a w) fuel listed a w (fun j oj hj hne hun hno=>?_) hr hy h3
   refine Region.free_spec hk hfree j oj hj hne ?_ hno
   rw [before_get (Array.getElem?_eq_some_iff.1 hj).1]
   cases hw:Region.waitsFor md ops k j with
   | false=>rfl
   | true =>
    obtain ⟨o2,ho2,e,he,hb,heq⟩:=Region.waitsFor_spec hw
    obtain ⟨_,o3,ho3,hall⟩:=mem_ready.1 hr
    rw [ho2] at ho3
    cases ho3
    have h5:=hall e he hb
    rw [heq,getD_both hun] at h5
    cases h5
  ·have hrr:∀ j,j ∈ Region.ready md ops listed->j ∈ Region.ready md (bound ops k n) listed:=fun j hj=>ready_bound.2 ⟨hj,fun e=>by
    subst e
    exact Decidable.byContradiction fun h=>hr (key listed hs hj h)⟩
   refine ⟨fun h0=>H.1 ?_,fun j hj=>wpOp_mono (fun a w h=>ih _ _ _ (by simp [hs]) h) (wpOp_bound.1 (H.2 j (hrr j hj)))⟩
   cases hb:Region.ready md (bound ops k n) listed with
   | nil=>rfl
   | cons j js =>
    have hj:j ∈ Region.ready md (bound ops k n) listed:=by rw [hb];simp
    have:=(ready_bound.1 hj).1
    rw [h0] at this
    cases this
open Qtail in
theorem region_any {P:Program} {C:World->Prop} {Q:Exit->Act->World->Prop} {a:Act} {w:World} {l:List Oper} (n:Nat) (hB:Region.lexTailB .any l.toArray n=true) (hC:C { w with drawn:=w.drawn+1 })
  (h:wpQuiet P l.toArray C (fun a'=>∀ w',C w'->wpList P l.toArray Q (l.drop n) a' w') (l.take n) a):wpAny P .any l.toArray Q l.toArray.size (Array.replicate l.toArray.size false) a { w with drawn:=w.drawn+1 }:=by
 simp only [Region.lexTailB,Bool.and_eq_true,decide_eq_true_eq] at hB
 obtain ⟨⟨⟨⟨hsel,hn⟩,hs⟩,hc⟩,hlex⟩:=hB
 have hn':n<l.length:=by simpa using hn
 have htl:(l.take n).length=n:=by simp;omega
 have hdl:(l.drop n).length=l.toArray.size-n:=by simp
 have inv0:HeadInv .any l.toArray n (Array.replicate l.toArray.size false) :=
  ⟨by simp,fun j oj _ hl=>(by rw [getD_replicate_false] at hl;cases hl),fun t _ ht=>getD_in (by simpa using ht) (getD_replicate_false _ _)⟩
 have H:=anyT_lex (md:=.any) (g:=l.toArray.size-n) hsel hs hc hn (l.take n) 0 _ a (fun j hj=>by
  have hj':j<n:=by rw [htl] at hj;exact hj
  simp [hj']) (by simpa using htl) inv0 (by rw [htl];exact hlex) h
 have:=any_of_head (Q':=Q) (g:=l.toArray.size-n) (fun listed a' w' hw' hL=>by
  have:=wpAny_of_seq (md:=.any) (Q':=Q) (l.drop n) n listed a' w' (fun j=>by simp [List.getElem?_drop]) (by rw [hdl];exact hL.1) (hL.2 w' hw')
  rwa [hdl] at this) _ _ _ { w with drawn:=w.drawn+1 } hC H
 rw [htl,show n+(l.toArray.size-n)=l.toArray.size by omega] at this
 exact this
theorem wpQuiet_mono {P:Program} {ops:Array Oper} {C:World->Prop} {Q Q':Act->Prop} (hq:∀ a,Q a->Q' a):∀ (l:List Oper) (a:Act),wpQuiet P ops C Q l a->wpQuiet P ops C Q' l a
 | [],_,h=>hq _ h
 | o :: l,a,h=>by
  unfold wpQuiet at h |-
  split
  ·rename_i hw
   rw [if_pos hw] at h
   exact Oper.quiet_mono (fun a h=>wpQuiet_mono hq l a h) h
  ·rename_i hw
   rw [if_neg hw] at h
   exact wpQuiet_mono hq l _ h
theorem tail_late {P:Program} {id:Nat} {Q:Exit->Act->World->Prop} {a:Act} {w:World} {l:List Oper} (k n:Nat) (hm:P.follows .mixedOrders=true) (hB:(decide (k ≠ n) && Region.noSelect l.toArray && follows .any l.toArray k n && Region.free .any l.toArray (before .any l.toArray k) k && Region.lexTailB .any (bound l.toArray k n) n)=true)
  (hQ:∀ (d:Tmp) v c a w,Q (.panic c) (a.put (some d) v) w->Q (.panic c) a w)
  (h:wpQuiet P l.toArray (fun w'=>∃ p:Regrown,w'=Go.Sort.grow (redrawn w p.d) p.os) (fun a'=>∀ w',(∃ p:Regrown,w'=Go.Sort.grow (redrawn w p.d) p.os)->wpList P l.toArray Q (l.drop n) a' w') (l.take n) a):(Code.region id l.toArray true).wp P Q a w:=by
 simp only [Bool.and_eq_true,decide_eq_true_eq] at hB
 obtain ⟨⟨⟨⟨hkn,hsel⟩,hf⟩,hfree⟩,hB⟩:=hB
 have hsz:(bound l.toArray k n).size=l.toArray.size:=by unfold bound;simp
 refine wp_region_any hm (any_bound hsel hf hfree hkn hQ _ _ _ _ (by simp) ?_)
 have hnn:n<l.length:=by
  obtain ⟨ok,on,hk,hn,_⟩:=follows_spec hf
  simpa using (Array.getElem?_eq_some_iff.1 hn).1
 have ht:(bound l.toArray k n).toList.take n=l.take n:=by
  apply List.ext_getElem?
  intro i
  rw [List.getElem?_take,List.getElem?_take]
  split
  ·rw [Array.getElem?_toList,get_bound,if_neg (by omega)];simp
  ·rfl
 have hd:∃ o,l.drop n=o :: l.drop (n+1)/\(bound l.toArray k n).toList.drop n=lay k o :: l.drop (n+1):=by
  refine ⟨l[n],List.drop_eq_getElem_cons hnn,?_⟩
  apply List.ext_getElem?
  intro i
  rw [List.getElem?_drop,Array.getElem?_toList,get_bound]
  cases i with
  | zero=>simp [hnn]
  | succ i=>rw [if_neg (by omega)];simp [Nat.add_assoc,Nat.add_comm 1 i]
 obtain ⟨o,ho1,ho2⟩:=hd
 have H:=region_any (l:=(bound l.toArray k n).toList) (Q:=Q) (a:=a) (w:=w) (C:=fun w'=>∃ p:Regrown,w'=Go.Sort.grow (redrawn w p.d) p.os) n (by rw [Array.toArray_toList];exact hB) ⟨⟨w.drawn+1,#[]⟩,by rw [Go.Sort.grow_empty];rfl⟩ (P:=P) (by
  rw [Array.toArray_toList,ht]
  refine wpQuiet_bound _ ?_
  refine wpQuiet_mono (fun a' h w' hw'=>?_) _ _ h
  rw [ho2]
  have h1:=h w' hw'
  rw [ho1] at h1
  exact wpList_bound _ (wpList_lay h1))
 rw [Array.toArray_toList,hsz] at H
 exact H
end Qflo
namespace Rin
open Go.RowKit
section
variable {F:Fence} {n:Nat} {P:Program} {ops:Array Oper} {rest:List Oper} {o:Oper} {a:Act} {w:World} {Q:Exit->Act->World->Prop}
theorem load_row (hgd:o.guard=none) (ty:TypeId) (x:Operand) (ho:o.op=.load ty x)
  (g:Nat) (hx:a.eval x=.pointer (some ⟨g,0,none⟩)) (t:TypeId) (cs:Array Value) (fr:Nat × Nat) (d:TypeDesc) (hg:w.heap[g]? = some (.cells cs t fr))
  (hu:P.underlying ty=some d) (hd:(match d with|.struct _|.array _ _=>true|_=>false)=true) (hi:(P.info? ty).map (·.size)=some cs.size)
  (h:wpListIn F n P ops Q rest (a.put o.dst (.agg cs)) w):wpListIn F n P ops Q (o :: rest) a w:=by
 refine wpListIn_plain hgd fun K hK=>?_
 unfold Oper.wpIn
 refine ⟨by simp [Oper.about,ho],?_⟩
 rw [Oper.semAt_plain F _ _ (by rw [ho];intro c hc;cases hc)]
 simp only [execOp,ho,hx,Instr.loadAt,Instr.sureAddr,Sem.run_bind,Sem.run_pure,Result.andThen_ok,run_loadVar_row w g t ty cs fr d hg hu hd hi]
 exact hK _ _ h
theorem store_row (hgd:o.guard=none) (ty:TypeId) (x y:Operand) (ho:o.op=.store ty x y)
  (g:Nat) (cells:Array Value) (hx:a.eval x=.pointer (some ⟨g,0,none⟩)) (hy:a.eval y=.agg cells)
  (t:TypeId) (old:Array Value) (hg:w.heap[g]? = some (.cells old t (0,0))) (hi:(P.info? ty).map (·.size)=some cells.size)
  (hold:old.size=cells.size) (h1:cells.all (·.oneCell')=true)
  (h:wpListIn F n P ops Q rest (a.put o.dst undef) (w.setRow g cells)):wpListIn F n P ops Q (o :: rest) a w:=by
 refine wpListIn_plain hgd fun K hK=>?_
 unfold Oper.wpIn
 refine ⟨by simp [Oper.about,ho],?_⟩
 rw [Oper.semAt_plain F _ _ (by rw [ho];intro c hc;cases hc)]
 simp only [execOp,ho,hx,hy,Instr.storeAt,Instr.sureAddr,Sem.run_bind,Sem.run_pure,Result.andThen_ok,run_storeVar_row w g t ty old cells hg hi hold h1]
 exact hK _ _ h
end
end Rin
namespace Rlaw
open Go.RowKit
def Free (B:Nat) (I:World->Prop):Prop:=∀ (W:World) (k:Nat) (o o':Obj),I W->B<=k->W.heap[k]? = some o->o.isCells=false->o'.isCells=false->I (W.putObj k o')
def endP {σ:Type} (B:Nat) (I:σ->World->Prop) (Ix:Code->World->Prop) (Kp:σ->World->World->Prop) (x:σ) (W Wa:World):Exit->Act->World->Prop
 | .normal,_,W'=>KeepsFrom B Wa W'/\Kp x W W'/\I x W'
 | .ret,_,W'=>KeepsFrom B Wa W'/\Ix .ret W'
 | .exit id,_,W'=>KeepsFrom B Wa W'/\Ix (.exit id) W'
 | .goto t,_,W'=>KeepsFrom B Wa W'/\Ix (.goto t) W'
 | .panic _,_,_=>False
 | .outgrown,_,_=>False
theorem range_law {F:Fence} {n:Nat} {P:Program} {w:World} {σ:Type} {g:Operand} {ps:Array Tmp} {assign body:Code} {Q:Exit->Act->World->Prop} {a:Act}
  (hro:F.round=none) (h1:1<=n) {gf:Nat} {lb:Array Value} (hg:a.eval g=.func (.func gf) #[] lb) (hFg:F.fn gf) (eg:∀ args w,(callFunc gf args).run P w=.ok (.enter gf args) w)
  (encs:σ->Array Value) (hps:∀ x,(encs x).size=ps.size) (s0:σ)
  (I:σ->World->Prop) (Ix:Code->World->Prop) (Gv:σ->World->World->σ->Prop) (Ga:σ->World->World->σ->Act->World->Prop) (Kp:σ->World->World->Prop) (En:σ->World->World->Prop)
  (hI:∀ s,Free w.heap.size (I s)) (hIx:∀ c,Free w.heap.size (Ix c)) (hKp:∀ x W,Free w.heap.size (Kp x W)) (hEn:∀ s X,Free w.heap.size (En s X)) (hGa:∀ s X W x a',Free w.heap.size (Ga s X W x a'))
  (h0:∀ r,I s0 ((w.alloc (.deferred (some []))).alloc (.loop r)))
  (hit:∀ (W1:World) (J:σ->World->Prop) (Jx:World->Prop),Below w.heap.size w W1->W1.heap.size=w.heap.size+2->(∀ s X,J s X->I s X)->J s0 W1 ->
   (∀ s X W x,J s X->Gv s X W x->KeepsFrom w.heap.size X W->YieldAt F (n-1-1) P (w.heap.size+1) (encs x) W fun e W'=>(e=.returned (.bool true)/\J x W'/\Kp x W W') \/ (e=.returned (.bool false)/\Jx W')) ->
   CallsIn F (n-1) P gf (#[.func (.yield (w.heap.size+1)) #[] #[]] ++ lb) W1 fun e W'=>(∃ v,e=.returned v)/\((∃ s X,J s X/\En s X W'/\KeepsFrom w.heap.size X W') \/ Jx W'))
  (hassign:∀ s X W x,I s X->Gv s X W x ->
   assign.wpIn (F.inRound (w.heap.size+1)) (n-1-1) P (Exit.then (fun a' Wa=>KeepsFrom w.heap.size W Wa/\Ga s X W x a' Wa) (fun _ _ _=>False)) { tmps:=(ps.zip (encs x)).foldl (fun t (p,v)=>t.setIfInBounds p v) a.tmps,defers:=[] } W)
  (hbody:∀ s X W x a' Wa,I s X->Ga s X W x a' Wa->body.wpIn (F.inRound (w.heap.size+1)) (n-1-1) P (endP w.heap.size I Ix Kp x W Wa) a' Wa)
  (hdone:∀ s X W,I s X->En s X W->W.heap[w.heap.size]? = some (.deferred (some []))->Q .normal { a with defers:={ target:=.collected w.heap.size,args:=#[] } :: a.defers } W)
  (hstop:∀ (c:Code) (W:World),Ix c W->W.heap[w.heap.size]? = some (.deferred (some []))->c.wpIn F n P Q { a with defers:={ target:=.collected w.heap.size,args:=#[] } :: a.defers } W) :
  (Code.rangeFunc g ps assign body).wpIn F n P Q a w:=by
 refine wpIn_rangeFunc fun fn hfn=>?_
 rw [hro]
 obtain ⟨R,hR⟩ : ∃ R:LoopState->Option Code->Loop,R=fun st pe=>{ state:=st,pending:=pe,fn,tmps:=a.tmps,params:=ps,assign,body,defers:=w.heap.size }:=⟨_,rfl⟩
 obtain ⟨U,hU⟩ : ∃ U,U=(w.alloc (.deferred (some []))).alloc (.loop (R .ready none)):=⟨_,rfl⟩
 have uL:U.heap[w.heap.size+1]? = some (.loop (R .ready none)):=by
  have h:=World.alloc_heap_new (w.alloc (.deferred (some []))) (.loop (R .ready none))
  rw [World.size_alloc] at h
  rw [hU];exact h
 have uD:U.heap[w.heap.size]? = some (.deferred (some [])):=by
  rw [hU];exact (Below.heap_alloc _ _ _ (by simp)).trans (World.alloc_heap_new w _)
 have uB:Below w.heap.size w U:=by rw [hU];exact ((Below.refl _ w).alloc (Nat.le_refl _) _).alloc (by simp) _
 have uS:U.heap.size=w.heap.size+2:=by rw [hU];simp
 have uI:I s0 U:=by rw [hU];exact h0 _
 refine ⟨w.heap.size+1,[{ target:=.collected w.heap.size,args:=#[] }],U,{ target:=.fn (.func gf) lb,args:=#[.func (.yield (w.heap.size+1)) #[] #[]] },U,gf,
  #[.func (.yield (w.heap.size+1)) #[] #[]] ++ lb,U,?_,?_,?_,?_,fun _=>h1,?_⟩
 ·rw [hU,hR];exact run_enterLoop_outer _ _ _ _ _
 ·simp only [resolve,hg];simp [go_sem]
 ·intro f' hf';simp [Target.leads] at hf';subst hf';exact hFg
 ·simp [invoke,go_sem,eg]
 ·refine (hit U (fun s W=>I s W/\W.heap[w.heap.size+1]? = some (.loop (R .ready none))/\W.heap[w.heap.size]? = some (.deferred (some [])))
   (fun W=>∃ c,Ix c W/\W.heap[w.heap.size+1]? = some (.loop (R .done (some c)))/\W.heap[w.heap.size]? = some (.deferred (some []))) uB uS (fun _ _ h=>h.1) ⟨uI,uL,uD⟩ ?_).mono ?_
  ·rintro s X W x ⟨xI,xL,xD⟩ hG k0
   have wL:=k0.same _ _ (by omega) xL rfl
   have wD:=k0.same _ _ (Nat.le_refl _) xD rfl
   have hy:=run_yield (P:=P) (args:=encs x) wL (by rw [hR];exact hps x)
   rw [hR] at hy
   refine ⟨fn,_,assign,body,hy,roundIn_of_wpIn hfn (wpIn_mono (hassign s X W x xI hG) ?_)⟩
   clear hy
   intro e a' Wa hA
   cases e with
   | normal =>
    obtain ⟨k1,hA⟩:=hA
    have aL:=k1.same _ _ (by omega) wL rfl
    have aD:=k1.same _ _ (Nat.le_refl _) wD rfl
    refine ⟨_,run_beginRound aL (by rw [hR]),?_⟩
    obtain ⟨V,hV⟩ : ∃ V,V=Wa.putObj (w.heap.size+1) (.loop { R .ready none with state:=.busy }):=⟨_,rfl⟩
    rw [<- hV]
    have vL:V.heap[w.heap.size+1]? = some (.loop { R .ready none with state:=.busy }):=by rw [hV];exact World.putObj_heap_same (zLo aL)
    have vD:V.heap[w.heap.size]? = some (.deferred (some [])):=by rw [hV];exact (World.putObj_heap_other (by omega)).trans aD
    refine wpIn_mono (hbody s X W x a' V xI (by rw [hV];exact hGa s X W x a' Wa _ _ _ hA (by omega) aL rfl rfl)) ?_
    have fin:∀ (j:Option Code) (Z:World),KeepsFrom w.heap.size V Z->(Instr.endRound (w.heap.size+1) j).run P Z=.ok (.bool j.isNone) (Z.putObj (w.heap.size+1) (.loop (R (if j.isNone then .ready else .done) j))) /\
      Z.heap[w.heap.size+1]? = some (.loop { R .ready none with state:=.busy }) /\
      (Z.putObj (w.heap.size+1) (.loop (R (if j.isNone then .ready else .done) j))).heap[w.heap.size+1]? = some (.loop (R (if j.isNone then .ready else .done) j)) /\
      (Z.putObj (w.heap.size+1) (.loop (R (if j.isNone then .ready else .done) j))).heap[w.heap.size]? = some (.deferred (some [])):=fun j Z hz=>by
     have zL:=hz.same _ _ (by omega) vL rfl
     have zr:=run_endRound (P:=P) j zL
     rw [hR] at zr |-
     exact ⟨zr,by rw [hR] at zL;exact zL,World.putObj_heap_same (zLo zL),(World.putObj_heap_other (by omega)).trans (hz.same _ _ (Nat.le_refl _) vD rfl)⟩
    intro e a3 Z hp
    cases e with
    | normal =>
     obtain ⟨hz,hk,hi⟩:=hp
     obtain ⟨r1,r2,r3,r4⟩:=fin none Z hz
     exact ⟨_,_,r1,.inl ⟨rfl,⟨hI x Z _ _ _ hi (by omega) r2 rfl rfl,r3,r4⟩,hKp x W Z _ _ _ hk (by omega) r2 rfl rfl⟩⟩
    | ret =>
     obtain ⟨hz,hi⟩:=hp
     obtain ⟨r1,r2,r3,r4⟩:=fin (some .ret) Z hz
     exact ⟨_,_,r1,.inr ⟨rfl,.ret,hIx _ Z _ _ _ hi (by omega) r2 rfl rfl,r3,r4⟩⟩
    | exit id =>
     obtain ⟨hz,hi⟩:=hp
     obtain ⟨r1,r2,r3,r4⟩:=fin (some (.exit id)) Z hz
     exact ⟨_,_,r1,.inr ⟨rfl,.exit id,hIx _ Z _ _ _ hi (by omega) r2 rfl rfl,r3,r4⟩⟩
    | goto t =>
     obtain ⟨hz,hi⟩:=hp
     obtain ⟨r1,r2,r3,r4⟩:=fin (some (.goto t)) Z hz
     exact ⟨_,_,r1,.inr ⟨rfl,.goto t,hIx _ Z _ _ _ hi (by omega) r2 rfl rfl,r3,r4⟩⟩
    | panic ch=>exact hp.elim
    | outgrown=>exact hp.elim
   | ret=>exact hA.elim
   | exit id=>exact hA.elim
   | goto t=>exact hA.elim
   | panic ch=>exact hA.elim
   | outgrown=>exact hA.elim
  ·rintro e W2 ⟨⟨v,rfl⟩,(⟨s,X,⟨xI,xL,xD⟩,hE,k0⟩|⟨c,hi,hl,hk⟩)⟩
   ·have wL:=k0.same _ _ (by omega) xL rfl
    have wD:=k0.same _ _ (Nat.le_refl _) xD rfl
    refine ⟨none,_,by have h:=run_endLoop (P:=P) wL (by rw [hR];simp);rw [hR] at h;exact h,hdone s X _ xI (hEn s X W2 _ _ _ hE (by omega) wL rfl rfl) ((World.putObj_heap_other (by omega)).trans wD)⟩
   ·refine ⟨some c,_,by have h:=run_endLoop (P:=P) hl (by rw [hR];simp);rw [hR] at h;exact h,hstop c _ (hIx c W2 _ _ _ hi (by omega) hl rfl rfl) ((World.putObj_heap_other (by omega)).trans hk)⟩
end Rlaw
namespace Inr
open Go.RowKit
theorem rows_in {P:Program} {row:String} {args:Array Value} {w:World} {R:Value->World->Prop} {l n:Nat} (h:Rows P row args w R):RowsIn (Fence.wide.inRound l) n P row args w R :=
 fun c cs _=>let ⟨v,w',r,s⟩:=h c cs;⟨v,w',r,stepsIn_wide.2 s⟩
theorem oper_in {P:Program} {o:Oper} {a:Act} {w:World} {K:Act->World->Prop} {Q:Exit->Act->World->Prop} {l n:Nat} (hd:∀ c,o.op ≠ .defer c) (h:o.wp P a w K Q):o.wpIn (Fence.wide.inRound l) n P a w K Q:=by
 refine ⟨fun _ _=>trivial,?_⟩
 rw [Oper.semAt_eq _ _ _ hd]
 unfold Oper.wp at h
 generalize (execOp a.eval o).run P w=r at h
 cases r with
 | ok x w' =>
  cases x with
  | value v=>exact h
  | skip=>exact h
  | defer d=>exact h
  | enter f args=>exact ⟨fun h=>(by cases h),callsIn_wide.2 h⟩
  | row row args=>exact ⟨fun h=>(by cases h),rows_in h⟩
  | round=>exact h.elim
  | _=>exact h.elim
 | halt x w' =>
  cases x with
  | panic v=>exact h
  | _=>exact h.elim
def noDefer (ops:Array Oper):Bool:=ops.all fun o=>match o.op with|.defer _=>false|_=>true
theorem noDefer_spec {ops:Array Oper} (h:noDefer ops=true) {i:Nat} {o:Oper} (ho:ops[i]? = some o):∀ c,o.op ≠ .defer c:=fun c hc=>by
 obtain ⟨hi,rfl⟩:=Array.getElem?_eq_some_iff.1 ho
 have:=Array.all_eq_true.1 h i hi
 rw [hc] at this
 cases this
theorem any_in {P:Program} {md:Region.Mode} {ops:Array Oper} {Q:Exit->Act->World->Prop} {l n:Nat} (hd:noDefer ops=true) (hq:¬ LetsOut Q):∀ (fuel:Nat) (listed:Array Bool) (a:Act) (w:World),wpAny P md ops Q fuel listed a w->wpAnyIn (Fence.wide.inRound l) n P md ops Q fuel listed a w:=by
 intro fuel
 induction fuel with
 | zero=>intro listed a w h;exact h
 | succ fuel ih =>
  intro listed a w h
  refine ⟨h.1,fun i hi=>?_⟩
  have h1:=h.2 i hi
  unfold wpOp at h1
  unfold wpOpIn
  cases ho:ops[i]? with
  | none=>rw [ho] at h1;exact ih _ _ _ h1
  | some o =>
   rw [ho] at h1
   dsimp only at h1 |-
   by_cases hw:Region.wanted o (yielded ops a.tmps)=true
   ·rw [if_pos hw] at h1 |-
    rcases h1 with h1|h1
    ·exact oper_in (noDefer_spec hd ho) (Oper.wp_mono (fun a w h=>ih _ _ _ h) h1)
    ·exact absurd h1.2 hq
   ·rw [if_neg hw] at h1 |-
    exact ⟨fun _ _=>trivial,ih _ _ _ h1⟩
theorem region_in {P:Program} {id:Nat} {ops:Array Oper} {Q:Exit->Act->World->Prop} {a:Act} {w:World} {l n:Nat} (hm:P.follows .mixedOrders=true) (hd:noDefer ops=true) (hq:¬ LetsOut Q)
  (h:wpAny P .any ops Q ops.size (Array.replicate ops.size false) a w.drew):(Code.region id ops true).wpIn (Fence.wide.inRound l) n P Q a w :=
 wpIn_region_any hm (any_in hd hq _ _ _ _ h)
end Inr
end Go.Proofs.YteglcgnhhoenbaaGreatDoor
