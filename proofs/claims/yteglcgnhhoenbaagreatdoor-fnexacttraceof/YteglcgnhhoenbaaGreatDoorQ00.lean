import Derived.Test.YteglcgnhhoenbaaGreatDoorRows
import Derived.WalkKit
import Derived.ProofKit
import Derived.OpenShut
import Derived.Shelf.Strings.Builder1
import Derived.Shelf.Strings.Builder2
import Derived.Shelf.Strconv.Itoa0
import Derived.Shelf.Strconv.Itoa1
import Derived.Shelf.LaysM
import Derived.Shelf.Strconv.Itoa2
import Derived.Shelf.Strconv.Itoa3
import Derived.Shelf.Strconv.Itoa4
import Derived.Shelf.Strings.Search1
import Derived.Shelf.Strings.Search2
import Derived.Shelf.Strings.Search3
import Derived.Shelf.Strings.Count
import Derived.Shelf.Strings.Shaped
import Derived.Shelf.Unicode.DecodeSlow
import Derived.Test.YteglcgnhhoenbaaGreatDoorProg
import Derived.Lib.LaidTab
import Derived.RangeFuncNested
import Derived.RangeFuncBox
import Derived.OwnWalkIn
import Derived.TacticsIn
import Derived.Laws.Rows
import Derived.Laws.Tables
import Derived.RangeFuncBound
import Derived.RangeFuncCalls
import Derived.RangeFuncLeaves
import Derived.StillTail
import Derived.Deep.Quiet
import Derived.Lib.QuietBelow
import Derived.OwnWalk
import Derived.OrdersIn
import Derived.RangeFuncWrites
import Derived.ShutString
import Derived.Outline
import Derived.WalkLawsBesides
import Derived.Shelf.Utf8.RuneCount
import Derived.Shelf.Strings.Split
import Derived.Shelf.Strings.Replace
import Derived.Shelf.Strings.SplitShaped
import Derived.Shelf.Unicode.Decode
import Derived.Shelf.Strings.RuneCount
import Derived.Shelf.Unicode.DecodeAny
import Derived.Ground.SlgnProg
import Derived.Shelf.SlicesE.Clone
import Derived.Below
import Derived.Deep.Strs
import Derived.Deep.RegionWith
import Derived.Deep.QuietTactic
import Derived.BigQuiet
import Derived.LoopN
set_option linter.all false
set_option maxRecDepth 20000
set_option maxHeartbeats 8000000
open Go.ChangeShapes Go.WideShapes Go.ChangeAt Go.RowKit
open Go.Proofs.Tryz
namespace Go.Proofs.YteglcgnhhoenbaaGreatDoor
theorem zHd {p:Prop} (h:p):Hid p:=h
theorem zRf {B:Nat} {w:World}:Below B w w:=Below.refl _ _
theorem zAl (w:World) (o:Obj):Below w.heap.size w (w.alloc o):=(Below.refl _ _).alloc (Nat.le_refl _) o
theorem zLo {w:World} {b:Nat} {o:Obj} (h:w.heap[b]?=some o):b<w.heap.size:=(Array.getElem?_eq_some_iff.1 h).1
theorem x4 {a b:Int} (h:0<=a):a.tmod b=a % b:=Int.tmod_eq_emod_of_nonneg h
theorem x5 {a b:Int} (h:0<=a):a.tdiv b=a/b:=Int.tdiv_eq_ediv_of_nonneg h
theorem x6 (n:Int):IntKind.i64.wrap n=(n+9223372036854775808)%18446744073709551616-9223372036854775808:=IntKind.wrap_i64 n
theorem x7 {w:World} {a:Addr} {v:Value} (h:w.cell? a=some v) (d:Nat) (os:Array Obj):(Go.Sort.grow (redrawn w d) os).cell? a=some v:=cell_regrown h d os
theorem x8 (w:World) (d:Nat) (os:Array Obj):Below w.heap.size w (Go.Sort.grow (redrawn w d) os):=below_regrown w d os
theorem x9 {p:Prop} [Decidable p] (h:p):decide p=true:=decide_eq_true h
theorem u6 {p:Prop} [Decidable p] (h:¬p):decide p=false:=decide_eq_false h
theorem u7 {p:Prop} [Decidable p] (h:decide p=true):p:=of_decide_eq_true h
end Go.Proofs.YteglcgnhhoenbaaGreatDoor
namespace Go.Proofs.YteglcgnhhoenbaaGreatDoor
namespace Signed
def inB (n low high:Int):Bool:=decide (low<=n/\n<=high)
def sgn (b:Int):Int:=if b<0 \/ 255<b then 0 else if 127<b then b-256 else b
theorem aG {k:IntKind} {a b:Int} (h:a=b):Ending.returned (.int k a)=.returned (.int k b):=by rw [h]
theorem aB {a b:Bool} (h:a=b):Ending.returned (.bool a)=.returned (.bool b):=by rw [h]
theorem aC (n:Int) (w:World) :
  Calls prog 115 #[.int .i64 n] w fun e w'=>e=.returned (.bool (inB n 0 255))/\w'=w:=by
 go_enter func115,ntmps115
 go_wp2
 all_goals go_ret
 all_goals exact ⟨aB (by rw [Bool.eq_iff_iff];simp [inB];try omega),rfl⟩
theorem aE (n low high:Int) (w:World) :
  Calls prog 42 #[.int .i64 n,.int .i64 low,.int .i64 high] w fun e w'=>e=.returned (.bool (inB n low high))/\w'=w:=by
 go_enter func42,ntmps42
 go_wp2
 all_goals go_ret
 all_goals exact ⟨aB (by rw [Bool.eq_iff_iff];simp [inB];try omega),rfl⟩
theorem fF (b:Int) (w:World) :
  Calls prog 212 #[.int .i64 b] w fun e w'=>e=.returned (.int .i64 (sgn b))/\w'=w:=by
 have hb:(b<0 \/ 255<b) \/ (0<=b/\b<=127) \/ (127<b/\b<=255):=by omega
 rcases hb with h|⟨h,h'⟩|⟨h,h'⟩
 ·have hi:inB b 0 255=false:=u6 (by omega)
  have hs:sgn b=0:=by unfold sgn;rw [if_pos h]
  go_enter func212,ntmps212
  go_wp2_with (go_at_call 115;refine (aC _ _).mono ?_;rintro e w' ⟨rfl,rfl⟩)
  go_ret
  first|exact ⟨rfl,rfl⟩|exact ⟨aG hs.symm,rfl⟩
 ·have hi:inB b 0 255=true:=x9 (by omega)
  have hs:sgn b=b:=by unfold sgn;rw [if_neg (by omega),if_neg (by omega)]
  go_enter func212,ntmps212
  go_wp2_with (go_at_call 115;refine (aC _ _).mono ?_;rintro e w' ⟨rfl,rfl⟩)
  go_ret
  first|exact ⟨rfl,rfl⟩|exact ⟨aG hs.symm,rfl⟩
 ·have hi:inB b 0 255=true:=x9 (by omega)
  have hs:sgn b=b-256:=by unfold sgn;rw [if_neg (by omega),if_pos h]
  go_enter func212,ntmps212
  go_wp2_with (go_at_call 115;refine (aC _ _).mono ?_;rintro e w' ⟨rfl,rfl⟩)
  go_ret
  first|exact ⟨rfl,rfl⟩|exact ⟨aG hs.symm,rfl⟩
theorem cR (b:Int) (w:World) :
  Calls prog 106 #[.int .i64 b] w fun e w'=>e=.returned (.int .i64 (sgn b))/\w'=w:=by
 have hb:(b<0 \/ 255<b) \/ (0<=b/\b<=127) \/ (127<b/\b<=255):=by omega
 rcases hb with h|⟨h,h'⟩|⟨h,h'⟩
 ·have hi:inB b 0 255=false:=u6 (by omega)
  have hs:sgn b=0:=by unfold sgn;rw [if_pos h]
  go_enter func106,ntmps106
  go_wp2_with (go_at_call 42;refine (aE _ _ _ _).mono ?_;rintro e w' ⟨rfl,rfl⟩)
  go_ret
  first|exact ⟨rfl,rfl⟩|exact ⟨aG hs.symm,rfl⟩
 ·have hi:inB b 0 255=true:=x9 (by omega)
  have hs:sgn b=b:=by unfold sgn;rw [if_neg (by omega),if_neg (by omega)]
  go_enter func106,ntmps106
  go_wp2_with (go_at_call 42;refine (aE _ _ _ _).mono ?_;rintro e w' ⟨rfl,rfl⟩)
  go_ret
  first|exact ⟨rfl,rfl⟩|exact ⟨aG hs.symm,rfl⟩
 ·have hi:inB b 0 255=true:=x9 (by omega)
  have hs:sgn b=b-256:=by unfold sgn;rw [if_neg (by omega),if_pos h]
  go_enter func106,ntmps106
  go_wp2_with (go_at_call 42;refine (aE _ _ _ _).mono ?_;rintro e w' ⟨rfl,rfl⟩)
  go_ret
  first|exact ⟨rfl,rfl⟩|exact ⟨aG hs.symm,rfl⟩
end Signed
end Go.Proofs.YteglcgnhhoenbaaGreatDoor
namespace Go.Proofs
open Go.Shelf Go.RowKit
def Tryz.lays169_ren:Go.Shelf.Ren:=⟨fun|169=>228|n=>n,fun|70=>193|9=>9|0=>0|72=>195|37=>22|127=>214|3=>3|5=>5|n=>n,fun|n=>n⟩
theorem Tryz.lays169:Go.Proofs.Lays.n169 Tryz.prog Tryz.lays169_ren:={
 mixed:=by kernel_rfl
 f169:=Tryz.func228.trans (congrArg some (by kernel_rfl))
 t0:=Tryz.underlying0
 a0:=Tryz.isAgg0
 z0:=Tryz.sizeOf0
 v0:=Tryz.zeroValue0
 t3:=Tryz.underlying3
 a3:=Tryz.isAgg3
 z3:=Tryz.sizeOf3
 v3:=Tryz.zeroValue3
 t9:=Tryz.underlying9
 a9:=Tryz.isAgg9
 z9:=Tryz.sizeOf9
 v9:=Tryz.zeroValue9
 t37:=Tryz.underlying22
 a37:=Tryz.isAgg22
 z37:=Tryz.sizeOf22
 v37:=Tryz.zeroValue22
 t70:=Tryz.underlying193
 a70:=Tryz.isAgg193
 z70:=Tryz.sizeOf193
 v70:=Tryz.zeroValue193
 t72:=Tryz.underlying195
 a72:=Tryz.isAgg195
 z72:=Tryz.sizeOf195
 v72:=Tryz.zeroValue195
 t127:=Tryz.underlying214
 a127:=Tryz.isAgg214
 z127:=Tryz.sizeOf214
 v127:=Tryz.zeroValue214 }
theorem Tryz.Builder_Extra_169:Builder.Extra Tryz.prog Tryz.lays169_ren:={
 sizeBuilder:=by kernel_rfl
 liesBuilder:=by kernel_rfl
 t5:=Tryz.underlying5
 a5:=Tryz.isAgg5
 z5:=Tryz.sizeOf5
 v5:=Tryz.zeroValue5
 infoByte:=by kernel_rfl
 cellsByte:=by kernel_rfl
 sizeByte:=by kernel_rfl
 neB5:=by decide }
open Go.RowKit in
theorem Tryz.Builder_String_any (B b:Nat) (l:List UInt8) (w:World) (h:Lib.IsBuilder 195 5 B b (Lib.byteCells l) w) (hBw:B<=w.heap.size) :
  Calls Tryz.prog 228 #[.pointer (some ⟨b,0,none⟩)] w fun e w'=>e=.returned (.string ⟨l.toArray⟩)/\Below B w w':=Any.Builder_String_any Tryz.lays169 Tryz.Builder_Extra_169 B b l w h hBw
def Tryz.laysM173_ren:Go.Shelf.Ren:=⟨fun|173=>232|246=>255|283=>267|284=>268|285=>269|286=>270|129=>291|317=>290|318=>292|319=>293|320=>294|337=>298|338=>299|n=>n,fun|2=>2|3=>3|9=>9|4=>4|171=>232|0=>0|53=>172|37=>22|5=>5|173=>235|212=>241|51=>237|20=>20|213=>242|46=>147|232=>245|233=>246|n=>n,fun|17=>12|18=>13|19=>14|n=>n⟩
theorem Tryz.laysM173:Go.Proofs.LaysM.n173 Tryz.prog Tryz.laysM173_ren:={
 mixed:=by kernel_rfl
 f129:=Tryz.func291.trans (congrArg some (by kernel_rfl))
 f173:=Tryz.func232.trans (congrArg some (by kernel_rfl))
 f246:=Tryz.func255.trans (congrArg some (by kernel_rfl))
 f283:=Tryz.func267.trans (congrArg some (by kernel_rfl))
 f284:=Tryz.func268.trans (congrArg some (by kernel_rfl))
 f285:=Tryz.func269.trans (congrArg some (by kernel_rfl))
 f286:=Tryz.func270.trans (congrArg some (by kernel_rfl))
 f317:=Tryz.func290.trans (congrArg some (by kernel_rfl))
 f318:=Tryz.func292.trans (congrArg some (by kernel_rfl))
 f319:=Tryz.func293.trans (congrArg some (by kernel_rfl))
 f320:=Tryz.func294.trans (congrArg some (by kernel_rfl))
 f337:=Tryz.func298.trans (congrArg some (by kernel_rfl))
 f338:=Tryz.func299.trans (congrArg some (by kernel_rfl))
 t0:=Tryz.underlying0
 a0:=Tryz.isAgg0
 z0:=Tryz.sizeOf0
 v0:=Tryz.zeroValue0
 t2:=Tryz.underlying2
 a2:=Tryz.isAgg2
 z2:=Tryz.sizeOf2
 v2:=Tryz.zeroValue2
 t3:=Tryz.underlying3
 a3:=Tryz.isAgg3
 z3:=Tryz.sizeOf3
 v3:=Tryz.zeroValue3
 t4:=Tryz.underlying4
 a4:=Tryz.isAgg4
 z4:=Tryz.sizeOf4
 v4:=Tryz.zeroValue4
 t5:=Tryz.underlying5
 a5:=Tryz.isAgg5
 z5:=Tryz.sizeOf5
 v5:=Tryz.zeroValue5
 t9:=Tryz.underlying9
 a9:=Tryz.isAgg9
 z9:=Tryz.sizeOf9
 v9:=Tryz.zeroValue9
 t20:=Tryz.underlying20
 a20:=Tryz.isAgg20
 z20:=Tryz.sizeOf20
 v20:=Tryz.zeroValue20
 t37:=Tryz.underlying22
 a37:=Tryz.isAgg22
 z37:=Tryz.sizeOf22
 v37:=Tryz.zeroValue22
 t46:=Tryz.underlying147
 a46:=Tryz.isAgg147
 z46:=Tryz.sizeOf147
 v46:=Tryz.zeroValue147
 t51:=Tryz.underlying237
 a51:=Tryz.isAgg237
 z51:=Tryz.sizeOf237
 v51:=Tryz.zeroValue237
 t53:=Tryz.underlying172
 a53:=Tryz.isAgg172
 z53:=Tryz.sizeOf172
 v53:=Tryz.zeroValue172
 t171:=Tryz.underlying232
 a171:=Tryz.isAgg232
 z171:=Tryz.sizeOf232
 v171:=Tryz.zeroValue232
 t173:=Tryz.underlying235
 a173:=Tryz.isAgg235
 z173:=Tryz.sizeOf235
 v173:=Tryz.zeroValue235
 t212:=Tryz.underlying241
 a212:=Tryz.isAgg241
 z212:=Tryz.sizeOf241
 v212:=Tryz.zeroValue241
 t213:=Tryz.underlying242
 a213:=Tryz.isAgg242
 z213:=Tryz.sizeOf242
 t232:=Tryz.underlying245
 a232:=Tryz.isAgg245
 z232:=Tryz.sizeOf245
 v232:=Tryz.zeroValue245
 t233:=Tryz.underlying246
 a233:=Tryz.isAgg246
 z233:=Tryz.sizeOf246
 v233:=Tryz.zeroValue246
 g17:=by kernel_rfl
 g18:=by kernel_rfl
 g19:=by kernel_rfl
 i0:=by kernel_rfl
 i2:=by kernel_rfl
 i3:=by kernel_rfl
 i4:=by kernel_rfl
 i5:=by kernel_rfl
 i9:=by kernel_rfl
 i20:=by kernel_rfl
 i37:=by kernel_rfl
 i46:=by kernel_rfl
 i51:=by kernel_rfl
 i53:=by kernel_rfl
 i171:=by kernel_rfl
 i173:=by kernel_rfl
 i212:=by kernel_rfl
 i232:=by kernel_rfl
 i233:=by kernel_rfl
 m17:=by kernel_rfl
 m18:=by kernel_rfl
 m19:=by kernel_rfl }
open Go.RowKit Go.Sort Go.Lib in
theorem Tryz.strconv_FormatInt_10 (n:Int) (h0:-9223372036854775808<=n) (h1:n<=9223372036854775807) (w:World) (htab:Lib.TabIs Tryz.prog w "internal/strconv.uint64pow10" .u64 Lib.pow10Tab) :
  Calls Tryz.prog 232 #[.int .i64 n,.int .i64 10] w fun e w'=>e=.returned (.string ⟨(Lib.itoa n).toArray⟩)/\∃ k os,w'=grow (w.drewN k) os:=Any.strconv_FormatInt_10 Tryz.laysM173 n h0 h1 w htab
def Tryz.lays173_ren:Go.Shelf.Ren:=⟨fun|173=>232|246=>255|283=>267|284=>268|285=>269|286=>270|129=>291|317=>290|318=>292|319=>293|320=>294|337=>298|338=>299|n=>n,fun|2=>2|3=>3|9=>9|4=>4|171=>232|0=>0|53=>172|37=>22|5=>5|173=>235|212=>241|51=>237|20=>20|213=>242|46=>147|232=>245|233=>246|n=>n,fun|17=>12|18=>13|19=>14|n=>n⟩
theorem Tryz.lays173:Go.Proofs.Lays.n173 Tryz.prog Tryz.lays173_ren:={
 mixed:=by kernel_rfl
 f129:=Tryz.func291.trans (congrArg some (by kernel_rfl))
 f173:=Tryz.func232.trans (congrArg some (by kernel_rfl))
 f246:=Tryz.func255.trans (congrArg some (by kernel_rfl))
 f283:=Tryz.func267.trans (congrArg some (by kernel_rfl))
 f284:=Tryz.func268.trans (congrArg some (by kernel_rfl))
 f285:=Tryz.func269.trans (congrArg some (by kernel_rfl))
 f286:=Tryz.func270.trans (congrArg some (by kernel_rfl))
 f317:=Tryz.func290.trans (congrArg some (by kernel_rfl))
 f318:=Tryz.func292.trans (congrArg some (by kernel_rfl))
 f319:=Tryz.func293.trans (congrArg some (by kernel_rfl))
 f320:=Tryz.func294.trans (congrArg some (by kernel_rfl))
 f337:=Tryz.func298.trans (congrArg some (by kernel_rfl))
 f338:=Tryz.func299.trans (congrArg some (by kernel_rfl))
 t0:=Tryz.underlying0
 a0:=Tryz.isAgg0
 z0:=Tryz.sizeOf0
 v0:=Tryz.zeroValue0
 t2:=Tryz.underlying2
 a2:=Tryz.isAgg2
 z2:=Tryz.sizeOf2
 v2:=Tryz.zeroValue2
 t3:=Tryz.underlying3
 a3:=Tryz.isAgg3
 z3:=Tryz.sizeOf3
 v3:=Tryz.zeroValue3
 t4:=Tryz.underlying4
 a4:=Tryz.isAgg4
 z4:=Tryz.sizeOf4
 v4:=Tryz.zeroValue4
 t5:=Tryz.underlying5
 a5:=Tryz.isAgg5
 z5:=Tryz.sizeOf5
 v5:=Tryz.zeroValue5
 t9:=Tryz.underlying9
 a9:=Tryz.isAgg9
 z9:=Tryz.sizeOf9
 v9:=Tryz.zeroValue9
 t20:=Tryz.underlying20
 a20:=Tryz.isAgg20
 z20:=Tryz.sizeOf20
 v20:=Tryz.zeroValue20
 t37:=Tryz.underlying22
 a37:=Tryz.isAgg22
 z37:=Tryz.sizeOf22
 v37:=Tryz.zeroValue22
 t46:=Tryz.underlying147
 a46:=Tryz.isAgg147
 z46:=Tryz.sizeOf147
 v46:=Tryz.zeroValue147
 t51:=Tryz.underlying237
 a51:=Tryz.isAgg237
 z51:=Tryz.sizeOf237
 v51:=Tryz.zeroValue237
 t53:=Tryz.underlying172
 a53:=Tryz.isAgg172
 z53:=Tryz.sizeOf172
 v53:=Tryz.zeroValue172
 t171:=Tryz.underlying232
 a171:=Tryz.isAgg232
 z171:=Tryz.sizeOf232
 v171:=Tryz.zeroValue232
 t173:=Tryz.underlying235
 a173:=Tryz.isAgg235
 z173:=Tryz.sizeOf235
 v173:=Tryz.zeroValue235
 t212:=Tryz.underlying241
 a212:=Tryz.isAgg241
 z212:=Tryz.sizeOf241
 v212:=Tryz.zeroValue241
 t213:=Tryz.underlying242
 a213:=Tryz.isAgg242
 z213:=Tryz.sizeOf242
 t232:=Tryz.underlying245
 a232:=Tryz.isAgg245
 z232:=Tryz.sizeOf245
 v232:=Tryz.zeroValue245
 t233:=Tryz.underlying246
 a233:=Tryz.isAgg246
 z233:=Tryz.sizeOf246
 v233:=Tryz.zeroValue246
 g17:=by kernel_rfl
 g18:=by kernel_rfl
 g19:=by kernel_rfl }
open Go.RowKit Go.Sort Go.Lib in
theorem Tryz.strconv_FormatInt_10_small (i:Nat) (hi:i<100) (w:World) :
  Calls Tryz.prog 232 #[.int .i64 i,.int .i64 10] w fun e w'=>e=.returned (.string ⟨(Lib.decDigits i).toArray⟩)/\w'=w:=Any.strconv_FormatInt_10_small Tryz.lays173 i hi w
def Tryz.lays144_ren:Go.Shelf.Ren:=⟨fun|144=>136|143=>167|219=>239|217=>257|225=>258|224=>259|267=>260|266=>271|314=>272|n=>n,fun|9=>9|4=>4|3=>3|5=>5|46=>147|146=>238|51=>237|n=>n,fun|1=>9|n=>n⟩
theorem Tryz.lays144:Go.Proofs.Lays.n144 Tryz.prog Tryz.lays144_ren:={
 mixed:=by kernel_rfl
 f143:=Tryz.func167.trans (congrArg some (by kernel_rfl))
 f144:=Tryz.func136.trans (congrArg some (by kernel_rfl))
 f217:=Tryz.func257.trans (congrArg some (by kernel_rfl))
 f219:=Tryz.func239.trans (congrArg some (by kernel_rfl))
 f224:=Tryz.func259.trans (congrArg some (by kernel_rfl))
 f225:=Tryz.func258.trans (congrArg some (by kernel_rfl))
 f266:=Tryz.func271.trans (congrArg some (by kernel_rfl))
 f267:=Tryz.func260.trans (congrArg some (by kernel_rfl))
 f314:=Tryz.func272.trans (congrArg some (by kernel_rfl))
 t3:=Tryz.underlying3
 a3:=Tryz.isAgg3
 z3:=Tryz.sizeOf3
 v3:=Tryz.zeroValue3
 t4:=Tryz.underlying4
 a4:=Tryz.isAgg4
 z4:=Tryz.sizeOf4
 v4:=Tryz.zeroValue4
 t5:=Tryz.underlying5
 a5:=Tryz.isAgg5
 z5:=Tryz.sizeOf5
 v5:=Tryz.zeroValue5
 t9:=Tryz.underlying9
 a9:=Tryz.isAgg9
 z9:=Tryz.sizeOf9
 v9:=Tryz.zeroValue9
 t46:=Tryz.underlying147
 a46:=Tryz.isAgg147
 z46:=Tryz.sizeOf147
 v46:=Tryz.zeroValue147
 t51:=Tryz.underlying237
 a51:=Tryz.isAgg237
 z51:=Tryz.sizeOf237
 v51:=Tryz.zeroValue237
 t146:=Tryz.underlying238
 a146:=Tryz.isAgg238
 z146:=Tryz.sizeOf238
 v146:=Tryz.zeroValue238
 g1:=by kernel_rfl }
open Go.RowKit Go.Lib in
theorem Tryz.strings_Contains_one (s:ByteArray) (c:UInt8) (w:World) :
  Calls Tryz.prog 136 #[.string s,.string ⟨#[c]⟩] w fun e w'=>e=.returned (.bool (decide (0<=Lib.indexByte s.data.toList c)))/\w'=w:=Any.strings_Contains_one Tryz.lays144 s c w
open Go.RowKit Go.Lib in
theorem Tryz.strings_Contains (s sub:ByteArray) (m:Int) (w:World) (hs:s.size<4294967281) (hm:w.cell? ⟨9,0,none⟩=some (.int .i64 m)) :
  Calls Tryz.prog 136 #[.string s,.string sub] w fun e w'=>e=.returned (.bool (Lib.contains s.data.toList sub.data.toList))/\w'=w:=Any.strings_Contains Tryz.lays144 s sub m w hs hm
def Tryz.laysM144_ren:Go.Shelf.Ren:=⟨fun|144=>136|143=>167|219=>239|217=>257|225=>258|224=>259|267=>260|266=>271|314=>272|n=>n,fun|9=>9|4=>4|3=>3|5=>5|46=>147|146=>238|51=>237|n=>n,fun|1=>9|n=>n⟩
theorem Tryz.laysM144:Go.Proofs.LaysM.n144 Tryz.prog Tryz.laysM144_ren:={
 mixed:=by kernel_rfl
 f143:=Tryz.func167.trans (congrArg some (by kernel_rfl))
 f144:=Tryz.func136.trans (congrArg some (by kernel_rfl))
 f217:=Tryz.func257.trans (congrArg some (by kernel_rfl))
 f219:=Tryz.func239.trans (congrArg some (by kernel_rfl))
 f224:=Tryz.func259.trans (congrArg some (by kernel_rfl))
 f225:=Tryz.func258.trans (congrArg some (by kernel_rfl))
 f266:=Tryz.func271.trans (congrArg some (by kernel_rfl))
 f267:=Tryz.func260.trans (congrArg some (by kernel_rfl))
 f314:=Tryz.func272.trans (congrArg some (by kernel_rfl))
 t3:=Tryz.underlying3
 a3:=Tryz.isAgg3
 z3:=Tryz.sizeOf3
 v3:=Tryz.zeroValue3
 t4:=Tryz.underlying4
 a4:=Tryz.isAgg4
 z4:=Tryz.sizeOf4
 v4:=Tryz.zeroValue4
 t5:=Tryz.underlying5
 a5:=Tryz.isAgg5
 z5:=Tryz.sizeOf5
 v5:=Tryz.zeroValue5
 t9:=Tryz.underlying9
 a9:=Tryz.isAgg9
 z9:=Tryz.sizeOf9
 v9:=Tryz.zeroValue9
 t46:=Tryz.underlying147
 a46:=Tryz.isAgg147
 z46:=Tryz.sizeOf147
 v46:=Tryz.zeroValue147
 t51:=Tryz.underlying237
 a51:=Tryz.isAgg237
 z51:=Tryz.sizeOf237
 v51:=Tryz.zeroValue237
 t146:=Tryz.underlying238
 a146:=Tryz.isAgg238
 z146:=Tryz.sizeOf238
 v146:=Tryz.zeroValue238
 g1:=by kernel_rfl
 i3:=by kernel_rfl
 i4:=by kernel_rfl
 i5:=by kernel_rfl
 i9:=by kernel_rfl
 i46:=by kernel_rfl
 i51:=by kernel_rfl
 i146:=by kernel_rfl
 m1:=by kernel_rfl
 s1_3:=fun w h=>Go.Proofs.cell_of_shapedOpen_int (zero:=#[.int .i64 0]) (t:=3) h (of_decide_eq_true (by kernel_rfl)) (by kernel_rfl) rfl (by kernel_rfl) (by kernel_rfl) Tryz.underlying3 }
end Go.Proofs
namespace Go.Proofs.YteglcgnhhoenbaaGreatDoor
namespace Laid
open Go.ChangeShapes Go.WideShapes Go.RowKit
theorem skip {P:Program} {W:World} {x:String × DataW Unit} {rest:List (String × DataW Unit)} {ps:List MemPlace} (h:DataW.LaidVars P W (x :: rest) ps):∃ q,DataW.LaidVars P W rest q:=by
 obtain ⟨n,d⟩:=x;obtain ⟨_,_,_,_,_,q,_,_,_,_,h,_⟩:=h;exact ⟨q,h⟩
theorem nums {P:Program} {W:World} {name:String} {k:IntKind} {zs:List Int} {rest:List (String × DataW Unit)} {ps:List MemPlace} {g:Nat} {t e:TypeId} {n:Nat}
  (hg:P.globalNamed name=some g) (hty:(P.globals[g]?).map (·.type)=some t) (ht:P.underlying t=some (.array n e)) (he:P.underlying e=some (.int k)) (hce:P.cellsOf e=1) (hct:P.cellsOf t=n)
  (h:DataW.LaidVars P W ((name,Lib.tabData k zs) :: rest) ps):∀ i,i<zs.length->W.cell? ⟨g,i,none⟩=some (.int k (zs.getD i 0)):=by
 obtain ⟨g',t',cs,fuel,p,q,hg',ht',hvar,hd,_,_⟩:=h;obtain rfl:=Option.some.inj (hg.symm.trans hg');obtain rfl:=Option.some.inj (hty.symm.trans ht');have hT:Lib.TabIs P W name k zs:=by
  unfold Lib.TabIs;rw [hvar,<- Lib.cells_of_tab ht he hce hct hd]
 exact fun i hi=>hT.cell hg i hi
theorem tab {P:Program} {W:World} {name:String} {k:IntKind} {zs:List Int} {rest:List (String × DataW Unit)} {ps:List MemPlace} {g:Nat} {t e:TypeId} {n:Nat}
  (hg:P.globalNamed name=some g) (hty:(P.globals[g]?).map (·.type)=some t) (ht:P.underlying t=some (.array n e)) (he:P.underlying e=some (.int k)) (hce:P.cellsOf e=1) (hct:P.cellsOf t=n)
  (h:DataW.LaidVars P W ((name,Lib.tabData k zs) :: rest) ps):Lib.TabIs P W name k zs:=by
 obtain ⟨g',t',cs,fuel,p,q,hg',ht',hvar,hd,_,_⟩:=h;obtain rfl:=Option.some.inj (hg.symm.trans hg');obtain rfl:=Option.some.inj (hty.symm.trans ht');unfold Lib.TabIs;rw [hvar,<- Lib.cells_of_tab ht he hce hct hd]
def aEF (l:List (List UInt8)):DataW Unit:=.agg (l.map fun s=>.lit (.string s))
theorem wK {P:Program} {W:World} {name:String} {l:List (List UInt8)} {rest:List (String × DataW Unit)} {ps:List MemPlace} {g:Nat} {t e:TypeId} {n:Nat}
  (hg:P.globalNamed name=some g) (hty:(P.globals[g]?).map (·.type)=some t) (ht:P.underlying t=some (.array n e)) (he:P.underlying e=some .string) (hce:P.cellsOf e=1) (hct:P.cellsOf t=n)
  (h:DataW.LaidVars P W ((name,aEF l) :: rest) ps):∀ i,i<l.length->W.cell? ⟨g,i,none⟩=some (.string ⟨(l.getD i []).toArray⟩):=by
 obtain ⟨g',t',cs,fuel,p,q,hg',ht',hvar,hd,_,_⟩:=h;obtain rfl:=Option.some.inj (hg.symm.trans hg');obtain rfl:=Option.some.inj (hty.symm.trans ht');intro i hi;rw [World.var?_cell hg hvar i]
 cases fuel with
 | zero=>simp [DataW.trod] at hd
 | succ fuel =>
  simp only [DataW.trod,ht,hce,hct,Nat.mul_one] at hd
  split at hd
  ·obtain ⟨xs,hm,hx⟩:=Option.map_eq_some_iff.1 hd
   have hxs:xs.map (·.1)=l.map fun s=>(DataW.lit (.string s):DataW Unit):=by
    have:=congrArg Prod.fst hx
    simpa [aEF] using this
   have hxl:xs.length=n:=by simpa using Lib.mapM_length hm
   have hln:l.length=n:=by
    have:=congrArg List.length hxs
    simp at this
    omega
   have hi':i<n:=by omega
   obtain ⟨b,hb,hf⟩:=Lib.mapM_at hm i i (by simp [hi']);obtain ⟨s,hc,rfl,_⟩:=DataW.trod_string he hf;have h1:cs.toList[i]? = some (.string s):=by
    have:=congrArg (·[0]?) hc
    simpa [List.getElem?_take,List.getElem?_drop] using this
   have h2:(xs.map (·.1))[i]? = some (DataW.lit (.string s.data.toList):DataW Unit):=by simp [hb]
   rw [hxs] at h2
   simp only [List.getElem?_map,Option.map_eq_some_iff,DataW.lit.injEq,Lit.string.injEq] at h2
   obtain ⟨z,hz,hzs⟩:=h2;rw [<- Array.getElem?_toList,h1,List.getD_eq_getElem?_getD,hz]
   simp [hzs]
  ·cases hd
theorem wM {H:Type} {enc:TypeId × Value->H} {P:Program} {w:World} {sp:Nat->Bool}:∀ {ns:List String} {gs:List (DataW H)} {ps:List MemPlace},DataW.TrodVars enc P w sp ns gs ps->gs.length=ns.length
 | [],[],_,_=>rfl
 | [],_ :: _,_,h=>h.elim
 | _ :: _,[],_,h=>h.elim
 | _ :: ns,_ :: gs,_,h=>by
  obtain ⟨_,_,_,_,_,q,_,_,_,_,h,_⟩:=h;simp only [List.length_cons];rw [wM h]
end Laid
namespace Rin
open Go.RowKit
section
variable {F:Fence} {n:Nat} {P:Program} {ops:Array Oper} {rest:List Oper} {o:Oper} {a:Act} {w:World} {Q:Exit->Act->World->Prop}
theorem iN (hgd:o.guard=none) (ty:TypeId) (x:Operand) (ho:o.op=.load ty x)
  (g:Nat) (hx:a.eval x=.pointer (some ⟨g,0,none⟩)) (t:TypeId) (cs:Array Value) (fr:Nat × Nat) (d:TypeDesc) (hg:w.heap[g]? = some (.cells cs t fr))
  (hu:P.underlying ty=some d) (hd:(match d with|.struct _|.array _ _=>true|_=>false)=true) (hi:(P.info? ty).map (·.size)=some cs.size)
  (h:wpListIn F n P ops Q rest (a.put o.dst (.agg cs)) w):wpListIn F n P ops Q (o :: rest) a w:=by
 refine wpListIn_plain hgd fun K hK=>?_
 unfold Oper.wpIn;refine ⟨by simp [Oper.about,ho],?_⟩;rw [Oper.semAt_plain F _ _ (by rw [ho];intro c hc;cases hc)];simp only [execOp,ho,hx,Instr.loadAt,Instr.sureAddr,Sem.run_bind,Sem.run_pure,Result.andThen_ok,run_loadVar_row w g t ty cs fr d hg hu hd hi];exact hK _ _ h
theorem iO (hgd:o.guard=none) (ty:TypeId) (x y:Operand) (ho:o.op=.store ty x y)
  (g:Nat) (cells:Array Value) (hx:a.eval x=.pointer (some ⟨g,0,none⟩)) (hy:a.eval y=.agg cells)
  (t:TypeId) (old:Array Value) (hg:w.heap[g]? = some (.cells old t (0,0))) (hi:(P.info? ty).map (·.size)=some cells.size)
  (hold:old.size=cells.size) (h1:cells.all (·.oneCell')=true)
  (h:wpListIn F n P ops Q rest (a.put o.dst undef) (w.setRow g cells)):wpListIn F n P ops Q (o :: rest) a w:=by
 refine wpListIn_plain hgd fun K hK=>?_
 unfold Oper.wpIn;refine ⟨by simp [Oper.about,ho],?_⟩;rw [Oper.semAt_plain F _ _ (by rw [ho];intro c hc;cases hc)];simp only [execOp,ho,hx,hy,Instr.storeAt,Instr.sureAddr,Sem.run_bind,Sem.run_pure,Result.andThen_ok,run_storeVar_row w g t ty old cells hg hi hold h1];exact hK _ _ h
end
end Rin
namespace Rlaw
open Go.RowKit
def nW (B:Nat) (I:World->Prop):Prop:=∀ (W:World) (k:Nat) (o o':Obj),I W->B<=k->W.heap[k]? = some o->o.isCells=false->o'.isCells=false->I (W.putObj k o')
def bKW {σ:Type} (B:Nat) (I:σ->World->Prop) (Ix:Code->World->Prop) (Kp:σ->World->World->Prop) (x:σ) (W Wa:World):Exit->Act->World->Prop
 | .normal,_,W'=>KeepsFrom B Wa W'/\Kp x W W'/\I x W'
 | .ret,_,W'=>KeepsFrom B Wa W'/\Ix .ret W'
 | .exit id,_,W'=>KeepsFrom B Wa W'/\Ix (.exit id) W'
 | .goto t,_,W'=>KeepsFrom B Wa W'/\Ix (.goto t) W'
 | .panic _,_,_=>False
 | .outgrown,_,_=>False
theorem aFK {F:Fence} {n:Nat} {P:Program} {w:World} {σ:Type} {g:Operand} {ps:Array Tmp} {assign body:Code} {Q:Exit->Act->World->Prop} {a:Act}
  (hro:F.round=none) (h1:1<=n) {gf:Nat} {lb:Array Value} (hg:a.eval g=.func (.func gf) #[] lb) (hFg:F.fn gf) (eg:∀ args w,(callFunc gf args).run P w=.ok (.enter gf args) w)
  (encs:σ->Array Value) (hps:∀ x,(encs x).size=ps.size) (s0:σ)
  (I:σ->World->Prop) (Ix:Code->World->Prop) (Gv:σ->World->World->σ->Prop) (Ga:σ->World->World->σ->Act->World->Prop) (Kp:σ->World->World->Prop) (En:σ->World->World->Prop)
  (hI:∀ s,nW w.heap.size (I s)) (hIx:∀ c,nW w.heap.size (Ix c)) (hKp:∀ x W,nW w.heap.size (Kp x W)) (hEn:∀ s X,nW w.heap.size (En s X)) (hGa:∀ s X W x a',nW w.heap.size (Ga s X W x a'))
  (h0:∀ r,I s0 ((w.alloc (.deferred (some []))).alloc (.loop r)))
  (hit:∀ (W1:World) (J:σ->World->Prop) (Jx:World->Prop),Below w.heap.size w W1->W1.heap.size=w.heap.size+2->(∀ s X,J s X->I s X)->J s0 W1 ->
   (∀ s X W x,J s X->Gv s X W x->KeepsFrom w.heap.size X W->YieldAt F (n-1-1) P (w.heap.size+1) (encs x) W fun e W'=>(e=.returned (.bool true)/\J x W'/\Kp x W W') \/ (e=.returned (.bool false)/\Jx W')) ->
   CallsIn F (n-1) P gf (#[.func (.yield (w.heap.size+1)) #[] #[]] ++ lb) W1 fun e W'=>(∃ v,e=.returned v)/\((∃ s X,J s X/\En s X W'/\KeepsFrom w.heap.size X W') \/ Jx W'))
  (hassign:∀ s X W x,I s X->Gv s X W x ->
   assign.wpIn (F.inRound (w.heap.size+1)) (n-1-1) P (Exit.then (fun a' Wa=>KeepsFrom w.heap.size W Wa/\Ga s X W x a' Wa) (fun _ _ _=>False)) { tmps:=(ps.zip (encs x)).foldl (fun t (p,v)=>t.setIfInBounds p v) a.tmps,defers:=[] } W)
  (hbody:∀ s X W x a' Wa,I s X->Ga s X W x a' Wa->body.wpIn (F.inRound (w.heap.size+1)) (n-1-1) P (bKW w.heap.size I Ix Kp x W Wa) a' Wa)
  (hdone:∀ s X W,I s X->En s X W->W.heap[w.heap.size]? = some (.deferred (some []))->Q .normal { a with defers:={ target:=.collected w.heap.size,args:=#[] } :: a.defers } W)
  (hstop:∀ (c:Code) (W:World),Ix c W->W.heap[w.heap.size]? = some (.deferred (some []))->c.wpIn F n P Q { a with defers:={ target:=.collected w.heap.size,args:=#[] } :: a.defers } W) :
  (Code.rangeFunc g ps assign body).wpIn F n P Q a w:=by
 refine wpIn_rangeFunc fun fn hfn=>?_
 rw [hro];obtain ⟨R,hR⟩ : ∃ R:LoopState->Option Code->Loop,R=fun st pe=>{ state:=st,pending:=pe,fn,tmps:=a.tmps,params:=ps,assign,body,defers:=w.heap.size }:=⟨_,rfl⟩
 obtain ⟨U,hU⟩ : ∃ U,U=(w.alloc (.deferred (some []))).alloc (.loop (R .ready none)):=⟨_,rfl⟩
 have uL:U.heap[w.heap.size+1]? = some (.loop (R .ready none)):=by
  have h:=World.alloc_heap_new (w.alloc (.deferred (some []))) (.loop (R .ready none));rw [World.size_alloc] at h
  rw [hU];exact h
 have uD:U.heap[w.heap.size]? = some (.deferred (some [])):=by
  rw [hU];exact (Below.heap_alloc _ _ _ (by simp)).trans (World.alloc_heap_new w _)
 have uB:Below w.heap.size w U:=by rw [hU];exact ((Below.refl _ w).alloc (Nat.le_refl _) _).alloc (by simp) _
 have uS:U.heap.size=w.heap.size+2:=by rw [hU];simp
 have uI:I s0 U:=by rw [hU];exact h0 _
 refine ⟨w.heap.size+1,[{ target:=.collected w.heap.size,args:=#[] }],U,{ target:=.fn (.func gf) lb,args:=#[.func (.yield (w.heap.size+1)) #[] #[]] },U,gf,
  #[.func (.yield (w.heap.size+1)) #[] #[]] ++ lb,U,?_,?_,?_,?_,fun _=>h1,?_⟩
 ·rw [hU,hR];exact run_enterLoop_outer _ _ _ _ _
 ·simp only [resolve,hg];simp [go_sem]
 ·intro f' hf';simp [Target.leads] at hf';subst hf';exact hFg
 ·simp [invoke,go_sem,eg]
 ·refine (hit U (fun s W=>I s W/\W.heap[w.heap.size+1]? = some (.loop (R .ready none))/\W.heap[w.heap.size]? = some (.deferred (some [])))
   (fun W=>∃ c,Ix c W/\W.heap[w.heap.size+1]? = some (.loop (R .done (some c)))/\W.heap[w.heap.size]? = some (.deferred (some []))) uB uS (fun _ _ h=>h.1) ⟨uI,uL,uD⟩ ?_).mono ?_
  ·rintro s X W x ⟨xI,xL,xD⟩ hG k0
   have wL:=k0.same _ _ (by omega) xL rfl;have wD:=k0.same _ _ (Nat.le_refl _) xD rfl;have hy:=run_yield (P:=P) (args:=encs x) wL (by rw [hR];exact hps x);rw [hR] at hy
   refine ⟨fn,_,assign,body,hy,roundIn_of_wpIn hfn (wpIn_mono (hassign s X W x xI hG) ?_)⟩;clear hy;intro e a' Wa hA
   cases e with
   | normal =>
    obtain ⟨k1,hA⟩:=hA;have aL:=k1.same _ _ (by omega) wL rfl;have aD:=k1.same _ _ (Nat.le_refl _) wD rfl;refine ⟨_,run_beginRound aL (by rw [hR]),?_⟩;obtain ⟨V,hV⟩ : ∃ V,V=Wa.putObj (w.heap.size+1) (.loop { R .ready none with state:=.busy }):=⟨_,rfl⟩
    rw [<- hV];have vL:V.heap[w.heap.size+1]? = some (.loop { R .ready none with state:=.busy }):=by rw [hV];exact World.putObj_heap_same (zLo aL)
    have vD:V.heap[w.heap.size]? = some (.deferred (some [])):=by rw [hV];exact (World.putObj_heap_other (by omega)).trans aD
    refine wpIn_mono (hbody s X W x a' V xI (by rw [hV];exact hGa s X W x a' Wa _ _ _ hA (by omega) aL rfl rfl)) ?_;have fin:∀ (j:Option Code) (Z:World),KeepsFrom w.heap.size V Z->(Instr.endRound (w.heap.size+1) j).run P Z=.ok (.bool j.isNone) (Z.putObj (w.heap.size+1) (.loop (R (if j.isNone then .ready else .done) j))) /\
      Z.heap[w.heap.size+1]? = some (.loop { R .ready none with state:=.busy }) /\
      (Z.putObj (w.heap.size+1) (.loop (R (if j.isNone then .ready else .done) j))).heap[w.heap.size+1]? = some (.loop (R (if j.isNone then .ready else .done) j)) /\
      (Z.putObj (w.heap.size+1) (.loop (R (if j.isNone then .ready else .done) j))).heap[w.heap.size]? = some (.deferred (some [])):=fun j Z hz=>by
     have zL:=hz.same _ _ (by omega) vL rfl;have zr:=run_endRound (P:=P) j zL;rw [hR] at zr |-
     exact ⟨zr,by rw [hR] at zL;exact zL,World.putObj_heap_same (zLo zL),(World.putObj_heap_other (by omega)).trans (hz.same _ _ (Nat.le_refl _) vD rfl)⟩
    intro e a3 Z hp
    cases e with
    | normal =>
     obtain ⟨hz,hk,hi⟩:=hp;obtain ⟨r1,r2,r3,r4⟩:=fin none Z hz;exact ⟨_,_,r1,.inl ⟨rfl,⟨hI x Z _ _ _ hi (by omega) r2 rfl rfl,r3,r4⟩,hKp x W Z _ _ _ hk (by omega) r2 rfl rfl⟩⟩
    | ret =>
     obtain ⟨hz,hi⟩:=hp;obtain ⟨r1,r2,r3,r4⟩:=fin (some .ret) Z hz;exact ⟨_,_,r1,.inr ⟨rfl,.ret,hIx _ Z _ _ _ hi (by omega) r2 rfl rfl,r3,r4⟩⟩
    | exit id =>
     obtain ⟨hz,hi⟩:=hp;obtain ⟨r1,r2,r3,r4⟩:=fin (some (.exit id)) Z hz;exact ⟨_,_,r1,.inr ⟨rfl,.exit id,hIx _ Z _ _ _ hi (by omega) r2 rfl rfl,r3,r4⟩⟩
    | goto t =>
     obtain ⟨hz,hi⟩:=hp;obtain ⟨r1,r2,r3,r4⟩:=fin (some (.goto t)) Z hz;exact ⟨_,_,r1,.inr ⟨rfl,.goto t,hIx _ Z _ _ _ hi (by omega) r2 rfl rfl,r3,r4⟩⟩
    | panic ch=>exact hp.elim
    | outgrown=>exact hp.elim
   | ret=>exact hA.elim
   | exit id=>exact hA.elim
   | goto t=>exact hA.elim
   | panic ch=>exact hA.elim
   | outgrown=>exact hA.elim
  ·rintro e W2 ⟨⟨v,rfl⟩,(⟨s,X,⟨xI,xL,xD⟩,hE,k0⟩|⟨c,hi,hl,hk⟩)⟩
   ·have wL:=k0.same _ _ (by omega) xL rfl
    have wD:=k0.same _ _ (Nat.le_refl _) xD rfl;refine ⟨none,_,by have h:=run_endLoop (P:=P) wL (by rw [hR];simp);rw [hR] at h;exact h,hdone s X _ xI (hEn s X W2 _ _ _ hE (by omega) wL rfl rfl) ((World.putObj_heap_other (by omega)).trans wD)⟩
   ·refine ⟨some c,_,by have h:=run_endLoop (P:=P) hl (by rw [hR];simp);rw [hR] at h;exact h,hstop c _ (hIx c W2 _ _ _ hi (by omega) hl rfl rfl) ((World.putObj_heap_other (by omega)).trans hk)⟩
end Rlaw
namespace Qtail
open Go.RowKit
def aIZ (P:Program) (md:Region.Mode) (ops:Array Oper) (C:World->Prop) (n:Nat) (L:Array Bool->Act->Prop):Nat->Array Bool->Act->Prop
 | 0,listed,a=>L listed a
 | f+1,listed,a =>
  Region.ready md ops listed ≠ []/\∀ i ∈ Region.ready md ops listed,i<n/\qOp P ops C i (aIZ P md ops C n L f (listed.setIfInBounds i true)) a
theorem kF {P:Program} {ops:Array Oper} {md:Region.Mode} {C:World->Prop} {n g:Nat} {L:Array Bool->Act->Prop} {Q':Exit->Act->World->Prop} (hL:∀ listed a w,C w->L listed a->wpAny P md ops Q' g listed a w) :
  ∀ (f:Nat) (listed:Array Bool) (a:Act) (w:World),C w->aIZ P md ops C n L f listed a->wpAny P md ops Q' (f+g) listed a w
 | 0,listed,a,w,hw,h=>by rw [Nat.zero_add];exact hL _ _ _ hw h
 | f+1,listed,a,w,hw,h=>by
  rw [show f+1+g=(f+g)+1 by omega];exact ⟨fun h0=>absurd h0 h.1,fun i hi=>wpOp_of_qOp hw (fun a' w' hw' h'=>kF hL f _ a' w' hw' h') (h.2 i hi).2⟩
theorem aAH {P:Program} {ops:Array Oper} {md:Region.Mode} {C:World->Prop} {n i:Nat} {oi:Oper} {v:Value} {L:Array Bool->Act->Prop} (hi:ops[i]? = some oi) (hsel:∀ (j:Nat) (o:Oper) cs b,ops[j]? = some o->o.op ≠ .select cs b)
  (hs:Region.sinkB md ops n=true) (hc:Region.chainB md ops n=true) (hn:n<ops.size) (hin:i<n)
  (hdone:∀ listed a,L listed a->∀ j ∈ Region.ready md ops listed,n<=j) :
  ∀ (f:Nat) (listed:Array Bool) (a:Act),HeadInv md ops n listed ->
   (∀ j oj,ops[j]? = some oj->j ≠ i->listed.getD j true=false->(∀ e ∈ oj.after,Region.binds md e=true->e.on ≠ i)->oi.apart ops oj=true) ->
   i ∈ Region.ready md ops listed->YieldsIn P ops C oi v a ->
   aIZ P md ops C n L f (listed.setIfInBounds i true) (a.put oi.dst v)->aIZ P md ops C n L (f+1) listed a:=by
 intro f
 induction f with
 | zero =>
  intro listed a inv _ hr hy H;have hun:=(mem_ready.1 hr).1;refine ⟨fun h=>(by rw [h] at hr;cases hr),fun j hj=>?_⟩;have hjn:j<n:=by
   rcases Nat.lt_or_ge j n with h|h
   ·exact h
   ·exact absurd hj (tail_waits hs hc hn inv _ i rfl hin hun j h)
  refine ⟨hjn,?_⟩
  by_cases hji:j=i
  ·subst hji;exact hy.qOp hi H
  ·have:=hdone _ _ H j (ready_mono hj hji)
   omega
 | succ f ih =>
  intro listed a inv hfree hr hy H;have hun:=(mem_ready.1 hr).1;refine ⟨fun h=>(by rw [h] at hr;cases hr),fun j hj=>?_⟩;have hjn:j<n:=by
   rcases Nat.lt_or_ge j n with h|h
   ·exact h
   ·exact absurd hj (tail_waits hs hc hn inv _ i rfl hin hun j h)
  refine ⟨hjn,?_⟩
  by_cases hji:j=i
  ·subst hji;exact hy.qOp hi H
  ·have h1:=(H.2 j (ready_mono hj hji)).2
   obtain ⟨hjun,oj,hoj,hall⟩:=mem_ready.1 hj;have hnot:∀ e ∈ oj.after,Region.binds md e=true->e.on ≠ i:=fun e he hb heq=>by
    have h1:=hall e he hb;rw [heq,getD_both hun] at h1
    cases h1
   have h2:=qOp_put hoj (hfree j oj hoj hji hjun hnot) (fun cs b=>hsel i oi cs b hi) (fun cs b=>hsel j oj cs b hoj) hy h1;have hfree':∀ k ok,ops[k]? = some ok->k ≠ i->(listed.setIfInBounds j true).getD k true=false ->
     (∀ e ∈ ok.after,Region.binds md e=true->e.on ≠ i)->oi.apart ops ok=true:=fun k ok hk hki hun hno=>by
    refine hfree k ok hk hki ?_ hno
    by_cases hjk:j=k
    ·subst hjk;exact hjun
    ·rw [getD_set_ne true hjk] at hun;exact hun
   refine qOp_mono (fun a' h3=>ih (listed.setIfInBounds j true) a' (inv.set hj hjn) hfree' (ready_mono hr (Ne.symm hji)) h3.1 ?_) h2;rw [Array.setIfInBounds_comm _ _ hji];exact h3.2
theorem qA {P:Program} {ops:Array Oper} {md:Region.Mode} {C:World->Prop} {n g:Nat} {Lq:Act->Prop} (hsel:Region.noSelect ops=true) (hs:Region.sinkB md ops n=true) (hc:Region.chainB md ops n=true) (hn:n<ops.size) :
  ∀ (l:List Oper) (k:Nat) (listed:Array Bool) (a:Act),(∀ j,j<l.length->l[j]? = ops[k+j]?)->k+l.length=n->HeadInv md ops n listed ->
  Region.lexHead md ops g l.length k listed=true->wpQuiet P ops C Lq l a ->
  aIZ P md ops C n (fun listed' a'=>Region.seqB md ops g n listed'=true/\Lq a') l.length listed a
 | [],k,listed,a,_,hk,_,hB,h=>by
  have:k=n:=by simpa using hk
  subst this;exact ⟨by simpa [Region.lexHead] using hB,h⟩
 | o :: l,k,listed,a,hl,hk,inv,hB,h=>by
  have h0:ops[k]? = some o:=by simpa using (hl 0 (by simp)).symm
  simp only [List.length_cons,Region.lexHead,Bool.and_eq_true] at hB
  obtain ⟨⟨hr,hf⟩,hB'⟩:=hB;have hkn:k<n:=by simp only [List.length_cons] at hk;omega
  have hr':k ∈ Region.ready md ops listed:=by simpa using hr
  have hst:qOp P ops C k (wpQuiet P ops C Lq l) a:=by unfold qOp;simp only [h0];exact h
  obtain ⟨v,hy,hK⟩:=yieldsIn_of_qOp h0 hst;exact aAH h0 (Region.noSelect_spec hsel) hs hc hn hkn (fun listed' a' hL=>seqB_ready hL.1) l.length listed a inv (Region.free_spec h0 hf) hr' hy
   (qA hsel hs hc hn l (k+1) _ _ (fun j hj=>by have:=hl (j+1) (by simp;omega);simpa [Nat.add_assoc,Nat.add_comm 1 j] using this) (by simp only [List.length_cons] at hk;omega) (inv.set hr' hkn) hB' hK)
theorem wN {P:Program} {C:World->Prop} {id:Nat} {Q:Exit->Act->World->Prop} {a:Act} {w:World} {l:List Oper} (n:Nat) (hm:P.follows .mixedOrders=true) (hB:Region.lexTailB .any l.toArray n=true) (hC:C { w with drawn:=w.drawn+1 })
  (h:wpQuiet P l.toArray C (fun a'=>∀ w',C w'->wpList P l.toArray Q (l.drop n) a' w') (l.take n) a):(Code.region id l.toArray true).wp P Q a w:=by
 simp only [Region.lexTailB,Bool.and_eq_true,decide_eq_true_eq] at hB
 obtain ⟨⟨⟨⟨hsel,hn⟩,hs⟩,hc⟩,hlex⟩:=hB;have hn':n<l.length:=by simpa using hn
 have htl:(l.take n).length=n:=by simp;omega
 have hdl:(l.drop n).length=l.toArray.size-n:=by simp
 have inv0:HeadInv .any l.toArray n (Array.replicate l.toArray.size false) :=
  ⟨by simp,fun j oj _ hl=>(by rw [getD_replicate_false] at hl;cases hl),fun t _ ht=>getD_in (by simpa using ht) (getD_replicate_false _ _)⟩
 have H:=qA (md:=.any) (g:=l.toArray.size-n) hsel hs hc hn (l.take n) 0 _ a (fun j hj=>by
  have hj':j<n:=by rw [htl] at hj;exact hj
  simp [hj']) (by simpa using htl) inv0 (by rw [htl];exact hlex) h
 refine wp_region_any hm ?_
 have:=kF (Q':=Q) (g:=l.toArray.size-n) (fun listed a' w' hw' hL=>by
  have:=wpAny_of_seq (md:=.any) (Q':=Q) (l.drop n) n listed a' w' (fun j=>by simp [List.getElem?_drop]) (by rw [hdl];exact hL.1) (hL.2 w' hw')
  rwa [hdl] at this) _ _ _ { w with drawn:=w.drawn+1 } hC H
 rw [htl,show n+(l.toArray.size-n)=l.toArray.size by omega] at this
 exact this
theorem aI {P:Program} {id:Nat} {Q:Exit->Act->World->Prop} {a:Act} {w:World} {l:List Oper} (n:Nat) (hm:P.follows .mixedOrders=true) (hB:Region.lexTailB .any l.toArray n=true)
  (h:wpQuiet P l.toArray (fun w'=>∃ p:Regrown,w'=Go.Sort.grow (redrawn w p.d) p.os) (fun a'=>∀ w',(∃ p:Regrown,w'=Go.Sort.grow (redrawn w p.d) p.os)->wpList P l.toArray Q (l.drop n) a' w') (l.take n) a):(Code.region id l.toArray true).wp P Q a w :=
 wN (C:=fun w'=>∃ p:Regrown,w'=Go.Sort.grow (redrawn w p.d) p.os) n hm hB ⟨⟨w.drawn+1,#[]⟩,by rw [Go.Sort.grow_empty];rfl⟩ h
end Qtail
namespace Qflo
open Go.RowKit
def lay (k:Nat) (o:Oper):Oper:={ o with after:=o.after.push ⟨k,.data⟩ }
def bound (ops:Array Oper) (k n:Nat):Array Oper:=ops.modify n (lay k)
theorem iP (ops:Array Oper) (k n i:Nat):(bound ops k n)[i]? = if n=i then (ops[i]?).map (lay k) else ops[i]?:=by
 unfold bound;rw [Array.getElem?_modify]
theorem aFL (ops:Array Oper) (k n i:Nat):((bound ops k n)[i]?).bind (·.dst)=(ops[i]?).bind (·.dst):=by
 rw [iP];split
 ·cases ops[i]? <;> rfl
 ·rfl
theorem iI (ops:Array Oper) (k n:Nat) (t:Array Value):yielded (bound ops k n) t=yielded ops t:=by
 funext j
 unfold yielded;rw [aFL]
theorem qB {P:Program} {ops:Array Oper} {Q:Exit->Act->World->Prop} {k n i:Nat} {K:Act->World->Prop} {a:Act} {w:World}:wpOp P (bound ops k n) Q i K a w ↔ wpOp P ops Q i K a w:=by
 unfold wpOp;rw [iP,iI]
 by_cases hn:n=i
 ·rw [if_pos hn]
  cases ops[i]? with
  | none=>exact Iff.rfl
  | some o=>exact Iff.rfl
 ·rw [if_neg hn]
theorem iJ {P:Program} {ops:Array Oper} {C:World->Prop} {k n:Nat}:∀ (l:List Oper) {Q:Act->Prop} {a:Act},wpQuiet P ops C Q l a->wpQuiet P (bound ops k n) C Q l a
 | [],_,_,h=>h
 | o :: l,Q,a,h=>by
  unfold wpQuiet at h |-
  rw [iI];split
  ·rename_i hw
   rw [if_pos hw] at h
   exact Oper.quiet_mono (fun a h=>iJ l h) h
  ·rename_i hw
   rw [if_neg hw] at h
   exact iJ l h
theorem jC {P:Program} {ops:Array Oper} {Q:Exit->Act->World->Prop} {k n:Nat}:∀ (l:List Oper) {a:Act} {w:World},wpList P ops Q l a w->wpList P (bound ops k n) Q l a w
 | [],_,_,h=>h
 | o :: l,a,w,h=>by
  unfold wpList at h |-
  rw [iI];split
  ·rename_i hw
   rw [if_pos hw] at h
   exact h.imp (Oper.wp_mono (fun a w h=>jC l h)) id
  ·rename_i hw
   rw [if_neg hw] at h
   exact jC l h
theorem aAI {P:Program} {ops:Array Oper} {Q:Exit->Act->World->Prop} {k:Nat} {o:Oper} {l:List Oper} {a:Act} {w:World} (h:wpList P ops Q (o :: l) a w):wpList P ops Q (lay k o :: l) a w:=h
theorem aFM {P:Program} {x:Value} {ix:Nat} {w:World}:¬ noRoomEvent ∈ ((do pure (.value (<- Instr.extract x ix)):Sem Next).runT P w #[]).2:=by
 intro h
 cases x with
 | tuple vs =>
  cases hk:vs[ix]? with
  | some v=>simp only [Instr.extract,hk] at h;exact absurd (show noRoomEvent ∈ (#[]:Array _) from h) (by simp)
  | none=>simp only [Instr.extract,hk] at h;exact absurd (show noRoomEvent ∈ (#[]:Array _) from h) (by simp)
 | _=>exact absurd (show noRoomEvent ∈ (#[]:Array _) from h) (by simp)
theorem aAJ {P:Program} {ops:Array Oper} {Q:Exit->Act->World->Prop} {i:Nat} {o:Oper} {x:Operand} {ix:Nat} (hi:ops[i]? = some o) (ho:o.op=.extract x ix) (hg:o.guard=none) {K:Act->World->Prop} {a:Act} {w:World}
  (h:wpOp P ops Q i K a w):∃ v,Yields P ops o v a/\K (a.put o.dst v) w:=by
 have hw:Region.wanted o (yielded ops a.tmps)=true:=by unfold Region.wanted;rw [hg]
 unfold wpOp at h
 simp only [hi,hw,if_true] at h
 have hx:execOp a.eval o=(do pure (.value (<- Instr.extract (a.eval x) ix)):Sem Next):=by unfold execOp;rw [ho]
 rcases h with h|h
 ·unfold Oper.wp at h
  rw [hx] at h
  have hv:∃ v,∀ w,(execOp a.eval o).run P w=.ok (.value v) w:=by
   cases hq:a.eval x with
   | tuple vs =>
    cases hk:vs[ix]? with
    | some v=>exact ⟨v,fun w=>by rw [hx,hq];simp [Instr.extract,hk]⟩
    | none=>rw [hq] at h;simp [Instr.extract,hk,Oper.upon,go_sem] at h
   | _=>rw [hq] at h;simp [Instr.extract,Oper.upon,go_sem] at h
  obtain ⟨v,hv⟩:=hv;refine ⟨v,.inl ⟨hw,hv⟩,?_⟩;rw [<- hx,hv w] at h
  exact h
 ·have h3:=h.1
  unfold Oper.asks at h3
  rw [hx] at h3
  exact absurd h3.1 aFM
theorem fW {md:Region.Mode} {ops:Array Oper} {listed:Array Bool} {k n j:Nat}:j ∈ Region.ready md (bound ops k n) listed ↔ j ∈ Region.ready md ops listed/\(j=n->listed.getD k false=true):=by
 rw [mem_ready,mem_ready,iP]
 constructor
 ·rintro ⟨h0,o,ho,hall⟩
  split at ho
  ·rename_i hn
   subst hn
   cases hq:ops[n]? with
   | none=>rw [hq] at ho;cases ho
   | some o1 =>
    rw [hq] at ho
    cases ho
    refine ⟨⟨h0,o1,rfl,fun e he hb=>hall e (Array.mem_push.2 (.inl he)) hb⟩,fun _=>hall ⟨k,.data⟩ (Array.mem_push.2 (.inr rfl)) rfl⟩
  ·rename_i hn
   exact ⟨⟨h0,o,ho,hall⟩,fun e=>absurd e.symm hn⟩
 ·rintro ⟨⟨h0,o,ho,hall⟩,hk⟩
  by_cases hn:n=j
  ·subst hn
   refine ⟨h0,lay k o,by rw [if_pos rfl,ho];rfl,fun e he hb=>?_⟩;rcases Array.mem_push.1 he with he|rfl
   ·exact hall e he hb
   ·exact hk rfl
  ·exact ⟨h0,o,by rw [if_neg hn];exact ho,hall⟩
def follows (md:Region.Mode) (ops:Array Oper) (k n:Nat):Bool :=
 match ops[k]?,ops[n]? with
 | some ok,some on=>ok.after.all (fun e=>!Region.binds md e || on.after.any (fun d=>Region.binds md d && d.on == e.on)) && (match ok.op with|.extract ..=>true|_=>false) && ok.guard.isNone
 | _,_=>false
theorem mG {md:Region.Mode} {ops:Array Oper} {k n:Nat} (h:follows md ops k n=true):∃ ok on,ops[k]? = some ok/\ops[n]? = some on/\(∀ e ∈ ok.after,Region.binds md e=true->∃ d ∈ on.after,Region.binds md d=true/\d.on=e.on)/\(∃ x ix,ok.op=.extract x ix)/\ok.guard=none:=by
 unfold follows at h
 split at h
 ·rename_i ok on h1 h2
  simp only [Bool.and_eq_true] at h
  refine ⟨ok,on,h1,h2,fun e he hb=>?_,?_,by simpa using h.2⟩
  ·have:=(Array.all_eq_true_iff_forall_mem.1 h.1.1) e he
   simp only [hb,Bool.not_true,Bool.false_or] at this
   obtain ⟨d,hd,hb2⟩:=Array.any_eq_true'.1 this;simp only [Bool.and_eq_true,beq_iff_eq] at hb2
   exact ⟨d,hd,hb2.1,hb2.2⟩
  ·have:=h.1.2
   split at this
   ·rename_i x ix hop;exact ⟨x,ix,hop⟩
   ·cases this
 ·cases h
def before (md:Region.Mode) (ops:Array Oper) (k:Nat):Array Bool:=((List.range ops.size).map fun j=>Region.waitsFor md ops k j).toArray
theorem aAK {md:Region.Mode} {ops:Array Oper} {k j:Nat} (hj:j<ops.size):(before md ops k).getD j true=Region.waitsFor md ops k j:=by
 unfold before
 simp [hj]
theorem aFN {Q:Exit->Act->World->Prop} (hQ:∀ (d:Tmp) v c a w,Q (.panic c) (a.put (some d) v) w->Q (.panic c) a w) (d:Option Tmp) (v:Value) (c) (a:Act) (w:World) (h:Q (.panic c) (a.put d v) w):Q (.panic c) a w:=by
 cases d with
 | none=>exact h
 | some d=>exact hQ d v c a w h
theorem aFO {P:Program} {ops:Array Oper} {md:Region.Mode} {Q:Exit->Act->World->Prop} {k n:Nat} (hsel:Region.noSelect ops=true) (hf:follows md ops k n=true) (hfree:Region.free md ops (before md ops k) k=true) (hkn:k ≠ n)
  (hQ:∀ (d:Tmp) v c a w,Q (.panic c) (a.put (some d) v) w->Q (.panic c) a w) :
  ∀ (fuel:Nat) (listed:Array Bool) (a:Act) (w:World),listed.size=ops.size->wpAny P md (bound ops k n) Q fuel listed a w->wpAny P md ops Q fuel listed a w:=by
 obtain ⟨ok,on,hk,hn,hdep,⟨x,ix,hop⟩,hg⟩:=mG hf;have hlt:k<ops.size:=(Array.getElem?_eq_some_iff.1 hk).1;have key:∀ (listed:Array Bool),listed.size=ops.size->n ∈ Region.ready md ops listed->¬ listed.getD k false=true->k ∈ Region.ready md ops listed:=fun listed hs hr hl=>by
  obtain ⟨_,o,ho,hall⟩:=mem_ready.1 hr;rw [hn] at ho
  cases ho
  refine mem_ready.2 ⟨getD_in (by omega) (by simpa using hl),ok,hk,fun e he hb=>?_⟩;obtain ⟨d,hd,hbd,heq⟩:=hdep e he hb;rw [<- heq];exact hall d hd hbd
 intro fuel
 induction fuel with
 | zero =>
  intro listed a w hs H;refine ⟨?_,H.2⟩
  cases hr:Region.ready md ops listed with
  | nil=>rfl
  | cons j js =>
   have hj:j ∈ Region.ready md ops listed:=by rw [hr];simp
   by_cases hjn:j=n/\¬ listed.getD k false=true
   ·have h1:=key listed hs (hjn.1 ▸ hj) hjn.2
    have h2:k ∈ Region.ready md (bound ops k n) listed:=fW.2 ⟨h1,fun e=>absurd e hkn⟩;rw [H.1] at h2
    cases h2
   ·have h2:j ∈ Region.ready md (bound ops k n) listed:=fW.2 ⟨hj,fun e=>Decidable.byContradiction fun h=>hjn ⟨e,h⟩⟩
    rw [H.1] at h2
    cases h2
 | succ fuel ih =>
  intro listed a w hs H
  by_cases hr:k ∈ Region.ready md ops listed
  ·have h1:=H.2 k (fW.2 ⟨hr,fun e=>absurd e hkn⟩)
   obtain ⟨v,hy,h2⟩:=aAJ hk hop hg (qB.1 h1);have h3:=ih _ _ _ (by simp [hs]) h2;refine wpAny_first hk (Region.noSelect_spec hsel) (fun c a w=>aFN hQ _ _ c a w) fuel listed a w (fun j oj hj hne hun hno=>?_) hr hy h3;refine Region.free_spec hk hfree j oj hj hne ?_ hno;rw [aAK (Array.getElem?_eq_some_iff.1 hj).1]
   cases hw:Region.waitsFor md ops k j with
   | false=>rfl
   | true =>
    obtain ⟨o2,ho2,e,he,hb,heq⟩:=Region.waitsFor_spec hw;obtain ⟨_,o3,ho3,hall⟩:=mem_ready.1 hr;rw [ho2] at ho3
    cases ho3
    have h5:=hall e he hb;rw [heq,getD_both hun] at h5
    cases h5
  ·have hrr:∀ j,j ∈ Region.ready md ops listed->j ∈ Region.ready md (bound ops k n) listed:=fun j hj=>fW.2 ⟨hj,fun e=>by
    subst e;exact Decidable.byContradiction fun h=>hr (key listed hs hj h)⟩
   refine ⟨fun h0=>H.1 ?_,fun j hj=>wpOp_mono (fun a w h=>ih _ _ _ (by simp [hs]) h) (qB.1 (H.2 j (hrr j hj)))⟩
   cases hb:Region.ready md (bound ops k n) listed with
   | nil=>rfl
   | cons j js =>
    have hj:j ∈ Region.ready md (bound ops k n) listed:=by rw [hb];simp
    have:=(fW.1 hj).1
    rw [h0] at this
    cases this
open Qtail in
theorem aAL {P:Program} {C:World->Prop} {Q:Exit->Act->World->Prop} {a:Act} {w:World} {l:List Oper} (n:Nat) (hB:Region.lexTailB .any l.toArray n=true) (hC:C { w with drawn:=w.drawn+1 })
  (h:wpQuiet P l.toArray C (fun a'=>∀ w',C w'->wpList P l.toArray Q (l.drop n) a' w') (l.take n) a):wpAny P .any l.toArray Q l.toArray.size (Array.replicate l.toArray.size false) a { w with drawn:=w.drawn+1 }:=by
 simp only [Region.lexTailB,Bool.and_eq_true,decide_eq_true_eq] at hB
 obtain ⟨⟨⟨⟨hsel,hn⟩,hs⟩,hc⟩,hlex⟩:=hB;have hn':n<l.length:=by simpa using hn
 have htl:(l.take n).length=n:=by simp;omega
 have hdl:(l.drop n).length=l.toArray.size-n:=by simp
 have inv0:HeadInv .any l.toArray n (Array.replicate l.toArray.size false) :=
  ⟨by simp,fun j oj _ hl=>(by rw [getD_replicate_false] at hl;cases hl),fun t _ ht=>getD_in (by simpa using ht) (getD_replicate_false _ _)⟩
 have H:=qA (md:=.any) (g:=l.toArray.size-n) hsel hs hc hn (l.take n) 0 _ a (fun j hj=>by
  have hj':j<n:=by rw [htl] at hj;exact hj
  simp [hj']) (by simpa using htl) inv0 (by rw [htl];exact hlex) h
 have:=kF (Q':=Q) (g:=l.toArray.size-n) (fun listed a' w' hw' hL=>by
  have:=wpAny_of_seq (md:=.any) (Q':=Q) (l.drop n) n listed a' w' (fun j=>by simp [List.getElem?_drop]) (by rw [hdl];exact hL.1) (hL.2 w' hw')
  rwa [hdl] at this) _ _ _ { w with drawn:=w.drawn+1 } hC H
 rw [htl,show n+(l.toArray.size-n)=l.toArray.size by omega] at this
 exact this
theorem jD {P:Program} {ops:Array Oper} {C:World->Prop} {Q Q':Act->Prop} (hq:∀ a,Q a->Q' a):∀ (l:List Oper) (a:Act),wpQuiet P ops C Q l a->wpQuiet P ops C Q' l a
 | [],_,h=>hq _ h
 | o :: l,a,h=>by
  unfold wpQuiet at h |-
  split
  ·rename_i hw
   rw [if_pos hw] at h
   exact Oper.quiet_mono (fun a h=>jD hq l a h) h
  ·rename_i hw
   rw [if_neg hw] at h
   exact jD hq l _ h
theorem nY {P:Program} {id:Nat} {Q:Exit->Act->World->Prop} {a:Act} {w:World} {l:List Oper} (k n:Nat) (hm:P.follows .mixedOrders=true) (hB:(decide (k ≠ n) && Region.noSelect l.toArray && follows .any l.toArray k n && Region.free .any l.toArray (before .any l.toArray k) k && Region.lexTailB .any (bound l.toArray k n) n)=true)
  (hQ:∀ (d:Tmp) v c a w,Q (.panic c) (a.put (some d) v) w->Q (.panic c) a w)
  (h:wpQuiet P l.toArray (fun w'=>∃ p:Regrown,w'=Go.Sort.grow (redrawn w p.d) p.os) (fun a'=>∀ w',(∃ p:Regrown,w'=Go.Sort.grow (redrawn w p.d) p.os)->wpList P l.toArray Q (l.drop n) a' w') (l.take n) a):(Code.region id l.toArray true).wp P Q a w:=by
 simp only [Bool.and_eq_true,decide_eq_true_eq] at hB
 obtain ⟨⟨⟨⟨hkn,hsel⟩,hf⟩,hfree⟩,hB⟩:=hB;have hsz:(bound l.toArray k n).size=l.toArray.size:=by unfold bound;simp
 refine wp_region_any hm (aFO hsel hf hfree hkn hQ _ _ _ _ (by simp) ?_);have hnn:n<l.length:=by
  obtain ⟨ok,on,hk,hn,_⟩:=mG hf
  simpa using (Array.getElem?_eq_some_iff.1 hn).1
 have ht:(bound l.toArray k n).toList.take n=l.take n:=by
  apply List.ext_getElem?
  intro i;rw [List.getElem?_take,List.getElem?_take];split
  ·rw [Array.getElem?_toList,iP,if_neg (by omega)];simp
  ·rfl
 have hd:∃ o,l.drop n=o :: l.drop (n+1)/\(bound l.toArray k n).toList.drop n=lay k o :: l.drop (n+1):=by
  refine ⟨l[n],List.drop_eq_getElem_cons hnn,?_⟩
  apply List.ext_getElem?
  intro i;rw [List.getElem?_drop,Array.getElem?_toList,iP]
  cases i with
  | zero=>simp [hnn]
  | succ i=>rw [if_neg (by omega)];simp [Nat.add_assoc,Nat.add_comm 1 i]
 obtain ⟨o,ho1,ho2⟩:=hd;have H:=aAL (l:=(bound l.toArray k n).toList) (Q:=Q) (a:=a) (w:=w) (C:=fun w'=>∃ p:Regrown,w'=Go.Sort.grow (redrawn w p.d) p.os) n (by rw [Array.toArray_toList];exact hB) ⟨⟨w.drawn+1,#[]⟩,by rw [Go.Sort.grow_empty];rfl⟩ (P:=P) (by
  rw [Array.toArray_toList,ht];refine iJ _ ?_;refine jD (fun a' h w' hw'=>?_) _ _ h;rw [ho2];have h1:=h w' hw';rw [ho1] at h1
  exact jC _ (aAI h1))
 rw [Array.toArray_toList,hsz] at H
 exact H
end Qflo
namespace Inr
open Go.RowKit
theorem aRC {P:Program} {row:String} {args:Array Value} {w:World} {R:Value->World->Prop} {l n:Nat} (h:Rows P row args w R):RowsIn (Fence.wide.inRound l) n P row args w R :=
 fun c cs _=>let ⟨v,w',r,s⟩:=h c cs;⟨v,w',r,stepsIn_wide.2 s⟩
theorem aRD {P:Program} {o:Oper} {a:Act} {w:World} {K:Act->World->Prop} {Q:Exit->Act->World->Prop} {l n:Nat} (hd:∀ c,o.op ≠ .defer c) (h:o.wp P a w K Q):o.wpIn (Fence.wide.inRound l) n P a w K Q:=by
 refine ⟨fun _ _=>trivial,?_⟩;rw [Oper.semAt_eq _ _ _ hd];unfold Oper.wp at h
 generalize (execOp a.eval o).run P w=r at h
 cases r with
 | ok x w' =>
  cases x with
  | value v=>exact h
  | skip=>exact h
  | defer d=>exact h
  | enter f args=>exact ⟨fun h=>(by cases h),callsIn_wide.2 h⟩
  | row row args=>exact ⟨fun h=>(by cases h),aRC h⟩
  | round=>exact h.elim
  | _=>exact h.elim
 | halt x w' =>
  cases x with
  | panic v=>exact h
  | _=>exact h.elim
def tM (ops:Array Oper):Bool:=ops.all fun o=>match o.op with|.defer _=>false|_=>true
theorem tN {ops:Array Oper} (h:tM ops=true) {i:Nat} {o:Oper} (ho:ops[i]? = some o):∀ c,o.op ≠ .defer c:=fun c hc=>by
 obtain ⟨hi,rfl⟩:=Array.getElem?_eq_some_iff.1 ho
 have:=Array.all_eq_true.1 h i hi
 rw [hc] at this
 cases this
theorem aYZ {P:Program} {md:Region.Mode} {ops:Array Oper} {Q:Exit->Act->World->Prop} {l n:Nat} (hd:tM ops=true) (hq:¬ LetsOut Q):∀ (fuel:Nat) (listed:Array Bool) (a:Act) (w:World),wpAny P md ops Q fuel listed a w->wpAnyIn (Fence.wide.inRound l) n P md ops Q fuel listed a w:=by
 intro fuel
 induction fuel with
 | zero=>intro listed a w h;exact h
 | succ fuel ih =>
  intro listed a w h;refine ⟨h.1,fun i hi=>?_⟩;have h1:=h.2 i hi;unfold wpOp at h1
  unfold wpOpIn
  cases ho:ops[i]? with
  | none=>rw [ho] at h1;exact ih _ _ _ h1
  | some o =>
   rw [ho] at h1
   dsimp only at h1 |-
   by_cases hw:Region.wanted o (yielded ops a.tmps)=true
   ·rw [if_pos hw] at h1 |-
    rcases h1 with h1|h1
    ·exact aRD (tN hd ho) (Oper.wp_mono (fun a w h=>ih _ _ _ h) h1)
    ·exact absurd h1.2 hq
   ·rw [if_neg hw] at h1 |-
    exact ⟨fun _ _=>trivial,ih _ _ _ h1⟩
theorem aFP {P:Program} {id:Nat} {ops:Array Oper} {Q:Exit->Act->World->Prop} {a:Act} {w:World} {l n:Nat} (hm:P.follows .mixedOrders=true) (hd:tM ops=true) (hq:¬ LetsOut Q)
  (h:wpAny P .any ops Q ops.size (Array.replicate ops.size false) a w.drew):(Code.region id ops true).wpIn (Fence.wide.inRound l) n P Q a w :=
 wpIn_region_any hm (aYZ hd hq _ _ _ _ h)
end Inr
namespace Nums
def tab:List Int:=[48,49,50,51,52,53,54,55,56,57,65,66,67,68,69,70]
def Tab (w:World):Prop:=∀ i,i<16->w.cell? ⟨0,i,none⟩=some (.int .u8 (tab.getD i 0))
end Nums
end Go.Proofs.YteglcgnhhoenbaaGreatDoor
namespace Go.Proofs
open Go.Shelf Go.RowKit
def Tryz.lays154_ren:Go.Shelf.Ren:=⟨fun|154=>149|138=>229|165=>230|143=>167|166=>225|197=>231|169=>228|195=>251|218=>252|240=>250|241=>253|219=>239|260=>254|276=>265|277=>266|217=>257|225=>258|224=>259|267=>260|266=>271|314=>272|n=>n,fun|9=>9|3=>3|4=>4|72=>195|0=>0|76=>199|105=>204|21=>21|5=>5|70=>193|20=>20|37=>22|75=>198|127=>214|164=>225|46=>147|119=>228|139=>231|138=>230|146=>238|51=>237|80=>100|n=>n,fun|1=>9|3=>10|4=>11|n=>n⟩
theorem Tryz.lays154:Go.Proofs.Lays.n154 Tryz.prog Tryz.lays154_ren:={
 mixed:=by kernel_rfl
 f138:=Tryz.func229.trans (congrArg some (by kernel_rfl))
 f143:=Tryz.func167.trans (congrArg some (by kernel_rfl))
 f154:=Tryz.func149.trans (congrArg some (by kernel_rfl))
 f165:=Tryz.func230.trans (congrArg some (by kernel_rfl))
 f166:=Tryz.func225.trans (congrArg some (by kernel_rfl))
 f169:=Tryz.func228.trans (congrArg some (by kernel_rfl))
 f195:=Tryz.func251.trans (congrArg some (by kernel_rfl))
 f197:=Tryz.func231.trans (congrArg some (by kernel_rfl))
 f217:=Tryz.func257.trans (congrArg some (by kernel_rfl))
 f218:=Tryz.func252.trans (congrArg some (by kernel_rfl))
 f219:=Tryz.func239.trans (congrArg some (by kernel_rfl))
 f224:=Tryz.func259.trans (congrArg some (by kernel_rfl))
 f225:=Tryz.func258.trans (congrArg some (by kernel_rfl))
 f240:=Tryz.func250.trans (congrArg some (by kernel_rfl))
 f241:=Tryz.func253.trans (congrArg some (by kernel_rfl))
 f260:=Tryz.func254.trans (congrArg some (by kernel_rfl))
 f266:=Tryz.func271.trans (congrArg some (by kernel_rfl))
 f267:=Tryz.func260.trans (congrArg some (by kernel_rfl))
 f276:=Tryz.func265.trans (congrArg some (by kernel_rfl))
 f277:=Tryz.func266.trans (congrArg some (by kernel_rfl))
 f314:=Tryz.func272.trans (congrArg some (by kernel_rfl))
 t0:=Tryz.underlying0
 a0:=Tryz.isAgg0
 z0:=Tryz.sizeOf0
 v0:=Tryz.zeroValue0
 t3:=Tryz.underlying3
 a3:=Tryz.isAgg3
 z3:=Tryz.sizeOf3
 v3:=Tryz.zeroValue3
 t4:=Tryz.underlying4
 a4:=Tryz.isAgg4
 z4:=Tryz.sizeOf4
 v4:=Tryz.zeroValue4
 t5:=Tryz.underlying5
 a5:=Tryz.isAgg5
 z5:=Tryz.sizeOf5
 v5:=Tryz.zeroValue5
 t9:=Tryz.underlying9
 a9:=Tryz.isAgg9
 z9:=Tryz.sizeOf9
 v9:=Tryz.zeroValue9
 t20:=Tryz.underlying20
 a20:=Tryz.isAgg20
 z20:=Tryz.sizeOf20
 v20:=Tryz.zeroValue20
 t21:=Tryz.underlying21
 a21:=Tryz.isAgg21
 z21:=Tryz.sizeOf21
 v21:=Tryz.zeroValue21
 t37:=Tryz.underlying22
 a37:=Tryz.isAgg22
 z37:=Tryz.sizeOf22
 v37:=Tryz.zeroValue22
 t46:=Tryz.underlying147
 a46:=Tryz.isAgg147
 z46:=Tryz.sizeOf147
 v46:=Tryz.zeroValue147
 t51:=Tryz.underlying237
 a51:=Tryz.isAgg237
 z51:=Tryz.sizeOf237
 v51:=Tryz.zeroValue237
 t70:=Tryz.underlying193
 a70:=Tryz.isAgg193
 z70:=Tryz.sizeOf193
 v70:=Tryz.zeroValue193
 t72:=Tryz.underlying195
 a72:=Tryz.isAgg195
 z72:=Tryz.sizeOf195
 v72:=Tryz.zeroValue195
 t75:=Tryz.underlying198
 a75:=Tryz.isAgg198
 z75:=Tryz.sizeOf198
 v75:=Tryz.zeroValue198
 t76:=Tryz.underlying199
 a76:=Tryz.isAgg199
 z76:=Tryz.sizeOf199
 v76:=Tryz.zeroValue199
 t105:=Tryz.underlying204
 a105:=Tryz.isAgg204
 z105:=Tryz.sizeOf204
 v105:=Tryz.zeroValue204
 t119:=Tryz.underlying228
 a119:=Tryz.isAgg228
 z119:=Tryz.sizeOf228
 t127:=Tryz.underlying214
 a127:=Tryz.isAgg214
 z127:=Tryz.sizeOf214
 v127:=Tryz.zeroValue214
 t138:=Tryz.underlying230
 a138:=Tryz.isAgg230
 z138:=Tryz.sizeOf230
 v138:=Tryz.zeroValue230
 t139:=Tryz.underlying231
 a139:=Tryz.isAgg231
 z139:=Tryz.sizeOf231
 v139:=Tryz.zeroValue231
 t146:=Tryz.underlying238
 a146:=Tryz.isAgg238
 z146:=Tryz.sizeOf238
 v146:=Tryz.zeroValue238
 t164:=Tryz.underlying225
 a164:=Tryz.isAgg225
 z164:=Tryz.sizeOf225
 v164:=Tryz.zeroValue225
 g1:=by kernel_rfl
 g3:=by kernel_rfl
 g4:=by kernel_rfl }
theorem Tryz.Builder_Extra_154:Builder.Extra Tryz.prog Tryz.lays154_ren:={
 sizeBuilder:=by kernel_rfl
 liesBuilder:=by kernel_rfl
 t5:=Tryz.underlying5
 a5:=Tryz.isAgg5
 z5:=Tryz.sizeOf5
 v5:=Tryz.zeroValue5
 infoByte:=by kernel_rfl
 cellsByte:=by kernel_rfl
 sizeByte:=by kernel_rfl
 neB5:=by decide }
open Go.RowKit Go.Lib in
theorem Tryz.strings_Replace_some (s old new:ByteArray) (n:Int) (m:Int) (w:World) (hs:s.size<4294967281) (hm:w.cell? ⟨9,0,none⟩=some (.int .i64 m)) (h1:1<=old.size) (hne:old ≠ new) (hn0:n ≠ 0) (hc0:Lib.countB s old ≠ 0) (hlen:s.size+Lib.countB s old*new.size<=140737488355328) :
  Calls Tryz.prog 149 #[.string s,.string old,.string new,.int .i64 n] w fun e w' =>
   e=.returned (.string ⟨(Lib.replaceK old.data.toList new.data.toList (Lib.replaceNum s.data.toList old.data.toList n) s.data.toList).toArray⟩)/\Below w.heap.size w w':=Any.strings_Replace_some Tryz.lays154 Tryz.Builder_Extra_154 s old new n m w hs hm h1 hne hn0 hc0 hlen
end Go.Proofs
namespace Go.Proofs.YteglcgnhhoenbaaGreatDoor
namespace Txts
open Go.Deep
def aEG (w:World) (a:Option Addr) (L:List ByteArray):Prop:=L=[] \/ ∃ b off,a=some ⟨b,off,none⟩/\b<w.heap.size/\∀ i (h:i<L.length),w.cell? ⟨b,off+i,none⟩=some (.string L[i])
theorem aEH:(prog.info? 9).map (fun i=>(i.zero,i.size,i.bytes))=some (some (.string ⟨#[]⟩),1,16):=by kernel_rfl
theorem fX {w:World} {base n:Nat} {v:Value} {L:List ByteArray} (h:w.ownsRow base 9 1 v n (L.map Value.string)):∃ a cap,v=.slice a L.length cap/\aEG w a L/\n=L.length:=by
 have hn:n=L.length:=by have:=h.1;simp at this;omega
 subst hn;rcases h.2 with ⟨rfl,h0⟩|⟨g,cap,cur,rfl,hb,hg,rest⟩
 ·exact ⟨none,0,by rw [h0],.inl (List.eq_nil_of_length_eq_zero h0),rfl⟩
 ·refine ⟨_,cap,rfl,.inr ⟨g,0,rfl,(zLo hg),fun i hi=>?_⟩,rfl⟩
  have:=h.cellAt i (by simpa using hi)
  rw [Nat.zero_add,this]
  simp [hi]
theorem rT (a a':Option Addr) (cap cap':Nat) (L:List ByteArray) (w:World) (hN:aEG w a L) (hN':aEG w a' L) (hlen:L.length<=10000000) :
  Calls prog 29 #[.slice a L.length cap,.slice a' L.length cap'] w fun e w'=>e=.returned (.bool true)/\∃ n,w'=w.drewN n:=by
 obtain ⟨len,hl⟩ : ∃ len,len=L.length:=⟨_,rfl⟩
 have HL:Hid (len=L.length):=hl;rw [<- hl] at hlen |-
 clear hl
 go_enter func29,ntmps29
 go_wp2
 go_loopw [5] (fun i wr=>∃ k n:Nat,k<=len/\i=.int .i64 k/\wr=w.drewN n) (fun i _=>len-(intOf i).toNat)
 case atStart=>exact ⟨0,0,Nat.zero_le _,rfl,rfl⟩
 case round =>
  obtain ⟨k,n,hk,rfl,rfl⟩:=hrel
  by_cases hlt:k<len
  ·have hkL:k<L.length:=by have:=HL.out;omega
   rcases hN with hnil|⟨b,off,rfl,hb,hc⟩
   ·exfalso;rw [hnil] at hkL;exact absurd hkL (by simp)
   rcases hN' with hnil|⟨b',off',rfl,hb',hc'⟩
   ·exfalso;rw [hnil] at hkL;exact absurd hkL (by simp)
   have c0:w.cell? ⟨b,off+k,none⟩=some (.string L[k]):=hc k hkL;have e0:w.cell? ⟨b',off'+k,none⟩=some (.string L[k]):=hc' k hkL;clear hc hc';generalize L[k]=kd at c0 e0
   have k0:(0:Int)<=(k:Int):=by omega
   have k1:(k:Int)<(len:Int):=by omega
   go_wp2_with fail
   go_quiet (fail)
   go_wp2
   go_roundw
   case rel=>exact ⟨k+1,_,by omega,by go_num,rfl⟩
   case measure=>simp [intOf];omega
  ·clear hN hN'
   go_wp2;go_ret;exact ⟨rfl,n,rfl⟩
end Txts
end Go.Proofs.YteglcgnhhoenbaaGreatDoor
