import Derived.Shelf.Strings.Builder1
import Derived.Shelf.Strings.Builder2
import Derived.Shelf.Small.Wraps
import Derived.Shelf.Utf8.RuneCount
import Derived.Shelf.Strconv.Itoa0
import Derived.Shelf.Strconv.Itoa1
import Derived.Shelf.LaysM
import Derived.Shelf.Strconv.Itoa2
import Derived.Shelf.Strconv.Itoa3
import Derived.Shelf.Strconv.Itoa4
import Derived.Shelf.Strings.Search1
import Derived.Shelf.Strings.Search2
import Derived.Shelf.Strings.Search3
import Derived.Shelf.Strings.Cut
import Derived.Shelf.Strings.Count
import Derived.Shelf.Strings.Shaped
import Derived.Shelf.Strings.Prefix
import Derived.Shelf.Strings.Split
import Derived.Shelf.Strings.Replace
import Derived.Shelf.Strings.SplitShaped
import Derived.Shelf.Unicode.Decode
import Derived.Shelf.Strings.RuneCount
import Derived.Shelf.Unicode.DecodeSlow
import Derived.Shelf.Unicode.DecodeAny
import Derived.Test.YtbofcepdckpkkaaGreatDoorProg
import Derived.Test.YtbofcepdckpkkaaGreatDoorRows
import Derived.Lib.LaidTab
import Derived.OpenShut
import Derived.ProofKit
import Derived.WalkKit
import Derived.ShutString
import Derived.Outline
import Derived.WalkLawsBesides
set_option linter.all false
set_option maxRecDepth 20000
set_option maxHeartbeats 8000000
open Go.ChangeShapes Go.WideShapes Go.ChangeAt Go.RowKit
open Go.Proofs.Tryz
namespace Go.Proofs.YtbofcepdckpkkaaGreatDoor
theorem zHd {p:Prop} (h:p):Hid p:=h
theorem zRf {B:Nat} {w:World}:Below B w w:=Below.refl _ _
theorem zAl (w:World) (o:Obj):Below w.heap.size w (w.alloc o):=(Below.refl _ _).alloc (Nat.le_refl _) o
theorem zLo {w:World} {b:Nat} {o:Obj} (h:w.heap[b]?=some o):b<w.heap.size:=(Array.getElem?_eq_some_iff.1 h).1
end Go.Proofs.YtbofcepdckpkkaaGreatDoor
namespace Go.Proofs.YtbofcepdckpkkaaGreatDoor
end Go.Proofs.YtbofcepdckpkkaaGreatDoor
namespace Go.Proofs
open Go.Shelf Go.RowKit
def Tryz.lays169_ren:Go.Shelf.Ren:=⟨fun|169=>63|n=>n,fun|70=>81|9=>9|0=>0|72=>83|37=>22|127=>110|3=>3|5=>5|n=>n,fun|n=>n⟩
theorem Tryz.lays169:Go.Proofs.Lays.n169 Tryz.prog Tryz.lays169_ren:={
 mixed:=by kernel_rfl
 f169:=Tryz.func63.trans (congrArg some (by kernel_rfl))
 t0:=Tryz.underlying0
 a0:=Tryz.isAgg0
 z0:=Tryz.sizeOf0
 v0:=Tryz.zeroValue0
 t3:=Tryz.underlying3
 a3:=Tryz.isAgg3
 z3:=Tryz.sizeOf3
 v3:=Tryz.zeroValue3
 t9:=Tryz.underlying9
 a9:=Tryz.isAgg9
 z9:=Tryz.sizeOf9
 v9:=Tryz.zeroValue9
 t37:=Tryz.underlying22
 a37:=Tryz.isAgg22
 z37:=Tryz.sizeOf22
 v37:=Tryz.zeroValue22
 t70:=Tryz.underlying81
 a70:=Tryz.isAgg81
 z70:=Tryz.sizeOf81
 v70:=Tryz.zeroValue81
 t72:=Tryz.underlying83
 a72:=Tryz.isAgg83
 z72:=Tryz.sizeOf83
 v72:=Tryz.zeroValue83
 t127:=Tryz.underlying110
 a127:=Tryz.isAgg110
 z127:=Tryz.sizeOf110
 v127:=Tryz.zeroValue110 }
theorem Tryz.Builder_Extra_169:Builder.Extra Tryz.prog Tryz.lays169_ren:={
 sizeBuilder:=by kernel_rfl
 liesBuilder:=by kernel_rfl
 t5:=Tryz.underlying5
 a5:=Tryz.isAgg5
 z5:=Tryz.sizeOf5
 v5:=Tryz.zeroValue5
 infoByte:=by kernel_rfl
 cellsByte:=by kernel_rfl
 sizeByte:=by kernel_rfl
 neB5:=by decide }
open Go.RowKit in
theorem Tryz.Builder_String_any (B b:Nat) (l:List UInt8) (w:World) (h:Lib.IsBuilder 83 5 B b (Lib.byteCells l) w) (hBw:B<=w.heap.size) :
  Calls Tryz.prog 63 #[.pointer (some ⟨b,0,none⟩)] w fun e w'=>e=.returned (.string ⟨l.toArray⟩)/\Below B w w':=Any.Builder_String_any Tryz.lays169 Tryz.Builder_Extra_169 B b l w h hBw
def Tryz.laysM173_ren:Go.Shelf.Ren:=⟨fun|173=>69|246=>90|283=>111|284=>112|285=>113|286=>114|129=>128|317=>127|318=>129|319=>130|320=>131|337=>139|338=>140|n=>n,fun|2=>2|3=>3|9=>9|4=>4|171=>133|0=>0|53=>114|37=>22|5=>5|173=>136|212=>145|51=>141|20=>20|213=>146|46=>116|232=>153|233=>154|n=>n,fun|17=>12|18=>13|19=>14|n=>n⟩
theorem Tryz.laysM173:Go.Proofs.LaysM.n173 Tryz.prog Tryz.laysM173_ren:={
 mixed:=by kernel_rfl
 f129:=Tryz.func128.trans (congrArg some (by kernel_rfl))
 f173:=Tryz.func69.trans (congrArg some (by kernel_rfl))
 f246:=Tryz.func90.trans (congrArg some (by kernel_rfl))
 f283:=Tryz.func111.trans (congrArg some (by kernel_rfl))
 f284:=Tryz.func112.trans (congrArg some (by kernel_rfl))
 f285:=Tryz.func113.trans (congrArg some (by kernel_rfl))
 f286:=Tryz.func114.trans (congrArg some (by kernel_rfl))
 f317:=Tryz.func127.trans (congrArg some (by kernel_rfl))
 f318:=Tryz.func129.trans (congrArg some (by kernel_rfl))
 f319:=Tryz.func130.trans (congrArg some (by kernel_rfl))
 f320:=Tryz.func131.trans (congrArg some (by kernel_rfl))
 f337:=Tryz.func139.trans (congrArg some (by kernel_rfl))
 f338:=Tryz.func140.trans (congrArg some (by kernel_rfl))
 t0:=Tryz.underlying0
 a0:=Tryz.isAgg0
 z0:=Tryz.sizeOf0
 v0:=Tryz.zeroValue0
 t2:=Tryz.underlying2
 a2:=Tryz.isAgg2
 z2:=Tryz.sizeOf2
 v2:=Tryz.zeroValue2
 t3:=Tryz.underlying3
 a3:=Tryz.isAgg3
 z3:=Tryz.sizeOf3
 v3:=Tryz.zeroValue3
 t4:=Tryz.underlying4
 a4:=Tryz.isAgg4
 z4:=Tryz.sizeOf4
 v4:=Tryz.zeroValue4
 t5:=Tryz.underlying5
 a5:=Tryz.isAgg5
 z5:=Tryz.sizeOf5
 v5:=Tryz.zeroValue5
 t9:=Tryz.underlying9
 a9:=Tryz.isAgg9
 z9:=Tryz.sizeOf9
 v9:=Tryz.zeroValue9
 t20:=Tryz.underlying20
 a20:=Tryz.isAgg20
 z20:=Tryz.sizeOf20
 v20:=Tryz.zeroValue20
 t37:=Tryz.underlying22
 a37:=Tryz.isAgg22
 z37:=Tryz.sizeOf22
 v37:=Tryz.zeroValue22
 t46:=Tryz.underlying116
 a46:=Tryz.isAgg116
 z46:=Tryz.sizeOf116
 v46:=Tryz.zeroValue116
 t51:=Tryz.underlying141
 a51:=Tryz.isAgg141
 z51:=Tryz.sizeOf141
 v51:=Tryz.zeroValue141
 t53:=Tryz.underlying114
 a53:=Tryz.isAgg114
 z53:=Tryz.sizeOf114
 v53:=Tryz.zeroValue114
 t171:=Tryz.underlying133
 a171:=Tryz.isAgg133
 z171:=Tryz.sizeOf133
 v171:=Tryz.zeroValue133
 t173:=Tryz.underlying136
 a173:=Tryz.isAgg136
 z173:=Tryz.sizeOf136
 v173:=Tryz.zeroValue136
 t212:=Tryz.underlying145
 a212:=Tryz.isAgg145
 z212:=Tryz.sizeOf145
 v212:=Tryz.zeroValue145
 t213:=Tryz.underlying146
 a213:=Tryz.isAgg146
 z213:=Tryz.sizeOf146
 t232:=Tryz.underlying153
 a232:=Tryz.isAgg153
 z232:=Tryz.sizeOf153
 v232:=Tryz.zeroValue153
 t233:=Tryz.underlying154
 a233:=Tryz.isAgg154
 z233:=Tryz.sizeOf154
 v233:=Tryz.zeroValue154
 g17:=by kernel_rfl
 g18:=by kernel_rfl
 g19:=by kernel_rfl
 i0:=by kernel_rfl
 i2:=by kernel_rfl
 i3:=by kernel_rfl
 i4:=by kernel_rfl
 i5:=by kernel_rfl
 i9:=by kernel_rfl
 i20:=by kernel_rfl
 i37:=by kernel_rfl
 i46:=by kernel_rfl
 i51:=by kernel_rfl
 i53:=by kernel_rfl
 i171:=by kernel_rfl
 i173:=by kernel_rfl
 i212:=by kernel_rfl
 i232:=by kernel_rfl
 i233:=by kernel_rfl
 m17:=by kernel_rfl
 m18:=by kernel_rfl
 m19:=by kernel_rfl }
open Go.RowKit Go.Sort Go.Lib in
theorem Tryz.strconv_FormatInt_10 (n:Int) (h0:-9223372036854775808<=n) (h1:n<=9223372036854775807) (w:World) (htab:Lib.TabIs Tryz.prog w "internal/strconv.uint64pow10" .u64 Lib.pow10Tab) :
  Calls Tryz.prog 69 #[.int .i64 n,.int .i64 10] w fun e w'=>e=.returned (.string ⟨(Lib.itoa n).toArray⟩)/\∃ k os,w'=grow (w.drewN k) os:=Any.strconv_FormatInt_10 Tryz.laysM173 n h0 h1 w htab
def Tryz.lays173_ren:Go.Shelf.Ren:=⟨fun|173=>69|246=>90|283=>111|284=>112|285=>113|286=>114|129=>128|317=>127|318=>129|319=>130|320=>131|337=>139|338=>140|n=>n,fun|2=>2|3=>3|9=>9|4=>4|171=>133|0=>0|53=>114|37=>22|5=>5|173=>136|212=>145|51=>141|20=>20|213=>146|46=>116|232=>153|233=>154|n=>n,fun|17=>12|18=>13|19=>14|n=>n⟩
theorem Tryz.lays173:Go.Proofs.Lays.n173 Tryz.prog Tryz.lays173_ren:={
 mixed:=by kernel_rfl
 f129:=Tryz.func128.trans (congrArg some (by kernel_rfl))
 f173:=Tryz.func69.trans (congrArg some (by kernel_rfl))
 f246:=Tryz.func90.trans (congrArg some (by kernel_rfl))
 f283:=Tryz.func111.trans (congrArg some (by kernel_rfl))
 f284:=Tryz.func112.trans (congrArg some (by kernel_rfl))
 f285:=Tryz.func113.trans (congrArg some (by kernel_rfl))
 f286:=Tryz.func114.trans (congrArg some (by kernel_rfl))
 f317:=Tryz.func127.trans (congrArg some (by kernel_rfl))
 f318:=Tryz.func129.trans (congrArg some (by kernel_rfl))
 f319:=Tryz.func130.trans (congrArg some (by kernel_rfl))
 f320:=Tryz.func131.trans (congrArg some (by kernel_rfl))
 f337:=Tryz.func139.trans (congrArg some (by kernel_rfl))
 f338:=Tryz.func140.trans (congrArg some (by kernel_rfl))
 t0:=Tryz.underlying0
 a0:=Tryz.isAgg0
 z0:=Tryz.sizeOf0
 v0:=Tryz.zeroValue0
 t2:=Tryz.underlying2
 a2:=Tryz.isAgg2
 z2:=Tryz.sizeOf2
 v2:=Tryz.zeroValue2
 t3:=Tryz.underlying3
 a3:=Tryz.isAgg3
 z3:=Tryz.sizeOf3
 v3:=Tryz.zeroValue3
 t4:=Tryz.underlying4
 a4:=Tryz.isAgg4
 z4:=Tryz.sizeOf4
 v4:=Tryz.zeroValue4
 t5:=Tryz.underlying5
 a5:=Tryz.isAgg5
 z5:=Tryz.sizeOf5
 v5:=Tryz.zeroValue5
 t9:=Tryz.underlying9
 a9:=Tryz.isAgg9
 z9:=Tryz.sizeOf9
 v9:=Tryz.zeroValue9
 t20:=Tryz.underlying20
 a20:=Tryz.isAgg20
 z20:=Tryz.sizeOf20
 v20:=Tryz.zeroValue20
 t37:=Tryz.underlying22
 a37:=Tryz.isAgg22
 z37:=Tryz.sizeOf22
 v37:=Tryz.zeroValue22
 t46:=Tryz.underlying116
 a46:=Tryz.isAgg116
 z46:=Tryz.sizeOf116
 v46:=Tryz.zeroValue116
 t51:=Tryz.underlying141
 a51:=Tryz.isAgg141
 z51:=Tryz.sizeOf141
 v51:=Tryz.zeroValue141
 t53:=Tryz.underlying114
 a53:=Tryz.isAgg114
 z53:=Tryz.sizeOf114
 v53:=Tryz.zeroValue114
 t171:=Tryz.underlying133
 a171:=Tryz.isAgg133
 z171:=Tryz.sizeOf133
 v171:=Tryz.zeroValue133
 t173:=Tryz.underlying136
 a173:=Tryz.isAgg136
 z173:=Tryz.sizeOf136
 v173:=Tryz.zeroValue136
 t212:=Tryz.underlying145
 a212:=Tryz.isAgg145
 z212:=Tryz.sizeOf145
 v212:=Tryz.zeroValue145
 t213:=Tryz.underlying146
 a213:=Tryz.isAgg146
 z213:=Tryz.sizeOf146
 t232:=Tryz.underlying153
 a232:=Tryz.isAgg153
 z232:=Tryz.sizeOf153
 v232:=Tryz.zeroValue153
 t233:=Tryz.underlying154
 a233:=Tryz.isAgg154
 z233:=Tryz.sizeOf154
 v233:=Tryz.zeroValue154
 g17:=by kernel_rfl
 g18:=by kernel_rfl
 g19:=by kernel_rfl }
open Go.RowKit Go.Sort Go.Lib in
theorem Tryz.strconv_FormatInt_10_small (i:Nat) (hi:i<100) (w:World) :
  Calls Tryz.prog 69 #[.int .i64 i,.int .i64 10] w fun e w'=>e=.returned (.string ⟨(Lib.decDigits i).toArray⟩)/\w'=w:=Any.strconv_FormatInt_10_small Tryz.lays173 i hi w
def Tryz.lays144_ren:Go.Shelf.Ren:=⟨fun|144=>57|143=>66|219=>88|217=>107|225=>108|224=>109|267=>110|266=>125|314=>126|n=>n,fun|9=>9|4=>4|3=>3|5=>5|46=>116|146=>142|51=>141|n=>n,fun|1=>9|n=>n⟩
theorem Tryz.lays144:Go.Proofs.Lays.n144 Tryz.prog Tryz.lays144_ren:={
 mixed:=by kernel_rfl
 f143:=Tryz.func66.trans (congrArg some (by kernel_rfl))
 f144:=Tryz.func57.trans (congrArg some (by kernel_rfl))
 f217:=Tryz.func107.trans (congrArg some (by kernel_rfl))
 f219:=Tryz.func88.trans (congrArg some (by kernel_rfl))
 f224:=Tryz.func109.trans (congrArg some (by kernel_rfl))
 f225:=Tryz.func108.trans (congrArg some (by kernel_rfl))
 f266:=Tryz.func125.trans (congrArg some (by kernel_rfl))
 f267:=Tryz.func110.trans (congrArg some (by kernel_rfl))
 f314:=Tryz.func126.trans (congrArg some (by kernel_rfl))
 t3:=Tryz.underlying3
 a3:=Tryz.isAgg3
 z3:=Tryz.sizeOf3
 v3:=Tryz.zeroValue3
 t4:=Tryz.underlying4
 a4:=Tryz.isAgg4
 z4:=Tryz.sizeOf4
 v4:=Tryz.zeroValue4
 t5:=Tryz.underlying5
 a5:=Tryz.isAgg5
 z5:=Tryz.sizeOf5
 v5:=Tryz.zeroValue5
 t9:=Tryz.underlying9
 a9:=Tryz.isAgg9
 z9:=Tryz.sizeOf9
 v9:=Tryz.zeroValue9
 t46:=Tryz.underlying116
 a46:=Tryz.isAgg116
 z46:=Tryz.sizeOf116
 v46:=Tryz.zeroValue116
 t51:=Tryz.underlying141
 a51:=Tryz.isAgg141
 z51:=Tryz.sizeOf141
 v51:=Tryz.zeroValue141
 t146:=Tryz.underlying142
 a146:=Tryz.isAgg142
 z146:=Tryz.sizeOf142
 v146:=Tryz.zeroValue142
 g1:=by kernel_rfl }
open Go.RowKit Go.Lib in
theorem Tryz.strings_Contains (s sub:ByteArray) (m:Int) (w:World) (hs:s.size<4294967281) (hm:w.cell? ⟨9,0,none⟩=some (.int .i64 m)) :
  Calls Tryz.prog 57 #[.string s,.string sub] w fun e w'=>e=.returned (.bool (Lib.contains s.data.toList sub.data.toList))/\w'=w:=Any.strings_Contains Tryz.lays144 s sub m w hs hm
def Tryz.laysM144_ren:Go.Shelf.Ren:=⟨fun|144=>57|143=>66|219=>88|217=>107|225=>108|224=>109|267=>110|266=>125|314=>126|n=>n,fun|9=>9|4=>4|3=>3|5=>5|46=>116|146=>142|51=>141|n=>n,fun|1=>9|n=>n⟩
theorem Tryz.laysM144:Go.Proofs.LaysM.n144 Tryz.prog Tryz.laysM144_ren:={
 mixed:=by kernel_rfl
 f143:=Tryz.func66.trans (congrArg some (by kernel_rfl))
 f144:=Tryz.func57.trans (congrArg some (by kernel_rfl))
 f217:=Tryz.func107.trans (congrArg some (by kernel_rfl))
 f219:=Tryz.func88.trans (congrArg some (by kernel_rfl))
 f224:=Tryz.func109.trans (congrArg some (by kernel_rfl))
 f225:=Tryz.func108.trans (congrArg some (by kernel_rfl))
 f266:=Tryz.func125.trans (congrArg some (by kernel_rfl))
 f267:=Tryz.func110.trans (congrArg some (by kernel_rfl))
 f314:=Tryz.func126.trans (congrArg some (by kernel_rfl))
 t3:=Tryz.underlying3
 a3:=Tryz.isAgg3
 z3:=Tryz.sizeOf3
 v3:=Tryz.zeroValue3
 t4:=Tryz.underlying4
 a4:=Tryz.isAgg4
 z4:=Tryz.sizeOf4
 v4:=Tryz.zeroValue4
 t5:=Tryz.underlying5
 a5:=Tryz.isAgg5
 z5:=Tryz.sizeOf5
 v5:=Tryz.zeroValue5
 t9:=Tryz.underlying9
 a9:=Tryz.isAgg9
 z9:=Tryz.sizeOf9
 v9:=Tryz.zeroValue9
 t46:=Tryz.underlying116
 a46:=Tryz.isAgg116
 z46:=Tryz.sizeOf116
 v46:=Tryz.zeroValue116
 t51:=Tryz.underlying141
 a51:=Tryz.isAgg141
 z51:=Tryz.sizeOf141
 v51:=Tryz.zeroValue141
 t146:=Tryz.underlying142
 a146:=Tryz.isAgg142
 z146:=Tryz.sizeOf142
 v146:=Tryz.zeroValue142
 g1:=by kernel_rfl
 i3:=by kernel_rfl
 i4:=by kernel_rfl
 i5:=by kernel_rfl
 i9:=by kernel_rfl
 i46:=by kernel_rfl
 i51:=by kernel_rfl
 i146:=by kernel_rfl
 m1:=by kernel_rfl
 s1_3:=fun w h=>Go.Proofs.cell_of_shapedOpen_int (zero:=#[.int .i64 0]) (t:=3) h (of_decide_eq_true (by kernel_rfl)) (by kernel_rfl) rfl (by kernel_rfl) (by kernel_rfl) Tryz.underlying3 }
def Tryz.lays154_ren:Go.Shelf.Ren:=⟨fun|154=>29|138=>64|165=>65|143=>66|166=>60|197=>67|169=>63|195=>85|218=>86|240=>84|241=>87|219=>88|260=>89|276=>105|277=>106|217=>107|225=>108|224=>109|267=>110|266=>125|314=>126|n=>n,fun|9=>9|3=>3|4=>4|72=>83|0=>0|76=>87|105=>93|21=>21|5=>5|70=>81|20=>20|37=>22|75=>86|127=>110|164=>126|46=>116|119=>129|139=>132|138=>131|146=>142|51=>141|80=>67|n=>n,fun|1=>9|3=>10|4=>11|n=>n⟩
theorem Tryz.lays154:Go.Proofs.Lays.n154 Tryz.prog Tryz.lays154_ren:={
 mixed:=by kernel_rfl
 f138:=Tryz.func64.trans (congrArg some (by kernel_rfl))
 f143:=Tryz.func66.trans (congrArg some (by kernel_rfl))
 f154:=Tryz.func29.trans (congrArg some (by kernel_rfl))
 f165:=Tryz.func65.trans (congrArg some (by kernel_rfl))
 f166:=Tryz.func60.trans (congrArg some (by kernel_rfl))
 f169:=Tryz.func63.trans (congrArg some (by kernel_rfl))
 f195:=Tryz.func85.trans (congrArg some (by kernel_rfl))
 f197:=Tryz.func67.trans (congrArg some (by kernel_rfl))
 f217:=Tryz.func107.trans (congrArg some (by kernel_rfl))
 f218:=Tryz.func86.trans (congrArg some (by kernel_rfl))
 f219:=Tryz.func88.trans (congrArg some (by kernel_rfl))
 f224:=Tryz.func109.trans (congrArg some (by kernel_rfl))
 f225:=Tryz.func108.trans (congrArg some (by kernel_rfl))
 f240:=Tryz.func84.trans (congrArg some (by kernel_rfl))
 f241:=Tryz.func87.trans (congrArg some (by kernel_rfl))
 f260:=Tryz.func89.trans (congrArg some (by kernel_rfl))
 f266:=Tryz.func125.trans (congrArg some (by kernel_rfl))
 f267:=Tryz.func110.trans (congrArg some (by kernel_rfl))
 f276:=Tryz.func105.trans (congrArg some (by kernel_rfl))
 f277:=Tryz.func106.trans (congrArg some (by kernel_rfl))
 f314:=Tryz.func126.trans (congrArg some (by kernel_rfl))
 t0:=Tryz.underlying0
 a0:=Tryz.isAgg0
 z0:=Tryz.sizeOf0
 v0:=Tryz.zeroValue0
 t3:=Tryz.underlying3
 a3:=Tryz.isAgg3
 z3:=Tryz.sizeOf3
 v3:=Tryz.zeroValue3
 t4:=Tryz.underlying4
 a4:=Tryz.isAgg4
 z4:=Tryz.sizeOf4
 v4:=Tryz.zeroValue4
 t5:=Tryz.underlying5
 a5:=Tryz.isAgg5
 z5:=Tryz.sizeOf5
 v5:=Tryz.zeroValue5
 t9:=Tryz.underlying9
 a9:=Tryz.isAgg9
 z9:=Tryz.sizeOf9
 v9:=Tryz.zeroValue9
 t20:=Tryz.underlying20
 a20:=Tryz.isAgg20
 z20:=Tryz.sizeOf20
 v20:=Tryz.zeroValue20
 t21:=Tryz.underlying21
 a21:=Tryz.isAgg21
 z21:=Tryz.sizeOf21
 v21:=Tryz.zeroValue21
 t37:=Tryz.underlying22
 a37:=Tryz.isAgg22
 z37:=Tryz.sizeOf22
 v37:=Tryz.zeroValue22
 t46:=Tryz.underlying116
 a46:=Tryz.isAgg116
 z46:=Tryz.sizeOf116
 v46:=Tryz.zeroValue116
 t51:=Tryz.underlying141
 a51:=Tryz.isAgg141
 z51:=Tryz.sizeOf141
 v51:=Tryz.zeroValue141
 t70:=Tryz.underlying81
 a70:=Tryz.isAgg81
 z70:=Tryz.sizeOf81
 v70:=Tryz.zeroValue81
 t72:=Tryz.underlying83
 a72:=Tryz.isAgg83
 z72:=Tryz.sizeOf83
 v72:=Tryz.zeroValue83
 t75:=Tryz.underlying86
 a75:=Tryz.isAgg86
 z75:=Tryz.sizeOf86
 v75:=Tryz.zeroValue86
 t76:=Tryz.underlying87
 a76:=Tryz.isAgg87
 z76:=Tryz.sizeOf87
 v76:=Tryz.zeroValue87
 t105:=Tryz.underlying93
 a105:=Tryz.isAgg93
 z105:=Tryz.sizeOf93
 v105:=Tryz.zeroValue93
 t119:=Tryz.underlying129
 a119:=Tryz.isAgg129
 z119:=Tryz.sizeOf129
 t127:=Tryz.underlying110
 a127:=Tryz.isAgg110
 z127:=Tryz.sizeOf110
 v127:=Tryz.zeroValue110
 t138:=Tryz.underlying131
 a138:=Tryz.isAgg131
 z138:=Tryz.sizeOf131
 v138:=Tryz.zeroValue131
 t139:=Tryz.underlying132
 a139:=Tryz.isAgg132
 z139:=Tryz.sizeOf132
 v139:=Tryz.zeroValue132
 t146:=Tryz.underlying142
 a146:=Tryz.isAgg142
 z146:=Tryz.sizeOf142
 v146:=Tryz.zeroValue142
 t164:=Tryz.underlying126
 a164:=Tryz.isAgg126
 z164:=Tryz.sizeOf126
 v164:=Tryz.zeroValue126
 g1:=by kernel_rfl
 g3:=by kernel_rfl
 g4:=by kernel_rfl }
theorem Tryz.Builder_Extra_154:Builder.Extra Tryz.prog Tryz.lays154_ren:={
 sizeBuilder:=by kernel_rfl
 liesBuilder:=by kernel_rfl
 t5:=Tryz.underlying5
 a5:=Tryz.isAgg5
 z5:=Tryz.sizeOf5
 v5:=Tryz.zeroValue5
 infoByte:=by kernel_rfl
 cellsByte:=by kernel_rfl
 sizeByte:=by kernel_rfl
 neB5:=by decide }
open Go.RowKit Go.Lib in
theorem Tryz.strings_Replace_some (s old new:ByteArray) (n:Int) (m:Int) (w:World) (hs:s.size<4294967281) (hm:w.cell? ⟨9,0,none⟩=some (.int .i64 m)) (h1:1<=old.size) (hne:old ≠ new) (hn0:n ≠ 0) (hc0:Lib.countB s old ≠ 0) (hlen:s.size+Lib.countB s old*new.size<=140737488355328) :
  Calls Tryz.prog 29 #[.string s,.string old,.string new,.int .i64 n] w fun e w' =>
   e=.returned (.string ⟨(Lib.replaceK old.data.toList new.data.toList (Lib.replaceNum s.data.toList old.data.toList n) s.data.toList).toArray⟩)/\Below w.heap.size w w':=Any.strings_Replace_some Tryz.lays154 Tryz.Builder_Extra_154 s old new n m w hs hm h1 hne hn0 hc0 hlen
end Go.Proofs
namespace Go.Proofs.YtbofcepdckpkkaaGreatDoor
namespace Laid
open Go.ChangeShapes Go.WideShapes Go.RowKit
theorem skip {P:Program} {W:World} {x:String × DataW Unit} {rest:List (String × DataW Unit)} {ps:List MemPlace} (h:DataW.LaidVars P W (x :: rest) ps):∃ q,DataW.LaidVars P W rest q:=by
 obtain ⟨n,d⟩:=x
 obtain ⟨_,_,_,_,_,q,_,_,_,_,h,_⟩:=h
 exact ⟨q,h⟩
theorem nums {P:Program} {W:World} {name:String} {k:IntKind} {zs:List Int} {rest:List (String × DataW Unit)} {ps:List MemPlace} {g:Nat} {t e:TypeId} {n:Nat}
  (hg:P.globalNamed name=some g) (hty:(P.globals[g]?).map (·.type)=some t) (ht:P.underlying t=some (.array n e)) (he:P.underlying e=some (.int k)) (hce:P.cellsOf e=1) (hct:P.cellsOf t=n)
  (h:DataW.LaidVars P W ((name,Lib.tabData k zs) :: rest) ps):∀ i,i<zs.length->W.cell? ⟨g,i,none⟩=some (.int k (zs.getD i 0)):=by
 obtain ⟨g',t',cs,fuel,p,q,hg',ht',hvar,hd,_,_⟩:=h
 obtain rfl:=Option.some.inj (hg.symm.trans hg')
 obtain rfl:=Option.some.inj (hty.symm.trans ht')
 have hT:Lib.TabIs P W name k zs:=by
  unfold Lib.TabIs
  rw [hvar,<- Lib.cells_of_tab ht he hce hct hd]
 exact fun i hi=>hT.cell hg i hi
theorem tab {P:Program} {W:World} {name:String} {k:IntKind} {zs:List Int} {rest:List (String × DataW Unit)} {ps:List MemPlace} {g:Nat} {t e:TypeId} {n:Nat}
  (hg:P.globalNamed name=some g) (hty:(P.globals[g]?).map (·.type)=some t) (ht:P.underlying t=some (.array n e)) (he:P.underlying e=some (.int k)) (hce:P.cellsOf e=1) (hct:P.cellsOf t=n)
  (h:DataW.LaidVars P W ((name,Lib.tabData k zs) :: rest) ps):Lib.TabIs P W name k zs:=by
 obtain ⟨g',t',cs,fuel,p,q,hg',ht',hvar,hd,_,_⟩:=h
 obtain rfl:=Option.some.inj (hg.symm.trans hg')
 obtain rfl:=Option.some.inj (hty.symm.trans ht')
 unfold Lib.TabIs
 rw [hvar,<- Lib.cells_of_tab ht he hce hct hd]
def txtData (l:List (List UInt8)):DataW Unit:=.agg (l.map fun s=>.lit (.string s))
theorem txts {P:Program} {W:World} {name:String} {l:List (List UInt8)} {rest:List (String × DataW Unit)} {ps:List MemPlace} {g:Nat} {t e:TypeId} {n:Nat}
  (hg:P.globalNamed name=some g) (hty:(P.globals[g]?).map (·.type)=some t) (ht:P.underlying t=some (.array n e)) (he:P.underlying e=some .string) (hce:P.cellsOf e=1) (hct:P.cellsOf t=n)
  (h:DataW.LaidVars P W ((name,txtData l) :: rest) ps):∀ i,i<l.length->W.cell? ⟨g,i,none⟩=some (.string ⟨(l.getD i []).toArray⟩):=by
 obtain ⟨g',t',cs,fuel,p,q,hg',ht',hvar,hd,_,_⟩:=h
 obtain rfl:=Option.some.inj (hg.symm.trans hg')
 obtain rfl:=Option.some.inj (hty.symm.trans ht')
 intro i hi
 rw [World.var?_cell hg hvar i]
 cases fuel with
 | zero=>simp [DataW.trod] at hd
 | succ fuel =>
  simp only [DataW.trod,ht,hce,hct,Nat.mul_one] at hd
  split at hd
  ·obtain ⟨xs,hm,hx⟩:=Option.map_eq_some_iff.1 hd
   have hxs:xs.map (·.1)=l.map fun s=>(DataW.lit (.string s):DataW Unit):=by
    have:=congrArg Prod.fst hx
    simpa [txtData] using this
   have hxl:xs.length=n:=by simpa using Lib.mapM_length hm
   have hln:l.length=n:=by
    have:=congrArg List.length hxs
    simp at this
    omega
   have hi':i<n:=by omega
   obtain ⟨b,hb,hf⟩:=Lib.mapM_at hm i i (by simp [hi'])
   obtain ⟨s,hc,rfl,_⟩:=DataW.trod_string he hf
   have h1:cs.toList[i]? = some (.string s):=by
    have:=congrArg (·[0]?) hc
    simpa [List.getElem?_take,List.getElem?_drop] using this
   have h2:(xs.map (·.1))[i]? = some (DataW.lit (.string s.data.toList):DataW Unit):=by simp [hb]
   rw [hxs] at h2
   simp only [List.getElem?_map,Option.map_eq_some_iff,DataW.lit.injEq,Lit.string.injEq] at h2
   obtain ⟨z,hz,hzs⟩:=h2
   rw [<- Array.getElem?_toList,h1,List.getD_eq_getElem?_getD,hz]
   simp [hzs]
  ·cases hd
theorem vars_len {H:Type} {enc:TypeId × Value->H} {P:Program} {w:World} {sp:Nat->Bool}:∀ {ns:List String} {gs:List (DataW H)} {ps:List MemPlace},DataW.TrodVars enc P w sp ns gs ps->gs.length=ns.length
 | [],[],_,_=>rfl
 | [],_ :: _,_,h=>h.elim
 | _ :: _,[],_,h=>h.elim
 | _ :: ns,_ :: gs,_,h=>by
  obtain ⟨_,_,_,_,_,q,_,_,_,_,h,_⟩:=h
  simp only [List.length_cons]
  rw [vars_len h]
end Laid
namespace Names
def letB (c:Int):Bool:=decide ((97<=c/\c<=122) \/ c=95 \/ c=46)
def decB (c:Int):Bool:=decide (48<=c/\c<=57)
def nbB (c:Int):Bool:=decide (((97<=c/\c<=122) \/ c=95 \/ c=46) \/ (48<=c/\c<=57))
theorem ret_bool {a b:Bool} (h:a=b):Ending.returned (.bool a)=.returned (.bool b):=by rw [h]
theorem letter_any (c:Int) (w:World) :
  Calls prog 137 #[.int .u8 c] w fun e w'=>e=.returned (.bool (letB c))/\w'=w:=by
 go_enter func137,ntmps137
 go_wp2
 all_goals go_ret
 all_goals exact ⟨ret_bool (by rw [Bool.eq_iff_iff];simp [letB];try omega),rfl⟩
theorem decimal_any (c:Int) (w:World) :
  Calls prog 145 #[.int .u8 c] w fun e w'=>e=.returned (.bool (decB c))/\w'=w:=by
 go_enter func145,ntmps145
 go_wp2
 all_goals go_ret
 all_goals exact ⟨ret_bool (by rw [Bool.eq_iff_iff];simp [decB];try omega),rfl⟩
theorem nameByte_any (c:Int) (w:World) :
  Calls prog 141 #[.int .u8 c] w fun e w'=>e=.returned (.bool (nbB c))/\w'=w:=by
 go_enter func141,ntmps141
 go_wp2
 all_goals go_ret
 all_goals exact ⟨ret_bool (by rw [Bool.eq_iff_iff];simp [nbB];try omega),rfl⟩
def upTo (s:ByteArray) (k:Nat):Prop:=∀ j (h:j<s.size),j<k->nbB (s[j].toNat:Int)=true
def nameB (s:ByteArray):Bool:=decide (1<=s.size/\s.size<=16/\(∀ h:0<s.size,decB (s[0].toNat:Int)=false)/\∀ j (h:j<s.size),nbB (s[j].toNat:Int)=true)
theorem name_no {s:ByteArray} (h:¬ (1<=s.size/\s.size<=16/\(∀ h:0<s.size,decB (s[0].toNat:Int)=false)/\∀ j (h:j<s.size),nbB (s[j].toNat:Int)=true)):nameB s=false:=decide_eq_false h
theorem name_yes {s:ByteArray} (h:1<=s.size/\s.size<=16/\(∀ h:0<s.size,decB (s[0].toNat:Int)=false)/\∀ j (h:j<s.size),nbB (s[j].toNat:Int)=true):nameB s=true:=decide_eq_true h
theorem empty_yes {s:ByteArray} (h:s.size=0):s.toList.isEmpty=true:=by
 rw [ByteArray.toList_eq,List.isEmpty_iff_length_eq_zero,Array.length_toList];exact h
theorem empty_no {s:ByteArray} (h:¬ s.size=0):s.toList.isEmpty=false:=by
 rw [ByteArray.toList_eq];cases e:s.data.toList with
 | nil=>exact absurd (by have:=congrArg List.length e;rw [Array.length_toList] at this;exact this) h
 | cons _ _=>rfl
theorem let_dec {c:Int} (h:nbB c=true):letB c = !decB c:=by
 unfold nbB at h;have h:=of_decide_eq_true h;unfold letB decB
 by_cases d:48<=c/\c<=57
 ·rw [decide_eq_true d,decide_eq_false (by omega)];rfl
 ·rw [decide_eq_false d,decide_eq_true (by omega)];rfl
theorem let_nb {c:Int} (h:letB c=true):nbB c=true/\decB c=false:=by
 unfold letB at h;have h:=of_decide_eq_true h;exact ⟨decide_eq_true (by omega),decide_eq_false (by omega)⟩
theorem implName_any (s:ByteArray) (w:World) (hs:s.size<=maxLen) :
  Calls prog 143 #[.string s] w fun e w'=>e=.returned (.bool (nameB s))/\w'=w:=by
 unfold maxLen at hs
 by_cases h0:s.size=0
 ·have hn:nameB s=false:=name_no (by omega)
  have he:=empty_yes h0
  go_enter func143,ntmps143
  go_wp2
  go_ret
  first|exact ⟨rfl,rfl⟩|exact ⟨ret_bool hn.symm,rfl⟩
 have he:=empty_no h0
 have hp:0<s.size:=by omega
 by_cases h16:16<s.size
 ·have hn:nameB s=false:=name_no (by omega)
  go_enter func143,ntmps143
  go_wp2
  go_ret
  first|exact ⟨rfl,rfl⟩|exact ⟨ret_bool hn.symm,rfl⟩
 by_cases hd:decB (s[0].toNat:Int)=true
 ·have hn:nameB s=false:=name_no (fun h=>by have:=h.2.2.1 hp;rw [hd] at this;cases this)
  go_enter func143,ntmps143
  go_wp2_with (go_at_call 145;refine (decimal_any _ _).mono ?_;rintro e w' ⟨rfl,rfl⟩)
  go_ret
  first|exact ⟨rfl,rfl⟩|exact ⟨ret_bool hn.symm,rfl⟩
 have hd':decB (s[0].toNat:Int)=false:=by simpa using hd
 clear hd
 go_enter func143,ntmps143
 go_wp2_with (go_at_call 145;refine (decimal_any _ _).mono ?_;rintro e w' ⟨rfl,rfl⟩)
 go_loop [3] (fun i=>∃ k:Nat,k<=s.size/\i=.int .i64 k/\upTo s k) (fun i=>s.size-(intOf i).toNat)
 case atStart=>exact ⟨0,Nat.zero_le _,rfl,fun j _ h=>absurd h (Nat.not_lt_zero _)⟩
 case round =>
  obtain ⟨k,hk,rfl,hu⟩:=hrel
  by_cases hlt:k<s.size
  ·by_cases hc:nbB (s[k].toNat:Int)=true
   ·go_wp2_with (go_at_call 141;refine (nameByte_any _ _).mono ?_;rintro e w' ⟨rfl,rfl⟩)
    go_round
    case rel =>
     refine ⟨k+1,by omega,by go_num,fun j hj h=>?_⟩
     by_cases e:j=k
     ·subst e;exact hc
     ·exact hu j hj (by omega)
    case measure=>simp [intOf];omega
   ·have hn:nameB s=false:=name_no (fun h=>hc (h.2.2.2 k hlt))
    have hc':nbB (s[k].toNat:Int)=false:=by simpa using hc
    clear hc
    go_wp2_with (go_at_call 141;refine (nameByte_any _ _).mono ?_;rintro e w' ⟨rfl,rfl⟩)
    go_ret
    first|exact ⟨rfl,rfl⟩|exact ⟨ret_bool hn.symm,rfl⟩
  ·have hn:nameB s=true:=name_yes ⟨by omega,by omega,fun _=>hd',fun j hj=>hu j hj (by omega)⟩
   go_wp2
   go_ret
   first|exact ⟨rfl,rfl⟩|exact ⟨ret_bool hn.symm,rfl⟩
theorem specName_any (s:ByteArray) (w:World) (hs:s.size<=maxLen) :
  Calls prog 123 #[.string s] w fun e w'=>e=.returned (.bool (nameB s))/\w'=w:=by
 unfold maxLen at hs
 by_cases h0:s.size<1
 ·have hn:nameB s=false:=name_no (by omega)
  go_enter func123,ntmps123
  go_wp2
  go_ret
  first|exact ⟨rfl,rfl⟩|exact ⟨ret_bool hn.symm,rfl⟩
 have hp:0<s.size:=by omega
 by_cases h16:16<s.size
 ·have hn:nameB s=false:=name_no (by omega)
  go_enter func123,ntmps123
  go_wp2
  go_ret
  first|exact ⟨rfl,rfl⟩|exact ⟨ret_bool hn.symm,rfl⟩
 by_cases hd:letB (s[0].toNat:Int)=true
 ·go_enter func123,ntmps123
  go_wp2_with (go_at_call 137;refine (letter_any _ _).mono ?_;rintro e w' ⟨rfl,rfl⟩)
  go_loop [3] (fun i=>∃ k:Nat,k<=s.size/\i=.int .i64 k/\upTo s k) (fun i=>s.size-(intOf i).toNat)
  case atStart=>exact ⟨0,Nat.zero_le _,rfl,fun j _ h=>absurd h (Nat.not_lt_zero _)⟩
  case round =>
   obtain ⟨k,hk,rfl,hu⟩:=hrel
   by_cases hlt:k<s.size
   ·by_cases hc:nbB (s[k].toNat:Int)=true
    ·have hcc:letB (s[k].toNat:Int)=true \/ (letB (s[k].toNat:Int)=false/\48<=(s[k].toNat:Int)/\(s[k].toNat:Int)<=57):=by
      by_cases l:letB (s[k].toNat:Int)=true
      ·exact .inl l
      ·refine .inr ⟨by simpa using l,?_⟩
       have:=let_dec hc
       rw [show letB (s[k].toNat:Int)=false by simpa using l] at this
       exact of_decide_eq_true (show decB (s[k].toNat:Int)=true by simpa using this.symm)
     rcases hcc with l|⟨l,l1,l2⟩
     all_goals
      go_wp2_with (go_at_call 137;refine (letter_any _ _).mono ?_;rintro e w' ⟨rfl,rfl⟩)
      go_round
      case rel =>
       refine ⟨k+1,by omega,by go_num,fun j hj h=>?_⟩
       by_cases e:j=k
       ·subst e;exact hc
       ·exact hu j hj (by omega)
      case measure=>simp [intOf];omega
    ·have hn:nameB s=false:=name_no (fun h=>hc (h.2.2.2 k hlt))
     have l:letB (s[k].toNat:Int)=false:=by
      by_cases l:letB (s[k].toNat:Int)=true
      ·exact absurd (let_nb l).1 hc
      ·simpa using l
     have hcc:(s[k].toNat:Int)<48 \/ 48<=(s[k].toNat:Int)/\57<(s[k].toNat:Int):=by
      have:¬ (48<=(s[k].toNat:Int)/\(s[k].toNat:Int)<=57):=fun d=>hc (decide_eq_true (.inr d))
      omega
     clear hc
     rcases hcc with d|⟨d1,d2⟩
     ·go_wp2_with (go_at_call 137;refine (letter_any _ _).mono ?_;rintro e w' ⟨rfl,rfl⟩)
      go_ret
      first|exact ⟨rfl,rfl⟩|exact ⟨ret_bool hn.symm,rfl⟩
     ·have d3:decide ((s[k].toNat:Int)<=57)=false:=decide_eq_false (by omega)
      go_wp2_with (go_at_call 137;refine (letter_any _ _).mono ?_;rintro e w' ⟨rfl,rfl⟩)
      go_ret
      first|exact ⟨rfl,rfl⟩|exact ⟨ret_bool hn.symm,rfl⟩
   ·have hn:nameB s=true:=name_yes ⟨by omega,by omega,fun _=>(let_nb hd).2,fun j hj=>hu j hj (by omega)⟩
    go_wp2
    go_ret
    first|exact ⟨rfl,rfl⟩|exact ⟨ret_bool hn.symm,rfl⟩
 ·have hd':letB (s[0].toNat:Int)=false:=by simpa using hd
  have hn:nameB s=false:=name_no (fun h=>by
   have a:=h.2.2.1 hp
   have b:=let_dec (h.2.2.2 0 hp)
   rw [a,hd'] at b;cases b)
  clear hd
  go_enter func123,ntmps123
  go_wp2_with (go_at_call 137;refine (letter_any _ _).mono ?_;rintro e w' ⟨rfl,rfl⟩)
  go_ret
  first|exact ⟨rfl,rfl⟩|exact ⟨ret_bool hn.symm,rfl⟩
end Names
namespace Signed
def inB (n low high:Int):Bool:=decide (low<=n/\n<=high)
def sgn (b:Int):Int:=if b<0 \/ 255<b then 0 else if 127<b then b-256 else b
theorem ret_int {k:IntKind} {a b:Int} (h:a=b):Ending.returned (.int k a)=.returned (.int k b):=by rw [h]
theorem ret_bool {a b:Bool} (h:a=b):Ending.returned (.bool a)=.returned (.bool b):=by rw [h]
theorem isByte_any (n:Int) (w:World) :
  Calls prog 53 #[.int .i64 n] w fun e w'=>e=.returned (.bool (inB n 0 255))/\w'=w:=by
 go_enter func53,ntmps53
 go_wp2
 all_goals go_ret
 all_goals exact ⟨ret_bool (by rw [Bool.eq_iff_iff];simp [inB];try omega),rfl⟩
theorem l1In_any (n low high:Int) (w:World) :
  Calls prog 33 #[.int .i64 n,.int .i64 low,.int .i64 high] w fun e w'=>e=.returned (.bool (inB n low high))/\w'=w:=by
 go_enter func33,ntmps33
 go_wp2
 all_goals go_ret
 all_goals exact ⟨ret_bool (by rw [Bool.eq_iff_iff];simp [inB];try omega),rfl⟩
theorem implSigned_any (b:Int) (w:World) :
  Calls prog 70 #[.int .i64 b] w fun e w'=>e=.returned (.int .i64 (sgn b))/\w'=w:=by
 have hb:(b<0 \/ 255<b) \/ (0<=b/\b<=127) \/ (127<b/\b<=255):=by omega
 rcases hb with h|⟨h,h'⟩|⟨h,h'⟩
 ·have hi:inB b 0 255=false:=decide_eq_false (by omega)
  have hs:sgn b=0:=by unfold sgn;rw [if_pos h]
  go_enter func70,ntmps70
  go_wp2_with (go_at_call 53;refine (isByte_any _ _).mono ?_;rintro e w' ⟨rfl,rfl⟩)
  go_ret
  first|exact ⟨rfl,rfl⟩|exact ⟨ret_int hs.symm,rfl⟩
 ·have hi:inB b 0 255=true:=decide_eq_true (by omega)
  have hs:sgn b=b:=by unfold sgn;rw [if_neg (by omega),if_neg (by omega)]
  go_enter func70,ntmps70
  go_wp2_with (go_at_call 53;refine (isByte_any _ _).mono ?_;rintro e w' ⟨rfl,rfl⟩)
  go_ret
  first|exact ⟨rfl,rfl⟩|exact ⟨ret_int hs.symm,rfl⟩
 ·have hi:inB b 0 255=true:=decide_eq_true (by omega)
  have hs:sgn b=b-256:=by unfold sgn;rw [if_neg (by omega),if_pos h]
  go_enter func70,ntmps70
  go_wp2_with (go_at_call 53;refine (isByte_any _ _).mono ?_;rintro e w' ⟨rfl,rfl⟩)
  go_ret
  first|exact ⟨rfl,rfl⟩|exact ⟨ret_int hs.symm,rfl⟩
theorem specSigned_any (b:Int) (w:World) :
  Calls prog 37 #[.int .i64 b] w fun e w'=>e=.returned (.int .i64 (sgn b))/\w'=w:=by
 have hb:(b<0 \/ 255<b) \/ (0<=b/\b<=127) \/ (127<b/\b<=255):=by omega
 rcases hb with h|⟨h,h'⟩|⟨h,h'⟩
 ·have hi:inB b 0 255=false:=decide_eq_false (by omega)
  have hs:sgn b=0:=by unfold sgn;rw [if_pos h]
  go_enter func37,ntmps37
  go_wp2_with (go_at_call 33;refine (l1In_any _ _ _ _).mono ?_;rintro e w' ⟨rfl,rfl⟩)
  go_ret
  first|exact ⟨rfl,rfl⟩|exact ⟨ret_int hs.symm,rfl⟩
 ·have hi:inB b 0 255=true:=decide_eq_true (by omega)
  have hs:sgn b=b:=by unfold sgn;rw [if_neg (by omega),if_neg (by omega)]
  go_enter func37,ntmps37
  go_wp2_with (go_at_call 33;refine (l1In_any _ _ _ _).mono ?_;rintro e w' ⟨rfl,rfl⟩)
  go_ret
  first|exact ⟨rfl,rfl⟩|exact ⟨ret_int hs.symm,rfl⟩
 ·have hi:inB b 0 255=true:=decide_eq_true (by omega)
  have hs:sgn b=b-256:=by unfold sgn;rw [if_neg (by omega),if_pos h]
  go_enter func37,ntmps37
  go_wp2_with (go_at_call 33;refine (l1In_any _ _ _ _).mono ?_;rintro e w' ⟨rfl,rfl⟩)
  go_ret
  first|exact ⟨rfl,rfl⟩|exact ⟨ret_int hs.symm,rfl⟩
end Signed
end Go.Proofs.YtbofcepdckpkkaaGreatDoor
