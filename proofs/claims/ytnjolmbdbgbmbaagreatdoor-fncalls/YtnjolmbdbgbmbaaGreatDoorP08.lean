/-
  Contracts and facts of ours, joined: Shelf, HolI, Stpt, Stpi, Stpj, Stpr.
-/
import Derived.Shelf.Strings.Search1
import Derived.Shelf.Strings.Search2
import Derived.Shelf.Strings.Search3
import Derived.Shelf.LaysM
import Derived.Shelf.Strings.Shaped
import Derived.Test.YtnjolmbdbgbmbaaGreatDoorProg
import Derived.Test.YtnjolmbdbgbmbaaGreatDoorP07
import Derived.Lib.IndexMore
import Derived.Deep.QuietTactic
import Derived.Lib.QuietBelow
import Derived.BigQuiet
import Derived.Laws.Pointers
import Derived.Test.YtnjolmbdbgbmbaaGreatDoorP00
set_option linter.unusedVariables false
set_option linter.unusedSimpArgs false
set_option maxRecDepth 20000
set_option maxHeartbeats 8000000
open Go.ChangeShapes Go.WideShapes Go.ChangeAt Go.RowKit
open Go.Proofs.Tryz
namespace Go.Proofs
open Go.Shelf
def Tryz.lays144_ren:Go.Shelf.Ren:=⟨fun|144=>138|143=>152|219=>217|217=>234|225=>235|224=>236|267=>237|266=>245|314=>246|n=>n,fun|9=>9|4=>4|3=>3|5=>5|46=>147|146=>203|51=>202|n=>n,fun|1=>2|n=>n⟩
theorem Tryz.lays144:Go.Proofs.Lays.n144 Tryz.prog Tryz.lays144_ren:={
 mixed:=by kernel_rfl
 f143:=Tryz.func152.trans (congrArg some (by kernel_rfl))
 f144:=Tryz.func138.trans (congrArg some (by kernel_rfl))
 f217:=Tryz.func234.trans (congrArg some (by kernel_rfl))
 f219:=Tryz.func217.trans (congrArg some (by kernel_rfl))
 f224:=Tryz.func236.trans (congrArg some (by kernel_rfl))
 f225:=Tryz.func235.trans (congrArg some (by kernel_rfl))
 f266:=Tryz.func245.trans (congrArg some (by kernel_rfl))
 f267:=Tryz.func237.trans (congrArg some (by kernel_rfl))
 f314:=Tryz.func246.trans (congrArg some (by kernel_rfl))
 t3:=Tryz.underlying3
 a3:=Tryz.isAgg3
 z3:=Tryz.sizeOf3
 v3:=Tryz.zeroValue3
 t4:=Tryz.underlying4
 a4:=Tryz.isAgg4
 z4:=Tryz.sizeOf4
 v4:=Tryz.zeroValue4
 t5:=Tryz.underlying5
 a5:=Tryz.isAgg5
 z5:=Tryz.sizeOf5
 v5:=Tryz.zeroValue5
 t9:=Tryz.underlying9
 a9:=Tryz.isAgg9
 z9:=Tryz.sizeOf9
 v9:=Tryz.zeroValue9
 t46:=Tryz.underlying147
 a46:=Tryz.isAgg147
 z46:=Tryz.sizeOf147
 v46:=Tryz.zeroValue147
 t51:=Tryz.underlying202
 a51:=Tryz.isAgg202
 z51:=Tryz.sizeOf202
 v51:=Tryz.zeroValue202
 t146:=Tryz.underlying203
 a146:=Tryz.isAgg203
 z146:=Tryz.sizeOf203
 v146:=Tryz.zeroValue203
 g1:=by kernel_rfl }
open Go.RowKit Go.Lib in
theorem Tryz.strings_Contains_one (s:ByteArray) (c:UInt8) (w:World) :
  Calls Tryz.prog 138 #[.string s,.string ⟨#[c]⟩] w fun e w'=>e=.returned (.bool (decide (0<=Lib.indexByte s.data.toList c)))/\w'=w:=Any.strings_Contains_one Tryz.lays144 s c w
open Go.RowKit Go.Lib in
theorem Tryz.strings_Contains (s sub:ByteArray) (m:Int) (w:World) (hs:s.size<4294967281) (hm:w.cell? ⟨2,0,none⟩=some (.int .i64 m)) :
  Calls Tryz.prog 138 #[.string s,.string sub] w fun e w'=>e=.returned (.bool (Lib.contains s.data.toList sub.data.toList))/\w'=w:=Any.strings_Contains Tryz.lays144 s sub m w hs hm
def Tryz.laysM144_ren:Go.Shelf.Ren:=⟨fun|144=>138|143=>152|219=>217|217=>234|225=>235|224=>236|267=>237|266=>245|314=>246|n=>n,fun|9=>9|4=>4|3=>3|5=>5|46=>147|146=>203|51=>202|n=>n,fun|1=>2|n=>n⟩
theorem Tryz.laysM144:Go.Proofs.LaysM.n144 Tryz.prog Tryz.laysM144_ren:={
 mixed:=by kernel_rfl
 f143:=Tryz.func152.trans (congrArg some (by kernel_rfl))
 f144:=Tryz.func138.trans (congrArg some (by kernel_rfl))
 f217:=Tryz.func234.trans (congrArg some (by kernel_rfl))
 f219:=Tryz.func217.trans (congrArg some (by kernel_rfl))
 f224:=Tryz.func236.trans (congrArg some (by kernel_rfl))
 f225:=Tryz.func235.trans (congrArg some (by kernel_rfl))
 f266:=Tryz.func245.trans (congrArg some (by kernel_rfl))
 f267:=Tryz.func237.trans (congrArg some (by kernel_rfl))
 f314:=Tryz.func246.trans (congrArg some (by kernel_rfl))
 t3:=Tryz.underlying3
 a3:=Tryz.isAgg3
 z3:=Tryz.sizeOf3
 v3:=Tryz.zeroValue3
 t4:=Tryz.underlying4
 a4:=Tryz.isAgg4
 z4:=Tryz.sizeOf4
 v4:=Tryz.zeroValue4
 t5:=Tryz.underlying5
 a5:=Tryz.isAgg5
 z5:=Tryz.sizeOf5
 v5:=Tryz.zeroValue5
 t9:=Tryz.underlying9
 a9:=Tryz.isAgg9
 z9:=Tryz.sizeOf9
 v9:=Tryz.zeroValue9
 t46:=Tryz.underlying147
 a46:=Tryz.isAgg147
 z46:=Tryz.sizeOf147
 v46:=Tryz.zeroValue147
 t51:=Tryz.underlying202
 a51:=Tryz.isAgg202
 z51:=Tryz.sizeOf202
 v51:=Tryz.zeroValue202
 t146:=Tryz.underlying203
 a146:=Tryz.isAgg203
 z146:=Tryz.sizeOf203
 v146:=Tryz.zeroValue203
 g1:=by kernel_rfl
 i3:=by kernel_rfl
 i4:=by kernel_rfl
 i5:=by kernel_rfl
 i9:=by kernel_rfl
 i46:=by kernel_rfl
 i51:=by kernel_rfl
 i146:=by kernel_rfl
 m1:=by kernel_rfl
 s1_3:=fun w h=>Go.Proofs.cell_of_shapedOpen_int (zero:=#[.int .i64 0]) (t:=3) h (of_decide_eq_true (by kernel_rfl)) (by kernel_rfl) rfl (by kernel_rfl) (by kernel_rfl) Tryz.underlying3 }
end Go.Proofs
namespace Go.Proofs.YtnjolmbdbgbmbaaGreatDoor.HolI
open HoleX (n8 n16 e8)
def MaxL (w:World):Prop:=∃ m:Int,w.cell? ⟨2,0,none⟩=some (.int .i64 m)
theorem cell_lt {w:World} {p:Addr} {v:Value} (h:w.cell? p=some v):p.block<w.heap.size:=by
 by_cases hlt:p.block<w.heap.size
 ·exact hlt
 ·exfalso
  simp [World.cell?,Array.getElem?_eq_none (Nat.not_lt.mp hlt)] at h
theorem MaxL.below {w w':World} (h:MaxL w) (b:Below w.heap.size w w'):MaxL w':=by
 obtain ⟨m,hm⟩:=h
 exact ⟨m,by rw [b.cell (cell_lt hm)];exact hm⟩
theorem box {w w':World} {vs:Array Value} {T:TypeId} (h:Below (w.alloc (.cells vs T)).heap.size (w.alloc (.cells vs T)) w') (i:Nat) (v:Value) (hv:vs[i]? = some v):w'.cell? ⟨w.heap.size,i,none⟩=some v:=by
 rw [h.cell (p:=⟨w.heap.size,i,none⟩) (by simp),World.cell?_alloc_new]
 exact hv
theorem unbox {w w':World} {o:Obj} (h:Below (w.alloc o).heap.size (w.alloc o) w'):Below w.heap.size w w':=(zAl _ _).trans (h.mono (by simp))
theorem after {a w w':World} (h:Below a.heap.size a w) (k:Below w.heap.size w w'):Below a.heap.size a w':=h.trans (k.mono h.size)
def holeI (s:ByteArray):ByteArray:=if Lib.contains s.data.toList n8.data.toList=true then n8 else if Lib.contains s.data.toList n16.data.toList=true then n16 else if Lib.contains s.data.toList e8.data.toList=true then e8 else ⟨#[]⟩
theorem holeI_cases (s:ByteArray):holeI s=⟨#[110,56]⟩ \/ holeI s=⟨#[110,49,54]⟩ \/ holeI s=⟨#[101,56]⟩ \/ holeI s=⟨#[]⟩:=by
 unfold holeI
 split
 ·exact .inl rfl
 split
 ·exact .inr (.inl rfl)
 split
 ·exact .inr (.inr (.inl rfl))
 ·exact .inr (.inr (.inr rfl))
def No (s:ByteArray) (i:Nat):Prop:=(1<=i->Lib.contains s.data.toList n8.data.toList=false)/\(2<=i->Lib.contains s.data.toList n16.data.toList=false)/\(3<=i->Lib.contains s.data.toList e8.data.toList=false)
theorem arr_0 (w:World):(Instr.index 165 (.agg #[.string ⟨#[110,56]⟩,.string ⟨#[110,49,54]⟩,.string ⟨#[101,56]⟩]) (.int .i64 0)).run prog w=.ok (.string ⟨#[110,56]⟩) w:=by kernel_rfl
theorem arr_1 (w:World):(Instr.index 165 (.agg #[.string ⟨#[110,56]⟩,.string ⟨#[110,49,54]⟩,.string ⟨#[101,56]⟩]) (.int .i64 1)).run prog w=.ok (.string ⟨#[110,49,54]⟩) w:=by kernel_rfl
theorem arr_2 (w:World):(Instr.index 165 (.agg #[.string ⟨#[110,56]⟩,.string ⟨#[110,49,54]⟩,.string ⟨#[101,56]⟩]) (.int .i64 2)).run prog w=.ok (.string ⟨#[101,56]⟩) w:=by kernel_rfl
theorem holeOf_any (s:ByteArray) (w:World) (hs:s.size<=1000) (hm:MaxL w) :
  Calls prog 112 #[.string s] w fun e w'=>e=.returned (.string (holeI s))/\Below w.heap.size w w':=by
 obtain ⟨m,hm⟩:=hm
 go_enter func112,ntmps112
 have x0:=arr_0
 have x1:=arr_1
 have x2:=arr_2
 have HB:Hid (s.size<4294967281):=by show s.size<4294967281;omega
 clear hs
 go_wp2_with fail
 go_loopw [6] (fun i wr=>((i=.int .i64 0) \/ (i=.int .i64 1/\No s 1) \/ (i=.int .i64 2/\No s 2) \/ (i=.int .i64 3/\No s 3))/\wr=w) (fun i _=>3-(intOf i).toNat)
 case atStart=>exact ⟨.inl rfl,rfl⟩
 case round =>
  obtain ⟨hi,rfl⟩:=hrel
  rcases hi with rfl|⟨rfl,ha⟩|⟨rfl,ha⟩|⟨rfl,ha⟩
  ·cases hc:Lib.contains s.data.toList n8.data.toList
   ·have HC:Hid (Lib.contains s.data.toList n8.data.toList=false):=hc
    have c:=fun w hm=>Tryz.strings_Contains s ⟨#[110,56]⟩ m w HB.out hm
    rw [show Lib.contains s.data.toList (⟨#[110,56]⟩ : ByteArray).data.toList=false from hc] at c
    clear hc
    go_wp2_with (go_at_call 138;refine (c _ hm).mono ?_;rintro e w' ⟨rfl,hw⟩;subst hw)
    go_roundw
    case rel=>exact ⟨.inr (.inl ⟨by go_num,fun _=>HC.out,fun h=>by omega,fun h=>by omega⟩),trivial⟩
    case measure=>simp [intOf]
   ·have c:=fun w hm=>Tryz.strings_Contains s ⟨#[110,56]⟩ m w HB.out hm
    rw [show Lib.contains s.data.toList (⟨#[110,56]⟩ : ByteArray).data.toList=true from hc] at c
    have HR:Hid (Ending.returned (.string ⟨#[110,56]⟩)=.returned (.string (holeI s))):=by show _=_;unfold holeI;rw [if_pos hc];rfl
    clear hc
    go_wp2_with (go_at_call 138;refine (c _ hm).mono ?_;rintro e w' ⟨rfl,hw⟩;subst hw)
    go_ret
    exact ⟨HR.out,Below.refl _ _⟩
  ·have HA:Hid (No s 1):=ha
   clear ha
   cases hc:Lib.contains s.data.toList n16.data.toList
   ·have HC:Hid (Lib.contains s.data.toList n16.data.toList=false):=hc
    have c:=fun w hm=>Tryz.strings_Contains s ⟨#[110,49,54]⟩ m w HB.out hm
    rw [show Lib.contains s.data.toList (⟨#[110,49,54]⟩ : ByteArray).data.toList=false from hc] at c
    clear hc
    go_wp2_with (go_at_call 138;refine (c _ hm).mono ?_;rintro e w' ⟨rfl,hw⟩;subst hw)
    go_roundw
    case rel=>exact ⟨.inr (.inr (.inl ⟨by go_num,fun _=>HA.out.1 (by omega),fun _=>HC.out,fun h=>by omega⟩)),trivial⟩
    case measure=>simp [intOf]
   ·have c:=fun w hm=>Tryz.strings_Contains s ⟨#[110,49,54]⟩ m w HB.out hm
    rw [show Lib.contains s.data.toList (⟨#[110,49,54]⟩ : ByteArray).data.toList=true from hc] at c
    have HR:Hid (Ending.returned (.string ⟨#[110,49,54]⟩)=.returned (.string (holeI s))):=by show _=_;unfold holeI;rw [if_neg (by rw [HA.out.1 (by omega)];decide),if_pos hc];rfl
    clear hc
    go_wp2_with (go_at_call 138;refine (c _ hm).mono ?_;rintro e w' ⟨rfl,hw⟩;subst hw)
    go_ret
    exact ⟨HR.out,Below.refl _ _⟩
  ·have HA:Hid (No s 2):=ha
   clear ha
   cases hc:Lib.contains s.data.toList e8.data.toList
   ·have HC:Hid (Lib.contains s.data.toList e8.data.toList=false):=hc
    have c:=fun w hm=>Tryz.strings_Contains s ⟨#[101,56]⟩ m w HB.out hm
    rw [show Lib.contains s.data.toList (⟨#[101,56]⟩ : ByteArray).data.toList=false from hc] at c
    clear hc
    go_wp2_with (go_at_call 138;refine (c _ hm).mono ?_;rintro e w' ⟨rfl,hw⟩;subst hw)
    go_roundw
    case rel=>exact ⟨.inr (.inr (.inr ⟨by go_num,fun _=>HA.out.1 (by omega),fun _=>HA.out.2.1 (by omega),fun _=>HC.out⟩)),trivial⟩
    case measure=>simp [intOf]
   ·have c:=fun w hm=>Tryz.strings_Contains s ⟨#[101,56]⟩ m w HB.out hm
    rw [show Lib.contains s.data.toList (⟨#[101,56]⟩ : ByteArray).data.toList=true from hc] at c
    have HR:Hid (Ending.returned (.string ⟨#[101,56]⟩)=.returned (.string (holeI s))):=by show _=_;unfold holeI;rw [if_neg (by rw [HA.out.1 (by omega)];decide),if_neg (by rw [HA.out.2.1 (by omega)];decide),if_pos hc];rfl
    clear hc
    go_wp2_with (go_at_call 138;refine (c _ hm).mono ?_;rintro e w' ⟨rfl,hw⟩;subst hw)
    go_ret
    exact ⟨HR.out,Below.refl _ _⟩
  ·have HR:Hid (Ending.returned (.string ⟨#[]⟩)=.returned (.string (holeI s))):=by
    show _=_;unfold holeI;rw [if_neg (by rw [ha.1 (by omega)];decide),if_neg (by rw [ha.2.1 (by omega)];decide),if_neg (by rw [ha.2.2 (by omega)];decide)]
   clear ha
   go_wp2
   go_ret
   exact ⟨HR.out,Below.refl _ _⟩
end Go.Proofs.YtnjolmbdbgbmbaaGreatDoor.HolI
namespace Go.Proofs.YtnjolmbdbgbmbaaGreatDoor.Stpt
open Signed (inB sgn)
open Reck ReckS ReckM ReckD TurnS
open Busw (M wrM Rt)
open Stpp
def cm (c:Int) (m:M):M:={ m with cyc:=c }
def cy (c:Int) (s:S):S:=⟨cm c s.m,s.full⟩
theorem wrM_cm (c:Int) (m:M) (a v:Int):wrM (cm c m) a v=(wrM m a v).map (cm c):=by
 unfold wrM
 by_cases h1:inB a 49152 49407=true
 ·rw [if_pos h1,if_pos h1];rfl
 rw [if_neg h1,if_neg h1]
 by_cases h2:inB a 65408 65534=true
 ·rw [if_pos h2,if_pos h2];rfl
 rw [if_neg h2,if_neg h2]
 by_cases h3:a=65281
 ·rw [if_pos h3,if_pos h3]
  by_cases h4:100<=m.out.length
  ·have h5:100<=(cm c m).out.length:=h4
   rw [if_pos h4,if_pos h5];rfl
  ·have h5:¬ 100<=(cm c m).out.length:=h4
   rw [if_neg h4,if_neg h5];rfl
 ·rw [if_neg h3,if_neg h3];rfl
theorem wr_cy (c:Int) (s:S) (a v:Int):wr (cy c s) a v=cy c (wr s a v):=by
 unfold wr
 have h:=wrM_cm c s.m (a%65536) v
 rw [show (cy c s).m=cm c s.m from rfl,h]
 cases wrM s.m (a%65536) v <;> rfl
theorem setR_cm (c:Int) (m:M) (n v:Int):setR (cm c m) n v=cm c (setR m n v):=by
 unfold setR
 repeat' split
 all_goals rfl
theorem setP_cm (c:Int) (m:M) (n v:Int):setP (cm c m) n v=cm c (setP m n v):=by
 unfold setP
 repeat' split
 all_goals rfl
theorem setQ_cm (c:Int) (m:M) (n v:Int):setQ (cm c m) n v=cm c (setQ m n v):=by
 unfold setQ
 split
 ·rfl
 ·exact setP_cm c m n v
theorem put_cy (c:Int) (s:S) (n v:Int):put (cy c s) n v=cy c (put s n v):=by
 unfold put
 split
 ·exact wr_cy c s _ v
 ·show (⟨setR (cm c s.m) n v,s.full⟩ : S)=_
  rw [setR_cm];rfl
theorem push_cy (c:Int) (s:S) (v:Int):push (cy c s) v=cy c (push s v):=by
 unfold push
 rw [show (cy c s).m.sp=s.m.sp from rfl,wr_cy,wr_cy]
 rfl
theorem call_cy (c:Int) (s:S) (v:Int):callE v (cy c s)=cy c (callE v s):=by
 unfold callE
 rw [show (cy c s).m.pc=s.m.pc from rfl,push_cy]
 rfl
theorem cb_cy (c:Int) (code:Int) (s:S):cbE code (cy c s)=cy c (cbE code s):=by
 unfold cbE
 repeat' split
 ·rw [put_cy];rfl
 ·rfl
 ·exact put_cy c s _ _
 ·exact put_cy c s _ _
theorem odd_cy (c:Int) (y:Int) (s:S):oddE y (cy c s)=cy c (oddE y s):=by
 unfold oddE
 repeat' split
 all_goals rfl
theorem stepHl_cm (c:Int) (m:M) (p:Int):stepHl (cm c m) p=cm c (stepHl m p):=by
 unfold stepHl
 split
 ·exact setP_cm c m _ _
 ·rfl
def cp (c:Int) (r:S × Bool):S × Bool:=(cy c r.1,r.2)
theorem ite_cp {p:Prop} [Decidable p] {c:Int} {a b x y:S × Bool} (h1:a=cp c x) (h2:b=cp c y):(if p then a else b)=cp c (if p then x else y):=by
 split
 ·exact h1
 ·exact h2
theorem pair_cp {c:Int} {a x:S} {b:Bool} (h:a=cy c x):(a,b)=cp c (x,b):=by rw [h];rfl
theorem low_cy (c:Int) (code imm:Int) (s:S):lowE code imm (cy c s)=cp c (lowE code imm s):=by
 unfold lowE
 refine ite_cp (ite_cp (pair_cp ?_) (ite_cp (pair_cp rfl) (pair_cp rfl))) (ite_cp (ite_cp (pair_cp ?_) (pair_cp ?_)) (ite_cp (ite_cp (pair_cp ?_) (pair_cp ?_)) (ite_cp (pair_cp ?_) (ite_cp (pair_cp ?_) (ite_cp (pair_cp ?_) (ite_cp (pair_cp ?_) (pair_cp ?_)))))))
 ·unfold spE
  rw [show (cy c s).m.sp=s.m.sp from rfl,wr_cy,wr_cy]
 ·show (⟨setP (cm c s.m) _ _,s.full⟩ : S)=_
  rw [setP_cm];rfl
 ·unfold addE
  show (⟨{ setP (cm c s.m) 2 _ with rf:=_ },s.full⟩ : S)=_
  rw [setP_cm];rfl
 ·unfold stE
  rw [show placeOf (cy c s).m (code / 8 / 2)=placeOf s.m (code / 8 / 2) from rfl,show (cy c s).m.ra=s.m.ra from rfl,wr_cy]
  show (⟨stepHl (cm c (wr s _ _).m) _,(wr s _ _).full⟩ : S)=_
  rw [stepHl_cm];rfl
 ·unfold ldE
  show (⟨stepHl (cm c { s.m with ra:=_ }) _,s.full⟩ : S)=_
  rw [stepHl_cm];rfl
 ·show (⟨setP (cm c s.m) _ _,s.full⟩ : S)=_
  rw [setP_cm];rfl
 ·rw [put_cy];rfl
 ·rw [put_cy];rfl
 ·exact put_cy c s _ _
 ·exact odd_cy c _ s
theorem top_cy (c:Int) (code imm:Int) (s:S):topE code imm (cy c s)=cp c (topE code imm s):=by
 unfold topE
 refine ite_cp (pair_cp rfl) (ite_cp (pair_cp (wr_cy c s _ _)) (ite_cp (pair_cp (wr_cy c s _ _)) (ite_cp (pair_cp rfl) (ite_cp (pair_cp rfl) (ite_cp (pair_cp (wr_cy c s _ _)) (ite_cp (pair_cp rfl) (ite_cp (pair_cp rfl) (ite_cp (pair_cp ?_) (ite_cp (pair_cp rfl) (ite_cp (pair_cp rfl) (ite_cp (pair_cp ?_) (ite_cp (pair_cp (push_cy c s _)) (ite_cp (pair_cp rfl) (ite_cp (pair_cp rfl) (ite_cp (pair_cp (call_cy c s _)) (ite_cp (pair_cp rfl) (ite_cp (pair_cp (call_cy c s _)) (pair_cp rfl))))))))))))))))))
 ·show (⟨{ setP (cm c s.m) 2 _ with rf:=_ },s.full⟩ : S)=_
  rw [setP_cm];rfl
 ·show (⟨setQ (cm c (popM s.m)) _ _,s.full⟩ : S)=_
  rw [setQ_cm];rfl
theorem sem_cy (c:Int) (code:Int) (cb:Bool) (imm:Int) (s:S):sem code cb imm (cy c s)=cp c (sem code cb imm s):=by
 unfold sem
 exact ite_cp (pair_cp (cb_cy c code s)) (ite_cp (low_cy c code imm s) (ite_cp (pair_cp rfl) (ite_cp (pair_cp (put_cy c s _ _)) (ite_cp (pair_cp rfl) (top_cy c code imm s)))))
end Go.Proofs.YtnjolmbdbgbmbaaGreatDoor.Stpt
namespace Go.Proofs.YtnjolmbdbgbmbaaGreatDoor.Stpi
open Go.Deep
open Signed (inB sgn ret_int ret_bool)
open Busw Busx Stpp
def stacks:List ByteArray:=[⟨#[98,99]⟩,⟨#[100,101]⟩,⟨#[104,108]⟩,⟨#[97,102]⟩]
def bitTs:List ByteArray:=[⟨#[]⟩,⟨#[98,105,116]⟩,⟨#[114,101,115]⟩,⟨#[115,101,116]⟩]
def TRow (w:World) (g:Nat) (l:List ByteArray):Prop:=∀ i,i<l.length->w.cell? ⟨g,i,none⟩=some (.string (l.getD i ⟨#[]⟩))
structure Tb (w:World):Prop where
 stack:TRow w 0 stacks
 bit:TRow w 1 bitTs
theorem TRow.lt {w:World} {g:Nat} {l:List ByteArray} (h:TRow w g l) (hl:0<l.length):g<w.heap.size:=World.block_lt_of_cell? w ⟨g,0,none⟩ (h 0 hl)
theorem TRow.of {w w':World} {g:Nat} {l:List ByteArray} (h:TRow w g l) (b:w'.heap[g]? = w.heap[g]?):TRow w' g l:=fun i hi=>(World.cell?_of_block (a:=⟨g,i,none⟩) b).trans (h i hi)
theorem Tb.of {w w':World} (h:Tb w) (b:∀ k,k=0 \/ k=1->w'.heap[k]? = w.heap[k]?):Tb w':=⟨h.stack.of (b _ (.inl rfl)),h.bit.of (b _ (.inr rfl))⟩
theorem Tb.below {w w':World} (h:Tb w) (b:Below w.heap.size w w'):Tb w':=⟨h.stack.of (b.block _ (h.stack.lt (by decide))),h.bit.of (b.block _ (h.bit.lt (by decide)))⟩
structure G where
 (W0:World)
 (K B base:Nat)
 (code:Int)
 (cb:Bool)
 (imm x y z p q:Int)
 (po0:Option Addr)
 (n0 cap0:Nat)
 (L0:List Int)
def kc (g:G) (full:Bool):Array Value:=#[.pointer (some ⟨g.B,0,none⟩),.pointer (some ⟨g.B,0,none⟩),.int .i64 g.code,.bool g.cb,.int .i64 g.imm,.int .i64 g.x,.int .i64 g.y,.int .i64 g.z,.int .i64 g.p,.int .i64 g.q,.bool full]
structure At (g:G) (W:World) (m:M) (full:Bool) (po:Option Addr) (cap:Nat):Prop where
 held:Held W g.B g.base m po cap
 k:W.heap[g.K]? = some (.cells (kc g full) 120 (0,0))
 old:W.ownsRow g.base 2 1 (.slice g.po0 g.n0 g.cap0) g.n0 (outC g.L0)
 len:blk g.po0=blk po->g.n0<=m.out.length
 os:W.os=g.W0.os
 tape:W.tape=g.W0.tape
 output:W.output=g.W0.output
 size:g.W0.heap.size<=W.heap.size
 block:∀ k,k<g.W0.heap.size->k ≠ g.B->k ≠ g.K->some k ≠ blk g.po0->W.heap[k]? = g.W0.heap[k]?
 mov:Moved g.W0 g.po0 po
 tab:Tb W
 bB:g.base<=g.B
 bK:g.base<=g.K
 bT:0<g.base/\1<g.base
 low:∀ k,blk g.po0=some k->k<g.W0.heap.size
def In (g:G) (W:World) (m:M) (full:Bool):Prop:=∃ po cap,At g W m full po cap
theorem row_other {w:World} {base n B:Nat} {v:Value} {xs:List Value} {cs:Array Value} {t:TypeId} {fz:Nat × Nat} (ht:t ≠ 2) (h:w.ownsRow base 2 1 v n xs) (hb:w.heap[B]? = some (.cells cs t fz)):v.ownBlock ≠ some B:=by
 intro e
 rcases h.2 with ⟨rfl,_⟩|⟨g,cap,cur,rfl,_,hg,_⟩
 ·cases e
 ·cases e
  rw [hb] at hg
  injection hg with hg
  injection hg with _ h2
  exact ht h2
theorem row_base {w:World} {base n cap k:Nat} {po:Option Addr} {xs:List Value} (h:w.ownsRow base 2 1 (.slice po n cap) n xs) (hk:blk po=some k):base<=k/\k<w.heap.size:=h.lt k (by rw [blk_own];exact hk)
theorem At.neKB {g:G} {W:World} {m:M} {full:Bool} {po:Option Addr} {cap:Nat} (h:At g W m full po cap):g.K ≠ g.B:=fun e=>by
 have h1:=h.k
 rw [e,h.held.box] at h1
 injection h1 with h1
 injection h1 with _ h2
 exact absurd h2 (by decide)
theorem At.turn {g:G} {W W':World} {m m':M} {full full':Bool} {po po':Option Addr} {cap cap':Nat} (h:At g W m full po cap) (e1:W'.os=W.os) (e2:W'.tape=W.tape) (e3:W'.output=W.output) (e4:W.heap.size<=W'.heap.size)
  (hb:∀ k,k<W.heap.size->k ≠ g.B->k ≠ g.K->some k ≠ blk po->W'.heap[k]? = W.heap[k]?) (hh:Held W' g.B g.base m' po' cap') (hk:W'.heap[g.K]? = some (.cells (kc g full') 120 (0,0)))
  (ho:W'.ownsRow g.base 2 1 (.slice g.po0 g.n0 g.cap0) g.n0 (outC g.L0)) (hl:blk g.po0=blk po'->g.n0<=m'.out.length) (hm:Moved W po po'):At g W' m' full' po' cap':=by
 refine ⟨hh,hk,ho,hl,e1.trans h.os,e2.trans h.tape,e3.trans h.output,Nat.le_trans h.size e4,fun k h0 h1 h2 h3=>(hb k (Nat.lt_of_lt_of_le h0 h.size) h1 h2 (fun e=>?_)).trans (h.block k h0 h1 h2 h3),?_,h.tab.of (fun k hkk=>hb k ?_ ?_ ?_ (fun e=>?_)),h.bB,h.bK,h.bT,h.low⟩
 ·rcases h.mov with rfl|⟨p,rfl,hp⟩
  ·exact h3 e
  ·have e5:k=p.block:=Option.some.inj e
   omega
 ·rcases hm with rfl|⟨p,rfl,hp⟩
  ·exact h.mov
  ·exact .inr ⟨p,rfl,Nat.le_trans h.size hp⟩
 ·rcases hkk with rfl|rfl
  ·exact h.tab.stack.lt (by decide)
  ·exact h.tab.bit.lt (by decide)
 ·have h1:=h.bT
  have h2:=h.bB
  rcases hkk with rfl|rfl <;> omega
 ·have h1:=h.bT
  have h2:=h.bK
  rcases hkk with rfl|rfl <;> omega
 ·have h1:=h.bT
  have h2:=(row_base h.held.row e.symm).1
  rcases hkk with rfl|rfl <;> omega
theorem In.below {g:G} {W W':World} {m:M} {full:Bool} (h:In g W m full) (hb:Below W.heap.size W W'):In g W' m full:=by
 obtain ⟨po,cap,h⟩:=h
 have hg:W.grownBy W' none:=⟨hb.os,hb.tape,hb.output,hb.size,fun k hk _=>hb.block k hk⟩
 have kk:∀ {b:Nat} {q:Option Addr} {n c:Nat} {xs:List Value},W.ownsRow b 2 1 (.slice q n c) n xs->W'.ownsRow b 2 1 (.slice q n c) n xs:=fun h=>h.kept hg (by cases hv:(Value.slice _ _ _).ownBlock <;> simp)
 exact ⟨po,cap,h.turn hb.os hb.tape hb.output hb.size (fun k hk _ _ _=>hb.block k hk) ⟨(hb.block _ h.held.lt).trans h.held.box,kk h.held.row,h.held.ne⟩ ((hb.block _ (zLo h.k)).trans h.k) (kk h.old) h.len (.inl rfl)⟩
theorem In.ltB {g:G} {W:World} {m:M} {full:Bool} (h:In g W m full):g.B<W.heap.size:=by obtain ⟨po,cap,h⟩:=h;exact h.held.lt
theorem In.ltK {g:G} {W:World} {m:M} {full:Bool} (h:In g W m full):g.K<W.heap.size:=by obtain ⟨po,cap,h⟩:=h;exact (zLo h.k)
theorem In.base {g:G} {W:World} {m:M} {full:Bool} (h:In g W m full):g.base<=W.heap.size:=by obtain ⟨po,cap,h⟩:=h;have h1:=h.held.lt;have h2:=h.bB;omega
theorem In.tb {g:G} {W:World} {m:M} {full:Bool} (h:In g W m full):Tb W:=by obtain ⟨po,cap,h⟩:=h;exact h.tab
theorem In.kcell {g:G} {W:World} {m:M} {full:Bool} (h:In g W m full) (i:Nat) (v:Value) (hv:(kc g full)[i]? = some v):W.cell? ⟨g.K,i,none⟩=some v:=by
 obtain ⟨po,cap,h⟩:=h
 rw [cell_of_row W g.K i _ _ _ h.k];exact hv
theorem In.kfro {g:G} {W:World} {m:M} {full:Bool} (h:In g W m full) (i:Nat):W.frozen? ⟨g.K,i,none⟩=false:=by
 obtain ⟨po,cap,h⟩:=h
 exact frozen_of_row _ _ _ _ _ h.k
theorem In.fro {g:G} {W:World} {m:M} {full:Bool} (h:In g W m full) (i:Nat):W.frozen? ⟨g.B,i,none⟩=false:=by
 obtain ⟨po,cap,h⟩:=h
 exact frozen_of_row _ _ _ _ _ h.held.box
theorem In.cell {g:G} {W:World} {m:M} {full:Bool} (h:In g W m full) (i:Nat) (v:Value) (hv:(#[.int .i64 m.ra,.int .i64 m.rf,.int .i64 m.rB,.int .i64 m.rC,.int .i64 m.rD,.int .i64 m.rE,.int .i64 m.rH,.int .i64 m.rL,.int .i64 m.sp,.int .i64 m.pc,.bool m.ime,.bool m.hal]:Array Value)[i]? = some v):W.cell? ⟨g.B,i,none⟩=some v:=by
 obtain ⟨po,cap,h⟩:=h
 refine celM h.held.box i v ?_
 match i,hv with
 | 0,hv=>exact hv
 | 1,hv=>exact hv
 | 2,hv=>exact hv
 | 3,hv=>exact hv
 | 4,hv=>exact hv
 | 5,hv=>exact hv
 | 6,hv=>exact hv
 | 7,hv=>exact hv
 | 8,hv=>exact hv
 | 9,hv=>exact hv
 | 10,hv=>exact hv
 | 11,hv=>exact hv
 | i+12,hv=>simp at hv
theorem set_grown1 (w:World) (B i:Nat) (v:Value):w.grownBy (w.setCell ⟨B,i,none⟩ v) (some B) :=
 ⟨rfl,rfl,rfl,by rw [Busw.size_set];exact Nat.le_refl _,fun k _ hk=>Below.heap_setCell _ _ _ _ (fun e=>hk (by rw [e]))⟩
theorem In.setB {g:G} {W:World} {m m':M} {full:Bool} (i:Nat) (v:Value) (h:In g W m full) (ho:m'.out=m.out) (hbox:∀ po cap,W.heap[g.B]? = some (.cells (cellsM m po cap) 33 (0,0))->(W.setCell ⟨g.B,i,none⟩ v).heap[g.B]? = some (.cells (cellsM m' po cap) 33 (0,0))) :
  In g (W.setCell ⟨g.B,i,none⟩ v) m' full:=by
 obtain ⟨po,cap,h⟩:=h
 have hg:=set_grown1 W g.B i v
 refine ⟨po,cap,h.turn hg.os hg.tape hg.output hg.size (fun k hk h1 _ _=>hg.block k hk (fun e=>h1 (Option.some.inj e))) (h.held.turn (hbox po cap h.held.box) ho hg) ((hg.block _ (zLo h.k) (fun e=>h.neKB (Option.some.inj e))).trans h.k) (h.old.kept hg (.inr (row_ne h.old h.held.box))) (fun e=>by rw [ho];exact h.len e) (.inl rfl)⟩
theorem In.setFull {g:G} {W:World} {m:M} {full:Bool} (h:In g W m full):In g (W.setCell ⟨g.K,10,none⟩ (.bool true)) m true:=by
 obtain ⟨po,cap,h⟩:=h
 have hg:=set_grown1 W g.K 10 (.bool true)
 have hr:=row_other (by decide) h.held.row h.k
 refine ⟨po,cap,h.turn hg.os hg.tape hg.output hg.size (fun k hk _ h2 _=>hg.block k hk (fun e=>h2 (Option.some.inj e))) ⟨(hg.block _ h.held.lt (fun e=>h.neKB (Option.some.inj e).symm)).trans h.held.box,h.held.row.kept hg (.inr hr),h.held.ne⟩ ((heap_setCell_same _ _ _ _ _ _ h.k).trans rfl) (h.old.kept hg (.inr (row_other (by decide) h.old h.k))) h.len (.inl rfl)⟩
theorem In.s_ra {g:G} {W:World} {m:M} {full:Bool} (h:In g W m full) (v:Int):In g (W.setCell ⟨g.B,0,none⟩ (.int .i64 v)) { m with ra:=v } full :=
 h.setB 0 _ rfl (fun po cap hb=>by rw [cells_def] at hb |-;exact (heap_setCell_same _ _ _ _ _ _ hb).trans rfl)
theorem In.s_rf {g:G} {W:World} {m:M} {full:Bool} (h:In g W m full) (v:Int):In g (W.setCell ⟨g.B,1,none⟩ (.int .i64 v)) { m with rf:=v } full :=
 h.setB 1 _ rfl (fun po cap hb=>by rw [cells_def] at hb |-;exact (heap_setCell_same _ _ _ _ _ _ hb).trans rfl)
theorem In.s_rB {g:G} {W:World} {m:M} {full:Bool} (h:In g W m full) (v:Int):In g (W.setCell ⟨g.B,2,none⟩ (.int .i64 v)) { m with rB:=v } full :=
 h.setB 2 _ rfl (fun po cap hb=>by rw [cells_def] at hb |-;exact (heap_setCell_same _ _ _ _ _ _ hb).trans rfl)
theorem In.s_rC {g:G} {W:World} {m:M} {full:Bool} (h:In g W m full) (v:Int):In g (W.setCell ⟨g.B,3,none⟩ (.int .i64 v)) { m with rC:=v } full :=
 h.setB 3 _ rfl (fun po cap hb=>by rw [cells_def] at hb |-;exact (heap_setCell_same _ _ _ _ _ _ hb).trans rfl)
theorem In.s_rD {g:G} {W:World} {m:M} {full:Bool} (h:In g W m full) (v:Int):In g (W.setCell ⟨g.B,4,none⟩ (.int .i64 v)) { m with rD:=v } full :=
 h.setB 4 _ rfl (fun po cap hb=>by rw [cells_def] at hb |-;exact (heap_setCell_same _ _ _ _ _ _ hb).trans rfl)
theorem In.s_rE {g:G} {W:World} {m:M} {full:Bool} (h:In g W m full) (v:Int):In g (W.setCell ⟨g.B,5,none⟩ (.int .i64 v)) { m with rE:=v } full :=
 h.setB 5 _ rfl (fun po cap hb=>by rw [cells_def] at hb |-;exact (heap_setCell_same _ _ _ _ _ _ hb).trans rfl)
theorem In.s_rH {g:G} {W:World} {m:M} {full:Bool} (h:In g W m full) (v:Int):In g (W.setCell ⟨g.B,6,none⟩ (.int .i64 v)) { m with rH:=v } full :=
 h.setB 6 _ rfl (fun po cap hb=>by rw [cells_def] at hb |-;exact (heap_setCell_same _ _ _ _ _ _ hb).trans rfl)
theorem In.s_rL {g:G} {W:World} {m:M} {full:Bool} (h:In g W m full) (v:Int):In g (W.setCell ⟨g.B,7,none⟩ (.int .i64 v)) { m with rL:=v } full :=
 h.setB 7 _ rfl (fun po cap hb=>by rw [cells_def] at hb |-;exact (heap_setCell_same _ _ _ _ _ _ hb).trans rfl)
theorem In.s_sp {g:G} {W:World} {m:M} {full:Bool} (h:In g W m full) (v:Int):In g (W.setCell ⟨g.B,8,none⟩ (.int .i64 v)) { m with sp:=v } full :=
 h.setB 8 _ rfl (fun po cap hb=>by rw [cells_def] at hb |-;exact (heap_setCell_same _ _ _ _ _ _ hb).trans rfl)
theorem In.s_pc {g:G} {W:World} {m:M} {full:Bool} (h:In g W m full) (v:Int):In g (W.setCell ⟨g.B,9,none⟩ (.int .i64 v)) { m with pc:=v } full :=
 h.setB 9 _ rfl (fun po cap hb=>by rw [cells_def] at hb |-;exact (heap_setCell_same _ _ _ _ _ _ hb).trans rfl)
theorem In.s_ime {g:G} {W:World} {m:M} {full:Bool} (h:In g W m full) (v:Bool):In g (W.setCell ⟨g.B,10,none⟩ (.bool v)) { m with ime:=v } full :=
 h.setB 10 _ rfl (fun po cap hb=>by rw [cells_def] at hb |-;exact (heap_setCell_same _ _ _ _ _ _ hb).trans rfl)
theorem In.s_hal {g:G} {W:World} {m:M} {full:Bool} (h:In g W m full) (v:Bool):In g (W.setCell ⟨g.B,11,none⟩ (.bool v)) { m with hal:=v } full :=
 h.setB 11 _ rfl (fun po cap hb=>by rw [cells_def] at hb |-;exact (heap_setCell_same _ _ _ _ _ _ hb).trans rfl)
end Go.Proofs.YtnjolmbdbgbmbaaGreatDoor.Stpi
namespace Go.Proofs.YtnjolmbdbgbmbaaGreatDoor.Stpj
open Go.Deep
open Signed (inB sgn ret_int ret_bool)
open Busw Busx Stpp Stpi
theorem and65535 (n:Int):bits .and .i64 n 65535=n%65536:=by
 have h127:(BitVec.ofInt 64 65535).toNat=2 ^ 16-1:=by decide
 have key:(BitVec.ofInt 64 n &&& BitVec.ofInt 64 65535).toNat=(n%((2 ^ 64:Nat):Int)).toNat%2 ^ 16:=by
  rw [BitVec.toNat_and,BitVec.toNat_ofInt,h127,Nat.and_two_pow_sub_one_eq_mod]
 show IntKind.i64.wrap ((BitVec.ofInt 64 n &&& BitVec.ofInt 64 65535).toNat:Nat)=n%65536
 rw [key,IntKind.wrap_i64]
 omega
theorem wrapped_any (n:Int) (w:World) :
  Calls prog 94 #[.int .i64 n] w fun e w'=>e=.returned (.int .i64 (n%65536))/\w'=w:=by
 have h:=and65535 n
 go_enter func94,ntmps94
 go_wp2
 go_ret
 exact ⟨rfl,rfl⟩
theorem word_bd (n:Int):0<=n%65536/\n%65536<=65535:=by omega
theorem read_any (g:G) (m:M) (full:Bool) (addr:Int) (w:World) (h:In g w m full) (hr:Rt m) :
  Calls prog 220 #[.pointer (some ⟨g.K,0,none⟩),.int .i64 addr] w fun e w'=>e=.returned (.int .i64 (rd m (addr%65536)))/\Below w.heap.size w w':=by
 have c1:∀ d os,Calls prog 94 #[.int .i64 addr] (Go.Sort.grow (redrawn w d) os) fun e w''=>e=.returned (.int .i64 (addr%65536))/\∃ p:Regrown,w''=Go.Sort.grow (redrawn w p.d) p.os:=fun d os=>Calls.regrown_of ((wrapped_any addr _).mono fun e w' h=>⟨h.1,by rw [h.2];exact zRf⟩)
 have c2:∀ d os,Calls prog 75 #[.pointer (some ⟨g.B,0,none⟩),.int .i64 (addr%65536)] (Go.Sort.grow (redrawn w d) os) fun e w''=>e=.returned (.int .i64 (rd m (addr%65536)))/\∃ p:Regrown,w''=Go.Sort.grow (redrawn w p.d) p.os:=fun d os=>Calls.regrown_of (by
  obtain ⟨po,cap,h⟩:=h.below (below_regrown w d os)
  have hb:=h.held.box
  rw [cells_def] at hb
  exact MachB.readBus_any m.ra m.rf m.rB m.rC m.rD m.rE m.rH m.rL m.sp m.pc m.ime m.hal m.rom m.kind m.bank m.ram m.rb m.on m.mode m.work m.high po m.out cap m.cyc g.B _ _ hb hr.cart hr.work hr.high (word_bd addr).1)
 have k0:=cell_regrown (h.kcell 0 _ rfl)
 clear h hr
 generalize rd m (addr%65536)=r at *
 generalize hq:addr%65536=q at *
 clear hq
 go_enter func220,ntmps220
 go_wp2_with fail
 refine wp_region_quiet_below (by kernel_rfl) (by kernel_rfl) ?_
 repeat (go_big_quiet_step (first|exact c1 _ _|exact c2 _ _))
 refine wpQuiet_nil ?_
 intro _ hw'
 obtain ⟨⟨dq,osq⟩,hw''⟩:=hw'
 subst hw''
 go_wp2
 go_ret
 exact ⟨rfl,below_regrown _ _ _⟩
theorem in_post {g:G} {w w':World} {m:M} {full:Bool} {po:Option Addr} {cap:Nat} {addr v:Int} {e:Ending} (h:At g w m full po cap) (hp:Post w w' g.B g.base m.out.length (wrM m (addr%65536) v) po e) :
  (e=.returned (.bool true)/\In g w' (wr ⟨m,full⟩ addr v).m full/\(wr ⟨m,full⟩ addr v).full=full) \/ (e=.returned (.bool false)/\In g w' m full/\wr ⟨m,full⟩ addr v=⟨m,true⟩):=by
 obtain ⟨hc,ho,hk⟩:=hp
 have hlen:∀ m',wrM m (addr%65536) v=some m'->m.out.length<=m'.out.length:=fun m' h=>by
  unfold wrM at h
  repeat' split at h
  all_goals cases h
  all_goals simp
 have old:w'.ownsRow g.base 2 1 (.slice g.po0 g.n0 g.cap0) g.n0 (outC g.L0):=hk _ _ _ _ _ h.len h.old
 have hkk:w'.heap[g.K]? = some (.cells (kc g full) 120 (0,0)):=by
  rw [ho.block g.K (zLo h.k) h.neKB (fun p e e2=>row_other (by decide) h.held.row h.k (by subst e;rw [blk_own];show some p.block=_;rw [e2]))]
  exact h.k
 have blocks:∀ k,k<w.heap.size->k ≠ g.B->k ≠ g.K->some k ≠ blk po->w'.heap[k]? = w.heap[k]?:=fun k h0 h1 _ h3=>ho.block k h0 h1 (fun p e e2=>h3 (by subst e;rw [e2];rfl))
 rcases hc with ⟨m',po',cap',hm,rfl,hh,hmv⟩|⟨hm,rfl,rfl⟩
 ·left
  have hw:wr ⟨m,full⟩ addr v=⟨m',full⟩:=by unfold wr;rw [hm]
  rw [hw]
  refine ⟨rfl,⟨po',cap',h.turn ho.os ho.tape ho.output ho.size blocks hh hkk old (fun e=>?_) hmv⟩,rfl⟩
  rcases hmv with rfl|⟨p,rfl,hp⟩
  ·exact Nat.le_trans (h.len e) (hlen m' hm)
  ·have h1:=h.low p.block e
   have h2:=h.size
   omega
 ·right
  exact ⟨rfl,⟨po,cap,h⟩,by unfold wr;rw [hm]⟩
theorem write_any (g:G) (m:M) (full:Bool) (addr v:Int) (w:World) (h:In g w m full) (hr:Rt m) (v0:0<=v) (v1:v<=255) :
  Calls prog 219 #[.pointer (some ⟨g.K,0,none⟩),.int .i64 addr,.int .i64 v] w fun e w'=>e=.returned (.tuple #[])/\In g w' (wr ⟨m,full⟩ addr v).m (wr ⟨m,full⟩ addr v).full:=by
 have k0:=h.kcell 0 _ rfl
 have lk:=h.ltK
 have c1:=fun w=>wrapped_any addr w
 have hq:=word_bd addr
 have c2:∀ W,Below w.heap.size w W->Calls prog 238 #[.pointer (some ⟨g.B,0,none⟩),.int .i64 (addr%65536),.int .i64 v] W fun e w'=>∃ b,e=.returned (.bool b)/\Hid ((b=true/\In g w' (wr ⟨m,full⟩ addr v).m (wr ⟨m,full⟩ addr v).full) \/ (b=false/\In g w' m full/\wr ⟨m,full⟩ addr v=⟨m,true⟩)):=fun W hW=>by
  have h:=h.below hW
  have hb:=h.base
  obtain ⟨po,cap,h⟩:=h
  exact (Busw.write_any m g.B g.base po cap (addr%65536) v W h.held hr (decide_eq_true hq) (decide_eq_true ⟨v0,v1⟩) hb).mono fun e w' hp=>by
   rcases in_post h hp with ⟨rfl,h1,h2⟩|⟨rfl,h1,h2⟩
   ·exact ⟨true,rfl,.inl ⟨rfl,by rw [h2];exact h1⟩⟩
   ·exact ⟨false,rfl,.inr ⟨rfl,h1,h2⟩⟩
 clear h hr hq v0 v1
 obtain ⟨s,hs⟩ : ∃ s,s=wr ⟨m,full⟩ addr v:=⟨_,rfl⟩
 rw [<- hs] at c2 |-
 clear hs
 generalize hq:addr%65536=q at *
 clear hq
 go_enter func219,ntmps219
 go_wp2_with fail
 go_region_with (first|(go_at_call 94;refine (c1 _).mono ?_;rintro e w' ⟨rfl,hw'⟩;have hw':=hw'.symm;subst hw')|(go_at_call 238;refine (c2 _ (by repeat (with_reducible first|exact zRf|refine zGr ?_ _|refine below_drewN ?_ _|refine Below.drew ?_))).mono ?_;rintro e w' ⟨b,rfl,hpost⟩))
 all_goals
  rcases hpost.out with ⟨rfl,hi⟩|⟨rfl,hi,hf⟩
  ·have HI:Hid (In g w' s.m s.full):=hi
   clear hi hpost
   go_wp2
   go_end0
   exact ⟨rfl,HI.out⟩
  ·have HI:Hid (In g (w'.setCell ⟨g.K,10,none⟩ (.bool true)) s.m s.full):=by show In g (w'.setCell ⟨g.K,10,none⟩ (.bool true)) s.m s.full;rw [hf];exact hi.setFull
   have k10:=hi.kcell 10 _ rfl
   have f10:=hi.kfro 10
   clear hi hf hpost
   go_wp2
   go_end0
   exact ⟨rfl,HI.out⟩
end Go.Proofs.YtnjolmbdbgbmbaaGreatDoor.Stpj
namespace Go.Proofs.YtnjolmbdbgbmbaaGreatDoor.Stpr
open Go.Deep
open Signed (inB sgn ret_int ret_bool)
open Busw Busx Stpp Stpi Stpj
def regI (n:Int):Nat:=if n=0 then 2 else if n=1 then 3 else if n=2 then 4 else if n=3 then 5 else if n=4 then 6 else if n=5 then 7 else 0
def regP (g:G) (n:Int):Value:=if n=6 then .pointer none else .pointer (some ⟨g.B,regI n,none⟩)
theorem ix_0 (B:Nat) (w:World):(Instr.index 194 (.agg #[.pointer (some ⟨B,2,none⟩),.pointer (some ⟨B,3,none⟩),.pointer (some ⟨B,4,none⟩),.pointer (some ⟨B,5,none⟩),.pointer (some ⟨B,6,none⟩),.pointer (some ⟨B,7,none⟩),.pointer none,.pointer (some ⟨B,0,none⟩)]) (.int .i64 0)).run prog w=.ok (.pointer (some ⟨B,2,none⟩)) w:=by kernel_rfl
theorem register_0 (g:G) (w:World) (k1:w.cell? ⟨g.K,1,none⟩=some (.pointer (some ⟨g.B,0,none⟩))) :
  Calls prog 218 #[.pointer (some ⟨g.K,0,none⟩),.int .i64 0] w fun e w'=>e=.returned (.pointer (some ⟨g.B,2,none⟩))/\Below w.heap.size w w':=by
 have hi:=ix_0 g.B
 go_enter func218,ntmps218
 go_wp2_with fail
 go_quiet (fail)
 all_goals go_wp2
 all_goals go_ret
 all_goals exact ⟨rfl,by repeat (with_reducible first|exact zRf|refine zGr ?_ _|refine below_drewN ?_ _|refine Below.drew ?_)⟩
theorem ix_1 (B:Nat) (w:World):(Instr.index 194 (.agg #[.pointer (some ⟨B,2,none⟩),.pointer (some ⟨B,3,none⟩),.pointer (some ⟨B,4,none⟩),.pointer (some ⟨B,5,none⟩),.pointer (some ⟨B,6,none⟩),.pointer (some ⟨B,7,none⟩),.pointer none,.pointer (some ⟨B,0,none⟩)]) (.int .i64 1)).run prog w=.ok (.pointer (some ⟨B,3,none⟩)) w:=by kernel_rfl
theorem register_1 (g:G) (w:World) (k1:w.cell? ⟨g.K,1,none⟩=some (.pointer (some ⟨g.B,0,none⟩))) :
  Calls prog 218 #[.pointer (some ⟨g.K,0,none⟩),.int .i64 1] w fun e w'=>e=.returned (.pointer (some ⟨g.B,3,none⟩))/\Below w.heap.size w w':=by
 have hi:=ix_1 g.B
 go_enter func218,ntmps218
 go_wp2_with fail
 go_quiet (fail)
 all_goals go_wp2
 all_goals go_ret
 all_goals exact ⟨rfl,by repeat (with_reducible first|exact zRf|refine zGr ?_ _|refine below_drewN ?_ _|refine Below.drew ?_)⟩
theorem ix_2 (B:Nat) (w:World):(Instr.index 194 (.agg #[.pointer (some ⟨B,2,none⟩),.pointer (some ⟨B,3,none⟩),.pointer (some ⟨B,4,none⟩),.pointer (some ⟨B,5,none⟩),.pointer (some ⟨B,6,none⟩),.pointer (some ⟨B,7,none⟩),.pointer none,.pointer (some ⟨B,0,none⟩)]) (.int .i64 2)).run prog w=.ok (.pointer (some ⟨B,4,none⟩)) w:=by kernel_rfl
theorem register_2 (g:G) (w:World) (k1:w.cell? ⟨g.K,1,none⟩=some (.pointer (some ⟨g.B,0,none⟩))) :
  Calls prog 218 #[.pointer (some ⟨g.K,0,none⟩),.int .i64 2] w fun e w'=>e=.returned (.pointer (some ⟨g.B,4,none⟩))/\Below w.heap.size w w':=by
 have hi:=ix_2 g.B
 go_enter func218,ntmps218
 go_wp2_with fail
 go_quiet (fail)
 all_goals go_wp2
 all_goals go_ret
 all_goals exact ⟨rfl,by repeat (with_reducible first|exact zRf|refine zGr ?_ _|refine below_drewN ?_ _|refine Below.drew ?_)⟩
theorem ix_3 (B:Nat) (w:World):(Instr.index 194 (.agg #[.pointer (some ⟨B,2,none⟩),.pointer (some ⟨B,3,none⟩),.pointer (some ⟨B,4,none⟩),.pointer (some ⟨B,5,none⟩),.pointer (some ⟨B,6,none⟩),.pointer (some ⟨B,7,none⟩),.pointer none,.pointer (some ⟨B,0,none⟩)]) (.int .i64 3)).run prog w=.ok (.pointer (some ⟨B,5,none⟩)) w:=by kernel_rfl
theorem register_3 (g:G) (w:World) (k1:w.cell? ⟨g.K,1,none⟩=some (.pointer (some ⟨g.B,0,none⟩))) :
  Calls prog 218 #[.pointer (some ⟨g.K,0,none⟩),.int .i64 3] w fun e w'=>e=.returned (.pointer (some ⟨g.B,5,none⟩))/\Below w.heap.size w w':=by
 have hi:=ix_3 g.B
 go_enter func218,ntmps218
 go_wp2_with fail
 go_quiet (fail)
 all_goals go_wp2
 all_goals go_ret
 all_goals exact ⟨rfl,by repeat (with_reducible first|exact zRf|refine zGr ?_ _|refine below_drewN ?_ _|refine Below.drew ?_)⟩
theorem ix_4 (B:Nat) (w:World):(Instr.index 194 (.agg #[.pointer (some ⟨B,2,none⟩),.pointer (some ⟨B,3,none⟩),.pointer (some ⟨B,4,none⟩),.pointer (some ⟨B,5,none⟩),.pointer (some ⟨B,6,none⟩),.pointer (some ⟨B,7,none⟩),.pointer none,.pointer (some ⟨B,0,none⟩)]) (.int .i64 4)).run prog w=.ok (.pointer (some ⟨B,6,none⟩)) w:=by kernel_rfl
theorem register_4 (g:G) (w:World) (k1:w.cell? ⟨g.K,1,none⟩=some (.pointer (some ⟨g.B,0,none⟩))) :
  Calls prog 218 #[.pointer (some ⟨g.K,0,none⟩),.int .i64 4] w fun e w'=>e=.returned (.pointer (some ⟨g.B,6,none⟩))/\Below w.heap.size w w':=by
 have hi:=ix_4 g.B
 go_enter func218,ntmps218
 go_wp2_with fail
 go_quiet (fail)
 all_goals go_wp2
 all_goals go_ret
 all_goals exact ⟨rfl,by repeat (with_reducible first|exact zRf|refine zGr ?_ _|refine below_drewN ?_ _|refine Below.drew ?_)⟩
theorem ix_5 (B:Nat) (w:World):(Instr.index 194 (.agg #[.pointer (some ⟨B,2,none⟩),.pointer (some ⟨B,3,none⟩),.pointer (some ⟨B,4,none⟩),.pointer (some ⟨B,5,none⟩),.pointer (some ⟨B,6,none⟩),.pointer (some ⟨B,7,none⟩),.pointer none,.pointer (some ⟨B,0,none⟩)]) (.int .i64 5)).run prog w=.ok (.pointer (some ⟨B,7,none⟩)) w:=by kernel_rfl
theorem register_5 (g:G) (w:World) (k1:w.cell? ⟨g.K,1,none⟩=some (.pointer (some ⟨g.B,0,none⟩))) :
  Calls prog 218 #[.pointer (some ⟨g.K,0,none⟩),.int .i64 5] w fun e w'=>e=.returned (.pointer (some ⟨g.B,7,none⟩))/\Below w.heap.size w w':=by
 have hi:=ix_5 g.B
 go_enter func218,ntmps218
 go_wp2_with fail
 go_quiet (fail)
 all_goals go_wp2
 all_goals go_ret
 all_goals exact ⟨rfl,by repeat (with_reducible first|exact zRf|refine zGr ?_ _|refine below_drewN ?_ _|refine Below.drew ?_)⟩
theorem ix_6 (B:Nat) (w:World):(Instr.index 194 (.agg #[.pointer (some ⟨B,2,none⟩),.pointer (some ⟨B,3,none⟩),.pointer (some ⟨B,4,none⟩),.pointer (some ⟨B,5,none⟩),.pointer (some ⟨B,6,none⟩),.pointer (some ⟨B,7,none⟩),.pointer none,.pointer (some ⟨B,0,none⟩)]) (.int .i64 6)).run prog w=.ok (.pointer none) w:=by kernel_rfl
theorem register_6 (g:G) (w:World) (k1:w.cell? ⟨g.K,1,none⟩=some (.pointer (some ⟨g.B,0,none⟩))) :
  Calls prog 218 #[.pointer (some ⟨g.K,0,none⟩),.int .i64 6] w fun e w'=>e=.returned (.pointer none)/\Below w.heap.size w w':=by
 have hi:=ix_6 g.B
 go_enter func218,ntmps218
 go_wp2_with fail
 go_quiet (fail)
 all_goals go_wp2
 all_goals go_ret
 all_goals exact ⟨rfl,by repeat (with_reducible first|exact zRf|refine zGr ?_ _|refine below_drewN ?_ _|refine Below.drew ?_)⟩
theorem ix_7 (B:Nat) (w:World):(Instr.index 194 (.agg #[.pointer (some ⟨B,2,none⟩),.pointer (some ⟨B,3,none⟩),.pointer (some ⟨B,4,none⟩),.pointer (some ⟨B,5,none⟩),.pointer (some ⟨B,6,none⟩),.pointer (some ⟨B,7,none⟩),.pointer none,.pointer (some ⟨B,0,none⟩)]) (.int .i64 7)).run prog w=.ok (.pointer (some ⟨B,0,none⟩)) w:=by kernel_rfl
theorem register_7 (g:G) (w:World) (k1:w.cell? ⟨g.K,1,none⟩=some (.pointer (some ⟨g.B,0,none⟩))) :
  Calls prog 218 #[.pointer (some ⟨g.K,0,none⟩),.int .i64 7] w fun e w'=>e=.returned (.pointer (some ⟨g.B,0,none⟩))/\Below w.heap.size w w':=by
 have hi:=ix_7 g.B
 go_enter func218,ntmps218
 go_wp2_with fail
 go_quiet (fail)
 all_goals go_wp2
 all_goals go_ret
 all_goals exact ⟨rfl,by repeat (with_reducible first|exact zRf|refine zGr ?_ _|refine below_drewN ?_ _|refine Below.drew ?_)⟩
theorem register_any (g:G) (m:M) (full:Bool) (n:Int) (w:World) (h:In g w m full) (n0:0<=n) (n1:n<=7) :
  Calls prog 218 #[.pointer (some ⟨g.K,0,none⟩),.int .i64 n] w fun e w'=>e=.returned (regP g n)/\Below w.heap.size w w':=by
 have k1:=h.kcell 1 _ rfl
 have hn:n=0 \/ n=1 \/ n=2 \/ n=3 \/ n=4 \/ n=5 \/ n=6 \/ n=7:=by omega
 rcases hn with rfl|rfl|rfl|rfl|rfl|rfl|rfl|rfl
 ·exact register_0 g w k1
 ·exact register_1 g w k1
 ·exact register_2 g w k1
 ·exact register_3 g w k1
 ·exact register_4 g w k1
 ·exact register_5 g w k1
 ·exact register_6 g w k1
 ·exact register_7 g w k1
end Go.Proofs.YtnjolmbdbgbmbaaGreatDoor.Stpr
