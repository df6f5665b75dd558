/-
  Contracts and facts of ours, joined: HoleX, Shelf, HolI, Stck, Stcz.
-/
import Derived.Test.YtkfehdkjeodbmaaGreatDoorP10
import Derived.Shelf.Strings.Search1
import Derived.Shelf.Strings.Search2
import Derived.Shelf.Strings.Search3
import Derived.Shelf.LaysM
import Derived.Shelf.Strings.Shaped
import Derived.Test.YtkfehdkjeodbmaaGreatDoorProg
import Derived.Lib.IndexMore
import Derived.Deep.QuietTactic
import Derived.Test.YtkfehdkjeodbmaaGreatDoorP00
set_option linter.unusedVariables false
set_option linter.unusedSimpArgs false
set_option maxRecDepth 20000
set_option maxHeartbeats 8000000
open Go.ChangeShapes Go.WideShapes Go.ChangeAt Go.RowKit
open Go.Proofs.Tryz
namespace Go.Proofs.YtkfehdkjeodbmaaGreatDoor.HoleX
open Hole (below_drewN slice_3 slice_2)
def firstAt (t h:ByteArray):Nat->Nat->Option Nat
 | 0,_=>none
 | f+1,k=>if k+h.size<=t.size then (if t.extract k (k+h.size)=h then some k else firstAt t h f (k+1)) else none
def n16:ByteArray:=⟨#[110,49,54]⟩
def n8:ByteArray:=⟨#[110,56]⟩
def e8:ByteArray:=⟨#[101,56]⟩
def at1 (t h:ByteArray):Option Nat:=firstAt t h (t.size+1) 0
def holeP (t:ByteArray):Int :=
 match at1 t n16 with
 | some k=>k
 | none=>match at1 t n8 with
  | some k=>k
  | none=>match at1 t e8 with
   | some k=>k
   | none=>-1
def holeT (t:ByteArray):ByteArray:=if (at1 t n16).isSome then n16 else if (at1 t n8).isSome then n8 else if (at1 t e8).isSome then e8 else ⟨#[]⟩
theorem firstAt_hit {t h:ByteArray} {m:Nat} (hm:m<=t.size) (h1:m+h.size<=t.size) (h2:t.extract m (m+h.size)=h) (e:at1 t h=firstAt t h (t.size+1-m) m):at1 t h=some m:=by
 rw [e,show t.size+1-m=(t.size-m)+1 by omega,firstAt,if_pos h1,if_pos h2]
theorem firstAt_next {t h:ByteArray} {m:Nat} (hm:m<=t.size) (h1:m+h.size<=t.size) (h2:¬ t.extract m (m+h.size)=h) (e:at1 t h=firstAt t h (t.size+1-m) m):at1 t h=firstAt t h (t.size+1-(m+1)) (m+1):=by
 rw [e,show t.size+1-m=(t.size+1-(m+1))+1 by omega,firstAt,if_pos h1,if_neg h2]
theorem firstAt_end {t h:ByteArray} {m:Nat} (hm:m<=t.size) (h1:¬ m+h.size<=t.size) (e:at1 t h=firstAt t h (t.size+1-m) m):at1 t h=none:=by
 rw [e,show t.size+1-m=(t.size-m)+1 by omega,firstAt,if_neg h1]
def ret (t:ByteArray):Ending:=.returned (.tuple #[.int .i64 (holeP t),.string (holeT t)])
theorem ret_n16 {t:ByteArray} {m:Nat} (h:at1 t n16=some m):Ending.returned (.tuple #[.int .i64 (m:Int),.string ⟨#[110,49,54]⟩])=ret t:=by
 unfold ret holeP holeT;rw [h];rfl
theorem ret_n8 {t:ByteArray} {m:Nat} (h0:at1 t n16=none) (h:at1 t n8=some m):Ending.returned (.tuple #[.int .i64 (m:Int),.string ⟨#[110,56]⟩])=ret t:=by
 unfold ret holeP holeT;rw [h0,h];rfl
theorem ret_e8 {t:ByteArray} {m:Nat} (h0:at1 t n16=none) (h1:at1 t n8=none) (h:at1 t e8=some m):Ending.returned (.tuple #[.int .i64 (m:Int),.string ⟨#[101,56]⟩])=ret t:=by
 unfold ret holeP holeT;rw [h0,h1,h];rfl
theorem ret_no {t:ByteArray} (h0:at1 t n16=none) (h1:at1 t n8=none) (h:at1 t e8=none):Ending.returned (.tuple #[.int .i64 (-1),.string ⟨#[]⟩])=ret t:=by
 unfold ret holeP holeT;rw [h0,h1,h];rfl
theorem lits_ne {X:ByteArray} {l:List UInt8} (h:¬ X=⟨l.toArray⟩):(X.toList == l)=false:=by
 rw [ByteArray.toList_eq]
 cases hb:X.data.toList == l
 ·rfl
 ·exfalso
  apply h
  have:=eq_of_beq hb
  cases X with|mk d=>cases d with|mk d=>simp only at this;rw [<- this]
def At (t:ByteArray) (i:Nat):Prop:=(1<=i->at1 t n16=none)/\(2<=i->at1 t n8=none)/\(3<=i->at1 t e8=none)
theorem hole_any (t:ByteArray) (w:World) (ht:t.size<=1000) :
  Calls prog 175 #[.string t] w fun e w'=>e=ret t/\Below w.heap.size w w':=by
 go_enter func175,ntmps175
 go_wp2
 have HB:Hid (Below w.heap.size w (w.alloc (.cells #[.string ⟨#[110,49,54]⟩,.string ⟨#[110,56]⟩,.string ⟨#[101,56]⟩] 9))):=zAl _ _
 have c0:(w.alloc (.cells #[.string ⟨#[110,49,54]⟩,.string ⟨#[110,56]⟩,.string ⟨#[101,56]⟩] 9)).cell? ⟨w.heap.size,0,none⟩=some (.string ⟨#[110,49,54]⟩):=World.cell?_alloc_new _ _ _ _
 have c1:(w.alloc (.cells #[.string ⟨#[110,49,54]⟩,.string ⟨#[110,56]⟩,.string ⟨#[101,56]⟩] 9)).cell? ⟨w.heap.size,1,none⟩=some (.string ⟨#[110,56]⟩):=World.cell?_alloc_new _ _ _ _
 have c2:(w.alloc (.cells #[.string ⟨#[110,49,54]⟩,.string ⟨#[110,56]⟩,.string ⟨#[101,56]⟩] 9)).cell? ⟨w.heap.size,2,none⟩=some (.string ⟨#[101,56]⟩):=World.cell?_alloc_new _ _ _ _
 generalize w.alloc (.cells #[.string ⟨#[110,49,54]⟩,.string ⟨#[110,56]⟩,.string ⟨#[101,56]⟩] 9)=W at *
 go_loopw [5] (fun i wr=>∃ n:Nat,((i=.int .i64 0/\At t 0) \/ (i=.int .i64 1/\At t 1) \/ (i=.int .i64 2/\At t 2) \/ (i=.int .i64 3/\At t 3))/\wr=W.drewN n) (fun i _=>3-(intOf i).toNat)
 case atStart=>exact ⟨0,.inl ⟨rfl,by unfold At;refine ⟨fun h=>?_,fun h=>?_,fun h=>?_⟩ <;> omega⟩,rfl⟩
 case round =>
  obtain ⟨n,hi,rfl⟩:=hrel
  rcases hi with ⟨rfl,ha⟩|⟨rfl,ha⟩|⟨rfl,ha⟩|⟨rfl,ha⟩
  ·have ha:Hid (At t 0):=ha
   go_wp2
   go_loopw [6] (fun i wr=>∃ m n:Nat,m<=t.size/\i=.int .i64 m/\wr=W.drewN n/\at1 t n16=firstAt t n16 (t.size+1-m) m) (fun i _=>t.size-(intOf i).toNat)
   case atStart=>exact ⟨0,n,Nat.zero_le _,rfl,rfl,rfl⟩
   case round =>
    obtain ⟨m,n2,hm,rfl,rfl,he⟩:=hrel
    by_cases hlt:m+3<=t.size
    ·have s1:=slice_3 t m hlt
     have HM:Hid (m<=t.size/\m+3<=t.size/\at1 t n16=firstAt t n16 (t.size+1-m) m):=⟨hm,hlt,he⟩
     clear he
     have k0:(0:Int)<=(m:Int):=by omega
     have k1:(m:Int)+3<=(t.size:Int):=by omega
     have k2:(m:Int)<=(m:Int)+3:=by omega
     have k4:IntKind.i64.wrap ((m:Int)+3)=(m:Int)+3:=by rw [IntKind.wrap_i64];omega
     by_cases hx:t.extract m (m+3)=⟨#[110,49,54]⟩
     ·have HX:Hid (t.extract m (m+3)=⟨#[110,49,54]⟩):=hx
      have hy:(t.extract m (m+3) == ⟨#[110,49,54]⟩)=true:=by rw [hx];rfl
      rw [hx] at s1
      clear hx hy
      go_wp2_with fail
      go_quiet (fail)
      go_wp2_with fail
      go_quiet (fail)
      go_wp2
      go_ret2
      exact ⟨ret_n16 (firstAt_hit HM.out.1 HM.out.2.1 HX.out HM.out.2.2),by repeat' (with_reducible first|exact HB.out|refine below_drewN ?_ _)⟩
     ·have HX:Hid (¬ t.extract m (m+3)=⟨#[110,49,54]⟩):=hx
      have hy:((t.extract m (m+3)).toList == [110,49,54])=false:=lits_ne hx
      clear hx
      generalize t.extract m (m+3)=X at s1 hy
      go_wp2_with fail
      go_quiet (fail)
      go_wp2_with fail
      go_roundw
      case rel=>exact ⟨m+1,_,by have:=HM.out.2.1;omega,by go_num,rfl,firstAt_next HM.out.1 HM.out.2.1 HX.out HM.out.2.2⟩
      case measure=>have:=HM.out.2.1;simp [intOf];omega
    ·have HE:Hid (at1 t n16=none):=firstAt_end hm hlt he
     clear he
     go_wp2
     go_roundw
     case rel =>
      have HE:=HE.out
      exact ⟨_,.inr (.inl ⟨rfl,⟨fun _=>HE,fun h=>by omega,fun h=>by omega⟩⟩),rfl⟩
     case measure=>simp [intOf]
  ·have ha:Hid (At t 1):=ha
   go_wp2
   go_loopw [6] (fun i wr=>∃ m n:Nat,m<=t.size/\i=.int .i64 m/\wr=W.drewN n/\at1 t n8=firstAt t n8 (t.size+1-m) m) (fun i _=>t.size-(intOf i).toNat)
   case atStart=>exact ⟨0,n,Nat.zero_le _,rfl,rfl,rfl⟩
   case round =>
    obtain ⟨m,n2,hm,rfl,rfl,he⟩:=hrel
    by_cases hlt:m+2<=t.size
    ·have s1:=slice_2 t m hlt
     have HM:Hid (m<=t.size/\m+2<=t.size/\at1 t n8=firstAt t n8 (t.size+1-m) m):=⟨hm,hlt,he⟩
     clear he
     have k0:(0:Int)<=(m:Int):=by omega
     have k1:(m:Int)+2<=(t.size:Int):=by omega
     have k2:(m:Int)<=(m:Int)+2:=by omega
     have k4:IntKind.i64.wrap ((m:Int)+2)=(m:Int)+2:=by rw [IntKind.wrap_i64];omega
     by_cases hx:t.extract m (m+2)=⟨#[110,56]⟩
     ·have HX:Hid (t.extract m (m+2)=⟨#[110,56]⟩):=hx
      have hy:(t.extract m (m+2) == ⟨#[110,56]⟩)=true:=by rw [hx];rfl
      rw [hx] at s1
      clear hx hy
      go_wp2_with fail
      go_quiet (fail)
      go_wp2_with fail
      go_quiet (fail)
      go_wp2
      go_ret2
      exact ⟨ret_n8 (ha.out.1 (by omega)) (firstAt_hit HM.out.1 HM.out.2.1 HX.out HM.out.2.2),by repeat' (with_reducible first|exact HB.out|refine below_drewN ?_ _)⟩
     ·have HX:Hid (¬ t.extract m (m+2)=⟨#[110,56]⟩):=hx
      have hy:((t.extract m (m+2)).toList == [110,56])=false:=lits_ne hx
      clear hx
      generalize t.extract m (m+2)=X at s1 hy
      go_wp2_with fail
      go_quiet (fail)
      go_wp2_with fail
      go_roundw
      case rel=>exact ⟨m+1,_,by have:=HM.out.2.1;omega,by go_num,rfl,firstAt_next HM.out.1 HM.out.2.1 HX.out HM.out.2.2⟩
      case measure=>have:=HM.out.2.1;simp [intOf];omega
    ·have HE:Hid (at1 t n8=none):=firstAt_end hm hlt he
     clear he
     go_wp2
     go_roundw
     case rel =>
      have HE:=HE.out
      exact ⟨_,.inr (.inr (.inl ⟨rfl,⟨fun _=>ha.out.1 (by omega),fun _=>HE,fun h=>by omega⟩⟩)),rfl⟩
     case measure=>simp [intOf]
  ·have ha:Hid (At t 2):=ha
   go_wp2
   go_loopw [6] (fun i wr=>∃ m n:Nat,m<=t.size/\i=.int .i64 m/\wr=W.drewN n/\at1 t e8=firstAt t e8 (t.size+1-m) m) (fun i _=>t.size-(intOf i).toNat)
   case atStart=>exact ⟨0,n,Nat.zero_le _,rfl,rfl,rfl⟩
   case round =>
    obtain ⟨m,n2,hm,rfl,rfl,he⟩:=hrel
    by_cases hlt:m+2<=t.size
    ·have s1:=slice_2 t m hlt
     have HM:Hid (m<=t.size/\m+2<=t.size/\at1 t e8=firstAt t e8 (t.size+1-m) m):=⟨hm,hlt,he⟩
     clear he
     have k0:(0:Int)<=(m:Int):=by omega
     have k1:(m:Int)+2<=(t.size:Int):=by omega
     have k2:(m:Int)<=(m:Int)+2:=by omega
     have k4:IntKind.i64.wrap ((m:Int)+2)=(m:Int)+2:=by rw [IntKind.wrap_i64];omega
     by_cases hx:t.extract m (m+2)=⟨#[101,56]⟩
     ·have HX:Hid (t.extract m (m+2)=⟨#[101,56]⟩):=hx
      have hy:(t.extract m (m+2) == ⟨#[101,56]⟩)=true:=by rw [hx];rfl
      rw [hx] at s1
      clear hx hy
      go_wp2_with fail
      go_quiet (fail)
      go_wp2_with fail
      go_quiet (fail)
      go_wp2
      go_ret2
      exact ⟨ret_e8 (ha.out.1 (by omega)) (ha.out.2.1 (by omega)) (firstAt_hit HM.out.1 HM.out.2.1 HX.out HM.out.2.2),by repeat' (with_reducible first|exact HB.out|refine below_drewN ?_ _)⟩
     ·have HX:Hid (¬ t.extract m (m+2)=⟨#[101,56]⟩):=hx
      have hy:((t.extract m (m+2)).toList == [101,56])=false:=lits_ne hx
      clear hx
      generalize t.extract m (m+2)=X at s1 hy
      go_wp2_with fail
      go_quiet (fail)
      go_wp2_with fail
      go_roundw
      case rel=>exact ⟨m+1,_,by have:=HM.out.2.1;omega,by go_num,rfl,firstAt_next HM.out.1 HM.out.2.1 HX.out HM.out.2.2⟩
      case measure=>have:=HM.out.2.1;simp [intOf];omega
    ·have HE:Hid (at1 t e8=none):=firstAt_end hm hlt he
     clear he
     go_wp2
     go_roundw
     case rel =>
      have HE:=HE.out
      exact ⟨_,.inr (.inr (.inr ⟨rfl,⟨fun _=>ha.out.1 (by omega),fun _=>ha.out.2.1 (by omega),fun _=>HE⟩⟩)),rfl⟩
     case measure=>simp [intOf]
  ·have ha:Hid (At t 3):=ha
   go_wp2
   go_ret2
   exact ⟨ret_no (ha.out.1 (by omega)) (ha.out.2.1 (by omega)) (ha.out.2.2 (by omega)),by repeat' (with_reducible first|exact HB.out|refine below_drewN ?_ _)⟩
end Go.Proofs.YtkfehdkjeodbmaaGreatDoor.HoleX
namespace Go.Proofs
open Go.Shelf
def Tryz.lays144_ren:Go.Shelf.Ren:=⟨fun|144=>97|143=>116|219=>180|217=>198|225=>199|224=>200|267=>201|266=>209|314=>210|n=>n,fun|9=>9|4=>4|3=>3|5=>5|46=>112|146=>183|51=>182|n=>n,fun|1=>2|n=>n⟩
theorem Tryz.lays144:Go.Proofs.Lays.n144 Tryz.prog Tryz.lays144_ren:={
 mixed:=by kernel_rfl
 f143:=Tryz.func116.trans (congrArg some (by kernel_rfl))
 f144:=Tryz.func97.trans (congrArg some (by kernel_rfl))
 f217:=Tryz.func198.trans (congrArg some (by kernel_rfl))
 f219:=Tryz.func180.trans (congrArg some (by kernel_rfl))
 f224:=Tryz.func200.trans (congrArg some (by kernel_rfl))
 f225:=Tryz.func199.trans (congrArg some (by kernel_rfl))
 f266:=Tryz.func209.trans (congrArg some (by kernel_rfl))
 f267:=Tryz.func201.trans (congrArg some (by kernel_rfl))
 f314:=Tryz.func210.trans (congrArg some (by kernel_rfl))
 t3:=Tryz.underlying3
 a3:=Tryz.isAgg3
 z3:=Tryz.sizeOf3
 v3:=Tryz.zeroValue3
 t4:=Tryz.underlying4
 a4:=Tryz.isAgg4
 z4:=Tryz.sizeOf4
 v4:=Tryz.zeroValue4
 t5:=Tryz.underlying5
 a5:=Tryz.isAgg5
 z5:=Tryz.sizeOf5
 v5:=Tryz.zeroValue5
 t9:=Tryz.underlying9
 a9:=Tryz.isAgg9
 z9:=Tryz.sizeOf9
 v9:=Tryz.zeroValue9
 t46:=Tryz.underlying112
 a46:=Tryz.isAgg112
 z46:=Tryz.sizeOf112
 v46:=Tryz.zeroValue112
 t51:=Tryz.underlying182
 a51:=Tryz.isAgg182
 z51:=Tryz.sizeOf182
 v51:=Tryz.zeroValue182
 t146:=Tryz.underlying183
 a146:=Tryz.isAgg183
 z146:=Tryz.sizeOf183
 v146:=Tryz.zeroValue183
 g1:=by kernel_rfl }
open Go.RowKit Go.Lib in
theorem Tryz.strings_Contains_one (s:ByteArray) (c:UInt8) (w:World) :
  Calls Tryz.prog 97 #[.string s,.string ⟨#[c]⟩] w fun e w'=>e=.returned (.bool (decide (0<=Lib.indexByte s.data.toList c)))/\w'=w:=Any.strings_Contains_one Tryz.lays144 s c w
open Go.RowKit Go.Lib in
theorem Tryz.strings_Contains (s sub:ByteArray) (m:Int) (w:World) (hs:s.size<4294967281) (hm:w.cell? ⟨2,0,none⟩=some (.int .i64 m)) :
  Calls Tryz.prog 97 #[.string s,.string sub] w fun e w'=>e=.returned (.bool (Lib.contains s.data.toList sub.data.toList))/\w'=w:=Any.strings_Contains Tryz.lays144 s sub m w hs hm
def Tryz.laysM144_ren:Go.Shelf.Ren:=⟨fun|144=>97|143=>116|219=>180|217=>198|225=>199|224=>200|267=>201|266=>209|314=>210|n=>n,fun|9=>9|4=>4|3=>3|5=>5|46=>112|146=>183|51=>182|n=>n,fun|1=>2|n=>n⟩
theorem Tryz.laysM144:Go.Proofs.LaysM.n144 Tryz.prog Tryz.laysM144_ren:={
 mixed:=by kernel_rfl
 f143:=Tryz.func116.trans (congrArg some (by kernel_rfl))
 f144:=Tryz.func97.trans (congrArg some (by kernel_rfl))
 f217:=Tryz.func198.trans (congrArg some (by kernel_rfl))
 f219:=Tryz.func180.trans (congrArg some (by kernel_rfl))
 f224:=Tryz.func200.trans (congrArg some (by kernel_rfl))
 f225:=Tryz.func199.trans (congrArg some (by kernel_rfl))
 f266:=Tryz.func209.trans (congrArg some (by kernel_rfl))
 f267:=Tryz.func201.trans (congrArg some (by kernel_rfl))
 f314:=Tryz.func210.trans (congrArg some (by kernel_rfl))
 t3:=Tryz.underlying3
 a3:=Tryz.isAgg3
 z3:=Tryz.sizeOf3
 v3:=Tryz.zeroValue3
 t4:=Tryz.underlying4
 a4:=Tryz.isAgg4
 z4:=Tryz.sizeOf4
 v4:=Tryz.zeroValue4
 t5:=Tryz.underlying5
 a5:=Tryz.isAgg5
 z5:=Tryz.sizeOf5
 v5:=Tryz.zeroValue5
 t9:=Tryz.underlying9
 a9:=Tryz.isAgg9
 z9:=Tryz.sizeOf9
 v9:=Tryz.zeroValue9
 t46:=Tryz.underlying112
 a46:=Tryz.isAgg112
 z46:=Tryz.sizeOf112
 v46:=Tryz.zeroValue112
 t51:=Tryz.underlying182
 a51:=Tryz.isAgg182
 z51:=Tryz.sizeOf182
 v51:=Tryz.zeroValue182
 t146:=Tryz.underlying183
 a146:=Tryz.isAgg183
 z146:=Tryz.sizeOf183
 v146:=Tryz.zeroValue183
 g1:=by kernel_rfl
 i3:=by kernel_rfl
 i4:=by kernel_rfl
 i5:=by kernel_rfl
 i9:=by kernel_rfl
 i46:=by kernel_rfl
 i51:=by kernel_rfl
 i146:=by kernel_rfl
 m1:=by kernel_rfl
 s1_3:=fun w h=>Go.Proofs.cell_of_shapedOpen_int (zero:=#[.int .i64 0]) (t:=3) h (of_decide_eq_true (by kernel_rfl)) (by kernel_rfl) rfl (by kernel_rfl) (by kernel_rfl) Tryz.underlying3 }
end Go.Proofs
namespace Go.Proofs.YtkfehdkjeodbmaaGreatDoor.HolI
open HoleX (n8 n16 e8)
def MaxL (w:World):Prop:=∃ m:Int,w.cell? ⟨2,0,none⟩=some (.int .i64 m)
theorem cell_lt {w:World} {p:Addr} {v:Value} (h:w.cell? p=some v):p.block<w.heap.size:=by
 by_cases hlt:p.block<w.heap.size
 ·exact hlt
 ·exfalso
  simp [World.cell?,Array.getElem?_eq_none (Nat.not_lt.mp hlt)] at h
theorem MaxL.below {w w':World} (h:MaxL w) (b:Below w.heap.size w w'):MaxL w':=by
 obtain ⟨m,hm⟩:=h
 exact ⟨m,by rw [b.cell (cell_lt hm)];exact hm⟩
theorem box {w w':World} {vs:Array Value} {T:TypeId} (h:Below (w.alloc (.cells vs T)).heap.size (w.alloc (.cells vs T)) w') (i:Nat) (v:Value) (hv:vs[i]? = some v):w'.cell? ⟨w.heap.size,i,none⟩=some v:=by
 rw [h.cell (p:=⟨w.heap.size,i,none⟩) (by simp),World.cell?_alloc_new]
 exact hv
theorem unbox {w w':World} {o:Obj} (h:Below (w.alloc o).heap.size (w.alloc o) w'):Below w.heap.size w w':=(zAl _ _).trans (h.mono (by simp))
theorem after {a w w':World} (h:Below a.heap.size a w) (k:Below w.heap.size w w'):Below a.heap.size a w':=h.trans (k.mono h.size)
def holeI (s:ByteArray):ByteArray:=if Lib.contains s.data.toList n8.data.toList=true then n8 else if Lib.contains s.data.toList n16.data.toList=true then n16 else if Lib.contains s.data.toList e8.data.toList=true then e8 else ⟨#[]⟩
theorem holeI_cases (s:ByteArray):holeI s=⟨#[110,56]⟩ \/ holeI s=⟨#[110,49,54]⟩ \/ holeI s=⟨#[101,56]⟩ \/ holeI s=⟨#[]⟩:=by
 unfold holeI
 split
 ·exact .inl rfl
 split
 ·exact .inr (.inl rfl)
 split
 ·exact .inr (.inr (.inl rfl))
 ·exact .inr (.inr (.inr rfl))
def No (s:ByteArray) (i:Nat):Prop:=(1<=i->Lib.contains s.data.toList n8.data.toList=false)/\(2<=i->Lib.contains s.data.toList n16.data.toList=false)/\(3<=i->Lib.contains s.data.toList e8.data.toList=false)
theorem arr_0 (w:World):(Instr.index 157 (.agg #[.string ⟨#[110,56]⟩,.string ⟨#[110,49,54]⟩,.string ⟨#[101,56]⟩]) (.int .i64 0)).run prog w=.ok (.string ⟨#[110,56]⟩) w:=by kernel_rfl
theorem arr_1 (w:World):(Instr.index 157 (.agg #[.string ⟨#[110,56]⟩,.string ⟨#[110,49,54]⟩,.string ⟨#[101,56]⟩]) (.int .i64 1)).run prog w=.ok (.string ⟨#[110,49,54]⟩) w:=by kernel_rfl
theorem arr_2 (w:World):(Instr.index 157 (.agg #[.string ⟨#[110,56]⟩,.string ⟨#[110,49,54]⟩,.string ⟨#[101,56]⟩]) (.int .i64 2)).run prog w=.ok (.string ⟨#[101,56]⟩) w:=by kernel_rfl
theorem holeOf_any (s:ByteArray) (w:World) (hs:s.size<=1000) (hm:MaxL w) :
  Calls prog 179 #[.string s] w fun e w'=>e=.returned (.string (holeI s))/\Below w.heap.size w w':=by
 obtain ⟨m,hm⟩:=hm
 go_enter func179,ntmps179
 have x0:=arr_0
 have x1:=arr_1
 have x2:=arr_2
 have HB:Hid (s.size<4294967281):=by show s.size<4294967281;omega
 clear hs
 go_wp2_with fail
 go_loopw [6] (fun i wr=>((i=.int .i64 0) \/ (i=.int .i64 1/\No s 1) \/ (i=.int .i64 2/\No s 2) \/ (i=.int .i64 3/\No s 3))/\wr=w) (fun i _=>3-(intOf i).toNat)
 case atStart=>exact ⟨.inl rfl,rfl⟩
 case round =>
  obtain ⟨hi,rfl⟩:=hrel
  rcases hi with rfl|⟨rfl,ha⟩|⟨rfl,ha⟩|⟨rfl,ha⟩
  ·cases hc:Lib.contains s.data.toList n8.data.toList
   ·have HC:Hid (Lib.contains s.data.toList n8.data.toList=false):=hc
    have c:=fun w hm=>Tryz.strings_Contains s ⟨#[110,56]⟩ m w HB.out hm
    rw [show Lib.contains s.data.toList (⟨#[110,56]⟩ : ByteArray).data.toList=false from hc] at c
    clear hc
    go_wp2_with (go_at_call 97;refine (c _ hm).mono ?_;rintro e w' ⟨rfl,hw⟩;subst hw)
    go_roundw
    case rel=>exact ⟨.inr (.inl ⟨by go_num,fun _=>HC.out,fun h=>by omega,fun h=>by omega⟩),trivial⟩
    case measure=>simp [intOf]
   ·have c:=fun w hm=>Tryz.strings_Contains s ⟨#[110,56]⟩ m w HB.out hm
    rw [show Lib.contains s.data.toList (⟨#[110,56]⟩ : ByteArray).data.toList=true from hc] at c
    have HR:Hid (Ending.returned (.string ⟨#[110,56]⟩)=.returned (.string (holeI s))):=by show _=_;unfold holeI;rw [if_pos hc];rfl
    clear hc
    go_wp2_with (go_at_call 97;refine (c _ hm).mono ?_;rintro e w' ⟨rfl,hw⟩;subst hw)
    go_ret
    exact ⟨HR.out,Below.refl _ _⟩
  ·have HA:Hid (No s 1):=ha
   clear ha
   cases hc:Lib.contains s.data.toList n16.data.toList
   ·have HC:Hid (Lib.contains s.data.toList n16.data.toList=false):=hc
    have c:=fun w hm=>Tryz.strings_Contains s ⟨#[110,49,54]⟩ m w HB.out hm
    rw [show Lib.contains s.data.toList (⟨#[110,49,54]⟩ : ByteArray).data.toList=false from hc] at c
    clear hc
    go_wp2_with (go_at_call 97;refine (c _ hm).mono ?_;rintro e w' ⟨rfl,hw⟩;subst hw)
    go_roundw
    case rel=>exact ⟨.inr (.inr (.inl ⟨by go_num,fun _=>HA.out.1 (by omega),fun _=>HC.out,fun h=>by omega⟩)),trivial⟩
    case measure=>simp [intOf]
   ·have c:=fun w hm=>Tryz.strings_Contains s ⟨#[110,49,54]⟩ m w HB.out hm
    rw [show Lib.contains s.data.toList (⟨#[110,49,54]⟩ : ByteArray).data.toList=true from hc] at c
    have HR:Hid (Ending.returned (.string ⟨#[110,49,54]⟩)=.returned (.string (holeI s))):=by show _=_;unfold holeI;rw [if_neg (by rw [HA.out.1 (by omega)];decide),if_pos hc];rfl
    clear hc
    go_wp2_with (go_at_call 97;refine (c _ hm).mono ?_;rintro e w' ⟨rfl,hw⟩;subst hw)
    go_ret
    exact ⟨HR.out,Below.refl _ _⟩
  ·have HA:Hid (No s 2):=ha
   clear ha
   cases hc:Lib.contains s.data.toList e8.data.toList
   ·have HC:Hid (Lib.contains s.data.toList e8.data.toList=false):=hc
    have c:=fun w hm=>Tryz.strings_Contains s ⟨#[101,56]⟩ m w HB.out hm
    rw [show Lib.contains s.data.toList (⟨#[101,56]⟩ : ByteArray).data.toList=false from hc] at c
    clear hc
    go_wp2_with (go_at_call 97;refine (c _ hm).mono ?_;rintro e w' ⟨rfl,hw⟩;subst hw)
    go_roundw
    case rel=>exact ⟨.inr (.inr (.inr ⟨by go_num,fun _=>HA.out.1 (by omega),fun _=>HA.out.2.1 (by omega),fun _=>HC.out⟩)),trivial⟩
    case measure=>simp [intOf]
   ·have c:=fun w hm=>Tryz.strings_Contains s ⟨#[101,56]⟩ m w HB.out hm
    rw [show Lib.contains s.data.toList (⟨#[101,56]⟩ : ByteArray).data.toList=true from hc] at c
    have HR:Hid (Ending.returned (.string ⟨#[101,56]⟩)=.returned (.string (holeI s))):=by show _=_;unfold holeI;rw [if_neg (by rw [HA.out.1 (by omega)];decide),if_neg (by rw [HA.out.2.1 (by omega)];decide),if_pos hc];rfl
    clear hc
    go_wp2_with (go_at_call 97;refine (c _ hm).mono ?_;rintro e w' ⟨rfl,hw⟩;subst hw)
    go_ret
    exact ⟨HR.out,Below.refl _ _⟩
  ·have HR:Hid (Ending.returned (.string ⟨#[]⟩)=.returned (.string (holeI s))):=by
    show _=_;unfold holeI;rw [if_neg (by rw [ha.1 (by omega)];decide),if_neg (by rw [ha.2.1 (by omega)];decide),if_neg (by rw [ha.2.2 (by omega)];decide)]
   clear ha
   go_wp2
   go_ret
   exact ⟨HR.out,Below.refl _ _⟩
end Go.Proofs.YtkfehdkjeodbmaaGreatDoor.HolI
namespace Go.Proofs.YtkfehdkjeodbmaaGreatDoor.Stck
open Go.Deep
open Signed (inB sgn ret_int ret_bool)
open Reck ReckS ReckM ReckD TurnS
open Busw Busx Busy Stpp Stpq Stps Sta Stb
theorem z_eq {f:Int} (h0:0<=f) (h1:f<=255):decide (128<=f)=zB f:=by
 unfold zB
 by_cases h:128<=f
 ·rw [decide_eq_true h,decide_eq_true (by omega)]
 ·rw [decide_eq_false h,decide_eq_false (by omega)]
theorem odd_4 (g:SG) (m:M) (full:Bool) (w:World) (h:InS g w m full) (hg:Stpq.Good m) :
  Calls prog 83 #[.pointer (some ⟨g.X,0,none⟩),.int .i64 4] w fun e w'=>e=.returned (.tuple #[])/\InS g w' { m with ra:=(daaR m.ra m.rf).1,rf:=(daaR m.ra m.rf).2 } full:=by
 have hf:=hg.f
 have ha:=hg.a
 have cc:=fun w=>l4Carry_any m.rf w hf.1 hf.2
 have tc:(cy m.rf == 1)=cB m.rf:=by unfold cB;by_cases h:cy m.rf=1 <;> simp [h]
 have tz:=z_eq hf.1 hf.2
 have cd:=fun w=>specDaa_any m.ra m.rf w
 rw [show daa m.ra m.rf=daaR m.ra m.rf by unfold daa;rw [show inB m.ra 0 255=true from decide_eq_true ha,show inB m.rf 0 255=true from decide_eq_true hf];rfl] at cd
 generalize (daaR m.ra m.rf).1=v1 at *
 generalize (daaR m.ra m.rf).2=v2 at *
 have HF:Hid (∀ o,InS g (((w.setCell ⟨g.X,0,none⟩ (.int .i64 v1)).setCell ⟨g.X,1,none⟩ (.int .i64 v2)).alloc o) { m with ra:=v1,rf:=v2 } full):=fun o=>((h.s_ra v1).s_rf v2).below (zRf.alloc (Nat.le_refl _) o)
 have q_ra:=h.cell 0 _ rfl
 have q_rf:=h.cell 1 _ rfl
 have q_rB:=h.cell 2 _ rfl
 have q_rC:=h.cell 3 _ rfl
 have q_rD:=h.cell 4 _ rfl
 have q_rE:=h.cell 5 _ rfl
 have q_rH:=h.cell 6 _ rfl
 have q_rL:=h.cell 7 _ rfl
 have q_sp:=h.cell 8 _ rfl
 have q_pc:=h.cell 9 _ rfl
 have q_ime:=h.cell 10 _ rfl
 have q_hal:=h.cell 11 _ rfl
 have f0:=h.fro 0
 have f1:=h.fro 1
 have hlt:=h.lt
 generalize zB m.rf=zb at *
 generalize cB m.rf=cb at *
 clear h hg hf ha
 go_enter func83,ntmps83
 go_wp2_with first|(go_at_call 74;refine (cc _).mono ?_;rintro e w' ⟨rfl,hw'⟩;have hw':=hw'.symm;subst hw')|(go_at_call 73;refine (l4Flags_any _ _ _ _ _).mono ?_;rintro e w' ⟨rfl,hw'⟩;have hw':=hw'.symm;subst hw')|(go_at_call 111;refine (cd _).mono ?_;rintro e w' ⟨rfl,hw'⟩;have hw':=hw'.symm;subst hw')
 go_end0
 exact ⟨rfl,HF.out _⟩
theorem odd_5 (g:SG) (m:M) (full:Bool) (w:World) (h:InS g w m full) (hg:Stpq.Good m) :
  Calls prog 83 #[.pointer (some ⟨g.X,0,none⟩),.int .i64 5] w fun e w'=>e=.returned (.tuple #[])/\InS g w' { m with ra:=255-m.ra,rf:=fl (zB m.rf) true true (cB m.rf) } full:=by
 have hf:=hg.f
 have ha:=hg.a
 have cc:=fun w=>l4Carry_any m.rf w hf.1 hf.2
 have tc:(cy m.rf == 1)=cB m.rf:=by unfold cB;by_cases h:cy m.rf=1 <;> simp [h]
 have tz:=z_eq hf.1 hf.2
 have d1:IntKind.i64.wrap (255-m.ra)=255-m.ra:=by rw [IntKind.wrap_i64];omega
 generalize zB m.rf=zb at *
 generalize cB m.rf=cb at *
 have HF:Hid (∀ o,InS g (((w.setCell ⟨g.X,0,none⟩ (.int .i64 (255-m.ra))).setCell ⟨g.X,1,none⟩ (.int .i64 (fl zb true true cb))).alloc o) { m with ra:=255-m.ra,rf:=fl zb true true cb } full):=fun o=>((h.s_ra (255-m.ra)).s_rf (fl zb true true cb)).below (zRf.alloc (Nat.le_refl _) o)
 have q_ra:=h.cell 0 _ rfl
 have q_rf:=h.cell 1 _ rfl
 have q_rB:=h.cell 2 _ rfl
 have q_rC:=h.cell 3 _ rfl
 have q_rD:=h.cell 4 _ rfl
 have q_rE:=h.cell 5 _ rfl
 have q_rH:=h.cell 6 _ rfl
 have q_rL:=h.cell 7 _ rfl
 have q_sp:=h.cell 8 _ rfl
 have q_pc:=h.cell 9 _ rfl
 have q_ime:=h.cell 10 _ rfl
 have q_hal:=h.cell 11 _ rfl
 have f0:=h.fro 0
 have f1:=h.fro 1
 have hlt:=h.lt
 clear h hg hf ha
 go_enter func83,ntmps83
 go_wp2_with first|(go_at_call 74;refine (cc _).mono ?_;rintro e w' ⟨rfl,hw'⟩;have hw':=hw'.symm;subst hw')|(go_at_call 73;refine (l4Flags_any _ _ _ _ _).mono ?_;rintro e w' ⟨rfl,hw'⟩;have hw':=hw'.symm;subst hw')
 go_end0
 exact ⟨rfl,HF.out _⟩
theorem odd_6 (g:SG) (m:M) (full:Bool) (w:World) (h:InS g w m full) (hg:Stpq.Good m) :
  Calls prog 83 #[.pointer (some ⟨g.X,0,none⟩),.int .i64 6] w fun e w'=>e=.returned (.tuple #[])/\InS g w' { m with rf:=fl (zB m.rf) false false true } full:=by
 have hf:=hg.f
 have ha:=hg.a
 have cc:=fun w=>l4Carry_any m.rf w hf.1 hf.2
 have tc:(cy m.rf == 1)=cB m.rf:=by unfold cB;by_cases h:cy m.rf=1 <;> simp [h]
 have tz:=z_eq hf.1 hf.2
 generalize zB m.rf=zb at *
 generalize cB m.rf=cb at *
 have HF:Hid (∀ o,InS g ((w.setCell ⟨g.X,1,none⟩ (.int .i64 (fl zb false false true))).alloc o) { m with rf:=fl zb false false true } full):=fun o=>(h.s_rf (fl zb false false true)).below (zRf.alloc (Nat.le_refl _) o)
 have q_ra:=h.cell 0 _ rfl
 have q_rf:=h.cell 1 _ rfl
 have q_rB:=h.cell 2 _ rfl
 have q_rC:=h.cell 3 _ rfl
 have q_rD:=h.cell 4 _ rfl
 have q_rE:=h.cell 5 _ rfl
 have q_rH:=h.cell 6 _ rfl
 have q_rL:=h.cell 7 _ rfl
 have q_sp:=h.cell 8 _ rfl
 have q_pc:=h.cell 9 _ rfl
 have q_ime:=h.cell 10 _ rfl
 have q_hal:=h.cell 11 _ rfl
 have f0:=h.fro 0
 have f1:=h.fro 1
 have hlt:=h.lt
 clear h hg hf ha
 go_enter func83,ntmps83
 go_wp2_with first|(go_at_call 74;refine (cc _).mono ?_;rintro e w' ⟨rfl,hw'⟩;have hw':=hw'.symm;subst hw')|(go_at_call 73;refine (l4Flags_any _ _ _ _ _).mono ?_;rintro e w' ⟨rfl,hw'⟩;have hw':=hw'.symm;subst hw')
 go_end0
 exact ⟨rfl,HF.out _⟩
theorem odd_7 (g:SG) (m:M) (full:Bool) (w:World) (h:InS g w m full) (hg:Stpq.Good m) :
  Calls prog 83 #[.pointer (some ⟨g.X,0,none⟩),.int .i64 7] w fun e w'=>e=.returned (.tuple #[])/\InS g w' { m with rf:=fl (zB m.rf) false false (!cB m.rf) } full:=by
 have hf:=hg.f
 have ha:=hg.a
 have cc:=fun w=>l4Carry_any m.rf w hf.1 hf.2
 have tc:(cy m.rf == 1)=cB m.rf:=by unfold cB;by_cases h:cy m.rf=1 <;> simp [h]
 have tz:=z_eq hf.1 hf.2
 generalize zB m.rf=zb at *
 generalize cB m.rf=cb at *
 have HF:Hid (∀ o,InS g ((w.setCell ⟨g.X,1,none⟩ (.int .i64 (fl zb false false (!cb)))).alloc o) { m with rf:=fl zb false false (!cb) } full):=fun o=>(h.s_rf (fl zb false false (!cb))).below (zRf.alloc (Nat.le_refl _) o)
 have q_ra:=h.cell 0 _ rfl
 have q_rf:=h.cell 1 _ rfl
 have q_rB:=h.cell 2 _ rfl
 have q_rC:=h.cell 3 _ rfl
 have q_rD:=h.cell 4 _ rfl
 have q_rE:=h.cell 5 _ rfl
 have q_rH:=h.cell 6 _ rfl
 have q_rL:=h.cell 7 _ rfl
 have q_sp:=h.cell 8 _ rfl
 have q_pc:=h.cell 9 _ rfl
 have q_ime:=h.cell 10 _ rfl
 have q_hal:=h.cell 11 _ rfl
 have f0:=h.fro 0
 have f1:=h.fro 1
 have hlt:=h.lt
 clear h hg hf ha
 go_enter func83,ntmps83
 go_wp2_with first|(go_at_call 74;refine (cc _).mono ?_;rintro e w' ⟨rfl,hw'⟩;have hw':=hw'.symm;subst hw')|(go_at_call 73;refine (l4Flags_any _ _ _ _ _).mono ?_;rintro e w' ⟨rfl,hw'⟩;have hw':=hw'.symm;subst hw')
 go_end0
 exact ⟨rfl,HF.out _⟩
theorem odd_t (g:SG) (m:M) (full:Bool) (y:Int) (y0:0<=y) (y1:y<=3) (w:World) (h:InS g w m full) (hg:Stpq.Good m) :
  Calls prog 83 #[.pointer (some ⟨g.X,0,none⟩),.int .i64 y] w fun e w'=>e=.returned (.tuple #[])/\InS g w' { m with ra:=(trnR y m.ra m.rf).1,rf:=fl false false false (cB (trnR y m.ra m.rf).2) } full:=by
 have hf:=hg.f
 have ha:=hg.a
 have cc:=fun w=>l4Carry_any m.rf w hf.1 hf.2
 have tc:(cy m.rf == 1)=cB m.rf:=by unfold cB;by_cases h:cy m.rf=1 <;> simp [h]
 have tz:=z_eq hf.1 hf.2
 have ct:=fun w=>l4Turned_any y m.ra m.rf w y0 (by omega) ha.1 ha.2 hf.1 hf.2
 have bt:=trn_bd (op:=y) (f:=m.rf) ha.1 ha.2
 generalize (trnR y m.ra m.rf).1=v1 at *
 generalize (trnR y m.ra m.rf).2=v2 at *
 have cc2:=fun w=>l4Carry_any v2 w bt.2.2.1 bt.2.2.2.1
 have tc2:(cy v2 == 1)=cB v2:=by unfold cB;by_cases h:cy v2=1 <;> simp [h]
 generalize cB v2=cb2 at *
 have e4:¬ y=4:=by omega
 have e5:¬ y=5:=by omega
 have e6:¬ y=6:=by omega
 have e7:¬ y=7:=by omega
 clear bt
 have HF:Hid (∀ o,InS g (((w.setCell ⟨g.X,0,none⟩ (.int .i64 (v1))).setCell ⟨g.X,1,none⟩ (.int .i64 (fl false false false cb2))).alloc o) { m with ra:=v1,rf:=fl false false false cb2 } full):=fun o=>((h.s_ra (v1)).s_rf (fl false false false cb2)).below (zRf.alloc (Nat.le_refl _) o)
 have q_ra:=h.cell 0 _ rfl
 have q_rf:=h.cell 1 _ rfl
 have q_rB:=h.cell 2 _ rfl
 have q_rC:=h.cell 3 _ rfl
 have q_rD:=h.cell 4 _ rfl
 have q_rE:=h.cell 5 _ rfl
 have q_rH:=h.cell 6 _ rfl
 have q_rL:=h.cell 7 _ rfl
 have q_sp:=h.cell 8 _ rfl
 have q_pc:=h.cell 9 _ rfl
 have q_ime:=h.cell 10 _ rfl
 have q_hal:=h.cell 11 _ rfl
 have f0:=h.fro 0
 have f1:=h.fro 1
 have hlt:=h.lt
 generalize zB m.rf=zb at *
 generalize cB m.rf=cb at *
 clear h hg hf ha
 go_enter func83,ntmps83
 go_wp2_with first|(go_at_call 74;refine (cc _).mono ?_;rintro e w' ⟨rfl,hw'⟩;have hw':=hw'.symm;subst hw')|(go_at_call 73;refine (l4Flags_any _ _ _ _ _).mono ?_;rintro e w' ⟨rfl,hw'⟩;have hw':=hw'.symm;subst hw')|(go_at_call 72;refine (ct _).mono ?_;rintro e w' ⟨rfl,hw'⟩;have hw':=hw'.symm;subst hw')|(go_at_call 74;refine (cc2 _).mono ?_;rintro e w' ⟨rfl,hw'⟩;have hw':=hw'.symm;subst hw')
 go_end0
 exact ⟨rfl,HF.out _⟩
theorem oddS (g:SG) (m:M) (full:Bool) (y:Int) (w:World) (h:InS g w m full) (hg:Stpq.Good m) (y0:0<=y) (y1:y<=7) :
  Calls prog 83 #[.pointer (some ⟨g.X,0,none⟩),.int .i64 y] w fun e w'=>e=.returned (.tuple #[])/\InS g w' (oddE y ⟨m,full⟩).m (oddE y ⟨m,full⟩).full:=by
 unfold oddE
 by_cases h4:y=4
 ·subst h4;exact odd_4 g m full w h hg
 rw [if_neg h4]
 by_cases h5:y=5
 ·subst h5;exact odd_5 g m full w h hg
 rw [if_neg h5]
 by_cases h6:y=6
 ·subst h6;exact odd_6 g m full w h hg
 rw [if_neg h6]
 by_cases h7:y=7
 ·subst h7;exact odd_7 g m full w h hg
 rw [if_neg h7]
 exact odd_t g m full y y0 (by omega) w h hg
theorem cb_0 (g:SG) (m:M) (full:Bool) (c imm y z:Int) (c0:0<=c) (hx:c / 64=0) (hy:c / 8%8=y) (hz:c%8=z) (y0:0<=y) (y1:y<=7) (z0:0<=z) (z1:z<=7) (w:World) (h:InS g w m full) (hg:Stpq.Good m) :
  Calls prog 48 #[.pointer (some ⟨g.X,0,none⟩),.agg #[.int .i64 c,.bool true,.int .i64 imm]] w fun e w'=>e=.returned (.tuple #[])/\InS g w' (F (put ⟨m,full⟩ z (trnR y (Stpp.get m z) m.rf).1) (trnR y (Stpp.get m z) m.rf).2).m (F (put ⟨m,full⟩ z (trnR y (Stpp.get m z) m.rf).1) (trnR y (Stpp.get m z) m.rf).2).full:=by
 have gb:=get_bd hg z
 have HR:Hid (∀ W,Below w.heap.size w W->Calls prog 51 #[.pointer (some ⟨g.X,0,none⟩),.int .i64 z] W fun e w'=>e=.returned (.int .i64 (Stpp.get m z))/\Below W.heap.size W w'):=fun W hb=>regS g m full z W (h.below hb) hg z0 z1
 have HI:Hid (∀ W,Below w.heap.size w W->InS g W m full):=fun W hb=>h.below hb
 have t1:c.tdiv 8=c / 8:=Int.tdiv_eq_ediv_of_nonneg c0
 have t2:(c / 8).tmod 8=y:=by rw [Int.tmod_eq_emod_of_nonneg (by omega)];exact hy
 have t3:c.tmod 8=z:=by rw [Int.tmod_eq_emod_of_nonneg c0];exact hz
 have t4:c.tdiv 64=0:=by rw [Int.tdiv_eq_ediv_of_nonneg c0];exact hx
 have t5:IntKind.i64.wrap (c / 8)=c / 8:=by rw [IntKind.wrap_i64];omega
 have t6:IntKind.u64.wrap y=y:=by rw [IntKind.wrap_u64];omega
 have t7:IntKind.i64.wrap (2 ^ y.toNat)=bitV y:=by
  have hn:y=0 \/ y=1 \/ y=2 \/ y=3 \/ y=4 \/ y=5 \/ y=6 \/ y=7:=by omega
  rcases hn with rfl|rfl|rfl|rfl|rfl|rfl|rfl|rfl
  all_goals decide +kernel
 have hf:=hg.f
 have ct:=fun w=>l4Turned_any y (Stpp.get m z) m.rf w y0 y1 gb.1 gb.2 hf.1 hf.2
 have bd:=trn_bd (op:=y) (f:=m.rf) gb.1 gb.2
 generalize (trnR y (Stpp.get m z) m.rf).1=v1 at *
 generalize (trnR y (Stpp.get m z) m.rf).2=v2 at *
 have c3:Hid (∀ W,InS g W m full->Calls prog 50 #[.pointer (some ⟨g.X,0,none⟩),.int .i64 z,.int .i64 v1] W fun e w'=>e=.returned (.tuple #[])/\InS g w' (put ⟨m,full⟩ z v1).m (put ⟨m,full⟩ z v1).full):=fun W hi=>setS g m full _ _ W hi hg z0 z1 bd.1 bd.2.1
 generalize put ⟨m,full⟩ z v1=t at *
 clear bd hf
 clear h hg gb hx hy hz
 generalize Stpp.get m z=v at *
 generalize bitV y=bt at *
 go_enter func48,ntmps48
 go_wp2_with fail
 refine Calls.mono (HR.out _ (by repeat (with_reducible first|exact zRf|refine zGr ?_ _|refine below_drewN ?_ _|refine Below.drew ?_))) ?_
 rintro e w1 ⟨rfl,hb1⟩
 have k0:=HolI.box hb1 0 _ rfl
 have H1:Hid (InS g w1 m full):=HI.out _ (HolI.unbox hb1)
 clear hb1 HR HI
 have q1:=H1.out.cell 1 _ rfl
 go_wp2_with (go_at_call 72;refine (ct _).mono ?_;rintro e w' ⟨rfl,hw'⟩;have hw':=hw'.symm;subst hw')
 refine Calls.mono (c3.out _ H1.out) ?_
 rintro e w2 ⟨rfl,hi2⟩
 have H2:Hid (InS g w2 t.m t.full):=hi2
 clear hi2 H1 c3 q1
 have q_rf:=H2.out.cell 1 _ rfl
 have f_rf:=H2.out.fro 1
 have HF:Hid (InS g (w2.setCell ⟨g.X,1,none⟩ (.int .i64 v2)) { t.m with rf:=v2 } t.full):=H2.out.s_rf v2
 clear H2
 go_wp2
 go_end0
 exact ⟨rfl,HF.out⟩
theorem cb_1 (g:SG) (m:M) (full:Bool) (c imm y z:Int) (c0:0<=c) (hx:c / 64=1) (hy:c / 8%8=y) (hz:c%8=z) (y0:0<=y) (y1:y<=7) (z0:0<=z) (z1:z<=7) (w:World) (h:InS g w m full) (hg:Stpq.Good m) :
  Calls prog 48 #[.pointer (some ⟨g.X,0,none⟩),.agg #[.int .i64 c,.bool true,.int .i64 imm]] w fun e w'=>e=.returned (.tuple #[])/\InS g w' (F ⟨m,full⟩ (fl (decide (bits .and .i64 (Stpp.get m z) (bitV y)=0)) false true (cB m.rf))).m (F ⟨m,full⟩ (fl (decide (bits .and .i64 (Stpp.get m z) (bitV y)=0)) false true (cB m.rf))).full:=by
 have gb:=get_bd hg z
 have HR:Hid (∀ W,Below w.heap.size w W->Calls prog 51 #[.pointer (some ⟨g.X,0,none⟩),.int .i64 z] W fun e w'=>e=.returned (.int .i64 (Stpp.get m z))/\Below W.heap.size W w'):=fun W hb=>regS g m full z W (h.below hb) hg z0 z1
 have HI:Hid (∀ W,Below w.heap.size w W->InS g W m full):=fun W hb=>h.below hb
 have t1:c.tdiv 8=c / 8:=Int.tdiv_eq_ediv_of_nonneg c0
 have t2:(c / 8).tmod 8=y:=by rw [Int.tmod_eq_emod_of_nonneg (by omega)];exact hy
 have t3:c.tmod 8=z:=by rw [Int.tmod_eq_emod_of_nonneg c0];exact hz
 have t4:c.tdiv 64=1:=by rw [Int.tdiv_eq_ediv_of_nonneg c0];exact hx
 have t5:IntKind.i64.wrap (c / 8)=c / 8:=by rw [IntKind.wrap_i64];omega
 have t6:IntKind.u64.wrap y=y:=by rw [IntKind.wrap_u64];omega
 have t7:IntKind.i64.wrap (2 ^ y.toNat)=bitV y:=by
  have hn:y=0 \/ y=1 \/ y=2 \/ y=3 \/ y=4 \/ y=5 \/ y=6 \/ y=7:=by omega
  rcases hn with rfl|rfl|rfl|rfl|rfl|rfl|rfl|rfl
  all_goals decide +kernel
 have hf:=hg.f
 have cc:=fun w=>l4Carry_any m.rf w hf.1 hf.2
 have tc:(cy m.rf == 1)=cB m.rf:=by unfold cB;by_cases h:cy m.rf=1 <;> simp [h]
 generalize cB m.rf=cb at *
 obtain ⟨vb,hvb⟩ : ∃ x,bits .and .i64 (Stpp.get m z) (bitV y)=x:=⟨_,rfl⟩
 rw [hvb]
 have hzz:(vb == 0)=decide (vb=0):=by by_cases h:vb=0 <;> simp [h]
 generalize decide (vb=0)=db at *
 clear hf
 clear h hg gb hx hy hz
 generalize Stpp.get m z=v at *
 generalize bitV y=bt at *
 go_enter func48,ntmps48
 go_wp2_with fail
 refine Calls.mono (HR.out _ (by repeat (with_reducible first|exact zRf|refine zGr ?_ _|refine below_drewN ?_ _|refine Below.drew ?_))) ?_
 rintro e w1 ⟨rfl,hb1⟩
 have k0:=HolI.box hb1 0 _ rfl
 have H1:Hid (InS g w1 m full):=HI.out _ (HolI.unbox hb1)
 clear hb1 HR HI
 have q1:=H1.out.cell 1 _ rfl
 have q_rf:=H1.out.cell 1 _ rfl
 have f_rf:=H1.out.fro 1
 have HF:Hid (InS g (w1.setCell ⟨g.X,1,none⟩ (.int .i64 (fl db false true cb))) { m with rf:=(fl db false true cb) } full):=H1.out.s_rf (fl db false true cb)
 clear H1
 go_wp2_with first|(go_at_call 74;refine (cc _).mono ?_;rintro e w' ⟨rfl,hw'⟩;have hw':=hw'.symm;subst hw')|(go_at_call 73;refine (l4Flags_any _ _ _ _ _).mono ?_;rintro e w' ⟨rfl,hw'⟩;have hw':=hw'.symm;subst hw')
 go_end0
 exact ⟨rfl,HF.out⟩
theorem cb_2 (g:SG) (m:M) (full:Bool) (c imm y z:Int) (c0:0<=c) (hx:c / 64=2) (hy:c / 8%8=y) (hz:c%8=z) (y0:0<=y) (y1:y<=7) (z0:0<=z) (z1:z<=7) (w:World) (h:InS g w m full) (hg:Stpq.Good m) :
  Calls prog 48 #[.pointer (some ⟨g.X,0,none⟩),.agg #[.int .i64 c,.bool true,.int .i64 imm]] w fun e w'=>e=.returned (.tuple #[])/\InS g w' (put ⟨m,full⟩ z (bits .andNot .i64 (Stpp.get m z) (bitV y))).m (put ⟨m,full⟩ z (bits .andNot .i64 (Stpp.get m z) (bitV y))).full:=by
 have gb:=get_bd hg z
 have HR:Hid (∀ W,Below w.heap.size w W->Calls prog 51 #[.pointer (some ⟨g.X,0,none⟩),.int .i64 z] W fun e w'=>e=.returned (.int .i64 (Stpp.get m z))/\Below W.heap.size W w'):=fun W hb=>regS g m full z W (h.below hb) hg z0 z1
 have HI:Hid (∀ W,Below w.heap.size w W->InS g W m full):=fun W hb=>h.below hb
 have t1:c.tdiv 8=c / 8:=Int.tdiv_eq_ediv_of_nonneg c0
 have t2:(c / 8).tmod 8=y:=by rw [Int.tmod_eq_emod_of_nonneg (by omega)];exact hy
 have t3:c.tmod 8=z:=by rw [Int.tmod_eq_emod_of_nonneg c0];exact hz
 have t4:c.tdiv 64=2:=by rw [Int.tdiv_eq_ediv_of_nonneg c0];exact hx
 have t5:IntKind.i64.wrap (c / 8)=c / 8:=by rw [IntKind.wrap_i64];omega
 have t6:IntKind.u64.wrap y=y:=by rw [IntKind.wrap_u64];omega
 have t7:IntKind.i64.wrap (2 ^ y.toNat)=bitV y:=by
  have hn:y=0 \/ y=1 \/ y=2 \/ y=3 \/ y=4 \/ y=5 \/ y=6 \/ y=7:=by omega
  rcases hn with rfl|rfl|rfl|rfl|rfl|rfl|rfl|rfl
  all_goals decide +kernel
 have bd:=andNot_bd gb.1 gb.2 y
 have c3:Hid (∀ W,InS g W m full->Calls prog 50 #[.pointer (some ⟨g.X,0,none⟩),.int .i64 z,.int .i64 (bits .andNot .i64 (Stpp.get m z) (bitV y))] W fun e w'=>e=.returned (.tuple #[])/\InS g w' (put ⟨m,full⟩ z (bits .andNot .i64 (Stpp.get m z) (bitV y))).m (put ⟨m,full⟩ z (bits .andNot .i64 (Stpp.get m z) (bitV y))).full):=fun W hi=>setS g m full _ _ W hi hg z0 z1 bd.1 bd.2
 generalize put ⟨m,full⟩ z (bits .andNot .i64 (Stpp.get m z) (bitV y))=t at *
 clear bd
 clear h hg gb hx hy hz
 generalize Stpp.get m z=v at *
 generalize bitV y=bt at *
 go_enter func48,ntmps48
 go_wp2_with fail
 refine Calls.mono (HR.out _ (by repeat (with_reducible first|exact zRf|refine zGr ?_ _|refine below_drewN ?_ _|refine Below.drew ?_))) ?_
 rintro e w1 ⟨rfl,hb1⟩
 have k0:=HolI.box hb1 0 _ rfl
 have H1:Hid (InS g w1 m full):=HI.out _ (HolI.unbox hb1)
 clear hb1 HR HI
 go_wp2_with fail
 refine Calls.mono (c3.out _ H1.out) ?_
 rintro e w2 ⟨rfl,hi2⟩
 have H2:Hid (InS g w2 t.m t.full):=hi2
 clear hi2 H1 c3
 go_wp2
 go_end0
 exact ⟨rfl,H2.out⟩
theorem cb_3 (g:SG) (m:M) (full:Bool) (c imm y z:Int) (c0:0<=c) (hx:c / 64=3) (hy:c / 8%8=y) (hz:c%8=z) (y0:0<=y) (y1:y<=7) (z0:0<=z) (z1:z<=7) (w:World) (h:InS g w m full) (hg:Stpq.Good m) :
  Calls prog 48 #[.pointer (some ⟨g.X,0,none⟩),.agg #[.int .i64 c,.bool true,.int .i64 imm]] w fun e w'=>e=.returned (.tuple #[])/\InS g w' (put ⟨m,full⟩ z (bits .or .i64 (Stpp.get m z) (bitV y))).m (put ⟨m,full⟩ z (bits .or .i64 (Stpp.get m z) (bitV y))).full:=by
 have gb:=get_bd hg z
 have HR:Hid (∀ W,Below w.heap.size w W->Calls prog 51 #[.pointer (some ⟨g.X,0,none⟩),.int .i64 z] W fun e w'=>e=.returned (.int .i64 (Stpp.get m z))/\Below W.heap.size W w'):=fun W hb=>regS g m full z W (h.below hb) hg z0 z1
 have HI:Hid (∀ W,Below w.heap.size w W->InS g W m full):=fun W hb=>h.below hb
 have t1:c.tdiv 8=c / 8:=Int.tdiv_eq_ediv_of_nonneg c0
 have t2:(c / 8).tmod 8=y:=by rw [Int.tmod_eq_emod_of_nonneg (by omega)];exact hy
 have t3:c.tmod 8=z:=by rw [Int.tmod_eq_emod_of_nonneg c0];exact hz
 have t4:c.tdiv 64=3:=by rw [Int.tdiv_eq_ediv_of_nonneg c0];exact hx
 have t5:IntKind.i64.wrap (c / 8)=c / 8:=by rw [IntKind.wrap_i64];omega
 have t6:IntKind.u64.wrap y=y:=by rw [IntKind.wrap_u64];omega
 have t7:IntKind.i64.wrap (2 ^ y.toNat)=bitV y:=by
  have hn:y=0 \/ y=1 \/ y=2 \/ y=3 \/ y=4 \/ y=5 \/ y=6 \/ y=7:=by omega
  rcases hn with rfl|rfl|rfl|rfl|rfl|rfl|rfl|rfl
  all_goals decide +kernel
 have bd:=orBit_bd gb.1 gb.2 y
 have c3:Hid (∀ W,InS g W m full->Calls prog 50 #[.pointer (some ⟨g.X,0,none⟩),.int .i64 z,.int .i64 (bits .or .i64 (Stpp.get m z) (bitV y))] W fun e w'=>e=.returned (.tuple #[])/\InS g w' (put ⟨m,full⟩ z (bits .or .i64 (Stpp.get m z) (bitV y))).m (put ⟨m,full⟩ z (bits .or .i64 (Stpp.get m z) (bitV y))).full):=fun W hi=>setS g m full _ _ W hi hg z0 z1 bd.1 bd.2
 generalize put ⟨m,full⟩ z (bits .or .i64 (Stpp.get m z) (bitV y))=t at *
 clear bd
 clear h hg gb hx hy hz
 generalize Stpp.get m z=v at *
 generalize bitV y=bt at *
 go_enter func48,ntmps48
 go_wp2_with fail
 refine Calls.mono (HR.out _ (by repeat (with_reducible first|exact zRf|refine zGr ?_ _|refine below_drewN ?_ _|refine Below.drew ?_))) ?_
 rintro e w1 ⟨rfl,hb1⟩
 have k0:=HolI.box hb1 0 _ rfl
 have H1:Hid (InS g w1 m full):=HI.out _ (HolI.unbox hb1)
 clear hb1 HR HI
 go_wp2_with fail
 refine Calls.mono (c3.out _ H1.out) ?_
 rintro e w2 ⟨rfl,hi2⟩
 have H2:Hid (InS g w2 t.m t.full):=hi2
 clear hi2 H1 c3
 go_wp2
 go_end0
 exact ⟨rfl,H2.out⟩
theorem cbS (g:SG) (m:M) (full:Bool) (c imm:Int) (c0:0<=c) (c1:c<=255) (w:World) (h:InS g w m full) (hg:Stpq.Good m) :
  Calls prog 48 #[.pointer (some ⟨g.X,0,none⟩),.agg #[.int .i64 c,.bool true,.int .i64 imm]] w fun e w'=>e=.returned (.tuple #[])/\InS g w' (cbE c ⟨m,full⟩).m (cbE c ⟨m,full⟩).full:=by
 unfold cbE
 by_cases h0:c / 64=0
 ·rw [if_pos h0];exact cb_0 g m full c imm _ _ c0 h0 rfl rfl (by omega) (by omega) (by omega) (by omega) w h hg
 rw [if_neg h0]
 by_cases h1:c / 64=1
 ·rw [if_pos h1];exact cb_1 g m full c imm _ _ c0 h1 rfl rfl (by omega) (by omega) (by omega) (by omega) w h hg
 rw [if_neg h1]
 by_cases h2:c / 64=2
 ·rw [if_pos h2];exact cb_2 g m full c imm _ _ c0 h2 rfl rfl (by omega) (by omega) (by omega) (by omega) w h hg
 rw [if_neg h2]
 exact cb_3 g m full c imm _ _ c0 (by omega) rfl rfl (by omega) (by omega) (by omega) (by omega) w h hg
theorem stq {g:SG} {w:World} {m:M} {full:Bool} {c imm:Int} (h:InS g w m full):∃ u,u=w.alloc (.cells #[.int .i64 c,.bool false,.int .i64 imm] 77)/\InS g u m full/\Hid (InS g u m full)/\u.cell? ⟨w.heap.size,0,none⟩=some (.int .i64 c)/\u.cell? ⟨w.heap.size,2,none⟩=some (.int .i64 imm)/\Hid (w.heap.size<u.heap.size/\¬ w.heap.size=g.X):=by
 have hI:=h.below (zAl w (.cells #[.int .i64 c,.bool false,.int .i64 imm] 77))
 exact ⟨_,rfl,hI,hI,by rw [World.cell?_alloc_new];rfl,by rw [World.cell?_alloc_new];rfl,by simp,by have:=h.lt;omega⟩
end Go.Proofs.YtkfehdkjeodbmaaGreatDoor.Stck
namespace Go.Proofs.YtkfehdkjeodbmaaGreatDoor.Stcz
open Go.Deep
open Signed (inB sgn ret_int ret_bool)
open Reck ReckS ReckM ReckD TurnS
open Busw Busx Busy Stpp Stpq Stps Sta Stb Stck
theorem inT {n lo hi:Int} (h:lo<=n/\n<=hi):inB n lo hi=true:=decide_eq_true h
theorem st8_in {v f:Int} {d:Bool} (h1:0<=v/\v<=255) (h3:0<=f/\f<=255):st8 v f d=st8R v f d:=by unfold st8;rw [inT h1,inT h3];rfl
theorem aw_in {a b f:Int} (h1:0<=a/\a<=65535) (h2:0<=b/\b<=65535) (h3:0<=f/\f<=255):aw a b f=awR a b f:=by unfold aw;rw [inT h1,inT h2,inT h3];rfl
theorem asg_in {a b:Int} (h1:0<=a/\a<=65535) (h2:0<=b/\b<=255):asg a b=asR a b:=by unfold asg;rw [inT h1,inT h2];rfl
theorem rebase {g:SG} {W:World} {m:M} {full:Bool} (h:InS g W m full):InS ⟨W,g.X⟩ W m full:=by
 obtain ⟨po,cap,h⟩:=h
 exact ⟨po,cap,h.box,h.sl,h.ne,⟨rfl,rfl,rfl,Nat.le_refl _,fun _ _ _=>rfl⟩⟩
theorem back {g:SG} {W W':World} {m m':M} {full full':Bool} (h:InS g W m full) (h2:InS ⟨W,g.X⟩ W' m' full'):InS g W' m' full'/\W.grownBy W' (some g.X):=by
 obtain ⟨po,cap,h⟩:=h
 obtain ⟨po',cap',h2⟩:=h2
 exact ⟨⟨po',cap',h2.box,h2.sl,h2.ne,grown_trans h.grown h2.grown⟩,h2.grown⟩
theorem both {g:SG} {f:FuncId} {args:Array Value} {W:World} {m m':M} {full full':Bool} {v:Value} (h:InS g W m full) (hc:∀ g':SG,g'.X=g.X->InS g' W m full->Calls prog f args W fun e w'=>e=.returned v/\InS g' w' m' full'):Calls prog f args W fun e w'=>e=.returned v/\InS g w' m' full'/\W.grownBy w' (some g.X) :=
 (hc ⟨W,g.X⟩ rfl (rebase h)).mono fun e w' h'=>⟨h'.1,(back h h'.2).1,(back h h'.2).2⟩
theorem kept_cell {w w':World} {X b i:Nat} {v:Value} (h:w.grownBy w' (some X)) (hb:b<w.heap.size) (hx:¬ b=X) (hv:w.cell? ⟨b,i,none⟩=some v):w'.cell? ⟨b,i,none⟩=some v :=
 (World.cell?_of_block (a:=⟨b,i,none⟩) (h.block b hb (fun e=>hx (Option.some.inj e)))).trans hv
end Go.Proofs.YtkfehdkjeodbmaaGreatDoor.Stcz
