import Derived.Test.YtbofcepdckpkkaaGreatDoorP04
import Derived.Maps.AppendAt
import Derived.Lib.IndexMore
import Derived.Lib.IndexBytes
set_option linter.all false
set_option maxRecDepth 20000
set_option maxHeartbeats 8000000
open Go.ChangeShapes Go.WideShapes Go.ChangeAt Go.RowKit
open Go.Proofs.Tryz
namespace Go.Proofs.YtbofcepdckpkkaaGreatDoor
namespace Stepx
open Names (nameB)
open Go.Proofs.YtbofcepdckpkkaaGreatDoor.Steps (nodeB)
abbrev Node:=Int × Int × ByteArray
def Nodes (w:World) (a:Option Addr) (L:List Node):Prop :=
 L=[] \/ ∃ b off,a=some ⟨b,off,none⟩/\b<w.heap.size/\∀ i (h:i<L.length),w.cell? ⟨b,off+i*3,none⟩=some (.int .i64 L[i].1)/\w.cell? ⟨b,off+i*3+1,none⟩=some (.int .i64 L[i].2.1)/\w.cell? ⟨b,off+i*3+2,none⟩=some (.string L[i].2.2)/\L[i].2.2.size<=maxLen
def takes (k:Int):Int:=if k<=3 then 0 else if k<=7 then 1 else 2
def run:Int->List Node->Option Int
 | v,[]=>some v
 | v,x :: r=>if nodeB x.1 x.2.1 x.2.2=true/\takes x.1<=v then run (v+(1-takes x.1)) r else none
def exprB (L:List Node):Bool:=decide (L.length<=30) && (run 0 L == some 1)
theorem new3 (w:World) (o1 o2:Obj) (v:Value) (t:TypeId):∀ j u,[v][j]? = some u->(((w.alloc o1).alloc o2).alloc (.cells #[v] t)).cell? ((⟨w.heap.size+1+1,0,none⟩ : Addr).add j)=some u:=by
 have h:=cell_one_new ((w.alloc o1).alloc o2) v t
 simpa using h
end Stepx
namespace Hole
theorem below_drewN {B:Nat} {a b:World} (h:Below B a b) (n:Nat):Below B a (b.drewN n):=⟨h.os,h.tape,h.output,h.size,h.block⟩
theorem slice_3 (s:ByteArray) (k:Nat) (h:k+3<=s.size) (w:World):(Instr.slice 9 (.string s) (some (.int .i64 (k:Int))) (some (.int .i64 ((k:Int)+3))) none).run prog w=.ok (.string (s.extract k (k+3))) w:=by
 have:=run_slice_string (P:=prog) w 9 s .i64 .i64 (k:Int) ((k:Int)+3) underlying9 (by omega) (by omega) (by omega)
 rw [show ((k:Int)+3).toNat=k+3 by omega,Int.toNat_natCast] at this
 exact this
theorem slice_2 (s:ByteArray) (k:Nat) (h:k+2<=s.size) (w:World):(Instr.slice 9 (.string s) (some (.int .i64 (k:Int))) (some (.int .i64 ((k:Int)+2))) none).run prog w=.ok (.string (s.extract k (k+2))) w:=by
 have:=run_slice_string (P:=prog) w 9 s .i64 .i64 (k:Int) ((k:Int)+2) underlying9 (by omega) (by omega) (by omega)
 rw [show ((k:Int)+2).toNat=k+2 by omega,Int.toNat_natCast] at this
 exact this
def Told (e:Ending):Prop:=∃ (i:Int) (h:ByteArray),e=.returned (.tuple #[.int .i64 i,.string h])
theorem hole_any (t:ByteArray) (w:World) (ht:t.size<=1000) :
  Calls prog 22 #[.string t] w fun e w'=>Told e/\Below w.heap.size w w':=by
 go_enter func22,ntmps22
 go_wp2
 have HB:Hid (Below w.heap.size w (w.alloc (.cells #[.string ⟨#[110,49,54]⟩,.string ⟨#[110,56]⟩,.string ⟨#[101,56]⟩] 9))):=zAl _ _
 have c0:(w.alloc (.cells #[.string ⟨#[110,49,54]⟩,.string ⟨#[110,56]⟩,.string ⟨#[101,56]⟩] 9)).cell? ⟨w.heap.size,0,none⟩=some (.string ⟨#[110,49,54]⟩):=World.cell?_alloc_new _ _ _ _
 have c1:(w.alloc (.cells #[.string ⟨#[110,49,54]⟩,.string ⟨#[110,56]⟩,.string ⟨#[101,56]⟩] 9)).cell? ⟨w.heap.size,1,none⟩=some (.string ⟨#[110,56]⟩):=World.cell?_alloc_new _ _ _ _
 have c2:(w.alloc (.cells #[.string ⟨#[110,49,54]⟩,.string ⟨#[110,56]⟩,.string ⟨#[101,56]⟩] 9)).cell? ⟨w.heap.size,2,none⟩=some (.string ⟨#[101,56]⟩):=World.cell?_alloc_new _ _ _ _
 generalize w.alloc (.cells #[.string ⟨#[110,49,54]⟩,.string ⟨#[110,56]⟩,.string ⟨#[101,56]⟩] 9)=W at *
 go_loopw [5] (fun i wr=>∃ n:Nat,(i=.int .i64 0 \/ i=.int .i64 1 \/ i=.int .i64 2 \/ i=.int .i64 3)/\wr=W.drewN n) (fun i _=>3-(intOf i).toNat)
 case atStart=>exact ⟨0,.inl rfl,rfl⟩
 case round =>
  obtain ⟨n,hi,rfl⟩:=hrel
  rcases hi with rfl|rfl|rfl|rfl
  ·go_wp2
   go_loopw [6] (fun i wr=>∃ m n:Nat,m<=t.size/\i=.int .i64 m/\wr=W.drewN n) (fun i _=>t.size-(intOf i).toNat)
   case atStart=>exact ⟨0,n,Nat.zero_le _,rfl,rfl⟩
   case round =>
    obtain ⟨m,n2,hm,rfl,rfl⟩:=hrel
    by_cases hlt:m+3<=t.size
    ·have s1:=slice_3 t m hlt
     have k0:(0:Int)<=(m:Int):=by omega
     have k1:(m:Int)+3<=(t.size:Int):=by omega
     have k2:(m:Int)<=(m:Int)+3:=by omega
     have k4:IntKind.i64.wrap ((m:Int)+3)=(m:Int)+3:=by rw [IntKind.wrap_i64];omega
     have HN:Hid (m+1<=t.size):=by show m+1<=t.size;omega
     go_wp2_with fail
     go_quiet (fail)
     go_wp2_with fail
     ·go_quiet (fail)
      go_wp2
      go_ret2
      exact ⟨⟨_,_,rfl⟩,by repeat' (with_reducible first|exact HB.out|refine below_drewN ?_ _)⟩
     ·go_roundw
      case rel=>exact ⟨m+1,_,HN.out,by go_num,rfl⟩
      case measure=>have:=HN.out;simp [intOf];omega
    ·go_wp2
     go_roundw
     case rel=>exact ⟨_,.inr (.inl rfl),rfl⟩
     case measure=>simp [intOf]
  ·go_wp2
   go_loopw [6] (fun i wr=>∃ m n:Nat,m<=t.size/\i=.int .i64 m/\wr=W.drewN n) (fun i _=>t.size-(intOf i).toNat)
   case atStart=>exact ⟨0,n,Nat.zero_le _,rfl,rfl⟩
   case round =>
    obtain ⟨m,n2,hm,rfl,rfl⟩:=hrel
    by_cases hlt:m+2<=t.size
    ·have s1:=slice_2 t m hlt
     have k0:(0:Int)<=(m:Int):=by omega
     have k1:(m:Int)+2<=(t.size:Int):=by omega
     have k2:(m:Int)<=(m:Int)+2:=by omega
     have k4:IntKind.i64.wrap ((m:Int)+2)=(m:Int)+2:=by rw [IntKind.wrap_i64];omega
     have HN:Hid (m+1<=t.size):=by show m+1<=t.size;omega
     go_wp2_with fail
     go_quiet (fail)
     go_wp2_with fail
     ·go_quiet (fail)
      go_wp2
      go_ret2
      exact ⟨⟨_,_,rfl⟩,by repeat' (with_reducible first|exact HB.out|refine below_drewN ?_ _)⟩
     ·go_roundw
      case rel=>exact ⟨m+1,_,HN.out,by go_num,rfl⟩
      case measure=>have:=HN.out;simp [intOf];omega
    ·go_wp2
     go_roundw
     case rel=>exact ⟨_,.inr (.inr (.inl rfl)),rfl⟩
     case measure=>simp [intOf]
  ·go_wp2
   go_loopw [6] (fun i wr=>∃ m n:Nat,m<=t.size/\i=.int .i64 m/\wr=W.drewN n) (fun i _=>t.size-(intOf i).toNat)
   case atStart=>exact ⟨0,n,Nat.zero_le _,rfl,rfl⟩
   case round =>
    obtain ⟨m,n2,hm,rfl,rfl⟩:=hrel
    by_cases hlt:m+2<=t.size
    ·have s1:=slice_2 t m hlt
     have k0:(0:Int)<=(m:Int):=by omega
     have k1:(m:Int)+2<=(t.size:Int):=by omega
     have k2:(m:Int)<=(m:Int)+2:=by omega
     have k4:IntKind.i64.wrap ((m:Int)+2)=(m:Int)+2:=by rw [IntKind.wrap_i64];omega
     have HN:Hid (m+1<=t.size):=by show m+1<=t.size;omega
     go_wp2_with fail
     go_quiet (fail)
     go_wp2_with fail
     ·go_quiet (fail)
      go_wp2
      go_ret2
      exact ⟨⟨_,_,rfl⟩,by repeat' (with_reducible first|exact HB.out|refine below_drewN ?_ _)⟩
     ·go_roundw
      case rel=>exact ⟨m+1,_,HN.out,by go_num,rfl⟩
      case measure=>have:=HN.out;simp [intOf];omega
    ·go_wp2
     go_roundw
     case rel=>exact ⟨_,.inr (.inr (.inr rfl)),rfl⟩
     case measure=>simp [intOf]
  ·go_wp2
   go_ret2
   exact ⟨⟨_,_,rfl⟩,by repeat' (with_reducible first|exact HB.out|refine below_drewN ?_ _)⟩
end Hole
namespace HoleX
open Hole (below_drewN slice_3 slice_2)
def firstAt (t h:ByteArray):Nat->Nat->Option Nat
 | 0,_=>none
 | f+1,k=>if k+h.size<=t.size then (if t.extract k (k+h.size)=h then some k else firstAt t h f (k+1)) else none
def n16:ByteArray:=⟨#[110,49,54]⟩
def n8:ByteArray:=⟨#[110,56]⟩
def e8:ByteArray:=⟨#[101,56]⟩
def at1 (t h:ByteArray):Option Nat:=firstAt t h (t.size+1) 0
def holeP (t:ByteArray):Int :=
 match at1 t n16 with
 | some k=>k
 | none=>match at1 t n8 with
  | some k=>k
  | none=>match at1 t e8 with
   | some k=>k
   | none=>-1
def holeT (t:ByteArray):ByteArray:=if (at1 t n16).isSome then n16 else if (at1 t n8).isSome then n8 else if (at1 t e8).isSome then e8 else ⟨#[]⟩
theorem firstAt_hit {t h:ByteArray} {m:Nat} (hm:m<=t.size) (h1:m+h.size<=t.size) (h2:t.extract m (m+h.size)=h) (e:at1 t h=firstAt t h (t.size+1-m) m):at1 t h=some m:=by
 rw [e,show t.size+1-m=(t.size-m)+1 by omega,firstAt,if_pos h1,if_pos h2]
theorem firstAt_next {t h:ByteArray} {m:Nat} (hm:m<=t.size) (h1:m+h.size<=t.size) (h2:¬ t.extract m (m+h.size)=h) (e:at1 t h=firstAt t h (t.size+1-m) m):at1 t h=firstAt t h (t.size+1-(m+1)) (m+1):=by
 rw [e,show t.size+1-m=(t.size+1-(m+1))+1 by omega,firstAt,if_pos h1,if_neg h2]
theorem firstAt_end {t h:ByteArray} {m:Nat} (hm:m<=t.size) (h1:¬ m+h.size<=t.size) (e:at1 t h=firstAt t h (t.size+1-m) m):at1 t h=none:=by
 rw [e,show t.size+1-m=(t.size-m)+1 by omega,firstAt,if_neg h1]
def ret (t:ByteArray):Ending:=.returned (.tuple #[.int .i64 (holeP t),.string (holeT t)])
theorem ret_n16 {t:ByteArray} {m:Nat} (h:at1 t n16=some m):Ending.returned (.tuple #[.int .i64 (m:Int),.string ⟨#[110,49,54]⟩])=ret t:=by
 unfold ret holeP holeT;rw [h];rfl
theorem ret_n8 {t:ByteArray} {m:Nat} (h0:at1 t n16=none) (h:at1 t n8=some m):Ending.returned (.tuple #[.int .i64 (m:Int),.string ⟨#[110,56]⟩])=ret t:=by
 unfold ret holeP holeT;rw [h0,h];rfl
theorem ret_e8 {t:ByteArray} {m:Nat} (h0:at1 t n16=none) (h1:at1 t n8=none) (h:at1 t e8=some m):Ending.returned (.tuple #[.int .i64 (m:Int),.string ⟨#[101,56]⟩])=ret t:=by
 unfold ret holeP holeT;rw [h0,h1,h];rfl
theorem ret_no {t:ByteArray} (h0:at1 t n16=none) (h1:at1 t n8=none) (h:at1 t e8=none):Ending.returned (.tuple #[.int .i64 (-1),.string ⟨#[]⟩])=ret t:=by
 unfold ret holeP holeT;rw [h0,h1,h];rfl
theorem lits_ne {X:ByteArray} {l:List UInt8} (h:¬ X=⟨l.toArray⟩):(X.toList == l)=false:=by
 rw [ByteArray.toList_eq]
 cases hb:X.data.toList == l
 ·rfl
 ·exfalso
  apply h
  have:=eq_of_beq hb
  cases X with|mk d=>cases d with|mk d=>simp only at this;rw [<- this]
def At (t:ByteArray) (i:Nat):Prop:=(1<=i->at1 t n16=none)/\(2<=i->at1 t n8=none)/\(3<=i->at1 t e8=none)
theorem hole_any (t:ByteArray) (w:World) (ht:t.size<=1000) :
  Calls prog 22 #[.string t] w fun e w'=>e=ret t/\Below w.heap.size w w':=by
 go_enter func22,ntmps22
 go_wp2
 have HB:Hid (Below w.heap.size w (w.alloc (.cells #[.string ⟨#[110,49,54]⟩,.string ⟨#[110,56]⟩,.string ⟨#[101,56]⟩] 9))):=zAl _ _
 have c0:(w.alloc (.cells #[.string ⟨#[110,49,54]⟩,.string ⟨#[110,56]⟩,.string ⟨#[101,56]⟩] 9)).cell? ⟨w.heap.size,0,none⟩=some (.string ⟨#[110,49,54]⟩):=World.cell?_alloc_new _ _ _ _
 have c1:(w.alloc (.cells #[.string ⟨#[110,49,54]⟩,.string ⟨#[110,56]⟩,.string ⟨#[101,56]⟩] 9)).cell? ⟨w.heap.size,1,none⟩=some (.string ⟨#[110,56]⟩):=World.cell?_alloc_new _ _ _ _
 have c2:(w.alloc (.cells #[.string ⟨#[110,49,54]⟩,.string ⟨#[110,56]⟩,.string ⟨#[101,56]⟩] 9)).cell? ⟨w.heap.size,2,none⟩=some (.string ⟨#[101,56]⟩):=World.cell?_alloc_new _ _ _ _
 generalize w.alloc (.cells #[.string ⟨#[110,49,54]⟩,.string ⟨#[110,56]⟩,.string ⟨#[101,56]⟩] 9)=W at *
 go_loopw [5] (fun i wr=>∃ n:Nat,((i=.int .i64 0/\At t 0) \/ (i=.int .i64 1/\At t 1) \/ (i=.int .i64 2/\At t 2) \/ (i=.int .i64 3/\At t 3))/\wr=W.drewN n) (fun i _=>3-(intOf i).toNat)
 case atStart=>exact ⟨0,.inl ⟨rfl,by unfold At;refine ⟨fun h=>?_,fun h=>?_,fun h=>?_⟩ <;> omega⟩,rfl⟩
 case round =>
  obtain ⟨n,hi,rfl⟩:=hrel
  rcases hi with ⟨rfl,ha⟩|⟨rfl,ha⟩|⟨rfl,ha⟩|⟨rfl,ha⟩
  ·have ha:Hid (At t 0):=ha
   go_wp2
   go_loopw [6] (fun i wr=>∃ m n:Nat,m<=t.size/\i=.int .i64 m/\wr=W.drewN n/\at1 t n16=firstAt t n16 (t.size+1-m) m) (fun i _=>t.size-(intOf i).toNat)
   case atStart=>exact ⟨0,n,Nat.zero_le _,rfl,rfl,rfl⟩
   case round =>
    obtain ⟨m,n2,hm,rfl,rfl,he⟩:=hrel
    by_cases hlt:m+3<=t.size
    ·have s1:=slice_3 t m hlt
     have HM:Hid (m<=t.size/\m+3<=t.size/\at1 t n16=firstAt t n16 (t.size+1-m) m):=⟨hm,hlt,he⟩
     clear he
     have k0:(0:Int)<=(m:Int):=by omega
     have k1:(m:Int)+3<=(t.size:Int):=by omega
     have k2:(m:Int)<=(m:Int)+3:=by omega
     have k4:IntKind.i64.wrap ((m:Int)+3)=(m:Int)+3:=by rw [IntKind.wrap_i64];omega
     by_cases hx:t.extract m (m+3)=⟨#[110,49,54]⟩
     ·have HX:Hid (t.extract m (m+3)=⟨#[110,49,54]⟩):=hx
      have hy:(t.extract m (m+3) == ⟨#[110,49,54]⟩)=true:=by rw [hx];rfl
      rw [hx] at s1
      clear hx hy
      go_wp2_with fail
      go_quiet (fail)
      go_wp2_with fail
      go_quiet (fail)
      go_wp2
      go_ret2
      exact ⟨ret_n16 (firstAt_hit HM.out.1 HM.out.2.1 HX.out HM.out.2.2),by repeat' (with_reducible first|exact HB.out|refine below_drewN ?_ _)⟩
     ·have HX:Hid (¬ t.extract m (m+3)=⟨#[110,49,54]⟩):=hx
      have hy:((t.extract m (m+3)).toList == [110,49,54])=false:=lits_ne hx
      clear hx
      generalize t.extract m (m+3)=X at s1 hy
      go_wp2_with fail
      go_quiet (fail)
      go_wp2_with fail
      go_roundw
      case rel=>exact ⟨m+1,_,by have:=HM.out.2.1;omega,by go_num,rfl,firstAt_next HM.out.1 HM.out.2.1 HX.out HM.out.2.2⟩
      case measure=>have:=HM.out.2.1;simp [intOf];omega
    ·have HE:Hid (at1 t n16=none):=firstAt_end hm hlt he
     clear he
     go_wp2
     go_roundw
     case rel =>
      have HE:=HE.out
      exact ⟨_,.inr (.inl ⟨rfl,⟨fun _=>HE,fun h=>by omega,fun h=>by omega⟩⟩),rfl⟩
     case measure=>simp [intOf]
  ·have ha:Hid (At t 1):=ha
   go_wp2
   go_loopw [6] (fun i wr=>∃ m n:Nat,m<=t.size/\i=.int .i64 m/\wr=W.drewN n/\at1 t n8=firstAt t n8 (t.size+1-m) m) (fun i _=>t.size-(intOf i).toNat)
   case atStart=>exact ⟨0,n,Nat.zero_le _,rfl,rfl,rfl⟩
   case round =>
    obtain ⟨m,n2,hm,rfl,rfl,he⟩:=hrel
    by_cases hlt:m+2<=t.size
    ·have s1:=slice_2 t m hlt
     have HM:Hid (m<=t.size/\m+2<=t.size/\at1 t n8=firstAt t n8 (t.size+1-m) m):=⟨hm,hlt,he⟩
     clear he
     have k0:(0:Int)<=(m:Int):=by omega
     have k1:(m:Int)+2<=(t.size:Int):=by omega
     have k2:(m:Int)<=(m:Int)+2:=by omega
     have k4:IntKind.i64.wrap ((m:Int)+2)=(m:Int)+2:=by rw [IntKind.wrap_i64];omega
     by_cases hx:t.extract m (m+2)=⟨#[110,56]⟩
     ·have HX:Hid (t.extract m (m+2)=⟨#[110,56]⟩):=hx
      have hy:(t.extract m (m+2) == ⟨#[110,56]⟩)=true:=by rw [hx];rfl
      rw [hx] at s1
      clear hx hy
      go_wp2_with fail
      go_quiet (fail)
      go_wp2_with fail
      go_quiet (fail)
      go_wp2
      go_ret2
      exact ⟨ret_n8 (ha.out.1 (by omega)) (firstAt_hit HM.out.1 HM.out.2.1 HX.out HM.out.2.2),by repeat' (with_reducible first|exact HB.out|refine below_drewN ?_ _)⟩
     ·have HX:Hid (¬ t.extract m (m+2)=⟨#[110,56]⟩):=hx
      have hy:((t.extract m (m+2)).toList == [110,56])=false:=lits_ne hx
      clear hx
      generalize t.extract m (m+2)=X at s1 hy
      go_wp2_with fail
      go_quiet (fail)
      go_wp2_with fail
      go_roundw
      case rel=>exact ⟨m+1,_,by have:=HM.out.2.1;omega,by go_num,rfl,firstAt_next HM.out.1 HM.out.2.1 HX.out HM.out.2.2⟩
      case measure=>have:=HM.out.2.1;simp [intOf];omega
    ·have HE:Hid (at1 t n8=none):=firstAt_end hm hlt he
     clear he
     go_wp2
     go_roundw
     case rel =>
      have HE:=HE.out
      exact ⟨_,.inr (.inr (.inl ⟨rfl,⟨fun _=>ha.out.1 (by omega),fun _=>HE,fun h=>by omega⟩⟩)),rfl⟩
     case measure=>simp [intOf]
  ·have ha:Hid (At t 2):=ha
   go_wp2
   go_loopw [6] (fun i wr=>∃ m n:Nat,m<=t.size/\i=.int .i64 m/\wr=W.drewN n/\at1 t e8=firstAt t e8 (t.size+1-m) m) (fun i _=>t.size-(intOf i).toNat)
   case atStart=>exact ⟨0,n,Nat.zero_le _,rfl,rfl,rfl⟩
   case round =>
    obtain ⟨m,n2,hm,rfl,rfl,he⟩:=hrel
    by_cases hlt:m+2<=t.size
    ·have s1:=slice_2 t m hlt
     have HM:Hid (m<=t.size/\m+2<=t.size/\at1 t e8=firstAt t e8 (t.size+1-m) m):=⟨hm,hlt,he⟩
     clear he
     have k0:(0:Int)<=(m:Int):=by omega
     have k1:(m:Int)+2<=(t.size:Int):=by omega
     have k2:(m:Int)<=(m:Int)+2:=by omega
     have k4:IntKind.i64.wrap ((m:Int)+2)=(m:Int)+2:=by rw [IntKind.wrap_i64];omega
     by_cases hx:t.extract m (m+2)=⟨#[101,56]⟩
     ·have HX:Hid (t.extract m (m+2)=⟨#[101,56]⟩):=hx
      have hy:(t.extract m (m+2) == ⟨#[101,56]⟩)=true:=by rw [hx];rfl
      rw [hx] at s1
      clear hx hy
      go_wp2_with fail
      go_quiet (fail)
      go_wp2_with fail
      go_quiet (fail)
      go_wp2
      go_ret2
      exact ⟨ret_e8 (ha.out.1 (by omega)) (ha.out.2.1 (by omega)) (firstAt_hit HM.out.1 HM.out.2.1 HX.out HM.out.2.2),by repeat' (with_reducible first|exact HB.out|refine below_drewN ?_ _)⟩
     ·have HX:Hid (¬ t.extract m (m+2)=⟨#[101,56]⟩):=hx
      have hy:((t.extract m (m+2)).toList == [101,56])=false:=lits_ne hx
      clear hx
      generalize t.extract m (m+2)=X at s1 hy
      go_wp2_with fail
      go_quiet (fail)
      go_wp2_with fail
      go_roundw
      case rel=>exact ⟨m+1,_,by have:=HM.out.2.1;omega,by go_num,rfl,firstAt_next HM.out.1 HM.out.2.1 HX.out HM.out.2.2⟩
      case measure=>have:=HM.out.2.1;simp [intOf];omega
    ·have HE:Hid (at1 t e8=none):=firstAt_end hm hlt he
     clear he
     go_wp2
     go_roundw
     case rel =>
      have HE:=HE.out
      exact ⟨_,.inr (.inr (.inr ⟨rfl,⟨fun _=>ha.out.1 (by omega),fun _=>ha.out.2.1 (by omega),fun _=>HE⟩⟩)),rfl⟩
     case measure=>simp [intOf]
  ·have ha:Hid (At t 3):=ha
   go_wp2
   go_ret2
   exact ⟨ret_no (ha.out.1 (by omega)) (ha.out.2.1 (by omega)) (ha.out.2.2 (by omega)),by repeat' (with_reducible first|exact HB.out|refine below_drewN ?_ _)⟩
end HoleX
namespace HolI
open HoleX (n8 n16 e8)
def MaxL (w:World):Prop:=∃ m:Int,w.cell? ⟨9,0,none⟩=some (.int .i64 m)
theorem cell_lt {w:World} {p:Addr} {v:Value} (h:w.cell? p=some v):p.block<w.heap.size:=by
 by_cases hlt:p.block<w.heap.size
 ·exact hlt
 ·exfalso
  simp [World.cell?,Array.getElem?_eq_none (Nat.not_lt.mp hlt)] at h
theorem MaxL.below {w w':World} (h:MaxL w) (b:Below w.heap.size w w'):MaxL w':=by
 obtain ⟨m,hm⟩:=h
 exact ⟨m,by rw [b.cell (cell_lt hm)];exact hm⟩
theorem box {w w':World} {vs:Array Value} {T:TypeId} (h:Below (w.alloc (.cells vs T)).heap.size (w.alloc (.cells vs T)) w') (i:Nat) (v:Value) (hv:vs[i]? = some v):w'.cell? ⟨w.heap.size,i,none⟩=some v:=by
 rw [h.cell (p:=⟨w.heap.size,i,none⟩) (by simp),World.cell?_alloc_new]
 exact hv
theorem unbox {w w':World} {o:Obj} (h:Below (w.alloc o).heap.size (w.alloc o) w'):Below w.heap.size w w':=(zAl _ _).trans (h.mono (by simp))
theorem after {a w w':World} (h:Below a.heap.size a w) (k:Below w.heap.size w w'):Below a.heap.size a w':=h.trans (k.mono h.size)
def holeI (s:ByteArray):ByteArray:=if Lib.contains s.data.toList n8.data.toList=true then n8 else if Lib.contains s.data.toList n16.data.toList=true then n16 else if Lib.contains s.data.toList e8.data.toList=true then e8 else ⟨#[]⟩
theorem holeI_cases (s:ByteArray):holeI s=⟨#[110,56]⟩ \/ holeI s=⟨#[110,49,54]⟩ \/ holeI s=⟨#[101,56]⟩ \/ holeI s=⟨#[]⟩:=by
 unfold holeI
 split
 ·exact .inl rfl
 split
 ·exact .inr (.inl rfl)
 split
 ·exact .inr (.inr (.inl rfl))
 ·exact .inr (.inr (.inr rfl))
def No (s:ByteArray) (i:Nat):Prop:=(1<=i->Lib.contains s.data.toList n8.data.toList=false)/\(2<=i->Lib.contains s.data.toList n16.data.toList=false)/\(3<=i->Lib.contains s.data.toList e8.data.toList=false)
theorem arr_0 (w:World):(Instr.index 79 (.agg #[.string ⟨#[110,56]⟩,.string ⟨#[110,49,54]⟩,.string ⟨#[101,56]⟩]) (.int .i64 0)).run prog w=.ok (.string ⟨#[110,56]⟩) w:=by kernel_rfl
theorem arr_1 (w:World):(Instr.index 79 (.agg #[.string ⟨#[110,56]⟩,.string ⟨#[110,49,54]⟩,.string ⟨#[101,56]⟩]) (.int .i64 1)).run prog w=.ok (.string ⟨#[110,49,54]⟩) w:=by kernel_rfl
theorem arr_2 (w:World):(Instr.index 79 (.agg #[.string ⟨#[110,56]⟩,.string ⟨#[110,49,54]⟩,.string ⟨#[101,56]⟩]) (.int .i64 2)).run prog w=.ok (.string ⟨#[101,56]⟩) w:=by kernel_rfl
theorem holeOf_any (s:ByteArray) (w:World) (hs:s.size<=1000) (hm:MaxL w) :
  Calls prog 26 #[.string s] w fun e w'=>e=.returned (.string (holeI s))/\Below w.heap.size w w':=by
 obtain ⟨m,hm⟩:=hm
 go_enter func26,ntmps26
 have x0:=arr_0
 have x1:=arr_1
 have x2:=arr_2
 have HB:Hid (s.size<4294967281):=by show s.size<4294967281;omega
 clear hs
 go_wp2_with fail
 go_loopw [6] (fun i wr=>((i=.int .i64 0) \/ (i=.int .i64 1/\No s 1) \/ (i=.int .i64 2/\No s 2) \/ (i=.int .i64 3/\No s 3))/\wr=w) (fun i _=>3-(intOf i).toNat)
 case atStart=>exact ⟨.inl rfl,rfl⟩
 case round =>
  obtain ⟨hi,rfl⟩:=hrel
  rcases hi with rfl|⟨rfl,ha⟩|⟨rfl,ha⟩|⟨rfl,ha⟩
  ·cases hc:Lib.contains s.data.toList n8.data.toList
   ·have HC:Hid (Lib.contains s.data.toList n8.data.toList=false):=hc
    have c:=fun w hm=>Tryz.strings_Contains s ⟨#[110,56]⟩ m w HB.out hm
    rw [show Lib.contains s.data.toList (⟨#[110,56]⟩ : ByteArray).data.toList=false from hc] at c
    clear hc
    go_wp2_with (go_at_call 57;refine (c _ hm).mono ?_;rintro e w' ⟨rfl,hw⟩;subst hw)
    go_roundw
    case rel=>exact ⟨.inr (.inl ⟨by go_num,fun _=>HC.out,fun h=>by omega,fun h=>by omega⟩),trivial⟩
    case measure=>simp [intOf]
   ·have c:=fun w hm=>Tryz.strings_Contains s ⟨#[110,56]⟩ m w HB.out hm
    rw [show Lib.contains s.data.toList (⟨#[110,56]⟩ : ByteArray).data.toList=true from hc] at c
    have HR:Hid (Ending.returned (.string ⟨#[110,56]⟩)=.returned (.string (holeI s))):=by show _=_;unfold holeI;rw [if_pos hc];rfl
    clear hc
    go_wp2_with (go_at_call 57;refine (c _ hm).mono ?_;rintro e w' ⟨rfl,hw⟩;subst hw)
    go_ret
    exact ⟨HR.out,Below.refl _ _⟩
  ·have HA:Hid (No s 1):=ha
   clear ha
   cases hc:Lib.contains s.data.toList n16.data.toList
   ·have HC:Hid (Lib.contains s.data.toList n16.data.toList=false):=hc
    have c:=fun w hm=>Tryz.strings_Contains s ⟨#[110,49,54]⟩ m w HB.out hm
    rw [show Lib.contains s.data.toList (⟨#[110,49,54]⟩ : ByteArray).data.toList=false from hc] at c
    clear hc
    go_wp2_with (go_at_call 57;refine (c _ hm).mono ?_;rintro e w' ⟨rfl,hw⟩;subst hw)
    go_roundw
    case rel=>exact ⟨.inr (.inr (.inl ⟨by go_num,fun _=>HA.out.1 (by omega),fun _=>HC.out,fun h=>by omega⟩)),trivial⟩
    case measure=>simp [intOf]
   ·have c:=fun w hm=>Tryz.strings_Contains s ⟨#[110,49,54]⟩ m w HB.out hm
    rw [show Lib.contains s.data.toList (⟨#[110,49,54]⟩ : ByteArray).data.toList=true from hc] at c
    have HR:Hid (Ending.returned (.string ⟨#[110,49,54]⟩)=.returned (.string (holeI s))):=by show _=_;unfold holeI;rw [if_neg (by rw [HA.out.1 (by omega)];decide),if_pos hc];rfl
    clear hc
    go_wp2_with (go_at_call 57;refine (c _ hm).mono ?_;rintro e w' ⟨rfl,hw⟩;subst hw)
    go_ret
    exact ⟨HR.out,Below.refl _ _⟩
  ·have HA:Hid (No s 2):=ha
   clear ha
   cases hc:Lib.contains s.data.toList e8.data.toList
   ·have HC:Hid (Lib.contains s.data.toList e8.data.toList=false):=hc
    have c:=fun w hm=>Tryz.strings_Contains s ⟨#[101,56]⟩ m w HB.out hm
    rw [show Lib.contains s.data.toList (⟨#[101,56]⟩ : ByteArray).data.toList=false from hc] at c
    clear hc
    go_wp2_with (go_at_call 57;refine (c _ hm).mono ?_;rintro e w' ⟨rfl,hw⟩;subst hw)
    go_roundw
    case rel=>exact ⟨.inr (.inr (.inr ⟨by go_num,fun _=>HA.out.1 (by omega),fun _=>HA.out.2.1 (by omega),fun _=>HC.out⟩)),trivial⟩
    case measure=>simp [intOf]
   ·have c:=fun w hm=>Tryz.strings_Contains s ⟨#[101,56]⟩ m w HB.out hm
    rw [show Lib.contains s.data.toList (⟨#[101,56]⟩ : ByteArray).data.toList=true from hc] at c
    have HR:Hid (Ending.returned (.string ⟨#[101,56]⟩)=.returned (.string (holeI s))):=by show _=_;unfold holeI;rw [if_neg (by rw [HA.out.1 (by omega)];decide),if_neg (by rw [HA.out.2.1 (by omega)];decide),if_pos hc];rfl
    clear hc
    go_wp2_with (go_at_call 57;refine (c _ hm).mono ?_;rintro e w' ⟨rfl,hw⟩;subst hw)
    go_ret
    exact ⟨HR.out,Below.refl _ _⟩
  ·have HR:Hid (Ending.returned (.string ⟨#[]⟩)=.returned (.string (holeI s))):=by
    show _=_;unfold holeI;rw [if_neg (by rw [ha.1 (by omega)];decide),if_neg (by rw [ha.2.1 (by omega)];decide),if_neg (by rw [ha.2.2 (by omega)];decide)]
   clear ha
   go_wp2
   go_ret
   exact ⟨HR.out,Below.refl _ _⟩
end HolI
namespace Hexn
theorem digS_tab:∀ m,m<16->Nums.digS ((UInt8.ofNat (Nums.tab.getD m 0).toNat).toNat:Int)=(m:Int):=by decide
theorem digS_at {x:Int} (h0:0<=x) (h1:x<16):Nums.digS ((UInt8.ofNat (Nums.tab.getD x.toNat 0).toNat).toNat:Int)=x:=by
 rw [digS_tab x.toNat (by omega)];omega
theorem word_cons {n:Int} {c:UInt8} {r:List UInt8} {m:Int} (hc:Nums.digS (c.toNat:Int)=m) (hm:m<16) (hn:n*16+m<=65535):Nums.word 16 n (c :: r)=Nums.word 16 (n*16+m) r:=by
 show (if (16:Int)<=Nums.digS (c.toNat:Int) then none else if 65535<n*16+Nums.digS (c.toNat:Int) then none else Nums.word 16 (n*16+Nums.digS (c.toNat:Int)) r)=_
 rw [hc,if_neg (by omega),if_neg (by omega)]
theorem word_digs {n d:Int} (h:1<=d/\d<=4/\0<=n/\n<=65535/\n / Hex.pw d=0):Nums.word 16 0 ((Hex.digs n d.toNat).map fun n=>UInt8.ofNat n.toNat)=some n:=by
 obtain ⟨h1,h2,h3,h4,h5⟩:=h
 have hd:d=1 \/ d=2 \/ d=3 \/ d=4:=by omega
 rcases hd with rfl|rfl|rfl|rfl
 ·have e:n / Hex.pw 1=n / 16:=by unfold Hex.pw;show n / (16 ^ 1)=_;omega
  show Nums.word 16 0 [UInt8.ofNat (Nums.tab.getD (n%16).toNat 0).toNat]=_
  rw [word_cons (digS_at (x:=n%16) (by omega) (by omega)) (by omega) (by omega)]
  show some _=some _
  congr 1;omega
 ·have e:n / Hex.pw 2=n / 16 / 16:=by unfold Hex.pw;show n / (16 ^ 2)=_;omega
  show Nums.word 16 0 [UInt8.ofNat (Nums.tab.getD (n / 16%16).toNat 0).toNat,UInt8.ofNat (Nums.tab.getD (n%16).toNat 0).toNat]=_
  rw [word_cons (digS_at (x:=n / 16%16) (by omega) (by omega)) (by omega) (by omega),word_cons (digS_at (x:=n%16) (by omega) (by omega)) (by omega) (by omega)]
  show some _=some _
  congr 1;omega
 ·have e:n / Hex.pw 3=n / 16 / 16 / 16:=by unfold Hex.pw;show n / (16 ^ 3)=_;omega
  show Nums.word 16 0 [UInt8.ofNat (Nums.tab.getD (n / 16 / 16%16).toNat 0).toNat,UInt8.ofNat (Nums.tab.getD (n / 16%16).toNat 0).toNat,UInt8.ofNat (Nums.tab.getD (n%16).toNat 0).toNat]=_
  rw [word_cons (digS_at (x:=n / 16 / 16%16) (by omega) (by omega)) (by omega) (by omega),word_cons (digS_at (x:=n / 16%16) (by omega) (by omega)) (by omega) (by omega),word_cons (digS_at (x:=n%16) (by omega) (by omega)) (by omega) (by omega)]
  show some _=some _
  congr 1;omega
 ·have e:n / Hex.pw 4=n / 16 / 16 / 16 / 16:=by unfold Hex.pw;show n / (16 ^ 4)=_;omega
  show Nums.word 16 0 [UInt8.ofNat (Nums.tab.getD (n / 16 / 16 / 16%16).toNat 0).toNat,UInt8.ofNat (Nums.tab.getD (n / 16 / 16%16).toNat 0).toNat,UInt8.ofNat (Nums.tab.getD (n / 16%16).toNat 0).toNat,UInt8.ofNat (Nums.tab.getD (n%16).toNat 0).toNat]=_
  rw [word_cons (digS_at (x:=n / 16 / 16 / 16%16) (by omega) (by omega)) (by omega) (by omega),word_cons (digS_at (x:=n / 16 / 16%16) (by omega) (by omega)) (by omega) (by omega),word_cons (digS_at (x:=n / 16%16) (by omega) (by omega)) (by omega) (by omega),word_cons (digS_at (x:=n%16) (by omega) (by omega)) (by omega) (by omega)]
  show some _=some _
  congr 1;omega
theorem digs_len:∀ (k:Nat) (n:Int),(Hex.digs n k).length=k
 | 0,_=>rfl
 | k+1,n=>by show (Hex.digs (n / 16) k ++ [_]).length=_;rw [List.length_append,digs_len k];rfl
theorem num_hex {n d:Int} (h:1<=d/\d<=4/\0<=n/\n<=65535/\n / Hex.pw d=0):Nums.num (Hex.hexS n d)=some n/\((Hex.hexS n d).size:Int)=d+1:=by
 rw [Hex.hexS_yes h]
 have hz:(strOfNums (36 :: Hex.digs n d.toNat)).size=d.toNat+1:=by rw [strOfNums_size,List.length_cons,digs_len]
 refine ⟨?_,by rw [hz];omega⟩
 unfold Nums.num
 rw [if_neg (by rw [hz];omega),if_pos (by rfl)]
 unfold Nums.base
 rw [if_neg (by rw [Nums.cut_size,hz];omega)]
 have e:((strOfNums (36 :: Hex.digs n d.toNat)).extract 1 (strOfNums (36 :: Hex.digs n d.toNat)).size).data.toList=(Hex.digs n d.toNat).map fun n=>UInt8.ofNat n.toNat:=by
  rw [Lib.extract_to_end,strOfNums_data,List.map_cons];rfl
 rw [e]
 exact word_digs h
end Hexn
end Go.Proofs.YtbofcepdckpkkaaGreatDoor
