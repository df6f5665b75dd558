import Derived.Test.YtbofcepdckpkkaaGreatDoorP25
set_option linter.all false
set_option maxRecDepth 20000
set_option maxHeartbeats 8000000
open Go.ChangeShapes Go.WideShapes Go.ChangeAt Go.RowKit
open Go.Proofs.Tryz
namespace Go.Proofs.YtbofcepdckpkkaaGreatDoor
namespace Twia
open Signed (inB)
open HoleX (n8 n16 e8 holeT holeP)
open HolI LenX InsX Texi Fits Like Rinst Fitz Rinsu Same Rinsw
def opens (c:Nat):Bool:=c == 36 || c == 45 || (Nat.ble 48 c && Nat.ble c 57)
def nums (s:ByteArray):List Nat:=s.data.toList.map UInt8.toNat
def an (k:Nat):List Nat:=nums (Like.ahead (codeK k) (cbK k))
def zn (k:Nat):List Nat:=nums (behind (codeK k) (cbK k))
def tn (k:Nat):List Nat:=nums (Tmpl.tmplS (codeK k) (cbK k))
def hn (k:Nat):Nat:=if (hole (codeK k) (cbK k)).size=0 then 0 else if hole (codeK k) (cbK k)=n16 then 2 else if hole (codeK k) (cbK k)=e8 then 3 else 1
def apart:List Nat->List Nat->Bool
 | [],[]=>true
 | [],c :: _=>!opens c
 | _ :: _,[]=>true
 | a :: p,b :: q=>if a == b then apart p q else true
def eqL:List Nat->List Nat->Bool
 | [],[]=>true
 | a :: p,b :: q=>a == b && eqL p q
 | _,_=>false
theorem eqL_self:∀ p:List Nat,eqL p p=true
 | []=>rfl
 | a :: p=>by simp [eqL,eqL_self p]
def holes:List Nat:=[1,6,8,14,16,17,22,24,30,32,33,38,40,46,48,49,54,56,62,194,195,196,198,202,204,205,206,210,212,214,218,220,222,224,230,232,234,238,240,246,248,250,254]
theorem holes_all:((List.range 512).all fun k=>Nat.beq (hn k) 0 || holes.contains k)=true:=by decide +kernel
theorem pairs_all:(holes.all fun k=>holes.all fun j=>apart (an k) (an j) && (!eqL (an k) (an j) || (Nat.beq k j || (Nat.beq (hn k) (hn j) && !Nat.beq (hn k) 3 && !eqL (zn k) (zn j)))))=true:=by decide +kernel
theorem len_all:((List.range 512).all fun k=>Nat.ble ((tn k).length) 15 && Nat.ble ((an k).length+(zn k).length) 15)=true:=by decide +kernel
theorem new_all:∀ c:Fin 256,(∃ x ∈ (nums (newV e8 (c.val:Int))).head?,opens x=true)/\(∃ x ∈ (nums (newV n8 (c.val:Int))).head?,opens x=true)/\(newV n8 (c.val:Int)).size=3/\(newV e8 (c.val:Int)).size<=5:=by decide +kernel
end Twia
end Go.Proofs.YtbofcepdckpkkaaGreatDoor
