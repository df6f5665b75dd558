import Derived.Test.YteglcgnhhoenbaaGreatDoorQ31
set_option linter.all false
set_option maxRecDepth 20000
set_option maxHeartbeats 8000000
open Go.ChangeShapes Go.WideShapes Go.ChangeAt Go.RowKit
open Go.Proofs.Tryz
namespace Go.Proofs.YteglcgnhhoenbaaGreatDoor
namespace Stpc
open Signed (inB sgn)
open Reck ReckS ReckM ReckD TurnS
open Busw (M wrM Rt)
open Stpp Stpq
def kinds:List Nat:=[47,3,7,21,19,20,2,25,5,23,8,22,19,20,2,26,48,3,7,21,19,20,2,27,33,23,8,22,19,20,2,28,34,3,7,21,19,20,2,29,34,23,8,22,19,20,2,30,34,3,7,21,19,20,2,31,34,23,8,22,19,20,2,32,1,1,1,1,1,1,1,1,1,1,1,1,1,1,1,1,1,1,1,1,1,1,1,1,1,1,1,1,1,1,1,1,1,1,1,1,1,1,1,1,1,1,1,1,1,1,1,1,1,1,1,1,1,1,46,1,1,1,1,1,1,1,1,1,17,17,17,17,17,17,17,17,17,17,17,17,17,17,17,17,17,17,17,17,17,17,17,17,17,17,17,17,17,17,17,17,17,17,17,17,17,17,17,17,17,17,17,17,17,17,17,17,17,17,17,17,17,17,17,17,17,17,17,17,17,17,17,17,42,16,36,35,39,15,18,40,42,41,36,0,39,38,18,40,42,16,36,0,39,15,18,40,42,43,36,0,39,0,18,40,9,16,11,0,0,15,18,40,24,37,13,0,0,0,18,40,10,16,12,44,0,15,18,40,6,4,14,45,0,0,18,40]
def aCN:List ByteArray:=[⟨#[]⟩,⟨#[108,100,32,82,44,83]⟩,⟨#[108,100,32,82,44,110,56]⟩,⟨#[108,100,32,80,44,110,49,54]⟩,⟨#[108,100,32,115,112,44,104,108]⟩,⟨#[108,100,32,91,110,49,54,93,44,115,112]⟩,⟨#[108,100,32,104,108,44,115,112,43,101,56]⟩,⟨#[108,100,32,77,44,97]⟩,⟨#[108,100,32,97,44,77]⟩,⟨#[108,100,104,32,91,110,56,93,44,97]⟩,⟨#[108,100,104,32,97,44,91,110,56,93]⟩,⟨#[108,100,104,32,91,99,93,44,97]⟩,⟨#[108,100,104,32,97,44,91,99,93]⟩,⟨#[108,100,32,91,110,49,54,93,44,97]⟩,⟨#[108,100,32,97,44,91,110,49,54,93]⟩,⟨#[112,117,115,104,32,81]⟩,⟨#[112,111,112,32,81]⟩,⟨#[65,32,97,44,83]⟩,⟨#[65,32,97,44,110,56]⟩,⟨#[105,110,99,32,82]⟩,⟨#[100,101,99,32,82]⟩,⟨#[105,110,99,32,80]⟩,⟨#[100,101,99,32,80]⟩,⟨#[97,100,100,32,104,108,44,80]⟩,⟨#[97,100,100,32,115,112,44,101,56]⟩,⟨#[114,108,99,97]⟩,⟨#[114,114,99,97]⟩,⟨#[114,108,97]⟩,⟨#[114,114,97]⟩,⟨#[100,97,97]⟩,⟨#[99,112,108]⟩,⟨#[115,99,102]⟩,⟨#[99,99,102]⟩,⟨#[106,114,32,101,56]⟩,⟨#[106,114,32,67,44,101,56]⟩,⟨#[106,112,32,110,49,54]⟩,⟨#[106,112,32,67,44,110,49,54]⟩,⟨#[106,112,32,104,108]⟩,⟨#[99,97,108,108,32,110,49,54]⟩,⟨#[99,97,108,108,32,67,44,110,49,54]⟩,⟨#[114,115,116,32,72]⟩,⟨#[114,101,116]⟩,⟨#[114,101,116,32,67]⟩,⟨#[114,101,116,105]⟩,⟨#[100,105]⟩,⟨#[101,105]⟩,⟨#[104,97,108,116]⟩,⟨#[110,111,112]⟩,⟨#[115,116,111,112,32,110,56]⟩]
def kd (c:Int):Nat:=kinds.getD c.toNat 0
theorem aCO:∀ c:Fin 256,Shape.cC (c.val:Int) false=aCN.getD (kd (c.val:Int)) ⟨#[]⟩:=by decide +kernel
theorem bHR:∀ c:Fin 256,kd (c.val:Int)<49:=by decide +kernel
theorem aX {c:Int} (h0:0<=c) (h1:c<=255):∃ k:Fin 256,(k.val:Int)=c:=⟨⟨c.toNat,by omega⟩,by simp;omega⟩
theorem aO {c:Int} (h0:0<=c) (h1:c<=255):Shape.shape c false=aCN.getD (kd c) ⟨#[]⟩:=by
 obtain ⟨k,rfl⟩:=aX h0 h1;unfold Shape.shape;rw [show inB (k.val:Int) 0 255=true from x9 ⟨h0,h1⟩,if_pos rfl];exact aCO k
theorem tG:∀ z c:Bool,bits .andNot .i64 (fl z false false c) 128=fl false false false c/\cB (fl z false false c)=c:=by decide
theorem gL (o v f:Int):bits .andNot .i64 (cD o v f).2 128=fl false false false (cB (cD o v f).2):=by
 unfold cD;simp only [];rw [(tG _ _).1,(tG _ _).2]
theorem iZ:∀ k:Fin 16,bits .or .i64 (16*(k.val:Int)) 96=fl (zB (16*(k.val:Int))) true true (cB (16*(k.val:Int)))/\bits .or .i64 (bits .and .i64 (16*(k.val:Int)) 128) 16=fl (zB (16*(k.val:Int))) false false true/\bits .xor .i64 (bits .and .i64 (16*(k.val:Int)) 144) 16=fl (zB (16*(k.val:Int))) false false (!cB (16*(k.val:Int)))/\bits .and .i64 (16*(k.val:Int)) 16=(if cB (16*(k.val:Int))=true then 16 else 0)/\bits .and .i64 (16*(k.val:Int)) 240=16*(k.val:Int):=by decide +kernel
theorem kT {f:Int} (h:0<=f/\f<=255) (h16:f%16=0):∃ k:Fin 16,f=16*(k.val:Int):=⟨⟨(f / 16).toNat,by omega⟩,by simp;omega⟩
theorem aHS {f:Int} (h:0<=f/\f<=255) (h16:f%16=0):bits .or .i64 f 96=fl (zB f) true true (cB f):=by obtain ⟨k,rfl⟩:=kT h h16;exact (iZ k).1
theorem aHT {f:Int} (h:0<=f/\f<=255) (h16:f%16=0):bits .or .i64 (bits .and .i64 f 128) 16=fl (zB f) false false true:=by obtain ⟨k,rfl⟩:=kT h h16;exact (iZ k).2.1
theorem aHU {f:Int} (h:0<=f/\f<=255) (h16:f%16=0):bits .xor .i64 (bits .and .i64 f 144) 16=fl (zB f) false false (!cB f):=by obtain ⟨k,rfl⟩:=kT h h16;exact (iZ k).2.2.1
theorem bCV {f:Int} (h:0<=f/\f<=255) (h16:f%16=0):bits .and .i64 f 240=f:=by obtain ⟨k,rfl⟩:=kT h h16;exact (iZ k).2.2.2.2
theorem aWG:∀ z c:Bool,bits .or .i64 (bits .or .i64 (chz z 128 0) 32) (if c=true then 16 else 0)=fl z false true c:=by decide
theorem aHV {f:Int} (z:Bool) (h:0<=f/\f<=255) (h16:f%16=0):bits .or .i64 (bits .or .i64 (chz z 128 0) 32) (bits .and .i64 f 16)=fl z false true (cB f):=by
 obtain ⟨k,rfl⟩:=kT h h16;rw [(iZ k).2.2.2.1];exact aWG _ _
theorem aCP:∀ k:Fin 256,bits .and .i64 (k.val:Int) 240=(k.val:Int) / 16*16:=by decide +kernel
theorem aWH (m:M) (p v:Int):(aN m p v).rf=m.rf:=by
 unfold aN
 repeat' split
 all_goals rfl
theorem bCW {m:M} (h:Stpq.Good m) {p:Int}:eW (aU m) p (bA m)={ Stpn.iY (aU m) p (bA m%65536) with rf:=bits .and .i64 (Stpn.iY (aU m) p (bA m%65536)).rf 240 }:=by
 have hv:=lJ m;rw [show bA m%65536=bA m by omega];unfold eW Stpn.iY
 by_cases hp:p=3
 ·rw [if_pos hp,if_pos hp]
  obtain ⟨k,hk⟩:=aX (c:=bA m%256) (by omega) (by omega);show ({ aU m with ra:=bA m / 256,rf:=bA m%256 / 16*16 }:M)={ aU m with ra:=bA m / 256,rf:=bits .and .i64 (bA m%256) 240 };rw [<- hk,aCP k]
 ·rw [if_neg hp,if_neg hp]
  have e:bits .and .i64 (aN (aU m) p (bA m)).rf 240=(aN (aU m) p (bA m)).rf:=by
   rw [aWH];exact bCV h.f h.f16
  rw [e]
theorem aOF:∀ k:Fin 256,kd (k.val:Int)=1->∀ c:Int,c=(k.val:Int)->64<=c/\c<128/\c ≠ 118:=by
 have h:∀ k:Fin 256,kd (k.val:Int)=1->64<=(k.val:Int)/\(k.val:Int)<128/\(k.val:Int) ≠ 118:=by decide +kernel
 rintro k hk c rfl;exact h k hk
theorem tH:∀ k:Fin 256,kd (k.val:Int)=2->∀ c:Int,c=(k.val:Int)->c<64/\c%8=6:=by
 have h:∀ k:Fin 256,kd (k.val:Int)=2->(k.val:Int)<64/\(k.val:Int)%8=6:=by decide +kernel
 rintro k hk c rfl;exact h k hk
theorem aCQ:∀ k:Fin 256,kd (k.val:Int)=3->∀ c:Int,c=(k.val:Int)->c<64/\c%8=1/\c / 8%2=0:=by
 have h:∀ k:Fin 256,kd (k.val:Int)=3->(k.val:Int)<64/\(k.val:Int)%8=1/\(k.val:Int) / 8%2=0:=by decide +kernel
 rintro k hk c rfl;exact h k hk
theorem aCR:∀ k:Fin 256,kd (k.val:Int)=4->∀ c:Int,c=(k.val:Int)->c=249:=by
 have h:∀ k:Fin 256,kd (k.val:Int)=4->(k.val:Int)=249:=by decide +kernel
 rintro k hk c rfl;exact h k hk
theorem vN:∀ k:Fin 256,kd (k.val:Int)=5->∀ c:Int,c=(k.val:Int)->c=8:=by
 have h:∀ k:Fin 256,kd (k.val:Int)=5->(k.val:Int)=8:=by decide +kernel
 rintro k hk c rfl;exact h k hk
theorem nN:∀ k:Fin 256,kd (k.val:Int)=6->∀ c:Int,c=(k.val:Int)->c=248:=by
 have h:∀ k:Fin 256,kd (k.val:Int)=6->(k.val:Int)=248:=by decide +kernel
 rintro k hk c rfl;exact h k hk
theorem aOG:∀ k:Fin 256,kd (k.val:Int)=7->∀ c:Int,c=(k.val:Int)->c<64/\c%8=2/\c / 8%2=0:=by
 have h:∀ k:Fin 256,kd (k.val:Int)=7->(k.val:Int)<64/\(k.val:Int)%8=2/\(k.val:Int) / 8%2=0:=by decide +kernel
 rintro k hk c rfl;exact h k hk
theorem aOH:∀ k:Fin 256,kd (k.val:Int)=8->∀ c:Int,c=(k.val:Int)->c<64/\c%8=2/\c / 8%2=1:=by
 have h:∀ k:Fin 256,kd (k.val:Int)=8->(k.val:Int)<64/\(k.val:Int)%8=2/\(k.val:Int) / 8%2=1:=by decide +kernel
 rintro k hk c rfl;exact h k hk
theorem yJ:∀ k:Fin 256,kd (k.val:Int)=9->∀ c:Int,c=(k.val:Int)->c=224:=by
 have h:∀ k:Fin 256,kd (k.val:Int)=9->(k.val:Int)=224:=by decide +kernel
 rintro k hk c rfl;exact h k hk
theorem pI:∀ k:Fin 256,kd (k.val:Int)=10->∀ c:Int,c=(k.val:Int)->c=240:=by
 have h:∀ k:Fin 256,kd (k.val:Int)=10->(k.val:Int)=240:=by decide +kernel
 rintro k hk c rfl;exact h k hk
theorem aCS:∀ k:Fin 256,kd (k.val:Int)=11->∀ c:Int,c=(k.val:Int)->c=226:=by
 have h:∀ k:Fin 256,kd (k.val:Int)=11->(k.val:Int)=226:=by decide +kernel
 rintro k hk c rfl;exact h k hk
theorem aCT:∀ k:Fin 256,kd (k.val:Int)=12->∀ c:Int,c=(k.val:Int)->c=242:=by
 have h:∀ k:Fin 256,kd (k.val:Int)=12->(k.val:Int)=242:=by decide +kernel
 rintro k hk c rfl;exact h k hk
theorem yK:∀ k:Fin 256,kd (k.val:Int)=13->∀ c:Int,c=(k.val:Int)->c=234:=by
 have h:∀ k:Fin 256,kd (k.val:Int)=13->(k.val:Int)=234:=by decide +kernel
 rintro k hk c rfl;exact h k hk
theorem yL:∀ k:Fin 256,kd (k.val:Int)=14->∀ c:Int,c=(k.val:Int)->c=250:=by
 have h:∀ k:Fin 256,kd (k.val:Int)=14->(k.val:Int)=250:=by decide +kernel
 rintro k hk c rfl;exact h k hk
theorem aHW:∀ k:Fin 256,kd (k.val:Int)=15->∀ c:Int,c=(k.val:Int)->192<=c/\c%8=5/\c / 8%8%2=0:=by
 have h:∀ k:Fin 256,kd (k.val:Int)=15->192<=(k.val:Int)/\(k.val:Int)%8=5/\(k.val:Int) / 8%8%2=0:=by decide +kernel
 rintro k hk c rfl;exact h k hk
theorem aOI:∀ k:Fin 256,kd (k.val:Int)=16->∀ c:Int,c=(k.val:Int)->192<=c/\c%8=1/\c / 8%8%2=0:=by
 have h:∀ k:Fin 256,kd (k.val:Int)=16->192<=(k.val:Int)/\(k.val:Int)%8=1/\(k.val:Int) / 8%8%2=0:=by decide +kernel
 rintro k hk c rfl;exact h k hk
theorem aWI:∀ k:Fin 256,kd (k.val:Int)=17->∀ c:Int,c=(k.val:Int)->128<=c/\c<192:=by
 have h:∀ k:Fin 256,kd (k.val:Int)=17->128<=(k.val:Int)/\(k.val:Int)<192:=by decide +kernel
 rintro k hk c rfl;exact h k hk
theorem yM:∀ k:Fin 256,kd (k.val:Int)=18->∀ c:Int,c=(k.val:Int)->192<=c/\c%8=6:=by
 have h:∀ k:Fin 256,kd (k.val:Int)=18->192<=(k.val:Int)/\(k.val:Int)%8=6:=by decide +kernel
 rintro k hk c rfl;exact h k hk
theorem aOJ:∀ k:Fin 256,kd (k.val:Int)=19->∀ c:Int,c=(k.val:Int)->c<64/\c%8=4:=by
 have h:∀ k:Fin 256,kd (k.val:Int)=19->(k.val:Int)<64/\(k.val:Int)%8=4:=by decide +kernel
 rintro k hk c rfl;exact h k hk
theorem aOK:∀ k:Fin 256,kd (k.val:Int)=20->∀ c:Int,c=(k.val:Int)->c<64/\c%8=5:=by
 have h:∀ k:Fin 256,kd (k.val:Int)=20->(k.val:Int)<64/\(k.val:Int)%8=5:=by decide +kernel
 rintro k hk c rfl;exact h k hk
theorem aOL:∀ k:Fin 256,kd (k.val:Int)=21->∀ c:Int,c=(k.val:Int)->c<64/\c%8=3/\c / 8%2=0:=by
 have h:∀ k:Fin 256,kd (k.val:Int)=21->(k.val:Int)<64/\(k.val:Int)%8=3/\(k.val:Int) / 8%2=0:=by decide +kernel
 rintro k hk c rfl;exact h k hk
theorem aOM:∀ k:Fin 256,kd (k.val:Int)=22->∀ c:Int,c=(k.val:Int)->c<64/\c%8=3/\c / 8%2=1:=by
 have h:∀ k:Fin 256,kd (k.val:Int)=22->(k.val:Int)<64/\(k.val:Int)%8=3/\(k.val:Int) / 8%2=1:=by decide +kernel
 rintro k hk c rfl;exact h k hk
theorem aCU:∀ k:Fin 256,kd (k.val:Int)=23->∀ c:Int,c=(k.val:Int)->c<64/\c%8=1/\c / 8%2=1:=by
 have h:∀ k:Fin 256,kd (k.val:Int)=23->(k.val:Int)<64/\(k.val:Int)%8=1/\(k.val:Int) / 8%2=1:=by decide +kernel
 rintro k hk c rfl;exact h k hk
theorem pJ:∀ k:Fin 256,kd (k.val:Int)=24->∀ c:Int,c=(k.val:Int)->c=232:=by
 have h:∀ k:Fin 256,kd (k.val:Int)=24->(k.val:Int)=232:=by decide +kernel
 rintro k hk c rfl;exact h k hk
theorem aWJ:∀ k:Fin 256,kd (k.val:Int)=25->∀ c:Int,c=(k.val:Int)->c<64/\c%8=7/\c / 8<4:=by
 have h:∀ k:Fin 256,kd (k.val:Int)=25->(k.val:Int)<64/\(k.val:Int)%8=7/\(k.val:Int) / 8<4:=by decide +kernel
 rintro k hk c rfl;exact h k hk
theorem aWK:∀ k:Fin 256,kd (k.val:Int)=26->∀ c:Int,c=(k.val:Int)->c<64/\c%8=7/\c / 8<4:=by
 have h:∀ k:Fin 256,kd (k.val:Int)=26->(k.val:Int)<64/\(k.val:Int)%8=7/\(k.val:Int) / 8<4:=by decide +kernel
 rintro k hk c rfl;exact h k hk
theorem bCX:∀ k:Fin 256,kd (k.val:Int)=27->∀ c:Int,c=(k.val:Int)->c<64/\c%8=7/\c / 8<4:=by
 have h:∀ k:Fin 256,kd (k.val:Int)=27->(k.val:Int)<64/\(k.val:Int)%8=7/\(k.val:Int) / 8<4:=by decide +kernel
 rintro k hk c rfl;exact h k hk
theorem bCY:∀ k:Fin 256,kd (k.val:Int)=28->∀ c:Int,c=(k.val:Int)->c<64/\c%8=7/\c / 8<4:=by
 have h:∀ k:Fin 256,kd (k.val:Int)=28->(k.val:Int)<64/\(k.val:Int)%8=7/\(k.val:Int) / 8<4:=by decide +kernel
 rintro k hk c rfl;exact h k hk
theorem bCZ:∀ k:Fin 256,kd (k.val:Int)=29->∀ c:Int,c=(k.val:Int)->c=39:=by
 have h:∀ k:Fin 256,kd (k.val:Int)=29->(k.val:Int)=39:=by decide +kernel
 rintro k hk c rfl;exact h k hk
theorem bDA:∀ k:Fin 256,kd (k.val:Int)=30->∀ c:Int,c=(k.val:Int)->c=47:=by
 have h:∀ k:Fin 256,kd (k.val:Int)=30->(k.val:Int)=47:=by decide +kernel
 rintro k hk c rfl;exact h k hk
theorem bDB:∀ k:Fin 256,kd (k.val:Int)=31->∀ c:Int,c=(k.val:Int)->c=55:=by
 have h:∀ k:Fin 256,kd (k.val:Int)=31->(k.val:Int)=55:=by decide +kernel
 rintro k hk c rfl;exact h k hk
theorem bDC:∀ k:Fin 256,kd (k.val:Int)=32->∀ c:Int,c=(k.val:Int)->c=63:=by
 have h:∀ k:Fin 256,kd (k.val:Int)=32->(k.val:Int)=63:=by decide +kernel
 rintro k hk c rfl;exact h k hk
theorem aON:∀ k:Fin 256,kd (k.val:Int)=33->∀ c:Int,c=(k.val:Int)->c=24:=by
 have h:∀ k:Fin 256,kd (k.val:Int)=33->(k.val:Int)=24:=by decide +kernel
 rintro k hk c rfl;exact h k hk
theorem oR:∀ k:Fin 256,kd (k.val:Int)=34->∀ c:Int,c=(k.val:Int)->c<64/\c%8=0/\3<c / 8:=by
 have h:∀ k:Fin 256,kd (k.val:Int)=34->(k.val:Int)<64/\(k.val:Int)%8=0/\3<(k.val:Int) / 8:=by decide +kernel
 rintro k hk c rfl;exact h k hk
theorem aHX:∀ k:Fin 256,kd (k.val:Int)=35->∀ c:Int,c=(k.val:Int)->c=195:=by
 have h:∀ k:Fin 256,kd (k.val:Int)=35->(k.val:Int)=195:=by decide +kernel
 rintro k hk c rfl;exact h k hk
theorem mE:∀ k:Fin 256,kd (k.val:Int)=36->∀ c:Int,c=(k.val:Int)->192<=c/\c%8=2/\c / 8%8<4:=by
 have h:∀ k:Fin 256,kd (k.val:Int)=36->192<=(k.val:Int)/\(k.val:Int)%8=2/\(k.val:Int) / 8%8<4:=by decide +kernel
 rintro k hk c rfl;exact h k hk
theorem aOO:∀ k:Fin 256,kd (k.val:Int)=37->∀ c:Int,c=(k.val:Int)->c=233:=by
 have h:∀ k:Fin 256,kd (k.val:Int)=37->(k.val:Int)=233:=by decide +kernel
 rintro k hk c rfl;exact h k hk
theorem yN:∀ k:Fin 256,kd (k.val:Int)=38->∀ c:Int,c=(k.val:Int)->c=205:=by
 have h:∀ k:Fin 256,kd (k.val:Int)=38->(k.val:Int)=205:=by decide +kernel
 rintro k hk c rfl;exact h k hk
theorem jU:∀ k:Fin 256,kd (k.val:Int)=39->∀ c:Int,c=(k.val:Int)->192<=c/\c%8=4/\c / 8%8<4:=by
 have h:∀ k:Fin 256,kd (k.val:Int)=39->192<=(k.val:Int)/\(k.val:Int)%8=4/\(k.val:Int) / 8%8<4:=by decide +kernel
 rintro k hk c rfl;exact h k hk
theorem aOP:∀ k:Fin 256,kd (k.val:Int)=40->∀ c:Int,c=(k.val:Int)->192<=c/\c%8=7:=by
 have h:∀ k:Fin 256,kd (k.val:Int)=40->192<=(k.val:Int)/\(k.val:Int)%8=7:=by decide +kernel
 rintro k hk c rfl;exact h k hk
theorem bDD:∀ k:Fin 256,kd (k.val:Int)=41->∀ c:Int,c=(k.val:Int)->c=201:=by
 have h:∀ k:Fin 256,kd (k.val:Int)=41->(k.val:Int)=201:=by decide +kernel
 rintro k hk c rfl;exact h k hk
theorem rN:∀ k:Fin 256,kd (k.val:Int)=42->∀ c:Int,c=(k.val:Int)->192<=c/\c%8=0/\c / 8%8<4:=by
 have h:∀ k:Fin 256,kd (k.val:Int)=42->192<=(k.val:Int)/\(k.val:Int)%8=0/\(k.val:Int) / 8%8<4:=by decide +kernel
 rintro k hk c rfl;exact h k hk
theorem aWL:∀ k:Fin 256,kd (k.val:Int)=43->∀ c:Int,c=(k.val:Int)->c=217:=by
 have h:∀ k:Fin 256,kd (k.val:Int)=43->(k.val:Int)=217:=by decide +kernel
 rintro k hk c rfl;exact h k hk
theorem bHS:∀ k:Fin 256,kd (k.val:Int)=44->∀ c:Int,c=(k.val:Int)->c=243:=by
 have h:∀ k:Fin 256,kd (k.val:Int)=44->(k.val:Int)=243:=by decide +kernel
 rintro k hk c rfl;exact h k hk
theorem bHT:∀ k:Fin 256,kd (k.val:Int)=45->∀ c:Int,c=(k.val:Int)->c=251:=by
 have h:∀ k:Fin 256,kd (k.val:Int)=45->(k.val:Int)=251:=by decide +kernel
 rintro k hk c rfl;exact h k hk
theorem aWM:∀ k:Fin 256,kd (k.val:Int)=46->∀ c:Int,c=(k.val:Int)->c=118:=by
 have h:∀ k:Fin 256,kd (k.val:Int)=46->(k.val:Int)=118:=by decide +kernel
 rintro k hk c rfl;exact h k hk
theorem bDE:∀ k:Fin 256,kd (k.val:Int)=47->∀ c:Int,c=(k.val:Int)->c=0:=by
 have h:∀ k:Fin 256,kd (k.val:Int)=47->(k.val:Int)=0:=by decide +kernel
 rintro k hk c rfl;exact h k hk
theorem aCV:∀ k:Fin 256,kd (k.val:Int)=48->∀ c:Int,c=(k.val:Int)->c=16:=by
 have h:∀ k:Fin 256,kd (k.val:Int)=48->(k.val:Int)=16:=by decide +kernel
 rintro k hk c rfl;exact h k hk
end Stpc
end Go.Proofs.YteglcgnhhoenbaaGreatDoor
