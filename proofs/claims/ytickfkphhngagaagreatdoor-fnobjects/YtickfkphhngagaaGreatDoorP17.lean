import Derived.Test.YtickfkphhngagaaGreatDoorP16
set_option linter.all false
set_option maxRecDepth 20000
set_option maxHeartbeats 8000000
open Go.ChangeShapes Go.WideShapes Go.ChangeAt Go.RowKit
open Go.Proofs.Tryz
namespace Go.Proofs.YtickfkphhngagaaGreatDoor
namespace Otxp
open Go.Deep
open Optx (decW)
open Extx (exprT)
open Signed (inB)
open Otxa Otxb Otxt Seco Secp Obje
def wPatch:ByteArray:=⟨#[112,97,116,99,104]⟩
def wSection:ByteArray:=⟨#[115,101,99,116,105,111,110]⟩
def wSymbol:ByteArray:=⟨#[115,121,109,98,111,108]⟩
def wAssert:ByteArray:=⟨#[97,115,115,101,114,116]⟩
def patT (p:Patr.X):List UInt8:=line [wPatch,decW p.f0,decW p.f1,exprT p.f2]
def headT (s:Secr.X):List UInt8:=line [wSection,s.f0,decW s.f1,decW s.f2,decW s.f3,hexA s.f4]
def secT (s:Secr.X):List UInt8:=headT s ++ s.f5.flatMap patT
def outN (b:Bool):Int:=if b=true then 1 else 0
def symT (y:Osyr.X):List UInt8:=line [wSymbol,y.f0,decW y.f1,decW y.f2,decW (outN y.f3)]
def assT (a:Assr.X):List UInt8:=line [wAssert,exprT a.f0]
def objT (o:Objr.X):List UInt8:=o.f0.flatMap secT ++ o.f1.flatMap symT ++ o.f2.flatMap assT
theorem expr_len {L:List Stepx.Node}:(exprT L).size<=630:=by
 unfold exprT
 cases hx:Stepx.exprB L with
 | false=>exact (by decide:(0:Nat)<=630)
 | true =>
  unfold Stepx.exprB at hx
  rw [Bool.and_eq_true] at hx
  have h1:=of_decide_eq_true hx.1
  have h2:=eq_of_beq hx.2
  have:=Extx.join_len (Extx.words L) (fun x hx=>by
   unfold Extx.words at hx
   obtain ⟨y,hy,rfl⟩:=List.mem_map.1 hx
   exact Extx.word_len (Extx.nodes_ok h2 y hy))
  have hw:(Extx.words L).length=L.length:=by unfold Extx.words;rw [List.length_map]
  rw [hw] at this
  show (List.toArray _).size<=630
  rw [List.size_toArray]
  omega
theorem pat_len {p:Patr.X} (h0:-4000000000<=p.f0) (h0':p.f0<=4000000000) (h1:-4000000000<=p.f1) (h1':p.f1<=4000000000):(patT p).length<=700:=by
 have a:=decW_le h0 h0'
 have b:=decW_le h1 h1'
 have c:=expr_len (L:=p.f2)
 have e:(patT p).length=5+1+((decW p.f0).size+1+((decW p.f1).size+1+((exprT p.f2).size)))+1:=by
  unfold patT line Lib.join
  simp [List.intercalate,List.intersperse,wPatch]
  omega
 omega
structure SecB (s:Secr.X):Prop where
 nm:s.f0.size<=16
 k0:-4000000000<=s.f1
 k1:s.f1<=4000000000
 b0:-4000000000<=s.f2
 b1:s.f2<=4000000000
 a0:-4000000000<=s.f3
 a1:s.f3<=4000000000
 dt:s.f4.size<=256
 pn:s.f5.length<=256
 pb:∀ i (h:i<s.f5.length),-4000000000<=s.f5[i].f0/\s.f5[i].f0<=4000000000/\-4000000000<=s.f5[i].f1/\s.f5[i].f1<=4000000000/\s.f5[i].f2.length<=30
theorem head_len {s:Secr.X} (h:SecB s):(headT s).length<=700:=by
 have a:=decW_le h.k0 h.k1
 have b:=decW_le h.b0 h.b1
 have c:=decW_le h.a0 h.a1
 have d:=hexA_size s.f4
 have:=h.nm
 have:=h.dt
 have e:(headT s).length=7+1+(s.f0.size+1+((decW s.f1).size+1+((decW s.f2).size+1+((decW s.f3).size+1+(hexA s.f4).size))))+1:=by
  unfold headT line Lib.join
  simp [List.intercalate,List.intersperse,wSection]
  omega
 omega
theorem flat_le {α:Type} (f:α->List UInt8) (n:Nat):∀ L:List α,(∀ x ∈ L,(f x).length<=n)->(L.flatMap f).length<=n*L.length
 | [],_=>Nat.zero_le _
 | x :: L,h=>by
  rw [List.flatMap_cons,List.length_append,List.length_cons]
  have i:=flat_le f n L (fun y hy=>h y (List.mem_cons_of_mem _ hy))
  have j:=h x List.mem_cons_self
  rw [Nat.mul_succ]
  omega
theorem pats_len {s:Secr.X} (h:SecB s) (k:Nat):((s.f5.take k).flatMap patT).length<=700*256:=by
 have:=flat_le patT 700 (s.f5.take k) (fun x hx=>by
  obtain ⟨i,hi,rfl⟩:=List.getElem_of_mem (List.mem_of_mem_take hx)
  obtain ⟨a,b,c,d,_⟩:=h.pb i hi
  exact pat_len a b c d)
 have h2:(s.f5.take k).length<=256:=by rw [List.length_take];have:=h.pn;omega
 have h3:700*(s.f5.take k).length<=700*256:=Nat.mul_le_mul_left _ h2
 omega
theorem sec_len {s:Secr.X} (h:SecB s):(secT s).length<=180000:=by
 have:=head_len h
 have:=pats_len h s.f5.length
 rw [List.take_length] at this
 unfold secT
 rw [List.length_append]
 omega
theorem sym_len {y:Osyr.X} (hn:y.f0.size<=16) (h0:-4000000000<=y.f1) (h0':y.f1<=4000000000) (h1:-4000000000<=y.f2) (h1':y.f2<=4000000000):(symT y).length<=100:=by
 have a:=decW_le h0 h0'
 have b:=decW_le h1 h1'
 have c:(decW (outN y.f3)).size<=11:=decW_le (by unfold outN;split <;> omega) (by unfold outN;split <;> omega)
 have e:(symT y).length=6+1+(y.f0.size+1+((decW y.f1).size+1+((decW y.f2).size+1+(decW (outN y.f3)).size)))+1:=by
  unfold symT line Lib.join
  simp [List.intercalate,List.intersperse,wSymbol]
  omega
 omega
theorem ass_len {a:Assr.X}:(assT a).length<=700:=by
 have c:=expr_len (L:=a.f0)
 have e:(assT a).length=6+1+(exprT a.f0).size+1:=by
  unfold assT line Lib.join
  simp [List.intercalate,List.intersperse,wAssert]
  omega
 omega
end Otxp
namespace Objs
open Go.Deep
open Signed (inB)
open Names (nameB ret_bool)
open Stepx (exprB)
open Seco Secp Obje
theorem specObj_any (x:Objr.X) (a0:Option Addr) (c0:Nat) (a1:Option Addr) (c1:Nat) (a2:Option Addr) (c2:Nat) (w:World) (hh:Objr.Has 0 w x a0 a1 a2) (hsm:Objr.SmallX x) :
  Calls prog 16 #[.agg (ocells x a0 c0 a1 c1 a2 c2)] w fun e w'=>e=.returned (.bool (objB x))/\Below w.heap.size w w':=by
 have HB:Hid (Below w.heap.size w (w.alloc (.cells (ocells x a0 c0 a1 c1 a2 c2) 26))):=zAl _ _
 have kB:Hid (∀ W',Below (w.alloc (.cells (ocells x a0 c0 a1 c1 a2 c2) 26)).heap.size (w.alloc (.cells (ocells x a0 c0 a1 c1 a2 c2) 26)) W'->W'.heap[w.heap.size]? = some (.cells (ocells x a0 c0 a1 c1 a2 c2) 26)):=fun W' h=>(h.block _ (by simp)).trans (MapKept.heap_alloc w _).1
 obtain ⟨h0,z0,h1,z1,h2,z2⟩:=hh
 have H0:Hid (∀ W',Below w.heap.size w W'->Secr.Row 0 W' a0 x.f0):=fun W' h=>h0.below h
 have H1:Hid (∀ W',Below w.heap.size w W'->Osyr.Row 0 W' a1 x.f1):=fun W' h=>h1.below h
 have H2:Hid (∀ W',Below w.heap.size w W'->Assr.Row 0 W' a2 x.f2):=fun W' h=>h2.below h
 have s0:=hsm.1.1
 have s1:=hsm.2.1.1
 have s2:=hsm.2.2.1
 have HS:Hid (Objr.SmallX x):=hsm
 clear h0 h1 h2 hsm z0 z1 z2
 have NO:Hid (¬ Right x->objB x=false):=obj_no
 have YES:Hid (Right x->objB x=true):=obj_yes
 generalize objB x=r at *
 obtain ⟨n0,e0⟩ : ∃ n,n=x.f0.length:=⟨_,rfl⟩
 obtain ⟨n1,e1⟩ : ∃ n,n=x.f1.length:=⟨_,rfl⟩
 obtain ⟨n2,e2⟩ : ∃ n,n=x.f2.length:=⟨_,rfl⟩
 have E:Hid (n0=x.f0.length/\n1=x.f1.length/\n2=x.f2.length):=⟨e0,e1,e2⟩
 unfold ocells at *
 rw [<- e0,<- e1,<- e2] at HB kB |-
 rw [<- e0] at s0
 rw [<- e1] at s1
 rw [<- e2] at s2
 clear e0 e1 e2
 go_enter func16,ntmps16
 by_cases l0:12<n0
 ·have g0:decide ((12:Int)<(n0:Int))=true:=decide_eq_true (by omega)
  have HE:Hid (r=false):=NO.out fun h=>by have:=h.l0;have:=E.out.1;omega
  go_wp2
  go_ret
  exact ⟨ret_bool HE.out.symm,HB.out⟩
 have g0:decide ((12:Int)<(n0:Int))=false:=decide_eq_false (by omega)
 by_cases l1:200<n1
 ·have g1:decide ((200:Int)<(n1:Int))=true:=decide_eq_true (by omega)
  have HE:Hid (r=false):=NO.out fun h=>by have:=h.l1;have:=E.out.2.1;omega
  go_wp2
  go_ret
  exact ⟨ret_bool HE.out.symm,HB.out⟩
 have g1:decide ((200:Int)<(n1:Int))=false:=decide_eq_false (by omega)
 by_cases l2:12<n2
 ·have g2:decide ((12:Int)<(n2:Int))=true:=decide_eq_true (by omega)
  have HE:Hid (r=false):=NO.out fun h=>by have:=h.l2;have:=E.out.2.2;omega
  go_wp2
  go_ret
  exact ⟨ret_bool HE.out.symm,HB.out⟩
 have g2:decide ((12:Int)<(n2:Int))=false:=decide_eq_false (by omega)
 go_wp2_with fail
 obtain ⟨W0,hW0⟩ : ∃ W0,W0=w.alloc (.cells #[.slice a0 n0 c0,.slice a1 n1 c1,.slice a2 n2 c2] 26):=⟨_,rfl⟩
 rw [<- hW0] at HB kB |-
 clear hW0 g0 g1 g2
 go_loopw [3] (fun v wr=>∃ j:Nat,j<=n0/\v=.int .i64 j/\Hid (∀ i (hi:i<x.f0.length),i<j->secB x.f0[i]=true)/\Hid (Below W0.heap.size W0 wr)) (fun v _=>n0-(intOf v).toNat)
 case atStart=>exact ⟨0,Nat.zero_le _,rfl,(fun i _ h=>absurd h (Nat.not_lt_zero _)),Below.refl _ _⟩
 case round =>
  obtain ⟨j,hj,rfl,hall,hbel⟩:=hrel
  have BW:Hid (Below w.heap.size w wr):=HB.out.trans (hbel.out.mono HB.out.size)
  have m0:wr.cell? ⟨w.heap.size,0,none⟩=some (.slice a0 n0 c0):=cel (kB.out _ hbel.out) 0 _ rfl
  have m1:wr.cell? ⟨w.heap.size,1,none⟩=some (.slice a1 n1 c1):=cel (kB.out _ hbel.out) 1 _ rfl
  by_cases hlt:j<n0
  ·have hjL:j<x.f0.length:=by have:=E.out.1;omega
   rcases H0.out wr BW.out with hnil|⟨b,off,rfl,_,hb,hc⟩
   ·exfalso;rw [hnil] at hjL;exact absurd hjL (by simp)
   obtain ⟨a5,c5,d0,d1,d2,d3,d4,d5,hhs⟩:=hc j hjL
   have cc:=specSec_any x.f0[j] a5 c5 wr hhs (HS.out.1.2 j hjL)
   have FLS:Hid (secB x.f0[j]=false->r=false):=fun h=>NO.out fun h'=>by rw [h'.sec j hjL] at h;cases h
   have NXT:Hid (secB x.f0[j]=true->∀ i (hi:i<x.f0.length),i<j+1->secB x.f0[i]=true):=fun h i hi hik=>by
    rcases Nat.lt_or_ge i j with c|c
    ·exact hall.out i hi c
    ·obtain rfl:i=j:=by omega
     exact h
   clear hc hhs hall
   generalize secB x.f0[j]=pb at *
   unfold cells at cc
   obtain ⟨v0,hv0⟩ : ∃ q,q=x.f0[j].f0:=⟨_,rfl⟩
   obtain ⟨v1,hv1⟩ : ∃ q,q=x.f0[j].f1:=⟨_,rfl⟩
   obtain ⟨v2,hv2⟩ : ∃ q,q=x.f0[j].f2:=⟨_,rfl⟩
   obtain ⟨v3,hv3⟩ : ∃ q,q=x.f0[j].f3:=⟨_,rfl⟩
   obtain ⟨v4,hv4⟩ : ∃ q,q=x.f0[j].f4:=⟨_,rfl⟩
   obtain ⟨v5,hv5⟩ : ∃ q,q=x.f0[j].f5.length:=⟨_,rfl⟩
   rw [<- hv0] at d0 cc
   rw [<- hv1] at d1 cc
   rw [<- hv2] at d2 cc
   rw [<- hv3] at d3 cc
   rw [<- hv4] at d4 cc
   rw [<- hv5] at d5 cc
   clear hv0 hv1 hv2 hv3 hv4 hv5
   have k0:(0:Int)<=(j:Int):=by omega
   have k1:(j:Int)<(n0:Int):=by omega
   cases pb
   ·have HE:Hid (r=false):=FLS.out rfl
    clear FLS NXT
    go_wp2_with (go_at_call 18;refine cc.mono ?_;rintro e w2 ⟨rfl,hb2⟩;have B2:Hid (Below w.heap.size w w2):=BW.out.trans (hb2.mono BW.out.size);clear hb2)
    go_ret
    exact ⟨ret_bool HE.out.symm,B2.out⟩
   ·have NY:Hid (∀ i (hi:i<x.f0.length),i<j+1->secB x.f0[i]=true):=NXT.out rfl
    clear FLS NXT
    go_wp2_with (go_at_call 18;refine cc.mono ?_;rintro e w2 ⟨rfl,hb2⟩;have B2:Hid (Below W0.heap.size W0 w2):=hbel.out.trans (hb2.mono hbel.out.size);clear hb2)
    go_roundw
    case rel=>exact ⟨j+1,by omega,by go_num,NY.out,B2.out⟩
    case measure=>simp [intOf];omega
  ·have HSEC:Hid (∀ i (hi:i<x.f0.length),secB x.f0[i]=true):=fun i hi=>hall.out i hi (by have:=E.out.1;omega)
   clear hall
   go_wp2_with fail
   clear m0 m1
   go_loopw [4] (fun v wx=>∃ k:Nat,k<=n1/\v=.int .i64 k/\Hid (∀ i (hi:i<x.f1.length),i<k->SymAt x.f0 x.f1 i hi)/\Hid (Below W0.heap.size W0 wx)) (fun v _=>n1-(intOf v).toNat)
   case atStart=>exact ⟨0,Nat.zero_le _,rfl,(fun i _ h=>absurd h (Nat.not_lt_zero _)),hbel.out⟩
   case round =>
    clear hbel BW
    obtain ⟨k,hk,rfl,hall,hbel⟩:=hrel
    have BW:Hid (Below w.heap.size w wr):=HB.out.trans (hbel.out.mono HB.out.size)
    have m0:wr.cell? ⟨w.heap.size,0,none⟩=some (.slice a0 n0 c0):=cel (kB.out _ hbel.out) 0 _ rfl
    have m1:wr.cell? ⟨w.heap.size,1,none⟩=some (.slice a1 n1 c1):=cel (kB.out _ hbel.out) 1 _ rfl
    have m2:wr.cell? ⟨w.heap.size,2,none⟩=some (.slice a2 n2 c2):=cel (kB.out _ hbel.out) 2 _ rfl
    by_cases hlt:k<n1
    ·have hkL:k<x.f1.length:=by have:=E.out.2.1;omega
     rcases H1.out wr BW.out with hnil|⟨b,off,rfl,_,hb,hc⟩
     ·exfalso;rw [hnil] at hkL;exact absurd hkL (by simp)
     obtain ⟨d0,d1,d2,d3,hz⟩:=hc k hkL
     have cn:=fun w=>Names.specName_any x.f1[k].f0 w hz
     obtain ⟨pv,hpv,cp⟩ : ∃ pv:ByteArray,(∀ h0:0<k,(x.f1[k-1]'(by omega)).f0=pv)/\(0<k->wr.cell? ⟨b,off+(k-1)*4,none⟩=some (.string pv)):=by
      by_cases h0:0<k
      ·exact ⟨_,fun _=>rfl,fun _=>(hc (k-1) (by omega)).1⟩
      ·exact ⟨⟨#[]⟩,fun h=>absurd h h0,fun h=>absurd h h0⟩
     have SA:Hid (SymAt x.f0 x.f1 k hkL ↔ (nameB x.f1[k].f0=true/\placeB x.f0 x.f1[k].f1 x.f1[k].f2=true)/\(0<k->rise pv x.f1[k].f0=true)):=⟨fun h=>⟨by have:=h.sym;unfold symB at this;rwa [Bool.and_eq_true] at this,fun h0=>by have:=h.up h0;rwa [hpv h0] at this⟩,fun h=>⟨by unfold symB;rw [Bool.and_eq_true];exact h.1,fun h0=>by rw [hpv h0];exact h.2 h0⟩⟩
     have FLS:Hid (¬ SymAt x.f0 x.f1 k hkL->r=false):=fun h=>NO.out fun h'=>h (h'.sym k hkL)
     have NXT:Hid (SymAt x.f0 x.f1 k hkL->∀ i (hi:i<x.f1.length),i<k+1->SymAt x.f0 x.f1 i hi):=fun h i hi hik=>by
      rcases Nat.lt_or_ge i k with c|c
      ·exact hall.out i hi c
      ·obtain rfl:i=k:=by omega
       exact h
     clear hc hall hz hpv
     obtain ⟨SY,hSY⟩ : ∃ P:Prop,P=SymAt x.f0 x.f1 k hkL:=⟨_,rfl⟩
     rw [<- hSY] at SA FLS NXT
     clear hSY
     generalize nameB x.f1[k].f0=nb at *
     obtain ⟨nm,hnm⟩ : ∃ q,q=x.f1[k].f0:=⟨_,rfl⟩
     obtain ⟨se,hse⟩ : ∃ q,q=x.f1[k].f1:=⟨_,rfl⟩
     obtain ⟨at',hat⟩ : ∃ q,q=x.f1[k].f2:=⟨_,rfl⟩
     obtain ⟨ou,hou⟩ : ∃ q,q=x.f1[k].f3:=⟨_,rfl⟩
     rw [<- hnm,<- hse,<- hat] at SA
     rw [<- hnm] at d0
     simp only [<- hnm] at cn
     rw [<- hse] at d1
     rw [<- hat] at d2
     rw [<- hou] at d3
     clear hnm hse hat hou
     have k0:(0:Int)<=(k:Int):=by omega
     have k1:(k:Int)<(n1:Int):=by omega
     have p0:Hid (wr.cell? ⟨w.heap.size,0,none⟩=some (.slice a0 n0 c0)/\wr.cell? ⟨w.heap.size,1,none⟩=some (.slice (some ⟨b,off,none⟩) n1 c1)):=⟨m0,m1⟩
     have hwlt:w.heap.size<wr.heap.size:=by have h1:=hbel.out.size;have h2:=(zLo (kB.out _ zRf));omega
     go_upto_region 12 with fail
     obtain ⟨W1,hW1⟩ : ∃ W1,W1=wr.alloc (.cells #[.string nm,.int .i64 se,.int .i64 at',.bool ou] 63):=⟨_,rfl⟩
     have B1:Hid (Below wr.heap.size wr W1):=by rw [hW1];exact zAl _ _
     have y0:W1.cell? ⟨wr.heap.size,0,none⟩=some (.string nm):=by rw [hW1];simp
     have y1:W1.cell? ⟨wr.heap.size,1,none⟩=some (.int .i64 se):=by rw [hW1];simp
     have y2:W1.cell? ⟨wr.heap.size,2,none⟩=some (.int .i64 at'):=by rw [hW1];simp
     have y4:W1.cell? ⟨w.heap.size,0,none⟩=some (.slice a0 n0 c0):=(B1.out.cell (p:=⟨w.heap.size,0,none⟩) hwlt).trans p0.out.1
     have y5:W1.cell? ⟨w.heap.size,1,none⟩=some (.slice (some ⟨b,off,none⟩) n1 c1):=(B1.out.cell (p:=⟨w.heap.size,1,none⟩) hwlt).trans p0.out.2
     have y6:Hid (0<k->W1.cell? ⟨b,off+(k-1)*4,none⟩=some (.string pv)):=fun h=>(B1.out.cell (p:=⟨b,_,none⟩) hb).trans (cp h)
     rw [<- hW1]
     obtain ⟨bb,hbb⟩ : ∃ bb,bb=wr.heap.size:=⟨_,rfl⟩
     rw [<- hbb] at y0 y1 y2 |-
     have BW1:Hid (Below w.heap.size w W1):=BW.out.trans (B1.out.mono BW.out.size)
     have BZ1:Hid (Below W0.heap.size W0 W1):=hbel.out.trans (B1.out.mono hbel.out.size)
     clear hW1 hbb m0 m1 m2 d0 d1 d2 d3 p0 cp B1
     have wn:IntKind.i64.wrap ((n0:Int)-1)=(n0:Int)-1:=by rw [IntKind.wrap_i64];omega
     have wn':wrap64 ((n0:Int)-1)=(n0:Int)-1:=by unfold wrap64;omega
     cases nb
     ·have HE:Hid (r=false):=FLS.out fun h=>by cases (SA.out.1 h).1.1
      clear FLS NXT SA
      go_quiet (first|(go_at_call 48;exact Calls.quiet_of_same (cn _))|(go_at_call 49;exact Calls.quiet_of_same (Signed.l1In_any _ _ _ _)))
      go_wp2
      go_ret
      exact ⟨ret_bool HE.out.symm,drewN_below BW1.out _⟩
     by_cases hk0:0<k
     ·have g0:decide ((0:Int)<(k:Int))=true:=decide_eq_true (by omega)
      have g0':decide (0<k)=true:=decide_eq_true hk0
      obtain ⟨j,ej,jl,cp'⟩ : ∃ j:Nat,(k:Int)-1=(j:Int)/\(j:Int)<(n1:Int)/\W1.cell? ⟨b,off+j*4,none⟩=some (.string pv):=⟨k-1,by omega,by omega,y6.out hk0⟩
      have j0:(0:Int)<=(j:Int):=by omega
      have ew:IntKind.i64.wrap (j:Int)=(j:Int):=by rw [IntKind.wrap_i64];omega
      clear y6
      by_cases hrs:Op.bytesLess pv.toList nm.toList=true
      ·have SB:Hid (SY ↔ placeB x.f0 se at'=true):=⟨fun h=>(SA.out.1 h).1.2,fun h=>SA.out.2 ⟨⟨rfl,h⟩,fun _=>hrs⟩⟩
       clear SA
       by_cases i1:inB se (-1) ((n0:Int)-1)=true
       ·have hse:=of_decide_eq_true i1
        by_cases h1:se = -1
        ·subst h1
         have SC:Hid (SY ↔ inB at' (-2147483648) 2147483647=true):=SB.out
         clear SB
         by_cases i2:inB at' (-2147483648) 2147483647=true
         ·have NY:Hid (∀ i (hi:i<x.f1.length),i<k+1->SymAt x.f0 x.f1 i hi):=NXT.out (SC.out.2 i2)
          clear FLS NXT SC
          go_quiet (first|(go_at_call 48;exact Calls.quiet_of_same (cn _))|(go_at_call 49;exact Calls.quiet_of_same (Signed.l1In_any _ _ _ _)))
          go_wp2_with fail
          obtain ⟨W2,hW2⟩ : ∃ W2,W2=W1.drewN nq:=⟨_,rfl⟩
          have x0:W2.cell? ⟨bb,0,none⟩=some (.string nm):=by rw [hW2];exact y0
          have x1:W2.cell? ⟨bb,1,none⟩=some (.int .i64 (-1)):=by rw [hW2];exact y1
          have x2:W2.cell? ⟨bb,2,none⟩=some (.int .i64 at'):=by rw [hW2];exact y2
          have x4:W2.cell? ⟨w.heap.size,0,none⟩=some (.slice a0 n0 c0):=by rw [hW2];exact y4
          have BW2:Hid (Below w.heap.size w W2):=by rw [hW2];exact drewN_below BW1.out _
          have BZ2:Hid (Below W0.heap.size W0 W2):=by rw [hW2];exact drewN_below BZ1.out _
          rw [<- hW2]
          clear hW2 y0 y1 y2 y4 y5
          go_quiet (first|(go_at_call 48;exact Calls.quiet_of_same (cn _))|(go_at_call 49;exact Calls.quiet_of_same (Signed.l1In_any _ _ _ _)))
          go_wp2_with fail
          go_roundw
          case rel=>exact ⟨k+1,by omega,by go_num,NY.out,drewN_below BZ2.out _⟩
          case measure=>simp [intOf];omega
         ·have HE:Hid (r=false):=FLS.out fun h=>i2 (SC.out.1 h)
          have i2:inB at' (-2147483648) 2147483647=false:=by simpa using i2
          clear FLS NXT SC
          go_quiet (first|(go_at_call 48;exact Calls.quiet_of_same (cn _))|(go_at_call 49;exact Calls.quiet_of_same (Signed.l1In_any _ _ _ _)))
          go_wp2_with fail
          obtain ⟨W2,hW2⟩ : ∃ W2,W2=W1.drewN nq:=⟨_,rfl⟩
          have x0:W2.cell? ⟨bb,0,none⟩=some (.string nm):=by rw [hW2];exact y0
          have x1:W2.cell? ⟨bb,1,none⟩=some (.int .i64 (-1)):=by rw [hW2];exact y1
          have x2:W2.cell? ⟨bb,2,none⟩=some (.int .i64 at'):=by rw [hW2];exact y2
          have x4:W2.cell? ⟨w.heap.size,0,none⟩=some (.slice a0 n0 c0):=by rw [hW2];exact y4
          have BW2:Hid (Below w.heap.size w W2):=by rw [hW2];exact drewN_below BW1.out _
          have BZ2:Hid (Below W0.heap.size W0 W2):=by rw [hW2];exact drewN_below BZ1.out _
          rw [<- hW2]
          clear hW2 y0 y1 y2 y4 y5
          go_quiet (first|(go_at_call 48;exact Calls.quiet_of_same (cn _))|(go_at_call 49;exact Calls.quiet_of_same (Signed.l1In_any _ _ _ _)))
          go_wp2
          go_ret
          exact ⟨ret_bool HE.out.symm,drewN_below BW2.out _⟩
        ·obtain ⟨u,rfl⟩:=Int.eq_ofNat_of_zero_le (by omega:0<=se)
         have huL:u<x.f0.length:=by have:=E.out.1;omega
         rcases H0.out W1 BW1.out with hnil|⟨bs,offs,rfl,_,hbs,hcs⟩
         ·exfalso;rw [hnil] at huL;exact absurd huL (by simp)
         obtain ⟨a5,c5,_,_,_,_,s4,_,_⟩:=hcs u huL
         have SC:Hid (SY ↔ inB at' 0 (x.f0[u].f4.size:Int)=true):=by
          show _ ↔ _
          rw [SB.out]
          unfold placeB dataLen
          rw [if_neg h1,decide_eq_true (by have:=E.out.1;omega),Int.toNat_natCast,List.getElem?_eq_getElem huL]
          simp
         have hds:x.f0[u].f4.size<=1048576:=(HS.out.1.2 u huL).2.2
         clear SB hcs
         generalize x.f0[u].f4=dd at *
         have u0:(0:Int)<=(u:Int):=by omega
         have u0':decide ((0:Int)<=(u:Int))=true:=decide_eq_true u0
         have u2:¬ (u:Int)<0:=by omega
         have u2':decide ((u:Int)<0)=false:=decide_eq_false u2
         have u1:(u:Int)<(n0:Int):=by omega
         clear hse h1
         by_cases i2:inB at' 0 (dd.size:Int)=true
         ·have NY:Hid (∀ i (hi:i<x.f1.length),i<k+1->SymAt x.f0 x.f1 i hi):=NXT.out (SC.out.2 i2)
          clear FLS NXT SC
          go_quiet (first|(go_at_call 48;exact Calls.quiet_of_same (cn _))|(go_at_call 49;exact Calls.quiet_of_same (Signed.l1In_any _ _ _ _)))
          go_wp2_with fail
          obtain ⟨W2,hW2⟩ : ∃ W2,W2=W1.drewN nq:=⟨_,rfl⟩
          have x0:W2.cell? ⟨bb,0,none⟩=some (.string nm):=by rw [hW2];exact y0
          have x1:W2.cell? ⟨bb,1,none⟩=some (.int .i64 (u:Int)):=by rw [hW2];exact y1
          have x2:W2.cell? ⟨bb,2,none⟩=some (.int .i64 at'):=by rw [hW2];exact y2
          have x4:W2.cell? ⟨w.heap.size,0,none⟩=some (.slice (some ⟨bs,offs,none⟩) n0 c0):=by rw [hW2];exact y4
          have BW2:Hid (Below w.heap.size w W2):=by rw [hW2];exact drewN_below BW1.out _
          have BZ2:Hid (Below W0.heap.size W0 W2):=by rw [hW2];exact drewN_below BZ1.out _
          have x5:W2.cell? ⟨bs,offs+u*6+4,none⟩=some (.string dd):=by rw [hW2];exact s4
          rw [<- hW2]
          clear hW2 y0 y1 y2 y4 y5
          go_quiet (first|(go_at_call 48;exact Calls.quiet_of_same (cn _))|(go_at_call 49;exact Calls.quiet_of_same (Signed.l1In_any _ _ _ _)))
          go_wp2_with fail
          go_roundw
          case rel=>exact ⟨k+1,by omega,by go_num,NY.out,drewN_below BZ2.out _⟩
          case measure=>simp [intOf];omega
         ·have HE:Hid (r=false):=FLS.out fun h=>i2 (SC.out.1 h)
          have i2:inB at' 0 (dd.size:Int)=false:=by simpa using i2
          clear FLS NXT SC
          go_quiet (first|(go_at_call 48;exact Calls.quiet_of_same (cn _))|(go_at_call 49;exact Calls.quiet_of_same (Signed.l1In_any _ _ _ _)))
          go_wp2_with fail
          obtain ⟨W2,hW2⟩ : ∃ W2,W2=W1.drewN nq:=⟨_,rfl⟩
          have x0:W2.cell? ⟨bb,0,none⟩=some (.string nm):=by rw [hW2];exact y0
          have x1:W2.cell? ⟨bb,1,none⟩=some (.int .i64 (u:Int)):=by rw [hW2];exact y1
          have x2:W2.cell? ⟨bb,2,none⟩=some (.int .i64 at'):=by rw [hW2];exact y2
          have x4:W2.cell? ⟨w.heap.size,0,none⟩=some (.slice (some ⟨bs,offs,none⟩) n0 c0):=by rw [hW2];exact y4
          have BW2:Hid (Below w.heap.size w W2):=by rw [hW2];exact drewN_below BW1.out _
          have BZ2:Hid (Below W0.heap.size W0 W2):=by rw [hW2];exact drewN_below BZ1.out _
          have x5:W2.cell? ⟨bs,offs+u*6+4,none⟩=some (.string dd):=by rw [hW2];exact s4
          rw [<- hW2]
          clear hW2 y0 y1 y2 y4 y5
          go_quiet (first|(go_at_call 48;exact Calls.quiet_of_same (cn _))|(go_at_call 49;exact Calls.quiet_of_same (Signed.l1In_any _ _ _ _)))
          go_wp2
          go_ret
          exact ⟨ret_bool HE.out.symm,drewN_below BW2.out _⟩
       ·have i1':inB se (-1) ((n0:Int)-1)=false:=by simpa using i1
        have HE:Hid (r=false):=FLS.out fun h=>by
         have hp:=SB.out.1 h
         unfold placeB at hp
         have hn:¬ (-1<=se/\se<=(n0:Int)-1):=of_decide_eq_false i1'
         rw [if_neg (by omega),decide_eq_false (by have:=E.out.1;omega)] at hp
         cases hp
        clear FLS NXT SB i1
        go_quiet (first|(go_at_call 48;exact Calls.quiet_of_same (cn _))|(go_at_call 49;exact Calls.quiet_of_same (Signed.l1In_any _ _ _ _)))
        go_wp2
        go_ret
        exact ⟨ret_bool HE.out.symm,drewN_below BW1.out _⟩
      ·have HE:Hid (r=false):=FLS.out fun h=>hrs ((SA.out.1 h).2 hk0)
       have hrs:Op.bytesLess pv.toList nm.toList=false:=by simpa using hrs
       clear FLS NXT SA
       go_quiet (first|(go_at_call 48;exact Calls.quiet_of_same (cn _))|(go_at_call 49;exact Calls.quiet_of_same (Signed.l1In_any _ _ _ _)))
       go_wp2
       go_ret
       exact ⟨ret_bool HE.out.symm,drewN_below BW1.out _⟩
     ·have g0:decide ((0:Int)<(k:Int))=false:=decide_eq_false (by omega)
      have g0':decide (0<k)=false:=decide_eq_false hk0
      have SB:Hid (SY ↔ placeB x.f0 se at'=true):=⟨fun h=>(SA.out.1 h).1.2,fun h=>SA.out.2 ⟨⟨rfl,h⟩,fun h'=>absurd h' hk0⟩⟩
      clear SA y6 hk0 k0 k1
      by_cases i1:inB se (-1) ((n0:Int)-1)=true
      ·have hse:=of_decide_eq_true i1
       by_cases h1:se = -1
       ·subst h1
        have SC:Hid (SY ↔ inB at' (-2147483648) 2147483647=true):=SB.out
        clear SB
        by_cases i2:inB at' (-2147483648) 2147483647=true
        ·have NY:Hid (∀ i (hi:i<x.f1.length),i<k+1->SymAt x.f0 x.f1 i hi):=NXT.out (SC.out.2 i2)
         clear FLS NXT SC
         go_quiet (first|(go_at_call 48;exact Calls.quiet_of_same (cn _))|(go_at_call 49;exact Calls.quiet_of_same (Signed.l1In_any _ _ _ _)))
         go_wp2_with fail
         obtain ⟨W2,hW2⟩ : ∃ W2,W2=W1.drewN nq:=⟨_,rfl⟩
         have x0:W2.cell? ⟨bb,0,none⟩=some (.string nm):=by rw [hW2];exact y0
         have x1:W2.cell? ⟨bb,1,none⟩=some (.int .i64 (-1)):=by rw [hW2];exact y1
         have x2:W2.cell? ⟨bb,2,none⟩=some (.int .i64 at'):=by rw [hW2];exact y2
         have x4:W2.cell? ⟨w.heap.size,0,none⟩=some (.slice a0 n0 c0):=by rw [hW2];exact y4
         have BW2:Hid (Below w.heap.size w W2):=by rw [hW2];exact drewN_below BW1.out _
         have BZ2:Hid (Below W0.heap.size W0 W2):=by rw [hW2];exact drewN_below BZ1.out _
         rw [<- hW2]
         clear hW2 y0 y1 y2 y4 y5
         go_quiet (first|(go_at_call 48;exact Calls.quiet_of_same (cn _))|(go_at_call 49;exact Calls.quiet_of_same (Signed.l1In_any _ _ _ _)))
         go_wp2_with fail
         go_roundw
         case rel=>exact ⟨k+1,by omega,by go_num,NY.out,drewN_below BZ2.out _⟩
         case measure=>simp [intOf];omega
        ·have HE:Hid (r=false):=FLS.out fun h=>i2 (SC.out.1 h)
         have i2:inB at' (-2147483648) 2147483647=false:=by simpa using i2
         clear FLS NXT SC
         go_quiet (first|(go_at_call 48;exact Calls.quiet_of_same (cn _))|(go_at_call 49;exact Calls.quiet_of_same (Signed.l1In_any _ _ _ _)))
         go_wp2_with fail
         obtain ⟨W2,hW2⟩ : ∃ W2,W2=W1.drewN nq:=⟨_,rfl⟩
         have x0:W2.cell? ⟨bb,0,none⟩=some (.string nm):=by rw [hW2];exact y0
         have x1:W2.cell? ⟨bb,1,none⟩=some (.int .i64 (-1)):=by rw [hW2];exact y1
         have x2:W2.cell? ⟨bb,2,none⟩=some (.int .i64 at'):=by rw [hW2];exact y2
         have x4:W2.cell? ⟨w.heap.size,0,none⟩=some (.slice a0 n0 c0):=by rw [hW2];exact y4
         have BW2:Hid (Below w.heap.size w W2):=by rw [hW2];exact drewN_below BW1.out _
         have BZ2:Hid (Below W0.heap.size W0 W2):=by rw [hW2];exact drewN_below BZ1.out _
         rw [<- hW2]
         clear hW2 y0 y1 y2 y4 y5
         go_quiet (first|(go_at_call 48;exact Calls.quiet_of_same (cn _))|(go_at_call 49;exact Calls.quiet_of_same (Signed.l1In_any _ _ _ _)))
         go_wp2
         go_ret
         exact ⟨ret_bool HE.out.symm,drewN_below BW2.out _⟩
       ·obtain ⟨u,rfl⟩:=Int.eq_ofNat_of_zero_le (by omega:0<=se)
        have huL:u<x.f0.length:=by have:=E.out.1;omega
        rcases H0.out W1 BW1.out with hnil|⟨bs,offs,rfl,_,hbs,hcs⟩
        ·exfalso;rw [hnil] at huL;exact absurd huL (by simp)
        obtain ⟨a5,c5,_,_,_,_,s4,_,_⟩:=hcs u huL
        have SC:Hid (SY ↔ inB at' 0 (x.f0[u].f4.size:Int)=true):=by
         show _ ↔ _
         rw [SB.out]
         unfold placeB dataLen
         rw [if_neg h1,decide_eq_true (by have:=E.out.1;omega),Int.toNat_natCast,List.getElem?_eq_getElem huL]
         simp
        have hds:x.f0[u].f4.size<=1048576:=(HS.out.1.2 u huL).2.2
        clear SB hcs
        generalize x.f0[u].f4=dd at *
        have u0:(0:Int)<=(u:Int):=by omega
        have u0':decide ((0:Int)<=(u:Int))=true:=decide_eq_true u0
        have u2:¬ (u:Int)<0:=by omega
        have u2':decide ((u:Int)<0)=false:=decide_eq_false u2
        have u1:(u:Int)<(n0:Int):=by omega
        clear hse h1
        by_cases i2:inB at' 0 (dd.size:Int)=true
        ·have NY:Hid (∀ i (hi:i<x.f1.length),i<k+1->SymAt x.f0 x.f1 i hi):=NXT.out (SC.out.2 i2)
         clear FLS NXT SC
         go_quiet (first|(go_at_call 48;exact Calls.quiet_of_same (cn _))|(go_at_call 49;exact Calls.quiet_of_same (Signed.l1In_any _ _ _ _)))
         go_wp2_with fail
         obtain ⟨W2,hW2⟩ : ∃ W2,W2=W1.drewN nq:=⟨_,rfl⟩
         have x0:W2.cell? ⟨bb,0,none⟩=some (.string nm):=by rw [hW2];exact y0
         have x1:W2.cell? ⟨bb,1,none⟩=some (.int .i64 (u:Int)):=by rw [hW2];exact y1
         have x2:W2.cell? ⟨bb,2,none⟩=some (.int .i64 at'):=by rw [hW2];exact y2
         have x4:W2.cell? ⟨w.heap.size,0,none⟩=some (.slice (some ⟨bs,offs,none⟩) n0 c0):=by rw [hW2];exact y4
         have BW2:Hid (Below w.heap.size w W2):=by rw [hW2];exact drewN_below BW1.out _
         have BZ2:Hid (Below W0.heap.size W0 W2):=by rw [hW2];exact drewN_below BZ1.out _
         have x5:W2.cell? ⟨bs,offs+u*6+4,none⟩=some (.string dd):=by rw [hW2];exact s4
         rw [<- hW2]
         clear hW2 y0 y1 y2 y4 y5
         go_quiet (first|(go_at_call 48;exact Calls.quiet_of_same (cn _))|(go_at_call 49;exact Calls.quiet_of_same (Signed.l1In_any _ _ _ _)))
         go_wp2_with fail
         go_roundw
         case rel=>exact ⟨k+1,by omega,by go_num,NY.out,drewN_below BZ2.out _⟩
         case measure=>simp [intOf];omega
        ·have HE:Hid (r=false):=FLS.out fun h=>i2 (SC.out.1 h)
         have i2:inB at' 0 (dd.size:Int)=false:=by simpa using i2
         clear FLS NXT SC
         go_quiet (first|(go_at_call 48;exact Calls.quiet_of_same (cn _))|(go_at_call 49;exact Calls.quiet_of_same (Signed.l1In_any _ _ _ _)))
         go_wp2_with fail
         obtain ⟨W2,hW2⟩ : ∃ W2,W2=W1.drewN nq:=⟨_,rfl⟩
         have x0:W2.cell? ⟨bb,0,none⟩=some (.string nm):=by rw [hW2];exact y0
         have x1:W2.cell? ⟨bb,1,none⟩=some (.int .i64 (u:Int)):=by rw [hW2];exact y1
         have x2:W2.cell? ⟨bb,2,none⟩=some (.int .i64 at'):=by rw [hW2];exact y2
         have x4:W2.cell? ⟨w.heap.size,0,none⟩=some (.slice (some ⟨bs,offs,none⟩) n0 c0):=by rw [hW2];exact y4
         have BW2:Hid (Below w.heap.size w W2):=by rw [hW2];exact drewN_below BW1.out _
         have BZ2:Hid (Below W0.heap.size W0 W2):=by rw [hW2];exact drewN_below BZ1.out _
         have x5:W2.cell? ⟨bs,offs+u*6+4,none⟩=some (.string dd):=by rw [hW2];exact s4
         rw [<- hW2]
         clear hW2 y0 y1 y2 y4 y5
         go_quiet (first|(go_at_call 48;exact Calls.quiet_of_same (cn _))|(go_at_call 49;exact Calls.quiet_of_same (Signed.l1In_any _ _ _ _)))
         go_wp2
         go_ret
         exact ⟨ret_bool HE.out.symm,drewN_below BW2.out _⟩
      ·have i1':inB se (-1) ((n0:Int)-1)=false:=by simpa using i1
       have HE:Hid (r=false):=FLS.out fun h=>by
        have hp:=SB.out.1 h
        unfold placeB at hp
        have hn:¬ (-1<=se/\se<=(n0:Int)-1):=of_decide_eq_false i1'
        rw [if_neg (by omega),decide_eq_false (by have:=E.out.1;omega)] at hp
        cases hp
       clear FLS NXT SB i1
       go_quiet (first|(go_at_call 48;exact Calls.quiet_of_same (cn _))|(go_at_call 49;exact Calls.quiet_of_same (Signed.l1In_any _ _ _ _)))
       go_wp2
       go_ret
       exact ⟨ret_bool HE.out.symm,drewN_below BW1.out _⟩
    ·have HSYM:Hid (∀ i (hi:i<x.f1.length),SymAt x.f0 x.f1 i hi):=fun i hi=>hall.out i hi (by have:=E.out.2.1;omega)
     clear hall
     go_wp2_with fail
     clear m0 m1 m2
     go_loopw [6] (fun v wx=>∃ q:Nat,q<=n2/\v=.int .i64 q/\Hid (∀ i (hi:i<x.f2.length),i<q->exprB x.f2[i].f0=true)/\Hid (Below W0.heap.size W0 wx)) (fun v _=>n2-(intOf v).toNat)
     case atStart=>exact ⟨0,Nat.zero_le _,rfl,(fun i _ h=>absurd h (Nat.not_lt_zero _)),hbel.out⟩
     case round =>
      clear hbel BW
      obtain ⟨q,hq,rfl,hall,hbel⟩:=hrel
      have BW:Hid (Below w.heap.size w wr):=HB.out.trans (hbel.out.mono HB.out.size)
      have m2:wr.cell? ⟨w.heap.size,2,none⟩=some (.slice a2 n2 c2):=cel (kB.out _ hbel.out) 2 _ rfl
      by_cases hlt2:q<n2
      ·have hqL:q<x.f2.length:=by have:=E.out.2.2;omega
       rcases H2.out wr BW.out with hnil|⟨b,off,rfl,_,hb,hc⟩
       ·exfalso;rw [hnil] at hqL;exact absurd hqL (by simp)
       obtain ⟨ea,ec,d0,hhr,_⟩:=hc q hqL
       have ce:=Specx.exprOk_any ea ec x.f2[q].f0 wr hhr.1 (HS.out.2.2.2 q hqL)
       have FLS:Hid (exprB x.f2[q].f0=false->r=false):=fun h=>NO.out fun h'=>by rw [h'.ass q hqL] at h;cases h
       have NXT:Hid (exprB x.f2[q].f0=true->∀ i (hi:i<x.f2.length),i<q+1->exprB x.f2[i].f0=true):=fun h i hi hik=>by
        rcases Nat.lt_or_ge i q with c|c
        ·exact hall.out i hi c
        ·obtain rfl:i=q:=by omega
         exact h
       clear hc hhr hall
       generalize exprB x.f2[q].f0=pb at *
       obtain ⟨le,hle⟩ : ∃ le,le=x.f2[q].f0.length:=⟨_,rfl⟩
       rw [<- hle] at d0 ce
       clear hle
       have k0:(0:Int)<=(q:Int):=by omega
       have k1:(q:Int)<(n2:Int):=by omega
       cases pb
       ·have HE:Hid (r=false):=FLS.out rfl
        clear FLS NXT
        go_wp2_with (go_at_call 50;refine ce.mono ?_;rintro e w2 ⟨rfl,hb2⟩;have B2:Hid (Below w.heap.size w w2):=BW.out.trans (hb2.mono BW.out.size);clear hb2)
        go_ret
        exact ⟨ret_bool HE.out.symm,B2.out⟩
       ·have NY:Hid (∀ i (hi:i<x.f2.length),i<q+1->exprB x.f2[i].f0=true):=NXT.out rfl
        clear FLS NXT
        go_wp2_with (go_at_call 50;refine ce.mono ?_;rintro e w2 ⟨rfl,hb2⟩;have B2:Hid (Below W0.heap.size W0 w2):=hbel.out.trans (hb2.mono hbel.out.size);clear hb2)
        go_roundw
        case rel=>exact ⟨q+1,by omega,by go_num,NY.out,B2.out⟩
        case measure=>simp [intOf];omega
      ·have HE:Hid (r=true):=YES.out ⟨by have:=E.out.1;omega,by have:=E.out.2.1;omega,by have:=E.out.2.2;omega,HSEC.out,HSYM.out,fun i hi=>hall.out i hi (by have:=E.out.2.2;omega)⟩
       clear hall
       go_wp2
       go_ret
       exact ⟨ret_bool HE.out.symm,BW.out⟩
end Objs
end Go.Proofs.YtickfkphhngagaaGreatDoor
