import Derived.Test.YtickfkphhngagaaGreatDoorP11
import Derived.Test.YtickfkphhngagaaGreatDoorP15
set_option linter.all false
set_option maxRecDepth 20000
set_option maxHeartbeats 8000000
open Go.ChangeShapes Go.WideShapes Go.ChangeAt Go.RowKit
open Go.Proofs.Tryz
namespace Go.Proofs.YtickfkphhngagaaGreatDoor
namespace Obje
open Go.Deep
open Signed (inB)
open Names (nameB ret_bool)
open Stepx (exprB)
open Seco Secp
def dataLen (S:List Secr.X) (j:Nat):Nat:=match S[j]? with|some s=>s.f4.size|none=>0
def placeB (S:List Secr.X) (sect at':Int):Bool:=if sect = -1 then inB at' (-2147483648) 2147483647 else decide (0<=sect/\sect<(S.length:Int)) && inB at' 0 (dataLen S sect.toNat)
def symB (S:List Secr.X) (x:Osyr.X):Bool:=nameB x.f0 && placeB S x.f1 x.f2
def rise (a b:ByteArray):Bool:=Op.bytesLess a.toList b.toList
structure SymAt (S:List Secr.X) (L:List Osyr.X) (i:Nat) (h:i<L.length):Prop where
 sym:symB S L[i]=true
 up:∀ h0:0<i,rise (L[i-1]'(by omega)).f0 L[i].f0=true
structure Right (x:Objr.X):Prop where
 l0:x.f0.length<=12
 l1:x.f1.length<=200
 l2:x.f2.length<=12
 sec:∀ i (h:i<x.f0.length),secB x.f0[i]=true
 sym:∀ i (h:i<x.f1.length),SymAt x.f0 x.f1 i h
 ass:∀ i (h:i<x.f2.length),exprB x.f2[i].f0=true
open Classical in
noncomputable def objB (x:Objr.X):Bool:=decide (Right x)
open Classical in
theorem obj_yes {x:Objr.X} (h:Right x):objB x=true:=by unfold objB;exact decide_eq_true h
open Classical in
theorem obj_no {x:Objr.X} (h:¬ Right x):objB x=false:=by unfold objB;exact decide_eq_false h
theorem symOk_any (S:List Secr.X) (a0:Option Addr) (c0:Nat) (x:Osyr.X) (w:World) (hN:Secr.Row 0 w a0 S) (hS:S.length<=1048576) (hz:x.f0.size<=maxLen) (hd:∀ i (h:i<S.length),S[i].f4.size<=1048576) :
  Calls prog 46 #[.agg #[.string x.f0,.int .i64 x.f1,.int .i64 x.f2,.bool x.f3],.slice a0 S.length c0] w fun e w'=>e=.returned (.bool (symB S x))/\Below w.heap.size w w':=by
 have cn:=fun w=>Names.implName_any x.f0 w hz
 have RE:Hid (symB S x=(nameB x.f0 && placeB S x.f1 x.f2)):=rfl
 generalize symB S x=r at *
 generalize nameB x.f0=b0 at *
 generalize x.f0=nm at *
 obtain ⟨q3,hq3⟩ : ∃ q,q=x.f3:=⟨_,rfl⟩
 rw [<- hq3]
 obtain ⟨se,hse⟩ : ∃ q,q=x.f1:=⟨_,rfl⟩
 obtain ⟨at',hat⟩ : ∃ q,q=x.f2:=⟨_,rfl⟩
 rw [<- hse,<- hat] at RE |-
 clear hq3 hse hat
 have RE:Hid (r=(b0 && placeB S se at')):=RE
 obtain ⟨len,hl⟩ : ∃ len,len=S.length:=⟨_,rfl⟩
 have HL:Hid (len=S.length):=hl
 have HD:Hid (∀ i (h:i<S.length),S[i].f4.size<=1048576):=hd
 have HN:Hid (Secr.Row 0 w a0 S):=hN
 rw [<- hl] at hS |-
 clear hl hd hN
 have BX:Hid (∀ o,Below w.heap.size w (w.alloc o)):=fun o=>zAl _ _
 go_enter func46,ntmps46
 cases b0
 ·have HE:Hid (r=false):=RE.out
  go_wp2_with (go_at_call 89;refine (cn _).mono ?_;rintro e w' ⟨rfl,rfl⟩)
  go_ret
  exact ⟨ret_bool HE.out.symm,BX.out _⟩
 by_cases h1:se = -1
 ·subst h1
  have HE:Hid (r=inB at' (-2147483648) 2147483647):=RE.out
  clear RE
  by_cases h2:-2147483648<=at'
  ·have h2':decide (-2147483648<=at')=true:=decide_eq_true h2
   by_cases h3:at'<=2147483647
   ·have h3':decide (at'<=2147483647)=true:=decide_eq_true h3
    go_wp2_with (go_at_call 89;refine (cn _).mono ?_;rintro e w' ⟨rfl,rfl⟩)
    go_ret
    exact ⟨ret_bool (by rw [HE.out];exact (decide_eq_true ⟨h2,h3⟩).symm),BX.out _⟩
   ·have h3':decide (at'<=2147483647)=false:=decide_eq_false h3
    go_wp2_with (go_at_call 89;refine (cn _).mono ?_;rintro e w' ⟨rfl,rfl⟩)
    go_ret
    exact ⟨ret_bool (by rw [HE.out];exact (decide_eq_false (fun h=>by omega)).symm),BX.out _⟩
  ·have h2':decide (-2147483648<=at')=false:=decide_eq_false h2
   go_wp2_with (go_at_call 89;refine (cn _).mono ?_;rintro e w' ⟨rfl,rfl⟩)
   go_ret
   exact ⟨ret_bool (by rw [HE.out];exact (decide_eq_false (fun h=>by omega)).symm),BX.out _⟩
 have h1':(se == -1)=false:=by simpa using h1
 have RF:Hid (r=(decide (0<=se/\se<(S.length:Int)) && inB at' 0 (dataLen S se.toNat))):=by
  show r=_
  rw [RE.out];unfold placeB;rw [if_neg h1];rfl
 clear RE
 by_cases h2:se<0
 ·have h2':decide (se<0)=true:=decide_eq_true h2
  have HE:Hid (r=false):=by show r=_;rw [RF.out,decide_eq_false (by omega)];rfl
  go_wp2_with (go_at_call 89;refine (cn _).mono ?_;rintro e w' ⟨rfl,rfl⟩)
  go_ret
  exact ⟨ret_bool HE.out.symm,BX.out _⟩
 have h2':decide (se<0)=false:=decide_eq_false h2
 by_cases h3:(len:Int)<=se
 ·have h3':decide ((len:Int)<=se)=true:=decide_eq_true h3
  have HE:Hid (r=false):=by show r=_;rw [RF.out,decide_eq_false (by have:=HL.out;omega)];rfl
  go_wp2_with (go_at_call 89;refine (cn _).mono ?_;rintro e w' ⟨rfl,rfl⟩)
  go_ret
  exact ⟨ret_bool HE.out.symm,BX.out _⟩
 have h3':decide ((len:Int)<=se)=false:=decide_eq_false h3
 obtain ⟨j,rfl⟩:=Int.eq_ofNat_of_zero_le (by omega:0<=se)
 have hjL:j<S.length:=by have:=HL.out;omega
 rcases HN.out with hnil|⟨b,off,rfl,_,hb,hc⟩
 ·exfalso;rw [hnil] at hjL;exact absurd hjL (by simp)
 obtain ⟨a5,c5,d0,d1,d2,d3,d4,d5,hh⟩:=hc j hjL
 have hdl:dataLen S (j:Int).toNat=S[j].f4.size:=by
  unfold dataLen;rw [Int.toNat_natCast,List.getElem?_eq_getElem hjL]
 have hds:=HD.out j hjL
 have HE:Hid (r=inB at' 0 S[j].f4.size):=by
  show r=_
  rw [RF.out,hdl,decide_eq_true (by have:=HL.out;omega)];rfl
 clear hc d0 d1 d2 d3 d5 hh hdl RF
 generalize S[j].f4=d at *
 have k0:(0:Int)<=(j:Int):=by omega
 have k1:(j:Int)<(len:Int):=by omega
 by_cases g1:0<=at'
 ·have g1':decide (0<=at')=true:=decide_eq_true g1
  by_cases g2:at'<=(d.size:Int)
  ·have g2':decide (at'<=(d.size:Int))=true:=decide_eq_true g2
   go_wp2_with (go_at_call 89;refine (cn _).mono ?_;rintro e w' ⟨rfl,rfl⟩)
   go_quiet (fail)
   go_wp2
   go_ret
   exact ⟨ret_bool (by rw [HE.out];exact (decide_eq_true ⟨g1,g2⟩).symm),drewN_below (BX.out _) _⟩
  ·have g2':decide (at'<=(d.size:Int))=false:=decide_eq_false g2
   go_wp2_with (go_at_call 89;refine (cn _).mono ?_;rintro e w' ⟨rfl,rfl⟩)
   go_quiet (fail)
   go_wp2
   go_ret
   exact ⟨ret_bool (by rw [HE.out];exact (decide_eq_false (fun h=>by omega)).symm),drewN_below (BX.out _) _⟩
 ·have g1':decide (0<=at')=false:=decide_eq_false g1
  go_wp2_with (go_at_call 89;refine (cn _).mono ?_;rintro e w' ⟨rfl,rfl⟩)
  go_quiet (fail)
  go_wp2
  go_ret
  exact ⟨ret_bool (by rw [HE.out];exact (decide_eq_false (fun h=>by omega)).symm),drewN_below (BX.out _) _⟩
abbrev ocells (x:Objr.X) (a0:Option Addr) (c0:Nat) (a1:Option Addr) (c1:Nat) (a2:Option Addr) (c2:Nat):Array Value:=#[.slice a0 x.f0.length c0,.slice a1 x.f1.length c1,.slice a2 x.f2.length c2]
theorem sec_at {w:World} {b o:Nat} {x:Secr.X} (h:Secr.At 0 w b o x) (hb:b<w.heap.size):∃ a5 c5,AtC w b o x a5 c5/\Secr.Has 0 w x a5:=by
 obtain ⟨a5,c5,d0,d1,d2,d3,d4,d5,hh⟩:=h
 exact ⟨a5,c5,⟨hb,d0,d1,d2,d3,d4,d5⟩,hh⟩
theorem cell_re {w:World} {a:Addr} {v:Value} (h:w.cell? a=some v):∀ d os,(Go.Sort.grow (redrawn w d) os).cell? a=some v:=cell_regrown h
theorem implObj_any (x:Objr.X) (a0:Option Addr) (c0:Nat) (a1:Option Addr) (c1:Nat) (a2:Option Addr) (c2:Nat) (w:World) (hh:Objr.Has 0 w x a0 a1 a2) (hsm:Objr.SmallX x) :
  Calls prog 15 #[.agg (ocells x a0 c0 a1 c1 a2 c2)] w fun e w'=>e=.returned (.bool (objB x))/\Below w.heap.size w w':=by
 have HB:Hid (Below w.heap.size w (w.alloc (.cells (ocells x a0 c0 a1 c1 a2 c2) 26))):=zAl _ _
 have kB:Hid (∀ W',Below (w.alloc (.cells (ocells x a0 c0 a1 c1 a2 c2) 26)).heap.size (w.alloc (.cells (ocells x a0 c0 a1 c1 a2 c2) 26)) W'->W'.heap[w.heap.size]? = some (.cells (ocells x a0 c0 a1 c1 a2 c2) 26)):=fun W' h=>(h.block _ (by simp)).trans (MapKept.heap_alloc w _).1
 obtain ⟨h0,z0,h1,z1,h2,z2⟩:=hh
 have H0:Hid (∀ W',Below w.heap.size w W'->Secr.Row 0 W' a0 x.f0):=fun W' h=>h0.below h
 have H1:Hid (∀ W',Below w.heap.size w W'->Osyr.Row 0 W' a1 x.f1):=fun W' h=>h1.below h
 have H2:Hid (∀ W',Below w.heap.size w W'->Assr.Row 0 W' a2 x.f2):=fun W' h=>h2.below h
 have s0:=hsm.1.1
 have s1:=hsm.2.1.1
 have s2:=hsm.2.2.1
 have HS:Hid (Objr.SmallX x):=hsm
 clear h0 h1 h2 hsm z0 z1 z2
 have NO:Hid (¬ Right x->objB x=false):=obj_no
 have YES:Hid (Right x->objB x=true):=obj_yes
 generalize objB x=r at *
 obtain ⟨n0,e0⟩ : ∃ n,n=x.f0.length:=⟨_,rfl⟩
 obtain ⟨n1,e1⟩ : ∃ n,n=x.f1.length:=⟨_,rfl⟩
 obtain ⟨n2,e2⟩ : ∃ n,n=x.f2.length:=⟨_,rfl⟩
 have E:Hid (n0=x.f0.length/\n1=x.f1.length/\n2=x.f2.length):=⟨e0,e1,e2⟩
 unfold ocells at *
 rw [<- e0,<- e1,<- e2] at HB kB |-
 rw [<- e0] at s0
 rw [<- e1] at s1
 rw [<- e2] at s2
 clear e0 e1 e2
 go_enter func15,ntmps15
 by_cases l0:12<n0
 ·have g0:decide ((12:Int)<(n0:Int))=true:=decide_eq_true (by omega)
  have HE:Hid (r=false):=NO.out fun h=>by have:=h.l0;have:=E.out.1;omega
  go_wp2
  go_ret
  exact ⟨ret_bool HE.out.symm,HB.out⟩
 have g0:decide ((12:Int)<(n0:Int))=false:=decide_eq_false (by omega)
 by_cases l1:200<n1
 ·have g1:decide ((200:Int)<(n1:Int))=true:=decide_eq_true (by omega)
  have HE:Hid (r=false):=NO.out fun h=>by have:=h.l1;have:=E.out.2.1;omega
  go_wp2
  go_ret
  exact ⟨ret_bool HE.out.symm,HB.out⟩
 have g1:decide ((200:Int)<(n1:Int))=false:=decide_eq_false (by omega)
 by_cases l2:12<n2
 ·have g2:decide ((12:Int)<(n2:Int))=true:=decide_eq_true (by omega)
  have HE:Hid (r=false):=NO.out fun h=>by have:=h.l2;have:=E.out.2.2;omega
  go_wp2
  go_ret
  exact ⟨ret_bool HE.out.symm,HB.out⟩
 have g2:decide ((12:Int)<(n2:Int))=false:=decide_eq_false (by omega)
 go_wp2_with fail
 obtain ⟨W0,hW0⟩ : ∃ W0,W0=w.alloc (.cells #[.slice a0 n0 c0,.slice a1 n1 c1,.slice a2 n2 c2] 26):=⟨_,rfl⟩
 rw [<- hW0] at HB kB |-
 clear hW0 g0 g1 g2
 go_loopw [27] (fun v wr=>∃ j:Nat,j<=n0/\v=.int .i64 j/\Hid (∀ i (hi:i<x.f0.length),i<j->secB x.f0[i]=true)/\Hid (Below W0.heap.size W0 wr)) (fun v _=>n0-(intOf v).toNat)
 case atStart=>exact ⟨0,Nat.zero_le _,rfl,(fun i _ h=>absurd h (Nat.not_lt_zero _)),Below.refl _ _⟩
 case round =>
  obtain ⟨j,hj,rfl,hall,hbel⟩:=hrel
  have BW:Hid (Below w.heap.size w wr):=HB.out.trans (hbel.out.mono HB.out.size)
  have m0:wr.cell? ⟨w.heap.size,0,none⟩=some (.slice a0 n0 c0):=cel (kB.out _ hbel.out) 0 _ rfl
  have m1:wr.cell? ⟨w.heap.size,1,none⟩=some (.slice a1 n1 c1):=cel (kB.out _ hbel.out) 1 _ rfl
  by_cases hlt:j<n0
  ·have hjL:j<x.f0.length:=by have:=E.out.1;omega
   rcases H0.out wr BW.out with hnil|⟨b,off,rfl,_,hb,hc⟩
   ·exfalso;rw [hnil] at hjL;exact absurd hjL (by simp)
   obtain ⟨a5,c5,hat,hhs⟩:=sec_at (hc j hjL) hb
   have cc:=section_any x.f0[j] a5 c5 b (off+j*6) wr hat hhs (HS.out.1.2 j hjL)
   have FLS:Hid (secB x.f0[j]=false->r=false):=fun h=>NO.out fun h'=>by rw [h'.sec j hjL] at h;cases h
   have NXT:Hid (secB x.f0[j]=true->∀ i (hi:i<x.f0.length),i<j+1->secB x.f0[i]=true):=fun h i hi hik=>by
    rcases Nat.lt_or_ge i j with c|c
    ·exact hall.out i hi c
    ·obtain rfl:i=j:=by omega
     exact h
   clear hc hat hhs hall
   generalize secB x.f0[j]=pb at *
   have k0:(0:Int)<=(j:Int):=by omega
   have k1:(j:Int)<(n0:Int):=by omega
   cases pb
   ·have HE:Hid (r=false):=FLS.out rfl
    clear FLS NXT
    go_wp2_with (go_at_call 45;refine cc.mono ?_;rintro e w2 ⟨rfl,hb2⟩;have B2:Hid (Below w.heap.size w w2):=BW.out.trans (hb2.mono BW.out.size);clear hb2)
    go_ret
    exact ⟨ret_bool HE.out.symm,B2.out⟩
   ·have NY:Hid (∀ i (hi:i<x.f0.length),i<j+1->secB x.f0[i]=true):=NXT.out rfl
    clear FLS NXT
    go_wp2_with (go_at_call 45;refine cc.mono ?_;rintro e w2 ⟨rfl,hb2⟩;have B2:Hid (Below W0.heap.size W0 w2):=hbel.out.trans (hb2.mono hbel.out.size);clear hb2)
    go_roundw
    case rel=>exact ⟨j+1,by omega,by go_num,NY.out,B2.out⟩
    case measure=>simp [intOf];omega
  ·have HSEC:Hid (∀ i (hi:i<x.f0.length),secB x.f0[i]=true):=fun i hi=>hall.out i hi (by have:=E.out.1;omega)
   clear hall
   go_wp2_with fail
   clear m0 m1
   go_loopw [40] (fun v wx=>∃ k:Nat,k<=n1/\v=.int .i64 k/\Hid (∀ i (hi:i<x.f1.length),i<k->SymAt x.f0 x.f1 i hi)/\Hid (Below W0.heap.size W0 wx)) (fun v _=>n1-(intOf v).toNat)
   case atStart=>exact ⟨0,Nat.zero_le _,rfl,(fun i _ h=>absurd h (Nat.not_lt_zero _)),hbel.out⟩
   case round =>
    clear hbel BW
    obtain ⟨k,hk,rfl,hall,hbel⟩:=hrel
    have BW:Hid (Below w.heap.size w wr):=HB.out.trans (hbel.out.mono HB.out.size)
    have m0:wr.cell? ⟨w.heap.size,0,none⟩=some (.slice a0 n0 c0):=cel (kB.out _ hbel.out) 0 _ rfl
    have m1:wr.cell? ⟨w.heap.size,1,none⟩=some (.slice a1 n1 c1):=cel (kB.out _ hbel.out) 1 _ rfl
    have m2:wr.cell? ⟨w.heap.size,2,none⟩=some (.slice a2 n2 c2):=cel (kB.out _ hbel.out) 2 _ rfl
    by_cases hlt:k<n1
    ·have hkL:k<x.f1.length:=by have:=E.out.2.1;omega
     rcases H1.out wr BW.out with hnil|⟨b,off,rfl,_,hb,hc⟩
     ·exfalso;rw [hnil] at hkL;exact absurd hkL (by simp)
     obtain ⟨d0,d1,d2,d3,hz⟩:=hc k hkL
     have cs:=fun W (h:Secr.Row 0 W a0 x.f0)=>symOk_any x.f0 a0 c0 x.f1[k] W h (by have:=HS.out.1.1;exact this) hz (fun i hi=>(HS.out.1.2 i hi).2.2)
     obtain ⟨pv,hpv,cp⟩ : ∃ pv:ByteArray,(∀ h0:0<k,(x.f1[k-1]'(by omega)).f0=pv)/\(0<k->wr.cell? ⟨b,off+(k-1)*4,none⟩=some (.string pv)):=by
      by_cases h0:0<k
      ·exact ⟨_,fun _=>rfl,fun _=>(hc (k-1) (by omega)).1⟩
      ·exact ⟨⟨#[]⟩,fun h=>absurd h h0,fun h=>absurd h h0⟩
     have SA:Hid (SymAt x.f0 x.f1 k hkL ↔ symB x.f0 x.f1[k]=true/\(0<k->rise pv x.f1[k].f0=true)):=⟨fun h=>⟨h.sym,fun h0=>by have:=h.up h0;rwa [hpv h0] at this⟩,fun h=>⟨h.1,fun h0=>by rw [hpv h0];exact h.2 h0⟩⟩
     have FLS:Hid (¬ SymAt x.f0 x.f1 k hkL->r=false):=fun h=>NO.out fun h'=>h (h'.sym k hkL)
     have NXT:Hid (SymAt x.f0 x.f1 k hkL->∀ i (hi:i<x.f1.length),i<k+1->SymAt x.f0 x.f1 i hi):=fun h i hi hik=>by
      rcases Nat.lt_or_ge i k with c|c
      ·exact hall.out i hi c
      ·obtain rfl:i=k:=by omega
       exact h
     clear hc hall hz hpv
     rw [<- E.out.1] at cs
     generalize symB x.f0 x.f1[k]=sb at *
     obtain ⟨nm,hnm⟩ : ∃ q,q=x.f1[k].f0:=⟨_,rfl⟩
     obtain ⟨se,hse⟩ : ∃ q,q=x.f1[k].f1:=⟨_,rfl⟩
     obtain ⟨at',hat⟩ : ∃ q,q=x.f1[k].f2:=⟨_,rfl⟩
     obtain ⟨ou,hou⟩ : ∃ q,q=x.f1[k].f3:=⟨_,rfl⟩
     rw [<- hnm] at d0
     rw [<- hse] at d1
     rw [<- hat] at d2
     rw [<- hou] at d3
     simp only [<- hnm,<- hse,<- hat,<- hou] at cs
     have SA:Hid (SymAt x.f0 x.f1 k hkL ↔ sb=true/\(0<k->rise pv nm=true)):=by rw [hnm];exact SA
     clear hnm hse hat hou
     have k0:(0:Int)<=(k:Int):=by omega
     have k1:(k:Int)<(n1:Int):=by omega
     have p0:Hid (wr.cell? ⟨w.heap.size,0,none⟩=some (.slice a0 n0 c0)/\wr.cell? ⟨w.heap.size,1,none⟩=some (.slice (some ⟨b,off,none⟩) n1 c1)):=⟨m0,m1⟩
     have hwlt:w.heap.size<wr.heap.size:=by have h1:=hbel.out.size;have h2:=(zLo (kB.out _ zRf));omega
     go_upto_region 12 with fail
     obtain ⟨W1,hW1⟩ : ∃ W1,W1=wr.alloc (.cells #[.string nm,.int .i64 se,.int .i64 at',.bool ou] 63):=⟨_,rfl⟩
     have B1:Hid (Below wr.heap.size wr W1):=by rw [hW1];exact zAl _ _
     have y0:W1.cell? ⟨wr.heap.size,0,none⟩=some (.string nm):=by rw [hW1];simp
     have y1:W1.cell? ⟨wr.heap.size,1,none⟩=some (.int .i64 se):=by rw [hW1];simp
     have y2:W1.cell? ⟨wr.heap.size,2,none⟩=some (.int .i64 at'):=by rw [hW1];simp
     have y3:W1.cell? ⟨wr.heap.size,3,none⟩=some (.bool ou):=by rw [hW1];simp
     have y4:W1.cell? ⟨w.heap.size,0,none⟩=some (.slice a0 n0 c0):=(B1.out.cell (p:=⟨w.heap.size,0,none⟩) hwlt).trans p0.out.1
     have y5:W1.cell? ⟨w.heap.size,1,none⟩=some (.slice (some ⟨b,off,none⟩) n1 c1):=(B1.out.cell (p:=⟨w.heap.size,1,none⟩) hwlt).trans p0.out.2
     have y6:0<k->W1.cell? ⟨b,off+(k-1)*4,none⟩=some (.string pv):=fun h=>(B1.out.cell (p:=⟨b,_,none⟩) hb).trans (cp h)
     rw [<- hW1]
     obtain ⟨bb,hbb⟩ : ∃ bb,bb=wr.heap.size:=⟨_,rfl⟩
     rw [<- hbb] at y0 y1 y2 y3 |-
     have BW1:Hid (Below w.heap.size w W1):=BW.out.trans (B1.out.mono BW.out.size)
     have BZ1:Hid (Below W0.heap.size W0 W1):=hbel.out.trans (B1.out.mono hbel.out.size)
     clear hW1 hbb m0 m1 m2 d0 d1 d2 d3 p0 cp B1
     have r0:=cell_re y0
     have r1:=cell_re y1
     have r2:=cell_re y2
     have r3:=cell_re y3
     have r4:=cell_re y4
     have r5:=cell_re y5
     have cS:∀ d os,Calls prog 46 #[.agg #[.string nm,.int .i64 se,.int .i64 at',.bool ou],.slice a0 n0 c0] (Go.Sort.grow (redrawn W1 d) os) fun e w''=>e=.returned (.bool sb)/\∃ p:Regrown,w''=Go.Sort.grow (redrawn W1 p.d) p.os:=fun d os=>Calls.regrown_of (cs _ (H0.out _ (BW1.out.trans ((below_regrown W1 d os).mono BW1.out.size))))
     clear cs y0 y1 y2 y3 y4 y5
     by_cases hk0:0<k
     ·have g0:decide ((0:Int)<(k:Int))=true:=decide_eq_true (by omega)
      obtain ⟨j,ej,jl,cp'⟩ : ∃ j:Nat,(k:Int)-1=(j:Int)/\(j:Int)<(n1:Int)/\W1.cell? ⟨b,off+j*4,none⟩=some (.string pv):=⟨k-1,by omega,by omega,y6 hk0⟩
      have j0:(0:Int)<=(j:Int):=by omega
      have ew:IntKind.i64.wrap (j:Int)=(j:Int):=by rw [IntKind.wrap_i64];omega
      have r6:=cell_re cp'
      clear y6 cp'
      by_cases hrs:Op.bytesLess pv.toList nm.toList=true
      ·cases sb
       ·have HE:Hid (r=false):=FLS.out fun h=>by cases (SA.out.1 h).1
        clear FLS NXT SA
        refine wp_region_quiet_below (by kernel_rfl) (by kernel_rfl) ?_
        repeat (go_big_quiet_step (first|exact cS _ _))
        refine wpQuiet_nil ?_
        intro _ hw'
        obtain ⟨⟨dq,osq⟩,hw''⟩:=hw'
        subst hw''
        have BQ:Hid (Below w.heap.size w (Go.Sort.grow (redrawn W1 dq) osq)):=BW1.out.trans ((below_regrown W1 dq osq).mono BW1.out.size)
        have BR:Hid (Below W0.heap.size W0 (Go.Sort.grow (redrawn W1 dq) osq)):=BZ1.out.trans ((below_regrown W1 dq osq).mono BZ1.out.size)
        generalize Go.Sort.grow (redrawn W1 dq) osq=W2 at *
        clear r0 r1 r2 r3 r4 r5 cS
        go_wp2
        go_ret
        exact ⟨ret_bool HE.out.symm,BQ.out⟩
       ·have NY:Hid (∀ i (hi:i<x.f1.length),i<k+1->SymAt x.f0 x.f1 i hi):=NXT.out (SA.out.2 ⟨rfl,fun _=>hrs⟩)
        clear FLS NXT SA
        refine wp_region_quiet_below (by kernel_rfl) (by kernel_rfl) ?_
        repeat (go_big_quiet_step (first|exact cS _ _))
        refine wpQuiet_nil ?_
        intro _ hw'
        obtain ⟨⟨dq,osq⟩,hw''⟩:=hw'
        subst hw''
        have BQ:Hid (Below w.heap.size w (Go.Sort.grow (redrawn W1 dq) osq)):=BW1.out.trans ((below_regrown W1 dq osq).mono BW1.out.size)
        have BR:Hid (Below W0.heap.size W0 (Go.Sort.grow (redrawn W1 dq) osq)):=BZ1.out.trans ((below_regrown W1 dq osq).mono BZ1.out.size)
        generalize Go.Sort.grow (redrawn W1 dq) osq=W2 at *
        clear r0 r1 r2 r3 r4 r5 cS
        go_wp2_with fail
        go_roundw
        case rel=>exact ⟨k+1,by omega,by go_num,NY.out,BR.out⟩
        case measure=>simp [intOf];omega
      ·have HE:Hid (r=false):=FLS.out fun h=>hrs ((SA.out.1 h).2 hk0)
       have hrs:Op.bytesLess pv.toList nm.toList=false:=by simpa using hrs
       clear FLS NXT SA
       refine wp_region_quiet_below (by kernel_rfl) (by kernel_rfl) ?_
       repeat (go_big_quiet_step (first|exact cS _ _))
       refine wpQuiet_nil ?_
       intro _ hw'
       obtain ⟨⟨dq,osq⟩,hw''⟩:=hw'
       subst hw''
       have BQ:Hid (Below w.heap.size w (Go.Sort.grow (redrawn W1 dq) osq)):=BW1.out.trans ((below_regrown W1 dq osq).mono BW1.out.size)
       have BR:Hid (Below W0.heap.size W0 (Go.Sort.grow (redrawn W1 dq) osq)):=BZ1.out.trans ((below_regrown W1 dq osq).mono BZ1.out.size)
       generalize Go.Sort.grow (redrawn W1 dq) osq=W2 at *
       clear r0 r1 r2 r3 r4 r5 cS
       go_wp2
       go_ret
       exact ⟨ret_bool HE.out.symm,BQ.out⟩
     ·have g0:decide ((0:Int)<(k:Int))=false:=decide_eq_false (by omega)
      have HK0:Hid (¬ 0<k):=hk0
      have g0':decide (0<k)=false:=decide_eq_false hk0
      clear y6 hk0 k0 k1
      cases sb
      ·have HE:Hid (r=false):=FLS.out fun h=>by cases (SA.out.1 h).1
       clear FLS NXT SA
       refine wp_region_quiet_below (by kernel_rfl) (by kernel_rfl) ?_
       repeat (go_big_quiet_step (first|exact cS _ _))
       refine wpQuiet_nil ?_
       intro _ hw'
       obtain ⟨⟨dq,osq⟩,hw''⟩:=hw'
       subst hw''
       have BQ:Hid (Below w.heap.size w (Go.Sort.grow (redrawn W1 dq) osq)):=BW1.out.trans ((below_regrown W1 dq osq).mono BW1.out.size)
       have BR:Hid (Below W0.heap.size W0 (Go.Sort.grow (redrawn W1 dq) osq)):=BZ1.out.trans ((below_regrown W1 dq osq).mono BZ1.out.size)
       generalize Go.Sort.grow (redrawn W1 dq) osq=W2 at *
       clear r0 r1 r2 r3 r4 r5 cS
       go_wp2
       go_ret
       exact ⟨ret_bool HE.out.symm,BQ.out⟩
      ·have NY:Hid (∀ i (hi:i<x.f1.length),i<k+1->SymAt x.f0 x.f1 i hi):=NXT.out (SA.out.2 ⟨rfl,fun h=>absurd h HK0.out⟩)
       clear FLS NXT SA
       refine wp_region_quiet_below (by kernel_rfl) (by kernel_rfl) ?_
       repeat (go_big_quiet_step (first|exact cS _ _))
       refine wpQuiet_nil ?_
       intro _ hw'
       obtain ⟨⟨dq,osq⟩,hw''⟩:=hw'
       subst hw''
       have BQ:Hid (Below w.heap.size w (Go.Sort.grow (redrawn W1 dq) osq)):=BW1.out.trans ((below_regrown W1 dq osq).mono BW1.out.size)
       have BR:Hid (Below W0.heap.size W0 (Go.Sort.grow (redrawn W1 dq) osq)):=BZ1.out.trans ((below_regrown W1 dq osq).mono BZ1.out.size)
       generalize Go.Sort.grow (redrawn W1 dq) osq=W2 at *
       clear r0 r1 r2 r3 r4 r5 cS
       go_wp2_with fail
       go_roundw
       case rel=>exact ⟨k+1,by omega,by go_num,NY.out,BR.out⟩
       case measure=>simp [intOf];omega
    ·have HSYM:Hid (∀ i (hi:i<x.f1.length),SymAt x.f0 x.f1 i hi):=fun i hi=>hall.out i hi (by have:=E.out.2.1;omega)
     clear hall
     go_wp2_with fail
     clear m0 m1 m2
     go_loopw [70] (fun v wx=>∃ q:Nat,q<=n2/\v=.int .i64 q/\Hid (∀ i (hi:i<x.f2.length),i<q->exprB x.f2[i].f0=true)/\Hid (Below W0.heap.size W0 wx)) (fun v _=>n2-(intOf v).toNat)
     case atStart=>exact ⟨0,Nat.zero_le _,rfl,(fun i _ h=>absurd h (Nat.not_lt_zero _)),hbel.out⟩
     case round =>
      clear hbel BW
      obtain ⟨q,hq,rfl,hall,hbel⟩:=hrel
      have BW:Hid (Below w.heap.size w wr):=HB.out.trans (hbel.out.mono HB.out.size)
      by_cases hlt2:q<n2
      ·have hqL:q<x.f2.length:=by have:=E.out.2.2;omega
       rcases H2.out wr BW.out with hnil|⟨b,off,rfl,_,hb,hc⟩
       ·exfalso;rw [hnil] at hqL;exact absurd hqL (by simp)
       obtain ⟨ea,ec,d0,hhr,_⟩:=hc q hqL
       have ce:=implExpr_any ea ec x.f2[q].f0 wr hhr.1 (HS.out.2.2.2 q hqL)
       have FLS:Hid (exprB x.f2[q].f0=false->r=false):=fun h=>NO.out fun h'=>by rw [h'.ass q hqL] at h;cases h
       have NXT:Hid (exprB x.f2[q].f0=true->∀ i (hi:i<x.f2.length),i<q+1->exprB x.f2[i].f0=true):=fun h i hi hik=>by
        rcases Nat.lt_or_ge i q with c|c
        ·exact hall.out i hi c
        ·obtain rfl:i=q:=by omega
         exact h
       clear hc hhr hall
       generalize exprB x.f2[q].f0=pb at *
       obtain ⟨le,hle⟩ : ∃ le,le=x.f2[q].f0.length:=⟨_,rfl⟩
       rw [<- hle] at d0 ce
       clear hle
       have k0:(0:Int)<=(q:Int):=by omega
       have k1:(q:Int)<(n2:Int):=by omega
       cases pb
       ·have HE:Hid (r=false):=FLS.out rfl
        clear FLS NXT
        go_wp2_with (go_at_call 47;refine ce.mono ?_;rintro e w2 ⟨rfl,hb2⟩;have B2:Hid (Below w.heap.size w w2):=BW.out.trans (hb2.mono BW.out.size);clear hb2)
        go_ret
        exact ⟨ret_bool HE.out.symm,B2.out⟩
       ·have NY:Hid (∀ i (hi:i<x.f2.length),i<q+1->exprB x.f2[i].f0=true):=NXT.out rfl
        clear FLS NXT
        go_wp2_with (go_at_call 47;refine ce.mono ?_;rintro e w2 ⟨rfl,hb2⟩;have B2:Hid (Below W0.heap.size W0 w2):=hbel.out.trans (hb2.mono hbel.out.size);clear hb2)
        go_roundw
        case rel=>exact ⟨q+1,by omega,by go_num,NY.out,B2.out⟩
        case measure=>simp [intOf];omega
      ·have HE:Hid (r=true):=YES.out ⟨by have:=E.out.1;omega,by have:=E.out.2.1;omega,by have:=E.out.2.2;omega,HSEC.out,HSYM.out,fun i hi=>hall.out i hi (by have:=E.out.2.2;omega)⟩
       clear hall
       go_wp2
       go_ret
       exact ⟨ret_bool HE.out.symm,BW.out⟩
end Obje
namespace Cmpd
open Go.Deep
open Cmpa Cmpb Cmpc
theorem level_deep (pb k:Nat) (s:ByteArray) (bad:Bool) (least:Int) (w:World) (h:PS w pb s k bad) :
  Calls prog 141 #[.pointer (some ⟨pb,0,none⟩),.int .i64 least,.int .i64 31] w (Q pb s k w):=by
 go_enter func141,ntmps141
 go_wp2_with fail
 refine (value_deep pb k s bad _ h).mono ?_
 clear h
 rintro e w1 ⟨rfl,p1,b1⟩
 have P1:Hid (PS w1 pb s k true/\Below pb w w1):=⟨p1,b1⟩
 have c3:=PS.c3 p1
 clear p1 b1
 go_wp2_with fail
 go_loopw [] (fun wr=>Hid (PS wr pb s k true/\Below pb w wr)) (fun wr=>0)
 case atStart=>exact P1
 case round =>
  clear c3
  have c3:=PS.c3 hrel.out.1
  go_wp2_with fail
  first|go_end0|refine bodyPost_ret (results_none rfl _ _ _) rfl ?_
  exact Q.of (Nat.le_refl _) hrel.out.1 hrel.out.2
theorem level_step (pb k deep:Nat) (s:ByteArray) (bad:Bool) (least:Int) (w:World) (h:PS w pb s k bad) (hd1:1<=deep) (hd:deep<=30) (hle0:1<=least) (hle:least<=7)
  (hv:∀ k bad w,PS w pb s k bad->Calls prog 167 #[.pointer (some ⟨pb,0,none⟩),.int .i64 (deep:Int)] w (Q pb s k w))
  (hl:∀ k bad w (least:Int),1<=least->least<=7->PS w pb s k bad->Calls prog 141 #[.pointer (some ⟨pb,0,none⟩),.int .i64 least,.int .i64 ((deep:Int)+1)] w (Q pb s k w)) :
  Calls prog 141 #[.pointer (some ⟨pb,0,none⟩),.int .i64 least,.int .i64 (deep:Int)] w (Q pb s k w):=by
 have hs:=h.sz.2
 go_enter func141,ntmps141
 go_wp2_with fail
 refine (hv k bad _ h).mono ?_
 clear h hv
 rintro e w1 ⟨rfl,⟨k1,b1,q1,p1⟩,be1⟩
 have P1:Hid (PS w1 pb s k1 b1/\Below pb w w1):=⟨p1,be1⟩
 have c3:=PS.c3 p1
 clear p1 be1
 go_wp2_with fail
 go_loopw [] (fun wr=>∃ k2 b2,k<=k2/\Hid (PS wr pb s k2 b2/\Below pb w wr)) (fun wr=>s.size-Cmpa.atOf wr pb)
 case atStart=>exact ⟨k1,b1,q1,P1⟩
 case round =>
  obtain ⟨k2,b2,q2,P2⟩:=hrel
  clear c3 P1
  have c3:=PS.c3 P2.out.1
  have hat:=P2.out.1.atOf
  cases b2 with
  | true =>
   go_wp2_with fail
   first|go_end0|refine bodyPost_ret (results_none rfl _ _ _) rfl ?_
   exact Q.of q2 P2.out.1 P2.out.2
  | false =>
   go_wp2_with fail
   refine (op_any pb k2 s false _ P2.out.1).mono ?_
   rintro e w3 ⟨⟨z,hz,rfl⟩,p3,be3⟩
   have P3:Hid (PS w3 pb s k2 false/\Below pb w w3):=⟨p3,P2.out.2.trans be3⟩
   clear p3 be3 c3
   rcases hz with rfl|⟨z0,z1,hfit⟩
   ·go_wp2_with fail
    first|go_end0|refine bodyPost_ret (results_none rfl _ _ _) rfl ?_
    exact Q.of q2 P3.out.1 P3.out.2
   ·have zn:¬ z=0:=by omega
    have zb:(z == 0)=false:=by simp [zn]
    have zd:decide (z=0)=false:=decide_eq_false zn
    have hop:1<=opLen z:=by unfold opLen;split <;> omega
    have c1:=PS.c1 P3.out.1
    have f1:=PS.fz P3.out.1 1
    have hlt:=P3.out.1.lt
    obtain ⟨t,ht,hw⟩ : ∃ t:ByteArray,t.size=opLen z/\wordsA[z.toNat]? = some (.string t):=⟨_,by have:=tab_at z.toNat (by omega) (by omega);rwa [show ((z.toNat:Nat):Int)=z by omega] at this,words_at z.toNat (by omega)⟩
    rw [<- ht] at hfit hop
    have hls:=P3.out.1.sz.1
    go_wp2_with fail
    refine (l2Level_any z _).mono ?_
    rintro e w4 ⟨⟨y,y0,y1,rfl⟩,hw4⟩
    have hw4:=hw4.symm
    subst hw4
    by_cases hy:y<least
    ·have d1:decide (y<least)=true:=decide_eq_true hy
     go_wp2_with fail
     first|go_end0|refine bodyPost_ret (results_none rfl _ _ _) rfl ?_
     exact Q.of q2 P3.out.1 P3.out.2
    ·have d1:decide (y<least)=false:=decide_eq_false hy
     have i1:IntKind.i64.wrap ((k2:Int)+(t.size:Int))=(k2:Int)+(t.size:Int):=by rw [IntKind.wrap_i64];omega
     have hz2:z<18:=by omega
     have hz3:(0:Int)<=z:=by omega
     have FIN:Hid (PS (((w3.setCell ⟨pb,1,none⟩ (.int .i64 ((k2:Int)+(t.size:Int)))).alloc (.cells wordsA 9)).drew) pb s (k2+t.size) false/\Below pb w (((w3.setCell ⟨pb,1,none⟩ (.int .i64 ((k2:Int)+(t.size:Int)))).alloc (.cells wordsA 9)).drew)):=by
      have h1:=P3.out.1.atz hfit (show ((k2:Int)+(t.size:Int))=((k2+t.size:Nat):Int) by omega)
      have hb:Below (w3.setCell ⟨pb,1,none⟩ (.int .i64 ((k2:Int)+(t.size:Int)))).heap.size (w3.setCell ⟨pb,1,none⟩ (.int .i64 ((k2:Int)+(t.size:Int)))) (((w3.setCell ⟨pb,1,none⟩ (.int .i64 ((k2:Int)+(t.size:Int)))).alloc (.cells wordsA 9)).drew):=(zAl _ _).drew
      exact ⟨h1.kept hb,(P3.out.2.trans below_set).trans (hb.mono (Nat.le_of_lt h1.lt))⟩
     clear ht
     go_wp2_with fail
     go_region_with (first|(go_at_call 118;refine (words_any _).mono ?_;rintro e w5 ⟨rfl,rfl⟩)|fail)
     all_goals
      go_wp2_with fail
      refine (l2Level_any z _).mono ?_
      rintro e w6 ⟨⟨y2,u0,u1,rfl⟩,rfl⟩
      have hy7:IntKind.i64.wrap (y2+1)=y2+1:=by rw [IntKind.wrap_i64];omega
      go_wp2_with fail
      refine (hl (k2+t.size) false _ (y2+1) (by omega) (by omega) FIN.out.1).mono ?_
      rintro e w7 ⟨rfl,⟨k7,b7,q7,p7⟩,be7⟩
      have P7:Hid (PS w7 pb s k7 b7/\Below pb w w7):=⟨p7,FIN.out.2.trans be7⟩
      clear p7 be7
      go_wp2_with fail
      refine (put_any pb k7 s b7 _ P7.out.1 z 0 ⟨#[]⟩ (good0 s _ _)).mono ?_
      rintro e w8 ⟨rfl,⟨d8,p8,_⟩,be8⟩
      have P8:Hid (PS w8 pb s k7 d8/\Below pb w w8):=⟨p8,P7.out.2.trans be8⟩
      clear p8 be8
      go_wp2_with fail
      go_roundw
      case rel=>exact ⟨k7,d8,by omega,P8⟩
      case measure=>rw [hat,P8.out.1.atOf];omega
theorem both (pb:Nat) (s:ByteArray):∀ (n deep:Nat),1<=deep->deep<=31->31<=deep+n ->
  (∀ k bad w,PS w pb s k bad->Calls prog 167 #[.pointer (some ⟨pb,0,none⟩),.int .i64 (deep:Int)] w (Q pb s k w)) /\
  (∀ k bad w (least:Int),1<=least->least<=7->PS w pb s k bad->Calls prog 141 #[.pointer (some ⟨pb,0,none⟩),.int .i64 least,.int .i64 (deep:Int)] w (Q pb s k w))
 | n,deep,h1,h2,h3=>by
  by_cases hd:deep=31
  ·subst hd
   refine ⟨fun k bad w h=>(value_deep pb k s bad w h).mono ?_,fun k bad w least _ _ h=>level_deep pb k s bad least w h⟩
   rintro e w' ⟨rfl,p,b⟩
   exact Q.of (Nat.le_refl _) p b
  ·match n,h3 with
   | 0,h3=>omega
   | n+1,h3 =>
    have ih:=both pb s n (deep+1) (by omega) (by omega) (by omega)
    have e:(((deep+1:Nat)):Int)=(deep:Int)+1:=by omega
    rw [e] at ih
    have hv:=fun k bad w h=>value_step pb k deep s bad w h h1 (by omega) ih.1 (fun k bad w h=>ih.2 k bad w 1 (by decide) (by decide) h)
    exact ⟨hv,fun k bad w least l0 l1 h=>level_step pb k deep s bad least w h h1 (by omega) l0 l1 hv (fun k bad w least l0 l1 h=>ih.2 k bad w least l0 l1 h)⟩
open Stepx (exprB)
def Made (w:World) (s:ByteArray) (e:Ending) (w':World):Prop :=
 (e=.returned (.tuple #[.slice none 0 0,.bool false]) \/ ∃ (a:Option Addr) (cap:Nat) (L:List Stepx.Node),e=.returned (.tuple #[.slice a L.length cap,.bool true])/\Nodm.Own w' w.heap.size (.slice a L.length cap) L/\L.length<=30/\exprB L=true/\∀ x ∈ L,Cmpa.Good s x)/\Below w.heap.size w w'
theorem own_low {w:World} {b b':Nat} {v:Value} {L:List Stepx.Node} (h:Nodm.Own w b v L) (hb:b'<=b):Nodm.Own w b' v L:=by
 refine ⟨h.1,?_⟩
 rcases h.2 with h'|⟨g,c,cur,rfl,hg,rest⟩
 ·exact .inl h'
 ·exact .inr ⟨g,c,cur,rfl,Nat.le_trans hb hg,rest⟩
theorem compiled_any (s:ByteArray) (w:World) (hs:s.size<=1048576):Calls prog 114 #[.string s] w (Made w s):=by
 by_cases h2:200<s.size
 ·go_enter func114,ntmps114
  go_wp2_with fail
  go_ret2
  exact ⟨.inl rfl,Below.refl _ _⟩
 ·have P0:Hid (PS (w.alloc (.cells #[.string s,.int .i64 0,.slice none 0 0,.bool false] 173)) w.heap.size s 0 false):=by
   refine ⟨none,0,[],?_,?_,?_,?_,fun i=>?_,Nat.zero_le _,by omega,by decide,(fun x hx=>by cases hx),World.ownsRow_nil _ _ _ _⟩
   ·rw [World.cell?_alloc_new];rfl
   ·rw [World.cell?_alloc_new];rfl
   ·rw [World.cell?_alloc_new];rfl
   ·rw [World.cell?_alloc_new];rfl
   ·simp
  have cl:=(both w.heap.size s 30 1 (by decide) (by decide) (by decide)).2
  go_enter func114,ntmps114
  go_wp2_with fail
  rw [show ((1:Nat):Int)=1 from rfl] at cl
  refine (cl 0 false _ 1 (by decide) (by decide) P0.out).mono ?_
  rintro e w1 ⟨rfl,⟨k1,b1,_,p1⟩,be1⟩
  have B1:Hid (Below w.heap.size w w1):=(zAl _ _).trans be1
  obtain ⟨a,cap,L,c0,c1,c2,c3,cf,hk,hs',hl30,hg,ho⟩:=p1
  have G:Hid (∀ x ∈ L,Cmpa.Good s x):=hg
  have O:Hid (Nodm.Own w1 w.heap.size (.slice a L.length cap) L):=own_low ho (Nat.le_succ _)
  have N:Hid (Stepx.Nodes w1 a L):=Nodm.nodes_own ho (fun x hx=>Nat.le_trans (hg x hx).1 (by decide))
  clear hg ho cl P0 be1 cf c0
  have ce:=fun w hN=>Specx.exprOk_any a cap L w hN (by omega)
  cases b1 with
  | true =>
   go_wp2_with fail
   go_ret2
   exact ⟨.inl rfl,B1.out⟩
  | false =>
   by_cases hk1:(k1:Int)=(s.size:Int)
   ·have d1:((k1:Int) == (s.size:Int))=true:=by simp [hk1]
    have d2:((k1:Int) != (s.size:Int))=false:=by simp [hk1]
    have d3:decide ((k1:Int)=(s.size:Int))=true:=decide_eq_true hk1
    have HK:Hid ((k1:Int)=(s.size:Int)):=hk1
    clear hk1
    cases hx:exprB L with
    | true =>
     rw [hx] at ce
     have HX:Hid (exprB L=true):=hx
     clear hx
     go_wp2_with (go_at_call 50;refine (ce _ N.out).mono ?_;rintro e w2 ⟨rfl,b2⟩;have B2:Hid (Below w.heap.size w w2):=B1.out.trans (b2.mono B1.out.size);have O2:Hid (Nodm.Own w2 w.heap.size (.slice a L.length cap) L):=Nodm.own_below O.out b2;have c2b:w2.cell? ⟨w.heap.size,2,none⟩=some (.slice a L.length cap):=(b2.cell (p:=⟨w.heap.size,2,none⟩) (World.block_lt_of_cell? w1 ⟨w.heap.size,2,none⟩ c2)).trans c2;clear b2)
     go_ret2
     exact ⟨.inr ⟨a,cap,L,rfl,O2.out,hl30,HX.out,G.out⟩,B2.out⟩
    | false =>
     rw [hx] at ce
     clear hx
     go_wp2_with (go_at_call 50;refine (ce _ N.out).mono ?_;rintro e w2 ⟨rfl,b2⟩;have B2:Hid (Below w.heap.size w w2):=B1.out.trans (b2.mono B1.out.size);clear b2)
     go_ret2
     exact ⟨.inl rfl,B2.out⟩
   ·have d1:((k1:Int) == (s.size:Int))=false:=by simp [hk1]
    have d2:((k1:Int) != (s.size:Int))=true:=by simp [hk1]
    have d3:decide ((k1:Int)=(s.size:Int))=false:=decide_eq_false hk1
    clear ce
    go_wp2_with fail
    go_ret2
    exact ⟨.inl rfl,B1.out⟩
end Cmpd
end Go.Proofs.YtickfkphhngagaaGreatDoor
