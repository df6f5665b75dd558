import Derived.Test.YtickfkphhngagaaGreatDoorP09
set_option linter.all false
set_option maxRecDepth 20000
set_option maxHeartbeats 8000000
open Go.ChangeShapes Go.WideShapes Go.ChangeAt Go.RowKit
open Go.Proofs.Tryz
namespace Go.Proofs.YtickfkphhngagaaGreatDoor
namespace Secp
open Go.Deep
open Signed (inB)
open Names (nameB ret_bool)
open Stepx (exprB)
open Seco
theorem section_any (x:Secr.X) (a5:Option Addr) (c5:Nat) (B o:Nat) (w:World) (kB:AtC w B o x a5 c5) (hh:Secr.Has 0 w x a5) (hsm:Secr.SmallX x) :
  Calls prog 45 #[.pointer (some ⟨B,o,none⟩)] w fun e w'=>e=.returned (.bool (secB x))/\Below w.heap.size w w':=by
 have m0:w.cell? ⟨B,o,none⟩=some (.string x.f0):=kB.c0
 have m1:w.cell? ⟨B,o+1,none⟩=some (.int .i64 x.f1):=kB.c1
 have m4:w.cell? ⟨B,o+4,none⟩=some (.string x.f4):=kB.c4
 have cn:=fun w=>Names.implName_any x.f0 w hh.2.2.1
 have cr:=fun (h:inB x.f1 0 2=true)=>room_any x a5 c5 B o w kB h x.f4.size hsm.2.2
 have cb:=bank_any x a5 c5 B o w kB
 have cd:=data_any x a5 c5 B o w kB hsm.2.2
 have cp:∀ n,_:=fun n=>patches_any x a5 c5 B o (w.drewN n) (kB.below ⟨rfl,rfl,rfl,Nat.le_refl _,fun _ _=>rfl⟩) (hh.1.below ⟨rfl,rfl,rfl,Nat.le_refl _,fun _ _=>rfl⟩) hsm.1 hsm.2.2
 have RE:Hid (secB x=(nameB x.f0 && inB x.f1 0 2 && roomB x.f1 x.f3 x.f4.size && bankB x.f1 x.f2 && dataB x.f1 x.f4 && patchesB x.f1 x.f4.size x.f5)):=rfl
 clear kB hh hsm
 generalize secB x=r at *
 generalize nameB x.f0=b0 at *
 generalize roomB x.f1 x.f3 x.f4.size=b2 at *
 generalize bankB x.f1 x.f2=b3 at *
 generalize dataB x.f1 x.f4=b4 at *
 generalize patchesB x.f1 x.f4.size x.f5=b5 at *
 generalize x.f0=nm at *
 generalize x.f1=k at *
 generalize x.f4=d at *
 have RE:Hid (r=(b0 && inB k 0 2 && b2 && b3 && b4 && b5)):=RE
 cases b0
 ·have HE:Hid (r=false):=RE.out
  go_enter func45,ntmps45
  go_wp2_with (go_at_call 89;refine (cn _).mono ?_;rintro e w' ⟨rfl,rfl⟩)
  go_ret
  exact ⟨ret_bool HE.out.symm,Below.refl _ _⟩
 by_cases h0:0<=k
 ·have h0':decide (0<=k)=true:=decide_eq_true h0
  by_cases h1:k<=2
  ·have h1':decide (k<=2)=true:=decide_eq_true h1
   have hk:inB k 0 2=true:=decide_eq_true ⟨h0,h1⟩
   have cr:=cr hk
   have RE:Hid (r=(b2 && b3 && b4 && b5)):=by
    show r=_
    rw [RE.out,hk];simp
   clear hk
   cases b2
   ·have HE:Hid (r=false):=RE.out
    go_enter func45,ntmps45
    go_wp2_with first|(go_at_call 89;refine (cn _).mono ?_;rintro e w' ⟨rfl,rfl⟩)|(go_at_call 90;refine cr.mono ?_;rintro e w' ⟨rfl,rfl⟩)
    go_ret
    exact ⟨ret_bool HE.out.symm,Below.refl _ _⟩
   cases b3
   ·have HE:Hid (r=false):=RE.out
    go_enter func45,ntmps45
    go_wp2_with first|(go_at_call 89;refine (cn _).mono ?_;rintro e w' ⟨rfl,rfl⟩)|(go_at_call 90;refine cr.mono ?_;rintro e w' ⟨rfl,rfl⟩)|(go_at_call 91;refine cb.mono ?_;rintro e w' ⟨rfl,rfl⟩)
    go_ret
    exact ⟨ret_bool HE.out.symm,Below.refl _ _⟩
   cases b4
   ·have HE:Hid (r=false):=RE.out
    go_enter func45,ntmps45
    go_wp2_with first|(go_at_call 89;refine (cn _).mono ?_;rintro e w' ⟨rfl,rfl⟩)|(go_at_call 90;refine cr.mono ?_;rintro e w' ⟨rfl,rfl⟩)|(go_at_call 91;refine cb.mono ?_;rintro e w' ⟨rfl,rfl⟩)|(go_at_call 92;refine cd.mono ?_;rintro e w' ⟨rfl,n,rfl⟩)
    go_ret
    exact ⟨ret_bool HE.out.symm,drewN_below zRf _⟩
   have HE:Hid (r=b5):=RE.out
   go_enter func45,ntmps45
   go_wp2_with first|(go_at_call 89;refine (cn _).mono ?_;rintro e w' ⟨rfl,rfl⟩)|(go_at_call 90;refine cr.mono ?_;rintro e w' ⟨rfl,rfl⟩)|(go_at_call 91;refine cb.mono ?_;rintro e w' ⟨rfl,rfl⟩)|(go_at_call 92;refine cd.mono ?_;rintro e w' ⟨rfl,n,rfl⟩)|(go_at_call 93;refine (cp _).mono ?_;rintro e w2 ⟨rfl,hb⟩)
   go_ret
   exact ⟨ret_bool HE.out.symm,(drewN_below zRf _).trans (hb.mono (Nat.le_refl _))⟩
  ·have h1':decide (k<=2)=false:=decide_eq_false h1
   have HE:Hid (r=false):=by
    show r=false
    rw [RE.out,show inB k 0 2=false from decide_eq_false (fun h=>h1 h.2)];rfl
   go_enter func45,ntmps45
   go_wp2_with (go_at_call 89;refine (cn _).mono ?_;rintro e w' ⟨rfl,rfl⟩)
   go_ret
   exact ⟨ret_bool HE.out.symm,Below.refl _ _⟩
 ·have h0':decide (0<=k)=false:=decide_eq_false h0
  have HE:Hid (r=false):=by
   show r=false
   rw [RE.out,show inB k 0 2=false from decide_eq_false (fun h=>h0 h.1)];rfl
  go_enter func45,ntmps45
  go_wp2_with (go_at_call 89;refine (cn _).mono ?_;rintro e w' ⟨rfl,rfl⟩)
  go_ret
  exact ⟨ret_bool HE.out.symm,Below.refl _ _⟩
theorem implSec_any (x:Secr.X) (a5:Option Addr) (c5:Nat) (w:World) (hh:Secr.Has 0 w x a5) (hsm:Secr.SmallX x) :
  Calls prog 17 #[.agg (cells x a5 c5)] w fun e w'=>e=.returned (.bool (secB x))/\Below w.heap.size w w':=by
 have HB:Hid (Below w.heap.size w (w.alloc (.cells (cells x a5 c5) 38))):=zAl _ _
 have c:=section_any x a5 c5 w.heap.size 0 (w.alloc (.cells (cells x a5 c5) 38)) ⟨by simp,cel (MapKept.heap_alloc w _).1 0 _ rfl,cel (MapKept.heap_alloc w _).1 1 _ rfl,cel (MapKept.heap_alloc w _).1 2 _ rfl,cel (MapKept.heap_alloc w _).1 3 _ rfl,cel (MapKept.heap_alloc w _).1 4 _ rfl,cel (MapKept.heap_alloc w _).1 5 _ rfl⟩ (hh.below HB.out) hsm
 generalize secB x=r at *
 clear hh hsm
 unfold cells at *
 generalize x.f0=q0 at *
 generalize x.f1=q1 at *
 generalize x.f2=q2 at *
 generalize x.f3=q3 at *
 generalize x.f4=q4 at *
 generalize x.f5.length=q5 at *
 go_enter func17,ntmps17
 go_wp2_with (go_at_call 45;refine c.mono ?_;rintro e w1 ⟨rfl,hb1⟩;have B1:Hid (Below w.heap.size w w1):=HB.out.trans (hb1.mono (by simp));clear hb1)
 go_ret
 exact ⟨rfl,B1.out⟩
theorem l9Patch_any (p:Patr.X) (a2:Option Addr) (c2:Nat) (n:Nat) (w:World) (hh:Patr.Has 0 w p a2) (hsm:Patr.SmallX p) (hn:n<=1048576) :
  Calls prog 52 #[.agg #[.int .i64 p.f0,.int .i64 p.f1,.slice a2 p.f2.length c2],.int .i64 (n:Int)] w fun e w'=>e=.returned (.bool (patchB n p))/\Below w.heap.size w w':=by
 have BX:Hid (∀ o,Below w.heap.size w (w.alloc o)):=fun o=>zAl _ _
 have ce:=fun W (h:Stepx.Nodes W a2 p.f2)=>Specx.exprOk_any a2 c2 p.f2 W h hsm
 have HNo:Hid (∀ W,Below w.heap.size w W->Stepx.Nodes W a2 p.f2):=fun W h=>(hh.1.below h).1
 have PE:Hid (patchB n p=(inB p.f1 1 3 && inB p.f0 0 ((n:Int)-psize p.f1) && exprB p.f2)):=rfl
 have hps:Hid (psize p.f1=if p.f1=2 then 2 else 1):=rfl
 clear hh hsm
 generalize patchB n p=r at *
 generalize psize p.f1=ps at *
 generalize exprB p.f2=xb at *
 obtain ⟨le,hle⟩ : ∃ le,le=p.f2.length:=⟨_,rfl⟩
 rw [<- hle]
 simp only [<- hle] at ce
 clear hle
 generalize p.f0=pat at *
 generalize p.f1=pk at *
 have PE:Hid (r=(inB pk 1 3 && inB pat 0 ((n:Int)-ps) && xb)):=PE
 have cl:=fun a b c w=>Signed.l1In_any a b c w
 by_cases h2:pk=2
 ·subst h2
  have i1:inB 2 1 3=true:=by decide
  have PF:Hid (r=(inB pat 0 ((n:Int)-2) && xb)):=by
   show r=_
   rw [PE.out,hps.out,i1];simp
  clear PE hps
  have w1:wrap64 ((n:Int)-2)=(n:Int)-2:=by unfold wrap64;omega
  by_cases i2:inB pat 0 ((n:Int)-2)=true
  ·have HE:Hid (r=xb):=by
    show r=_
    rw [PF.out,i2];rfl
   go_enter func52,ntmps52
   go_wp2_with first|(go_at_call 49;refine (Signed.l1In_any _ _ _ _).mono ?_;rintro e w' ⟨rfl,rfl⟩)|(go_at_call 50;refine (ce _ (HNo.out _ (BX.out _))).mono ?_;rintro e w2 ⟨rfl,hb1⟩;have B1:Hid (Below w.heap.size w w2):=(BX.out _).trans (hb1.mono (by simp));clear hb1)
   go_ret
   exact ⟨ret_bool HE.out.symm,B1.out⟩
  ·have i2:inB pat 0 ((n:Int)-2)=false:=by simpa using i2
   have HE:Hid (r=false):=by
    show r=_
    rw [PF.out,i2];rfl
   go_enter func52,ntmps52
   go_wp2_with first|(go_at_call 49;refine (Signed.l1In_any _ _ _ _).mono ?_;rintro e w' ⟨rfl,rfl⟩)|(go_at_call 50;refine (ce _ (HNo.out _ (BX.out _))).mono ?_;rintro e w2 ⟨rfl,hb1⟩;have B1:Hid (Below w.heap.size w w2):=(BX.out _).trans (hb1.mono (by simp));clear hb1)
   go_ret
   exact ⟨ret_bool HE.out.symm,BX.out _⟩
 ·have h2':(pk == 2)=false:=by simpa using h2
  have hps1:ps=1:=by rw [hps.out,if_neg h2]
  subst hps1
  by_cases i1:inB pk 1 3=true
  ·have PF:Hid (r=(inB pat 0 ((n:Int)-1) && xb)):=by
    show r=_
    rw [PE.out,i1];simp
   clear PE hps
   have w1:wrap64 ((n:Int)-1)=(n:Int)-1:=by unfold wrap64;omega
   by_cases i2:inB pat 0 ((n:Int)-1)=true
   ·have HE:Hid (r=xb):=by
     show r=_
     rw [PF.out,i2];rfl
    go_enter func52,ntmps52
    go_wp2_with first|(go_at_call 49;refine (Signed.l1In_any _ _ _ _).mono ?_;rintro e w' ⟨rfl,rfl⟩)|(go_at_call 50;refine (ce _ (HNo.out _ (BX.out _))).mono ?_;rintro e w2 ⟨rfl,hb1⟩;have B1:Hid (Below w.heap.size w w2):=(BX.out _).trans (hb1.mono (by simp));clear hb1)
    go_ret
    exact ⟨ret_bool HE.out.symm,B1.out⟩
   ·have i2:inB pat 0 ((n:Int)-1)=false:=by simpa using i2
    have HE:Hid (r=false):=by
     show r=_
     rw [PF.out,i2];rfl
    go_enter func52,ntmps52
    go_wp2_with first|(go_at_call 49;refine (Signed.l1In_any _ _ _ _).mono ?_;rintro e w' ⟨rfl,rfl⟩)|(go_at_call 50;refine (ce _ (HNo.out _ (BX.out _))).mono ?_;rintro e w2 ⟨rfl,hb1⟩;have B1:Hid (Below w.heap.size w w2):=(BX.out _).trans (hb1.mono (by simp));clear hb1)
    go_ret
    exact ⟨ret_bool HE.out.symm,BX.out _⟩
  ·have i1:inB pk 1 3=false:=by simpa using i1
   have HE:Hid (r=false):=by
    show r=_
    rw [PE.out,i1];rfl
   clear PE hps
   go_enter func52,ntmps52
   go_wp2_with (go_at_call 49;refine (Signed.l1In_any _ _ _ _).mono ?_;rintro e w' ⟨rfl,rfl⟩)
   go_ret
   exact ⟨ret_bool HE.out.symm,BX.out _⟩
theorem zero_no {d:ByteArray} {k:Nat} (hk:k<d.size) (h:¬ d[k].toNat=0):zeroB d=false:=by
 rw [Bool.eq_false_iff]
 intro hz
 unfold zeroB at hz
 rw [List.all_eq_true] at hz
 have:=hz d[k] (by show d.data[k] ∈ _;exact Array.getElem_mem_toList _)
 rw [beq_iff_eq] at this
 exact h (by rw [this];rfl)
theorem zero_yes {d:ByteArray} (h:∀ i (hi:i<d.size),d[i].toNat=0):zeroB d=true:=by
 unfold zeroB
 rw [List.all_eq_true]
 intro x hx
 obtain ⟨i,hi,rfl⟩:=List.getElem_of_mem hx
 have h1:=h i (by simpa using hi)
 rw [beq_iff_eq]
 exact UInt8.toNat_inj.1 h1
theorem specSec_any (x:Secr.X) (a5:Option Addr) (c5:Nat) (w:World) (hh:Secr.Has 0 w x a5) (hsm:Secr.SmallX x) :
  Calls prog 18 #[.agg (cells x a5 c5)] w fun e w'=>e=.returned (.bool (secB x))/\Below w.heap.size w w':=by
 have HB:Hid (Below w.heap.size w (w.alloc (.cells (cells x a5 c5) 38))):=zAl _ _
 have kB:Hid (∀ W',Below (w.alloc (.cells (cells x a5 c5) 38)).heap.size (w.alloc (.cells (cells x a5 c5) 38)) W'->W'.heap[w.heap.size]? = some (.cells (cells x a5 c5) 38)):=fun W' h=>(h.block _ (by simp)).trans (MapKept.heap_alloc w _).1
 have cn:=fun w=>Names.specName_any x.f0 w hh.2.2.1
 have HN:Hid (∀ W',Below w.heap.size w W'->Patr.Row 0 W' a5 x.f5):=fun W' h=>hh.1.below h
 have HS:Hid (Patr.Small x.f5):=hsm.1
 have hz:=hsm.2.2
 have hq:=hsm.1.1
 have RE:Hid (secB x=(nameB x.f0 && inB x.f1 0 2 && roomB x.f1 x.f3 x.f4.size && bankB x.f1 x.f2 && dataB x.f1 x.f4 && patchesB x.f1 x.f4.size x.f5)):=rfl
 clear hh hsm
 unfold cells at *
 generalize secB x=r at *
 generalize x.f0=nm at *
 generalize x.f1=k at *
 generalize x.f2=bk at *
 generalize x.f3=ad at *
 generalize x.f4=d at *
 generalize x.f5=Q at *
 obtain ⟨len,hl⟩ : ∃ len,len=Q.length:=⟨_,rfl⟩
 have HL:Hid (len=Q.length):=hl
 rw [<- hl] at HB kB hq |-
 clear hl
 have RE:Hid (r=(nameB nm && inB k 0 2 && roomB k ad d.size && bankB k bk && dataB k d && patchesB k d.size Q)):=RE
 go_enter func18,ntmps18
 obtain ⟨b0,hb0⟩ : ∃ b,b=nameB nm:=⟨_,rfl⟩
 rw [<- hb0] at cn RE
 clear hb0
 cases b0
 ·have HE:Hid (r=false):=RE.out
  go_wp2_with (go_at_call 48;refine (cn _).mono ?_;rintro e w' ⟨rfl,rfl⟩)
  go_ret
  exact ⟨ret_bool HE.out.symm,HB.out⟩
 by_cases i1:inB k 0 2=true
 ·by_cases h3:256<d.size
  ·have e3:(256:Int)<(d.size:Int):=by omega
   have e3':decide ((256:Int)<(d.size:Int))=true:=decide_eq_true e3
   have HE:Hid (r=false):=by
    show r=_
    rw [RE.out,i1];unfold roomB;rw [decide_eq_false (by omega:¬ d.size<=256)];rfl
   go_wp2_with first|(go_at_call 48;refine (cn _).mono ?_;rintro e w' ⟨rfl,rfl⟩)|(go_at_call 49;refine (Signed.l1In_any _ _ _ _).mono ?_;rintro e w' ⟨rfl,rfl⟩)
   go_ret
   exact ⟨ret_bool HE.out.symm,HB.out⟩
  have e3:¬ (256:Int)<(d.size:Int):=by omega
  have e3':decide ((256:Int)<(d.size:Int))=false:=decide_eq_false e3
  by_cases h4:256<len
  ·have e4:(256:Int)<(len:Int):=by omega
   have e4':decide ((256:Int)<(len:Int))=true:=decide_eq_true e4
   have HE:Hid (r=false):=by
    show r=_
    rw [RE.out];unfold patchesB;rw [decide_eq_false (by have:=HL.out;omega:¬ Q.length<=256)];simp
   go_wp2_with first|(go_at_call 48;refine (cn _).mono ?_;rintro e w' ⟨rfl,rfl⟩)|(go_at_call 49;refine (Signed.l1In_any _ _ _ _).mono ?_;rintro e w' ⟨rfl,rfl⟩)
   go_ret
   exact ⟨ret_bool HE.out.symm,HB.out⟩
  have e4:¬ (256:Int)<(len:Int):=by omega
  have e4':decide ((256:Int)<(len:Int))=false:=decide_eq_false e4
  have hbs:0<=base k/\base k<=49152:=by unfold base;split <;> (try split) <;> omega
  have cb:=fun w=>l9Base_any k w
  have RF:Hid (r=((ad == -1 || inB ad (base k) (base k+256-d.size)) && bankB k bk && dataB k d && patchesB k d.size Q)):=by
   show r=_
   rw [RE.out,i1];unfold roomB;rw [decide_eq_true (by omega:d.size<=256)];rfl
  clear RE
  generalize base k=bs at *
  have w1:wrap64 (bs+256)=bs+256:=by unfold wrap64;omega
  have w2:wrap64 (bs+256-(d.size:Int))=bs+256-(d.size:Int):=by unfold wrap64;omega
  obtain ⟨W0,hW0⟩ : ∃ W0,W0=w.alloc (.cells #[.string nm,.int .i64 k,.int .i64 bk,.int .i64 ad,.string d,.slice a5 len c5] 38):=⟨_,rfl⟩
  rw [<- hW0] at HB kB

  by_cases a1:ad = -1
  ·have a1':(ad == -1)=true:=by simpa using a1
   have RA:Hid (r=(bankB k bk && dataB k d && patchesB k d.size Q)):=by
    show r=_
    rw [RF.out,a1'];simp
   clear RF
   subst a1
   by_cases p1:bk = -1
   ·have RG:Hid (r=(dataB k d && patchesB k d.size Q)):=by
     show r=_
     rw [RA.out];unfold bankB;rw [p1];simp
    have p1':(bk == -1)=true:=by simpa using p1
    subst p1
    go_wp2_with first|(go_at_call 48;refine (cn _).mono ?_;rintro e w' ⟨rfl,rfl⟩)|(go_at_call 49;refine (Signed.l1In_any _ _ _ _).mono ?_;rintro e w' ⟨rfl,rfl⟩)|(go_at_call 51;refine (cb _).mono ?_;rintro e w' ⟨rfl,rfl⟩)
    rw [<- hW0]
    clear hW0
    clear cn cb
    go_loopw [5] (fun v wr=>∃ j:Nat,j<=len/\v=.int .i64 j/\Hid (∀ i (hi:i<Q.length),i<j->patchB d.size Q[i]=true/\¬ k=2)/\Hid (Below W0.heap.size W0 wr)) (fun v _=>len-(intOf v).toNat)
    case atStart=>exact ⟨0,Nat.zero_le _,rfl,(fun i _ h=>absurd h (Nat.not_lt_zero _)),Below.refl _ _⟩
    case round =>
     obtain ⟨j,hj,rfl,hall,hbel⟩:=hrel
     have m1:wr.cell? ⟨w.heap.size,1,none⟩=some (.int .i64 k):=cel (kB.out _ hbel.out) 1 _ rfl
     have m4:wr.cell? ⟨w.heap.size,4,none⟩=some (.string d):=cel (kB.out _ hbel.out) 4 _ rfl
     have m5:wr.cell? ⟨w.heap.size,5,none⟩=some (.slice a5 len c5):=cel (kB.out _ hbel.out) 5 _ rfl
     have BW:Hid (Below w.heap.size w wr):=HB.out.trans (hbel.out.mono HB.out.size)
     by_cases hlt:j<len
     ·have hkL:j<Q.length:=by have:=HL.out;omega
      rcases HN.out wr BW.out with hnil|⟨b,off,rfl,_,hb,hc⟩
      ·exfalso;rw [hnil] at hkL;exact absurd hkL (by simp)
      obtain ⟨a2,c2,d0,d1,d2,hh⟩:=hc j hkL
      have hse:Patr.SmallX Q[j]:=HS.out.2 j hkL
      have ce:=l9Patch_any Q[j] a2 c2 d.size wr hh hse hz
      have FLS:Hid (patchB d.size Q[j]=false \/ k=2->r=false):=fun h=>by
       rw [RG.out]
       have hp:patchesB k d.size Q=false:=by
        unfold patchesB
        rcases h with h|h
        ·rw [all_no hkL h];simp
        ·subst h;rw [decide_eq_true (by omega:0<Q.length)];simp
       rw [hp];simp
      have NXT:Hid (patchB d.size Q[j]=true->¬ k=2->∀ i (hi:i<Q.length),i<j+1->patchB d.size Q[i]=true/\¬ k=2):=fun h h2 i hi hik=>by
       rcases Nat.lt_or_ge i j with c|c
       ·exact hall.out i hi c
       ·obtain rfl:i=j:=by omega
        exact ⟨h,h2⟩
      clear hc hh hse hall
      generalize patchB d.size Q[j]=pb at *
      obtain ⟨le,hle⟩ : ∃ le,le=Q[j].f2.length:=⟨_,rfl⟩
      rw [<- hle] at d2 ce
      obtain ⟨pat,hpat⟩ : ∃ q,q=Q[j].f0:=⟨_,rfl⟩
      obtain ⟨pk,hpk⟩ : ∃ q,q=Q[j].f1:=⟨_,rfl⟩
      rw [<- hpat] at d0 ce
      rw [<- hpk] at d1 ce
      clear hle hpat hpk
      have k0:(0:Int)<=(j:Int):=by omega
      have k1:(j:Int)<(len:Int):=by omega
      go_wp2_with fail
      refine ce.mono ?_
      rintro e w2 ⟨rfl,hb1⟩
      have B2:Hid (Below W0.heap.size W0 w2):=hbel.out.trans (hb1.mono hbel.out.size)
      have BW2:Hid (Below w.heap.size w w2):=BW.out.trans (hb1.mono BW.out.size)
      have y1:w2.cell? ⟨w.heap.size,1,none⟩=some (.int .i64 k):=cel (kB.out _ B2.out) 1 _ rfl
      clear hb1 ce m1 m4 m5 d0 d1 d2
      cases pb
      ·have HE:Hid (r=false):=FLS.out (.inl rfl)
       go_wp2
       go_ret
       exact ⟨ret_bool HE.out.symm,BW2.out⟩
      ·by_cases hk2:k=2
       ·have HE:Hid (r=false):=FLS.out (.inr hk2)
        have e5:(k == 2)=true:=by simpa using hk2
        clear FLS NXT
        go_wp2
        go_ret
        exact ⟨ret_bool HE.out.symm,BW2.out⟩
       ·have e5:(k == 2)=false:=by simpa using hk2
        have NY:Hid (∀ i (hi:i<Q.length),i<j+1->patchB d.size Q[i]=true/\¬ k=2):=NXT.out rfl hk2
        clear FLS NXT
        go_wp2_with fail
        go_roundw
        case rel=>exact ⟨j+1,by omega,by go_num,NY.out,B2.out⟩
        case measure=>simp [intOf];omega
     ·have RH:Hid (r=dataB k d):=by
       show r=_
       rw [RG.out]
       have hp:patchesB k d.size Q=true:=by
        unfold patchesB
        rw [decide_eq_true (by have:=HL.out;omega:Q.length<=256),all_le (k:=j) (by have:=HL.out;omega) (fun i hi h=>(hall.out i hi h).1) (by have:=HL.out;omega)]
        have:(k == 2 && decide (0<Q.length))=false:=by
         rw [Bool.eq_false_iff];intro h
         rw [Bool.and_eq_true,beq_iff_eq,decide_eq_true_iff] at h
         exact (hall.out 0 h.2 (by have:=HL.out;omega)).2 h.1
        rw [this];rfl
       rw [hp];simp
      clear hall
      go_wp2_with fail
      clear m1 m4 m5
      go_loopw [6] (fun v wx=>∃ i:Nat,i<=d.size/\v=.int .i64 i/\Hid (∀ q (hq:q<d.size),q<i->d[q].toNat=0)/\Hid (wx=wr)) (fun v _=>d.size-(intOf v).toNat)
      case atStart=>exact ⟨0,Nat.zero_le _,rfl,(fun i _ h=>absurd h (Nat.not_lt_zero _)),rfl⟩
      case round =>
       obtain ⟨i,hi,rfl,hzz,hwx⟩:=hrel
       have hwx:=hwx.out
       subst hwx
       have m1:wr.cell? ⟨w.heap.size,1,none⟩=some (.int .i64 k):=cel (kB.out _ hbel.out) 1 _ rfl
       have m4:wr.cell? ⟨w.heap.size,4,none⟩=some (.string d):=cel (kB.out _ hbel.out) 4 _ rfl
       by_cases hk2:k=2
       ·have e5:(k == 2)=true:=by simpa using hk2
        by_cases hil:i<d.size
        ·have g1:(i:Int)<(d.size:Int):=by omega
         have g1':decide ((i:Int)<(d.size:Int))=true:=decide_eq_true g1
         have g0:(0:Int)<=(i:Int):=by omega
         by_cases hzero:d[i].toNat=0
         ·have NY:Hid (∀ q (hq:q<d.size),q<i+1->d[q].toNat=0):=fun q hq hqi=>by
           rcases Nat.lt_or_ge q i with c|c
           ·exact hzz.out q hq c
           ·obtain rfl:q=i:=by omega
            exact hzero
          have z1:((d[i].toNat:Int) == 0)=true:=by rw [hzero];rfl
          have z2:(d[i].toNat:Int)=0:=by omega
          clear hzz
          go_wp2_with fail
          go_roundw
          case rel=>exact ⟨i+1,by omega,by go_num,NY.out,by first|exact rfl|exact trivial⟩
          case measure=>simp [intOf];omega
         ·have HE:Hid (r=false):=by
           show r=_
           rw [RH.out];unfold dataB;rw [zero_no hil hzero,hk2];rfl
          have z1:((d[i].toNat:Int) == 0)=false:=by rw [beq_eq_false_iff_ne];omega
          have z2:¬ (d[i].toNat:Int)=0:=by omega
          clear hzz
          go_wp2
          all_goals go_ret
          all_goals exact ⟨ret_bool HE.out.symm,BW.out⟩
        ·have g1:¬ (i:Int)<(d.size:Int):=by omega
         have g1':decide ((i:Int)<(d.size:Int))=false:=decide_eq_false g1
         have HE:Hid (r=true):=by
          show r=_
          rw [RH.out];unfold dataB;rw [zero_yes (fun q hq=>hzz.out q hq (by omega))];simp
         clear hzz
         go_wp2
         all_goals go_ret
         all_goals exact ⟨ret_bool HE.out.symm,BW.out⟩
       ·have e5:(k == 2)=false:=by simpa using hk2
        have HE:Hid (r=true):=by
         show r=_
         rw [RH.out];unfold dataB
         have:(k != 2)=true:=by simpa using hk2
         rw [this];rfl
        clear hzz
        by_cases hil:i<d.size
        ·have g1:(i:Int)<(d.size:Int):=by omega
         have g1':decide ((i:Int)<(d.size:Int))=true:=decide_eq_true g1
         go_wp2
         all_goals go_ret
         all_goals exact ⟨ret_bool HE.out.symm,BW.out⟩
        ·have g1:¬ (i:Int)<(d.size:Int):=by omega
         have g1':decide ((i:Int)<(d.size:Int))=false:=decide_eq_false g1
         go_wp2
         all_goals go_ret
         all_goals exact ⟨ret_bool HE.out.symm,BW.out⟩
   ·have p1':(bk == -1)=false:=by simpa using p1
    have p1'':(bk != -1)=true:=by simpa using p1
    by_cases p2:k=1
    ·have p2':(k == 1)=true:=by simpa using p2
     by_cases p3:inB bk 1 15=true
     ·have RG:Hid (r=(dataB k d && patchesB k d.size Q)):=by
       show r=_
       rw [RA.out];unfold bankB;rw [p2',p3];simp
      have p2'':(k != 1)=false:=by simpa using p2
      clear p2
      go_wp2_with first|(go_at_call 48;refine (cn _).mono ?_;rintro e w' ⟨rfl,rfl⟩)|(go_at_call 49;refine (Signed.l1In_any _ _ _ _).mono ?_;rintro e w' ⟨rfl,rfl⟩)|(go_at_call 51;refine (cb _).mono ?_;rintro e w' ⟨rfl,rfl⟩)
      rw [<- hW0]
      clear hW0
      clear cn cb
      go_loopw [5] (fun v wr=>∃ j:Nat,j<=len/\v=.int .i64 j/\Hid (∀ i (hi:i<Q.length),i<j->patchB d.size Q[i]=true/\¬ k=2)/\Hid (Below W0.heap.size W0 wr)) (fun v _=>len-(intOf v).toNat)
      case atStart=>exact ⟨0,Nat.zero_le _,rfl,(fun i _ h=>absurd h (Nat.not_lt_zero _)),Below.refl _ _⟩
      case round =>
       obtain ⟨j,hj,rfl,hall,hbel⟩:=hrel
       have m1:wr.cell? ⟨w.heap.size,1,none⟩=some (.int .i64 k):=cel (kB.out _ hbel.out) 1 _ rfl
       have m4:wr.cell? ⟨w.heap.size,4,none⟩=some (.string d):=cel (kB.out _ hbel.out) 4 _ rfl
       have m5:wr.cell? ⟨w.heap.size,5,none⟩=some (.slice a5 len c5):=cel (kB.out _ hbel.out) 5 _ rfl
       have BW:Hid (Below w.heap.size w wr):=HB.out.trans (hbel.out.mono HB.out.size)
       by_cases hlt:j<len
       ·have hkL:j<Q.length:=by have:=HL.out;omega
        rcases HN.out wr BW.out with hnil|⟨b,off,rfl,_,hb,hc⟩
        ·exfalso;rw [hnil] at hkL;exact absurd hkL (by simp)
        obtain ⟨a2,c2,d0,d1,d2,hh⟩:=hc j hkL
        have hse:Patr.SmallX Q[j]:=HS.out.2 j hkL
        have ce:=l9Patch_any Q[j] a2 c2 d.size wr hh hse hz
        have FLS:Hid (patchB d.size Q[j]=false \/ k=2->r=false):=fun h=>by
         rw [RG.out]
         have hp:patchesB k d.size Q=false:=by
          unfold patchesB
          rcases h with h|h
          ·rw [all_no hkL h];simp
          ·subst h;rw [decide_eq_true (by omega:0<Q.length)];simp
         rw [hp];simp
        have NXT:Hid (patchB d.size Q[j]=true->¬ k=2->∀ i (hi:i<Q.length),i<j+1->patchB d.size Q[i]=true/\¬ k=2):=fun h h2 i hi hik=>by
         rcases Nat.lt_or_ge i j with c|c
         ·exact hall.out i hi c
         ·obtain rfl:i=j:=by omega
          exact ⟨h,h2⟩
        clear hc hh hse hall
        generalize patchB d.size Q[j]=pb at *
        obtain ⟨le,hle⟩ : ∃ le,le=Q[j].f2.length:=⟨_,rfl⟩
        rw [<- hle] at d2 ce
        obtain ⟨pat,hpat⟩ : ∃ q,q=Q[j].f0:=⟨_,rfl⟩
        obtain ⟨pk,hpk⟩ : ∃ q,q=Q[j].f1:=⟨_,rfl⟩
        rw [<- hpat] at d0 ce
        rw [<- hpk] at d1 ce
        clear hle hpat hpk
        have k0:(0:Int)<=(j:Int):=by omega
        have k1:(j:Int)<(len:Int):=by omega
        go_wp2_with fail
        refine ce.mono ?_
        rintro e w2 ⟨rfl,hb1⟩
        have B2:Hid (Below W0.heap.size W0 w2):=hbel.out.trans (hb1.mono hbel.out.size)
        have BW2:Hid (Below w.heap.size w w2):=BW.out.trans (hb1.mono BW.out.size)
        have y1:w2.cell? ⟨w.heap.size,1,none⟩=some (.int .i64 k):=cel (kB.out _ B2.out) 1 _ rfl
        clear hb1 ce m1 m4 m5 d0 d1 d2
        cases pb
        ·have HE:Hid (r=false):=FLS.out (.inl rfl)
         go_wp2
         go_ret
         exact ⟨ret_bool HE.out.symm,BW2.out⟩
        ·by_cases hk2:k=2
         ·have HE:Hid (r=false):=FLS.out (.inr hk2)
          have e5:(k == 2)=true:=by simpa using hk2
          clear FLS NXT
          go_wp2
          go_ret
          exact ⟨ret_bool HE.out.symm,BW2.out⟩
         ·have e5:(k == 2)=false:=by simpa using hk2
          have NY:Hid (∀ i (hi:i<Q.length),i<j+1->patchB d.size Q[i]=true/\¬ k=2):=NXT.out rfl hk2
          clear FLS NXT
          go_wp2_with fail
          go_roundw
          case rel=>exact ⟨j+1,by omega,by go_num,NY.out,B2.out⟩
          case measure=>simp [intOf];omega
       ·have RH:Hid (r=dataB k d):=by
         show r=_
         rw [RG.out]
         have hp:patchesB k d.size Q=true:=by
          unfold patchesB
          rw [decide_eq_true (by have:=HL.out;omega:Q.length<=256),all_le (k:=j) (by have:=HL.out;omega) (fun i hi h=>(hall.out i hi h).1) (by have:=HL.out;omega)]
          have:(k == 2 && decide (0<Q.length))=false:=by
           rw [Bool.eq_false_iff];intro h
           rw [Bool.and_eq_true,beq_iff_eq,decide_eq_true_iff] at h
           exact (hall.out 0 h.2 (by have:=HL.out;omega)).2 h.1
          rw [this];rfl
         rw [hp];simp
        clear hall
        go_wp2_with fail
        clear m1 m4 m5
        go_loopw [6] (fun v wx=>∃ i:Nat,i<=d.size/\v=.int .i64 i/\Hid (∀ q (hq:q<d.size),q<i->d[q].toNat=0)/\Hid (wx=wr)) (fun v _=>d.size-(intOf v).toNat)
        case atStart=>exact ⟨0,Nat.zero_le _,rfl,(fun i _ h=>absurd h (Nat.not_lt_zero _)),rfl⟩
        case round =>
         obtain ⟨i,hi,rfl,hzz,hwx⟩:=hrel
         have hwx:=hwx.out
         subst hwx
         have m1:wr.cell? ⟨w.heap.size,1,none⟩=some (.int .i64 k):=cel (kB.out _ hbel.out) 1 _ rfl
         have m4:wr.cell? ⟨w.heap.size,4,none⟩=some (.string d):=cel (kB.out _ hbel.out) 4 _ rfl
         by_cases hk2:k=2
         ·have e5:(k == 2)=true:=by simpa using hk2
          by_cases hil:i<d.size
          ·have g1:(i:Int)<(d.size:Int):=by omega
           have g1':decide ((i:Int)<(d.size:Int))=true:=decide_eq_true g1
           have g0:(0:Int)<=(i:Int):=by omega
           by_cases hzero:d[i].toNat=0
           ·have NY:Hid (∀ q (hq:q<d.size),q<i+1->d[q].toNat=0):=fun q hq hqi=>by
             rcases Nat.lt_or_ge q i with c|c
             ·exact hzz.out q hq c
             ·obtain rfl:q=i:=by omega
              exact hzero
            have z1:((d[i].toNat:Int) == 0)=true:=by rw [hzero];rfl
            have z2:(d[i].toNat:Int)=0:=by omega
            clear hzz
            go_wp2_with fail
            go_roundw
            case rel=>exact ⟨i+1,by omega,by go_num,NY.out,by first|exact rfl|exact trivial⟩
            case measure=>simp [intOf];omega
           ·have HE:Hid (r=false):=by
             show r=_
             rw [RH.out];unfold dataB;rw [zero_no hil hzero,hk2];rfl
            have z1:((d[i].toNat:Int) == 0)=false:=by rw [beq_eq_false_iff_ne];omega
            have z2:¬ (d[i].toNat:Int)=0:=by omega
            clear hzz
            go_wp2
            all_goals go_ret
            all_goals exact ⟨ret_bool HE.out.symm,BW.out⟩
          ·have g1:¬ (i:Int)<(d.size:Int):=by omega
           have g1':decide ((i:Int)<(d.size:Int))=false:=decide_eq_false g1
           have HE:Hid (r=true):=by
            show r=_
            rw [RH.out];unfold dataB;rw [zero_yes (fun q hq=>hzz.out q hq (by omega))];simp
           clear hzz
           go_wp2
           all_goals go_ret
           all_goals exact ⟨ret_bool HE.out.symm,BW.out⟩
         ·have e5:(k == 2)=false:=by simpa using hk2
          have HE:Hid (r=true):=by
           show r=_
           rw [RH.out];unfold dataB
           have:(k != 2)=true:=by simpa using hk2
           rw [this];rfl
          clear hzz
          by_cases hil:i<d.size
          ·have g1:(i:Int)<(d.size:Int):=by omega
           have g1':decide ((i:Int)<(d.size:Int))=true:=decide_eq_true g1
           go_wp2
           all_goals go_ret
           all_goals exact ⟨ret_bool HE.out.symm,BW.out⟩
          ·have g1:¬ (i:Int)<(d.size:Int):=by omega
           have g1':decide ((i:Int)<(d.size:Int))=false:=decide_eq_false g1
           go_wp2
           all_goals go_ret
           all_goals exact ⟨ret_bool HE.out.symm,BW.out⟩
     ·have p3:inB bk 1 15=false:=by simpa using p3
      have HE:Hid (r=false):=by
       show r=_
       rw [RA.out];unfold bankB;rw [p1',p3];try simp
      have p2'':(k != 1)=false:=by simpa using p2
      clear p2
      go_wp2_with first|(go_at_call 48;refine (cn _).mono ?_;rintro e w' ⟨rfl,rfl⟩)|(go_at_call 49;refine (Signed.l1In_any _ _ _ _).mono ?_;rintro e w' ⟨rfl,rfl⟩)|(go_at_call 51;refine (cb _).mono ?_;rintro e w' ⟨rfl,rfl⟩)
      go_ret
      rw [<- hW0]
      exact ⟨ret_bool HE.out.symm,HB.out⟩
    ·have p2':(k == 1)=false:=by simpa using p2
     have p2'':(k != 1)=true:=by simpa using p2
     have HE:Hid (r=false):=by
      show r=_
      rw [RA.out];unfold bankB;rw [p1',p2'];try simp
     go_wp2_with first|(go_at_call 48;refine (cn _).mono ?_;rintro e w' ⟨rfl,rfl⟩)|(go_at_call 49;refine (Signed.l1In_any _ _ _ _).mono ?_;rintro e w' ⟨rfl,rfl⟩)|(go_at_call 51;refine (cb _).mono ?_;rintro e w' ⟨rfl,rfl⟩)
     go_ret
     rw [<- hW0]
     exact ⟨ret_bool HE.out.symm,HB.out⟩
  ·have a1':(ad == -1)=false:=by simpa using a1
   have a1'':(ad != -1)=true:=by simpa using a1
   by_cases a2:inB ad bs (bs+256-d.size)=true
   ·have RA:Hid (r=(bankB k bk && dataB k d && patchesB k d.size Q)):=by
     show r=_
     rw [RF.out,a1',a2];simp
    clear RF
    by_cases p1:bk = -1
    ·have RG:Hid (r=(dataB k d && patchesB k d.size Q)):=by
      show r=_
      rw [RA.out];unfold bankB;rw [p1];simp
     have p1':(bk == -1)=true:=by simpa using p1
     subst p1
     go_wp2_with first|(go_at_call 48;refine (cn _).mono ?_;rintro e w' ⟨rfl,rfl⟩)|(go_at_call 49;refine (Signed.l1In_any _ _ _ _).mono ?_;rintro e w' ⟨rfl,rfl⟩)|(go_at_call 51;refine (cb _).mono ?_;rintro e w' ⟨rfl,rfl⟩)
     rw [<- hW0]
     clear hW0
     clear cn cb
     go_loopw [5] (fun v wr=>∃ j:Nat,j<=len/\v=.int .i64 j/\Hid (∀ i (hi:i<Q.length),i<j->patchB d.size Q[i]=true/\¬ k=2)/\Hid (Below W0.heap.size W0 wr)) (fun v _=>len-(intOf v).toNat)
     case atStart=>exact ⟨0,Nat.zero_le _,rfl,(fun i _ h=>absurd h (Nat.not_lt_zero _)),Below.refl _ _⟩
     case round =>
      obtain ⟨j,hj,rfl,hall,hbel⟩:=hrel
      have m1:wr.cell? ⟨w.heap.size,1,none⟩=some (.int .i64 k):=cel (kB.out _ hbel.out) 1 _ rfl
      have m4:wr.cell? ⟨w.heap.size,4,none⟩=some (.string d):=cel (kB.out _ hbel.out) 4 _ rfl
      have m5:wr.cell? ⟨w.heap.size,5,none⟩=some (.slice a5 len c5):=cel (kB.out _ hbel.out) 5 _ rfl
      have BW:Hid (Below w.heap.size w wr):=HB.out.trans (hbel.out.mono HB.out.size)
      by_cases hlt:j<len
      ·have hkL:j<Q.length:=by have:=HL.out;omega
       rcases HN.out wr BW.out with hnil|⟨b,off,rfl,_,hb,hc⟩
       ·exfalso;rw [hnil] at hkL;exact absurd hkL (by simp)
       obtain ⟨a2,c2,d0,d1,d2,hh⟩:=hc j hkL
       have hse:Patr.SmallX Q[j]:=HS.out.2 j hkL
       have ce:=l9Patch_any Q[j] a2 c2 d.size wr hh hse hz
       have FLS:Hid (patchB d.size Q[j]=false \/ k=2->r=false):=fun h=>by
        rw [RG.out]
        have hp:patchesB k d.size Q=false:=by
         unfold patchesB
         rcases h with h|h
         ·rw [all_no hkL h];simp
         ·subst h;rw [decide_eq_true (by omega:0<Q.length)];simp
        rw [hp];simp
       have NXT:Hid (patchB d.size Q[j]=true->¬ k=2->∀ i (hi:i<Q.length),i<j+1->patchB d.size Q[i]=true/\¬ k=2):=fun h h2 i hi hik=>by
        rcases Nat.lt_or_ge i j with c|c
        ·exact hall.out i hi c
        ·obtain rfl:i=j:=by omega
         exact ⟨h,h2⟩
       clear hc hh hse hall
       generalize patchB d.size Q[j]=pb at *
       obtain ⟨le,hle⟩ : ∃ le,le=Q[j].f2.length:=⟨_,rfl⟩
       rw [<- hle] at d2 ce
       obtain ⟨pat,hpat⟩ : ∃ q,q=Q[j].f0:=⟨_,rfl⟩
       obtain ⟨pk,hpk⟩ : ∃ q,q=Q[j].f1:=⟨_,rfl⟩
       rw [<- hpat] at d0 ce
       rw [<- hpk] at d1 ce
       clear hle hpat hpk
       have k0:(0:Int)<=(j:Int):=by omega
       have k1:(j:Int)<(len:Int):=by omega
       go_wp2_with fail
       refine ce.mono ?_
       rintro e w2 ⟨rfl,hb1⟩
       have B2:Hid (Below W0.heap.size W0 w2):=hbel.out.trans (hb1.mono hbel.out.size)
       have BW2:Hid (Below w.heap.size w w2):=BW.out.trans (hb1.mono BW.out.size)
       have y1:w2.cell? ⟨w.heap.size,1,none⟩=some (.int .i64 k):=cel (kB.out _ B2.out) 1 _ rfl
       clear hb1 ce m1 m4 m5 d0 d1 d2
       cases pb
       ·have HE:Hid (r=false):=FLS.out (.inl rfl)
        go_wp2
        go_ret
        exact ⟨ret_bool HE.out.symm,BW2.out⟩
       ·by_cases hk2:k=2
        ·have HE:Hid (r=false):=FLS.out (.inr hk2)
         have e5:(k == 2)=true:=by simpa using hk2
         clear FLS NXT
         go_wp2
         go_ret
         exact ⟨ret_bool HE.out.symm,BW2.out⟩
        ·have e5:(k == 2)=false:=by simpa using hk2
         have NY:Hid (∀ i (hi:i<Q.length),i<j+1->patchB d.size Q[i]=true/\¬ k=2):=NXT.out rfl hk2
         clear FLS NXT
         go_wp2_with fail
         go_roundw
         case rel=>exact ⟨j+1,by omega,by go_num,NY.out,B2.out⟩
         case measure=>simp [intOf];omega
      ·have RH:Hid (r=dataB k d):=by
        show r=_
        rw [RG.out]
        have hp:patchesB k d.size Q=true:=by
         unfold patchesB
         rw [decide_eq_true (by have:=HL.out;omega:Q.length<=256),all_le (k:=j) (by have:=HL.out;omega) (fun i hi h=>(hall.out i hi h).1) (by have:=HL.out;omega)]
         have:(k == 2 && decide (0<Q.length))=false:=by
          rw [Bool.eq_false_iff];intro h
          rw [Bool.and_eq_true,beq_iff_eq,decide_eq_true_iff] at h
          exact (hall.out 0 h.2 (by have:=HL.out;omega)).2 h.1
         rw [this];rfl
        rw [hp];simp
       clear hall
       go_wp2_with fail
       clear m1 m4 m5
       go_loopw [6] (fun v wx=>∃ i:Nat,i<=d.size/\v=.int .i64 i/\Hid (∀ q (hq:q<d.size),q<i->d[q].toNat=0)/\Hid (wx=wr)) (fun v _=>d.size-(intOf v).toNat)
       case atStart=>exact ⟨0,Nat.zero_le _,rfl,(fun i _ h=>absurd h (Nat.not_lt_zero _)),rfl⟩
       case round =>
        obtain ⟨i,hi,rfl,hzz,hwx⟩:=hrel
        have hwx:=hwx.out
        subst hwx
        have m1:wr.cell? ⟨w.heap.size,1,none⟩=some (.int .i64 k):=cel (kB.out _ hbel.out) 1 _ rfl
        have m4:wr.cell? ⟨w.heap.size,4,none⟩=some (.string d):=cel (kB.out _ hbel.out) 4 _ rfl
        by_cases hk2:k=2
        ·have e5:(k == 2)=true:=by simpa using hk2
         by_cases hil:i<d.size
         ·have g1:(i:Int)<(d.size:Int):=by omega
          have g1':decide ((i:Int)<(d.size:Int))=true:=decide_eq_true g1
          have g0:(0:Int)<=(i:Int):=by omega
          by_cases hzero:d[i].toNat=0
          ·have NY:Hid (∀ q (hq:q<d.size),q<i+1->d[q].toNat=0):=fun q hq hqi=>by
            rcases Nat.lt_or_ge q i with c|c
            ·exact hzz.out q hq c
            ·obtain rfl:q=i:=by omega
             exact hzero
           have z1:((d[i].toNat:Int) == 0)=true:=by rw [hzero];rfl
           have z2:(d[i].toNat:Int)=0:=by omega
           clear hzz
           go_wp2_with fail
           go_roundw
           case rel=>exact ⟨i+1,by omega,by go_num,NY.out,by first|exact rfl|exact trivial⟩
           case measure=>simp [intOf];omega
          ·have HE:Hid (r=false):=by
            show r=_
            rw [RH.out];unfold dataB;rw [zero_no hil hzero,hk2];rfl
           have z1:((d[i].toNat:Int) == 0)=false:=by rw [beq_eq_false_iff_ne];omega
           have z2:¬ (d[i].toNat:Int)=0:=by omega
           clear hzz
           go_wp2
           all_goals go_ret
           all_goals exact ⟨ret_bool HE.out.symm,BW.out⟩
         ·have g1:¬ (i:Int)<(d.size:Int):=by omega
          have g1':decide ((i:Int)<(d.size:Int))=false:=decide_eq_false g1
          have HE:Hid (r=true):=by
           show r=_
           rw [RH.out];unfold dataB;rw [zero_yes (fun q hq=>hzz.out q hq (by omega))];simp
          clear hzz
          go_wp2
          all_goals go_ret
          all_goals exact ⟨ret_bool HE.out.symm,BW.out⟩
        ·have e5:(k == 2)=false:=by simpa using hk2
         have HE:Hid (r=true):=by
          show r=_
          rw [RH.out];unfold dataB
          have:(k != 2)=true:=by simpa using hk2
          rw [this];rfl
         clear hzz
         by_cases hil:i<d.size
         ·have g1:(i:Int)<(d.size:Int):=by omega
          have g1':decide ((i:Int)<(d.size:Int))=true:=decide_eq_true g1
          go_wp2
          all_goals go_ret
          all_goals exact ⟨ret_bool HE.out.symm,BW.out⟩
         ·have g1:¬ (i:Int)<(d.size:Int):=by omega
          have g1':decide ((i:Int)<(d.size:Int))=false:=decide_eq_false g1
          go_wp2
          all_goals go_ret
          all_goals exact ⟨ret_bool HE.out.symm,BW.out⟩
    ·have p1':(bk == -1)=false:=by simpa using p1
     have p1'':(bk != -1)=true:=by simpa using p1
     by_cases p2:k=1
     ·have p2':(k == 1)=true:=by simpa using p2
      by_cases p3:inB bk 1 15=true
      ·have RG:Hid (r=(dataB k d && patchesB k d.size Q)):=by
        show r=_
        rw [RA.out];unfold bankB;rw [p2',p3];simp
       have p2'':(k != 1)=false:=by simpa using p2
       clear p2
       go_wp2_with first|(go_at_call 48;refine (cn _).mono ?_;rintro e w' ⟨rfl,rfl⟩)|(go_at_call 49;refine (Signed.l1In_any _ _ _ _).mono ?_;rintro e w' ⟨rfl,rfl⟩)|(go_at_call 51;refine (cb _).mono ?_;rintro e w' ⟨rfl,rfl⟩)
       rw [<- hW0]
       clear hW0
       clear cn cb
       go_loopw [5] (fun v wr=>∃ j:Nat,j<=len/\v=.int .i64 j/\Hid (∀ i (hi:i<Q.length),i<j->patchB d.size Q[i]=true/\¬ k=2)/\Hid (Below W0.heap.size W0 wr)) (fun v _=>len-(intOf v).toNat)
       case atStart=>exact ⟨0,Nat.zero_le _,rfl,(fun i _ h=>absurd h (Nat.not_lt_zero _)),Below.refl _ _⟩
       case round =>
        obtain ⟨j,hj,rfl,hall,hbel⟩:=hrel
        have m1:wr.cell? ⟨w.heap.size,1,none⟩=some (.int .i64 k):=cel (kB.out _ hbel.out) 1 _ rfl
        have m4:wr.cell? ⟨w.heap.size,4,none⟩=some (.string d):=cel (kB.out _ hbel.out) 4 _ rfl
        have m5:wr.cell? ⟨w.heap.size,5,none⟩=some (.slice a5 len c5):=cel (kB.out _ hbel.out) 5 _ rfl
        have BW:Hid (Below w.heap.size w wr):=HB.out.trans (hbel.out.mono HB.out.size)
        by_cases hlt:j<len
        ·have hkL:j<Q.length:=by have:=HL.out;omega
         rcases HN.out wr BW.out with hnil|⟨b,off,rfl,_,hb,hc⟩
         ·exfalso;rw [hnil] at hkL;exact absurd hkL (by simp)
         obtain ⟨a2,c2,d0,d1,d2,hh⟩:=hc j hkL
         have hse:Patr.SmallX Q[j]:=HS.out.2 j hkL
         have ce:=l9Patch_any Q[j] a2 c2 d.size wr hh hse hz
         have FLS:Hid (patchB d.size Q[j]=false \/ k=2->r=false):=fun h=>by
          rw [RG.out]
          have hp:patchesB k d.size Q=false:=by
           unfold patchesB
           rcases h with h|h
           ·rw [all_no hkL h];simp
           ·subst h;rw [decide_eq_true (by omega:0<Q.length)];simp
          rw [hp];simp
         have NXT:Hid (patchB d.size Q[j]=true->¬ k=2->∀ i (hi:i<Q.length),i<j+1->patchB d.size Q[i]=true/\¬ k=2):=fun h h2 i hi hik=>by
          rcases Nat.lt_or_ge i j with c|c
          ·exact hall.out i hi c
          ·obtain rfl:i=j:=by omega
           exact ⟨h,h2⟩
         clear hc hh hse hall
         generalize patchB d.size Q[j]=pb at *
         obtain ⟨le,hle⟩ : ∃ le,le=Q[j].f2.length:=⟨_,rfl⟩
         rw [<- hle] at d2 ce
         obtain ⟨pat,hpat⟩ : ∃ q,q=Q[j].f0:=⟨_,rfl⟩
         obtain ⟨pk,hpk⟩ : ∃ q,q=Q[j].f1:=⟨_,rfl⟩
         rw [<- hpat] at d0 ce
         rw [<- hpk] at d1 ce
         clear hle hpat hpk
         have k0:(0:Int)<=(j:Int):=by omega
         have k1:(j:Int)<(len:Int):=by omega
         go_wp2_with fail
         refine ce.mono ?_
         rintro e w2 ⟨rfl,hb1⟩
         have B2:Hid (Below W0.heap.size W0 w2):=hbel.out.trans (hb1.mono hbel.out.size)
         have BW2:Hid (Below w.heap.size w w2):=BW.out.trans (hb1.mono BW.out.size)
         have y1:w2.cell? ⟨w.heap.size,1,none⟩=some (.int .i64 k):=cel (kB.out _ B2.out) 1 _ rfl
         clear hb1 ce m1 m4 m5 d0 d1 d2
         cases pb
         ·have HE:Hid (r=false):=FLS.out (.inl rfl)
          go_wp2
          go_ret
          exact ⟨ret_bool HE.out.symm,BW2.out⟩
         ·by_cases hk2:k=2
          ·have HE:Hid (r=false):=FLS.out (.inr hk2)
           have e5:(k == 2)=true:=by simpa using hk2
           clear FLS NXT
           go_wp2
           go_ret
           exact ⟨ret_bool HE.out.symm,BW2.out⟩
          ·have e5:(k == 2)=false:=by simpa using hk2
           have NY:Hid (∀ i (hi:i<Q.length),i<j+1->patchB d.size Q[i]=true/\¬ k=2):=NXT.out rfl hk2
           clear FLS NXT
           go_wp2_with fail
           go_roundw
           case rel=>exact ⟨j+1,by omega,by go_num,NY.out,B2.out⟩
           case measure=>simp [intOf];omega
        ·have RH:Hid (r=dataB k d):=by
          show r=_
          rw [RG.out]
          have hp:patchesB k d.size Q=true:=by
           unfold patchesB
           rw [decide_eq_true (by have:=HL.out;omega:Q.length<=256),all_le (k:=j) (by have:=HL.out;omega) (fun i hi h=>(hall.out i hi h).1) (by have:=HL.out;omega)]
           have:(k == 2 && decide (0<Q.length))=false:=by
            rw [Bool.eq_false_iff];intro h
            rw [Bool.and_eq_true,beq_iff_eq,decide_eq_true_iff] at h
            exact (hall.out 0 h.2 (by have:=HL.out;omega)).2 h.1
           rw [this];rfl
          rw [hp];simp
         clear hall
         go_wp2_with fail
         clear m1 m4 m5
         go_loopw [6] (fun v wx=>∃ i:Nat,i<=d.size/\v=.int .i64 i/\Hid (∀ q (hq:q<d.size),q<i->d[q].toNat=0)/\Hid (wx=wr)) (fun v _=>d.size-(intOf v).toNat)
         case atStart=>exact ⟨0,Nat.zero_le _,rfl,(fun i _ h=>absurd h (Nat.not_lt_zero _)),rfl⟩
         case round =>
          obtain ⟨i,hi,rfl,hzz,hwx⟩:=hrel
          have hwx:=hwx.out
          subst hwx
          have m1:wr.cell? ⟨w.heap.size,1,none⟩=some (.int .i64 k):=cel (kB.out _ hbel.out) 1 _ rfl
          have m4:wr.cell? ⟨w.heap.size,4,none⟩=some (.string d):=cel (kB.out _ hbel.out) 4 _ rfl
          by_cases hk2:k=2
          ·have e5:(k == 2)=true:=by simpa using hk2
           by_cases hil:i<d.size
           ·have g1:(i:Int)<(d.size:Int):=by omega
            have g1':decide ((i:Int)<(d.size:Int))=true:=decide_eq_true g1
            have g0:(0:Int)<=(i:Int):=by omega
            by_cases hzero:d[i].toNat=0
            ·have NY:Hid (∀ q (hq:q<d.size),q<i+1->d[q].toNat=0):=fun q hq hqi=>by
              rcases Nat.lt_or_ge q i with c|c
              ·exact hzz.out q hq c
              ·obtain rfl:q=i:=by omega
               exact hzero
             have z1:((d[i].toNat:Int) == 0)=true:=by rw [hzero];rfl
             have z2:(d[i].toNat:Int)=0:=by omega
             clear hzz
             go_wp2_with fail
             go_roundw
             case rel=>exact ⟨i+1,by omega,by go_num,NY.out,by first|exact rfl|exact trivial⟩
             case measure=>simp [intOf];omega
            ·have HE:Hid (r=false):=by
              show r=_
              rw [RH.out];unfold dataB;rw [zero_no hil hzero,hk2];rfl
             have z1:((d[i].toNat:Int) == 0)=false:=by rw [beq_eq_false_iff_ne];omega
             have z2:¬ (d[i].toNat:Int)=0:=by omega
             clear hzz
             go_wp2
             all_goals go_ret
             all_goals exact ⟨ret_bool HE.out.symm,BW.out⟩
           ·have g1:¬ (i:Int)<(d.size:Int):=by omega
            have g1':decide ((i:Int)<(d.size:Int))=false:=decide_eq_false g1
            have HE:Hid (r=true):=by
             show r=_
             rw [RH.out];unfold dataB;rw [zero_yes (fun q hq=>hzz.out q hq (by omega))];simp
            clear hzz
            go_wp2
            all_goals go_ret
            all_goals exact ⟨ret_bool HE.out.symm,BW.out⟩
          ·have e5:(k == 2)=false:=by simpa using hk2
           have HE:Hid (r=true):=by
            show r=_
            rw [RH.out];unfold dataB
            have:(k != 2)=true:=by simpa using hk2
            rw [this];rfl
           clear hzz
           by_cases hil:i<d.size
           ·have g1:(i:Int)<(d.size:Int):=by omega
            have g1':decide ((i:Int)<(d.size:Int))=true:=decide_eq_true g1
            go_wp2
            all_goals go_ret
            all_goals exact ⟨ret_bool HE.out.symm,BW.out⟩
           ·have g1:¬ (i:Int)<(d.size:Int):=by omega
            have g1':decide ((i:Int)<(d.size:Int))=false:=decide_eq_false g1
            go_wp2
            all_goals go_ret
            all_goals exact ⟨ret_bool HE.out.symm,BW.out⟩
      ·have p3:inB bk 1 15=false:=by simpa using p3
       have HE:Hid (r=false):=by
        show r=_
        rw [RA.out];unfold bankB;rw [p1',p3];try simp
       have p2'':(k != 1)=false:=by simpa using p2
       clear p2
       go_wp2_with first|(go_at_call 48;refine (cn _).mono ?_;rintro e w' ⟨rfl,rfl⟩)|(go_at_call 49;refine (Signed.l1In_any _ _ _ _).mono ?_;rintro e w' ⟨rfl,rfl⟩)|(go_at_call 51;refine (cb _).mono ?_;rintro e w' ⟨rfl,rfl⟩)
       go_ret
       rw [<- hW0]
       exact ⟨ret_bool HE.out.symm,HB.out⟩
     ·have p2':(k == 1)=false:=by simpa using p2
      have p2'':(k != 1)=true:=by simpa using p2
      have HE:Hid (r=false):=by
       show r=_
       rw [RA.out];unfold bankB;rw [p1',p2'];try simp
      go_wp2_with first|(go_at_call 48;refine (cn _).mono ?_;rintro e w' ⟨rfl,rfl⟩)|(go_at_call 49;refine (Signed.l1In_any _ _ _ _).mono ?_;rintro e w' ⟨rfl,rfl⟩)|(go_at_call 51;refine (cb _).mono ?_;rintro e w' ⟨rfl,rfl⟩)
      go_ret
      rw [<- hW0]
      exact ⟨ret_bool HE.out.symm,HB.out⟩
   ·have a2:inB ad bs (bs+256-d.size)=false:=by simpa using a2
    have HE:Hid (r=false):=by
     show r=_
     rw [RF.out,a1',a2];rfl
    go_wp2_with first|(go_at_call 48;refine (cn _).mono ?_;rintro e w' ⟨rfl,rfl⟩)|(go_at_call 49;refine (Signed.l1In_any _ _ _ _).mono ?_;rintro e w' ⟨rfl,rfl⟩)|(go_at_call 51;refine (cb _).mono ?_;rintro e w' ⟨rfl,rfl⟩)
    go_ret
    rw [<- hW0]
    exact ⟨ret_bool HE.out.symm,HB.out⟩
 ·have i1:inB k 0 2=false:=by simpa using i1
  have HE:Hid (r=false):=by
   show r=_
   rw [RE.out,i1];rfl
  go_wp2_with first|(go_at_call 48;refine (cn _).mono ?_;rintro e w' ⟨rfl,rfl⟩)|(go_at_call 49;refine (Signed.l1In_any _ _ _ _).mono ?_;rintro e w' ⟨rfl,rfl⟩)
  go_ret
  exact ⟨ret_bool HE.out.symm,HB.out⟩
end Secp
end Go.Proofs.YtickfkphhngagaaGreatDoor
