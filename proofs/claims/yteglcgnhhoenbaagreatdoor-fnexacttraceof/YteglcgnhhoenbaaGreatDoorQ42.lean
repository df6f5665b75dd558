import Derived.Test.YteglcgnhhoenbaaGreatDoorQ41
import Derived.TacticsInMore
import Derived.LoopNIn
import Derived.LoopIn
import Derived.Sort.CutIn
import Derived.Deep.MidRow
import Derived.OrdersHeld
import Derived.Shelf.Abstract
set_option linter.all false
set_option maxRecDepth 20000
set_option maxHeartbeats 8000000
open Go.ChangeShapes Go.WideShapes Go.ChangeAt Go.RowKit
open Go.Proofs.Tryz
namespace Go.Proofs.YteglcgnhhoenbaaGreatDoor
namespace Runp
open Go.Deep
open Busw Busx Stpp Stpq Stpo Stpt
def eY (m:M):Prop:=Stpq.Good m/\0<=m.cyc/\m.cyc<=1000000000
theorem lO {m:M} (h:eY m):eY (bR m).1:=by
 unfold bR;split
 ·exact h
 split
 ·exact h
 split
 ·exact h
 ·rename_i h1 h2 h3
  have hI:=mF m h2;have hpc:=h.1.pc;have hG:Stpq.Good (kV m).1.m:=by
   refine xX ?_ _ _ _ hI.cbd.1 hI.cbd.2 hI.iok;exact iD h.1 _ (by omega) (by omega)
  have hr:=CycX.range (bO m).1 (bO m).2.1 (kV m).2 hI.cbd.1 hI.cbd.2 hI.non;have hc:¬ 1000000000<nS m:=fun e=>h3 (.inr e)
  have h0:0<=nS m:=by unfold nS;have:=h.2.1;omega
  exact ⟨qY hG (kV m).1.m.ime (kV m).1.m.hal (nS m),h0,by show nS m<=_;omega⟩
end Runp
namespace Stfr
open Go.Deep
open Busw Busx Stpp Stpq Stpi Stpo Stpl Runp Ista
open MachT (bG aZ bJ)
structure Sx where
 (j:Nat)
 (m:M)
 (po:Option Addr)
 (cap:Nat)
 (code:Int)
def encs (x:Sx):Array Value:=#[.agg (aA x.m x.po x.cap),.int .i64 x.code]
def nU (base:Nat) (x:Sx) (W:World):Prop:=W.ownsRow base 2 1 (.slice x.po x.m.out.length x.cap) x.m.out.length (dJ x.m.out)
structure Still (B:Nat) (po:Option Addr) (X W:World):Prop where
 os:W.os=X.os
 tape:W.tape=X.tape
 output:W.output=X.output
 size:X.heap.size<=W.heap.size
 block:∀ k o,X.heap[k]? = some o->some k ≠ blk po->k ≠ B \/ o.isCells=false->W.heap[k]? = some o
theorem Still.refl (B:Nat) (po:Option Addr) (X:World):Still B po X X:=⟨rfl,rfl,rfl,Nat.le_refl _,fun _ _ h _ _=>h⟩
theorem Still.step {B:Nat} {po:Option Addr} {X W V:World} (h:Still B none X W) (k:Fr W V po):Still B po X V :=
 ⟨k.os.trans h.os,k.tape.trans h.tape,k.output.trans h.output,Nat.le_trans h.size k.size,fun i o h0 h1 h2=>by
  have h3:=h.block i o h0 (by intro e;cases e) h2;exact (k.block i (zLo h3) h1).trans h3⟩
theorem Still.alloc {B:Nat} {po:Option Addr} {X W:World} (h:Still B po X W) (o:Obj):Still B po X (W.alloc o) :=
 ⟨h.os,h.tape,h.output,Nat.le_trans h.size (by simp),fun i u h0 h1 h2=>by
  have h3:=h.block i u h0 h1 h2;exact (aM _ _ (zLo h3)).trans h3⟩
theorem Still.set {B k:Nat} {po:Option Addr} {X W:World} (h:Still B po X W) (hk:k=B) {cs old:Array Value} {T:TypeId} (hb:W.heap[k]? = some (.cells old T)):Still B po X (W.setRow k cs) :=
 ⟨h.os,h.tape,h.output,by rw [MachT.mT];exact h.size,fun i u h0 h1 h2=>by
  have h3:=h.block i u h0 h1 h2;refine (aZ (fun e=>?_) _).trans h3;subst e;rcases h2 with h2|h2
  ·exact h2 hk
  ·rw [hb] at h3;cases h3;cases h2⟩
def Gv (base B N:Nat) (s:Sx) (X W:World) (x:Sx):Prop :=
 s.code=0/\s.j<N/\x.j=s.j+1/\bR s.m=(x.m,x.code)/\nU base x W/\nA X s.po x.po/\Still B s.po X W/\∃ cs,W.heap[B]? = some (.cells cs 30)
def Kp (base B:Nat) (x:Sx) (W W':World):Prop:=Below base W W'/\nU base x W'/\∀ k cs,W.heap[k]? = some (.cells cs 30)->B<=k->W'.heap[k]? = some (.cells cs 30)
def En (base B N:Nat) (s:Sx) (X W:World):Prop:=(s.j=N \/ s.code ≠ 0)/\nU base s W/\Still B none X W
theorem bFC {w u u':World} {po:Option Addr} {n:Nat} (h:Below n w u) (hn:n<=u.heap.size) (hf:Fr u u' po) (ho:∀ p,po=some p->n<=p.block):Below n w u' :=
 ⟨hf.os.trans h.os,hf.tape.trans h.tape,hf.output.trans h.output,Nat.le_trans h.size hf.size,fun k hk=>(hf.block k (Nat.lt_of_lt_of_le hk hn) (fun e=>by
  cases po with
  | none=>cases e
  | some p=>have:=ho p rfl;have e2:k=p.block:=Option.some.inj e;omega)).trans (h.block k hk)⟩
theorem bFD {u u':World} {po:Option Addr} {base n cap B:Nat} {xs:List Value} {cs:Array Value} (hf:Fr u u' po) (ho:u.ownsRow base 2 1 (.slice po n cap) n xs) (hb:u.heap[B]? = some (.cells cs 30)):u'.heap[B]? = some (.cells cs 30) :=
 (hf.block B (zLo hb) (fun e=>dK ho hb (by rw [fV];exact e.symm))).trans hb
theorem aQY {X W:World} {po po':Option Addr} (h:X.heap.size<=W.heap.size) (k:nA W po po'):nA X po po':=by
 rcases k with h1|⟨p,h1,h2⟩
 ·exact .inl h1
 ·exact .inr ⟨p,h1,Nat.le_trans h h2⟩
theorem bFE {w w':World} (h:HolI.MaxL w) (b:w'.heap[9]? = w.heap[9]?):HolI.MaxL w':=by
 obtain ⟨m,hm⟩:=h;exact ⟨m,(World.cell?_of_block (a:=⟨9,0,none⟩) b).trans hm⟩
def bFF (base B k:Nat) (s:Sx) (X W1 W:World):Prop :=
 s.j=k/\s.code=0/\W.heap[B]? = some (.cells (aA s.m s.po s.cap) 30)/\nU base s W/\eY s.m/\Still B none X W/\Below base W1 W
theorem sI (cM:Array Value) (n:Int) (w:World) (h:cM.size=23) :
  Calls prog 39 #[.agg cM,.int .i64 n] w fun e w'=>e=.returned (.func (.func 79) #[] #[.pointer (some ⟨w.heap.size,0,none⟩),.pointer (some ⟨w.heap.size+1,0,none⟩)])/\w'=(w.alloc (.cells cM 30)).alloc (.cells #[.int .i64 n] 2):=by
 go_enter func39,ntmps39
 go_wp2;go_ret;exact ⟨rfl,rfl⟩
theorem aQZ (l q base N:Nat) (m0:M) (po0:Option Addr) (cap0 c1 c2:Nat) (W1:World) (J:Sx->World->Prop) (Jx:World->Prop) (hN:N<=500)
  (hc1:W1.heap[c1]? = some (.cells (aA m0 po0 cap0) 30)) (hc2:W1.heap[c2]? = some (.cells #[.int .i64 (N:Int)] 2))
  (hr:nU base ⟨0,m0,po0,cap0,0⟩ W1) (hf:eY m0) (ht:Tb W1) (hm:HolI.MaxL W1) (hb:1<base/\2<base/\9<base) (hw:base<=W1.heap.size)
  (h0:J ⟨0,m0,po0,cap0,0⟩ W1)
  (hY:∀ s X W x,J s X->Gv base W1.heap.size N s X W x->YieldAt Fence.wide q prog l (encs x) W fun e W'=>(e=.returned (.bool true)/\J x W'/\Kp base W1.heap.size x W W') \/ (e=.returned (.bool false)/\Jx W')) :
  Calls prog 79 #[.func (.yield l) #[] #[],.pointer (some ⟨c1,0,none⟩),.pointer (some ⟨c2,0,none⟩)] W1 fun e W'=>(∃ v,e=.returned v)/\((∃ s X,J s X/\En base W1.heap.size N s X W') \/ Jx W'):=by
 have hz:=fM;have HY:Hid (∀ s X W x,J s X->Gv base W1.heap.size N s X W x->YieldAt Fence.wide q prog l (encs x) W fun e W'=>(e=.returned (.bool true)/\J x W'/\Kp base W1.heap.size x W W') \/ (e=.returned (.bool false)/\Jx W')):=hY;have HT:Hid (Tb W1/\HolI.MaxL W1/\(1<base/\2<base/\9<base)/\base<=W1.heap.size):=⟨ht,hm,hb,hw⟩;have H1:Hid (J ⟨0,m0,po0,cap0,0⟩ W1/\nU base ⟨0,m0,po0,cap0,0⟩ W1/\eY m0):=⟨h0,hr,hf⟩;have HC:Hid (W1.heap[c1]? = some (.cells (aA m0 po0 cap0) 30)):=hc1;have c2l:(W1.alloc (.cells (aA m0 po0 cap0) 30)).cell? ⟨c2,0,none⟩=some (.int .i64 (N:Int)):=by
  rw [World.cell?_of_block (a:=⟨c2,0,none⟩) (aM _ _ (zLo hc2))]
  simp [World.cell?,hc2]
 clear hY ht hm hb hw h0 hr hf hc1 hc2;obtain ⟨cZ,hcZ⟩ : ∃ c,c=aA Z0 none 0:=⟨_,rfl⟩
 have HZ:Hid (cZ=aA Z0 none 0):=hcZ;rw [<- hcZ] at hz
 clear hcZ
 go_enter func79,ntmps79
 go_upto_region 0 with fail
 refine wp_region_list ?_;refine wpList_load_row rfl 30 _ rfl c1 rfl _ _ (0,0) _ HC.out underlying30 rfl (aP _ _ _) ?_;refine wpList_plain rfl (fun K hK=>?_);go_simp;refine hK _ _ ?_;clear hK;refine wpList_store_row rfl 30 _ _ rfl W1.heap.size (aA m0 po0 cap0) rfl rfl _ _ (heap_alloc_last W1 _) (aP _ _ _) (by rw [HZ.out,aV,aV]) (dS _ _ _) ?_;rw [World.setRow_alloc_new];have HB0:Hid (bFF base W1.heap.size 0 ⟨0,m0,po0,cap0,0⟩ W1 W1 (W1.alloc (.cells (aA m0 po0 cap0) 30))):=⟨rfl,rfl,heap_alloc_last W1 _,H1.out.2.1.alloc _,H1.out.2.2,(Still.refl _ _ _).alloc _,(Below.refl base W1).alloc HT.out.2.2.2 _⟩
 go_upto_region 1 with fail
 go_wp2_with fail
 go_loopw [9] (fun i wr=>∃ (k:Nat) (s:Sx) (X:World),k<=N/\i=.int .i64 (k:Int)/\Hid (J s X)/\Hid (bFF base W1.heap.size k s X W1 wr)) (fun i _=>N-(intOf i).toNat)
 case atStart=>exact ⟨0,_,W1,Nat.zero_le _,rfl,H1.out.1,HB0.out⟩
 case round =>
  clear HB0 c2l H1 HC;obtain ⟨k,s,X,hk,rfl,HJ,HI⟩:=hrel;obtain ⟨j,mk,pk,ck,code⟩:=s;obtain rfl:j=k:=HI.out.1;have hbel:Below base W1 wr:=HI.out.2.2.2.2.2.2;have HX:Hid (wr.heap[W1.heap.size]? = some (.cells (aA mk pk ck) 30)/\wr.ownsRow base 2 1 (.slice pk mk.out.length ck) mk.out.length (dJ mk.out)):=⟨HI.out.2.2.1,HI.out.2.2.2.1⟩;have HOK:Hid (Ok wr base mk pk ck):=⟨HX.out.2,HI.out.2.2.2.2.1.1,HI.out.2.2.2.2.1.2,HT.out.1.of fun k hk=>hbel.block k (hk.elim (fun e=>e ▸ HT.out.2.2.1.1) (fun e=>e ▸ HT.out.2.2.1.2.1)),bFE HT.out.2.1 (hbel.block _ HT.out.2.2.1.2.2),HT.out.2.2.1,Nat.le_trans HT.out.2.2.2 hbel.size⟩;clear hbel
  by_cases hlt:j<N
  ·go_upto_region 3 with fail
   refine wp_region_list ?_;refine wpList_load_row rfl 30 _ rfl W1.heap.size rfl _ _ (0,0) _ HX.out.1 underlying30 rfl (aP _ _ _) ?_
   go_wp2_with fail
   refine Calls.mono (wI mk pk ck base wr HOK.out) ?_;rintro e w2 ⟨p2,c2',rfl,own2,hfr,hmv⟩;obtain ⟨m2,hm2⟩ : ∃ x,x=(bR mk).1:=⟨_,rfl⟩
   obtain ⟨cd,hcd⟩ : ∃ x,x=(bR mk).2:=⟨_,rfl⟩
   rw [<- hm2,<- hcd];rw [<- hm2] at own2
   have HS2:Hid (bR mk=(m2,cd)):=by show _=_;rw [hm2,hcd]
   have HF2:Hid (eY m2):=by show eY _;rw [hm2];exact lO HI.out.2.2.2.2.1
   have HY2:Hid (w2.heap[W1.heap.size]? = some (.cells (aA mk pk ck) 30)/\nU base ⟨j+1,m2,p2,c2',cd⟩ w2/\Still W1.heap.size pk X w2/\nA X pk p2/\Below base W1 w2):=⟨bFD hfr HX.out.2 HX.out.1,own2,HI.out.2.2.2.2.2.1.step hfr,aQY HI.out.2.2.2.2.2.1.size hmv,bFC HI.out.2.2.2.2.2.2 (Nat.le_trans HT.out.2.2.2 HI.out.2.2.2.2.2.2.size) hfr (aBV HX.out.2)⟩;clear hm2 hcd own2 hfr hmv HOK
   rename_i hK
   refine hK _ _ ?_;clear hK;refine wpList_plain rfl (fun K hK=>?_);go_simp;refine hK _ _ ?_;clear hK;refine wpList_plain rfl (fun K hK=>?_);go_simp;refine hK _ _ ?_;clear hK;refine wpList_plain rfl (fun K hK=>?_);go_simp;refine hK _ _ ?_;clear hK;refine wpList_plain rfl (fun K hK=>?_);go_simp;refine hK _ _ ?_;clear hK;refine wpList_store_row rfl 30 _ _ rfl w2.heap.size (aA m2 p2 c2') rfl rfl _ _ (heap_alloc_last w2 _) (aP _ _ _) (by rw [HZ.out,aV,aV]) (dS _ _ _) ?_;rw [World.setRow_alloc_new]
   go_upto_region 4 with fail
   obtain ⟨u2,hu2⟩ : ∃ u,u=w2.alloc (.cells (aA m2 p2 c2') 30):=⟨_,rfl⟩
   obtain ⟨B2,hB2⟩ : ∃ b,b=w2.heap.size:=⟨_,rfl⟩
   have HU:Hid (u2.heap[W1.heap.size]? = some (.cells (aA mk pk ck) 30)/\u2.heap[B2]? = some (.cells (aA m2 p2 c2') 30)/\Below base W1 u2/\W1.heap.size<=B2):=by
    obtain ⟨h1,h2,h3,h4,h5⟩:=HY2.out;rw [hu2,hB2];exact ⟨(aM _ _ (zLo h1)).trans h1,heap_alloc_last w2 _,h5.alloc (Nat.le_trans HT.out.2.2.2 h5.size) _,h5.size⟩
   obtain ⟨fn,tmps,assign,body,hy,hR⟩:=HY.out _ X u2 ⟨j+1,m2,p2,c2',cd⟩ HJ.out (by
    obtain ⟨h1,h2,h3,h4,h5⟩:=HY2.out;have h6:=HU.out.1;rw [hu2] at h6 |-
    exact ⟨HI.out.2.1,hlt,rfl,HS2.out,h2.alloc _,h4,h3.alloc _,_,h6⟩)
   dsimp only [encs] at hy
   rw [<- hu2,<- hB2];clear hu2 hB2 HY2;refine (wpIn_wide (n:=q+1)).1 ?_;clear HX;have HI2:Hid (J ⟨j,mk,pk,ck,code⟩ X/\Below base W1 u2):=⟨HJ.out,HU.out.2.2.1⟩
   by_cases hz0:cd=0
   ·subst hz0
    gi_wp2_with first|(refine Rin.iN rfl 30 _ rfl B2 rfl _ _ (0,0) _ HU.out.2.1 underlying30 rfl (aP _ _ _) ?_)|fail
    refine hR.mono ?_;rintro e W3 (⟨rfl,hJ3,hk3⟩|⟨rfl,hJx⟩)
    ·have HV:Hid (W3.heap[W1.heap.size]? = some (.cells (aA mk pk ck) 30)/\W3.heap[B2]? = some (.cells (aA m2 p2 c2') 30)):=⟨hk3.2.2 _ _ HU.out.1 (Nat.le_refl _),hk3.2.2 _ _ HU.out.2.1 HU.out.2.2.2⟩
     have HJ3:Hid (J ⟨j+1,m2,p2,c2',0⟩ W3):=hJ3;have HI3:Hid (bFF base W1.heap.size (j+1) ⟨j+1,m2,p2,c2',0⟩ W3 W1 (W3.setRow W1.heap.size (aA m2 p2 c2'))) :=
      ⟨rfl,rfl,bG HV.out.1,World.ownsRow.kept (row:=some W1.heap.size) hk3.2.1 (cH _ _ _) (.inr (dK hk3.2.1 HV.out.1)),HF2.out,(Still.refl _ _ _).set rfl HV.out.1,bJ (HU.out.2.2.1.trans hk3.1) HT.out.2.2.2⟩
     clear hJ3 hk3;have d1:IntKind.i64.wrap ((j:Int)+1)=(j:Int)+1:=by rw [x6];omega
     gi_wp2_with fail
     go_upto_region 5 with fail
     refine wp_region_list ?_;refine wpList_load_row rfl 30 _ rfl B2 rfl _ _ (0,0) _ HV.out.2 underlying30 rfl (aP _ _ _) ?_;refine wpList_store_row rfl 30 _ _ rfl W1.heap.size _ rfl rfl _ _ HV.out.1 (aP _ _ _) (by rw [aV,aV]) (dS _ _ _) ?_
     go_wp2_with fail
     go_roundw
     case rel=>exact ⟨j+1,_,W3,hlt,by go_num,HJ3.out,HI3.out⟩
     case measure=>simp [intOf];omega
    ·gi_wp2_with fail
     go_wp2;refine bodyPost_ret (results_none rfl _ _ _) rfl ?_;exact ⟨⟨_,rfl⟩,.inr hJx⟩
   ·have hne:(cd == 0)=false:=by simpa using hz0
    have HNZ:Hid (cd ≠ 0):=hz0;clear hz0
    gi_wp2_with first|(refine Rin.iN rfl 30 _ rfl B2 rfl _ _ (0,0) _ HU.out.2.1 underlying30 rfl (aP _ _ _) ?_)|fail
    refine hR.mono ?_;rintro e W3 (⟨rfl,hJ3,hk3⟩|⟨rfl,hJx⟩)
    ·have HE:Hid (J ⟨j+1,m2,p2,c2',cd⟩ W3/\En base W1.heap.size N ⟨j+1,m2,p2,c2',cd⟩ W3 W3):=⟨hJ3,.inr HNZ.out,hk3.2.1,Still.refl _ _ _⟩
     clear hJ3 hk3
     gi_wp2_with fail
     go_wp2;refine bodyPost_ret (results_none rfl _ _ _) rfl ?_;exact ⟨⟨_,rfl⟩,.inl ⟨_,W3,HE.out.1,HE.out.2⟩⟩
    ·gi_wp2_with fail
     go_wp2;refine bodyPost_ret (results_none rfl _ _ _) rfl ?_;exact ⟨⟨_,rfl⟩,.inr hJx⟩
  ·go_wp2
   go_end0
   exact ⟨⟨_,rfl⟩,.inl ⟨_,X,HJ.out,.inl (by show j=N;omega),HX.out.2,HI.out.2.2.2.2.2.1⟩⟩
end Stfr
namespace Runt
open Go.Deep
open Busw Busx Stpp Stpq Stpo Stpt Runp
def toP (hit:M->Bool):Nat->Int->M->M × Int × Int
 | 0,i,m=>(m,0,i)
 | k+1,i,m=>if (bR m).2=0 then (if hit (bR m).1=true then ((bR m).1,0,i+1) else toP hit k (i+1) (bR m).1) else (m,(bR m).2,i)
end Runt
namespace Plac
open Go.Deep
open Busw Busx Stpq Runp Runt
def place (m:M):Int × Int:=(MachA.iC m.pc m.bank (Carts.eZ m.rom.size),m.pc)
theorem aYD (m:M) (po:Option Addr) (cap:Nat) (w:World) (h:Rt m):Calls prog 45 #[.agg (aA m po cap)] w fun e w'=>e=.returned (.agg #[.int .i64 (place m).1,.int .i64 (place m).2])/\Below w.heap.size w w':=by
 obtain ⟨n,n0,n1,hn,hb,_,b0,b1,_⟩:=CartM.right m.rom m.kind m.bank m.ram m.rb m.on m.mode h.cart;rw [aT];unfold place;rw [hb];exact MachA.aHI m.ra m.rf m.rB m.rC m.rD m.rE m.rH m.rL m.sp m.pc m.ime m.hal m.rom m.kind m.bank m.ram m.rb m.on m.mode m.work m.high po m.out cap m.cyc w h.rom h.ram h.cart n hb n0 n1 b0 b1
theorem aIV (m:M) (po:Option Addr) (cap:Nat) (B:Nat) (w:World) (h:Rt m) (hB:w.heap[B]? = some (.cells (aA m po cap) 30)):Calls prog 41 #[.pointer (some ⟨B,0,none⟩)] w fun e w'=>e=.returned (.agg #[.int .i64 (place m).1,.int .i64 (place m).2])/\Below w.heap.size w w':=by
 obtain ⟨n,n0,n1,hn,hb,_,b0,b1,_⟩:=CartM.right m.rom m.kind m.bank m.ram m.rb m.on m.mode h.cart;rw [aT] at hB
 unfold place;rw [hb];exact MachA.xW m.ra m.rf m.rB m.rC m.rD m.rE m.rH m.rL m.sp m.pc m.ime m.hal m.rom m.kind m.bank m.ram m.rb m.on m.mode m.work m.high po m.out cap m.cyc B w hB n n0 n1 hn b0 b1
end Plac
namespace Rtoa
open Go.Deep
open Busw Busx Stpp Stpq Stpo Runp Runt Plac Stfr
open Rlaw (nW)
open MachT (bG aZ bJ cel)
theorem opH {P:Program} {ops:Array Oper} {Q:Exit->Act->World->Prop} {S:World->Prop} {md:Region.Mode} {fuel:Nat} {listed:Array Bool} {a:Act} {w:World} {i:Nat} {o:Oper} (ho:ops[i]? = some o) (hw:Region.wanted o (yielded ops a.tmps)=true)
  (h:∀ K':Act->World->Prop,(∀ a' w',S w'->wpAnyH P md ops Q S fuel (listed.setIfInBounds i true) a' w'->K' a' w')->Oper.wp P o a w K' Q):wpOp P ops Q i (fun a' w'=>S w'/\wpAnyH P md ops Q S fuel (listed.setIfInBounds i true) a' w') a w:=by
 unfold wpOp;simp only [ho,hw,if_true];exact .inl (h _ fun a' w' hs h'=>⟨hs,h'⟩)
theorem kW {P:Program} {a:Act} {o:Oper} {w:World} (ty:TypeId) (x:Operand) (ho:o.op=.load ty x) (g:Nat) (hx:a.eval x=.pointer (some ⟨g,0,none⟩)) (t:TypeId) (cs:Array Value) (fr:Nat × Nat) (d:TypeDesc) (hg:w.heap[g]? = some (.cells cs t fr))
  (hu:P.underlying ty=some d) (hd:(match d with|.struct _|.array _ _=>true|_=>false)=true) (hi:(P.info? ty).map (·.size)=some cs.size):(execOp a.eval o).run P w=.ok (.value (.agg cs)) w:=by
 unfold execOp;simp only [ho,hx,Instr.loadAt,Instr.sureAddr,Sem.run_bind,Sem.run_pure,Result.andThen_ok,run_loadVar_row w g t ty cs fr d hg hu hd hi]
structure Bx (w:World) (cM:Array Value) (sv:Value) (W:World):Prop where
 m:W.heap[w.heap.size]? = some (.cells cM 30)
 s:W.heap[w.heap.size+1]? = some (.cells #[sv] 31)
 r:W.heap[w.heap.size+1+1]? = some (.cells (aA Z0 none 0) 30)
 c:W.heap[w.heap.size+1+1+1]? = some (.cells #[.int .i64 0] 2)
 d:W.heap[w.heap.size+1+1+1+1]? = some (.cells #[.int .i64 0] 2)
 bel:Below w.heap.size w W
theorem lP {W:World} {b n k e sz:Nat} {v:Value} {xs:List Value} {o o':Obj} (h:W.ownsRow b e sz v n xs) (hk:W.heap[k]? = some o) (ho:o.isCells=false):(W.putObj k o').ownsRow b e sz v n xs:=by
 rcases h with ⟨h1,h2|⟨g,c,cur,hv,hb,hg,r⟩⟩
 ·exact ⟨h1,.inl h2⟩
 ·exact ⟨h1,.inr ⟨g,c,cur,hv,hb,(World.putObj_heap_other (fun e=>by subst e;rw [hk] at hg;cases hg;cases ho)).trans hg,r⟩⟩
theorem pZ {W:World} {b n cap B:Nat} {po:Option Addr} {xs:List Value} {cs cs':Array Value} (h:W.ownsRow b 2 1 (.slice po n cap) n xs) (hb:W.heap[B]? = some (.cells cs 30)):(W.setRow B cs').ownsRow b 2 1 (.slice po n cap) n xs :=
 World.ownsRow.kept (row:=some B) h (cH _ _ _) (.inr (dK h hb))
def Hi (U:Nat) (V V':World):Prop:=V.heap.size<=V'.heap.size/\∀ k,U<=k->k<V.heap.size->V'.heap[k]? = V.heap[k]?
theorem Hi.refl (U:Nat) (V:World):Hi U V V:=⟨Nat.le_refl _,fun _ _ _=>rfl⟩
theorem Hi.below {U:Nat} {V W W':World} (h:Hi U V W) (hb:Below W.heap.size W W'):Hi U V W':=⟨Nat.le_trans h.1 hb.size,fun k h1 h2=>(hb.block k (Nat.lt_of_lt_of_le h2 h.1)).trans (h.2 k h1 h2)⟩
theorem Hi.keeps {U:Nat} {V W:World} (h:Hi U V W):KeepsFrom U V W:=⟨h.1,fun k o h1 h2 _=>(h.2 k h1 (zLo h2)).trans h2⟩
structure St (w:World) (D:Nat) (sv:Value) (cM:Array Value) (j:Nat) (x:Sx) (W:World):Prop where
 bx:Bx w cM sv W
 cnt:W.heap[D]? = some (.cells #[.int .i64 (j:Int)] 2)
 row:nU w.heap.size x W
def bFG (w:World) (D:Nat) (po:Option Addr):Prop:=∀ p,po=some p->w.heap.size+5<=p.block/\p.block ≠ D
def I (w:World) (D N:Nat) (sv:Value) (hit:M->Bool) (m0:M) (s:Sx) (W:World):Prop :=
 St w D sv (aA s.m s.po s.cap) s.j s W/\bFG w D s.po/\eY s.m/\s.code=0/\s.j<=N/\toP hit (N-s.j) s.j s.m=toP hit N 0 m0
def Ga (w:World) (D N U:Nat) (sv:Value) (s x:Sx) (W V:World):Prop :=
 V.heap[W.heap.size]? = some (.cells (aA x.m x.po x.cap) 30)/\D<W.heap.size/\St w D sv (aA s.m s.po s.cap) s.j x V/\(Below w.heap.size W V/\∀ k o,W.heap[k]? = some o->U+2<=k->o.isCells=true->V.heap[k]? = some o) /\
 s.code=0/\s.j<N/\x.j=s.j+1/\bR s.m=(x.m,x.code)/\bFG w D x.po
theorem aYE {b B U:Nat} {x:Sx} {W:World} (hb:b<=U):nW U (Kp b B x W):=by
 rintro V k o o' ⟨h1,h2,h3⟩ hk ho hc hc';refine ⟨h1.grown (grownBy_putObj' V k o') (by have:=(zLo ho);omega) (fun j e=>by cases e;omega),lP h2 ho hc,fun j c e hj=>?_⟩;have h7:=h3 j c e hj;exact (World.putObj_heap_other (fun e2=>by subst e2;rw [ho] at h7;cases h7;cases hc)).trans h7
def En (b U N:Nat) (s:Sx) (X W:World):Prop:=(s.j=N \/ s.code ≠ 0)/\nU b s W/\W.os=X.os/\W.tape=X.tape/\W.output=X.output/\X.heap.size<=W.heap.size/\∀ k o,X.heap[k]? = some o->k<U->W.heap[k]? = some o
theorem En.free {b U N:Nat} {s:Sx} {X:World}:nW U (En b U N s X):=by
 rintro V k o o' ⟨h1,h2,h3,h4,h5,h6,h7⟩ hk ho hc _;exact ⟨h1,lP h2 ho hc,h3,h4,h5,by rw [World.putObj_size];exact h6,fun j c e hj=>(World.putObj_heap_other (by omega)).trans (h7 j c e hj)⟩
theorem En.of {b U N:Nat} {s:Sx} {X W:World} (h:Stfr.En b (U+2) N s X W):En b U N s X W/\KeepsFrom U X W:=by
 obtain ⟨h1,h2,h3⟩:=h;exact ⟨⟨h1,h2,h3.os,h3.tape,h3.output,h3.size,fun k o e hk=>h3.block k o e (by intro e2;cases e2) (.inl (by omega))⟩,h3.size,fun k o _ e ho=>h3.block k o e (by intro e2;cases e2) (.inr ho)⟩
theorem aAG {w:World} {B U:Nat} {s:Sx} {X W:World} (h:Still B s.po X W) (hr:nU w.heap.size s X):KeepsFrom U X W :=
 ⟨h.size,fun k o _ e ho=>h.block k o e (fun e2=>by
  have hob:(Value.slice s.po s.m.out.length s.cap).ownBlock=some k:=by rw [fV];exact e2.symm
  rcases hr.2 with ⟨h4,_⟩|⟨g,c,cur,hv,_,hg,_⟩
  ·rw [h4] at hob;cases hob
  ·rw [hv] at hob
   cases hob
   rw [e] at hg
   cases hg
   cases ho) (.inr ho)⟩
def Out (w:World) (D:Nat) (sv:Value) (R:M × Int × Int) (W:World):Prop :=
 ∃ x:Sx,St w D sv (aA x.m x.po x.cap) x.j x W/\bFG w D x.po/\R=(x.m,0,(x.j:Int))
theorem aRA {b:Nat} {w W V V':World} (h1:Below b W V) (h2:Below b w V) (h3:Below b w V') (hs:V.heap.size<=V'.heap.size):Below b W V' :=
 ⟨h3.os.trans (h2.os.symm.trans h1.os),h3.tape.trans (h2.tape.symm.trans h1.tape),h3.output.trans (h2.output.symm.trans h1.output),Nat.le_trans h1.size hs,fun k hk=>(h3.block k hk).trans ((h2.block k hk).symm.trans (h1.block k hk))⟩
end Rtoa
namespace Trap
open Go.Deep
open Busw Busx Stpp Stpq Stpo Runp Runt Plac
def aED (s:ByteArray):ByteArray:=s.extract 1 s.size
def gV (b:Int):ByteArray:=if b = -1 then ⟨#[45,45]⟩ else aED (Hex.dP b 2)
def gW (m:M):ByteArray:=gV (place m).1 ++ ⟨#[58]⟩ ++ aED (Hex.dP (place m).2 4) ++ ⟨#[32]⟩ ++ Texi.fP (bO m).1 (bO m).2.1 (bO m).2.2
def dA:Nat->M->List ByteArray
 | 0,_=>[]
 | k+1,m=>if (bR m).2=0 then gW m :: dA k (bR m).1 else []
def fU (m:M) (n:Int):List ByteArray:=if lT m=true/\0<=n/\n<=100 then dA n.toNat m else []
theorem kX {k:Nat} {m:M} (h:(bR m).2=0):dA (k+1) m=gW m :: dA k (bR m).1:=if_pos h
theorem rQ {k:Nat} {m:M} (h:¬ (bR m).2=0):dA (k+1) m=[]:=if_neg h
theorem aIW (k:Nat) (m:M):(dA k m).length<=k:=by
 induction k generalizing m with
 | zero=>exact Nat.le_refl _
 | succ k ih =>
  unfold dA;split
  ·have:=ih (bR m).1;simp;omega
  ·simp
theorem aEE (m:M) (n:Int):(fU m n).length<=100:=by
 unfold fU;split
 ·exact Nat.le_trans (aIW _ _) (by omega)
 ·simp
theorem aFH {m:M} (h:(bR m).2=0):¬ lenOf m=0:=by
 intro h0;unfold bR at h
 rw [if_pos h0] at h
 split at h <;> cases h
theorem jA {m:M} (h:Stpq.Good m):((place m).1 = -1 \/ 0<=(place m).1/\(place m).1<=15)/\0<=(place m).2/\(place m).2<=65535:=by
 obtain ⟨n,n0,n1,hn,hb,_,b0,b1,_⟩:=CartM.right m.rom m.kind m.bank m.ram m.rb m.on m.mode h.rt.cart;refine ⟨?_,h.pc.1,h.pc.2⟩;unfold place;rw [hb];unfold MachA.iC
 dsimp only
 split
 ·exact .inr ⟨Int.le_refl _,by omega⟩
 split
 ·refine .inr ⟨Int.emod_nonneg _ (by omega),?_⟩
  have:=Int.emod_lt_of_pos m.bank (b:=(n:Int)) (by omega)
  omega
 ·exact .inl rfl
theorem pC {b:Int} (h0:0<=b) (h1:b<=15):(Hex.dP b 2).size=3:=by
 rw [Hex.eT ⟨by decide,by decide,h0,by omega,by unfold Hex.pw;show b / 256=0;omega⟩,strOfNums_size]
 simp [Texi.mZ]
theorem pD {b:Int} (h0:0<=b) (h1:b<=65535):(Hex.dP b 4).size=5:=by
 rw [Hex.eT ⟨by decide,by decide,h0,h1,by unfold Hex.pw;show b / 65536=0;omega⟩,strOfNums_size]
 simp [Texi.mZ]
theorem aRB (T h new:ByteArray) (p:Int):(Texi.put T h new p).size<=2*T.size+new.size:=by
 unfold Texi.put;rw [ByteArray.size_append,ByteArray.size_append,ByteArray.size_extract,ByteArray.size_extract];omega
theorem bFH (h:ByteArray) (m:Int):(Texi.pV h m).size<=5:=by
 have h2:=Texi.iW m 2 (by omega);have h4:=Texi.iW m 4 (by omega);have hd:=(Texi.lF (Texi.dI m).1 (Texi.dI m).2).2;unfold Texi.pV;split
 ·omega
 split
 ·exact hd
 ·omega
theorem aFI (c:Int) (b:Bool) (m:Int) (h0:0<=c) (h1:c<=255):(Texi.fP c b m).size<=85:=by
 have ht:=Leng.jK c b h0 h1;unfold Texi.fP;split
 ·decide
 split
 ·omega
 ·have:=aRB (Tmpl.aY c b) (LenX.dM c b) (Texi.pV (LenX.dM c b) m) (HoleX.eQ (Tmpl.aY c b))
  have:=bFH (LenX.dM c b) m
  omega
theorem tL {b:Int} (h:b = -1 \/ 0<=b/\b<=15):(gV b).size=2:=by
 unfold gV;split
 ·rfl
 ·have:=pC (b:=b) (by omega) (by omega)
  unfold aED;rw [ByteArray.size_extract];omega
end Trap
namespace Traa
open Go.Deep
open Busw Busx Stpp Stpq Stpo Runp Runt Plac Stfr Trap
open Rlaw (nW)
open Rtoa (lP pZ Hi)
open MachT (bG aZ bJ cel)
def Ln (b:Nat) (v:Value) (L:List ByteArray) (W:World):Prop:=W.ownsRow b 9 1 v L.length (L.map Value.string)
theorem Ln.below {b:Nat} {v:Value} {L:List ByteArray} {W W':World} (h:Ln b v L W) (hb:Below W.heap.size W W'):Ln b v L W' :=
 h.kept (row:=none) ⟨hb.os,hb.tape,hb.output,hb.size,fun k hk _=>hb.block k hk⟩ (by cases hv:Value.ownBlock v <;> simp)
theorem Ln.ne {b k:Nat} {v:Value} {L:List ByteArray} {W:World} {cs:Array Value} {t:TypeId} (h:Ln b v L W) (hk:W.heap[k]? = some (.cells cs t)) (ht:t ≠ 9):v.ownBlock ≠ some k:=fun e=>by
 rcases h.2 with ⟨rfl,_⟩|⟨g,cap,cur,rfl,_,hg,_⟩
 ·cases e
 ·cases e;rw [hk] at hg;cases hg;exact ht rfl
theorem Ln.kept {b:Nat} {v:Value} {L:List ByteArray} {W W':World} (h:Ln b v L W) (hk:∀ k cs,v.ownBlock=some k->W.heap[k]? = some (.cells cs 9)->W'.heap[k]? = W.heap[k]?):Ln b v L W':=by
 obtain ⟨h1,h2|⟨g,c,cur,rfl,hb,hg,r⟩⟩:=h
 ·exact ⟨h1,.inl h2⟩
 ·exact ⟨h1,.inr ⟨g,c,cur,rfl,hb,(hk g _ rfl hg).trans hg,r⟩⟩
theorem snoc {b n:Nat} {v:Value} {D:List ByteArray} {x:ByteArray} {w:World} (h:w.ownsRow b 9 1 v (n+1) (D.map Value.string ++ [.string x])) (hn:n=D.length):Ln b v (D ++ [x]) w:=by
 unfold Ln;rw [List.map_append,List.length_append];rw [hn] at h;exact h
theorem wJ {b k:Nat} {x:Sx} {W:World} {cs:Array Value} {t:TypeId} (h:nU b x W) (hk:W.heap[k]? = some (.cells cs t)) (ht:t ≠ 2):some k ≠ blk x.po:=fun e=>by
 rcases h.2 with ⟨h0,_⟩|⟨g,cap,cur,h0,_,hg,_⟩
 ·injection h0 with e1;rw [e1] at e;cases e
 ·injection h0 with e1;rw [e1] at e;cases e;rw [hk] at hg;cases hg;exact ht rfl
structure St (w:World) (D:Nat) (L:List ByteArray) (v:Value) (cM:Array Value) (x:Sx) (W:World):Prop where
 box:W.heap[w.heap.size]? = some (.cells cM 30)
 lin:W.heap[D]? = some (.cells #[v] 44)
 own:Ln w.heap.size v L W
 row:nU w.heap.size x W
 bel:Below w.heap.size w W
theorem St.below {w W W':World} {D:Nat} {L:List ByteArray} {v:Value} {cM:Array Value} {x:Sx} (h:St w D L v cM x W) (hb:Below W.heap.size W W'):St w D L v cM x W' :=
 ⟨(hb.block _ (zLo h.box)).trans h.box,(hb.block _ (zLo h.lin)).trans h.lin,h.own.below hb,h.row.kept (row:=none) ⟨hb.os,hb.tape,hb.output,hb.size,fun k hk _=>hb.block k hk⟩ (by cases hv:(Value.slice x.po x.m.out.length x.cap).ownBlock <;> simp),h.bel.trans (hb.mono h.bel.size)⟩
theorem St.free {w:World} {D U:Nat} {L:List ByteArray} {v:Value} {cM:Array Value} {x:Sx} (hU:w.heap.size<U) (hD:D<U):nW U (St w D L v cM x) :=
 fun W k o o' h hk ho hc _=>⟨(World.putObj_heap_other (by omega)).trans h.box,(World.putObj_heap_other (by omega)).trans h.lin,lP h.own ho hc,lP h.row ho hc,h.bel.grown (grownBy_putObj' W k o') (by have:=(zLo ho);omega) (fun j e=>by cases e;omega)⟩
def bKU (N:Nat) (m0:M) (L:List ByteArray) (s:Sx):Prop:=(s.code=0/\dA N m0=L ++ dA (N-s.j) s.m) \/ (s.code ≠ 0/\dA N m0=L)
def I (w:World) (D N U:Nat) (m0:M) (s:Sx) (W:World):Prop :=
 ∃ L v,St w D L v (aA s.m s.po s.cap) s W/\(∀ cs,W.heap[U+2]? ≠ some (.cells cs 9))/\L.length<=s.j/\eY s.m/\s.j<=N/\bKU N m0 L s
theorem I.free {w:World} {D N U:Nat} {m0:M} {s:Sx} (hU:w.heap.size<U) (hD:D<U):nW U (I w D N U m0 s):=by
 rintro W k o o' ⟨L,v,h1,h2,h3⟩ hk ho hc hc';refine ⟨L,v,St.free hU hD W k o o' h1 hk ho hc hc',fun cs e=>?_,h3⟩
 by_cases e2:U+2=k
 ·rw [e2,World.putObj_heap_same (zLo ho)] at e
  cases e
  cases hc'
 ·rw [World.putObj_heap_other e2] at e
  exact h2 cs e
def Ga (w:World) (D N U:Nat) (m0:M) (s x:Sx) (W V:World):Prop :=
 ∃ L v,(V.heap[W.heap.size]? = some (.cells (aA x.m x.po x.cap) 30)/\D<W.heap.size/\w.heap.size<W.heap.size)/\St w D L v (aA s.m s.po s.cap) x V/\(∃ cs,V.heap[U+2]? = some (.cells cs 30))/\(Below w.heap.size W V/\∀ k cs,W.heap[k]? = some (.cells cs 30)->U+2<=k->V.heap[k]? = some (.cells cs 30)) /\
 L.length<=s.j/\eY s.m/\s.j<N/\x.j=s.j+1/\bR s.m=(x.m,x.code)/\dA N m0=L ++ dA (N-s.j) s.m
theorem Ga.free {w:World} {D N U:Nat} {m0:M} {s x:Sx} {W:World} (hU:w.heap.size<U) (hD:D<U):nW U (Ga w D N U m0 s x W):=by
 rintro V k o o' ⟨L,v,⟨h1,h2⟩,h3,⟨c,h4⟩,⟨h5,h6⟩,h7⟩ hk ho hc hc';have hne:∀ j cs t,V.heap[j]? = some (.cells cs t)->j ≠ k:=fun j cs t e e2=>by subst e2;rw [ho] at e;cases e;cases hc
 refine ⟨L,v,⟨(World.putObj_heap_other (hne _ _ _ h1)).trans h1,h2⟩,St.free hU hD V k o o' h3 hk ho hc hc',⟨c,(World.putObj_heap_other (hne _ _ _ h4)).trans h4⟩,⟨h5.grown (grownBy_putObj' V k o') (by have:=(zLo ho);omega) (fun j e=>by cases e;omega),fun j cs e hj=>?_⟩,h7⟩;have h8:=h6 j cs e hj;exact (World.putObj_heap_other (hne _ _ _ h8)).trans h8
def En2 (b U N:Nat) (s:Sx) (X W:World):Prop:=Rtoa.En b U N s X W/\∀ k cs,X.heap[k]? = some (.cells cs 9)->k ≠ U+2->W.heap[k]? = some (.cells cs 9)
theorem En2.free {b U N:Nat} {s:Sx} {X:World}:nW U (En2 b U N s X):=by
 rintro V k o o' ⟨h1,h2⟩ hk ho hc hc';refine ⟨Rtoa.En.free V k o o' h1 hk ho hc hc',fun j c e hj=>?_⟩;have h3:=h2 j c e hj;exact (World.putObj_heap_other (fun e2=>by subst e2;rw [ho] at h3;cases h3;cases hc)).trans h3
theorem En2.of {b U N:Nat} {s:Sx} {X W:World} (h:Stfr.En b (U+2) N s X W):En2 b U N s X W/\KeepsFrom U X W :=
 ⟨⟨(Rtoa.En.of h).1,fun k cs e hk=>h.2.2.block k _ e (by intro e2;cases e2) (.inl hk)⟩,(Rtoa.En.of h).2⟩
def Out (w:World) (D:Nat) (L:List ByteArray) (W:World):Prop:=∃ v,W.heap[D]? = some (.cells #[v] 44)/\Ln w.heap.size v L W/\Below w.heap.size w W
theorem Out.done {w:World} {D U N:Nat} {m0:M} {s:Sx} {X W:World} (hi:I w D N U m0 s X) (he':En2 w.heap.size U N s X W) (hU:w.heap.size<U) (hD:D<U):Out w D (dA N m0) W:=by
 obtain ⟨L,v,h1,h2,h3,h4,h5,h6⟩:=hi;obtain ⟨⟨e1,e2,e3,e4,e5,e6,e7⟩,hk⟩:=he';have hb:Below w.heap.size w W:=⟨e3.trans h1.bel.os,e4.trans h1.bel.tape,e5.trans h1.bel.output,Nat.le_trans h1.bel.size e6,fun k hk=>by
  have hl:k<X.heap.size:=Nat.lt_of_lt_of_le hk h1.bel.size
  have:=e7 k _ (Array.getElem?_eq_getElem hl) (by omega)
  rw [this,<- Array.getElem?_eq_getElem hl];exact h1.bel.block k hk⟩
 have hL:dA N m0=L:=by
  rcases h6 with ⟨c,h6⟩|⟨c,h6⟩
  ·have hj:s.j=N:=by
    rcases e1 with e1|e1
    ·exact e1
    ·exact absurd c e1
   rw [h6,hj,Nat.sub_self]
   simp [dA]
  ·exact h6
 rw [hL];exact ⟨v,e7 _ _ h1.lin hD,h1.own.kept (fun k cs _ e=>(hk k cs e (fun e2=>h2 cs (e2 ▸ e))).trans e.symm),hb⟩
def Hj (b D:Nat) (V V':World):Prop:=V.heap.size<=V'.heap.size/\∀ k o,V.heap[k]? = some o->k ≠ b->k ≠ D->(∀ cs,o ≠ .cells cs 9)->V'.heap[k]? = some o
theorem Hj.refl (b D:Nat) (V:World):Hj b D V V:=⟨Nat.le_refl _,fun _ _ h _ _ _=>h⟩
theorem Hj.below {b D:Nat} {V W W':World} (h:Hj b D V W) (hb:Below W.heap.size W W'):Hj b D V W':=⟨Nat.le_trans h.1 hb.size,fun k o e h1 h2 h3=>by
 have h4:=h.2 k o e h1 h2 h3;exact (hb.block k (zLo h4)).trans h4⟩
theorem Hj.grown {b D b':Nat} {v:Value} {L:List ByteArray} {V W W':World} (h:Hj b D V W) (hl:Ln b' v L W) (hg:W.grownBy W' v.ownBlock):Hj b D V W':=⟨Nat.le_trans h.1 hg.size,fun k o e h1 h2 h3=>by
 have h4:=h.2 k o e h1 h2 h3;refine (hg.block k (zLo h4) (fun e2=>?_)).trans h4;rcases hl.2 with ⟨rfl,_⟩|⟨g,cap,cur,rfl,_,hgg,_⟩
 ·cases e2
 ·cases e2;rw [h4] at hgg;cases hgg;exact h3 _ rfl⟩
theorem Hj.cell {b D:Nat} {V W:World} (h:Hj b D V W) (v:Value):Hj b D V (W.setCell ⟨D,0,none⟩ v):=⟨by rw [Busw.dB];exact h.1,fun k o e h1 h2 h3=>(Below.heap_setCell _ _ _ _ h2).trans (h.2 k o e h1 h2 h3)⟩
theorem Hj.row {b D:Nat} {V W:World} (h:Hj b D V W) (cs:Array Value):Hj b D V (W.setRow b cs):=⟨by rw [MachT.mT];exact h.1,fun k o e h1 h2 h3=>(aZ (Ne.symm h1) _).trans (h.2 k o e h1 h2 h3)⟩
theorem Hj.keeps {b D U:Nat} {V W:World} (h:Hj b D V W) (hb:b<U) (hD:D<U):KeepsFrom U V W:=⟨h.1,fun k o hk e ho=>h.2 k o e (by omega) (by omega) (fun cs e2=>by subst e2;cases ho)⟩
theorem Hj.mach {b D k:Nat} {V W:World} {cs:Array Value} (h:Hj b D V W) (hk:V.heap[k]? = some (.cells cs 30)) (h1:k ≠ b) (h2:k ≠ D):W.heap[k]? = some (.cells cs 30):=h.2 k _ hk h1 h2 (fun cs e=>by cases e)
theorem St.told {w W W':World} {D:Nat} {L L':List ByteArray} {v v':Value} {cM:Array Value} {x:Sx} (h:St w D L v cM x W) (hg:W.grownBy W' v.ownBlock) (hown:Ln w.heap.size v' L' W') (hD:w.heap.size<D) :
  (W'.cell? ⟨D,0,none⟩=some v/\W'.frozen? ⟨D,0,none⟩=false)/\St w D L' v' cM x (W'.setCell ⟨D,0,none⟩ v'):=by
 have kp:∀ (k:Nat) (cs:Array Value) (t:TypeId),W.heap[k]? = some (.cells cs t)->t ≠ 9->W'.heap[k]? = some (.cells cs t):=fun k cs t e ht=>(hg.block k (zLo e) (fun e2=>h.own.ne e ht e2.symm)).trans e
 have hl:=kp _ _ _ h.lin (by decide);have hw:Below w.heap.size w W':=h.bel.grown hg h.bel.size (fun j e=>by
  rcases h.own.2 with ⟨rfl,_⟩|⟨g,cap,cur,rfl,hb,_⟩
  ·cases e
  ·cases e;exact hb)
 refine ⟨⟨cel hl 0 _ rfl,frozen_of_row _ _ _ _ _ hl⟩,(Below.heap_setCell _ _ _ _ (by dsimp only;omega)).trans (kp _ _ _ h.box (by decide)),(heap_setCell_same _ _ 0 _ _ _ hl).trans rfl,hown.kept (fun k cs e e2=>Below.heap_setCell _ _ _ _ (fun e3=>by subst e3;rw [hl] at e2;cases e2)),?_,hw.setCell (by dsimp only;omega) _⟩;have hr:nU w.heap.size x W':=by
  rcases h.row with ⟨h1,h2|⟨g,cap,cur,hv,hb,hgg,r⟩⟩
  ·exact ⟨h1,.inl h2⟩
  ·exact ⟨h1,.inr ⟨g,cap,cur,hv,hb,kp _ _ _ hgg (by decide),r⟩⟩
 rcases hr with ⟨h1,h2|⟨g,cap,cur,hv,hb,hgg,r⟩⟩
 ·exact ⟨h1,.inl h2⟩
 ·exact ⟨h1,.inr ⟨g,cap,cur,hv,hb,(Below.heap_setCell _ _ _ _ (fun e3=>by subst e3;rw [hl] at hgg;cases hgg)).trans hgg,r⟩⟩
theorem St.next {w W:World} {D:Nat} {L:List ByteArray} {v:Value} {cM cM':Array Value} {x:Sx} (h:St w D L v cM x W) (hD:w.heap.size<D):St w D L v cM' x (W.setRow w.heap.size cM') :=
 ⟨bG h.box,(aZ (by omega) _).trans h.lin,h.own.kept (fun k cs e e2=>aZ (fun e3=>by subst e3;rw [h.box] at e2;cases e2) _),pZ h.row h.box,bJ h.bel (Nat.le_refl _)⟩
def rR (m:M) (n:Int) (w:World) (e:Ending) (w':World):Prop:=∃ v,e=.returned v/\Ln w.heap.size v (fU m n) w'/\Below w.heap.size w w'
end Traa
namespace Trab
open Go.Deep
open Busw Busx Stpp Stpq Stpo Runp Plac Trap
structure Cx (w:World):Prop where
 tab:PartN.Tables w
 pow:Texi.Pow w
 max:HolI.MaxL w
theorem Cx.below {w w':World} (h:Cx w) (hb:Below w.heap.size w w'):Cx w':=⟨h.tab.below hb,h.pow.below hb,h.max.below hb⟩
theorem rS (b:Int) (w:World) (hb:b = -1 \/ 0<=b/\b<=15) (hT:Nums.Tab w) :
  Calls prog 97 #[.int .i64 b] w fun e w'=>e=.returned (.string (gV b))/\Below w.heap.size w w':=by
 by_cases h:b = -1
 ·subst h
  go_enter func97,ntmps97
  go_wp2;go_ret;exact ⟨rfl,Below.refl _ _⟩
 ·have hne:(b == -1)=false:=by simpa using h
  have hs:=pC (b:=b) (by omega) (by omega);have c:=Hex.fZ b 2 w hT;have HB:Hid (gV b=(Hex.dP b 2).extract 1 3):=by show _=_;unfold gV aED;rw [if_neg h,hs]
  clear hT h hb;obtain ⟨s,hsd⟩ : ∃ s,s=Hex.dP b 2:=⟨_,rfl⟩
  rw [<- hsd] at c hs HB
  clear hsd
  go_enter func97,ntmps97
  go_wp2_with fail
  refine c.mono ?_;rintro e w1 ⟨rfl,b1⟩;have B1:Hid (Below w.heap.size w w1):=b1;clear b1;go_wp2;go_ret;exact ⟨by rw [HB.out];rfl,B1.out⟩
theorem aFJ (w:World) (a:Addr) (v:Value) (h:w.cell? a=some v):(loadVar 2 a).run prog w=.ok v w:=by
 simp [loadVar,isAgg,underlying,underlying2,h,go_sem]
theorem sJ (m:M) (po:Option Addr) (cap B:Nat) (w:World) (hb:w.heap[B]? = some (.cells (aA m po cap) 30)) (hf:Stpq.Good m) (hl:¬ lenOf m=0) (hc:Cx w) :
  Calls prog 49 #[.pointer (some ⟨B,0,none⟩)] w fun e w'=>e=.returned (.string (gW m))/\Below w.heap.size w w':=by
 obtain ⟨hp1,hp2⟩:=jA hf;have HB:Hid (∀ W,Below w.heap.size w W->W.heap[B]? = some (.cells (aA m po cap) 30)):=fun W h=>(h.block _ (zLo hb)).trans hb
 have HC:Hid (∀ W,Below w.heap.size w W->Cx W):=fun W h=>hc.below h
 have cw:=fun W h=>aIV m po cap B W hf.rt h
 have ci:=fun W h h2=>Stph.pB m po cap B W h hf.rt hf.pc h2
 rw [(mF m hl).val] at ci
 have hs4:=pD hp2.1 hp2.2;have hsb:=tL hp1;have hst:=aFI (bO m).1 (bO m).2.1 (bO m).2.2 (mF m hl).cbd.1 (mF m hl).cbd.2;have ch:=fun W h=>Hex.fZ (place m).2 4 W h
 have ct:=fun W h=>Texj.vC (bO m).1 (bO m).2.1 (bO m).2.2 W (Cx.tab h) (Cx.pow h) (Cx.max h)
 have cb:=fun W h=>rS (place m).1 W hp1 h
 have HV:Hid (gW m=gV (place m).1 ++ ⟨#[58]⟩ ++ (Hex.dP (place m).2 4).extract 1 5 ++ ⟨#[32]⟩ ++ Texi.fP (bO m).1 (bO m).2.1 (bO m).2.2):=by
  show _=_;unfold gW aED;rw [hs4]
 clear hb hc hf hl hp1 hp2;obtain ⟨ln,hln⟩ : ∃ l,l=gW m:=⟨_,rfl⟩
 rw [<- hln] at HV |-
 clear hln;generalize gV (place m).1=sb at *
 generalize (place m).1=pb at *
 generalize Hex.dP (place m).2 4=sh at *
 generalize (place m).2=pa at *
 generalize Texi.fP (bO m).1 (bO m).2.1 (bO m).2.2=st at *
 generalize (bO m).1=c at *
 generalize (bO m).2.1=cb' at *
 generalize (bO m).2.2=imm at *
 generalize ReadI.dD (Stph.bU m) 0=nn at *
 generalize aA m po cap=cM at *
 go_enter func49,ntmps49
 go_wp2_with fail
 refine Calls.mono (cw _ (HB.out _ zRf)) ?_;rintro e w1 ⟨rfl,hb1⟩;have B1:Hid (Below w.heap.size w w1):=hb1;clear hb1 cw
 go_wp2_with fail
 obtain ⟨w2,hw2⟩ : ∃ u,u=w1.alloc (.cells #[.int .i64 pb,.int .i64 pa] 40):=⟨_,rfl⟩
 obtain ⟨b1,hb1⟩ : ∃ b,b=w1.heap.size:=⟨_,rfl⟩
 have B2:Hid (Below w.heap.size w w2/\w2.heap[b1]? = some (.cells #[.int .i64 pb,.int .i64 pa] 40)):=by
  show _/\_;rw [hw2,hb1];exact ⟨B1.out.alloc B1.out.size _,heap_alloc_last w1 _⟩
 rw [<- hw2,<- hb1];clear hw2 hb1 B1;refine Calls.mono (ci _ (HB.out _ B2.out.1) (HC.out _ B2.out.1).max) ?_;rintro e w3 ⟨rfl,hb3⟩;have B3:Hid (Below w.heap.size w w3/\w3.heap[b1]? = some (.cells #[.int .i64 pb,.int .i64 pa] 40)):=⟨B2.out.1.trans (hb3.mono B2.out.1.size),(hb3.block _ (zLo B2.out.2)).trans B2.out.2⟩;clear hb3 ci B2
 go_upto_region 3 with fail
 obtain ⟨w4,hw4⟩ : ∃ u,u=w3.alloc (.cells #[.int .i64 c,.bool cb',.int .i64 imm] 80):=⟨_,rfl⟩
 obtain ⟨b2,hb2⟩ : ∃ b,b=w3.heap.size:=⟨_,rfl⟩
 have B4:Hid (Below w.heap.size w w4/\w4.heap[b1]? = some (.cells #[.int .i64 pb,.int .i64 pa] 40)/\w4.heap[b2]? = some (.cells #[.int .i64 c,.bool cb',.int .i64 imm] 80)):=by
  show _/\_;rw [hw4,hb2];exact ⟨B3.out.1.alloc B3.out.1.size _,(aM _ _ (zLo B3.out.2)).trans B3.out.2,heap_alloc_last w3 _⟩
 rw [<- hw4,<- hb2];clear hw4 hb2 B3;have k1:Sta.Rg 97 #[.int .i64 pb] w4 (.string sb):=Sta.rg fun W hb=>cb W (HC.out _ (B4.out.1.trans (hb.mono B4.out.1.size))).tab.hex
 have k2:Sta.Rg 98 #[.int .i64 pa,.int .i64 4] w4 (.string sh):=Sta.rg fun W hb=>ch W (HC.out _ (B4.out.1.trans (hb.mono B4.out.1.size))).tab.hex
 have k3:Sta.Rg 99 #[.agg #[.int .i64 c,.bool cb',.int .i64 imm]] w4 (.string st):=Sta.rg fun W hb=>ct W (HC.out _ (B4.out.1.trans (hb.mono B4.out.1.size)))
 have q0:=MachT.cel B4.out.2.1 0 _ rfl;have q1:=MachT.cel B4.out.2.1 1 _ rfl;have l1:∀ d os,(loadVar 80 ⟨b2,0,none⟩).run prog (Go.Sort.grow (redrawn w4 d) os)=.ok (.agg #[.int .i64 c,.bool cb',.int .i64 imm]) (Go.Sort.grow (redrawn w4 d) os):=fun d os=>run_loadVar_row _ b2 80 80 _ (0,0) _ (((x8 w4 d os).block b2 (zLo B4.out.2.2)).trans B4.out.2.2) underlying80 rfl (by kernel_rfl)
 have l2:∀ d os,(loadVar 2 ⟨b1,0,none⟩).run prog (Go.Sort.grow (redrawn w4 d) os)=.ok (.int .i64 pb) (Go.Sort.grow (redrawn w4 d) os):=fun d os=>aFJ _ _ _ (((x8 w4 d os).cell (p:=⟨b1,0,none⟩) (zLo B4.out.2.1)).trans q0)
 have l3:∀ d os,(loadVar 2 ⟨b1,1,none⟩).run prog (Go.Sort.grow (redrawn w4 d) os)=.ok (.int .i64 pa) (Go.Sort.grow (redrawn w4 d) os):=fun d os=>aFJ _ _ _ (((x8 w4 d os).cell (p:=⟨b1,1,none⟩) (zLo B4.out.2.1)).trans q1)
 clear cb ch ct q0 q1;refine wp_region_quiet_below (by kernel_rfl) (by kernel_rfl) ?_
 repeat (first|(go_big_quiet_step (first|fail|with_reducible exact k1 _ _|with_reducible exact k2 _ _|with_reducible exact k3 _ _))|(refine Stps.aK (by rfl) 80 _ rfl ⟨b2,0,none⟩ rfl _ (fun W hW=>by obtain ⟨⟨d,o⟩,rfl⟩:=hW;exact l1 d o) ?_;simp only [Act.put,List.setIfInBounds_toArray,List.set_cons_succ,List.set_cons_zero])|(refine Stps.aK (by rfl) 2 _ rfl ⟨b1,0,none⟩ rfl _ (fun W hW=>by obtain ⟨⟨d,o⟩,rfl⟩:=hW;exact l2 d o) ?_;simp only [Act.put,List.setIfInBounds_toArray,List.set_cons_succ,List.set_cons_zero])|(refine Stps.aK (by rfl) 2 _ rfl ⟨b1,1,none⟩ rfl _ (fun W hW=>by obtain ⟨⟨d,o⟩,rfl⟩:=hW;exact l3 d o) ?_;simp only [Act.put,List.setIfInBounds_toArray,List.set_cons_succ,List.set_cons_zero]))
 refine wpQuiet_nil ?_;intro _ hw';obtain ⟨⟨dq,osq⟩,hw''⟩:=hw';subst hw'';have hr:=x8 w4 dq osq;have HZ:Hid (Below w.heap.size w (Go.Sort.grow (redrawn w4 dq) osq)):=B4.out.1.trans (hr.mono B4.out.1.size);clear hr k1 k2 k3 l1 l2 l3;go_wp2;go_ret;exact ⟨by rw [HV.out];rfl,HZ.out⟩
end Trab
end Go.Proofs.YteglcgnhhoenbaaGreatDoor
