import Derived.Test.YtickfkphhngagaaGreatDoorP29
set_option linter.all false
set_option maxRecDepth 20000
set_option maxHeartbeats 8000000
open Go.ChangeShapes Go.WideShapes Go.ChangeAt Go.RowKit
open Go.Proofs.Tryz
namespace Go.Proofs.YtickfkphhngagaaGreatDoor
namespace Same9
open Go.Deep
theorem drewN_below {B:Nat} {a b:World} (h:Below B a b) (n:Nat):Below B a (b.drewN n):=⟨h.os,h.tape,h.output,h.size,h.block⟩
theorem samePatch_any (x:Patr.X) (a2:Option Addr) (c2:Nat) (a2':Option Addr) (c2':Nat) (w:World) (hh:Patr.Has 0 w x a2) (hh':Patr.Has 0 w x a2') (hsm:Patr.SmallX x) :
  Calls prog 97 #[.agg #[.int .i64 x.f0,.int .i64 x.f1,.slice a2 x.f2.length c2],.agg #[.int .i64 x.f0,.int .i64 x.f1,.slice a2' x.f2.length c2']] w fun e w'=>e=.returned (.bool true)/\Below w.heap.size w w':=by
 obtain ⟨h2,z2⟩:=hh
 obtain ⟨h2',z2'⟩:=hh'
 have s2:Nodw.Small x.f2:=hsm
 have cr2:=fun W h h'=>DrawE.sameExpr_any a2 a2' c2 c2' x.f2 W h h' s2
 have HH2:Hid (Nodw.Row 0 w a2 x.f2):=h2
 have HH2':Hid (Nodw.Row 0 w a2' x.f2):=h2'
 obtain ⟨n2,hn2⟩ : ∃ n,n=x.f2.length:=⟨_,rfl⟩
 rw [<- hn2]
 simp only [<- hn2] at cr2
 obtain ⟨q0,hq0⟩ : ∃ q,q=x.f0:=⟨_,rfl⟩
 rw [<- hq0]
 obtain ⟨q1,hq1⟩ : ∃ q,q=x.f1:=⟨_,rfl⟩
 rw [<- hq1]
 clear hn2 h2 z2 h2' z2' s2
 clear hq0 hq1
 have WB:Hid (∀ o o':Obj,Below w.heap.size w ((w.alloc o).alloc o')):=fun o o'=>(zAl _ _).alloc (by simp) _
 go_enter func97,ntmps97
 go_wp2_with fail
 obtain ⟨W0,hW0⟩ : ∃ W0,W0=(w.alloc (.cells #[.int .i64 q0,.int .i64 q1,.slice a2 n2 c2] 80)).alloc (.cells #[.int .i64 q0,.int .i64 q1,.slice a2' n2 c2'] 80):=⟨_,rfl⟩
 rw [<- hW0]
 have B0:Hid (Below w.heap.size w W0):=by rw [hW0];exact WB.out _ _
 have Z0:W0.heap.size=w.heap.size+1+1:=by rw [hW0];simp
 have G0:Hid (W0.heap[w.heap.size]? = some (.cells #[.int .i64 q0,.int .i64 q1,.slice a2 n2 c2] 80)):=by
  show W0.heap[w.heap.size]? = _
  rw [hW0,Below.heap_alloc _ _ _ (by simp)];exact (MapKept.heap_alloc w _).1
 have R0:Hid (W0.heap[w.heap.size+1]? = some (.cells #[.int .i64 q0,.int .i64 q1,.slice a2' n2 c2'] 80)):=by
  show W0.heap[w.heap.size+1]? = _
  have:=(MapKept.heap_alloc (w.alloc (.cells #[.int .i64 q0,.int .i64 q1,.slice a2 n2 c2] 80)) (.cells #[.int .i64 q0,.int .i64 q1,.slice a2' n2 c2'] 80)).1
  rw [hW0]
  simpa using this
 clear hW0
 refine (cr2 _ (HH2.out.below B0.out).1 (HH2'.out.below B0.out).1).mono ?_
 rintro e w2 ⟨rfl,hb2⟩
 have B2n:Hid (Below w.heap.size w w2):=B0.out.trans (hb2.mono B0.out.size)
 have V2:w.heap.size+1<w2.heap.size:=by have:=hb2.size;rw [Z0] at this;omega
 have G2n:Hid (w2.heap[w.heap.size]? = some (.cells #[.int .i64 q0,.int .i64 q1,.slice a2 n2 c2] 80)):=(hb2.block _ (by rw [Z0];omega)).trans G0.out
 have R2n:Hid (w2.heap[w.heap.size+1]? = some (.cells #[.int .i64 q0,.int .i64 q1,.slice a2' n2 c2'] 80)):=(hb2.block _ (by rw [Z0];omega)).trans R0.out
 clear hb2
 go_wp2
 go_ret
 exact ⟨rfl,B2n.out⟩
theorem sameSection_any (x:Secr.X) (a5:Option Addr) (c5:Nat) (a5':Option Addr) (c5':Nat) (w:World) (hh:Secr.Has 0 w x a5) (hh':Secr.Has 0 w x a5') (hsm:Secr.SmallX x) :
  Calls prog 53 #[.agg #[.string x.f0,.int .i64 x.f1,.int .i64 x.f2,.int .i64 x.f3,.string x.f4,.slice a5 x.f5.length c5],.agg #[.string x.f0,.int .i64 x.f1,.int .i64 x.f2,.int .i64 x.f3,.string x.f4,.slice a5' x.f5.length c5']] w fun e w'=>e=.returned (.bool true)/\Below w.heap.size w w':=by
 obtain ⟨h5,z5,z0,z4⟩:=hh
 obtain ⟨h5',z5',z0',z4'⟩:=hh'
 obtain ⟨s5,s0,s4⟩:=hsm
 have HH5:Hid (Patr.Row 0 w a5 x.f5):=h5
 have HH5':Hid (Patr.Row 0 w a5' x.f5):=h5'
 have HSM:Hid (Patr.Small x.f5):=s5
 obtain ⟨P,hP⟩ : ∃ P,P=x.f5:=⟨_,rfl⟩
 rw [<- hP] at HH5 HH5' HSM z5 |-
 obtain ⟨n5,hn5⟩ : ∃ n,n=P.length:=⟨_,rfl⟩
 have HL:Hid (n5=P.length):=hn5
 have hlen:=HSM.out.1
 rw [<- hn5] at hlen |-
 obtain ⟨q0,hq0⟩ : ∃ q,q=x.f0:=⟨_,rfl⟩
 rw [<- hq0]
 obtain ⟨q1,hq1⟩ : ∃ q,q=x.f1:=⟨_,rfl⟩
 rw [<- hq1]
 obtain ⟨q2,hq2⟩ : ∃ q,q=x.f2:=⟨_,rfl⟩
 rw [<- hq2]
 obtain ⟨q3,hq3⟩ : ∃ q,q=x.f3:=⟨_,rfl⟩
 rw [<- hq3]
 obtain ⟨q4,hq4⟩ : ∃ q,q=x.f4:=⟨_,rfl⟩
 rw [<- hq4]
 clear hP hn5 h5 z5 z0 z4 h5' z5' z0' z4' s5 s0 s4 hq0 hq1 hq2 hq3 hq4
 have t0:(q0.toList == q0.toList)=true:=by simp
 have t4:(q4.toList == q4.toList)=true:=by simp
 have t0':(q0.toList != q0.toList)=false:=by rw [bne,t0];rfl
 have t4':(q4.toList != q4.toList)=false:=by rw [bne,t4];rfl
 go_enter func53,ntmps53
 go_wp2_with fail
 obtain ⟨W0,hW0⟩ : ∃ W0,W0=(w.alloc (.cells #[.string q0,.int .i64 q1,.int .i64 q2,.int .i64 q3,.string q4,.slice a5 n5 c5] 38)).alloc (.cells #[.string q0,.int .i64 q1,.int .i64 q2,.int .i64 q3,.string q4,.slice a5' n5 c5'] 38):=⟨_,rfl⟩
 rw [<- hW0]
 have B0:Hid (Below w.heap.size w W0):=by rw [hW0];exact (zAl _ _).alloc (by simp) _
 have Z0:Hid (W0.heap.size=w.heap.size+1+1):=(show _=_ from by rw [hW0];simp)
 have G0:Hid (W0.heap[w.heap.size]? = some (.cells #[.string q0,.int .i64 q1,.int .i64 q2,.int .i64 q3,.string q4,.slice a5 n5 c5] 38)):=by
  show W0.heap[w.heap.size]? = _
  rw [hW0,Below.heap_alloc _ _ _ (by simp)];exact (MapKept.heap_alloc w _).1
 have R0:Hid (W0.heap[w.heap.size+1]? = some (.cells #[.string q0,.int .i64 q1,.int .i64 q2,.int .i64 q3,.string q4,.slice a5' n5 c5'] 38)):=by
  show W0.heap[w.heap.size+1]? = _
  have:=(MapKept.heap_alloc (w.alloc (.cells #[.string q0,.int .i64 q1,.int .i64 q2,.int .i64 q3,.string q4,.slice a5 n5 c5] 38)) (.cells #[.string q0,.int .i64 q1,.int .i64 q2,.int .i64 q3,.string q4,.slice a5' n5 c5'] 38)).1
  rw [hW0]
  simpa using this
 have GK:Hid (∀ W',Below W0.heap.size W0 W'->W'.heap[w.heap.size]? = some (.cells #[.string q0,.int .i64 q1,.int .i64 q2,.int .i64 q3,.string q4,.slice a5 n5 c5] 38)/\W'.heap[w.heap.size+1]? = some (.cells #[.string q0,.int .i64 q1,.int .i64 q2,.int .i64 q3,.string q4,.slice a5' n5 c5'] 38)):=fun W' h=>⟨(h.block _ (by rw [Z0.out];omega)).trans G0.out,(h.block _ (by rw [Z0.out];omega)).trans R0.out⟩
 clear hW0
 go_loopw [5] (fun i wr=>∃ k:Nat,k<=n5/\i=.int .i64 k/\Hid (Below W0.heap.size W0 wr)) (fun i _=>n5-(intOf i).toNat)
 case atStart=>exact ⟨0,Nat.zero_le _,rfl,Below.refl _ _⟩
 case round =>
  obtain ⟨k,hk,rfl,hbel⟩:=hrel
  have BW:Hid (Below w.heap.size w wr):=B0.out.trans (hbel.out.mono B0.out.size)
  have ga5:wr.cell? ⟨w.heap.size,5,none⟩=some (.slice a5 n5 c5):=by rw [cell_of_row _ _ _ _ _ _ (GK.out _ hbel.out).1];rfl
  have gb5:wr.cell? ⟨w.heap.size+1,5,none⟩=some (.slice a5' n5 c5'):=by rw [cell_of_row _ _ _ _ _ _ (GK.out _ hbel.out).2];rfl
  by_cases hlt:k<n5
  ·have hkL:k<P.length:=by have:=HL.out;omega
   have hN:=HH5.out.below BW.out
   have hN':=HH5'.out.below BW.out
   clear HH5 HH5' G0 R0
   rcases hN with hnil|⟨b,off,rfl,_,hb,hc⟩
   ·exfalso;rw [hnil] at hkL;exact absurd hkL (by simp)
   rcases hN' with hnil|⟨b',off',rfl,_,hb',hc'⟩
   ·exfalso;rw [hnil] at hkL;exact absurd hkL (by simp)
   obtain ⟨x2,y2,d0,d1,d2,hh⟩:=hc k hkL
   obtain ⟨x2',y2',e0,e1,e2,hh'⟩:=hc' k hkL
   clear hc hc'
   have ce:=fun W (h:Patr.Has 0 W P[k] x2) (h':Patr.Has 0 W P[k] x2')=>samePatch_any P[k] x2 y2 x2' y2' W h h' (HSM.out.2 k hkL)
   have HH:Hid (∀ W,Below wr.heap.size wr W->Patr.Has 0 W P[k] x2/\Patr.Has 0 W P[k] x2'):=fun W h=>⟨hh.below h,hh'.below h⟩
   clear hh hh'
   generalize P[k]=x at *
   have HC:Hid (∀ W,Below wr.heap.size wr W->Calls prog 97 #[.agg #[.int .i64 x.f0,.int .i64 x.f1,.slice x2 x.f2.length y2],.agg #[.int .i64 x.f0,.int .i64 x.f1,.slice x2' x.f2.length y2']] W fun e w'=>e=.returned (.bool true)/\Below W.heap.size W w'):=fun W h=>ce W (HH.out W h).1 (HH.out W h).2
   clear ce HH
   obtain ⟨m2,hm2⟩ : ∃ n,n=x.f2.length:=⟨_,rfl⟩
   rw [<- hm2] at d2 e2
   simp only [<- hm2] at HC
   clear hm2
   obtain ⟨p0,hp0⟩ : ∃ q,q=x.f0:=⟨_,rfl⟩
   rw [<- hp0] at d0 e0
   simp only [<- hp0] at HC
   clear hp0
   obtain ⟨p1,hp1⟩ : ∃ q,q=x.f1:=⟨_,rfl⟩
   rw [<- hp1] at d1 e1
   simp only [<- hp1] at HC
   clear hp1
   have k0:(0:Int)<=(k:Int):=by omega
   have k1:(k:Int)<(n5:Int):=by omega
   go_wp2_with fail
   go_region_with (go_at_call 97;refine (HC.out _ (zRf.drew)).mono ?_;rintro e w1 ⟨rfl,hb1⟩)
   all_goals go_wp2
   all_goals
    go_roundw
    case rel=>exact ⟨k+1,by omega,by go_num,hbel.out.trans ((Mirror.below_of_drew hb1).mono hbel.out.size)⟩
    case measure=>simp [intOf];omega
  ·clear HH5 HH5' G0 R0
   go_wp2
   go_ret
   exact ⟨rfl,BW.out⟩
theorem sameObject_any (x:Objr.X) (a0:Option Addr) (c0:Nat) (a1:Option Addr) (c1:Nat) (a2:Option Addr) (c2:Nat) (a0':Option Addr) (c0':Nat) (a1':Option Addr) (c1':Nat) (a2':Option Addr) (c2':Nat) (w:World) (hh:Objr.Has 0 w x a0 a1 a2) (hh':Objr.Has 0 w x a0' a1' a2') (hsm:Objr.SmallX x) :
  Calls prog 19 #[.agg #[.slice a0 x.f0.length c0,.slice a1 x.f1.length c1,.slice a2 x.f2.length c2],.agg #[.slice a0' x.f0.length c0',.slice a1' x.f1.length c1',.slice a2' x.f2.length c2']] w fun e w'=>e=.returned (.bool true)/\Below w.heap.size w w':=by
 obtain ⟨h0,z0,h1,z1,h2,z2⟩:=hh
 obtain ⟨h0',z0',h1',z1',h2',z2'⟩:=hh'
 obtain ⟨s0,s1,s2⟩:=hsm
 have S0:Hid (Secr.Small x.f0):=s0
 have S1:Hid (Osyr.Small x.f1):=s1
 have S2:Hid (Assr.Small x.f2):=s2
 have HH0:Hid (Secr.Row 0 w a0 x.f0):=h0
 have HH0':Hid (Secr.Row 0 w a0' x.f0):=h0'
 have HH1:Hid (Osyr.Row 0 w a1 x.f1):=h1
 have HH1':Hid (Osyr.Row 0 w a1' x.f1):=h1'
 have HH2:Hid (Assr.Row 0 w a2 x.f2):=h2
 have HH2':Hid (Assr.Row 0 w a2' x.f2):=h2'
 clear h0 z0 h1 z1 h2 z2 h0' z0' h1' z1' h2' z2' s0 s1 s2
 obtain ⟨P0,hP0⟩ : ∃ P,P=x.f0:=⟨_,rfl⟩
 rw [<- hP0] at HH0 HH0' S0 |-
 obtain ⟨n0,hn0⟩ : ∃ n,n=P0.length:=⟨_,rfl⟩
 have HL0:Hid (n0=P0.length):=hn0
 have hlen0:=S0.out.1
 rw [<- hn0] at hlen0 |-
 clear hP0 hn0
 obtain ⟨P1,hP1⟩ : ∃ P,P=x.f1:=⟨_,rfl⟩
 rw [<- hP1] at HH1 HH1' S1 |-
 obtain ⟨n1,hn1⟩ : ∃ n,n=P1.length:=⟨_,rfl⟩
 have HL1:Hid (n1=P1.length):=hn1
 have hlen1:=S1.out.1
 rw [<- hn1] at hlen1 |-
 clear hP1 hn1
 obtain ⟨P2,hP2⟩ : ∃ P,P=x.f2:=⟨_,rfl⟩
 rw [<- hP2] at HH2 HH2' S2 |-
 obtain ⟨n2,hn2⟩ : ∃ n,n=P2.length:=⟨_,rfl⟩
 have HL2:Hid (n2=P2.length):=hn2
 have hlen2:=S2.out.1
 rw [<- hn2] at hlen2 |-
 clear hP2 hn2
 go_enter func19,ntmps19
 go_wp2_with fail
 obtain ⟨W0,hW0⟩ : ∃ W0,W0=(w.alloc (.cells #[.slice a0 n0 c0,.slice a1 n1 c1,.slice a2 n2 c2] 26)).alloc (.cells #[.slice a0' n0 c0',.slice a1' n1 c1',.slice a2' n2 c2'] 26):=⟨_,rfl⟩
 rw [<- hW0]
 have B0:Hid (Below w.heap.size w W0):=by rw [hW0];exact (zAl _ _).alloc (by simp) _
 have Z0:Hid (W0.heap.size=w.heap.size+1+1):=(show _=_ from by rw [hW0];simp)
 have G0:Hid (W0.heap[w.heap.size]? = some (.cells #[.slice a0 n0 c0,.slice a1 n1 c1,.slice a2 n2 c2] 26)):=by
  show W0.heap[w.heap.size]? = _
  rw [hW0,Below.heap_alloc _ _ _ (by simp)];exact (MapKept.heap_alloc w _).1
 have R0:Hid (W0.heap[w.heap.size+1]? = some (.cells #[.slice a0' n0 c0',.slice a1' n1 c1',.slice a2' n2 c2'] 26)):=by
  show W0.heap[w.heap.size+1]? = _
  have:=(MapKept.heap_alloc (w.alloc (.cells #[.slice a0 n0 c0,.slice a1 n1 c1,.slice a2 n2 c2] 26)) (.cells #[.slice a0' n0 c0',.slice a1' n1 c1',.slice a2' n2 c2'] 26)).1
  rw [hW0]
  simpa using this
 have GK:Hid (∀ W',Below W0.heap.size W0 W'->W'.heap[w.heap.size]? = some (.cells #[.slice a0 n0 c0,.slice a1 n1 c1,.slice a2 n2 c2] 26)/\W'.heap[w.heap.size+1]? = some (.cells #[.slice a0' n0 c0',.slice a1' n1 c1',.slice a2' n2 c2'] 26)):=fun W' h=>⟨(h.block _ (by rw [Z0.out];omega)).trans G0.out,(h.block _ (by rw [Z0.out];omega)).trans R0.out⟩
 clear hW0
 clear G0 R0
 go_loopw [5] (fun i wr=>∃ k:Nat,k<=n0/\i=.int .i64 k/\Hid (Below W0.heap.size W0 wr)) (fun i _=>n0-(intOf i).toNat)
 case atStart=>exact ⟨0,Nat.zero_le _,rfl,Below.refl _ _⟩
 case round =>
  skip
  obtain ⟨k,hk,rfl,hbel⟩:=hrel
  have BW:Hid (Below w.heap.size w wr):=B0.out.trans (hbel.out.mono B0.out.size)
  have GA:=(show Hid _ from (GK.out _ hbel.out).1)
  have GB:=(show Hid _ from (GK.out _ hbel.out).2)
  have ga0:wr.cell? ⟨w.heap.size,0,none⟩=some (.slice a0 n0 c0):=by rw [cell_of_row _ _ _ _ _ _ GA.out];rfl
  have gb0:wr.cell? ⟨w.heap.size+1,0,none⟩=some (.slice a0' n0 c0'):=by rw [cell_of_row _ _ _ _ _ _ GB.out];rfl
  have ga1:wr.cell? ⟨w.heap.size,1,none⟩=some (.slice a1 n1 c1):=by rw [cell_of_row _ _ _ _ _ _ GA.out];rfl
  have gb1:wr.cell? ⟨w.heap.size+1,1,none⟩=some (.slice a1' n1 c1'):=by rw [cell_of_row _ _ _ _ _ _ GB.out];rfl
  have ga2:wr.cell? ⟨w.heap.size,2,none⟩=some (.slice a2 n2 c2):=by rw [cell_of_row _ _ _ _ _ _ GA.out];rfl
  have gb2:wr.cell? ⟨w.heap.size+1,2,none⟩=some (.slice a2' n2 c2'):=by rw [cell_of_row _ _ _ _ _ _ GB.out];rfl
  by_cases hlt:k<n0
  ·have hkL:k<P0.length:=by have:=HL0.out;omega
   have hN:=HH0.out.below BW.out
   have hN':=HH0'.out.below BW.out
   clear HH0 HH0' HH1 HH1' HH2 HH2' GA GB
   rcases hN with hnil|⟨b,off,rfl,_,hb,hc⟩
   ·exfalso;rw [hnil] at hkL;exact absurd hkL (by simp)
   rcases hN' with hnil|⟨b',off',rfl,_,hb',hc'⟩
   ·exfalso;rw [hnil] at hkL;exact absurd hkL (by simp)
   obtain ⟨x5,y5,d0,d1,d2,d3,d4,d5,hh⟩:=hc k hkL
   obtain ⟨x5',y5',e0,e1,e2,e3,e4,e5,hh'⟩:=hc' k hkL
   clear hc hc'
   have ce:=fun W (h:Secr.Has 0 W P0[k] x5) (h':Secr.Has 0 W P0[k] x5')=>sameSection_any P0[k] x5 y5 x5' y5' W h h' (S0.out.2 k hkL)
   have HH:Hid (∀ W,Below wr.heap.size wr W->Secr.Has 0 W P0[k] x5/\Secr.Has 0 W P0[k] x5'):=fun W h=>⟨hh.below h,hh'.below h⟩
   clear hh hh'
   generalize P0[k]=x at *
   have HC:Hid (∀ W,Below wr.heap.size wr W->Calls prog 53 #[.agg #[.string x.f0,.int .i64 x.f1,.int .i64 x.f2,.int .i64 x.f3,.string x.f4,.slice x5 x.f5.length y5],.agg #[.string x.f0,.int .i64 x.f1,.int .i64 x.f2,.int .i64 x.f3,.string x.f4,.slice x5' x.f5.length y5']] W fun e w'=>e=.returned (.bool true)/\Below W.heap.size W w'):=fun W h=>ce W (HH.out W h).1 (HH.out W h).2
   clear ce HH
   obtain ⟨m5,hm5⟩ : ∃ q,q=x.f5.length:=⟨_,rfl⟩
   rw [<- hm5] at d5 e5
   simp only [<- hm5] at HC
   clear hm5
   obtain ⟨p0,hp0⟩ : ∃ q,q=x.f0:=⟨_,rfl⟩
   rw [<- hp0] at d0 e0
   simp only [<- hp0] at HC
   clear hp0
   obtain ⟨p1,hp1⟩ : ∃ q,q=x.f1:=⟨_,rfl⟩
   rw [<- hp1] at d1 e1
   simp only [<- hp1] at HC
   clear hp1
   obtain ⟨p2,hp2⟩ : ∃ q,q=x.f2:=⟨_,rfl⟩
   rw [<- hp2] at d2 e2
   simp only [<- hp2] at HC
   clear hp2
   obtain ⟨p3,hp3⟩ : ∃ q,q=x.f3:=⟨_,rfl⟩
   rw [<- hp3] at d3 e3
   simp only [<- hp3] at HC
   clear hp3
   obtain ⟨p4,hp4⟩ : ∃ q,q=x.f4:=⟨_,rfl⟩
   rw [<- hp4] at d4 e4
   simp only [<- hp4] at HC
   clear hp4
   have k0:(0:Int)<=(k:Int):=by omega
   have k1:(k:Int)<(n0:Int):=by omega
   go_wp2_with fail
   go_region_with (go_at_call 53;refine (HC.out _ (zRf.drew)).mono ?_;rintro e w1 ⟨rfl,hb1⟩)
   all_goals go_wp2
   all_goals
    go_roundw
    case rel=>exact ⟨k+1,by omega,by go_num,hbel.out.trans ((Mirror.below_of_drew hb1).mono hbel.out.size)⟩
    case measure=>simp [intOf];omega
  ·go_wp2_with fail
   have HB:Hid (Below W0.heap.size W0 wr):=hbel.out
   clear hbel BW ga0 ga1 ga2 gb0 gb1 gb2 GA GB hk hlt
   go_loopw [6] (fun i wr=>∃ k:Nat,k<=n1/\i=.int .i64 k/\Hid (Below W0.heap.size W0 wr)) (fun i _=>n1-(intOf i).toNat)
   case atStart=>exact ⟨0,Nat.zero_le _,rfl,HB.out⟩
   case round =>
    clear HB
    obtain ⟨k,hk,rfl,hbel⟩:=hrel
    have BW:Hid (Below w.heap.size w wr):=B0.out.trans (hbel.out.mono B0.out.size)
    have GA:=(show Hid _ from (GK.out _ hbel.out).1)
    have GB:=(show Hid _ from (GK.out _ hbel.out).2)
    have ga0:wr.cell? ⟨w.heap.size,0,none⟩=some (.slice a0 n0 c0):=by rw [cell_of_row _ _ _ _ _ _ GA.out];rfl
    have gb0:wr.cell? ⟨w.heap.size+1,0,none⟩=some (.slice a0' n0 c0'):=by rw [cell_of_row _ _ _ _ _ _ GB.out];rfl
    have ga1:wr.cell? ⟨w.heap.size,1,none⟩=some (.slice a1 n1 c1):=by rw [cell_of_row _ _ _ _ _ _ GA.out];rfl
    have gb1:wr.cell? ⟨w.heap.size+1,1,none⟩=some (.slice a1' n1 c1'):=by rw [cell_of_row _ _ _ _ _ _ GB.out];rfl
    have ga2:wr.cell? ⟨w.heap.size,2,none⟩=some (.slice a2 n2 c2):=by rw [cell_of_row _ _ _ _ _ _ GA.out];rfl
    have gb2:wr.cell? ⟨w.heap.size+1,2,none⟩=some (.slice a2' n2 c2'):=by rw [cell_of_row _ _ _ _ _ _ GB.out];rfl
    by_cases hlt:k<n1
    ·have hkL:k<P1.length:=by have:=HL1.out;omega
     have hN:=HH1.out.below BW.out
     have hN':=HH1'.out.below BW.out
     clear HH0 HH0' HH1 HH1' HH2 HH2' GA GB
     rcases hN with hnil|⟨b,off,rfl,_,hb,hc⟩
     ·exfalso;rw [hnil] at hkL;exact absurd hkL (by simp)
     rcases hN' with hnil|⟨b',off',rfl,_,hb',hc'⟩
     ·exfalso;rw [hnil] at hkL;exact absurd hkL (by simp)
     obtain ⟨d0,d1,d2,d3,hh⟩:=hc k hkL
     obtain ⟨e0,e1,e2,e3,hh'⟩:=hc' k hkL
     clear hc hc' hh hh'
     generalize P1[k].f0=p0 at d0 e0
     generalize P1[k].f1=p1 at d1 e1
     generalize P1[k].f2=p2 at d2 e2
     generalize P1[k].f3=p3 at d3 e3
     have k0:(0:Int)<=(k:Int):=by omega
     have k1:(k:Int)<(n1:Int):=by omega
     go_wp2_with fail
     go_quiet (fail)
     go_wp2_with fail
     go_roundw
     case rel=>exact ⟨k+1,by omega,by go_num,drewN_below hbel.out _⟩
     case measure=>simp [intOf];omega
    ·go_wp2_with fail
     have HB:Hid (Below W0.heap.size W0 wr):=hbel.out
     clear hbel BW ga0 ga1 ga2 gb0 gb1 gb2 GA GB hk hlt
     go_loopw [7] (fun i wr=>∃ k:Nat,k<=n2/\i=.int .i64 k/\Hid (Below W0.heap.size W0 wr)) (fun i _=>n2-(intOf i).toNat)
     case atStart=>exact ⟨0,Nat.zero_le _,rfl,HB.out⟩
     case round =>
      clear HB
      obtain ⟨k,hk,rfl,hbel⟩:=hrel
      have BW:Hid (Below w.heap.size w wr):=B0.out.trans (hbel.out.mono B0.out.size)
      have GA:=(show Hid _ from (GK.out _ hbel.out).1)
      have GB:=(show Hid _ from (GK.out _ hbel.out).2)
      have ga0:wr.cell? ⟨w.heap.size,0,none⟩=some (.slice a0 n0 c0):=by rw [cell_of_row _ _ _ _ _ _ GA.out];rfl
      have gb0:wr.cell? ⟨w.heap.size+1,0,none⟩=some (.slice a0' n0 c0'):=by rw [cell_of_row _ _ _ _ _ _ GB.out];rfl
      have ga1:wr.cell? ⟨w.heap.size,1,none⟩=some (.slice a1 n1 c1):=by rw [cell_of_row _ _ _ _ _ _ GA.out];rfl
      have gb1:wr.cell? ⟨w.heap.size+1,1,none⟩=some (.slice a1' n1 c1'):=by rw [cell_of_row _ _ _ _ _ _ GB.out];rfl
      have ga2:wr.cell? ⟨w.heap.size,2,none⟩=some (.slice a2 n2 c2):=by rw [cell_of_row _ _ _ _ _ _ GA.out];rfl
      have gb2:wr.cell? ⟨w.heap.size+1,2,none⟩=some (.slice a2' n2 c2'):=by rw [cell_of_row _ _ _ _ _ _ GB.out];rfl
      by_cases hlt:k<n2
      ·have hkL:k<P2.length:=by have:=HL2.out;omega
       have hN:=HH2.out.below BW.out
       have hN':=HH2'.out.below BW.out
       clear HH0 HH0' HH1 HH1' HH2 HH2' GA GB
       rcases hN with hnil|⟨b,off,rfl,_,hb,hc⟩
       ·exfalso;rw [hnil] at hkL;exact absurd hkL (by simp)
       rcases hN' with hnil|⟨b',off',rfl,_,hb',hc'⟩
       ·exfalso;rw [hnil] at hkL;exact absurd hkL (by simp)
       obtain ⟨x0,y0,d0,hh⟩:=hc k hkL
       obtain ⟨x0',y0',e0,hh'⟩:=hc' k hkL
       clear hc hc'
       have ce:=fun W (h:Stepx.Nodes W x0 P2[k].f0) (h':Stepx.Nodes W x0' P2[k].f0)=>DrawE.sameExpr_any x0 x0' y0 y0' P2[k].f0 W h h' (S2.out.2 k hkL)
       have HH:Hid (∀ W,Below wr.heap.size wr W->Stepx.Nodes W x0 P2[k].f0/\Stepx.Nodes W x0' P2[k].f0):=fun W h=>⟨(hh.below h).1.1,(hh'.below h).1.1⟩
       clear hh hh'
       generalize P2[k]=x at *
       have HC:Hid (∀ W,Below wr.heap.size wr W->Calls prog 54 #[.slice x0 x.f0.length y0,.slice x0' x.f0.length y0'] W fun e w'=>e=.returned (.bool true)/\Below W.heap.size W w'):=fun W h=>ce W (HH.out W h).1 (HH.out W h).2
       clear ce HH
       obtain ⟨m0,hm0⟩ : ∃ q,q=x.f0.length:=⟨_,rfl⟩
       rw [<- hm0] at d0 e0
       simp only [<- hm0] at HC
       clear hm0
       have k0:(0:Int)<=(k:Int):=by omega
       have k1:(k:Int)<(n2:Int):=by omega
       go_wp2_with fail
       go_region_with (go_at_call 54;refine (HC.out _ (zRf.drew)).mono ?_;rintro e w1 ⟨rfl,hb1⟩)
       all_goals go_wp2
       all_goals
        go_roundw
        case rel=>exact ⟨k+1,by omega,by go_num,hbel.out.trans ((Mirror.below_of_drew hb1).mono hbel.out.size)⟩
        case measure=>simp [intOf];omega
      ·clear HH0 HH0' HH1 HH1' HH2 HH2' GA GB
       go_wp2
       go_ret
       exact ⟨rfl,BW.out⟩
end Same9
end Go.Proofs.YtickfkphhngagaaGreatDoor
