import Derived.Test.YtepafieckjnkdaaGreatDoorP16
set_option linter.all false
set_option maxRecDepth 20000
set_option maxHeartbeats 8000000
open Go.ChangeShapes Go.WideShapes Go.ChangeAt Go.RowKit
open Go.Proofs.Tryz
namespace Go.Proofs.YtepafieckjnkdaaGreatDoor
namespace Otxq
open Go.Deep
open Signed (inB)
open Names (nameB)
open Stepx (exprB)
open Otxa Otxb Otxt Otxp Seco Secp Obje
theorem name_le {s:ByteArray} (h:nameB s=true):s.size<=16:=(of_decide_eq_true h).2.1
theorem in_of {n a b:Int} (h:inB n a b=true):a<=n/\n<=b:=of_decide_eq_true h
theorem expr_le {L:List Stepx.Node} (h:exprB L=true):L.length<=30:=by
 unfold exprB at h
 rw [Bool.and_eq_true] at h
 exact of_decide_eq_true h.1
theorem sec_b {s:Secr.X} (h:secB s=true):SecB s:=by
 unfold secB at h
 simp only [Bool.and_eq_true] at h
 obtain ⟨⟨⟨⟨⟨h1,h2⟩,h3⟩,h4⟩,h5⟩,h6⟩:=h
 unfold roomB at h3
 unfold bankB at h4
 unfold patchesB at h6
 simp only [Bool.and_eq_true] at h3 h6
 have k:=in_of h2
 have d:=of_decide_eq_true h3.1
 have hb:0<=base s.f1/\base s.f1<=49152:=by unfold base;repeat' split <;> omega
 have a:-1<=s.f3/\s.f3<=50000:=by
  have:=h3.2
  rw [Bool.or_eq_true] at this
  rcases this with h|h
  ·have:=eq_of_beq h;omega
  ·have:=in_of h;omega
 have bk:-1<=s.f2/\s.f2<=15:=by
  rw [Bool.or_eq_true] at h4
  rcases h4 with h|h
  ·have:=eq_of_beq h;omega
  ·rw [Bool.and_eq_true] at h
   have:=in_of h.2;omega
 have pn:=of_decide_eq_true h6.1.1
 refine ⟨name_le h1,by omega,by omega,by omega,by omega,by omega,by omega,d,pn,fun i hi=>?_⟩
 have hp:=List.all_eq_true.1 h6.2 s.f5[i] (List.getElem_mem hi)
 unfold patchB at hp
 simp only [Bool.and_eq_true] at hp
 have p1:=in_of hp.1.1
 have p0:=in_of hp.1.2
 have ps:1<=psize s.f5[i].f1:=by unfold psize;split <;> omega
 exact ⟨by omega,by omega,by omega,by omega,expr_le hp.2⟩
structure SymB (y:Osyr.X):Prop where
 nm:y.f0.size<=16
 s0:-4000000000<=y.f1
 s1:y.f1<=4000000000
 a0:-4000000000<=y.f2
 a1:y.f2<=4000000000
theorem sym_b {S:List Secr.X} {y:Osyr.X} (hS:S.length<=12) (hs:∀ i (h:i<S.length),secB S[i]=true) (h:symB S y=true):SymB y:=by
 unfold symB at h
 rw [Bool.and_eq_true] at h
 have n:=name_le h.1
 have h2:=h.2
 unfold placeB at h2
 split at h2
 ·have:=in_of h2
  exact ⟨n,by omega,by omega,by omega,by omega⟩
 ·rw [Bool.and_eq_true] at h2
  have a:=of_decide_eq_true h2.1
  have b:=in_of h2.2
  have d:dataLen S y.f1.toNat<=256:=by
   unfold dataLen
   split
   ·rename_i s hs'
    obtain ⟨hi,rfl⟩:=List.getElem?_eq_some_iff.1 hs'
    exact (sec_b (hs _ hi)).dt
   ·omega
  exact ⟨n,by omega,by omega,by omega,by omega⟩
theorem symT_le {y:Osyr.X} (h:SymB y):(symT y).length<=100:=sym_len h.nm h.s0 h.s1 h.a0 h.a1
theorem take_flat {α:Type} (f:α->List UInt8) (n m:Nat) (L:List α) (hL:L.length<=m) (h:∀ i (hi:i<L.length),(f L[i]).length<=n) (k:Nat):((L.take k).flatMap f).length<=n*m:=by
 have:=flat_le f n (L.take k) (fun x hx=>by
  obtain ⟨i,hi,rfl⟩:=List.getElem_of_mem (List.mem_of_mem_take hx)
  exact h i hi)
 have h2:(L.take k).length<=m:=by rw [List.length_take];omega
 exact Nat.le_trans this (Nat.mul_le_mul_left _ h2)
noncomputable def objV (o:Objr.X):ByteArray:=if objB o=true then ⟨(objT o).toArray⟩ else ⟨#[]⟩
theorem objV_no {o:Objr.X} (h:objB o=false):objV o=⟨#[]⟩:=if_neg (by rw [h];decide)
theorem objV_yes {o:Objr.X} (h:objB o=true):objV o=⟨(objT o).toArray⟩:=if_pos h
theorem right_of {o:Objr.X} (h:objB o=true):Right o:=by
 by_cases hr:Right o
 ·exact hr
 ·rw [obj_no hr] at h;exact absurd h (by decide)
end Otxq
namespace Otxc
open Go.Deep
open Optx (decW Pow OpTab)
open Extx (exprT)
open Lib (byteCells strCells)
open Bld (Holds)
open Otxa Otxb Otxt Otxp Seco
open Sta0 (Rg rg)
structure Tabs (w:World):Prop where
 op:OpTab w
 pow:Pow w
 hex:Nums.Tab w
theorem Tabs.below {w w':World} (h:Tabs w) (hb:Below w.heap.size w w'):Tabs w':=⟨h.op.below hb,h.pow.below hb,fun i hi=>(hb.cell (p:=⟨_,_,none⟩) (Hex.size_pos h.hex)).trans (h.hex i hi)⟩
theorem row_lit {w:World} {vs:Array Value} {T:TypeId} {ws:List ByteArray} (h:vs.toList=ws.map Value.string):∀ (j:Nat) x,ws[j]? = some x->(w.alloc (.cells vs T)).cell? ⟨w.heap.size,j,none⟩=some (.string x):=fun j x hj=>by
 rw [World.cell?_alloc_new,<- Array.getElem?_toList,h,List.getElem?_map,hj];rfl
theorem flat_snoc {α:Type} (f:α->List UInt8) (l:List UInt8) (L:List α) (k:Nat) (h:k<L.length):(l ++ (L.take k).flatMap f) ++ f L[k]=l ++ (L.take (k+1)).flatMap f:=by
 rw [List.take_succ_eq_append_getElem h,List.flatMap_append]
 simp
theorem flat_all {α:Type} (f:α->List UInt8) (l:List UInt8) (L:List α):l ++ (L.take L.length).flatMap f=l ++ L.flatMap f:=by rw [List.take_length]
theorem tellSec_any (w0:World) (B b:Nat) (l:List UInt8) (x:Secr.X) (a5:Option Addr) (c5 sb so:Nat) (w:World) (kB:AtC w0 sb so x a5 c5) (hh:Secr.Has 0 w0 x a5) (hsb:SecB x) (hT:Tabs w0) (hw:Below w0.heap.size w0 w) (hB0:w0.heap.size<=B) (h:Holds B b (byteCells l) w) (hBw:B<=w.heap.size) (hlen:l.length<=50000000) :
  Calls prog 22 #[.pointer (some ⟨b,0,none⟩),.pointer (some ⟨sb,so,none⟩)] w fun e w'=>e=.returned (.tuple #[])/\Holds B b (byteCells (l ++ secT x)) w'/\Below B w w':=by
 have HT:Hid (Tabs w0):=hT
 have HK:Hid (AtC w0 sb so x a5 c5):=kB
 have HR:Hid (Patr.Row 0 w0 a5 x.f5):=hh.1
 have HS:Hid (SecB x):=hsb
 have HW:Hid (Below w0.heap.size w0 w):=hw
 have HB0:Hid (w0.heap.size<=B):=hB0
 have HH:Hid (Holds B b (byteCells l) w):=h
 have HBw:Hid (B<=w.heap.size):=hBw
 clear hT kB hh hsb hw hB0 h hBw
 have kw:=HK.out.below HW.out
 have r0:=cell_regrown kw.c0
 have r1:=cell_regrown kw.c1
 have r2:=cell_regrown kw.c2
 have r3:=cell_regrown kw.c3
 have r4:=cell_regrown kw.c4
 have k1:Rg 24 #[.int .i64 x.f1] w (.string (decW x.f1)):=rg fun W hb=>decimal_any x.f1 W (HT.out.below (after HW.out hb)).pow (by have:=HS.out.k0;omega) (by have:=HS.out.k1;omega)
 have k2:Rg 24 #[.int .i64 x.f2] w (.string (decW x.f2)):=rg fun W hb=>decimal_any x.f2 W (HT.out.below (after HW.out hb)).pow (by have:=HS.out.b0;omega) (by have:=HS.out.b1;omega)
 have k3:Rg 24 #[.int .i64 x.f3] w (.string (decW x.f3)):=rg fun W hb=>decimal_any x.f3 W (HT.out.below (after HW.out hb)).pow (by have:=HS.out.a0;omega) (by have:=HS.out.a1;omega)
 have k4:Rg 58 #[.string x.f4] w (.string (hexA x.f4)):=rg fun W hb=>digits_any x.f4 W (HT.out.below (after HW.out hb)).hex (by have:=HS.out.dt;omega)
 have hhl:=head_len HS.out
 have HHD:Hid (headT x=line [wSection,x.f0,decW x.f1,decW x.f2,decW x.f3,hexA x.f4]):=(show _=_ from rfl)
 clear kw
 go_enter func22,ntmps22
 go_upto_region 0 with fail
 refine Qmov.tail_move 0 25 (by kernel_rfl) (by kernel_rfl) (fun _ _ _ _ _ h=>h) ?_
 simp only [List.take_succ_cons,List.take_zero,List.drop_succ_cons,List.drop_zero]
 generalize decW x.f1=D1 at k1 HHD
 generalize decW x.f2=D2 at k2 HHD
 generalize decW x.f3=D3 at k3 HHD
 generalize hexA x.f4=D4 at k4 HHD
 repeat (go_big_quiet_step (first|fail|with_reducible exact k1 _ _|with_reducible exact k2 _ _|with_reducible exact k3 _ _|with_reducible exact k4 _ _))
 refine wpQuiet_nil ?_
 intro _ hw'
 obtain ⟨⟨dq,osq⟩,hw''⟩:=hw'
 subst hw''
 have hbr:=below_regrown w dq osq
 generalize Go.Sort.grow (redrawn w dq) osq=W1 at hbr |-
 have HH1:Hid (Holds B b (byteCells l) W1):=Bld.holds_below HH.out hbr
 have V1:Hid (Below B w W1):=hbr.mono HBw.out
 have HB1:Hid (B<=W1.heap.size):=Nat.le_trans HBw.out hbr.size
 clear hbr r0 r1 r2 r3 r4 k1 k2 k3 k4 HH
 go_wp2_with fail
 refine (tell_any B b W1.heap.size 6 l [wSection,x.f0,D1,D2,D3,D4] _ (Bld.holds_below HH1.out (zAl _ _)) (by have:=HB1.out;simp;omega) (row_lit rfl) (by simp) (Nat.le_refl _) (by simp) (by rw [<- HHD.out];omega)).mono ?_
 rintro e w2 ⟨rfl,h2,b2⟩
 rw [<- HHD.out] at h2
 have HH2:Hid (Holds B b (byteCells ((l ++ headT x) ++ (x.f5.take 0).flatMap patT)) w2):=(show Holds _ _ _ _ from by rw [List.take_zero,List.flatMap_nil,List.append_nil];exact h2)
 have hb2:Below B W1 w2:=((zAl _ _).mono HB1.out).trans b2
 have V2:Hid (Below B w w2):=V1.out.trans hb2
 have HB2:Hid (B<=w2.heap.size):=Nat.le_trans HB1.out hb2.size
 have HW2:Hid (Below w0.heap.size w0 w2):=HW.out.trans (V2.out.mono HB0.out)
 have HBW:Hid (w0.heap.size<=w.heap.size):=Nat.le_trans HB0.out HBw.out
 have cp5:=(HK.out.below HW2.out).c5
 have HPN:Hid (x.f5.length<=256):=HS.out.pn
 have hpl:=pats_len HS.out
 have HSE:Hid ((l ++ headT x) ++ (x.f5.take x.f5.length).flatMap patT=l ++ secT x):=(show _=_ from by rw [List.take_length];unfold secT;rw [List.append_assoc])
 obtain ⟨l2,hl2⟩ : ∃ z,z=l ++ headT x:=⟨_,rfl⟩
 rw [<- hl2] at HH2 HSE
 have hl2n:l2.length<=50000700:=by rw [hl2,List.length_append];omega
 clear h2 b2 hb2 V1 HB1 HH1 HHD hhl hl2 HBw
 obtain ⟨N,hN⟩ : ∃ n,n=x.f5.length:=⟨_,rfl⟩
 rw [<- hN] at cp5
 have hN256:N<=256:=by rw [hN];exact HPN.out
 have HN:Hid (N=x.f5.length):=hN
 clear hN
 go_wp2_with fail
 go_loopw [38] (fun i wr=>∃ k:Nat,k<=N/\i=.int .i64 (k:Int)/\Hid (Holds B b (byteCells (l2 ++ (x.f5.take k).flatMap patT)) wr)/\Hid (Below B w wr)/\Hid (Below w0.heap.size w0 wr)/\Hid (B<=wr.heap.size)) (fun i _=>N-(intOf i).toNat)
 case atStart=>exact ⟨0,Nat.zero_le _,rfl,HH2.out,V2.out,HW2.out,HB2.out⟩
 case round =>
  obtain ⟨k,hk,rfl,HHk,Vk,HWk,HBk⟩:=hrel
  clear HH2 V2 HW2 HB2
  by_cases hlt:k<N
  ·have hkx:k<x.f5.length:=by rw [<- HN.out];exact hlt
   rcases HR.out with hnil|⟨pb,po,rfl,_,hpb,hat⟩
   ·exfalso;rw [hnil] at hkx;exact absurd hkx (by simp)
   obtain ⟨a2,c2,d0,d1,d2,hrow,hml⟩:=hat k hkx
   obtain ⟨f0l,f0h,f1l,f1h,f2n⟩:=HS.out.pb k hkx
   have HFS:Hid ((l2 ++ (x.f5.take k).flatMap patT) ++ patT x.f5[k]=l2 ++ (x.f5.take (k+1)).flatMap patT):=flat_snoc patT l2 x.f5 k hkx
   have HPT:Hid (patT x.f5[k]=line [wPatch,decW x.f5[k].f0,decW x.f5[k].f1,exprT x.f5[k].f2]):=(show _=_ from rfl)
   have hptl:=pat_len f0l f0h f1l f1h
   have hpk:=hpl k
   have e0:=(HWk.out.cell (p:=⟨pb,_,none⟩) hpb).trans d0
   have e1:=(HWk.out.cell (p:=⟨pb,_,none⟩) hpb).trans d1
   have e2:=(HWk.out.cell (p:=⟨pb,_,none⟩) hpb).trans d2
   clear hat d0 d1 d2
   generalize x.f5[k]=P at *
   obtain ⟨u,hu⟩ : ∃ u,u=wr.alloc (.cells #[.int .i64 P.f0,.int .i64 P.f1,.slice a2 P.f2.length c2] 72):=⟨_,rfl⟩
   obtain ⟨bp,hbp⟩ : ∃ n,n=wr.heap.size:=⟨_,rfl⟩
   have q0:u.cell? ⟨bp,0,none⟩=some (.int .i64 P.f0):=by rw [hu,hbp];exact World.cell?_alloc_new _ _ _ _
   have q1:u.cell? ⟨bp,1,none⟩=some (.int .i64 P.f1):=by rw [hu,hbp];exact World.cell?_alloc_new _ _ _ _
   have q2:u.cell? ⟨bp,2,none⟩=some (.slice a2 P.f2.length c2):=by rw [hu,hbp];exact World.cell?_alloc_new _ _ _ _
   have hub:Below wr.heap.size wr u:=by rw [hu];exact zAl _ _
   have HWu:Hid (Below w0.heap.size w0 u):=after HWk.out hub
   have k1:Rg 24 #[.int .i64 P.f0] u (.string (decW P.f0)):=rg fun W hb=>decimal_any P.f0 W (HT.out.below (after HWu.out hb)).pow (by omega) (by omega)
   have k2:Rg 24 #[.int .i64 P.f1] u (.string (decW P.f1)):=rg fun W hb=>decimal_any P.f1 W (HT.out.below (after HWu.out hb)).pow (by omega) (by omega)
   have k3:Rg 26 #[.slice a2 P.f2.length c2] u (.string (exprT P.f2)):=rg fun W hb=>Extx.implText_any a2 c2 P.f2 W (hrow.below (after HWu.out hb)).1 (by omega) (HT.out.below (after HWu.out hb)).op (HT.out.below (after HWu.out hb)).pow
   have r0:=cell_regrown q0
   have r1:=cell_regrown q1
   have r2:=cell_regrown q2
   have HHu:Hid (Holds B b (byteCells (l2 ++ (x.f5.take k).flatMap patT)) u):=Bld.holds_below HHk.out hub
   have Vu:Hid (Below B w u):=Vk.out.trans (hub.mono HBk.out)
   have HBu:Hid (B<=u.heap.size):=Nat.le_trans HBk.out hub.size
   have dl:decide ((k:Int)<(N:Int))=true:=decide_eq_true (by omega)
   have dk:IntKind.i64.wrap ((k:Int)+1)=((k+1:Nat):Int):=by rw [IntKind.wrap_i64];omega
   have z0:(0:Int)<=(k:Int):=by omega
   have z1:(k:Int)<(N:Int):=by omega
   clear hub hrow
   go_upto_region 4 with fail
   rw [<- hu,<- hbp]
   clear hu hbp e0 e1 e2 q0 q1 q2 HHk Vk HWk HBk
   refine Qmov.tail_move 0 10 (by kernel_rfl) (by kernel_rfl) (fun _ _ _ _ _ h=>h) ?_
   simp only [List.take_succ_cons,List.take_zero,List.drop_succ_cons,List.drop_zero]
   generalize decW P.f0=D1 at k1 HPT
   generalize decW P.f1=D2 at k2 HPT
   generalize exprT P.f2=D3 at k3 HPT
   repeat (go_big_quiet_step (first|fail|with_reducible exact k1 _ _|with_reducible exact k2 _ _|with_reducible exact k3 _ _))
   refine wpQuiet_nil ?_
   intro _ hw'
   obtain ⟨⟨dq,osq⟩,hw''⟩:=hw'
   subst hw''
   have hbr:=below_regrown u dq osq
   generalize Go.Sort.grow (redrawn u dq) osq=W3 at hbr |-
   have HH3:Hid (Holds B b (byteCells (l2 ++ (x.f5.take k).flatMap patT)) W3):=Bld.holds_below HHu.out hbr
   have V3:Hid (Below B w W3):=Vu.out.trans (hbr.mono HBu.out)
   have HB3:Hid (B<=W3.heap.size):=Nat.le_trans HBu.out hbr.size
   clear hbr r0 r1 r2 k1 k2 k3 HHu Vu HBu HWu
   go_wp2_with fail
   refine (tell_any B b W3.heap.size 4 _ [wPatch,D1,D2,D3] _ (Bld.holds_below HH3.out (zAl _ _)) (by have:=HB3.out;simp;omega) (row_lit rfl) (by simp) (Nat.le_refl _) (by simp) (by rw [<- HPT.out,List.length_append];omega)).mono ?_
   rintro e w4 ⟨rfl,h4,b4⟩
   rw [<- HPT.out,HFS.out] at h4
   have HH4:Hid (Holds B b (byteCells (l2 ++ (x.f5.take (k+1)).flatMap patT)) w4):=h4
   have hb4:Below B W3 w4:=((zAl _ _).mono HB3.out).trans b4
   have V4:Hid (Below B w w4):=V3.out.trans hb4
   have HB4:Hid (B<=w4.heap.size):=Nat.le_trans HB3.out hb4.size
   have HW4:Hid (Below w0.heap.size w0 w4):=HW.out.trans (V4.out.mono HB0.out)
   clear h4 b4 hb4 V3 HB3 HH3
   go_wp2
   go_roundw
   case rel=>exact ⟨k+1,by omega,by go_num,HH4.out,V4.out,HW4.out,HB4.out⟩
   case measure=>simp [intOf];omega
  ·have e:k=N:=by omega
   subst e
   have dl:decide ((k:Int)<(k:Int))=false:=decide_eq_false (by omega)
   have HF:Hid (Holds B b (byteCells (l ++ secT x)) wr):=(show Holds _ _ _ _ from by rw [<- HSE.out,<- HN.out];exact HHk.out)
   clear HHk
   go_wp2
   first|go_end0|refine bodyPost_ret (results_none rfl _ _ _) rfl ?_
   exact ⟨rfl,HF.out,Vk.out⟩
end Otxc
namespace Rbyu
open Go.Deep
open Lib (byteCells)
open Otxa Otxb Rbyt
theorem implBytes_any (s:ByteArray) (w:World) (hT:Nums.Tab w) (hs:s.size<=1048576):Calls prog 104 #[.string s] w (Told9 s w):=by
 obtain ⟨i0,hi,hz0,hz1,hz2⟩:=info_parts Obuf.info5
 have HT:Hid (Nums.Tab w):=hT
 have HG:Hid (0<w.heap.size):=Hex.size_pos hT
 clear hT
 by_cases hev:s.size%2=0
 ·have d3:(s.size:Int).tmod 2=0:=by rw [Int.tmod_eq_emod_of_nonneg (by omega)];omega
  have HE:Hid (s.size%2=0):=hev
  clear hev
  go_enter func104,ntmps104
  go_wp2
  go_loopw [4,5] (fun v i wr=>∃ (k:Nat) (D:List UInt8),i=.int .i64 (k:Int)/\Hid (St s k D)/\Hid (wr.ownsRow w.heap.size 5 1 v D.length (byteCells D))/\Hid (Below w.heap.size w wr)) (fun _ i _=>s.size-(intOf i).toNat)
  case atStart=>exact ⟨0,[],rfl,St.start s,World.ownsRow_nil _ _ _ _,Below.refl _ _⟩
  case round =>
   obtain ⟨k,D,rfl,hst,hown,hbel⟩:=hrel
   clear d3
   have hks:=hst.out.2.1
   have hDl:D.length<=1048576:=by have:=hst.out.1;omega
   have p1:IntKind.i64.wrap ((k:Int)+1)=(k:Int)+1:=by rw [IntKind.wrap_i64];omega
   by_cases hlt0:k<s.size
   ·have hlt:k+1<s.size:=by have:=hst.out.1;have:=HE.out;omega
    obtain ⟨ca,hca⟩ : ∃ c:Int,c=(s[k].toNat:Int):=⟨_,rfl⟩
    obtain ⟨cb,hcb⟩ : ∃ c:Int,c=(s[k+1].toNat:Int):=⟨_,rfl⟩
    have ix0:∀ w,(Instr.index 9 (.string s) (.int .i64 (k:Int))).run prog w=.ok (.int .u8 ca) w:=fun w=>by
     rw [run_index_string (P:=prog) w 9 s .i64 (k:Int) underlying9,dif_pos ⟨by omega,by omega⟩,hca];rfl
    have ix1:∀ w,(Instr.index 9 (.string s) (.int .i64 ((k:Int)+1))).run prog w=.ok (.int .u8 cb) w:=fun w=>by
     rw [run_index_string (P:=prog) w 9 s .i64 ((k:Int)+1) underlying9,dif_pos ⟨by omega,by omega⟩,hcb];rfl
    have xb:=Nums.digS_bd ca
    have yb:=Nums.digS_bd cb
    have HX:Hid (dS s[k]=Nums.digS ca):=(show dS _=_ from by unfold dS;rw [<- hca])
    have HY:Hid (dS s[k+1]=Nums.digS cb):=(show dS _=_ from by unfold dS;rw [<- hcb])
    obtain ⟨x,hx⟩ : ∃ x,x=Nums.digI ca:=⟨_,rfl⟩
    obtain ⟨y,hy⟩ : ∃ x,x=Nums.digI cb:=⟨_,rfl⟩
    have hT1:∀ d os,Nums.Tab (Go.Sort.grow (redrawn wr d) os):=fun d os i hi=>((hbel.out.trans ((below_regrown wr d os).mono hbel.out.size)).cell (p:=⟨0,i,none⟩) HG.out).trans (HT.out i hi)
    have k0:=fun d os=>Calls.regrown_of (d:=d) (os:=os) ((Nums.digitOf_any ca (Go.Sort.grow (redrawn wr d) os) (hT1 d os)).mono (fun e w' h=>⟨h.1,by rw [h.2];exact zRf⟩))
    have k1:=fun d os=>Calls.regrown_of (d:=d) (os:=os) ((Nums.digitOf_any cb (Go.Sort.grow (redrawn wr d) os) (hT1 d os)).mono (fun e w' h=>⟨h.1,by rw [h.2];exact zRf⟩))
    rw [<- hx] at k0
    rw [<- hy] at k1
    unfold Nums.digI at hx hy
    have XV:Hid (x=if Nums.digS ca=99 then -1 else Nums.digS ca):=hx
    have YV:Hid (y=if Nums.digS cb=99 then -1 else Nums.digS cb):=hy
    have e0:decide ((k:Int)<(s.size:Int))=true:=decide_eq_true (by omega)
    have e0n:decide (k<s.size)=true:=decide_eq_true hlt0
    clear hca hcb hx hy hT1
    go_upto_region 7 with fail
    refine wp_region_quiet_below (by kernel_rfl) (by kernel_rfl) ?_
    repeat (go_big_quiet_step (first|fail|with_reducible exact k0 _ _|with_reducible exact k1 _ _))
    refine wpQuiet_nil ?_
    intro _ hw'
    obtain ⟨⟨dq,osq⟩,hw''⟩:=hw'
    subst hw''
    have own1:Hid ((Go.Sort.grow (redrawn wr dq) osq).ownsRow w.heap.size 5 1 u4 D.length (byteCells D)):=own_below hown.out (below_regrown wr dq osq)
    have bel1:Hid (Below w.heap.size w (Go.Sort.grow (redrawn wr dq) osq)):=hbel.out.trans ((below_regrown wr dq osq).mono hbel.out.size)
    generalize Go.Sort.grow (redrawn wr dq) osq=W1 at own1 bel1 |-
    clear hown hbel k0 k1 ix0 ix1 e0 e0n
    by_cases q1:x<0
    ·have d1:decide (x<0)=true:=decide_eq_true q1
     have HN:Hid (byO s.data.toList=none):=hst.out.bad hlt (.inl (by
      rw [HX.out];have:=XV.out;split at this
      ·assumption
      ·omega))
     clear xb yb
     go_wp2
     go_ret2
     exact Told9.no HN.out bel1.out
    ·have d1:decide (x<0)=false:=decide_eq_false q1
     by_cases q2:y<0
     ·have d2:decide (y<0)=true:=decide_eq_true q2
      have HN:Hid (byO s.data.toList=none):=hst.out.bad hlt (.inr (by
       rw [HY.out];have:=YV.out;split at this
       ·assumption
       ·omega))
      clear xb yb
      go_wp2
      go_ret2
      exact Told9.no HN.out bel1.out
     ·have d2:decide (y<0)=false:=decide_eq_false q2
      have x1:x=Nums.digS ca/\¬ Nums.digS ca=99:=by
       have:=XV.out
       by_cases h:Nums.digS ca=99
       ·rw [if_pos h] at this;omega
       ·rw [if_neg h] at this;exact ⟨this,h⟩
      have y1:y=Nums.digS cb/\¬ Nums.digS cb=99:=by
       have:=YV.out
       by_cases h:Nums.digS cb=99
       ·rw [if_pos h] at this;omega
       ·rw [if_neg h] at this;exact ⟨this,h⟩
      have xr:0<=x/\x<=15:=by omega
      have yr:0<=y/\y<=15:=by omega
      have HS2:Hid (St s (k+2) (D ++ [UInt8.ofNat (x*16+y).toNat])):=(show St _ _ _ from by
       have:=hst.out.on hlt (by rw [HX.out,HY.out];omega)
       rw [HX.out,HY.out,<- x1.1,<- y1.1,Int.mul_comm] at this;exact this)
      have p3:IntKind.i64.wrap (x*16)=x*16:=by rw [IntKind.wrap_i64];omega
      have p4:IntKind.i64.wrap (x*16+y)=x*16+y:=by rw [IntKind.wrap_i64];omega
      have p5:IntKind.u8.wrap (x*16+y)=x*16+y:=by rw [IntKind.wrap_u8];omega
      have p6:IntKind.i64.wrap ((k:Int)+2)=(k:Int)+2:=by rw [IntKind.wrap_i64];omega
      have vb:0<=x*16+y/\x*16+y<=255:=by omega
      have own2:Hid (∀ o,(W1.alloc o).ownsRow w.heap.size 5 1 u4 D.length (byteCells D)):=fun o=>own1.out.alloc o
      have hlt2:=own1.out.lt
      clear x1 y1 xb yb hst XV YV HX HY
      go_wp2_with (first|(at_builtin;refine wpList_append_own _ rfl _ _ 22 rfl w.heap.size 5 i0 (.int .u8 0) 1 1 underlying22 hi hz0 hz1 hz2 rfl (by decide) _ D.length (byteCells D) rfl (own2.out _) ⟨W1.heap.size,0,none⟩ 1 1 [.int .u8 (x*16+y)] rfl rfl ?g2 ?g3 ?g4 ?g5 ?g6 ?_)|fail)
      try (case g2=>intro j u hu;rw [Addr.add_lit,Nat.zero_add,World.cell?_alloc_new];simpa using hu)
      case g3=>first|rfl|(intro u hu;simp at hu;subst hu;rfl)
      case g4=>unfold maxLen;omega
      case g5=>omega
      case g6=>have:=bel1.out.size;simp;omega
      intro v' w9 hown' hgrow _
      have own9:Hid (w9.ownsRow w.heap.size 5 1 v' (D ++ [UInt8.ofNat (x*16+y).toNat]).length (byteCells (D ++ [UInt8.ofNat (x*16+y).toNat]))):=(show World.ownsRow _ _ _ _ _ _ _ from by
       rw [byte_cell vb.1 vb.2,List.length_append];exact hown')
      have bel9:Hid (Below w.heap.size w w9):=(bel1.out.alloc bel1.out.size _).grown hgrow (by have:=bel1.out.size;simp;omega) (fun j hj=>(hlt2 j hj).1)
      clear hown' hgrow hlt2 own1 own2 bel1
      go_wp2
      go_roundw
      case rel=>exact ⟨k+2,D ++ [UInt8.ofNat (x*16+y).toNat],by go_num,HS2.out,own9.out,bel9.out⟩
      case measure=>simp [intOf];omega
   ·have e0:decide ((k:Int)<(s.size:Int))=false:=decide_eq_false (by omega)
    have e0n:decide (k<s.size)=false:=decide_eq_false hlt0
    have hcv:=Obuf.str_own (W:=wr) (l:=D) hown.out
    have HF:Hid (byO s.data.toList=some D):=hst.out.fin (by omega)
    clear hown
    go_wp2
    go_ret2
    exact Told9.yes HF.out hbel.out
 ·have d3:(s.size:Int).tmod 2=1:=by rw [Int.tmod_eq_emod_of_nonneg (by omega)];omega
  have HN:Hid (byO s.data.toList=none):=St.odd (by omega)
  clear hev
  go_enter func104,ntmps104
  go_wp2
  go_ret2
  exact Told9.no HN.out zRf
end Rbyu
end Go.Proofs.YtepafieckjnkdaaGreatDoor
