import Derived.Test.YtickfkphhngagaaGreatDoorP22
set_option linter.all false
set_option maxRecDepth 20000
set_option maxHeartbeats 8000000
open Go.ChangeShapes Go.WideShapes Go.ChangeAt Go.RowKit
open Go.Proofs.Tryz
namespace Go.Proofs.YtickfkphhngagaaGreatDoor
namespace Otxs
open Go.Deep
open Optx (decW Pow OpTab)
open Extx (exprT)
open Otxa Otxb Otxt Otxp Otxq Otxc Seco Obje
open Sta0 (Rg rg)
theorem l3One_any (b:Bool) (w:World) :
  Calls prog 88 #[.bool b] w fun e w'=>e=.returned (.int .i64 (outN b))/\w'=w:=by
 cases b
 all_goals
  go_enter func88,ntmps88
  go_wp2
  go_ret
  exact ⟨rfl,rfl⟩
def mk (l:List UInt8):ByteArray:=⟨l.toArray⟩
theorem mk_size (l:List UInt8):(mk l).size=l.length:=by show l.toArray.size=_;rw [List.size_toArray]
theorem mk_head (l:List UInt8) (n a b c d:ByteArray):mk l ++ ⟨#[115,101,99,116,105,111,110,32]⟩ ++ n ++ ⟨#[32]⟩ ++ a ++ ⟨#[32]⟩ ++ b ++ ⟨#[32]⟩ ++ c ++ ⟨#[32]⟩ ++ d ++ ⟨#[10]⟩=mk (l ++ line [wSection,n,a,b,c,d]):=by
 apply ByteArray.ext
 apply Array.ext'
 simp [mk,ByteArray.data_append,line,Lib.join,List.intercalate,List.intersperse,wSection]
theorem mk_pat (l:List UInt8) (a b c:ByteArray):mk l ++ ⟨#[112,97,116,99,104,32]⟩ ++ a ++ ⟨#[32]⟩ ++ b ++ ⟨#[32]⟩ ++ c ++ ⟨#[10]⟩=mk (l ++ line [wPatch,a,b,c]):=by
 apply ByteArray.ext
 apply Array.ext'
 simp [mk,ByteArray.data_append,line,Lib.join,List.intercalate,List.intersperse,wPatch]
theorem mk_sym (l:List UInt8) (n a b c:ByteArray):mk l ++ ⟨#[115,121,109,98,111,108,32]⟩ ++ n ++ ⟨#[32]⟩ ++ a ++ ⟨#[32]⟩ ++ b ++ ⟨#[32]⟩ ++ c ++ ⟨#[10]⟩=mk (l ++ line [wSymbol,n,a,b,c]):=by
 apply ByteArray.ext
 apply Array.ext'
 simp [mk,ByteArray.data_append,line,Lib.join,List.intercalate,List.intersperse,wSymbol]
theorem mk_ass (l:List UInt8) (a:ByteArray):mk l ++ ⟨#[97,115,115,101,114,116,32]⟩ ++ a ++ ⟨#[10]⟩=mk (l ++ line [wAssert,a]):=by
 apply ByteArray.ext
 apply Array.ext'
 simp [mk,ByteArray.data_append,line,Lib.join,List.intercalate,List.intersperse,wAssert]
theorem l9Text_any (x:Objr.X) (a0:Option Addr) (c0:Nat) (a1:Option Addr) (c1:Nat) (a2:Option Addr) (c2:Nat) (w:World) (hh:Objr.Has 0 w x a0 a1 a2) (hr:Right x) :
  Calls prog 44 #[.agg (ocells x a0 c0 a1 c1 a2 c2)] w fun e w'=>e=.returned (.string (mk (objT x)))/\Below w.heap.size w w':=by
 obtain ⟨u0,hu0⟩ : ∃ u,u=w.alloc (.cells (ocells x a0 c0 a1 c1 a2 c2) 26):=⟨_,rfl⟩
 have HB0:Hid (Below w.heap.size w u0):=(show Below _ _ _ from by rw [hu0];exact zAl _ _)
 have HBX:Hid (u0.heap[w.heap.size]? = some (.cells (ocells x a0 c0 a1 c1 a2 c2) 26)):=(show _=_ from by rw [hu0];exact (MapKept.heap_alloc w _).1)
 have HSZ:Hid (w.heap.size<u0.heap.size):=by show _<_;rw [hu0];simp
 have HHas:Hid (Objr.Has 0 w x a0 a1 a2):=hh
 have HR:Hid (Right x):=hr
 have HX:Hid (∀ W,Below u0.heap.size u0 W->Below w.heap.size w W/\W.heap[w.heap.size]? = some (.cells (ocells x a0 c0 a1 c1 a2 c2) 26)):=fun W hb=>⟨after HB0.out hb,(hb.block _ HSZ.out).trans HBX.out⟩
 have hn0:=hr.l0
 have hn1:=hr.l1
 have hn2:=hr.l2
 have HL0:Hid (∀ k,((x.f0.take k).flatMap secT).length<=180000*12):=take_flat secT 180000 12 x.f0 hn0 (fun i hi=>sec_len (sec_b (HR.out.sec i hi)))
 have HL1:Hid (∀ k,((x.f1.take k).flatMap symT).length<=100*200):=take_flat symT 100 200 x.f1 hn1 (fun i hi=>symT_le (sym_b hn0 HR.out.sec (HR.out.sym i hi).sym))
 have HL2:Hid (∀ k,((x.f2.take k).flatMap assT).length<=700*12):=take_flat assT 700 12 x.f2 hn2 (fun i hi=>ass_len)
 obtain ⟨n0,hm0⟩ : ∃ n,n=x.f0.length:=⟨_,rfl⟩
 obtain ⟨n1,hm1⟩ : ∃ n,n=x.f1.length:=⟨_,rfl⟩
 obtain ⟨n2,hm2⟩ : ∃ n,n=x.f2.length:=⟨_,rfl⟩
 have HM:Hid (n0=x.f0.length/\n1=x.f1.length/\n2=x.f2.length):=⟨hm0,hm1,hm2⟩
 rw [<- hm0] at hn0
 rw [<- hm1] at hn1
 rw [<- hm2] at hn2
 clear hm0 hm1 hm2 hh hr HB0 HBX HSZ
 go_enter func44,ntmps44
 go_upto_region 2 with fail
 rw [<- hu0]
 clear hu0
 go_wp2
 go_loopw [3,4] (fun s i wr=>∃ k:Nat,k<=n0/\s=.string (mk ([] ++ (x.f0.take k).flatMap secT))/\i=.int .i64 (k:Int)/\Hid (Below u0.heap.size u0 wr)) (fun _ i _=>n0-(intOf i).toNat)
 case atStart=>exact ⟨0,Nat.zero_le _,rfl,rfl,Below.refl _ _⟩
 case round =>
  obtain ⟨k,hk,rfl,rfl,HBk⟩:=hrel
  obtain ⟨hwr,hbx⟩:=HX.out wr HBk.out
  have l0:wr.cell? ⟨w.heap.size,0,none⟩=some (.slice a0 n0 c0):=by rw [HM.out.1];exact cel hbx 0 _ rfl
  by_cases hlt:k<n0
  ·have hkx:k<x.f0.length:=by rw [<- HM.out.1];exact hlt
   rcases HHas.out.1 with hnil|⟨sb,so,rfl,_,hsb,hat⟩
   ·exfalso;rw [hnil] at hkx;exact absurd hkx (by simp)
   obtain ⟨a5,c5,kA,kH⟩:=sec_at (hat k hkx) hsb
   have hSB:=sec_b (HR.out.sec k hkx)
   have hlk:=HL0.out k
   have HFS:Hid (([] ++ (x.f0.take k).flatMap secT) ++ secT x.f0[k]=[] ++ (x.f0.take (k+1)).flatMap secT):=flat_snoc secT [] x.f0 k hkx
   have kw:=kA.below hwr
   have HKH:Hid (Patr.Row 0 w a5 x.f0[k].f5):=kH.1
   have HSB:Hid (SecB x.f0[k]):=hSB
   have hlk1:([] ++ (x.f0.take k).flatMap secT).length<=2160000:=by rw [List.nil_append];omega
   clear hat kA kH hSB hlk
   generalize [] ++ (x.f0.take k).flatMap secT=pre at HFS hlk1
   generalize x.f0[k]=S at *
   obtain ⟨e0,e1,e2,e3,e4,e5,e6⟩:=kw
   obtain ⟨u,hu⟩ : ∃ u,u=wr.alloc (.cells (Seco.cells S a5 c5) 38):=⟨_,rfl⟩
   obtain ⟨bp,hbp⟩ : ∃ n,n=wr.heap.size:=⟨_,rfl⟩
   have hub:Below wr.heap.size wr u:=by rw [hu];exact zAl _ _
   have hbq:u.heap[bp]? = some (.cells (Seco.cells S a5 c5) 38):=by rw [hu,hbp];exact (MapKept.heap_alloc wr _).1
   have HBQ:Hid (u.heap[bp]? = some (.cells (Seco.cells S a5 c5) 38)/\bp<u.heap.size):=⟨hbq,(zLo hbq)⟩
   have r0:=cell_regrown (cel hbq 0 (.string S.f0) rfl)
   have r1:=cell_regrown (cel hbq 1 (.int .i64 S.f1) rfl)
   have r2:=cell_regrown (cel hbq 2 (.int .i64 S.f2) rfl)
   have r3:=cell_regrown (cel hbq 3 (.int .i64 S.f3) rfl)
   have r4:=cell_regrown (cel hbq 4 (.string S.f4) rfl)
   have HBu:Hid (Below u0.heap.size u0 u):=after HBk.out hub
   have HWu:Hid (Below w.heap.size w u):=after hwr hub
   have k1:Rg 85 #[.int .i64 S.f1] u (.string (decW S.f1)):=rg fun W hb=>l1Dec_all S.f1 W HSB.out.k0 HSB.out.k1
   have k2:Rg 85 #[.int .i64 S.f2] u (.string (decW S.f2)):=rg fun W hb=>l1Dec_all S.f2 W HSB.out.b0 HSB.out.b1
   have k3:Rg 85 #[.int .i64 S.f3] u (.string (decW S.f3)):=rg fun W hb=>l1Dec_all S.f3 W HSB.out.a0 HSB.out.a1
   have k4:Rg 86 #[.string S.f4] u (.string (hexA S.f4)):=rg fun W hb=>(l9Hex_any S.f4 W (by have:=HSB.out.dt;omega)).mono fun e w' h=>⟨h.1,by rw [h.2];exact zRf⟩
   have HE:Hid (_=mk (pre ++ headT S)):=mk_head pre S.f0 (decW S.f1) (decW S.f2) (decW S.f3) (hexA S.f4)
   have g1:=decW_le HSB.out.k0 HSB.out.k1
   have g2:=decW_le HSB.out.b0 HSB.out.b1
   have g3:=decW_le HSB.out.a0 HSB.out.a1
   have g4:=hexA_size S.f4
   have g5:=HSB.out.dt
   have g6:=HSB.out.nm
   have hpz:=mk_size pre
   have hhl:=head_len HSB.out
   have hpl:=pats_len HSB.out
   have HSE:Hid ((pre ++ headT S) ++ (S.f5.take S.f5.length).flatMap patT=pre ++ secT S):=(show _=_ from by rw [List.take_length];unfold secT;rw [List.append_assoc])
   have hl2:(pre ++ headT S).length<=2160700:=by rw [List.length_append];omega
   generalize pre ++ headT S=l2 at HE HSE hl2
   generalize decW S.f1=D1 at k1 g1 HE
   generalize decW S.f2=D2 at k2 g2 HE
   generalize decW S.f3=D3 at k3 g3 HE
   generalize hexA S.f4=D4 at k4 g4 HE
   generalize mk pre=Z at hpz HE
   have y0:¬ 9223372036854775807<Z.size+8:=by omega
   have y1:¬ 9223372036854775807<Z.size+8+S.f0.size:=by omega
   have y2:¬ 9223372036854775807<Z.size+8+S.f0.size+1:=by omega
   have y3:¬ 9223372036854775807<Z.size+8+S.f0.size+1+D1.size:=by omega
   have y4:¬ 9223372036854775807<Z.size+8+S.f0.size+1+D1.size+1:=by omega
   have y5:¬ 9223372036854775807<Z.size+8+S.f0.size+1+D1.size+1+D2.size:=by omega
   have y6:¬ 9223372036854775807<Z.size+8+S.f0.size+1+D1.size+1+D2.size+1:=by omega
   have y7:¬ 9223372036854775807<Z.size+8+S.f0.size+1+D1.size+1+D2.size+1+D3.size:=by omega
   have y8:¬ 9223372036854775807<Z.size+8+S.f0.size+1+D1.size+1+D2.size+1+D3.size+1:=by omega
   have y9:¬ 9223372036854775807<Z.size+8+S.f0.size+1+D1.size+1+D2.size+1+D3.size+1+D4.size:=by omega
   have y10:¬ 9223372036854775807<Z.size+8+S.f0.size+1+D1.size+1+D2.size+1+D3.size+1+D4.size+1:=by omega
   have dl:decide ((k:Int)<(n0:Int))=true:=decide_eq_true (by omega)
   have dk:IntKind.i64.wrap ((k:Int)+1)=((k+1:Nat):Int):=by rw [IntKind.wrap_i64];omega
   have z0:(0:Int)<=(k:Int):=by omega
   have z1:(k:Int)<(n0:Int):=by omega
   clear hbx hub hwr hbq HBk
   go_upto_region 6 with fail
   rw [<- hu,<- hbp]
   clear hu hbp e0 e1 e2 e3 e4 e5 e6 l0
   refine wp_region_quiet_below (by kernel_rfl) (by kernel_rfl) ?_
   repeat (go_big_quiet_step (first|fail|with_reducible exact k1 _ _|with_reducible exact k2 _ _|with_reducible exact k3 _ _|with_reducible exact k4 _ _))
   refine wpQuiet_nil ?_
   intro _ hw'
   obtain ⟨⟨dq,osq⟩,hw''⟩:=hw'
   subst hw''
   have hbr:=below_regrown u dq osq
   generalize Go.Sort.grow (redrawn u dq) osq=W1 at hbr |-
   rw [HE.out]
   have HW1:Hid (Below u.heap.size u W1):=hbr
   clear hbr HE r0 r1 r2 r3 r4 k1 k2 k3 k4 g1 g2 g3 g4 g5 g6 y0 y1 y2 y3 y4 y5 y6 y7 y8 y9 y10
   obtain ⟨N,hN⟩ : ∃ n,n=S.f5.length:=⟨_,rfl⟩
   have HN:Hid (N=S.f5.length):=hN
   have hN256:N<=256:=by rw [hN];exact HSB.out.pn
   clear hN
   have HST:Hid (mk l2=mk (l2 ++ (S.f5.take 0).flatMap patT)):=(show _=_ from by rw [List.take_zero,List.flatMap_nil,List.append_nil])
   rw [HST.out]
   go_wp2_with fail
   go_loopw [3,6] (fun s j wq=>∃ q:Nat,q<=N/\s=.string (mk (l2 ++ (S.f5.take q).flatMap patT))/\j=.int .i64 (q:Int)/\Hid (Below u.heap.size u wq)) (fun _ j _=>N-(intOf j).toNat)
   case atStart=>exact ⟨0,Nat.zero_le _,rfl,rfl,HW1.out⟩
   case round =>
    obtain ⟨q,hq,rfl,rfl,HBq⟩:=hrel
    clear HW1 HST
    have m5:wr.cell? ⟨bp,5,none⟩=some (.slice a5 N c5):=by rw [HN.out];exact cel ((HBq.out.block _ HBQ.out.2).trans HBQ.out.1) 5 _ rfl
    by_cases hlq:q<N
    ·have hqx:q<S.f5.length:=by rw [<- HN.out];exact hlq
     rcases HKH.out with hnil|⟨pb,po,rfl,_,hpb,hat⟩
     ·exfalso;rw [hnil] at hqx;exact absurd hqx (by simp)
     obtain ⟨ae,ce,d0,d1,d2,hrow,_⟩:=hat q hqx
     obtain ⟨f0l,f0h,f1l,f1h,f2n⟩:=HSB.out.pb q hqx
     have hwq:=after HWu.out HBq.out
     have HFS2:Hid ((l2 ++ (S.f5.take q).flatMap patT) ++ patT S.f5[q]=l2 ++ (S.f5.take (q+1)).flatMap patT):=flat_snoc patT l2 S.f5 q hqx
     have hpk:=hpl q
     have hl3:(l2 ++ (S.f5.take q).flatMap patT).length<=2500000:=by rw [List.length_append];omega
     generalize l2 ++ (S.f5.take q).flatMap patT=l3 at HFS2 hl3
     have r0:=cell_regrown ((hwq.cell (p:=⟨pb,_,none⟩) hpb).trans d0)
     have r1:=cell_regrown ((hwq.cell (p:=⟨pb,_,none⟩) hpb).trans d1)
     have r2:=cell_regrown ((hwq.cell (p:=⟨pb,_,none⟩) hpb).trans d2)
     have r5:=cell_regrown m5
     clear hat d0 d1 d2
     generalize S.f5[q]=P at *
     have k1:Rg 85 #[.int .i64 P.f0] wr (.string (decW P.f0)):=rg fun W hb=>l1Dec_all P.f0 W f0l f0h
     have k2:Rg 85 #[.int .i64 P.f1] wr (.string (decW P.f1)):=rg fun W hb=>l1Dec_all P.f1 W f1l f1h
     have k3:Rg 87 #[.slice ae P.f2.length ce] wr (.string (exprT P.f2)):=rg fun W hb=>Exts.specText_any ae ce P.f2 W (hrow.below (after hwq hb)).1 (by omega)
     have HE:Hid (_=mk (l3 ++ patT P)):=mk_pat l3 (decW P.f0) (decW P.f1) (exprT P.f2)
     have g1:=decW_le f0l f0h
     have g2:=decW_le f1l f1h
     have g3:=expr_len (L:=P.f2)
     have hpz:=mk_size l3
     rw [HFS2.out] at HE
     generalize decW P.f0=D1 at k1 g1 HE
     generalize decW P.f1=D2 at k2 g2 HE
     generalize exprT P.f2=D3 at k3 g3 HE
     generalize mk l3=Z at hpz HE
     have y0:¬ 9223372036854775807<Z.size+6:=by omega
     have y1:¬ 9223372036854775807<Z.size+6+D1.size:=by omega
     have y2:¬ 9223372036854775807<Z.size+6+D1.size+1:=by omega
     have y3:¬ 9223372036854775807<Z.size+6+D1.size+1+D2.size:=by omega
     have y4:¬ 9223372036854775807<Z.size+6+D1.size+1+D2.size+1:=by omega
     have y5:¬ 9223372036854775807<Z.size+6+D1.size+1+D2.size+1+D3.size:=by omega
     have y6:¬ 9223372036854775807<Z.size+6+D1.size+1+D2.size+1+D3.size+1:=by omega
     have dlq:decide ((q:Int)<(N:Int))=true:=decide_eq_true (by omega)
     have dkq:IntKind.i64.wrap ((q:Int)+1)=((q+1:Nat):Int):=by rw [IntKind.wrap_i64];omega
     have zq0:(0:Int)<=(q:Int):=by omega
     have zq1:(q:Int)<(N:Int):=by omega
     clear hrow hwq
     go_upto_region 10 with fail
     refine wp_region_quiet_below (by kernel_rfl) (by kernel_rfl) ?_
     repeat (go_big_quiet_step (first|fail|with_reducible exact k1 _ _|with_reducible exact k2 _ _|with_reducible exact k3 _ _))
     refine wpQuiet_nil ?_
     intro _ hw'
     obtain ⟨⟨dq,osq⟩,hw''⟩:=hw'
     subst hw''
     have hbr:=below_regrown wr dq osq
     generalize Go.Sort.grow (redrawn wr dq) osq=W2 at hbr |-
     rw [HE.out]
     have HB2:Hid (Below u.heap.size u W2):=after HBq.out hbr
     clear hbr HE r0 r1 r2 r5 k1 k2 k3 g1 g2 g3 y0 y1 y2 y3 y4 y5 y6
     go_wp2
     go_roundw
     case rel=>exact ⟨q+1,by omega,rfl,by go_num,HB2.out⟩
     case measure=>simp [intOf];omega
    ·have e:q=N:=by omega
     subst e
     have dq0:decide ((q:Int)<(q:Int))=false:=decide_eq_false (by omega)
     have HFIN:Hid (mk (l2 ++ (S.f5.take q).flatMap patT)=mk ([] ++ (x.f0.take (k+1)).flatMap secT)):=(show _=_ from by rw [HN.out,HSE.out,HFS.out])
     have HBF:Hid (Below u0.heap.size u0 wr):=after HBu.out HBq.out
     rw [HFIN.out]
     go_wp2
     go_roundw
     case rel=>exact ⟨k+1,by omega,rfl,by go_num,HBF.out⟩
     case measure=>simp [intOf];omega
  ·have e:k=n0:=by omega
   subst e
   have dl:decide ((k:Int)<(k:Int))=false:=decide_eq_false (by omega)
   have hT0:=HL0.out k
   rw [HM.out.1,List.take_length] at hT0
   have HT1:Hid (objT x=x.f0.flatMap secT ++ x.f1.flatMap symT ++ x.f2.flatMap assT):=(show _=_ from rfl)
   have HST:Hid (mk ([] ++ (x.f0.take k).flatMap secT)=mk (x.f0.flatMap secT ++ (x.f1.take 0).flatMap symT)):=(show _=_ from by rw [HM.out.1,flat_all];simp)
   rw [HST.out]
   clear HST HL0 hbx hwr
   generalize x.f0.flatMap secT=T0 at hT0 HT1 |-
   go_wp2_with fail
   go_loopw [3,7] (fun s i wq=>∃ q:Nat,q<=n1/\s=.string (mk (T0 ++ (x.f1.take q).flatMap symT))/\i=.int .i64 (q:Int)/\Hid (Below u0.heap.size u0 wq)) (fun _ i _=>n1-(intOf i).toNat)
   case atStart=>exact ⟨0,Nat.zero_le _,rfl,rfl,HBk.out⟩
   case round =>
    obtain ⟨q,hq,rfl,rfl,HBq⟩:=hrel
    clear HBk l0
    obtain ⟨hwr,hbx⟩:=HX.out wr HBq.out
    have l1:wr.cell? ⟨w.heap.size,1,none⟩=some (.slice a1 n1 c1):=by rw [HM.out.2.1];exact cel hbx 1 _ rfl
    by_cases hlq:q<n1
    ·have hqx:q<x.f1.length:=by rw [<- HM.out.2.1];exact hlq
     rcases HHas.out.2.2.1 with hnil|⟨sb,so,rfl,_,hsb,hat⟩
     ·exfalso;rw [hnil] at hqx;exact absurd hqx (by simp)
     obtain ⟨d0,d1,d2,d3,_⟩:=hat q hqx
     have hsy:=sym_b (by have:=HR.out.l0;exact this) HR.out.sec (HR.out.sym q hqx).sym
     have HFS:Hid ((T0 ++ (x.f1.take q).flatMap symT) ++ symT x.f1[q]=T0 ++ (x.f1.take (q+1)).flatMap symT):=flat_snoc symT T0 x.f1 q hqx
     have hpk:=HL1.out q
     have hl3:(T0 ++ (x.f1.take q).flatMap symT).length<=2500000:=by rw [List.length_append];omega
     generalize T0 ++ (x.f1.take q).flatMap symT=l3 at HFS hl3
     have e0:=(hwr.cell (p:=⟨sb,_,none⟩) hsb).trans d0
     have e1:=(hwr.cell (p:=⟨sb,_,none⟩) hsb).trans d1
     have e2:=(hwr.cell (p:=⟨sb,_,none⟩) hsb).trans d2
     have e3:=(hwr.cell (p:=⟨sb,_,none⟩) hsb).trans d3
     obtain ⟨g6,s0,s1,t0,t1⟩:=hsy
     clear hat d0 d1 d2 d3 hpk
     generalize x.f1[q]=P at *
     obtain ⟨u,hu⟩ : ∃ u,u=wr.alloc (.cells #[.string P.f0,.int .i64 P.f1,.int .i64 P.f2,.bool P.f3] 63):=⟨_,rfl⟩
     obtain ⟨bp,hbp⟩ : ∃ n,n=wr.heap.size:=⟨_,rfl⟩
     have r0:=cell_regrown (show u.cell? ⟨bp,0,none⟩=some (.string P.f0) by rw [hu,hbp];exact World.cell?_alloc_new _ _ _ _)
     have r1:=cell_regrown (show u.cell? ⟨bp,1,none⟩=some (.int .i64 P.f1) by rw [hu,hbp];exact World.cell?_alloc_new _ _ _ _)
     have r2:=cell_regrown (show u.cell? ⟨bp,2,none⟩=some (.int .i64 P.f2) by rw [hu,hbp];exact World.cell?_alloc_new _ _ _ _)
     have r3:=cell_regrown (show u.cell? ⟨bp,3,none⟩=some (.bool P.f3) by rw [hu,hbp];exact World.cell?_alloc_new _ _ _ _)
     have hub:Below wr.heap.size wr u:=by rw [hu];exact zAl _ _
     have HBu:Hid (Below u0.heap.size u0 u):=after HBq.out hub
     have k1:Rg 85 #[.int .i64 P.f1] u (.string (decW P.f1)):=rg fun W hb=>l1Dec_all P.f1 W s0 s1
     have k2:Rg 85 #[.int .i64 P.f2] u (.string (decW P.f2)):=rg fun W hb=>l1Dec_all P.f2 W t0 t1
     have k3:Rg 85 #[.int .i64 (outN P.f3)] u (.string (decW (outN P.f3))):=rg fun W hb=>l1Dec_all (outN P.f3) W (by unfold outN;split <;> omega) (by unfold outN;split <;> omega)
     have k4:Rg 88 #[.bool P.f3] u (.int .i64 (outN P.f3)):=rg fun W hb=>(l3One_any P.f3 W).mono fun e w' h=>⟨h.1,by rw [h.2];exact zRf⟩
     have HE:Hid (_=mk (l3 ++ symT P)):=mk_sym l3 P.f0 (decW P.f1) (decW P.f2) (decW (outN P.f3))
     rw [HFS.out] at HE
     have g1:=decW_le s0 s1
     have g2:=decW_le t0 t1
     have g3:(decW (outN P.f3)).size<=11:=decW_le (by unfold outN;split <;> omega) (by unfold outN;split <;> omega)
     have hpz:=mk_size l3
     generalize decW P.f1=D1 at k1 g1 HE
     generalize decW P.f2=D2 at k2 g2 HE
     generalize decW (outN P.f3)=D3 at k3 g3 HE
     generalize outN P.f3=on3 at k3 k4
     generalize mk l3=Z at hpz HE
     have y0:¬ 9223372036854775807<Z.size+7:=by omega
     have y1:¬ 9223372036854775807<Z.size+7+P.f0.size:=by omega
     have y2:¬ 9223372036854775807<Z.size+7+P.f0.size+1:=by omega
     have y3:¬ 9223372036854775807<Z.size+7+P.f0.size+1+D1.size:=by omega
     have y4:¬ 9223372036854775807<Z.size+7+P.f0.size+1+D1.size+1:=by omega
     have y5:¬ 9223372036854775807<Z.size+7+P.f0.size+1+D1.size+1+D2.size:=by omega
     have y6:¬ 9223372036854775807<Z.size+7+P.f0.size+1+D1.size+1+D2.size+1:=by omega
     have y7:¬ 9223372036854775807<Z.size+7+P.f0.size+1+D1.size+1+D2.size+1+D3.size:=by omega
     have y8:¬ 9223372036854775807<Z.size+7+P.f0.size+1+D1.size+1+D2.size+1+D3.size+1:=by omega
     have dlq:decide ((q:Int)<(n1:Int))=true:=decide_eq_true (by omega)
     have dkq:IntKind.i64.wrap ((q:Int)+1)=((q+1:Nat):Int):=by rw [IntKind.wrap_i64];omega
     have zq0:(0:Int)<=(q:Int):=by omega
     have zq1:(q:Int)<(n1:Int):=by omega
     clear hub hwr hbx HBq
     go_upto_region 15 with fail
     rw [<- hu,<- hbp]
     clear hu hbp e0 e1 e2 e3 l1
     refine wp_region_quiet_below (by kernel_rfl) (by kernel_rfl) ?_
     repeat (go_big_quiet_step (first|fail|with_reducible exact k1 _ _|with_reducible exact k2 _ _|with_reducible exact k3 _ _|with_reducible exact k4 _ _))
     refine wpQuiet_nil ?_
     intro _ hw'
     obtain ⟨⟨dq,osq⟩,hw''⟩:=hw'
     subst hw''
     have hbr:=below_regrown u dq osq
     generalize Go.Sort.grow (redrawn u dq) osq=W2 at hbr |-
     rw [HE.out]
     have HB2:Hid (Below u0.heap.size u0 W2):=after HBu.out hbr
     clear hbr HE r0 r1 r2 r3 k1 k2 k3 k4 g1 g2 g3 y0 y1 y2 y3 y4 y5 y6 y7 y8
     go_wp2
     go_roundw
     case rel=>exact ⟨q+1,by omega,rfl,by go_num,HB2.out⟩
     case measure=>simp [intOf];omega
    ·have e:q=n1:=by omega
     subst e
     have dq0:decide ((q:Int)<(q:Int))=false:=decide_eq_false (by omega)
     have hT1:=HL1.out q
     rw [HM.out.2.1,List.take_length] at hT1
     have HST:Hid (mk (T0 ++ (x.f1.take q).flatMap symT)=mk ((T0 ++ x.f1.flatMap symT) ++ (x.f2.take 0).flatMap assT)):=(show _=_ from by rw [HM.out.2.1,flat_all];simp)
     rw [HST.out]
     have hTT:(T0 ++ x.f1.flatMap symT).length<=180000*12+100*200:=by rw [List.length_append];omega
     clear HST HL1 hbx hwr hT1
     generalize T0 ++ x.f1.flatMap symT=T01 at hTT HT1 |-
     go_wp2_with fail
     go_loopw [3,9] (fun s i wq=>∃ z:Nat,z<=n2/\s=.string (mk (T01 ++ (x.f2.take z).flatMap assT))/\i=.int .i64 (z:Int)/\Hid (Below u0.heap.size u0 wq)) (fun _ i _=>n2-(intOf i).toNat)
     case atStart=>exact ⟨0,Nat.zero_le _,rfl,rfl,HBq.out⟩
     case round =>
      obtain ⟨z,hz,rfl,rfl,HBz⟩:=hrel
      clear HBq l1
      obtain ⟨hwr,hbx⟩:=HX.out wr HBz.out
      have l2:wr.cell? ⟨w.heap.size,2,none⟩=some (.slice a2 n2 c2):=by rw [HM.out.2.2];exact cel hbx 2 _ rfl
      by_cases hlz:z<n2
      ·have hzx:z<x.f2.length:=by rw [<- HM.out.2.2];exact hlz
       rcases HHas.out.2.2.2.2.1 with hnil|⟨sb,so,rfl,_,hsb,hat⟩
       ·exfalso;rw [hnil] at hzx;exact absurd hzx (by simp)
       obtain ⟨ae,ce,d0,hrow,_⟩:=hat z hzx
       have hel:=expr_le (HR.out.ass z hzx)
       have HFS:Hid ((T01 ++ (x.f2.take z).flatMap assT) ++ assT x.f2[z]=T01 ++ (x.f2.take (z+1)).flatMap assT):=flat_snoc assT T01 x.f2 z hzx
       have hpk:=HL2.out z
       have hl3:(T01 ++ (x.f2.take z).flatMap assT).length<=2500000:=by rw [List.length_append];omega
       generalize T01 ++ (x.f2.take z).flatMap assT=l3 at HFS hl3
       have e0:=(hwr.cell (p:=⟨sb,_,none⟩) hsb).trans d0
       clear hat d0 hpk
       generalize x.f2[z]=P at *
       have cx:=Exts.specText_any ae ce P.f0 wr (hrow.below hwr).1 (by omega)
       have HE:Hid (_=mk (l3 ++ assT P)):=mk_ass l3 (exprT P.f0)
       rw [HFS.out] at HE
       have g3:=expr_len (L:=P.f0)
       have hpz:=mk_size l3
       generalize exprT P.f0=D1 at cx g3 HE
       generalize mk l3=Z at hpz HE
       have y0:¬ 9223372036854775807<Z.size+7:=by omega
       have y1:¬ 9223372036854775807<Z.size+7+D1.size:=by omega
       have y2:¬ 9223372036854775807<Z.size+7+D1.size+1:=by omega
       have dlz:decide ((z:Int)<(n2:Int))=true:=decide_eq_true (by omega)
       have dkz:IntKind.i64.wrap ((z:Int)+1)=((z+1:Nat):Int):=by rw [IntKind.wrap_i64];omega
       have zz0:(0:Int)<=(z:Int):=by omega
       have zz1:(z:Int)<(n2:Int):=by omega
       clear hrow hbx hwr
       go_wp2_with fail
       refine cx.mono ?_
       rintro e W3 ⟨rfl,hbr⟩
       have HB3:Hid (Below u0.heap.size u0 W3):=after HBz.out hbr
       clear hbr cx e0 HBz
       go_wp2
       go_roundw
       case rel=>exact ⟨z+1,by omega,by rw [HE.out],by go_num,HB3.out⟩
       case measure=>simp [intOf];omega
      ·have e:z=n2:=by omega
       subst e
       have dz0:decide ((z:Int)<(z:Int))=false:=decide_eq_false (by omega)
       have HST:Hid (mk (T01 ++ (x.f2.take z).flatMap assT)=mk (objT x)):=(show _=_ from by rw [HM.out.2.2,flat_all,HT1.out])
       have HF:Hid (Below w.heap.size w wr):=hwr
       clear hwr hbx
       go_wp2
       go_ret
       exact ⟨ret_str HST.out.symm,HF.out⟩
theorem specText_any (x:Objr.X) (a0:Option Addr) (c0:Nat) (a1:Option Addr) (c1:Nat) (a2:Option Addr) (c2:Nat) (w:World) (hh:Objr.Has 0 w x a0 a1 a2) (hsm:Objr.SmallX x) :
  Calls prog 14 #[.agg (ocells x a0 c0 a1 c1 a2 c2)] w fun e w'=>e=.returned (.string (objV x))/\Below w.heap.size w w':=by
 have co:=Objs.specObj_any x a0 c0 a1 c1 a2 c2
 obtain ⟨u0,hu0⟩ : ∃ u,u=w.alloc (.cells (ocells x a0 c0 a1 c1 a2 c2) 26):=⟨_,rfl⟩
 have HB0:Hid (Below w.heap.size w u0):=(show Below _ _ _ from by rw [hu0];exact zAl _ _)
 have HBX:Hid (u0.heap[w.heap.size]? = some (.cells (ocells x a0 c0 a1 c1 a2 c2) 26)):=(show _=_ from by rw [hu0];exact (MapKept.heap_alloc w _).1)
 have HSZ:Hid (w.heap.size<u0.heap.size):=by show _<_;rw [hu0];simp
 have co:=fun W (hb:Below w.heap.size w W)=>co W (hh.below hb) hsm
 have l0:=cel HBX.out 0 (.slice a0 x.f0.length c0) rfl
 have l1:=cel HBX.out 1 (.slice a1 x.f1.length c1) rfl
 have l2:=cel HBX.out 2 (.slice a2 x.f2.length c2) rfl
 cases hok:objB x
 ·rw [objV_no hok]
  rw [hok] at co
  clear hok
  go_enter func14,ntmps14
  go_upto_region 1 with fail
  rw [<- hu0]
  clear hu0
  go_wp2_with fail
  refine (co _ HB0.out).mono ?_
  rintro e w1 ⟨rfl,b1⟩
  have B1:Hid (Below w.heap.size w w1):=after HB0.out b1
  clear b1
  go_wp2
  go_ret
  exact ⟨rfl,B1.out⟩
 rw [objV_yes hok]
 have cl:=fun W (hb:Below w.heap.size w W)=>l9Text_any x a0 c0 a1 c1 a2 c2 W (hh.below hb) (right_of hok)
 rw [hok] at co
 clear hok
 have HRR:Hid ((⟨(objT x).toArray⟩ : ByteArray)=mk (objT x)):=(show _=_ from rfl)
 generalize mk (objT x)=R at cl HRR
 go_enter func14,ntmps14
 go_upto_region 1 with fail
 rw [<- hu0]
 clear hu0
 go_wp2_with fail
 refine (co _ HB0.out).mono ?_
 rintro e w1 ⟨rfl,b1⟩
 have B1:Hid (Below w.heap.size w w1):=after HB0.out b1
 have hbx1:w1.heap[w.heap.size]? = some (.cells (ocells x a0 c0 a1 c1 a2 c2) 26):=(b1.block _ HSZ.out).trans HBX.out
 have m0:=cel hbx1 0 (.slice a0 x.f0.length c0) rfl
 have m1:=cel hbx1 1 (.slice a1 x.f1.length c1) rfl
 have m2:=cel hbx1 2 (.slice a2 x.f2.length c2) rfl
 clear b1 co l0 l1 l2 hbx1
 go_wp2_with fail
 refine (cl _ B1.out).mono ?_
 rintro e w2 ⟨rfl,b2⟩
 have B2:Hid (Below w.heap.size w w2):=after B1.out b2
 clear b2 cl
 go_wp2
 go_ret
 exact ⟨ret_str HRR.out,B2.out⟩
end Otxs
namespace Rimb
open Go.Deep
open Rown Rowo Rliq Rlip
open Otxa (after)
structure KB (bs db:Nat) (w w':World):Prop where
 os:w'.os=w.os
 tape:w'.tape=w.tape
 output:w'.output=w.output
 size:w.heap.size<=w'.heap.size
 block:∀ k,k<bs->k ≠ db->w'.heap[k]? = w.heap[k]?
theorem KB.refl (bs db:Nat) (w:World):KB bs db w w:=⟨rfl,rfl,rfl,Nat.le_refl _,fun _ _ _=>rfl⟩
theorem KB.trans {bs db:Nat} {a b c:World} (h:KB bs db a b) (k:KB bs db b c):KB bs db a c:=⟨k.os.trans h.os,k.tape.trans h.tape,k.output.trans h.output,Nat.le_trans h.size k.size,fun i h1 h2=>(k.block i h1 h2).trans (h.block i h1 h2)⟩
theorem KB.of {bs db:Nat} {w w':World} (hbs:bs<=w.heap.size) (hb:Below w.heap.size w w'):KB bs db w w':=⟨hb.os,hb.tape,hb.output,hb.size,fun k hk _=>hb.block k (by omega)⟩
theorem KB.grown {bs db:Nat} {w w':World} {row:Option Nat} (hbs:bs<=w.heap.size) (hg:w.grownBy w' row) (hr:∀ r,row=some r->bs<=r):KB bs db w w':=⟨hg.os,hg.tape,hg.output,hg.size,fun k hk _=>hg.block k (by omega) (fun e=>by have:=hr k e.symm;omega)⟩
theorem KB.cell {bs db i:Nat} {w:World} {u:Value}:KB bs db w (w.setCell ⟨db,i,none⟩ u):=⟨rfl,rfl,rfl,by simp [World.setCell],fun k _ hk=>Below.heap_setCell _ _ _ _ hk⟩
structure Dr (bs db:Nat) (bx:List Nat) (sv:Value) (ss:List Sd) (yv:Value) (ys:List Osyr.X) (av:Value) (aa:List Ad) (w:World):Prop where
 len:bx.length=ss.length
 sec:w.ownsRow bs 61 1 sv ss.length (bx.map fun b=>.pointer (some ⟨b,0,none⟩))
 box:∀ i,(h:i<ss.length)->bs<=bx.getD i 0/\w.heap[bx.getD i 0]? = some (.cells ss[i].cells.toArray 38 (0,0))
 dis:bx.Nodup
 cd:w.heap[db]? = some (.cells #[sv,yv,av] 48 (0,0))
 lb:db<bs
 rw:Rw w bs ss yv ys av aa
theorem Dr.below {bs db:Nat} {bx:List Nat} {sv yv av:Value} {ss:List Sd} {ys:List Osyr.X} {aa:List Ad} {w w':World} (h:Dr bs db bx sv ss yv ys av aa w) (hb:Below w.heap.size w w'):Dr bs db bx sv ss yv ys av aa w' :=
 ⟨h.len,own_below h.sec hb,fun i hi=>⟨(h.box i hi).1,(hb.block _ ((zLo (h.box i hi).2))).trans (h.box i hi).2⟩,h.dis,(hb.block _ ((zLo h.cd))).trans h.cd,h.lb,h.rw.below hb⟩
theorem getD_mem {l:List Nat} {b:Nat} (h:b ∈ l):∃ i,i<l.length/\l.getD i 0=b:=by
 obtain ⟨i,hi,rfl⟩:=List.getElem_of_mem h
 exact ⟨i,hi,by rw [List.getD_eq_getElem?_getD,List.getElem?_eq_getElem hi];rfl⟩
theorem Dr.lt {bs db:Nat} {bx:List Nat} {sv yv av:Value} {ss:List Sd} {ys:List Osyr.X} {aa:List Ad} {w:World} (h:Dr bs db bx sv ss yv ys av aa w):∀ b ∈ bx,b<w.heap.size:=fun b hb=>by
 obtain ⟨i,hi,rfl⟩:=getD_mem hb
 exact (zLo (h.box i (by rw [<- h.len];exact hi)).2)
theorem snocD (l:List Nat) (b i:Nat):(l ++ [b]).getD i 0=if i<l.length then l.getD i 0 else if i=l.length then b else 0:=by
 rw [List.getD_eq_getElem?_getD,List.getD_eq_getElem?_getD]
 by_cases h:i<l.length
 ·rw [if_pos h,List.getElem?_append_left h]
 ·rw [if_neg h,List.getElem?_append_right (by omega)]
  by_cases h2:i=l.length
  ·subst h2;rw [if_pos rfl];simp
  ·rw [if_neg h2]
   have:([b]:List Nat)[i-l.length]? = none:=List.getElem?_eq_none (by simp;omega)
   rw [this];rfl
theorem T58 {x y:TypeId} {w:World} {g:Nat} {c c':Array Value} {m m':Nat × Nat} (h:w.heap[g]? = some (.cells c x m)) {g':Nat} (h':w.heap[g']? = some (.cells c' y m')) (hne:x ≠ y):g ≠ g':=fun e=>by
 subst e;rw [h] at h';cases (Option.some.inj h');exact hne rfl
theorem Dr.turn {bs db i:Nat} {bx bx':List Nat} {sv yv av sv' yv' av' u:Value} {ss ss':List Sd} {ys ys':List Osyr.X} {aa aa':List Ad} {w w':World} {row:Option Nat} (h:Dr bs db bx sv ss yv ys av aa w) (hg:w.grownBy w' row) (hr:∀ r,row=some r->r ≠ db)
  (hu:(#[sv,yv,av]:Array Value).setIfInBounds i u=#[sv',yv',av']) (h1:bx'.length=ss'.length) (h2:w'.ownsRow bs 61 1 sv' ss'.length (bx'.map fun b=>.pointer (some ⟨b,0,none⟩)))
  (h3:∀ i,(h:i<ss'.length)->bs<=bx'.getD i 0/\w'.heap[bx'.getD i 0]? = some (.cells ss'[i].cells.toArray 38 (0,0))) (h4:bx'.Nodup) (h5:Rw w' bs ss' yv' ys' av' aa') :
  Dr bs db bx' sv' ss' yv' ys' av' aa' (w'.setCell ⟨db,i,none⟩ u)/\w'.heap[db]? = some (.cells #[sv,yv,av] 48 (0,0)):=by
 have e:w'.heap[db]? = some (.cells #[sv,yv,av] 48 (0,0)):=(hg.block _ ((zLo h.cd)) (fun q=>hr _ q.symm rfl)).trans h.cd
 refine ⟨⟨h1,h2.kept (Nodm.grown_set _ _ _ _) (.inr (own_ne_block h2 e (by decide))),fun j hj=>⟨(h3 j hj).1,?_⟩,h4,?_,h.lb,h5.cell e (by decide) (by decide) (by decide) (by decide)⟩,e⟩
 ·rw [Below.heap_setCell _ _ _ _ (T58 (h3 j hj).2 e (by decide))]
  exact (h3 j hj).2
 ·rw [heap_setCell_same _ _ _ _ _ _ e,hu]
theorem Dr.row {bs db:Nat} {bx:List Nat} {sv yv av:Value} {ss:List Sd} {ys:List Osyr.X} {aa:List Ad} {w:World} (h:Dr bs db bx sv ss yv ys av aa w) {T:TypeId} {size n:Nat} {v:Value} {xs:List Value} (ho:w.ownsRow bs T size v n xs) (hne:T ≠ 48):∀ r,v.ownBlock=some r->r ≠ db:=fun r hr e=>own_ne_block ho h.cd hne (hr.trans (by rw [e]))
theorem Dr.boxes {bs db:Nat} {bx:List Nat} {sv yv av:Value} {ss:List Sd} {ys:List Osyr.X} {aa:List Ad} {w w':World} (h:Dr bs db bx sv ss yv ys av aa w) {T:TypeId} {size n:Nat} {v:Value} {xs:List Value} (ho:w.ownsRow bs T size v n xs) (hne:T ≠ 38) (hg:w.grownBy w' v.ownBlock) :
  ∀ i,(h:i<ss.length)->bs<=bx.getD i 0/\w'.heap[bx.getD i 0]? = some (.cells ss[i].cells.toArray 38 (0,0)):=fun i hi=>by
 obtain ⟨a,b⟩:=h.box i hi
 exact ⟨a,(hg.block _ ((zLo b)) (fun q=>own_ne_block ho b hne q.symm)).trans b⟩
theorem Dr.addS {bs db b:Nat} {bx:List Nat} {sv yv av v':Value} {ss:List Sd} {ys:List Osyr.X} {aa:List Ad} {w w':World} (h:Dr bs db bx sv ss yv ys av aa w) (nm d:ByteArray) (k c a:Int)
  (hb:w.heap[b]? = some (.cells #[.string nm,.int .i64 k,.int .i64 c,.int .i64 a,.string d,.slice none 0 0] 38 (0,0))) (hbs:bs<=b) (hn:b ∉ bx)
  (ho:w'.ownsRow bs 61 1 v' (ss.length+1) ((bx.map fun b=>.pointer (some ⟨b,0,none⟩)) ++ [.pointer (some ⟨b,0,none⟩)])) (hg:w.grownBy w' sv.ownBlock) :
  Dr bs db (bx ++ [b]) v' (ss ++ [⟨nm,k,c,a,d,.slice none 0 0,[]⟩]) yv ys av aa (w'.setCell ⟨db,0,none⟩ v')/\w'.heap[db]? = some (.cells #[sv,yv,av] 48 (0,0)):=by
 refine h.turn hg (h.row h.sec (by decide)) rfl (by simp [h.len]) (by rw [List.map_append,List.length_append];exact ho) (fun i hi=>?_) ?_ ((h.rw.type h.sec hg (by decide) (by decide) (by decide) (by decide)).addS nm d k c a)
 ·rw [snocD,h.len]
  by_cases hlt:i<ss.length
  ·rw [if_pos hlt,List.getElem_append_left hlt]
   exact h.boxes h.sec (by decide) hg i hlt
  ·have e:i=ss.length:=by simp at hi;omega
   subst e
   rw [if_neg hlt,if_pos rfl]
   refine ⟨hbs,?_⟩
   rw [List.getElem_append_right (Nat.le_refl _)]
   simp only [Nat.sub_self,List.getElem_cons_zero]
   exact (hg.block _ ((zLo hb)) (fun q=>own_ne_block h.sec hb (by decide) q.symm)).trans hb
 ·rw [List.nodup_append]
  exact ⟨h.dis,by simp,fun x hx y hy e=>hn (by rw [List.mem_singleton.1 hy] at e;rw [<- e];exact hx)⟩
theorem Dr.addY {bs db:Nat} {bx:List Nat} {sv yv av v':Value} {ss:List Sd} {ys:List Osyr.X} {aa:List Ad} {w w':World} (h:Dr bs db bx sv ss yv ys av aa w) (y:Osyr.X)
  (ho:w'.ownsRow bs 63 4 v' (ys.length+1) (ys.flatMap yCells ++ yCells y)) (hg:w.grownBy w' yv.ownBlock) :
  Dr bs db bx sv ss v' (ys ++ [y]) av aa (w'.setCell ⟨db,1,none⟩ v')/\w'.heap[db]? = some (.cells #[sv,yv,av] 48 (0,0)) :=
 h.turn hg (h.row h.rw.sym (by decide)) rfl h.len (h.sec.kept hg (own_ne h.sec h.rw.sym (by decide))) (h.boxes h.rw.sym (by decide) hg) h.dis (h.rw.addY y v' ho hg)
theorem Dr.addA {bs db:Nat} {bx:List Nat} {sv yv av v':Value} {ss:List Sd} {ys:List Osyr.X} {aa:List Ad} {w w':World} (h:Dr bs db bx sv ss yv ys av aa w) (x:Ad) (hx:ExOwn w bs x.e x.l)
  (hap:∀ u ∈ ss.flatMap (fun s=>s.ps.map (·.e)) ++ aa.map (·.e),Apart u x.e)
  (ho:w'.ownsRow bs 67 1 v' (aa.length+1) (aa.map (·.e) ++ [x.e])) (hg:w.grownBy w' av.ownBlock) :
  Dr bs db bx sv ss yv ys v' (aa ++ [x]) (w'.setCell ⟨db,2,none⟩ v')/\w'.heap[db]? = some (.cells #[sv,yv,av] 48 (0,0)) :=
 h.turn hg (h.row h.rw.ass (by decide)) rfl h.len (h.sec.kept hg (own_ne h.sec h.rw.ass (by decide))) (h.boxes h.rw.ass (by decide) hg) h.dis (h.rw.addA x v' hx hap ho hg)
theorem Dr.addP {bs db b0:Nat} {bx:List Nat} {sv yv av v':Value} {S:List Sd} {s:Sd} {ys:List Osyr.X} {aa:List Ad} {w w':World} (h:Dr bs db (bx ++ [b0]) sv (S ++ [s]) yv ys av aa w) (hl:bx.length=S.length) (p:Pd) (hx:ExOwn w bs p.e p.l)
  (hap:∀ u ∈ (S ++ [s]).flatMap (fun s=>s.ps.map (·.e)) ++ aa.map (·.e),Apart u p.e/\Apart p.e u)
  (ho:w'.ownsRow bs 80 3 v' (s.ps.length+1) (s.ps.flatMap Pd.cells ++ p.cells)) (hg:w.grownBy w' s.pv.ownBlock) (hv:v'.ownBlock=s.pv.ownBlock \/ v'.ownBlock=some w.heap.size) :
  Dr bs db (bx ++ [b0]) sv (S ++ [⟨s.nm,s.k,s.b,s.a,s.d,v',s.ps ++ [p]⟩]) yv ys av aa (w'.setCell ⟨b0,5,none⟩ v')/\w'.heap[b0]? = some (.cells s.cells.toArray 38 (0,0)):=by
 have hpat:=h.rw.pat s (by simp)
 have hB:=h.boxes hpat (by decide) hg
 have e0:w'.heap[b0]? = some (.cells s.cells.toArray 38 (0,0)):=by
  have:=(hB S.length (by simp)).2
  rw [snocD,hl,if_neg (Nat.lt_irrefl _),if_pos rfl,List.getElem_append_right (Nat.le_refl _)] at this
  simpa using this
 have hdb:w'.heap[db]? = some (.cells #[sv,yv,av] 48 (0,0)):=(hg.block _ ((zLo h.cd)) (fun q=>h.row hpat (by decide) _ q.symm rfl)).trans h.cd
 have hsec:=h.sec.kept hg (own_ne h.sec hpat (by decide))
 have hrw:=h.rw.addP p v' hx hap ho hg hv
 refine ⟨⟨by simp [hl],?_,fun i hi=>?_,h.dis,?_,h.lb,hrw.cell e0 (by decide) (by decide) (by decide) (by decide)⟩,e0⟩
 ·have hs:=hsec.kept (Nodm.grown_set w' b0 5 v') (.inr (own_ne_block hsec e0 (by decide)))
  rw [List.length_append] at hs |-
  exact hs
 ·have hi':i<(S ++ [s]).length:=by simpa using hi
  obtain ⟨q1,q2⟩:=hB i hi'
  refine ⟨q1,?_⟩
  rw [snocD,hl] at q1 q2 |-
  by_cases hlt:i<S.length
  ·rw [if_pos hlt] at q1 q2 |-
   rw [List.getElem_append_left hlt] at q2 |-
   have hne:bx.getD i 0 ≠ b0:=fun e=>by
    have hd:=h.dis
    rw [List.nodup_append] at hd
    have hm:bx.getD i 0 ∈ bx:=by
     have hib:i<bx.length:=by rw [hl];exact hlt
     rw [List.getD_eq_getElem?_getD,List.getElem?_eq_getElem hib];exact List.getElem_mem hib
    exact hd.2.2 _ hm b0 (by simp) e
   rw [Below.heap_setCell _ _ _ _ hne];exact q2
  ·have e:i=S.length:=by simp at hi;omega
   subst e
   rw [if_neg hlt,if_pos rfl,List.getElem_append_right (Nat.le_refl _)]
   simp only [Nat.sub_self,List.getElem_cons_zero]
   rw [heap_setCell_same _ _ _ _ _ _ e0]
   rfl
 ·rw [Below.heap_setCell _ _ _ _ (T58 hdb e0 (by decide))];exact hdb
def PostI (bs db:Nat) (w:World) (X:Option Objr.X) (e:Ending) (w':World):Prop :=
 KB bs db w w'/\match X with
 | none=>e=.returned (.bool false)
 | some x=>∃ bx sv ss yv ys av aa,objX ss ys aa=x/\Dr bs db bx sv ss yv ys av aa w'/\e=.returned (.bool true)
end Rimb
end Go.Proofs.YtickfkphhngagaaGreatDoor
