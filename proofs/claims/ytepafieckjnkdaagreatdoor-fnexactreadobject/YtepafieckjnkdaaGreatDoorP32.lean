import Derived.Test.YtepafieckjnkdaaGreatDoorP31
set_option linter.all false
set_option maxRecDepth 20000
set_option maxHeartbeats 8000000
open Go.ChangeShapes Go.WideShapes Go.ChangeAt Go.RowKit
open Go.Proofs.Tryz
namespace Go.Proofs.YtepafieckjnkdaaGreatDoor
namespace Rmkh
open Go.Deep
open Rown Rowo Rliq Rlsc Rmke Rmkg Otxp Otxq Obje
open Rimc (Cx)
theorem right_out {s:ByteArray} {o:Objr.X} (h:outI9 s=some o):o=o0 \/ objB o=true:=by
 unfold outI9 out9 at h
 split at h
 ·cases h
 obtain ⟨h1,h2⟩:=fin9_some h
 by_cases hz:s.size=0
 ·rw [goL_end hz] at h1
  exact .inl (Option.some.inj h1).symm
 ·refine .inr ?_
  cases hb:objB o with
  | true=>rfl
  | false=>rw [objV_no hb] at h2;exact absurd (by rw [<- h2];rfl) hz
theorem expr_len {L:List Stepx.Node} (h:Stepx.exprB L=true):L.length<=30:=by
 unfold Stepx.exprB at h
 rw [Bool.and_eq_true] at h
 exact of_decide_eq_true h.1
theorem lob_nil {ss:List Sd} {ys:List Osyr.X} {aa:List Ad} (h:objX ss ys aa=o0):Lob ss ys aa:=by
 unfold objX o0 at h
 have h1:ss.map Sd.x=[]:=congrArg Objr.X.f0 h
 have h2:ys=[]:=congrArg Objr.X.f1 h
 have h3:aa.map Ad.x=[]:=congrArg Objr.X.f2 h
 have e1:ss=[]:=List.map_eq_nil_iff.1 h1
 have e3:aa=[]:=List.map_eq_nil_iff.1 h3
 subst e1;subst h2;subst e3
 exact ⟨Nat.zero_le _,fun s hs=>(by cases hs),Nat.zero_le _,Nat.zero_le _,fun a ha=>(by cases ha)⟩
theorem lob_of {s:ByteArray} {ss:List Sd} {ys:List Osyr.X} {aa:List Ad} (h:objX ss ys aa=(outI9 s).getD o0):Lob ss ys aa:=by
 cases hO:outI9 s with
 | none=>rw [hO] at h;exact lob_nil h
 | some o =>
  rw [hO] at h
  have h:objX ss ys aa=o:=h
  rcases right_out hO with e|hr
  ·exact lob_nil (h.trans e)
  ·have R:=Otxq.right_of hr
   have q0:ss.map Sd.x=o.f0:=congrArg Objr.X.f0 h
   have q1:ys=o.f1:=congrArg Objr.X.f1 h
   have q2:aa.map Ad.x=o.f2:=congrArg Objr.X.f2 h
   have l0:=R.l0
   have l1:=R.l1
   have l2:=R.l2
   rw [<- q0,List.length_map] at l0
   rw [<- q1] at l1
   rw [<- q2,List.length_map] at l2
   refine ⟨by omega,fun x hx=>?_,by omega,by omega,fun a ha=>?_⟩
   ·have hm:x.x ∈ o.f0:=by rw [<- q0];exact List.mem_map_of_mem hx
    obtain ⟨i,hi,e⟩:=List.getElem_of_mem hm
    have b:=sec_b (R.sec i hi)
    rw [e] at b
    have hpn:=b.pn
    have e5:x.x.f5=x.ps.map Pd.x:=rfl
    refine ⟨by rw [e5,List.length_map] at hpn;exact hpn,fun p hp=>?_⟩
    have hpm:p.x ∈ x.x.f5:=by rw [e5];exact List.mem_map_of_mem hp
    obtain ⟨j,hj,ej⟩:=List.getElem_of_mem hpm
    have hb:=(b.pb j hj).2.2.2.2
    rw [ej] at hb
    exact hb
   ·have hm:a.x ∈ o.f2:=by rw [<- q2];exact List.mem_map_of_mem ha
    obtain ⟨i,hi,e⟩:=List.getElem_of_mem hm
    have b:=expr_len (R.ass i hi)
    rw [e] at b
    exact b
theorem cel3 {W:World} {b:Nat} {x y z:Value} {T:TypeId} (h:W.heap[b]? = some (.cells #[x,y,z] T (0,0))):W.cell? ⟨b,0,none⟩=some x/\W.cell? ⟨b,1,none⟩=some y/\W.cell? ⟨b,2,none⟩=some z:=by
 refine ⟨?_,?_,?_⟩ <;> (rw [cell_of_row _ _ _ _ _ _ h];rfl)
theorem left_has {s:ByteArray} {w w':World} {e:Ending} (h:Left9 w (outI9 s) e w'):∃ ss ys aa a0 c0 a1 c1 a2 c2,objX ss ys aa=(outI9 s).getD o0/\Ob w' w.heap.size (.slice a0 ss.length c0) ss (.slice a1 ys.length c1) ys (.slice a2 aa.length c2) aa/\Lob ss ys aa/\Objr.Has 0 w' ((outI9 s).getD o0) a0 a1 a2/\Objr.SmallX ((outI9 s).getD o0)/\e=.returned (.tuple #[.agg #[.slice a0 ((outI9 s).getD o0).f0.length c0,.slice a1 ((outI9 s).getD o0).f1.length c1,.slice a2 ((outI9 s).getD o0).f2.length c2],.bool (outI9 s).isSome])/\Below w.heap.size w w':=by
 obtain ⟨ss,ys,aa,a0,c0,a1,c1,a2,c2,hx,hob,hsm,he,hb⟩:=h
 have hh:=has_of hob (m:=60001) (by omega) (by rw [hx];exact hsm)
 rw [hx] at hh
 refine ⟨ss,ys,aa,a0,c0,a1,c1,a2,c2,hx,hob,lob_of hx,hh.mono (Nat.zero_le _),small_of (m:=60001) (by omega) hsm,?_,hb⟩
 rw [he]
 have e0:((outI9 s).getD o0).f0.length=ss.length:=by rw [<- hx];exact List.length_map ..
 have e1:((outI9 s).getD o0).f1.length=ys.length:=by rw [<- hx];rfl
 have e2:((outI9 s).getD o0).f2.length=aa.length:=by rw [<- hx];exact List.length_map ..
 rw [e0,e1,e2]
theorem law_any (s:ByteArray) (w:World) (hC:Cx w) :
  Calls prog 4 #[.string s] w fun e w'=>e=.returned (.bool true)/\Below w.heap.size w w':=by
 by_cases hbig:1048576<s.size
 ·clear hC
  go_enter func4,ntmps4
  go_wp2
  go_ret
  exact ⟨rfl,Below.refl _ _⟩
 have HC:Hid (Cx w):=hC
 have cs:=fun w=>specRead_any s w (by omega)
 have ci:=fun w hC=>Rimi.implRead_any s w (by omega) hC
 rw [<- same] at cs
 have LH:=(show Hid _ from fun w w' e (h:Left9 w (outI9 s) e w')=>left_has h)
 generalize outI9 s=O at cs ci LH
 obtain ⟨fl,hfl⟩ : ∃ fl,O.isSome=fl:=⟨_,rfl⟩
 obtain ⟨x,hx⟩ : ∃ x,O.getD o0=x:=⟨_,rfl⟩
 rw [hfl,hx] at LH
 obtain ⟨n0,hn0⟩ : ∃ n,x.f0.length=n:=⟨_,rfl⟩
 obtain ⟨n1,hn1⟩ : ∃ n,x.f1.length=n:=⟨_,rfl⟩
 obtain ⟨n2,hn2⟩ : ∃ n,x.f2.length=n:=⟨_,rfl⟩
 rw [hn0,hn1,hn2] at LH
 have ce:=fun a0 c0 a1 c1 a2 c2 a0' c0' a1' c1' a2' c2' W h h' hs=>Objr.eqX_any x a0 c0 a1 c1 a2 c2 a0' c0' a1' c1' a2' c2' W h h' hs
 rw [hn0,hn1,hn2] at ce
 have HN:Hid (x.f0.length=n0/\x.f1.length=n1/\x.f2.length=n2):=⟨hn0,hn1,hn2⟩
 clear hfl hx hn0 hn1 hn2 hC
 go_enter func4,ntmps4
 go_wp2_with fail
 refine (cs _).mono ?_
 rintro e w1 L1
 obtain ⟨_,_,_,p0,d0,p1,d1,p2,d2,_,_,_,h1,hsm,rfl,b1⟩:=LH.out _ _ _ L1
 have S1:=(show Hid _ from h1)
 have SM:=(show Hid _ from hsm)
 have B1:Hid (Below w.heap.size w w1):=b1
 clear L1 h1 hsm b1 cs
 go_wp2_with fail
 obtain ⟨v1,hv1⟩ : ∃ u,u=w1.alloc (.cells #[.slice p0 n0 d0,.slice p1 n1 d1,.slice p2 n2 d2] 28):=⟨_,rfl⟩
 rw [<- hv1]
 have T1:Hid (Below w1.heap.size w1 v1/\v1.heap[w1.heap.size]? = some (.cells #[.slice p0 n0 d0,.slice p1 n1 d1,.slice p2 n2 d2] 28 (0,0))/\w1.heap.size<v1.heap.size):=(by rw [hv1];exact ⟨alloc_top.1,alloc_top.2,size_of_at alloc_top.2⟩)
 have V1:Hid (Below w.heap.size w v1):=B1.out.trans (T1.out.1.mono B1.out.size)
 clear hv1
 refine (ci _ (HC.out.below V1.out)).mono ?_
 rintro e w2 L2
 obtain ⟨ss,ys,aa,a0,c0,a1,c1,a2,c2,hx2,o2,l2,h2,_,rfl,b2⟩:=LH.out _ _ _ L2
 have HL:=(show Hid _ from l2)
 have hss:ss.length=n0:=by rw [<- HN.out.1,<- hx2];exact (List.length_map ..).symm
 have hys:ys.length=n1:=by rw [<- HN.out.2.1,<- hx2];rfl
 have haa:aa.length=n2:=by rw [<- HN.out.2.2,<- hx2];exact (List.length_map ..).symm
 rw [hss,hys,haa] at o2
 have O2:=(show Hid _ from o2)
 have S2:=(show Hid _ from h2)
 have C2:Hid (Below v1.heap.size v1 w2):=b2
 clear L2 o2 h2 b2 l2 hx2 hss hys haa
 go_upto_region 5 with fail
 obtain ⟨v2,hv2⟩ : ∃ u,u=w2.alloc (.cells #[.slice a0 n0 c0,.slice a1 n1 c1,.slice a2 n2 c2] 28):=⟨_,rfl⟩
 rw [<- hv2]
 have T2:Hid (Below w2.heap.size w2 v2/\v2.heap[w2.heap.size]? = some (.cells #[.slice a0 n0 c0,.slice a1 n1 c1,.slice a2 n2 c2] 28 (0,0))):=(by rw [hv2];exact ⟨alloc_top.1,alloc_top.2⟩)
 clear hv2
 have P2:Hid (v2.heap[w1.heap.size]? = some (.cells #[.slice p0 n0 d0,.slice p1 n1 d1,.slice p2 n2 d2] 28 (0,0))):=(((C2.out.trans (T2.out.1.mono C2.out.size)).block _ T1.out.2.2).trans T1.out.2.1)
 obtain ⟨k0,k1,k2⟩:=cel3 P2.out
 obtain ⟨j0,j1,j2⟩:=cel3 T2.out.2
 have C2':Hid (Below v1.heap.size v1 v2):=C2.out.trans (T2.out.1.mono C2.out.size)
 have O2':=(show Hid _ from O2.out.below T2.out.1)
 have S2':=(show Hid _ from Objr.Has.below S2.out T2.out.1)
 have X2:=(show Hid _ from (Objr.Has.below S1.out T1.out.1).below C2'.out)
 have Z2:Hid (w2.heap.size<v2.heap.size):=size_of_at T2.out.2
 clear C2 O2 S2
 go_wp2_with fail
 refine (ce _ _ _ _ _ _ _ _ _ _ _ _ _ S2'.out X2.out SM.out).mono ?_
 rintro e w3 ⟨rfl,b3⟩
 have C3:Hid (Below v1.heap.size v1 w3):=C2'.out.trans (b3.mono C2'.out.size)
 have O3:=(show Hid _ from O2'.out.below b3)
 have J3:Hid (w3.heap[w2.heap.size]? = some (.cells #[.slice a0 n0 c0,.slice a1 n1 c1,.slice a2 n2 c2] 28 (0,0))):=(b3.block _ Z2.out).trans T2.out.2
 clear b3 O2' C2' S2' X2 k0 k1 k2 j0 j1 j2 P2 T2 Z2
 obtain ⟨j0,j1,j2⟩:=cel3 J3.out
 obtain ⟨M,hM⟩ : ∃ M,M=q3 1 ss ys aa:=⟨_,rfl⟩
 have M0:0<M:=by rw [hM];exact (q_le HL.out (by decide) (by decide)).2.2.2.2.1
 have M1:M<=50000000:=by rw [hM];exact (q_le HL.out (by decide) (by decide)).2.2.2.2.2
 have dM:decide (M<0)=false:=decide_eq_false (by omega)
 have cmk:=markO_any v1.heap.size _ _ _ ss ys aa 1 w3 O3.out C3.out.size HL.out (by decide) (by decide)
 have chd:=fun W h=>heldO_any v1.heap.size (.slice a0 n0 c0) (.slice a1 n1 c1) (.slice a2 n2 c2) ss ys aa 1 W h HL.out (by decide) (by decide)
 rw [<- hM] at cmk chd
 clear hM
 go_wp2_with fail
 refine cmk.mono ?_
 rintro e w4 ⟨rfl,m4,b4,g4⟩
 have C4:Hid (Below v1.heap.size v1 w4):=C3.out.trans b4
 have M4:=(show Hid _ from m4)
 have J4:Hid (w4.heap[w2.heap.size]? = some (.cells #[.slice a0 n0 c0,.slice a1 n1 c1,.slice a2 n2 c2] 28 (0,0))):=(g4.block _ (size_of_at J3.out) (not_all O3.out J3.out)).trans J3.out
 clear m4 b4 g4 O3 C3 cmk j0 j1 j2 J3
 obtain ⟨j0,j1,j2⟩:=cel3 J4.out
 go_wp2_with fail
 refine (chd _ M4.out).mono ?_
 rintro e w5 ⟨rfl,b5⟩
 have C5:Hid (Below v1.heap.size v1 w5):=C4.out.trans (b5.mono C4.out.size)
 have M5:=(show Hid _ from M4.out.below b5)
 have B5:Hid (Below w.heap.size w w5):=V1.out.trans (C5.out.mono V1.out.size)
 have J5:Hid (w5.heap[w2.heap.size]? = some (.cells #[.slice a0 n0 c0,.slice a1 n1 c1,.slice a2 n2 c2] 28 (0,0))):=(b5.block _ (size_of_at J4.out)).trans J4.out
 clear b5 M4 C4 J4 j0 j1 j2
 go_wp2_with fail
 refine (ci _ (HC.out.below B5.out)).mono ?_
 rintro e w6 L6
 obtain ⟨_,_,_,e0,f0,e1,f1,e2,f2,_,_,_,h6,_,rfl,b6⟩:=LH.out _ _ _ L6
 have S6:=(show Hid _ from h6)
 have B6:Hid (Below w5.heap.size w5 w6):=b6
 clear L6 h6 b6
 go_upto_region 16 with fail
 obtain ⟨v6,hv6⟩ : ∃ u,u=w6.alloc (.cells #[.slice e0 n0 f0,.slice e1 n1 f1,.slice e2 n2 f2] 28):=⟨_,rfl⟩
 rw [<- hv6]
 have T6:Hid (Below w6.heap.size w6 v6/\v6.heap[w6.heap.size]? = some (.cells #[.slice e0 n0 f0,.slice e1 n1 f1,.slice e2 n2 f2] 28 (0,0))):=(by rw [hv6];exact ⟨alloc_top.1,alloc_top.2⟩)
 clear hv6
 have D6:Hid (Below w5.heap.size w5 v6):=B6.out.trans (T6.out.1.mono B6.out.size)
 have C6:Hid (Below v1.heap.size v1 v6):=C5.out.trans (D6.out.mono C5.out.size)
 have M6:=(show Hid _ from M5.out.below D6.out)
 have J6:Hid (v6.heap[w2.heap.size]? = some (.cells #[.slice a0 n0 c0,.slice a1 n1 c1,.slice a2 n2 c2] 28 (0,0))):=(D6.out.block _ (size_of_at J5.out)).trans J5.out
 have S6':=(show Hid _ from Objr.Has.below S6.out T6.out.1)
 have X6:=(show Hid _ from (Objr.Has.below S1.out T1.out.1).below C6.out)
 have P6:Hid (v6.heap[w1.heap.size]? = some (.cells #[.slice p0 n0 d0,.slice p1 n1 d1,.slice p2 n2 d2] 28 (0,0))):=(C6.out.block _ T1.out.2.2).trans T1.out.2.1
 obtain ⟨k0,k1,k2⟩:=cel3 P6.out
 obtain ⟨j0,j1,j2⟩:=cel3 T6.out.2
 clear S6 B6 C5 M5 J5 D6
 go_wp2_with fail
 refine (ce _ _ _ _ _ _ _ _ _ _ _ _ _ S6'.out X6.out SM.out).mono ?_
 rintro e w7 ⟨rfl,b7⟩
 have C7:Hid (Below v1.heap.size v1 w7):=C6.out.trans (b7.mono C6.out.size)
 have M7:=(show Hid _ from M6.out.below b7)
 have J7:Hid (w7.heap[w2.heap.size]? = some (.cells #[.slice a0 n0 c0,.slice a1 n1 c1,.slice a2 n2 c2] 28 (0,0))):=(b7.block _ (size_of_at J6.out)).trans J6.out
 clear b7 M6 C6 S6' X6 P6 T6 k0 k1 k2 j0 j1 j2 J6
 obtain ⟨j0,j1,j2⟩:=cel3 J7.out
 go_wp2_with fail
 refine (chd _ M7.out).mono ?_
 rintro e w8 ⟨rfl,b8⟩
 have B8:Hid (Below w.heap.size w w8):=V1.out.trans ((C7.out.trans (b8.mono C7.out.size)).mono V1.out.size)
 clear b8 M7 C7 j0 j1 j2 J7
 go_wp2
 go_ret
 exact ⟨rfl,B8.out⟩
end Rmkh
end Go.Proofs.YtepafieckjnkdaaGreatDoor
