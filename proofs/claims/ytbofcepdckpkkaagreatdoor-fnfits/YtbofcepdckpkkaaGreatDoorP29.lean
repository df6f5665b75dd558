import Derived.Test.YtbofcepdckpkkaaGreatDoorP28
set_option linter.all false
set_option maxRecDepth 20000
set_option maxHeartbeats 8000000
open Go.ChangeShapes Go.WideShapes Go.ChangeAt Go.RowKit
open Go.Proofs.Tryz
namespace Go.Proofs.YtbofcepdckpkkaaGreatDoor
namespace Fitm
open Go.Deep
open HolI LenX InsX Texi Fits Rinst Fitd Fite Fitf Fitg Fith Fitl
open Stepx (Nodes)
theorem cel3 {W:World} {b:Nat} {x y z:Value} {T:TypeId} (h:W.heap[b]? = some (.cells #[x,y,z] T (0,0))):W.cell? ⟨b,0,none⟩=some x/\W.cell? ⟨b,1,none⟩=some y/\W.cell? ⟨b,2,none⟩=some z:=by
 refine ⟨?_,?_,?_⟩ <;> (rw [cell_of_row _ _ _ _ _ _ h];rfl)
theorem below_at {w w':World} {b:Nat} {o:Obj} (hb:Below w.heap.size w w') (h:w.heap[b]? = some o):w'.heap[b]? = some o:=(hb.block b (zLo h)).trans h
theorem told_un {c:Int} {b:Bool} {h:ByteArray} {L:List Stepx.Node} {f:Bool} {w w':World} {e:Ending} (t:Fitf.Told ⟨c,b,h,L,f⟩ w e w'):(∃ (a:Option Addr) (cap:Nat),e=.returned (.tuple #[.agg #[.int .i64 c,.bool b,.int .i64 0],.string h,.slice a L.length cap,.bool f])/\Nodes w' a L/\L.length<=30)/\Below w.heap.size w w':=t
theorem len_not {c:Int} {b:Bool} (h0:0<=c) (h1:c<=255) (h:¬ (Tmpl.tmplS c b).size=0):¬ lenV (none? c b) b (hole c b)=0:=by
 have hn:none? c b=false:=by
  unfold none?
  rw [show Signed.inB c 0 255=true from decide_eq_true ⟨h0,h1⟩]
  simpa using h
 rw [hn]
 unfold lenV
 rw [if_neg (by decide)]
 split
 ·decide
 split
 ·decide
 split <;> decide
theorem same_list (s:ByteArray):(s.toList == s.toList)=true:=by simp
theorem law_any (a0:Option Addr) (len0 cap0:Nat) (z0:List Int) (w:World) (h:Rdr.IsRow .u8 w a0 len0 cap0 z0) (hT:Tx w) (hP:Pow w) :
  Calls prog 3 #[.slice a0 len0 cap0] w fun e w'=>e=.returned (.bool true)/\Below w.heap.size w w':=by
 have HC:Hid (Tx w):=hT
 have HP:Hid (Pow w):=hP
 have H:Hid (Rdr.IsRow .u8 w a0 len0 cap0 z0):=h
 clear hT hP h
 have cb:=Rdr.big_any a0 len0 cap0 w H.out.len
 by_cases hbig:Rdr.bigB len0=true
 ·rw [hbig] at cb
  clear HC HP
  go_enter func3,ntmps3
  go_wp2_with (go_at_call 4;refine cb.mono ?_;rintro e w' ⟨rfl,rfl⟩)
  go_ret
  exact ⟨rfl,Below.refl _ _⟩
 have hbig:Rdr.bigB len0=false:=by simpa using hbig
 rw [hbig] at cb
 go_enter func3,ntmps3
 go_wp2_with fail
 refine cb.mono ?_
 rintro e w' ⟨rfl,rfl⟩
 clear cb
 go_wp2_with fail
 refine (Fiti.drawFit_any _ _ _ _ _ H.out).mono ?_
 rintro e w1 ⟨⟨s,hz,hsz,rfl⟩,b1⟩
 have B1:Hid (Below w'.heap.size w' w1):=b1
 have ci0:=fun w hT=>implFit_any s w hT (by omega)
 have cs0:=fun w=>specFit_any s w (by omega)
 rw [<- same_fit hz] at cs0
 have RP:=fun hf=>fit_prop (s:=s) hf
 generalize fitG (oI s) s=R at ci0 cs0 RP
 obtain ⟨c,b,h,L,f⟩:=R
 have RP:Hid (f=true->0<=c/\c<=255/\¬ (Tmpl.tmplS c b).size=0/\((h.size=0/\L=[]/\textV c b 0=s) \/ (¬ h.size=0/\¬ L.length=0))):=RP
 have ci:=fun w hT=>(ci0 w hT).mono fun e w' t=>told_un t
 have cs:=fun w=>(cs0 w).mono fun e w' t=>told_un t
 clear ci0 cs0 b1 hz
 obtain ⟨n,hn⟩ : ∃ n,n=L.length:=⟨_,rfl⟩
 have HN:Hid (n=L.length):=hn
 rw [<- hn] at ci cs
 have sm:=fun a cap a' cap' W h h' hl=>Sexp.sameExpr_any a a' cap cap' L W h h' hl
 rw [<- hn] at sm
 clear hn
 go_wp2_with fail
 refine (ci _ (HC.out.below B1.out)).mono ?_
 rintro e w2 ⟨⟨a2,cap2,rfl,hn2,hl2⟩,b2⟩
 have N2:Hid (Nodes w2 a2 L):=hn2
 have B2:Hid (Below w'.heap.size w' w2):=B1.out.trans (b2.mono B1.out.size)
 clear b2 hn2 ci B1
 go_upto_region 5 with fail
 obtain ⟨v2,hv2⟩ : ∃ u,u=w2.alloc (.cells #[.int .i64 c,.bool b,.int .i64 0] 26):=⟨_,rfl⟩
 rw [<- hv2]
 have T2:Hid (Below w2.heap.size w2 v2/\v2.heap[w2.heap.size]? = some (.cells #[.int .i64 c,.bool b,.int .i64 0] 26 (0,0))):=(by rw [hv2];exact ⟨zAl _ _,(MapKept.heap_alloc w2 _).1⟩)
 clear hv2
 have V2:Hid (Below w'.heap.size w' v2):=B2.out.trans (T2.out.1.mono B2.out.size)
 have M2:Hid (Nodes v2 a2 L):=Mirror.Nodes.below N2.out T2.out.1
 clear B2 N2
 go_wp2_with fail
 refine (cs _).mono ?_
 rintro e w3 ⟨⟨a3,cap3,rfl,hn3,_⟩,b3⟩
 have N3:Hid (Nodes w3 a3 L):=hn3
 have C3:Hid (Below v2.heap.size v2 w3):=b3
 clear b3 hn3 cs
 go_upto_region 6 with fail
 obtain ⟨v3,hv3⟩ : ∃ u,u=w3.alloc (.cells #[.int .i64 c,.bool b,.int .i64 0] 26):=⟨_,rfl⟩
 rw [<- hv3]
 have T3:Hid (Below w3.heap.size w3 v3/\v3.heap[w3.heap.size]? = some (.cells #[.int .i64 c,.bool b,.int .i64 0] 26 (0,0))):=(by rw [hv3];exact ⟨zAl _ _,(MapKept.heap_alloc w3 _).1⟩)
 clear hv3
 have C4:Hid (Below v2.heap.size v2 v3):=C3.out.trans (T3.out.1.mono C3.out.size)
 have V4:Hid (Below w'.heap.size w' v3):=V2.out.trans (C4.out.mono V2.out.size)
 have M3:Hid (Nodes v3 a3 L):=Mirror.Nodes.below N3.out T3.out.1
 have M4:Hid (Nodes v3 a2 L):=Mirror.Nodes.below M2.out C4.out
 have J2:Hid (v3.heap[w2.heap.size]? = some (.cells #[.int .i64 c,.bool b,.int .i64 0] 26 (0,0))):=below_at C4.out T2.out.2
 obtain ⟨i0,i1,i2⟩:=cel3 J2.out
 obtain ⟨j0,j1,j2⟩:=cel3 T3.out.2
 have t0:=same_list h
 have t1:(h.toList != h.toList)=false:=by rw [bne,t0];rfl
 have fb:(f != f)=false:=by cases f <;> rfl
 have bb:(b == b)=true:=by cases b <;> rfl
 have bn:(b != b)=false:=by cases b <;> rfl
 clear M2 V2 N3 C3 C4 T2
 go_wp2_with fail
 refine (sm _ _ _ _ _ M4.out M3.out (by have:=HN.out;omega)).mono ?_
 rintro e w4 ⟨rfl,b4⟩
 have V5:Hid (Below w'.heap.size w' w4):=V4.out.trans (b4.mono V4.out.size)
 have J3:Hid (w4.heap[w2.heap.size]? = some (.cells #[.int .i64 c,.bool b,.int .i64 0] 26 (0,0))):=below_at b4 J2.out
 clear b4 sm V4 J2 i0 i1 i2 j0 j1 j2 M3 M4 T3
 obtain ⟨i0,i1,i2⟩:=cel3 J3.out
 cases f with
 | false =>
  clear RP
  go_wp2_with fail
  refine (DrawZ.drawInsText_any _ _ _ _ _ (H.out.below V5.out)).mono ?_
  rintro e wA ⟨⟨c',b',m,x0,x1,hm,rfl⟩,bA⟩
  have BA:Hid (Below w'.heap.size w' wA):=V5.out.trans (bA.mono V5.out.size)
  have hz2:=DrawZ.text_small c' b' m x0 x1
  have OW:Hid (okV c' b' m=true->(fitG (oI (textV c' b' m)) (textV c' b' m)).f=true/\(fitG (oI (textV c' b' m)) (textV c' b' m)).c=c'/\(fitG (oI (textV c' b' m)) (textV c' b' m)).b=b'):=fun h=>own_fit h
  have ct2:=fun W hT hP hm=>Texj.implText_any c' b' m W hT hP hm
  have co:=fun W=>specOk_any c' b' m W
  have cf0:=fun W hT=>implFit_any (textV c' b' m) W hT (by omega)
  generalize textV c' b' m=t at *
  generalize fitG (oI t) t=R2 at *
  obtain ⟨c2,bb2,h2,L2,f2⟩:=R2
  have OW:Hid (okV c' b' m=true->f2=true/\c2=c'/\bb2=b'):=OW
  have cf:=fun W hT=>(cf0 W hT).mono fun e w' t=>told_un t
  generalize okV c' b' m=ok at *
  clear bA cf0 x0 x1 hm
  go_upto_region 11 with fail
  obtain ⟨vA,hvA⟩ : ∃ u,u=wA.alloc (.cells #[.int .i64 c',.bool b',.int .i64 m] 26):=⟨_,rfl⟩
  rw [<- hvA]
  have TA:Hid (Below wA.heap.size wA vA/\vA.heap[wA.heap.size]? = some (.cells #[.int .i64 c',.bool b',.int .i64 m] 26 (0,0))):=(by rw [hvA];exact ⟨zAl _ _,(MapKept.heap_alloc wA _).1⟩)
  clear hvA
  have BB:Hid (Below w'.heap.size w' vA):=BA.out.trans (TA.out.1.mono BA.out.size)
  obtain ⟨k0,k1,k2⟩:=cel3 TA.out.2
  clear BA
  go_wp2_with fail
  refine (ct2 _ (HC.out.below BB.out).part (HP.out.below BB.out) (HC.out.below BB.out).ml).mono ?_
  rintro e wB ⟨rfl,bB⟩
  have BC:Hid (Below w'.heap.size w' wB):=BB.out.trans (bB.mono BB.out.size)
  have CB:Hid (Below vA.heap.size vA wB):=bB
  clear bB ct2 BB k0 k1 k2
  go_wp2_with fail
  refine (cf _ (HC.out.below BC.out)).mono ?_
  rintro e wC ⟨⟨aC,capC,rfl,_,_⟩,bC⟩
  have BD:Hid (Below w'.heap.size w' wC):=BC.out.trans (bC.mono BC.out.size)
  have CC:Hid (Below vA.heap.size vA wC):=CB.out.trans (bC.mono CB.out.size)
  clear bC cf BC CB
  generalize L2.length=nL at *
  go_upto_region 12 with fail
  obtain ⟨vC,hvC⟩ : ∃ u,u=wC.alloc (.cells #[.int .i64 c2,.bool bb2,.int .i64 0] 26):=⟨_,rfl⟩
  rw [<- hvC]
  have TC:Hid (Below wC.heap.size wC vC/\vC.heap[wC.heap.size]? = some (.cells #[.int .i64 c2,.bool bb2,.int .i64 0] 26 (0,0))):=(by rw [hvC];exact ⟨zAl _ _,(MapKept.heap_alloc wC _).1⟩)
  clear hvC
  have BE:Hid (Below w'.heap.size w' vC):=BD.out.trans (TC.out.1.mono BD.out.size)
  have CD:Hid (Below vA.heap.size vA vC):=CC.out.trans (TC.out.1.mono CC.out.size)
  have KA:Hid (vC.heap[wA.heap.size]? = some (.cells #[.int .i64 c',.bool b',.int .i64 m] 26 (0,0))):=below_at CD.out TA.out.2
  have KC:Hid (vC.heap[wC.heap.size]? = some (.cells #[.int .i64 c2,.bool bb2,.int .i64 0] 26 (0,0))):=TC.out.2
  obtain ⟨k0,k1,k2⟩:=cel3 KA.out
  obtain ⟨l0,l1,l2⟩:=cel3 KC.out
  clear BD CC CD TA TC
  go_wp2_with fail
  refine (co _).mono ?_
  rintro e wD ⟨rfl,bD⟩
  have BF:Hid (Below w'.heap.size w' wD):=BE.out.trans (bD.mono BE.out.size)
  have KB:Hid (wD.heap[wA.heap.size]? = some (.cells #[.int .i64 c',.bool b',.int .i64 m] 26 (0,0))):=below_at bD KA.out
  have KD:Hid (wD.heap[wC.heap.size]? = some (.cells #[.int .i64 c2,.bool bb2,.int .i64 0] 26 (0,0))):=below_at bD KC.out
  clear bD co KA KC BE k0 k1 k2 l0 l1 l2
  obtain ⟨k0,k1,k2⟩:=cel3 KB.out
  obtain ⟨l0,l1,l2⟩:=cel3 KD.out
  cases ok with
  | false =>
   go_wp2_with fail
   go_ret
   exact ⟨rfl,BF.out⟩
  | true =>
   obtain ⟨o1,o2,o3⟩:=OW.out rfl
   subst o1
   subst o2
   subst o3
   have b9:(bb2 == bb2)=true:=by cases bb2 <;> rfl
   go_wp2_with fail
   go_ret
   exact ⟨rfl,BF.out⟩
 | true =>
  obtain ⟨c0,c1,hTn,hp⟩:=RP.out rfl
  have cl:=fun W hm=>implLength_any c b W hm
  have hLn:=len_not c0 c1 hTn
  generalize lenV (none? c b) b (hole c b)=N at cl hLn
  have hLb:(N == 0)=false:=by simpa using hLn
  have HPp:Hid ((h.size=0/\L=[]/\textV c b 0=s) \/ (¬ h.size=0/\¬ L.length=0)):=hp
  clear RP hp hTn
  go_wp2_with fail
  refine (cl _ (HC.out.below V5.out).ml).mono ?_
  rintro e w5 ⟨rfl,b5⟩
  have V6:Hid (Below w'.heap.size w' w5):=V5.out.trans (b5.mono V5.out.size)
  have J4:Hid (w5.heap[w2.heap.size]? = some (.cells #[.int .i64 c,.bool b,.int .i64 0] 26 (0,0))):=below_at b5 J3.out
  clear b5 cl V5 J3 i0 i1 i2
  obtain ⟨i0,i1,i2⟩:=cel3 J4.out
  rcases HPp.out with ⟨p1,p2,p3⟩|⟨p1,p2⟩
  ·have he:=Leng.empty_yes p1
   have hn0:n=0:=by rw [HN.out,p2];rfl
   subst hn0
   have ct:=fun W hT hP hm=>Texj.implText_any c b 0 W hT hP hm
   rw [p3] at ct
   have s0:=same_list s
   have s1:(s.toList != s.toList)=false:=by rw [bne,s0];rfl
   clear p1 p2 p3 HPp
   go_wp2_with fail
   refine (ct _ (HC.out.below V6.out).part (HP.out.below V6.out) (HC.out.below V6.out).ml).mono ?_
   rintro e w6 ⟨rfl,b6⟩
   have V7:Hid (Below w'.heap.size w' w6):=V6.out.trans (b6.mono V6.out.size)
   clear b6 ct V6 J4 i0 i1 i2
   go_wp2_with fail
   refine (DrawZ.drawInsText_any _ _ _ _ _ (H.out.below V7.out)).mono ?_
   rintro e wA ⟨⟨c',b',m,x0,x1,hm,rfl⟩,bA⟩
   have BA:Hid (Below w'.heap.size w' wA):=V7.out.trans (bA.mono V7.out.size)
   have hz2:=DrawZ.text_small c' b' m x0 x1
   have OW:Hid (okV c' b' m=true->(fitG (oI (textV c' b' m)) (textV c' b' m)).f=true/\(fitG (oI (textV c' b' m)) (textV c' b' m)).c=c'/\(fitG (oI (textV c' b' m)) (textV c' b' m)).b=b'):=fun h=>own_fit h
   have ct2:=fun W hT hP hm=>Texj.implText_any c' b' m W hT hP hm
   have co:=fun W=>specOk_any c' b' m W
   have cf0:=fun W hT=>implFit_any (textV c' b' m) W hT (by omega)
   generalize textV c' b' m=t at *
   generalize fitG (oI t) t=R2 at *
   obtain ⟨c2,bb2,h2,L2,f2⟩:=R2
   have OW:Hid (okV c' b' m=true->f2=true/\c2=c'/\bb2=b'):=OW
   have cf:=fun W hT=>(cf0 W hT).mono fun e w' t=>told_un t
   generalize okV c' b' m=ok at *
   clear bA cf0 x0 x1 hm
   go_upto_region 11 with fail
   obtain ⟨vA,hvA⟩ : ∃ u,u=wA.alloc (.cells #[.int .i64 c',.bool b',.int .i64 m] 26):=⟨_,rfl⟩
   rw [<- hvA]
   have TA:Hid (Below wA.heap.size wA vA/\vA.heap[wA.heap.size]? = some (.cells #[.int .i64 c',.bool b',.int .i64 m] 26 (0,0))):=(by rw [hvA];exact ⟨zAl _ _,(MapKept.heap_alloc wA _).1⟩)
   clear hvA
   have BB:Hid (Below w'.heap.size w' vA):=BA.out.trans (TA.out.1.mono BA.out.size)
   obtain ⟨k0,k1,k2⟩:=cel3 TA.out.2
   clear BA
   go_wp2_with fail
   refine (ct2 _ (HC.out.below BB.out).part (HP.out.below BB.out) (HC.out.below BB.out).ml).mono ?_
   rintro e wB ⟨rfl,bB⟩
   have BC:Hid (Below w'.heap.size w' wB):=BB.out.trans (bB.mono BB.out.size)
   have CB:Hid (Below vA.heap.size vA wB):=bB
   clear bB ct2 BB k0 k1 k2
   go_wp2_with fail
   refine (cf _ (HC.out.below BC.out)).mono ?_
   rintro e wC ⟨⟨aC,capC,rfl,_,_⟩,bC⟩
   have BD:Hid (Below w'.heap.size w' wC):=BC.out.trans (bC.mono BC.out.size)
   have CC:Hid (Below vA.heap.size vA wC):=CB.out.trans (bC.mono CB.out.size)
   clear bC cf BC CB
   generalize L2.length=nL at *
   go_upto_region 12 with fail
   obtain ⟨vC,hvC⟩ : ∃ u,u=wC.alloc (.cells #[.int .i64 c2,.bool bb2,.int .i64 0] 26):=⟨_,rfl⟩
   rw [<- hvC]
   have TC:Hid (Below wC.heap.size wC vC/\vC.heap[wC.heap.size]? = some (.cells #[.int .i64 c2,.bool bb2,.int .i64 0] 26 (0,0))):=(by rw [hvC];exact ⟨zAl _ _,(MapKept.heap_alloc wC _).1⟩)
   clear hvC
   have BE:Hid (Below w'.heap.size w' vC):=BD.out.trans (TC.out.1.mono BD.out.size)
   have CD:Hid (Below vA.heap.size vA vC):=CC.out.trans (TC.out.1.mono CC.out.size)
   have KA:Hid (vC.heap[wA.heap.size]? = some (.cells #[.int .i64 c',.bool b',.int .i64 m] 26 (0,0))):=below_at CD.out TA.out.2
   have KC:Hid (vC.heap[wC.heap.size]? = some (.cells #[.int .i64 c2,.bool bb2,.int .i64 0] 26 (0,0))):=TC.out.2
   obtain ⟨k0,k1,k2⟩:=cel3 KA.out
   obtain ⟨l0,l1,l2⟩:=cel3 KC.out
   clear BD CC CD TA TC
   go_wp2_with fail
   refine (co _).mono ?_
   rintro e wD ⟨rfl,bD⟩
   have BF:Hid (Below w'.heap.size w' wD):=BE.out.trans (bD.mono BE.out.size)
   have KB:Hid (wD.heap[wA.heap.size]? = some (.cells #[.int .i64 c',.bool b',.int .i64 m] 26 (0,0))):=below_at bD KA.out
   have KD:Hid (wD.heap[wC.heap.size]? = some (.cells #[.int .i64 c2,.bool bb2,.int .i64 0] 26 (0,0))):=below_at bD KC.out
   clear bD co KA KC BE k0 k1 k2 l0 l1 l2
   obtain ⟨k0,k1,k2⟩:=cel3 KB.out
   obtain ⟨l0,l1,l2⟩:=cel3 KD.out
   cases ok with
   | false =>
    go_wp2_with fail
    go_ret
    exact ⟨rfl,BF.out⟩
   | true =>
    obtain ⟨o1,o2,o3⟩:=OW.out rfl
    subst o1
    subst o2
    subst o3
    have b9:(bb2 == bb2)=true:=by cases bb2 <;> rfl
    go_wp2_with fail
    go_ret
    exact ⟨rfl,BF.out⟩
  ·have he:=Leng.empty_no p1
   have hn0:¬ n=0:=by rw [HN.out];exact p2
   have hn1:((n:Int) == 0)=false:=by simpa using hn0
   have hn2:decide ((n:Int)=0)=false:=decide_eq_false (by omega)
   clear p1 p2 HPp
   go_wp2_with fail
   refine (DrawZ.drawInsText_any _ _ _ _ _ (H.out.below V6.out)).mono ?_
   rintro e wA ⟨⟨c',b',m,x0,x1,hm,rfl⟩,bA⟩
   have BA:Hid (Below w'.heap.size w' wA):=V6.out.trans (bA.mono V6.out.size)
   have hz2:=DrawZ.text_small c' b' m x0 x1
   have OW:Hid (okV c' b' m=true->(fitG (oI (textV c' b' m)) (textV c' b' m)).f=true/\(fitG (oI (textV c' b' m)) (textV c' b' m)).c=c'/\(fitG (oI (textV c' b' m)) (textV c' b' m)).b=b'):=fun h=>own_fit h
   have ct2:=fun W hT hP hm=>Texj.implText_any c' b' m W hT hP hm
   have co:=fun W=>specOk_any c' b' m W
   have cf0:=fun W hT=>implFit_any (textV c' b' m) W hT (by omega)
   generalize textV c' b' m=t at *
   generalize fitG (oI t) t=R2 at *
   obtain ⟨c2,bb2,h2,L2,f2⟩:=R2
   have OW:Hid (okV c' b' m=true->f2=true/\c2=c'/\bb2=b'):=OW
   have cf:=fun W hT=>(cf0 W hT).mono fun e w' t=>told_un t
   generalize okV c' b' m=ok at *
   clear bA cf0 x0 x1 hm
   go_upto_region 11 with fail
   obtain ⟨vA,hvA⟩ : ∃ u,u=wA.alloc (.cells #[.int .i64 c',.bool b',.int .i64 m] 26):=⟨_,rfl⟩
   rw [<- hvA]
   have TA:Hid (Below wA.heap.size wA vA/\vA.heap[wA.heap.size]? = some (.cells #[.int .i64 c',.bool b',.int .i64 m] 26 (0,0))):=(by rw [hvA];exact ⟨zAl _ _,(MapKept.heap_alloc wA _).1⟩)
   clear hvA
   have BB:Hid (Below w'.heap.size w' vA):=BA.out.trans (TA.out.1.mono BA.out.size)
   obtain ⟨k0,k1,k2⟩:=cel3 TA.out.2
   clear BA
   go_wp2_with fail
   refine (ct2 _ (HC.out.below BB.out).part (HP.out.below BB.out) (HC.out.below BB.out).ml).mono ?_
   rintro e wB ⟨rfl,bB⟩
   have BC:Hid (Below w'.heap.size w' wB):=BB.out.trans (bB.mono BB.out.size)
   have CB:Hid (Below vA.heap.size vA wB):=bB
   clear bB ct2 BB k0 k1 k2
   go_wp2_with fail
   refine (cf _ (HC.out.below BC.out)).mono ?_
   rintro e wC ⟨⟨aC,capC,rfl,_,_⟩,bC⟩
   have BD:Hid (Below w'.heap.size w' wC):=BC.out.trans (bC.mono BC.out.size)
   have CC:Hid (Below vA.heap.size vA wC):=CB.out.trans (bC.mono CB.out.size)
   clear bC cf BC CB
   generalize L2.length=nL at *
   go_upto_region 12 with fail
   obtain ⟨vC,hvC⟩ : ∃ u,u=wC.alloc (.cells #[.int .i64 c2,.bool bb2,.int .i64 0] 26):=⟨_,rfl⟩
   rw [<- hvC]
   have TC:Hid (Below wC.heap.size wC vC/\vC.heap[wC.heap.size]? = some (.cells #[.int .i64 c2,.bool bb2,.int .i64 0] 26 (0,0))):=(by rw [hvC];exact ⟨zAl _ _,(MapKept.heap_alloc wC _).1⟩)
   clear hvC
   have BE:Hid (Below w'.heap.size w' vC):=BD.out.trans (TC.out.1.mono BD.out.size)
   have CD:Hid (Below vA.heap.size vA vC):=CC.out.trans (TC.out.1.mono CC.out.size)
   have KA:Hid (vC.heap[wA.heap.size]? = some (.cells #[.int .i64 c',.bool b',.int .i64 m] 26 (0,0))):=below_at CD.out TA.out.2
   have KC:Hid (vC.heap[wC.heap.size]? = some (.cells #[.int .i64 c2,.bool bb2,.int .i64 0] 26 (0,0))):=TC.out.2
   obtain ⟨k0,k1,k2⟩:=cel3 KA.out
   obtain ⟨l0,l1,l2⟩:=cel3 KC.out
   clear BD CC CD TA TC
   go_wp2_with fail
   refine (co _).mono ?_
   rintro e wD ⟨rfl,bD⟩
   have BF:Hid (Below w'.heap.size w' wD):=BE.out.trans (bD.mono BE.out.size)
   have KB:Hid (wD.heap[wA.heap.size]? = some (.cells #[.int .i64 c',.bool b',.int .i64 m] 26 (0,0))):=below_at bD KA.out
   have KD:Hid (wD.heap[wC.heap.size]? = some (.cells #[.int .i64 c2,.bool bb2,.int .i64 0] 26 (0,0))):=below_at bD KC.out
   clear bD co KA KC BE k0 k1 k2 l0 l1 l2
   obtain ⟨k0,k1,k2⟩:=cel3 KB.out
   obtain ⟨l0,l1,l2⟩:=cel3 KD.out
   cases ok with
   | false =>
    go_wp2_with fail
    go_ret
    exact ⟨rfl,BF.out⟩
   | true =>
    obtain ⟨o1,o2,o3⟩:=OW.out rfl
    subst o1
    subst o2
    subst o3
    have b9:(bb2 == bb2)=true:=by cases bb2 <;> rfl
    go_wp2_with fail
    go_ret
    exact ⟨rfl,BF.out⟩
end Fitm
end Go.Proofs.YtbofcepdckpkkaaGreatDoor
