import Derived.Test.YtickfkphhngagaaGreatDoorP26
set_option linter.all false
set_option maxRecDepth 20000
set_option maxHeartbeats 8000000
open Go.ChangeShapes Go.WideShapes Go.ChangeAt Go.RowKit
open Go.Proofs.Tryz
namespace Go.Proofs.YtickfkphhngagaaGreatDoor
namespace Rime
open Go.Deep
open Rown Rowo Rliq Rlip Rlsa Rima Rimb Rimc
open Wors (outI)
open Worr (W)
open Otxa (after)
theorem SN_len (s:ByteArray):(SN s).length<=3:=by
 have:=Lib.splitB_length_le Worr.sp 0 (min 3 (s.size+1)-1) s
 unfold SN;omega
theorem SN_sz (s:ByteArray) (i:Nat):(gt (SN s) i).size<=s.size:=by
 unfold gt
 rw [List.getD_eq_getElem?_getD]
 cases hk:(SN s)[i]? with
 | none=>exact Nat.zero_le _
 | some y=>exact SN_le _ s y (List.mem_of_getElem? hk)
theorem splitN_any (s:ByteArray) (w:World) (hs:s.size<=1048576) (hm:Wort.MaxL w) :
  Calls prog 104 #[.string s,.string ⟨#[32]⟩,.int .i64 3] w fun e w'=>(∃ c,(SN s).length<=c/\e=.returned (.slice (some ⟨w.heap.size,0,none⟩) (SN s).length c))/\Below w.heap.size w w'/\w'.heap.size=w.heap.size+1/\∀ i,i<(SN s).length->w'.cell? ⟨w.heap.size,i,none⟩=some (.string (gt (SN s) i)):=by
 obtain ⟨m,hm⟩:=hm
 refine (Tryz.strings_SplitN s ⟨#[32]⟩ 3 m w (by omega) hm (by decide) (by decide) (by decide)).mono ?_
 rintro e w' ⟨rfl,rfl⟩
 refine ⟨⟨_,?_,rfl⟩,zAl _ _,by simp,fun i hi=>?_⟩
 ·have:=Lib.splitB_length_le Worr.sp 0 (min 3 (s.size+1)-1) s
  unfold SN;omega
 rw [World.cell?_alloc_new]
 unfold Lib.cellsOf
 have hi':i<((SN s).map Value.string).length:=by rw [List.length_map];exact hi
 have e:(Lib.splitB ⟨#[32]⟩ 0 (min 3 (s.size+1)-1) s)=SN s:=rfl
 rw [e,List.getElem?_toArray,List.getElem?_append_left hi',List.getElem?_eq_getElem hi',List.getElem_map,gt_at hi]
theorem readPatch_any (bs db:Nat) (bx:List Nat) (sv:Value) (ss:List Sd) (yv:Value) (ys:List Osyr.X) (av:Value) (aa:List Ad) (s:ByteArray) (w:World) (h:Dr bs db bx sv ss yv ys av aa w) (hbs:bs<=w.heap.size) (hC:Cx w) (hs:s.size<=1048576) (hla:ss.length<=100000) (hlp:∀ x ∈ ss,x.ps.length<=100000) :
  Calls prog 64 #[.pointer (some ⟨db,0,none⟩),.string s] w (PostI bs db w (patI (objX ss ys aa) s)):=by
 obtain ⟨R,hR⟩ : ∃ R,R=patI (objX ss ys aa) s:=⟨_,rfl⟩
 rw [<- hR]
 have HR:Hid (R=patI (objX ss ys aa) s):=hR
 have HD:=(show Hid _ from h)
 have HB:Hid (bs<=w.heap.size):=hbs
 have HC:=(show Hid _ from hC)
 have cs:=splitN_any s w hs hC.ml
 obtain ⟨n,hn⟩ : ∃ n,(SN s).length=n:=⟨_,rfl⟩
 have HN:Hid ((SN s).length=n):=hn
 rw [hn] at cs
 have hn3:n<=3:=by rw [<- hn];exact SN_len s
 have HZ:Hid (∀ i,(gt (SN s) i).size<=1048576):=fun i=>by have:=SN_sz s i;omega
 clear hn hR
 by_cases hk:ss.length=0
 ·have hss:ss=[]:=List.eq_nil_of_length_eq_zero hk
  obtain ⟨a0,c0,hav⟩:=own_slice h.sec
  rw [hk] at hav
  subst hav
  have k0:∀ u,Below w.heap.size w u->u.cell? ⟨db,0,none⟩=some (.slice a0 0 c0):=fun u hu=>by rw [cell_of_row _ _ _ _ _ _ (HD.out.below hu).cd];rfl
  have HK:=(show Hid _ from k0)
  have HN0:Hid (R=none):=(show R=none from by rw [HR.out];unfold patI;rw [if_pos (.inl (by show (ss.map Sd.x).length=0;rw [List.length_map];exact hk))])
  clear h hbs hC k0 hk hss HR hla hlp
  go_enter func64,ntmps64
  go_wp2_with fail
  refine cs.mono ?_
  rintro e w1 ⟨⟨c,_,rfl⟩,b1,_,_⟩
  have B1:Hid (Below w.heap.size w w1):=b1
  clear b1 cs
  go_wp2_with fail
  refine (Rlas.last_none db a0 c0 w1 (HK.out w1 B1.out)).mono ?_
  rintro e w2 ⟨rfl,q,rfl⟩
  go_wp2
  go_ret
  exact ⟨KB.of HB.out (Seco.drewN_below B1.out q),by rw [HN0.out];rfl⟩
 obtain ⟨S,s0,hss⟩ : ∃ S s0,ss=S ++ [s0]:=by
  rcases List.eq_nil_or_concat ss with e|⟨S,s0,e⟩
  ·exact absurd (by rw [e];rfl) hk
  ·exact ⟨S,s0,by rw [e,List.concat_eq_append]⟩
 obtain ⟨B0,b0,hbx⟩ : ∃ B0 b0,bx=B0 ++ [b0]:=by
  rcases List.eq_nil_or_concat bx with e|⟨B0,b0,e⟩
  ·exact absurd (by rw [<- h.len,e];rfl) hk
  ·exact ⟨B0,b0,by rw [e,List.concat_eq_append]⟩
 subst hss hbx
 obtain ⟨k,hkS⟩ : ∃ k,k=S.length:=⟨_,rfl⟩
 have HKS:Hid (S.length=k):=hkS.symm
 have hBl:B0.length=S.length:=by have:=h.len;simp at this;omega
 have HBL:Hid (B0.length=S.length):=hBl
 obtain ⟨g0,c0,hv0,hb0,hg0⟩:=World.ownsRow.form h.sec (by simp)
 have hlen:(S ++ [s0]).length=k+1:=by simp [hkS]
 rw [hlen] at hv0 hla
 subst hv0
 obtain ⟨nm,sk,sb,sa,sd,pv,ps⟩:=s0
 obtain ⟨pa,pc,hpv⟩:=own_slice (h.rw.pat ⟨nm,sk,sb,sa,sd,pv,ps⟩ (by simp))
 have hpv:pv=.slice pa ps.length pc:=hpv
 subst hpv
 have lp:ps.length<=100000:=hlp ⟨nm,sk,sb,sa,sd,.slice pa ps.length pc,ps⟩ (by simp)
 have k0:∀ u,Below w.heap.size w u->u.cell? ⟨db,0,none⟩=some (.slice (some ⟨g0,0,none⟩) (k+1) c0)/\u.cell? ⟨g0,k,none⟩=some (.pointer (some ⟨b0,0,none⟩))/\u.heap[b0]? = some (.cells #[.string nm,.int .i64 sk,.int .i64 sb,.int .i64 sa,.string sd,.slice pa ps.length pc] 38 (0,0)):=fun u hu=>by
  have hd:=HD.out.below hu
  refine ⟨by rw [cell_of_row _ _ _ _ _ _ hd.cd];rfl,?_,?_⟩
  ·have hsec:=hd.sec
   rw [hlen] at hsec
   refine (row_cells hsec).2.2.2 k _ ?_
   rw [List.map_append,List.getElem?_append_right (by simp [hBl,hkS])]
   simp [hBl,hkS]
  ·have:=(hd.box S.length (by simp)).2
   rw [snocD,hBl,if_neg (Nat.lt_irrefl _),if_pos rfl,List.getElem_append_right (Nat.le_refl _)] at this
   simp only [Nat.sub_self,List.getElem_cons_zero] at this
   exact this
 have HK:=(show Hid _ from k0)
 clear h hbs hC k0 hk hkS hBl hb0 hg0 hlen hlp
 go_enter func64,ntmps64
 go_wp2_with fail
 refine cs.mono ?_
 rintro e w1 ⟨⟨c,hc,rfl⟩,b1,zz1,x1⟩
 have B1:Hid (Below w.heap.size w w1):=b1
 have Z1:Hid (w1.heap.size=w.heap.size+1):=zz1
 have X1:Hid (∀ i,i<n->w1.cell? ⟨w.heap.size,i,none⟩=some (.string (gt (SN s) i))):=x1
 clear b1 zz1 x1 cs
 go_wp2_with fail
 refine (Rlas.last_some db g0 k c0 (.pointer (some ⟨b0,0,none⟩)) w1 (by omega) (HK.out w1 B1.out).1 (HK.out w1 B1.out).2.1).mono ?_
 rintro e w2 ⟨rfl,q,hw2⟩
 have B2':Hid (Below w1.heap.size w1 w2):=(show Below _ _ _ from by rw [hw2];exact Seco.drewN_below zRf q)
 have Z2:Hid (w2.heap.size=w.heap.size+1):=(show _=_ from by rw [hw2];exact Z1.out)
 have B2:Hid (Below w.heap.size w w2):=B1.out.trans (B2'.out.mono (by have:=Z1.out;omega))
 have X2:Hid (∀ i,i<n->w2.cell? ⟨w.heap.size,i,none⟩=some (.string (gt (SN s) i))):=fun i hi=>(B2'.out.cell (p:=⟨w.heap.size,i,none⟩) (by have:=Z1.out;show w.heap.size<_;omega)).trans (X1.out i hi)
 clear hw2 B2' X1 B1 Z1
 by_cases h3:¬ n=3
 ·have d3:decide ((n:Int)=3)=false:=decide_eq_false (by omega)
  have d3':((n:Int) == 3)=false:=by simp;omega
  have HN0:Hid (R=none):=(show R=none from by rw [HR.out];unfold patI;rw [if_pos (.inr (by rw [HN.out];exact h3))])
  clear HR
  go_wp2
  go_ret
  exact ⟨KB.of HB.out B2.out,by rw [HN0.out];rfl⟩
 have h3:n=3:=Decidable.of_not_not h3
 subst h3
 have x2:=X2.out 2 (by omega)
 have z2:=HZ.out 2
 have d0:decide ((3:Int)=3)=true:=rfl
 have lw:w.heap.size<w2.heap.size:=by rw [Z2.out];omega
 have xa:∀ o,(w2.alloc o).cell? ⟨w.heap.size,2,none⟩=some (.string (gt (SN s) 2)):=fun o=>(((Below.refl w2.heap.size w2).alloc (Nat.le_refl _) o).cell (p:=⟨w.heap.size,2,none⟩) lw).trans x2
 have LW:=(show Hid _ from lw)
 obtain ⟨q5,hq5⟩ : ∃ q,(outI (gt (SN s) 2)).isSome=q:=⟨_,rfl⟩
 obtain ⟨L,hL⟩ : ∃ L,Wors.lst (outI (gt (SN s) 2))=L:=⟨_,rfl⟩
 have H5:Hid ((outI (gt (SN s) 2)).isSome=q5/\Wors.lst (outI (gt (SN s) 2))=L):=⟨hq5,hL⟩
 have ce:=fun W (hc:Cx W)=>Wort.implRead_any (gt (SN s) 2) W z2 hc.op hc.pow hc.hex hc.ml
 unfold Wors.Left at ce
 rw [hq5,hL] at ce
 clear hq5 hL z2 lw
 generalize hg2:gt (SN s) 2=X at x2 xa ce
 have HG2:Hid (gt (SN s) 2=X):=hg2
 have PB:Hid (∀ o,Below w2.heap.size w2 (w2.alloc o)):=fun o=>zAl _ _
 have HPB:Hid (∀ o,(w2.alloc o).heap[w2.heap.size]? = some o):=fun o=>heap_alloc_last w2 o
 clear hg2
 go_wp2_with fail
 refine (ce _ (HC.out.below (B2.out.trans ((PB.out _).mono B2.out.size)))).mono ?_
 rintro e w4 ⟨ae,ce',rfl,oe,ze,le,b4⟩
 have B4':Hid (Below w2.heap.size w2 w4):=(PB.out _).trans (b4.mono (PB.out _).size)
 have B4:Hid (Below w.heap.size w w4):=B2.out.trans (B4'.out.mono B2.out.size)
 have CB:Hid (w4.heap[w2.heap.size]? = some (.cells #[.int .i64 0,.int .i64 0,.slice none 0 0] 80 (0,0))):=(b4.block _ (by simp)).trans (HPB.out _)
 have Z4:Hid (w2.heap.size<w4.heap.size):=(show _<_ from by have:=b4.size;simp at this;omega)
 have HAP:=(show Hid _ from (HD.out.below (B2.out.trans ((PB.out _).mono B2.out.size))).rw.fresh oe)
 have HEX:Hid (w4.ownsRow (w2.heap.size+1) 122 3 (.slice ae L.length ce') L.length (Nodm.cellsOf L)/\∀ x ∈ L,x.2.2.size<=1048576):=⟨own_mono (by simp) oe,ze⟩
 have X4:Hid (∀ i,i<3->w4.cell? ⟨w.heap.size,i,none⟩=some (.string (gt (SN s) i))):=fun i hi=>(B4'.out.cell (p:=⟨w.heap.size,i,none⟩) LW.out).trans (X2.out i hi)
 clear oe ze le b4 ce x2 xa X2 PB HPB
 obtain ⟨nE,hnE⟩ : ∃ n,n=L.length:=⟨_,rfl⟩
 have HE1:Hid (nE=L.length):=hnE
 rw [<- hnE] at HEX HAP |-
 clear hnE
 cases q5 with
 | false =>
  have HN0:Hid (R=none):=(show R=none from by
   rw [HR.out];unfold patI;rw [if_neg (by rintro (q|q);exact absurd q (by show ¬ ((S ++ [_]).map Sd.x).length=0;simp);exact q HN.out),opt_no H5.out.1])
  clear HR
  go_wp2
  go_ret
  exact ⟨KB.of HB.out B4.out,by rw [HN0.out];rfl⟩
 | true =>
  have HL:Hid (∀ o,Below w4.heap.size w4 (w4.alloc o)):=fun o=>zAl _ _
  have cn:Calls prog 103 #[.slice (some ⟨w.heap.size,0,none⟩) 2 c,.slice (some ⟨w4.heap.size,0,none⟩) 2 2] (w4.alloc (.cells #[.pointer (some ⟨w2.heap.size,0,none⟩),.pointer (some ⟨w2.heap.size,1,none⟩)] 130)) (ToldN (w4.alloc (.cells #[.pointer (some ⟨w2.heap.size,0,none⟩),.pointer (some ⟨w2.heap.size,1,none⟩)] 130)) w2.heap.size 80 #[.int .i64 0,.int .i64 0,.slice none 0 0] [0,1] [gt (SN s) 0,gt (SN s) 1]):=by
   have z2:=Z2.out
   have z4:=Z4.out
   have hE:=(HC.out.below B4.out).er
   refine numbers_any w.heap.size 0 c w4.heap.size 2 w2.heap.size 80 #[.int .i64 0,.int .i64 0,.slice none 0 0] [0,1] [gt (SN s) 0,gt (SN s) 1] _ (hE.below (HL.out _)) (fun i hi=>?_) (fun i hi=>?_) ?_ (fun i hi=>?_) (by omega) (by omega) (by simp) (fun i hi=>?_) rfl ?_
   ·have hi:i<2:=hi
    refine ((HL.out _).cell (p:=⟨w.heap.size,0+i,none⟩) (by show w.heap.size<w4.heap.size;omega)).trans ((X4.out (0+i) (by omega)).trans ?_)
    match i,hi with
    | 0,_=>rfl
    | 1,_=>rfl
   ·have hi:i<2:=hi
    rw [World.cell?_alloc_new]
    match i,hi with
    | 0,_=>rfl
    | 1,_=>rfl
   ·exact ((HL.out _).block _ (by omega)).trans CB.out
   ·have hi:i<2:=hi
    match i,hi with
    | 0,_=>exact (by decide:0<3)
    | 1,_=>exact (by decide:1<3)
   ·have hi:i<2:=hi
    match i,hi with
    | 0,_=>exact HZ.out 0
    | 1,_=>exact HZ.out 1
   ·obtain ⟨⟨t,p,e1⟩,⟨t',p',e2⟩⟩:=HC.out.er
    have l1:=World.block_lt_of_cell? w ⟨_,0,none⟩ e1
    have l2:=World.block_lt_of_cell? w ⟨_,0,none⟩ e2
    have l1:4<w.heap.size:=l1
    have l2:5<w.heap.size:=l2
    omega
  have FN:Hid (∀ (e:Ending) (u:World),ToldN (w4.alloc (.cells #[.pointer (some ⟨w2.heap.size,0,none⟩),.pointer (some ⟨w2.heap.size,1,none⟩)] 130)) w2.heap.size 80 #[.int .i64 0,.int .i64 0,.slice none 0 0] [0,1] [gt (SN s) 0,gt (SN s) 1] e u->Below w.heap.size w u/\u.ownsRow (w2.heap.size+1) 122 3 (.slice ae nE ce') nE (Nodm.cellsOf L)/\((e=.returned (.bool false)/\R=none) \/ (e=.returned (.bool true)/\∃ m1 m2,R=some (objX (S ++ [⟨nm,sk,sb,sa,sd,.slice pa ps.length pc,ps ++ [⟨m1,m2,L,.slice ae nE ce'⟩]⟩]) ys aa)/\u.heap[w2.heap.size]? = some (.cells #[.int .i64 m1,.int .i64 m2,.slice none 0 0] 80 (0,0))))):=fun e u hN=>by
   have z2:=Z2.out
   have z4:=Z4.out
   obtain ⟨hg3,hN⟩:=hN
   have BL:Below w.heap.size w (w4.alloc (.cells #[.pointer (some ⟨w2.heap.size,0,none⟩),.pointer (some ⟨w2.heap.size,1,none⟩)] 130)):=B4.out.trans ((HL.out _).mono (by omega))
   refine ⟨BL.grown hg3 (by simp;omega) (fun r hr=>by cases hr;omega),((HEX.out.1).alloc _).kept hg3 ?_,?_⟩
   ·cases hb:(Value.slice ae nE ce').ownBlock with
    | none=>exact .inl rfl
    | some g=>exact .inr (fun q=>by have:=(HEX.out.1.lt g hb).1;have:=Option.some.inj q;omega)
   rcases hN with ⟨rfl,hq⟩|⟨rfl,i,hi,hnone⟩
   ·right
    have y1:(numP (gt (SN s) 0)).isSome=true:=hq.y 0 (by simp)
    have y2:(numP (gt (SN s) 1)).isSome=true:=hq.y 1 (by simp)
    obtain ⟨m1,hm1⟩:=Option.isSome_iff_exists.1 y1
    obtain ⟨m2,hm2⟩:=Option.isSome_iff_exists.1 y2
    obtain ⟨D,hD⟩:=Option.isSome_iff_exists.1 H5.out.1
    have hDL:D=L:=by have h:=H5.out.2;rw [hD] at h;exact h
    refine ⟨rfl,m1,m2,?_,?_⟩
    ·rw [HR.out];unfold patI;rw [if_neg (by rintro (q|q);exact absurd q (by show ¬ ((S ++ [_]).map Sd.x).length=0;simp);exact q HN.out),hD,hm1,hm2,hDL]
     unfold objX
     rw [List.map_append,List.map_append]
     show some (Objr.X.mk (addP (S.map Sd.x ++ [Sd.x ⟨nm,sk,sb,sa,sd,.slice pa ps.length pc,ps⟩]) _) _ _)=_
     rw [addP_on]
     show _=some (Objr.X.mk (S.map Sd.x ++ [Sd.x ⟨nm,sk,sb,sa,sd,.slice pa ps.length pc,ps ++ [⟨m1,m2,L,.slice ae nE ce'⟩]⟩]) _ _)
     unfold Sd.x
     simp only [List.map_append,List.map_cons,List.map_nil,Pd.x]
    ·have h:u.heap[w2.heap.size]? = some (.cells (putN #[.int .i64 0,.int .i64 0,.slice none 0 0] [0,1] [gt (SN s) 0,gt (SN s) 1] 2) 80 (0,0)):=hq.c
     have e:putN #[.int .i64 0,.int .i64 0,.slice none 0 0] [0,1] [gt (SN s) 0,gt (SN s) 1] 2=#[.int .i64 ((numP (gt (SN s) 0)).getD 0),.int .i64 ((numP (gt (SN s) 1)).getD 0),.slice none 0 0]:=rfl
     rw [e,hm1,hm2] at h
     exact h
   ·left
    refine ⟨rfl,?_⟩
    rw [HR.out];unfold patI;rw [if_neg (by rintro (q|q);exact absurd q (by show ¬ ((S ++ [_]).map Sd.x).length=0;simp);exact q HN.out)]
    have hi:i<2:=hi
    match i,hi with
    | 0,_ =>
     have h:numP (gt (SN s) 0)=none:=hnone
     rw [h];cases outI (gt (SN s) 2) <;> rfl
    | 1,_ =>
     have h:numP (gt (SN s) 1)=none:=hnone
     rw [h];cases outI (gt (SN s) 2) <;> cases numP (gt (SN s) 0) <;> rfl
  have c2:(2:Int)<=(c:Int):=by omega
  cases R with
  | none =>
   have cn0:Calls prog 103 #[.slice (some ⟨w.heap.size,0,none⟩) 2 c,.slice (some ⟨w4.heap.size,0,none⟩) 2 2] (w4.alloc (.cells #[.pointer (some ⟨w2.heap.size,0,none⟩),.pointer (some ⟨w2.heap.size,1,none⟩)] 130)) fun e u=>e=.returned (.bool false)/\Below w.heap.size w u:=cn.mono (fun e u hN=>by
    obtain ⟨b5,_,hc⟩:=FN.out e u hN
    rcases hc with ⟨rfl,_⟩|⟨rfl,m1,m2,hR1,_⟩
    ·exact ⟨rfl,b5⟩
    ·cases hR1)
   clear cn FN HL CB X4 HR
   go_wp2_with (go_at_call 103;refine cn0.mono ?_;rintro e w5 ⟨rfl,b5⟩;have B5:Hid (Below w.heap.size w w5):=b5;clear b5)
   go_ret
   exact ⟨KB.of HB.out B5.out,rfl⟩
  | some x =>
   have cn1:Calls prog 103 #[.slice (some ⟨w.heap.size,0,none⟩) 2 c,.slice (some ⟨w4.heap.size,0,none⟩) 2 2] (w4.alloc (.cells #[.pointer (some ⟨w2.heap.size,0,none⟩),.pointer (some ⟨w2.heap.size,1,none⟩)] 130)) fun e u=>e=.returned (.bool true)/\Below w.heap.size w u/\u.ownsRow (w2.heap.size+1) 122 3 (.slice ae nE ce') nE (Nodm.cellsOf L)/\∃ m1 m2 v,some x=some (objX (S ++ [⟨nm,sk,sb,sa,sd,.slice pa ps.length pc,ps ++ [⟨m1,m2,L,.slice ae nE ce'⟩]⟩]) ys aa)/\u.heap[w2.heap.size]? = some (.cells #[.int .i64 m1,.int .i64 m2,.slice none 0 0] 80 (0,0))/\u.cell? ⟨w2.heap.size,2,none⟩=some v/\u.frozen? ⟨w2.heap.size,2,none⟩=false:=cn.mono (fun e u hN=>by
    obtain ⟨b5,o5,hc⟩:=FN.out e u hN
    rcases hc with ⟨rfl,hno⟩|⟨rfl,m1,m2,hR1,hc1⟩
    ·cases hno
    ·exact ⟨rfl,b5,o5,m1,m2,.slice none 0 0,hR1,hc1,by rw [cell_of_row _ _ _ _ _ _ hc1];rfl,frozen_of_row _ _ _ _ _ hc1⟩)
   clear cn FN HL CB X4 HR
   go_upto_region 10 with (go_at_call 103;refine cn1.mono ?_;rintro e w5 ⟨rfl,b5,o5,m1,m2,v2,hR1,hc1,s2,f2⟩;have B5:Hid (Below w.heap.size w w5):=b5;have O5:=(show Hid _ from o5);have HR1:Hid (some x=_):=hR1;have C5:Hid (w5.heap[w2.heap.size]? = _):=hc1;clear b5 o5 hR1 hc1)
   have W6:Hid (∀ u,u=w5.setCell ⟨w2.heap.size,2,none⟩ (.slice ae nE ce')->Below w.heap.size w u/\u.heap[w2.heap.size]? = some (.cells #[.int .i64 m1,.int .i64 m2,.slice ae nE ce'] 80 (0,0))/\u.ownsRow (w2.heap.size+1) 122 3 (.slice ae nE ce') nE (Nodm.cellsOf L)):=fun u hu=>by
    subst hu
    refine ⟨B5.out.setCell (p:=⟨w2.heap.size,2,none⟩) (show w.heap.size<=w2.heap.size by have:=Z2.out;omega) _,heap_setCell_same _ _ _ _ _ _ C5.out,World.ownsRow.kept O5.out (Nodm.grown_set _ _ _ _) ?_⟩
    cases hb:(Value.slice ae nE ce').ownBlock with
    | none=>exact Or.inl rfl
    | some g =>
     refine Or.inr (fun q=>?_)
     have:=(World.ownsRow.lt O5.out g hb).1
     have:=Option.some.inj q
     omega
   obtain ⟨w6,hw6⟩ : ∃ u,u=w5.setCell ⟨w2.heap.size,2,none⟩ (.slice ae nE ce'):=⟨_,rfl⟩
   rw [<- hw6]
   obtain ⟨b6,c6,o6⟩:=W6.out w6 hw6
   have B6:Hid (Below w.heap.size w w6):=b6
   have C6:Hid (w6.heap[w2.heap.size]? = _):=c6
   have O6:=(show Hid _ from o6)
   have D6:=(show Hid _ from HD.out.below b6)
   clear hw6 b6 c6 o6 W6 s2 f2 v2
   have p0:w6.cell? ⟨w2.heap.size,0,none⟩=some (.int .i64 m1):=by rw [cell_of_row _ _ _ _ _ _ C6.out];rfl
   have p1:w6.cell? ⟨w2.heap.size,1,none⟩=some (.int .i64 m2):=by rw [cell_of_row _ _ _ _ _ _ C6.out];rfl
   have p2:w6.cell? ⟨w2.heap.size,2,none⟩=some (.slice ae nE ce'):=by rw [cell_of_row _ _ _ _ _ _ C6.out];rfl
   have h0:=(HK.out w6 B6.out).2.2
   have y5:w6.cell? ⟨b0,5,none⟩=some (.slice pa ps.length pc):=by rw [cell_of_row _ _ _ _ _ _ h0];rfl
   have lb0:b0<w6.heap.size:=(zLo h0)
   obtain ⟨i0,hi,hz0,hz1,hz2⟩:=info_parts infoP
   have GB:Hid (∀ o,Below w6.heap.size w6 ((w6.alloc o).drew)):=fun o=>(zAl _ _).drew
   have OWN:Hid (∀ o,((w6.alloc o).drew).ownsRow bs 80 3 (.slice pa ps.length pc) ps.length (ps.flatMap Pd.cells)):=fun o=>(D6.out.below (GB.out o)).rw.pat ⟨nm,sk,sb,sa,sd,.slice pa ps.length pc,ps⟩ (by simp)
   have hbs6:Hid (∀ o,bs<=((w6.alloc o).drew).heap.size):=fun o=>by have:=HB.out;have:=B6.out.size;have:=(GB.out o).size;omega
   have FIN:Hid (∀ (o:Obj) (w7:World) (g' c':Nat),w7.ownsRow bs 80 3 (.slice (some ⟨g',0,none⟩) (ps.length+1) c') (ps.length+1) (ps.flatMap Pd.cells ++ [.int .i64 m1,.int .i64 m2,.slice ae nE ce'])->((w6.alloc o).drew).grownBy w7 (Value.slice pa ps.length pc).ownBlock->((Value.slice pa ps.length pc).ownBlock=some g' \/ g'=((w6.alloc o).drew).heap.size) ->
     Dr bs db (B0 ++ [b0]) (.slice (some ⟨g0,0,none⟩) (k+1) c0) (S ++ [⟨nm,sk,sb,sa,sd,.slice (some ⟨g',0,none⟩) (ps.length+1) c',ps ++ [⟨m1,m2,L,.slice ae nE ce'⟩]⟩]) yv ys av aa (w7.setCell ⟨b0,5,none⟩ (.slice (some ⟨g',0,none⟩) (ps.length+1) c'))/\KB bs db w (w7.setCell ⟨b0,5,none⟩ (.slice (some ⟨g',0,none⟩) (ps.length+1) c'))/\w7.cell? ⟨b0,5,none⟩=some (.slice pa ps.length pc)/\w7.frozen? ⟨b0,5,none⟩=false):=fun o w7 g' c' ho hg hv=>by
    have hd:=D6.out.below (GB.out o)
    obtain ⟨q1,q2⟩:=hd.addP HBL.out ⟨m1,m2,L,.slice ae nE ce'⟩ (⟨by
     have h:=own_mono (b':=bs) (by have:=HB.out;have:=Z2.out;omega) (own_below O6.out (GB.out o))
     rw [HE1.out] at h |-
     exact h,HEX.out.2⟩) HAP.out ho hg (hv.elim (fun e=>.inl e.symm) (fun e=>.inr (by rw [<- e];rfl)))
    have q2:w7.heap[b0]? = some (.cells #[.string nm,.int .i64 sk,.int .i64 sb,.int .i64 sa,.string sd,.slice pa ps.length pc] 38 (0,0)):=q2
    refine ⟨q1,?_,by rw [cell_of_row _ _ _ _ _ _ q2];rfl,frozen_of_row _ _ _ _ _ q2⟩
    have hbb:bs<=b0:=by
     have:=(HD.out.box S.length (by simp)).1
     rw [snocD,HBL.out,if_neg (Nat.lt_irrefl _),if_pos rfl] at this
     exact this
    have k1:=(KB.of (db:=db) HB.out (B6.out.trans ((GB.out o).mono B6.out.size))).trans (KB.grown (hbs6.out o) hg (fun r hr=>((OWN.out o).lt r hr).1))
    refine k1.trans (KB.grown (by have:=k1.size;have:=HB.out;omega) (Nodm.grown_set _ _ _ _) (fun r hr=>by cases hr;exact hbb))
   have kA:∀ o,(w6.alloc o).cell? ⟨b0,5,none⟩=some (.slice pa ps.length pc):=fun o=>(((Below.refl w6.heap.size w6).alloc (Nat.le_refl _) o).cell (p:=⟨b0,5,none⟩) lb0).trans y5
   have hl63:ps.length+1<=maxLen:=by unfold maxLen;omega
   clear GB h0 lb0 HAP
   go_wp2_with fail
   go_region_law (first
    | (refine step_append_lies _ rfl (.tmp 45) (.tmp 47) 36 rfl bs 80 i0 (.agg #[.int .i64 0,.int .i64 0,.slice none 0 0]) 3 40 underlying36 hi hz0 hz1 hz2 rfl (by decide) (.slice pa ps.length pc) ps.length (ps.flatMap Pd.cells) rfl (OWN.out _) ⟨w6.heap.size,0,none⟩ 1 1 [.int .i64 m1,.int .i64 m2,.slice ae nE ce'] rfl rfl (newN w6 [.int .i64 m1,.int .i64 m2,.slice ae nE ce'] 80) (by intro u hu;simp at hu;rcases hu with rfl|rfl|rfl <;> rfl) (by decide) hl63 (by omega) (hbs6.out _) _ rfl ?_;intro g' c' w7 hown' hgrow hat hlt';obtain ⟨p7,kb7,d0,f0⟩:=FIN.out _ w7 g' c' hown' hgrow (by first|exact hat|simpa using hat);have S7:=(show Hid _ from And.intro p7 kb7);clear p7 kb7 hown' hgrow hat hlt')
    | fail)
   all_goals
    go_wp2
    go_ret
    refine ⟨S7.out.2,?_⟩
    rw [HR1.out]
    exact ⟨_,_,_,yv,ys,av,aa,by unfold objX;rw [List.map_append,List.map_append];rfl,S7.out.1,rfl⟩
end Rime
namespace Rimf
open Go.Deep
open Rown Rowo Rliq Rlip Rlsa Rima Rimb Rimc Otxp
open Wors (outI)
open Worr (W)
open Otxa (after)
theorem cut_any (s:ByteArray) (c:UInt8) (w:World) (hs:s.size<=1048576) (hm:Wort.MaxL w) :
  Calls prog 23 #[.string s,.string ⟨#[c]⟩] w fun e w'=>e=.returned (.tuple #[.string (bA c s),.string (bB c s),.bool (bF c s)])/\Below w.heap.size w w':=by
 obtain ⟨m,hm⟩:=hm
 have cc:=Tryz.strings_Cut s ⟨#[c]⟩ m w (by omega) hm
 rw [show (⟨#[c]⟩ : ByteArray).data.toList=[c] from rfl,Rlip.cut_brk] at cc
 refine cc.mono ?_
 rintro e w' ⟨he,n,rfl⟩
 exact ⟨he,Seco.drewN_below zRf n⟩
theorem post_ret {bs db:Nat} {w w':World} {X:Option Objr.X} {e:Ending} (h:PostI bs db w X e w'):e=.returned (.bool X.isSome):=by
 unfold PostI at h
 cases X with
 | none=>exact h.2
 | some x=>obtain ⟨_,_,_,_,_,_,_,_,_,_,he⟩:=h;exact he
theorem post_pre {bs db:Nat} {u w w':World} {X:Option Objr.X} {e:Ending} (hk:KB bs db u w) (h:PostI bs db w X e w'):PostI bs db u X e w':=⟨hk.trans h.1,h.2⟩
theorem lineI_no {o:Objr.X} {l:ByteArray} (h1:¬ bA 32 l=wSection) (h2:¬ bA 32 l=wPatch) (h3:¬ bA 32 l=wSymbol) (h4:¬ bA 32 l=wAssert):lineI o l=none:=by unfold lineI;rw [if_neg h1,if_neg h2,if_neg h3,if_neg h4]
theorem read_any (bs db:Nat) (bx:List Nat) (sv:Value) (ss:List Sd) (yv:Value) (ys:List Osyr.X) (av:Value) (aa:List Ad) (l:ByteArray) (m:Nat) (w:World) (h:Dr bs db bx sv ss yv ys av aa w) (hbs:bs<=w.heap.size) (hC:Cx w) (hl:l.size<=1048576) (hm:m<=100000) (hS:Sm m (objX ss ys aa)) :
  Calls prog 24 #[.pointer (some ⟨db,0,none⟩),.string l] w (PostI bs db w (lineI (objX ss ys aa) l)):=by
 have ls:ss.length<=100000:=by have:=hS.s;have e:(objX ss ys aa).f0.length=ss.length:=List.length_map ..;omega
 have ly:ys.length<=100000:=by have:=hS.y;have e:(objX ss ys aa).f1=ys:=rfl;rw [e] at this;omega
 have la:aa.length<=100000:=by have:=hS.a;have e:(objX ss ys aa).f2.length=aa.length:=List.length_map ..;omega
 have lp:∀ x ∈ ss,x.ps.length<=100000:=fun x hx=>by
  have h:=(hS.sx (Sd.x x) (List.mem_map_of_mem hx)).2.2
  have e:(Sd.x x).f5.length=x.ps.length:=List.length_map ..
  omega
 have zB:(bB 32 l).size<=1048576:=by have:=bB_le 32 l;omega
 have cc:=cut_any l 32 w hl hC.ml
 have CS:Hid (∀ W,Below w.heap.size w W->Calls prog 63 #[.pointer (some ⟨db,0,none⟩),.string (bB 32 l)] W (PostI bs db W (secI (objX ss ys aa) (bB 32 l)))):=fun W hb=>Rimd.readSection_any bs db bx sv ss yv ys av aa _ W (h.below hb) (Nat.le_trans hbs hb.size) (hC.below hb) zB ls
 have CP:Hid (∀ W,Below w.heap.size w W->Calls prog 64 #[.pointer (some ⟨db,0,none⟩),.string (bB 32 l)] W (PostI bs db W (patI (objX ss ys aa) (bB 32 l)))):=fun W hb=>Rime.readPatch_any bs db bx sv ss yv ys av aa _ W (h.below hb) (Nat.le_trans hbs hb.size) (hC.below hb) zB ls lp
 have CY:Hid (∀ W,Below w.heap.size w W->Calls prog 65 #[.pointer (some ⟨db,0,none⟩),.string (bB 32 l)] W (PostI bs db W (symI (objX ss ys aa) (bB 32 l)))):=fun W hb=>readSymbol_any bs db bx sv ss yv ys av aa _ W (h.below hb) (Nat.le_trans hbs hb.size) (hC.below hb) zB ly
 have CA:Hid (∀ W,Below w.heap.size w W->Calls prog 66 #[.pointer (some ⟨db,0,none⟩),.string (bB 32 l)] W (PostI bs db W (assI (objX ss ys aa) (bB 32 l)))):=fun W hb=>readAssert_any bs db bx sv ss yv ys av aa _ W (h.below hb) (Nat.le_trans hbs hb.size) (hC.below hb) zB la
 have HB:Hid (bs<=w.heap.size):=hbs
 obtain ⟨R,hR⟩ : ∃ R,R=lineI (objX ss ys aa) l:=⟨_,rfl⟩
 rw [<- hR]
 have HR:Hid (R=lineI (objX ss ys aa) l):=hR
 obtain ⟨X,hX⟩ : ∃ X,bA 32 l=X:=⟨_,rfl⟩
 have HX:Hid (bA 32 l=X):=hX
 rw [hX] at cc
 obtain ⟨Y,hY⟩ : ∃ Y,bB 32 l=Y:=⟨_,rfl⟩
 have HY:Hid (bB 32 l=Y):=hY
 rw [hY] at cc CS CP CY CA
 obtain ⟨f,hf⟩ : ∃ f,bF 32 l=f:=⟨_,rfl⟩
 rw [hf] at cc
 clear hR hX hY hf h hbs hC hS ls ly la lp zB hl hm
 obtain ⟨t1,t2,t3,t4,e1,e2,e3,e4,hc⟩:=Rlsb.tests X
 rcases hc with ⟨rfl,rfl,rfl,rfl,hx⟩|⟨rfl,rfl,rfl,rfl,hx⟩|⟨rfl,rfl,rfl,rfl,hx⟩|⟨rfl,rfl,rfl,rfl,hx⟩|⟨rfl,rfl,rfl,rfl,hx1,hx2,hx3,hx4⟩
 ·have HR1:Hid (R=secI (objX ss ys aa) Y):=(show R=_ from by rw [HR.out];unfold lineI;rw [if_pos (by rw [HX.out];exact hx),HY.out])
  clear HR hx
  go_enter func24,ntmps24
  go_wp2_with fail
  refine cc.mono ?_
  rintro e w1 ⟨rfl,b1⟩
  have B1:Hid (Below w.heap.size w w1):=b1
  clear b1 cc
  go_wp2_with fail
  refine (CS.out _ B1.out).mono ?_
  intro e w2 hp
  rw [<- HR1.out] at hp
  have hp2:=post_pre (KB.of HB.out B1.out) hp
  have he:=post_ret hp
  have HP:=(show Hid _ from hp2)
  clear hp hp2 HR1
  generalize hq:R.isSome=q at he
  subst he
  clear hq
  go_wp2
  go_ret
  exact HP.out
 ·have HR1:Hid (R=patI (objX ss ys aa) Y):=(show R=_ from by rw [HR.out];unfold lineI;rw [if_neg (by rw [HX.out,hx];decide),if_pos (by rw [HX.out];exact hx),HY.out])
  clear HR hx
  go_enter func24,ntmps24
  go_wp2_with fail
  refine cc.mono ?_
  rintro e w1 ⟨rfl,b1⟩
  have B1:Hid (Below w.heap.size w w1):=b1
  clear b1 cc
  go_wp2_with fail
  refine (CP.out _ B1.out).mono ?_
  intro e w2 hp
  rw [<- HR1.out] at hp
  have hp2:=post_pre (KB.of HB.out B1.out) hp
  have he:=post_ret hp
  have HP:=(show Hid _ from hp2)
  clear hp hp2 HR1
  generalize hq:R.isSome=q at he
  subst he
  clear hq
  go_wp2
  go_ret
  exact HP.out
 ·have HR1:Hid (R=symI (objX ss ys aa) Y):=(show R=_ from by rw [HR.out];unfold lineI;rw [if_neg (by rw [HX.out,hx];decide),if_neg (by rw [HX.out,hx];decide),if_pos (by rw [HX.out];exact hx),HY.out])
  clear HR hx
  go_enter func24,ntmps24
  go_wp2_with fail
  refine cc.mono ?_
  rintro e w1 ⟨rfl,b1⟩
  have B1:Hid (Below w.heap.size w w1):=b1
  clear b1 cc
  go_wp2_with fail
  refine (CY.out _ B1.out).mono ?_
  intro e w2 hp
  rw [<- HR1.out] at hp
  have hp2:=post_pre (KB.of HB.out B1.out) hp
  have he:=post_ret hp
  have HP:=(show Hid _ from hp2)
  clear hp hp2 HR1
  generalize hq:R.isSome=q at he
  subst he
  clear hq
  go_wp2
  go_ret
  exact HP.out
 ·have HR1:Hid (R=assI (objX ss ys aa) Y):=(show R=_ from by rw [HR.out];unfold lineI;rw [if_neg (by rw [HX.out,hx];decide),if_neg (by rw [HX.out,hx];decide),if_neg (by rw [HX.out,hx];decide),if_pos (by rw [HX.out];exact hx),HY.out])
  clear HR hx
  go_enter func24,ntmps24
  go_wp2_with fail
  refine cc.mono ?_
  rintro e w1 ⟨rfl,b1⟩
  have B1:Hid (Below w.heap.size w w1):=b1
  clear b1 cc
  go_wp2_with fail
  refine (CA.out _ B1.out).mono ?_
  intro e w2 hp
  rw [<- HR1.out] at hp
  have hp2:=post_pre (KB.of HB.out B1.out) hp
  have he:=post_ret hp
  have HP:=(show Hid _ from hp2)
  clear hp hp2 HR1
  generalize hq:R.isSome=q at he
  subst he
  clear hq
  go_wp2
  go_ret
  exact HP.out
 ·have HN0:Hid (R=none):=(show R=none from by rw [HR.out];exact lineI_no (by rw [HX.out];exact hx1) (by rw [HX.out];exact hx2) (by rw [HX.out];exact hx3) (by rw [HX.out];exact hx4))
  clear HR hx1 hx2 hx3 hx4
  go_enter func24,ntmps24
  go_wp2_with fail
  refine cc.mono ?_
  rintro e w1 ⟨rfl,b1⟩
  have B1:Hid (Below w.heap.size w w1):=b1
  clear b1 cc
  go_wp2
  go_ret
  exact ⟨KB.of HB.out B1.out,by rw [HN0.out];rfl⟩
end Rimf
end Go.Proofs.YtickfkphhngagaaGreatDoor
