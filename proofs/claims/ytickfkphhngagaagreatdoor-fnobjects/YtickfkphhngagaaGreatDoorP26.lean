import Derived.Test.YtickfkphhngagaaGreatDoorP25
import Derived.Deep.DeepCutAuto
set_option linter.all false
set_option maxRecDepth 20000
set_option maxHeartbeats 8000000
open Go.ChangeShapes Go.WideShapes Go.ChangeAt Go.RowKit
open Go.Proofs.Tryz
namespace Go.Proofs.YtickfkphhngagaaGreatDoor
namespace Rimc
open Go.Deep
open Rown Rowo Rliq Rlip Rlsa Rima Rimb
open Wors (outI)
open Worr (W)
open Otxa (after)
structure Cx (w:World):Prop where
 op:Optx.OpTab w
 pow:Optx.Pow w
 hex:Nums.Tab w
 ml:Wort.MaxL w
 er:Er w
theorem Cx.below {w w':World} (h:Cx w) (hb:Below w.heap.size w w'):Cx w':=⟨h.op.below hb,h.pow.below hb,Nodi.tab_below h.hex hb,h.ml.below hb,h.er.below hb⟩
theorem readAssert_any (bs db:Nat) (bx:List Nat) (sv:Value) (ss:List Sd) (yv:Value) (ys:List Osyr.X) (av:Value) (aa:List Ad) (s:ByteArray) (w:World) (h:Dr bs db bx sv ss yv ys av aa w) (hbs:bs<=w.heap.size) (hC:Cx w) (hs:s.size<=1048576) (hla:aa.length<=100000) :
  Calls prog 66 #[.pointer (some ⟨db,0,none⟩),.string s] w (PostI bs db w (assI (objX ss ys aa) s)):=by
 obtain ⟨a2,c2,hav⟩:=own_slice h.rw.ass
 obtain ⟨nA,hnA⟩ : ∃ n,n=aa.length:=⟨_,rfl⟩
 have HNA:Hid (nA=aa.length):=hnA
 rw [<- hnA] at hav hla
 subst hav
 obtain ⟨R,hR⟩ : ∃ R,R=assI (objX ss ys aa) s:=⟨_,rfl⟩
 rw [<- hR]
 have HR:Hid (R=assI (objX ss ys aa) s):=hR
 obtain ⟨q5,hq5⟩ : ∃ q,(outI s).isSome=q:=⟨_,rfl⟩
 obtain ⟨L,hL⟩ : ∃ L,Wors.lst (outI s)=L:=⟨_,rfl⟩
 have H5:Hid ((outI s).isSome=q5/\Wors.lst (outI s)=L):=⟨hq5,hL⟩
 have ce:=Wort.implRead_any s w hs hC.op hC.pow hC.hex hC.ml
 unfold Wors.Left at ce
 rw [hq5,hL] at ce
 have HD:=(show Hid _ from h)
 have HB:Hid (bs<=w.heap.size):=hbs
 clear hq5 hL hR hnA h hbs hC
 go_enter func66,ntmps66
 go_wp2_with fail
 refine ce.mono ?_
 rintro e w6 ⟨ae,ce',rfl,oe,ze,le,b6⟩
 have D6:=(show Hid _ from HD.out.below b6)
 have B6:Hid (Below w.heap.size w w6):=b6
 have HE:Hid (ExOwn w6 bs (.slice ae L.length ce') L):=⟨own_mono HB.out oe,ze⟩
 have HAP:=(show Hid _ from HD.out.rw.fresh oe)
 clear oe ze le b6 ce
 obtain ⟨nE,hnE⟩ : ∃ n,n=L.length:=⟨_,rfl⟩
 rw [<- hnE] at HE HAP |-
 clear hnE
 have k2:w6.cell? ⟨db,2,none⟩=some (.slice a2 nA c2):=by rw [cell_of_row _ _ _ _ _ _ D6.out.cd];rfl
 obtain ⟨i0,hi,hz0,hz1,hz2⟩:=info_parts infoE
 have GB:Hid (∀ o,Below w6.heap.size w6 (w6.alloc o)):=fun o=>zAl _ _
 have OWN:Hid (∀ o,(w6.alloc o).ownsRow bs 67 1 (.slice a2 nA c2) nA (aa.map (·.e))):=fun o=>by
  have h:=(D6.out.below (GB.out o)).rw.ass
  rwa [<- HNA.out] at h
 have hbs6:Hid (∀ o,bs<=(w6.alloc o).heap.size):=fun o=>by have:=HB.out;have:=B6.out.size;have:=(GB.out o).size;omega
 have FIN:Hid (∀ (o:Obj) (w7:World) (g' c':Nat),w7.ownsRow bs 67 1 (.slice (some ⟨g',0,none⟩) (nA+1) c') (nA+1) (aa.map (·.e) ++ [.slice ae nE ce'])->(w6.alloc o).grownBy w7 (Value.slice a2 nA c2).ownBlock ->
   Dr bs db bx sv ss yv ys (.slice (some ⟨g',0,none⟩) (nA+1) c') (aa ++ [⟨L,.slice ae nE ce'⟩]) (w7.setCell ⟨db,2,none⟩ (.slice (some ⟨g',0,none⟩) (nA+1) c'))/\KB bs db w (w7.setCell ⟨db,2,none⟩ (.slice (some ⟨g',0,none⟩) (nA+1) c'))/\w7.cell? ⟨db,2,none⟩=some (.slice a2 nA c2)/\w7.frozen? ⟨db,2,none⟩=false):=fun o w7 g' c' ho hg=>by
  have hd:=D6.out.below (GB.out o)
  obtain ⟨p1,p2⟩:=hd.addA ⟨L,.slice ae nE ce'⟩ ⟨own_below HE.out.1 (GB.out o),HE.out.2⟩ (fun u hu=>(HAP.out u hu).1) (by rw [<- HNA.out];exact ho) hg
  refine ⟨p1,?_,by rw [cell_of_row _ _ _ _ _ _ p2];rfl,frozen_of_row _ _ _ _ _ p2⟩
  exact ((KB.of HB.out (B6.out.trans ((GB.out o).mono B6.out.size))).trans (KB.grown (hbs6.out o) hg (fun r hr=>((OWN.out o).lt r hr).1))).trans KB.cell
 have kA:∀ o,(w6.alloc o).cell? ⟨db,2,none⟩=some (.slice a2 nA c2):=fun o=>((GB.out o).cell (p:=⟨db,2,none⟩) (zLo D6.out.cd)).trans k2
 have hl63:nA+1<=maxLen:=by unfold maxLen;omega
 clear GB
 go_wp2_with (first|(at_builtin;refine wpList_append_lies _ rfl (.tmp 16) (.tmp 18) 24 rfl bs 67 i0 (.slice none 0 0) 1 24 underlying24 hi hz0 hz1 hz2 rfl (by decide) (.slice a2 nA c2) nA (aa.map (·.e)) rfl (OWN.out _) ⟨w6.heap.size,0,none⟩ 1 1 [.slice ae nE ce'] rfl rfl (newP w6 [.slice ae nE ce'] 67) (by intro u hu;simp at hu;subst hu;rfl) (by decide) hl63 (by omega) (hbs6.out _) _ rfl ?_)|fail)
 intro g' c' w7 hown' hgrow hat hlt'
 obtain ⟨p7,kb7,d0,f0⟩:=FIN.out _ w7 g' c' hown' hgrow
 have S7:=(show Hid _ from And.intro p7 kb7)
 clear p7 kb7 hown' hgrow hat hlt'
 go_wp2
 go_ret
 refine ⟨S7.out.2,?_⟩
 rw [HR.out]
 unfold assI
 cases hO:outI s with
 | none =>
  have hq:q5=false:=by rw [<- H5.out.1,hO];rfl
  rw [hq];rfl
 | some D =>
  have hq:q5=true:=by rw [<- H5.out.1,hO];rfl
  have hDL:D=L:=by have h:=H5.out.2;rw [hO] at h;exact h
  rw [hq,hDL]
  exact ⟨bx,sv,ss,yv,ys,_,_,by unfold objX;rw [List.map_append];rfl,S7.out.1,rfl⟩
theorem gt_w {L:List ByteArray} {i:Nat} (h:i<L.length):(L.map Value.string).toArray[i]? = some (.string (gt L i)):=by
 rw [gt_at h];simp [h]
theorem W_sz (s:ByteArray) (i:Nat):(gt (W s) i).size<=s.size:=by
 unfold gt
 rw [List.getD_eq_getElem?_getD]
 cases hk:(W s)[i]? with
 | none=>exact Nat.zero_le _
 | some y=>exact Wors.W_le _ s (Nat.le_refl _) y (List.mem_of_getElem? hk)
theorem readSymbol_any (bs db:Nat) (bx:List Nat) (sv:Value) (ss:List Sd) (yv:Value) (ys:List Osyr.X) (av:Value) (aa:List Ad) (s:ByteArray) (w:World) (h:Dr bs db bx sv ss yv ys av aa w) (hbs:bs<=w.heap.size) (hC:Cx w) (hs:s.size<=1048576) (hla:ys.length<=100000) :
  Calls prog 65 #[.pointer (some ⟨db,0,none⟩),.string s] w (PostI bs db w (symI (objX ss ys aa) s)):=by
 obtain ⟨a1,c1,hav⟩:=own_slice h.rw.sym
 obtain ⟨nY,hnY⟩ : ∃ n,n=ys.length:=⟨_,rfl⟩
 have HNY:Hid (nY=ys.length):=hnY
 rw [<- hnY] at hav hla
 subst hav
 obtain ⟨R,hR⟩ : ∃ R,R=symI (objX ss ys aa) s:=⟨_,rfl⟩
 rw [<- hR]
 have HR:Hid (R=symI (objX ss ys aa) s):=hR
 have HD:=(show Hid _ from h)
 have HB:Hid (bs<=w.heap.size):=hbs
 have HC:=(show Hid _ from hC)
 have cs:=Wort.split_any s w hs hC.ml
 obtain ⟨n,hn⟩ : ∃ n,(W s).length=n:=⟨_,rfl⟩
 have HN:Hid ((W s).length=n):=hn
 rw [hn] at cs
 have HZ:Hid (∀ i,(gt (W s) i).size<=1048576):=fun i=>by have:=W_sz s i;omega
 have hnl:n<=1048577:=by have:=Wort.W_len_le s;omega
 clear hn hR hnY h hbs hC
 go_enter func65,ntmps65
 go_wp2_with fail
 refine cs.mono ?_
 rintro e w1 ⟨rfl,hw1⟩
 have B1:Hid (Below w.heap.size w w1):=(show Below _ _ _ from by rw [hw1];exact zAl _ _)
 have Z1:Hid (w1.heap.size=w.heap.size+1):=(show _=_ from by rw [hw1];simp)
 have X1:Hid (∀ i,i<n->w1.cell? ⟨w.heap.size,i,none⟩=some (.string (gt (W s) i))):=fun i hi=>by rw [hw1,World.cell?_alloc_new];exact gt_w (by rw [HN.out];exact hi)
 clear hw1 cs
 by_cases h4:n=4
 ·have d4:decide ((n:Int)=4)=true:=decide_eq_true (by omega)
  have d4':((n:Int) == 4)=true:=by simp;omega
  subst h4
  have x0:=X1.out 0 (by omega)
  have x3:=X1.out 3 (by omega)
  have L4:(w.heap.size)<w1.heap.size:=by rw [Z1.out];omega
  have xa:∀ i,i<4->∀ o,(w1.alloc o).cell? ⟨w.heap.size,i,none⟩=some (.string (gt (W s) i)):=fun i hi o=>(((Below.refl w1.heap.size w1).alloc (Nat.le_refl _) o).cell (p:=⟨w.heap.size,i,none⟩) L4).trans (X1.out i hi)
  have xa0:=xa 0 (by omega)
  have xa3:=xa 3 (by omega)
  generalize hg0:gt (W s) 0=X0 at x0 xa0
  have HG0:Hid (gt (W s) 0=X0):=hg0
  obtain ⟨f3,hf3⟩ : ∃ f,((gt (W s) 3).toList == [49])=f:=⟨_,rfl⟩
  have HF3:Hid (oneB (gt (W s) 3)=f3):=hf3
  clear hg0 xa
  go_upto_region 4 with fail
  go_cut [6] (fun p wx=>p=.pointer (some ⟨w1.heap.size,0,none⟩)/\Hid (wx=(w1.alloc (.cells #[.string X0,.int .i64 0,.int .i64 0,.bool f3] 63)).drew))
  case first =>
   go_region_with (fail)
   all_goals
    go_wp2_with fail
    go_meet
    exact ⟨rfl,rfl⟩
  case rest =>
  obtain ⟨rfl,hw2⟩:=hcut
  have B2:Hid (Below w.heap.size w wc):=(show Below _ _ _ from by rw [hw2.out];exact (B1.out.alloc (by rw [Z1.out];omega) _).drew)
  have Z2:Hid (wc.heap.size=w.heap.size+2):=(show _=_ from by rw [hw2.out];simp [Z1.out])
  have CB:Hid (wc.heap[w1.heap.size]? = some (.cells #[.string X0,.int .i64 0,.int .i64 0,.bool f3] 63 (0,0))):=(show _=_ from by rw [hw2.out];exact heap_alloc_last w1 _)
  have X2:Hid (∀ i,i<4->wc.cell? ⟨w.heap.size,i,none⟩=some (.string (gt (W s) i))):=fun i hi=>by
   rw [hw2.out]
   exact (((Below.refl w1.heap.size w1).alloc (Nat.le_refl _) (.cells #[.string X0,.int .i64 0,.int .i64 0,.bool f3] 63)).drew.cell (p:=⟨w.heap.size,i,none⟩) L4).trans (X1.out i hi)
  have z1:=Z1.out
  have z2:=Z2.out
  clear hw2 x0 x3 xa0 xa3 X1 B1
  have HL:Hid (∀ o,Below wc.heap.size wc (wc.alloc o)):=fun o=>zAl _ _
  have cn:Calls prog 103 #[.slice (some ⟨w.heap.size,1,none⟩) 2 3,.slice (some ⟨wc.heap.size,0,none⟩) 2 2] (wc.alloc (.cells #[.pointer (some ⟨w1.heap.size,1,none⟩),.pointer (some ⟨w1.heap.size,2,none⟩)] 130)) (ToldN (wc.alloc (.cells #[.pointer (some ⟨w1.heap.size,1,none⟩),.pointer (some ⟨w1.heap.size,2,none⟩)] 130)) w1.heap.size 63 #[.string X0,.int .i64 0,.int .i64 0,.bool f3] [1,2] [gt (W s) 1,gt (W s) 2]):=by
   have hE:=(HC.out.below B2.out).er
   refine numbers_any w.heap.size 1 3 wc.heap.size 2 w1.heap.size 63 #[.string X0,.int .i64 0,.int .i64 0,.bool f3] [1,2] [gt (W s) 1,gt (W s) 2] _ (hE.below (HL.out _)) (fun i hi=>?_) (fun i hi=>?_) ?_ (fun i hi=>?_) (by omega) (by omega) (by simp) (fun i hi=>?_) rfl ?_
   ·have hi:i<2:=hi
    refine ((HL.out _).cell (p:=⟨w.heap.size,1+i,none⟩) (by show w.heap.size<wc.heap.size;omega)).trans ((X2.out (1+i) (by omega)).trans ?_)
    match i,hi with
    | 0,_=>rfl
    | 1,_=>rfl
   ·have hi:i<2:=hi
    rw [World.cell?_alloc_new]
    match i,hi with
    | 0,_=>rfl
    | 1,_=>rfl
   ·exact ((HL.out _).block _ (by omega)).trans CB.out
   ·have hi:i<2:=hi
    match i,hi with
    | 0,_=>exact (by decide:1<4)
    | 1,_=>exact (by decide:2<4)
   ·have hi:i<2:=hi
    match i,hi with
    | 0,_=>exact HZ.out 1
    | 1,_=>exact HZ.out 2
   ·obtain ⟨⟨t,p,e1⟩,⟨t',p',e2⟩⟩:=HC.out.er
    have l1:=World.block_lt_of_cell? w ⟨_,0,none⟩ e1
    have l2:=World.block_lt_of_cell? w ⟨_,0,none⟩ e2
    have l1:4<w.heap.size:=l1
    have l2:5<w.heap.size:=l2
    omega
  clear z1 z2
  go_wp2_with fail
  refine cn.mono ?_
  intro e w3 hN
  obtain ⟨hg3,hN⟩:=hN
  have z1:=Z1.out
  have z2:=Z2.out
  have BL:Below w.heap.size w (wc.alloc (.cells #[.pointer (some ⟨w1.heap.size,1,none⟩),.pointer (some ⟨w1.heap.size,2,none⟩)] 130)):=B2.out.trans ((HL.out _).mono (by omega))
  have B3:Hid (Below w.heap.size w w3):=BL.grown hg3 (by simp;omega) (fun r hr=>by cases hr;omega)
  clear BL cn hg3 z1 z2
  rcases hN with ⟨rfl,hq⟩|⟨rfl,hno⟩
  ·have y1:=hq.y 0 (by simp)
   have y2:=hq.y 1 (by simp)
   have y1:(numP (gt (W s) 1)).isSome=true:=y1
   have y2:(numP (gt (W s) 2)).isSome=true:=y2
   obtain ⟨m1,hm1⟩:=Option.isSome_iff_exists.1 y1
   obtain ⟨m2,hm2⟩:=Option.isSome_iff_exists.1 y2
   have c3:w3.heap[w1.heap.size]? = some (.cells #[.string X0,.int .i64 m1,.int .i64 m2,.bool f3] 63 (0,0)):=by
    have h:=hq.c
    have e:putN #[.string X0,.int .i64 0,.int .i64 0,.bool f3] [1,2] [gt (W s) 1,gt (W s) 2] 2=#[.string X0,.int .i64 ((numP (gt (W s) 1)).getD 0),.int .i64 ((numP (gt (W s) 2)).getD 0),.bool f3]:=rfl
    have h:w3.heap[w1.heap.size]? = some (.cells (putN #[.string X0,.int .i64 0,.int .i64 0,.bool f3] [1,2] [gt (W s) 1,gt (W s) 2] 2) 63 (0,0)):=h
    rw [e,hm1,hm2] at h
    exact h
   have HRy:Hid (R=some (objX ss (ys ++ [⟨X0,m1,m2,f3⟩]) aa)):=(show R=_ from by
    rw [HR.out];unfold symI;rw [if_pos HN.out,hm1,hm2,HG0.out,HF3.out];rfl)
   have q0:w3.cell? ⟨w1.heap.size,0,none⟩=some (.string X0):=by rw [cell_of_row _ _ _ _ _ _ c3];rfl
   have q1:w3.cell? ⟨w1.heap.size,1,none⟩=some (.int .i64 m1):=by rw [cell_of_row _ _ _ _ _ _ c3];rfl
   have q2:w3.cell? ⟨w1.heap.size,2,none⟩=some (.int .i64 m2):=by rw [cell_of_row _ _ _ _ _ _ c3];rfl
   have q3:w3.cell? ⟨w1.heap.size,3,none⟩=some (.bool f3):=by rw [cell_of_row _ _ _ _ _ _ c3];rfl
   have D3:=(show Hid _ from HD.out.below B3.out)
   have k1:w3.cell? ⟨db,1,none⟩=some (.slice a1 nY c1):=by rw [cell_of_row _ _ _ _ _ _ D3.out.cd];rfl
   obtain ⟨i0,hi,hz0,hz1,hz2⟩:=info_parts infoYs
   have GB:Hid (∀ o,Below w3.heap.size w3 ((w3.alloc o).drew)):=fun o=>(zAl _ _).drew
   have OWN:Hid (∀ o,((w3.alloc o).drew).ownsRow bs 63 4 (.slice a1 nY c1) nY (ys.flatMap yCells)):=fun o=>by
    have h:=(D3.out.below (GB.out o)).rw.sym
    rwa [<- HNY.out] at h
   have hbs6:Hid (∀ o,bs<=((w3.alloc o).drew).heap.size):=fun o=>by have:=HB.out;have:=B3.out.size;have:=(GB.out o).size;omega
   have FIN:Hid (∀ (o:Obj) (w7:World) (g' c':Nat),w7.ownsRow bs 63 4 (.slice (some ⟨g',0,none⟩) (nY+1) c') (nY+1) (ys.flatMap yCells ++ [.string X0,.int .i64 m1,.int .i64 m2,.bool f3])->((w3.alloc o).drew).grownBy w7 (Value.slice a1 nY c1).ownBlock ->
     Dr bs db bx sv ss (.slice (some ⟨g',0,none⟩) (nY+1) c') (ys ++ [⟨X0,m1,m2,f3⟩]) av aa (w7.setCell ⟨db,1,none⟩ (.slice (some ⟨g',0,none⟩) (nY+1) c'))/\KB bs db w (w7.setCell ⟨db,1,none⟩ (.slice (some ⟨g',0,none⟩) (nY+1) c'))/\w7.cell? ⟨db,1,none⟩=some (.slice a1 nY c1)/\w7.frozen? ⟨db,1,none⟩=false):=fun o w7 g' c' ho hg=>by
    have hd:=D3.out.below (GB.out o)
    obtain ⟨p1,p2⟩:=hd.addY ⟨X0,m1,m2,f3⟩ (by rw [<- HNY.out];exact ho) hg
    refine ⟨p1,?_,by rw [cell_of_row _ _ _ _ _ _ p2];rfl,frozen_of_row _ _ _ _ _ p2⟩
    exact ((KB.of HB.out (B3.out.trans ((GB.out o).mono B3.out.size))).trans (KB.grown (hbs6.out o) hg (fun r hr=>((OWN.out o).lt r hr).1))).trans KB.cell
   have kA:∀ o,(w3.alloc o).cell? ⟨db,1,none⟩=some (.slice a1 nY c1):=fun o=>(((Below.refl w3.heap.size w3).alloc (Nat.le_refl _) o).cell (p:=⟨db,1,none⟩) (zLo D3.out.cd)).trans k1
   have hl63:nY+1<=maxLen:=by unfold maxLen;omega
   clear GB hq c3 y1 y2 hm1 hm2 HR X2 CB L4 hf3
   go_wp2_with fail
   go_region_law (first
    | (refine step_append_lies _ rfl (.tmp 31) (.tmp 33) 23 rfl bs 63 i0 (.agg #[.string ⟨#[]⟩,.int .i64 0,.int .i64 0,.bool false]) 4 40 underlying23 hi hz0 hz1 hz2 rfl (by decide) (.slice a1 nY c1) nY (ys.flatMap yCells) rfl (OWN.out _) ⟨w3.heap.size,0,none⟩ 1 1 [.string X0,.int .i64 m1,.int .i64 m2,.bool f3] rfl rfl (newN w3 [.string X0,.int .i64 m1,.int .i64 m2,.bool f3] 63) (by intro u hu;simp at hu;rcases hu with rfl|rfl|rfl|rfl <;> rfl) (by decide) hl63 (by omega) (hbs6.out _) _ rfl ?_;intro g' c' w7 hown' hgrow hat hlt';obtain ⟨p7,kb7,d0,f0⟩:=FIN.out _ w7 g' c' hown' hgrow;have S7:=(show Hid _ from And.intro p7 kb7);clear p7 kb7 hown' hgrow hat hlt')
    | fail)
   all_goals
    go_wp2
    go_ret
    refine ⟨S7.out.2,?_⟩
    rw [HRy.out]
    exact ⟨bx,sv,ss,_,_,av,aa,rfl,S7.out.1,rfl⟩
  ·have HN0:Hid (R=none):=(show R=none from by
    rw [HR.out];unfold symI;rw [if_pos HN.out]
    obtain ⟨i,hi,h⟩:=hno
    have hi:i<2:=hi
    match i,hi with
    | 0,_ =>
     have h:numP (gt (W s) 1)=none:=h
     rw [h]
    | 1,_ =>
     have h:numP (gt (W s) 2)=none:=h
     rw [h];cases numP (gt (W s) 1) <;> rfl)
   clear HR hno
   go_wp2
   go_ret
   exact ⟨KB.of HB.out B3.out,by rw [HN0.out];rfl⟩
 ·have d4:decide ((n:Int)=4)=false:=decide_eq_false (by omega)
  have d4':((n:Int) == 4)=false:=by simp;omega
  have HN0:Hid (R=none):=(show R=none from by rw [HR.out];unfold symI;rw [if_neg (by rw [HN.out];exact h4)])
  clear HR
  go_wp2
  go_ret
  exact ⟨KB.of HB.out B1.out,by rw [HN0.out];rfl⟩
end Rimc
namespace Rimd
open Go.Deep
open Rown Rowo Rliq Rlip Rlsa Rima Rimb Rimc
open Wors (outI)
open Worr (W)
open Rbyt (byO)
open Otxa (after)
theorem infoPt:(prog.info? 61).map (fun i=>(i.zero,i.size,i.bytes))=some (some (.pointer none),1,8):=by kernel_rfl
theorem gany_cons {P:Program} {ops:Array Oper} {Q:Exit->Act->World->Prop} {md:Region.Mode} {fuel:Nat} {listed:Array Bool} {a:Act} {w:World} {i:Nat} {o:Oper} {rs:List Nat} (ho:ops[i]? = some o) (hg:Region.wanted o (yielded ops a.tmps)=true)
  (h:∀ K':Act->World->Prop,(∀ a w,wpAny P md ops Q fuel (listed.setIfInBounds i true) a w->K' a w)->Oper.wp P o a w K' Q) (hs:AllReady P md ops Q fuel listed a w rs):AllReady P md ops Q fuel listed a w (i :: rs) :=
 AllReady.cons ho (fun K hK=>by simp only [hg,if_true];exact h K hK) hs
theorem readSection_any (bs db:Nat) (bx:List Nat) (sv:Value) (ss:List Sd) (yv:Value) (ys:List Osyr.X) (av:Value) (aa:List Ad) (s:ByteArray) (w:World) (h:Dr bs db bx sv ss yv ys av aa w) (hbs:bs<=w.heap.size) (hC:Cx w) (hs:s.size<=1048576) (hla:ss.length<=100000) :
  Calls prog 63 #[.pointer (some ⟨db,0,none⟩),.string s] w (PostI bs db w (secI (objX ss ys aa) s)):=by
 obtain ⟨a0,c0,hav⟩:=own_slice h.sec
 obtain ⟨nS,hnS⟩ : ∃ n,n=ss.length:=⟨_,rfl⟩
 have HNS:Hid (nS=ss.length):=hnS
 rw [<- hnS] at hav hla
 subst hav
 obtain ⟨R,hR⟩ : ∃ R,R=secI (objX ss ys aa) s:=⟨_,rfl⟩
 rw [<- hR]
 have HR:Hid (R=secI (objX ss ys aa) s):=hR
 have HD:=(show Hid _ from h)
 have HB:Hid (bs<=w.heap.size):=hbs
 have HC:=(show Hid _ from hC)
 have cs:=Wort.split_any s w hs hC.ml
 obtain ⟨n,hn⟩ : ∃ n,(W s).length=n:=⟨_,rfl⟩
 have HN:Hid ((W s).length=n):=hn
 rw [hn] at cs
 have HZ:Hid (∀ i,(gt (W s) i).size<=1048576):=fun i=>by have:=W_sz s i;omega
 have hnl:n<=1048577:=by have:=Wort.W_len_le s;omega
 clear hn hR hnS h hbs hC
 go_enter func63,ntmps63
 go_wp2_with fail
 refine cs.mono ?_
 rintro e w1 ⟨rfl,hw1⟩
 have B1:Hid (Below w.heap.size w w1):=(show Below _ _ _ from by rw [hw1];exact zAl _ _)
 have Z1:Hid (w1.heap.size=w.heap.size+1):=(show _=_ from by rw [hw1];simp)
 have X1:Hid (∀ i,i<n->w1.cell? ⟨w.heap.size,i,none⟩=some (.string (gt (W s) i))):=fun i hi=>by rw [hw1,World.cell?_alloc_new];exact gt_w (by rw [HN.out];exact hi)
 clear hw1 cs
 by_cases h5:n=5
 ·have d5:decide ((n:Int)=5)=true:=decide_eq_true (by omega)
  have d5':((n:Int) == 5)=true:=by simp;omega
  subst h5
  have x0:=X1.out 0 (by omega)
  have L4:(w.heap.size)<w1.heap.size:=by rw [Z1.out];omega
  have x4:∀ o,(w1.alloc o).cell? ⟨w.heap.size,4,none⟩=some (.string (gt (W s) 4)):=fun o=>(((Below.refl w1.heap.size w1).alloc (Nat.le_refl _) o).cell (p:=⟨w.heap.size,4,none⟩) L4).trans (X1.out 4 (by omega))
  generalize hg0:gt (W s) 0=X0 at x0
  have HG0:Hid (gt (W s) 0=X0):=hg0
  have HL2:Hid (∀ o,Below w1.heap.size w1 (w1.alloc o)):=fun o=>zAl _ _
  have cb:=fun W' hT=>Rbyu.implBytes_any (gt (W s) 4) W' hT (HZ.out 4)
  unfold Rbyt.Told9 at cb
  obtain ⟨q5,hq5⟩ : ∃ q,(byO (gt (W s) 4).data.toList).isSome=q:=⟨_,rfl⟩
  have H5:Hid ((byO (gt (W s) 4).data.toList).isSome=q5):=hq5
  rw [hq5] at cb
  clear hg0 hq5
  generalize hg4:gt (W s) 4=X4 at x4 cb H5
  have HG4:Hid (gt (W s) 4=X4):=hg4
  clear hg4
  go_wp2_with fail
  refine (cb _ ((HC.out.below (B1.out.trans ((HL2.out _).mono (by omega)))).hex)).mono ?_
  rintro e w3 ⟨⟨dt,rfl,hdt⟩,b3⟩
  have HDT:Hid (∀ l,byO X4.data.toList=some l->dt=⟨l.toArray⟩):=hdt
  have B3':Hid (Below w1.heap.size w1 w3):=(HL2.out _).trans (b3.mono (HL2.out _).size)
  have B3:Hid (Below w.heap.size w w3):=B1.out.trans (B3'.out.mono (by omega))
  have CB:Hid (w3.heap[w1.heap.size]? = some (.cells #[.string X0,.int .i64 0,.int .i64 0,.int .i64 0,.string ⟨#[]⟩,.slice none 0 0] 38 (0,0))):=(b3.block _ (by simp)).trans (heap_alloc_last w1 _)
  have Z3:Hid (w1.heap.size<w3.heap.size):=(show _<_ from by have:=b3.size;simp at this;omega)
  have X3:Hid (∀ i,i<5->w3.cell? ⟨w.heap.size,i,none⟩=some (.string (gt (W s) i))):=fun i hi=>(B3'.out.cell (p:=⟨w.heap.size,i,none⟩) L4).trans (X1.out i hi)
  clear hdt b3 x0 x4 cb
  cases q5 with
  | false =>
   have HN0:Hid (R=none):=(show R=none from by rw [HR.out];unfold secI;rw [if_pos HN.out,HG4.out,opt_no H5.out])
   clear HR
   go_upto_region 6 with fail
   go_quiet (fail)
   go_wp2
   go_ret
   exact ⟨KB.of HB.out (Seco.drewN_below B3.out _),by rw [HN0.out];rfl⟩
  | true =>
   have HL:Hid (∀ o,Below w3.heap.size w3 ((w3.alloc o).drew)):=fun o=>(zAl _ _).drew
   have cn:Calls prog 103 #[.slice (some ⟨w.heap.size,1,none⟩) 3 4,.slice (some ⟨w3.heap.size,0,none⟩) 3 3] (w3.alloc (.cells #[.pointer (some ⟨w1.heap.size,1,none⟩),.pointer (some ⟨w1.heap.size,2,none⟩),.pointer (some ⟨w1.heap.size,3,none⟩)] 130)).drew (ToldN (w3.alloc (.cells #[.pointer (some ⟨w1.heap.size,1,none⟩),.pointer (some ⟨w1.heap.size,2,none⟩),.pointer (some ⟨w1.heap.size,3,none⟩)] 130)).drew w1.heap.size 38 #[.string X0,.int .i64 0,.int .i64 0,.int .i64 0,.string ⟨#[]⟩,.slice none 0 0] [1,2,3] [gt (W s) 1,gt (W s) 2,gt (W s) 3]):=by
    have z1:=Z1.out
    have z3:=Z3.out
    have hE:=(HC.out.below B3.out).er
    refine numbers_any w.heap.size 1 4 w3.heap.size 3 w1.heap.size 38 #[.string X0,.int .i64 0,.int .i64 0,.int .i64 0,.string ⟨#[]⟩,.slice none 0 0] [1,2,3] [gt (W s) 1,gt (W s) 2,gt (W s) 3] _ (hE.below (HL.out _)) (fun i hi=>?_) (fun i hi=>?_) ?_ (fun i hi=>?_) (by omega) (by omega) (by simp) (fun i hi=>?_) rfl ?_
    ·have hi:i<3:=hi
     refine ((HL.out _).cell (p:=⟨w.heap.size,1+i,none⟩) (by show w.heap.size<w3.heap.size;omega)).trans ((X3.out (1+i) (by omega)).trans ?_)
     match i,hi with
     | 0,_=>rfl
     | 1,_=>rfl
     | 2,_=>rfl
    ·have hi:i<3:=hi
     show World.cell? (w3.alloc _) _=_
     rw [World.cell?_alloc_new]
     match i,hi with
     | 0,_=>rfl
     | 1,_=>rfl
     | 2,_=>rfl
    ·exact ((HL.out _).block _ (by omega)).trans CB.out
    ·have hi:i<3:=hi
     match i,hi with
     | 0,_=>exact (by decide:1<6)
     | 1,_=>exact (by decide:2<6)
     | 2,_=>exact (by decide:3<6)
    ·have hi:i<3:=hi
     match i,hi with
     | 0,_=>exact HZ.out 1
     | 1,_=>exact HZ.out 2
     | 2,_=>exact HZ.out 3
    ·obtain ⟨⟨t,p,e1⟩,⟨t',p',e2⟩⟩:=HC.out.er
     have l1:=World.block_lt_of_cell? w ⟨_,0,none⟩ e1
     have l2:=World.block_lt_of_cell? w ⟨_,0,none⟩ e2
     have l1:4<w.heap.size:=l1
     have l2:5<w.heap.size:=l2
     omega
   have FN:Hid (∀ (e:Ending) (u:World),ToldN (w3.alloc (.cells #[.pointer (some ⟨w1.heap.size,1,none⟩),.pointer (some ⟨w1.heap.size,2,none⟩),.pointer (some ⟨w1.heap.size,3,none⟩)] 130)).drew w1.heap.size 38 #[.string X0,.int .i64 0,.int .i64 0,.int .i64 0,.string ⟨#[]⟩,.slice none 0 0] [1,2,3] [gt (W s) 1,gt (W s) 2,gt (W s) 3] e u->Below w.heap.size w u/\((e=.returned (.bool false)/\R=none) \/ (e=.returned (.bool true)/\∃ m1 m2 m3,R=some (objX (ss ++ [⟨X0,m1,m2,m3,dt,.slice none 0 0,[]⟩]) ys aa)/\u.heap[w1.heap.size]? = some (.cells #[.string X0,.int .i64 m1,.int .i64 m2,.int .i64 m3,.string ⟨#[]⟩,.slice none 0 0] 38 (0,0))))):=fun e u hN=>by
    have z1:=Z1.out
    have z3:=Z3.out
    obtain ⟨hg3,hN⟩:=hN
    have BL:Below w.heap.size w (w3.alloc (.cells #[.pointer (some ⟨w1.heap.size,1,none⟩),.pointer (some ⟨w1.heap.size,2,none⟩),.pointer (some ⟨w1.heap.size,3,none⟩)] 130)).drew:=B3.out.trans ((HL.out _).mono (by omega))
    refine ⟨BL.grown hg3 (by simp;omega) (fun r hr=>by cases hr;omega),?_⟩
    rcases hN with ⟨rfl,hq⟩|⟨rfl,i,hi,hnone⟩
    ·right
     have y1:(numP (gt (W s) 1)).isSome=true:=hq.y 0 (by simp)
     have y2:(numP (gt (W s) 2)).isSome=true:=hq.y 1 (by simp)
     have y3:(numP (gt (W s) 3)).isSome=true:=hq.y 2 (by simp)
     obtain ⟨m1,hm1⟩:=Option.isSome_iff_exists.1 y1
     obtain ⟨m2,hm2⟩:=Option.isSome_iff_exists.1 y2
     obtain ⟨m3,hm3⟩:=Option.isSome_iff_exists.1 y3
     obtain ⟨D,hD⟩:=Option.isSome_iff_exists.1 H5.out
     refine ⟨rfl,m1,m2,m3,?_,?_⟩
     ·rw [HR.out];unfold secI;rw [if_pos HN.out,HG4.out,hD,hm1,hm2,hm3,HG0.out]
      have e:dt=wB D:=HDT.out D hD
      rw [e]
      unfold objX
      rw [List.map_append];rfl
     ·have h:u.heap[w1.heap.size]? = some (.cells (putN #[.string X0,.int .i64 0,.int .i64 0,.int .i64 0,.string ⟨#[]⟩,.slice none 0 0] [1,2,3] [gt (W s) 1,gt (W s) 2,gt (W s) 3] 3) 38 (0,0)):=hq.c
      have e:putN #[.string X0,.int .i64 0,.int .i64 0,.int .i64 0,.string ⟨#[]⟩,.slice none 0 0] [1,2,3] [gt (W s) 1,gt (W s) 2,gt (W s) 3] 3=#[.string X0,.int .i64 ((numP (gt (W s) 1)).getD 0),.int .i64 ((numP (gt (W s) 2)).getD 0),.int .i64 ((numP (gt (W s) 3)).getD 0),.string ⟨#[]⟩,.slice none 0 0]:=rfl
      rw [e,hm1,hm2,hm3] at h
      exact h
    ·left
     refine ⟨rfl,?_⟩
     rw [HR.out];unfold secI;rw [if_pos HN.out]
     have hi:i<3:=hi
     match i,hi with
     | 0,_ =>
      have h:numP (gt (W s) 1)=none:=hnone
      rw [h];cases byO (gt (W s) 4).data.toList <;> rfl
     | 1,_ =>
      have h:numP (gt (W s) 2)=none:=hnone
      rw [h];cases byO (gt (W s) 4).data.toList <;> cases numP (gt (W s) 1) <;> rfl
     | 2,_ =>
      have h:numP (gt (W s) 3)=none:=hnone
      rw [h];cases byO (gt (W s) 4).data.toList <;> cases numP (gt (W s) 1) <;> cases numP (gt (W s) 2) <;> rfl
   clear L4
   go_upto_region 6 with fail
   refine wp_region_any (by kernel_rfl) ?_
   try (change wpAny _ _ _ _ _ _ _ (World.drew _))
   refine wpAny_take (i:=0) (v:=?v0) rfl (by kernel_rfl) (by kernel_rfl) (by kernel_rfl) (fun _ _ _ h=>h) (Or.inl ⟨by rfl,?hy0⟩) ?rest0
   case hy0=>(intro w;go_simp;try with_reducible rfl)
   refine wpAny_take (i:=1) (v:=?v1) rfl (by kernel_rfl) (by kernel_rfl) (by kernel_rfl) (fun _ _ _ h=>h) (Or.inl ⟨by rfl,?hy1⟩) ?rest1
   case hy1=>(intro w;go_simp;try with_reducible rfl)
   go_simp
   refine wpAny_take (i:=2) (v:=?v2) rfl (by kernel_rfl) (by kernel_rfl) (by kernel_rfl) (fun _ _ _ h=>h) (Or.inl ⟨by rfl,?hy2⟩) ?rest2
   case hy2=>(intro w;go_simp;try with_reducible rfl)
   refine wpAny_take (i:=3) (v:=?v3) rfl (by kernel_rfl) (by kernel_rfl) (by kernel_rfl) (fun _ _ _ h=>h) (Or.inl ⟨by rfl,?hy3⟩) ?rest3
   case hy3=>(intro w;go_simp;try with_reducible rfl)
   go_simp
   refine wpAny_take (i:=4) (v:=?v4) rfl (by kernel_rfl) (by kernel_rfl) (by kernel_rfl) (fun _ _ _ h=>h) (Or.inl ⟨by rfl,?hy4⟩) ?rest4
   case hy4=>(intro w;go_simp;try with_reducible rfl)
   refine wpAny_take (i:=5) (v:=?v5) rfl (by kernel_rfl) (by kernel_rfl) (by kernel_rfl) (fun _ _ _ h=>h) (Or.inl ⟨by rfl,?hy5⟩) ?rest5
   case hy5=>(intro w;go_simp;try with_reducible rfl)
   go_simp
   refine wpAny_take (i:=6) (v:=?v6) rfl (by kernel_rfl) (by kernel_rfl) (by kernel_rfl) (fun _ _ _ h=>h) (Or.inl ⟨by rfl,?hy6⟩) ?rest6
   case hy6=>(intro w;go_simp;try with_reducible rfl)
   refine wpAny_take (i:=7) (v:=?v7) rfl (by kernel_rfl) (by kernel_rfl) (by kernel_rfl) (fun _ _ _ h=>h) (Or.inl ⟨by rfl,?hy7⟩) ?rest7
   case hy7=>(intro w;go_simp;try with_reducible rfl)
   go_simp
   refine wpAny_take (i:=8) (v:=?v8) rfl (by kernel_rfl) (by kernel_rfl) (by kernel_rfl) (fun _ _ _ h=>h) (Or.inl ⟨by rfl,?hy8⟩) ?rest8
   case hy8=>(intro w;go_simp;try with_reducible rfl)
   refine wpAny_take (i:=9) (v:=?v9) rfl (by kernel_rfl) (by kernel_rfl) (by kernel_rfl) (fun _ _ _ h=>h) (Or.inl ⟨by rfl,?hy9⟩) ?rest9
   case hy9=>(intro w;go_simp;try with_reducible rfl)
   go_simp
   refine wpAny_take (i:=10) (v:=?v10) rfl (by kernel_rfl) (by kernel_rfl) (by kernel_rfl) (fun _ _ _ h=>h) (Or.inl ⟨by rfl,?hy10⟩) ?rest10
   case hy10=>(intro w;go_simp;try with_reducible rfl)
   refine wpAny_take (i:=11) (v:=?v11) rfl (by kernel_rfl) (by kernel_rfl) (by kernel_rfl) (fun _ _ _ h=>h) (Or.inl ⟨by rfl,?hy11⟩) ?rest11
   case hy11=>(intro w;go_simp;try with_reducible rfl)
   go_simp
   refine wpAny_take (i:=12) (v:=?v12) rfl (by kernel_rfl) (by kernel_rfl) (by kernel_rfl) (fun _ _ _ h=>h) (Or.inl ⟨by rfl,?hy12⟩) ?rest12
   case hy12=>(intro w;go_simp;try with_reducible rfl)
   refine wpAny_take (i:=13) (v:=?v13) rfl (by kernel_rfl) (by kernel_rfl) (by kernel_rfl) (fun _ _ _ h=>h) (Or.inl ⟨by rfl,?hy13⟩) ?rest13
   case hy13=>(intro w;go_simp;try with_reducible rfl)
   go_simp
   refine wpAny_ready (rs:=[14]) (by kernel_rfl) (by simp) ?_
   refine gany_cons rfl (by rfl) (fun K hK=>?_) AllReady.nil
   go_simp
   refine hK _ _ ?_
   clear hK
   refine wpAny_ready (rs:=[15]) (by kernel_rfl) (by simp) ?_
   refine gany_cons rfl (by rfl) (fun K hK=>?_) AllReady.nil
   go_wp2_with fail
   refine cn.mono ?_
   intro e w4 hN
   obtain ⟨b4,hc⟩:=FN.out e w4 hN
   have B4:Hid (Below w.heap.size w w4):=b4
   clear b4 hN cn FN HL CB X3 HR
   rcases hc with ⟨rfl,hno⟩|⟨rfl,m1,m2,m3,hR1,hc1⟩
   ·have HN0:Hid (R=none):=hno
    clear hno
    refine hK _ _ ?_
    clear hK
    refine wpAny_take (i:=16) (v:=?v16a) rfl (by kernel_rfl) (by kernel_rfl) (by kernel_rfl) (fun _ _ _ h=>h) (Or.inl ⟨by rfl,?hy16a⟩) ?rest16a
    case hy16a=>(intro w;go_simp;try with_reducible rfl)
    refine wpAny_take (i:=17) (v:=?v17a) rfl (by kernel_rfl) (by kernel_rfl) (by kernel_rfl) (fun _ _ _ h=>h) (Or.inl ⟨by rfl,?hy17a⟩) ?rest17a
    case hy17a=>(intro w;go_simp;try with_reducible rfl)
    go_simp
    refine wpAny_done (by kernel_rfl) ?_ _
    go_wp2
    go_ret
    exact ⟨KB.of HB.out B4.out,by rw [HN0.out];rfl⟩
   ·have HR1:Hid (R=_):=hR1
    have C4:Hid (w4.heap[w1.heap.size]? = _):=hc1
    clear hR1 hc1
    refine hK _ _ ?_
    clear hK
    refine wpAny_take (i:=16) (v:=?v16b) rfl (by kernel_rfl) (by kernel_rfl) (by kernel_rfl) (fun _ _ _ h=>h) (Or.inl ⟨by rfl,?hy16b⟩) ?rest16b
    case hy16b=>(intro w;go_simp;try with_reducible rfl)
    refine wpAny_take (i:=17) (v:=?v17b) rfl (by kernel_rfl) (by kernel_rfl) (by kernel_rfl) (fun _ _ _ h=>h) (Or.inl ⟨by rfl,?hy17b⟩) ?rest17b
    case hy17b=>(intro w;go_simp;try with_reducible rfl)
    go_simp
    refine wpAny_done (by kernel_rfl) ?_ _
    have s4:∃ v,w4.cell? ⟨w1.heap.size,4,none⟩=some v:=by rw [cell_of_row _ _ _ _ _ _ C4.out];exact ⟨_,rfl⟩
    obtain ⟨v4,s4⟩:=s4
    have f4:w4.frozen? ⟨w1.heap.size,4,none⟩=false:=frozen_of_row _ _ _ _ _ C4.out
    have W5:Hid (∀ u,u=w4.setCell ⟨w1.heap.size,4,none⟩ (.string dt)->Below w.heap.size w u/\u.heap[w1.heap.size]? = some (.cells #[.string X0,.int .i64 m1,.int .i64 m2,.int .i64 m3,.string dt,.slice none 0 0] 38 (0,0))):=fun u hu=>by
     subst hu
     exact ⟨B4.out.setCell (p:=⟨w1.heap.size,4,none⟩) (show w.heap.size<=w1.heap.size by have:=Z1.out;omega) _,heap_setCell_same _ _ _ _ _ _ C4.out⟩
    go_upto_region 9 with fail
    obtain ⟨w5,hw5⟩ : ∃ u,u=w4.setCell ⟨w1.heap.size,4,none⟩ (.string dt):=⟨_,rfl⟩
    rw [<- hw5]
    obtain ⟨b5,c5⟩:=W5.out w5 hw5
    have B5:Hid (Below w.heap.size w w5):=b5
    have C5:Hid (w5.heap[w1.heap.size]? = _):=c5
    have D5:=(show Hid _ from HD.out.below b5)
    clear hw5 b5 c5 W5 s4 f4
    have k0:w5.cell? ⟨db,0,none⟩=some (.slice a0 nS c0):=by rw [cell_of_row _ _ _ _ _ _ D5.out.cd];rfl
    obtain ⟨i0,hi,hz0,hz1,hz2⟩:=info_parts infoPt
    have GB:Hid (∀ o,Below w5.heap.size w5 (w5.alloc o)):=fun o=>zAl _ _
    have OWN:Hid (∀ o,(w5.alloc o).ownsRow bs 61 1 (.slice a0 nS c0) nS (bx.map fun b=>.pointer (some ⟨b,0,none⟩))):=fun o=>by
     have h:=(D5.out.below (GB.out o)).sec
     rwa [<- HNS.out] at h
    have hbs6:Hid (∀ o,bs<=(w5.alloc o).heap.size):=fun o=>by have:=HB.out;have:=B5.out.size;have:=(GB.out o).size;omega
    have FIN:Hid (∀ (o:Obj) (w7:World) (g' c':Nat),w7.ownsRow bs 61 1 (.slice (some ⟨g',0,none⟩) (nS+1) c') (nS+1) ((bx.map fun b=>.pointer (some ⟨b,0,none⟩)) ++ [.pointer (some ⟨w1.heap.size,0,none⟩)])->(w5.alloc o).grownBy w7 (Value.slice a0 nS c0).ownBlock ->
      Dr bs db (bx ++ [w1.heap.size]) (.slice (some ⟨g',0,none⟩) (nS+1) c') (ss ++ [⟨X0,m1,m2,m3,dt,.slice none 0 0,[]⟩]) yv ys av aa (w7.setCell ⟨db,0,none⟩ (.slice (some ⟨g',0,none⟩) (nS+1) c'))/\KB bs db w (w7.setCell ⟨db,0,none⟩ (.slice (some ⟨g',0,none⟩) (nS+1) c'))/\w7.cell? ⟨db,0,none⟩=some (.slice a0 nS c0)/\w7.frozen? ⟨db,0,none⟩=false):=fun o w7 g' c' ho hg=>by
     have hd:=D5.out.below (GB.out o)
     have hnot:w1.heap.size ∉ bx:=fun hm=>by have:=HD.out.lt _ hm;have:=Z1.out;omega
     obtain ⟨p1,p2⟩:=hd.addS X0 dt m1 m2 m3 (((GB.out o).block _ (zLo C5.out)).trans C5.out) (by have:=HB.out;have:=Z1.out;omega) hnot (by rw [<- HNS.out];exact ho) hg
     refine ⟨p1,?_,by rw [cell_of_row _ _ _ _ _ _ p2];rfl,frozen_of_row _ _ _ _ _ p2⟩
     exact ((KB.of HB.out (B5.out.trans ((GB.out o).mono B5.out.size))).trans (KB.grown (hbs6.out o) hg (fun r hr=>((OWN.out o).lt r hr).1))).trans KB.cell
    have kA:∀ o,(w5.alloc o).cell? ⟨db,0,none⟩=some (.slice a0 nS c0):=fun o=>((GB.out o).cell (p:=⟨db,0,none⟩) (zLo D5.out.cd)).trans k0
    have hl63:nS+1<=maxLen:=by unfold maxLen;omega
    clear GB
    go_wp2_with (first|(at_builtin;refine wpList_append_lies _ rfl (.tmp 52) (.tmp 54) 46 rfl bs 61 i0 (.pointer none) 1 8 underlying46 hi hz0 hz1 hz2 rfl (by decide) (.slice a0 nS c0) nS (bx.map fun b=>.pointer (some ⟨b,0,none⟩)) rfl (OWN.out _) ⟨w5.heap.size,0,none⟩ 1 1 [.pointer (some ⟨w1.heap.size,0,none⟩)] rfl rfl (newP w5 [.pointer (some ⟨w1.heap.size,0,none⟩)] 61) (by intro u hu;simp at hu;subst hu;rfl) (by decide) hl63 (by omega) (hbs6.out _) _ rfl ?_)|fail)
    intro g' c' w7 hown' hgrow hat hlt'
    obtain ⟨p7,kb7,d0,f0⟩:=FIN.out _ w7 g' c' hown' hgrow
    have S7:=(show Hid _ from And.intro p7 kb7)
    clear p7 kb7 hown' hgrow hat hlt'
    go_wp2
    go_ret
    refine ⟨S7.out.2,?_⟩
    rw [HR1.out]
    exact ⟨_,_,_,yv,ys,av,aa,rfl,S7.out.1,rfl⟩
 ·have d5:decide ((n:Int)=5)=false:=decide_eq_false (by omega)
  have d5':((n:Int) == 5)=false:=by simp;omega
  have HN0:Hid (R=none):=(show R=none from by rw [HR.out];unfold secI;rw [if_neg (by rw [HN.out];exact h5)])
  clear HR
  go_wp2
  go_ret
  exact ⟨KB.of HB.out B1.out,by rw [HN0.out];rfl⟩
end Rimd
end Go.Proofs.YtickfkphhngagaaGreatDoor
