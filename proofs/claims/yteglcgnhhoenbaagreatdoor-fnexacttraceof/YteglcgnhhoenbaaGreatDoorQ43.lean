import Derived.Test.YteglcgnhhoenbaaGreatDoorQ42
set_option linter.all false
set_option maxRecDepth 20000
set_option maxHeartbeats 8000000
open Go.ChangeShapes Go.WideShapes Go.ChangeAt Go.RowKit
open Go.Proofs.Tryz
namespace Go.Proofs.YteglcgnhhoenbaaGreatDoor
namespace Trac
open Go.Deep
open Signed (inB aE)
open Busw Busx Busy Stpp Stpq Stpo Runp Runt Plac Trap Traa
open MachT (bG aZ bJ cel)
open Txts (aEH)
open Rtoa (opH kW pZ)
def Mrow (w W:World) (m:M) (p:Option Addr) (c:Nat):Prop:=(Sl w p m.out c/\∀ q,p=some q->q.block<w.heap.size) \/ W.ownsRow w.heap.size 2 1 (.slice p m.out.length c) m.out.length (dJ m.out)
theorem Mrow.sl {w W:World} {m:M} {p:Option Addr} {c:Nat} (h:Mrow w W m p c) (hb:Below w.heap.size w W):Sl W p m.out c/\∀ q,p=some q->q.block<W.heap.size:=by
 rcases h with ⟨h1,h2⟩|h
 ·exact ⟨h1.below hb,fun q e=>Nat.lt_of_lt_of_le (h2 q e) hb.size⟩
 ·refine ⟨aLZ h rfl,fun q e=>?_⟩
  subst e;rcases h.2 with ⟨h0,_⟩|⟨g,cc,cur,hv,_,hg,_⟩
  ·cases h0
  ·cases hv;exact (zLo hg)
theorem Mrow.below {w W W':World} {m:M} {p:Option Addr} {c:Nat} (h:Mrow w W m p c) (hb:Below W.heap.size W W'):Mrow w W' m p c:=h.imp id fun h=>Busl.aMI h hb
theorem Mrow.grown {w W W':World} {m:M} {p:Option Addr} {c b:Nat} {v:Value} {L:List ByteArray} (h:Mrow w W m p c) (hl:Ln b v L W) (hg:W.grownBy W' v.ownBlock):Mrow w W' m p c:=h.imp id fun h=>by
 obtain ⟨h1,h2|⟨g,cc,cur,hv,hb,hgg,r⟩⟩:=h
 ·exact ⟨h1,.inl h2⟩
 ·exact ⟨h1,.inr ⟨g,cc,cur,hv,hb,(hg.block g (zLo hgg) (fun e=>hl.ne hgg (by decide) e.symm)).trans hgg,r⟩⟩
theorem Mrow.row {w W:World} {m:M} {p:Option Addr} {c B:Nat} {cs cs':Array Value} (h:Mrow w W m p c) (hb:W.heap[B]? = some (.cells cs 30)):Mrow w (W.setRow B cs') m p c:=h.imp id fun h=>pZ h hb
def SI (w:World) (L:List ByteArray) (v:Value) (m:M) (W:World):Prop :=
 ∃ p c,W.heap[w.heap.size]? = some (.cells (aA m p c) 30)/\Mrow w W m p c/\Ln w.heap.size v L W/\Below w.heap.size w W/\eY m
theorem bFI (m:M) (po:Option Addr) (cap:Nat) (n:Int) (w:World) (hs:Sm m) (hN:Sl w po m.out cap) (hbad:¬ (lT m=true/\0<=n/\n<=100)) :
  Calls prog 18 #[.agg (aA m po cap),.int .i64 n] w (rR m n w):=by
 have hz:=fM;have c1:=fun W (h:Sl W po m.out cap)=>xV m po cap W hs h
 have H0:Hid (∀ W,Below w.heap.size w W->Sl W po m.out cap):=fun W h=>hN.below h
 have HV:Hid (fU m n=[]):=by show _=_;unfold fU;rw [if_neg hbad]
 have cI:=fun W=>aE n 0 100 W
 obtain ⟨b1,hb1⟩ : ∃ b,lT m=b:=⟨_,rfl⟩
 obtain ⟨b2,hb2⟩ : ∃ b,inB n 0 100=b:=⟨_,rfl⟩
 have hcase:b1=false \/ (b1=true/\b2=false):=by
  cases b1
  ·exact .inl rfl
  cases b2
  ·exact .inr ⟨rfl,rfl⟩
  ·exact absurd ⟨hb1,by unfold inB at hb2;exact u7 hb2⟩ hbad
 rw [hb1] at c1
 rw [hb2] at cI
 clear hN hs hb1 hb2 hbad;obtain ⟨cM,hcM⟩ : ∃ c,c=aA m po cap:=⟨_,rfl⟩
 obtain ⟨cZ,hcZ⟩ : ∃ c,c=aA Z0 none 0:=⟨_,rfl⟩
 have HM:Hid (cM=aA m po cap):=hcM;have HZ:Hid (cZ=aA Z0 none 0):=hcZ;have HIM:Hid ((prog.info? 30).map (·.size)=some cM.size):=hcM ▸ aP m po cap;rw [<- hcM] at c1 |-
 rw [<- hcZ] at hz
 clear hcM hcZ
 go_enter func18,ntmps18
 go_upto_region 2 with fail
 obtain ⟨W0,hW0⟩ : ∃ u,u=(w.alloc (.cells cM 30)).alloc (.cells #[] 9):=⟨_,rfl⟩
 have X0:Hid (W0.heap[w.heap.size]? = some (.cells cM 30)/\Ln w.heap.size (.slice (some ⟨w.heap.size+1,0,none⟩) 0 0) [] W0/\Below w.heap.size w W0):=by
  show _/\_;have h2:Ln w.heap.size (.slice (some ⟨(w.alloc (.cells cM 30)).heap.size,0,none⟩) 0 0) [] ((w.alloc (.cells cM 30)).alloc (.cells #[] 9)):=World.ownsRow_lit _ #[] 0 (by simp) (Nat.zero_le _) rfl;rw [World.size_alloc] at h2
  rw [hW0];exact ⟨(aM _ _ (by simp)).trans (heap_alloc_last w _),h2,(zAl _ _).alloc (by simp) _⟩
 rw [<- hW0];clear hW0;refine wp_region_list ?_;refine wpList_load_row rfl 30 _ rfl w.heap.size rfl _ _ (0,0) _ X0.out.1 underlying30 rfl HIM.out ?_
 go_wp2_with fail
 refine Calls.mono (c1 _ (H0.out _ X0.out.2.2)) ?_;rintro e w1 ⟨rfl,hb1⟩;have X1:Hid (w1.heap[w.heap.size]? = some (.cells cM 30)/\Ln w.heap.size (.slice (some ⟨w.heap.size+1,0,none⟩) 0 0) [] w1/\Below w.heap.size w w1):=⟨(hb1.block _ (zLo X0.out.1)).trans X0.out.1,X0.out.2.1.below hb1,X0.out.2.2.trans (hb1.mono X0.out.2.2.size)⟩;clear hb1 c1 X0;rcases hcase with rfl|⟨rfl,rfl⟩
 all_goals
  go_wp2_with (go_at_call 42;refine (cI _).mono ?_;rintro e wx ⟨rfl,hwx⟩;rw [hwx];clear hwx wx)
  go_ret;exact ⟨_,rfl,by rw [HV.out];exact X1.out.2.1,X1.out.2.2⟩
theorem aYF (m:M) (po:Option Addr) (cap:Nat) (n:Int) (w:World) (hs:Sm m) (hN:Sl w po m.out cap) (hpo:∀ p,po=some p->p.block<w.heap.size) (hok:lT m=true) (hn:0<=n/\n<=100) :
  Calls prog 18 #[.agg (aA m po cap),.int .i64 n] w (rR m n w):=by
 obtain ⟨i0,hi,hz0,hz1,hz2⟩:=info_parts aEH;have hz:=fM;have c1:=fun W (h:Sl W po m.out cap)=>xV m po cap W hs h
 have H0:Hid (∀ W,Below w.heap.size w W->Sl W po m.out cap):=fun W h=>hN.below h
 have HPO:Hid (Sl w po m.out cap/\∀ p,po=some p->p.block<w.heap.size):=⟨hN,hpo⟩;have HGD:Hid (eY m):=aES hok hs;have HV:Hid (fU m n=dA n.toNat m):=by show _=_;unfold fU;rw [if_pos ⟨hok,hn⟩]
 have cI:=fun W=>aE n 0 100 W
 have hq:inB n 0 100=true:=by unfold inB;simp;omega
 rw [hq] at cI
 rw [hok] at c1
 clear hN hs hok hpo hq;obtain ⟨cM,hcM⟩ : ∃ c,c=aA m po cap:=⟨_,rfl⟩
 obtain ⟨cZ,hcZ⟩ : ∃ c,c=aA Z0 none 0:=⟨_,rfl⟩
 have HM:Hid (cM=aA m po cap):=hcM;have HZ:Hid (cZ=aA Z0 none 0):=hcZ;have HIM:Hid ((prog.info? 30).map (·.size)=some cM.size):=hcM ▸ aP m po cap;rw [<- hcM] at c1 |-
 rw [<- hcZ] at hz
 clear hcM hcZ
 go_enter func18,ntmps18
 go_upto_region 2 with fail
 obtain ⟨W0,hW0⟩ : ∃ u,u=(w.alloc (.cells cM 30)).alloc (.cells #[] 9):=⟨_,rfl⟩
 have X0:Hid (W0.heap[w.heap.size]? = some (.cells cM 30)/\Ln w.heap.size (.slice (some ⟨w.heap.size+1,0,none⟩) 0 0) [] W0/\Below w.heap.size w W0):=by
  show _/\_;have h2:Ln w.heap.size (.slice (some ⟨(w.alloc (.cells cM 30)).heap.size,0,none⟩) 0 0) [] ((w.alloc (.cells cM 30)).alloc (.cells #[] 9)):=World.ownsRow_lit _ #[] 0 (by simp) (Nat.zero_le _) rfl;rw [World.size_alloc] at h2
  rw [hW0];exact ⟨(aM _ _ (by simp)).trans (heap_alloc_last w _),h2,(zAl _ _).alloc (by simp) _⟩
 rw [<- hW0];clear hW0;refine wp_region_list ?_;refine wpList_load_row rfl 30 _ rfl w.heap.size rfl _ _ (0,0) _ X0.out.1 underlying30 rfl HIM.out ?_
 go_wp2_with fail
 refine Calls.mono (c1 _ (H0.out _ X0.out.2.2)) ?_;rintro e w1 ⟨rfl,hb1⟩;have X1:Hid (w1.heap[w.heap.size]? = some (.cells cM 30)/\Ln w.heap.size (.slice (some ⟨w.heap.size+1,0,none⟩) 0 0) [] w1/\Below w.heap.size w w1):=⟨(hb1.block _ (zLo X0.out.1)).trans X0.out.1,X0.out.2.1.below hb1,X0.out.2.2.trans (hb1.mono X0.out.2.2.size)⟩;clear hb1 c1 X0
 go_upto_region 4 with (go_at_call 42;refine (cI _).mono ?_;rintro e wx ⟨rfl,hwx⟩;rw [hwx];clear hwx wx)
 obtain ⟨N,hNn⟩ : ∃ N:Nat,(N:Int)=n:=⟨n.toNat,by omega⟩
 subst hNn;have hN1:N<=100:=by omega
 rw [Int.toNat_natCast] at HV
 have XI:Hid (SI w [] (.slice (some ⟨w.heap.size+1,0,none⟩) 0 0) m w1):=⟨po,cap,by rw [<- HM.out];exact X1.out.1,.inl HPO.out,X1.out.2.1,X1.out.2.2,HGD.out⟩;clear X1 hn cI HPO HGD H0 HIM
 go_wp2_with fail
 go_loopw [5,6] (fun v i wr=>∃ (k:Nat) (mk:M) (L:List ByteArray),k<=N/\i=.int .i64 (k:Int)/\L.length<=k/\Hid (dA N m=L ++ dA (N-k) mk)/\Hid (SI w L v mk wr)) (fun _ i _=>N-(intOf i).toNat)
 case atStart=>exact ⟨0,m,[],Nat.zero_le _,rfl,Nat.le_refl _,rfl,XI.out⟩
 case round =>
  clear XI;obtain ⟨k,mk,L,hk,rfl,hLk,HT,HI⟩:=hrel;obtain ⟨v,hv⟩ : ∃ v,v=u5:=⟨_,rfl⟩
  subst hv
  by_cases hlt:k<N
  ·obtain ⟨pk,ck,hbox,hrow,hown,hbel,hfine⟩:=HI.out
   have HX:Hid (wr.heap[w.heap.size]? = some (.cells (aA mk pk ck) 30)/\Mrow w wr mk pk ck/\Ln w.heap.size v L wr/\Below w.heap.size w wr/\eY mk):=⟨hbox,hrow,hown,hbel,hfine⟩;clear hbox hrow hown hbel HI;obtain ⟨c,cb,imm,hI⟩:=ReadJ.iV (Stph.bU mk) 0;have cf:=fun W=>Stdf.aEC mk pk ck W hfine.1.rt hfine.1.pc
   rw [hI] at cf
   have HLN:Hid ((bR mk).2=0->¬ ReadI.dD (Stph.bU mk) 0=0/\gW mk=gV (place mk).1 ++ ⟨#[58]⟩ ++ (Hex.dP (place mk).2 4).extract 1 5 ++ ⟨#[32]⟩ ++ Texi.fP c cb imm/\(Texi.fP c cb imm).size<=85):=fun h=>by
    have hl:=aFH h;have hi2:=mF mk hl;have e:=hi2.val;rw [hI] at e
    injection e with e
    injection e with e
    injection e with e1 e
    injection e with e2 e
    injection e with e3 e
    injection e1 with _ e1
    injection e2 with e2
    injection e3 with _ e3
    subst e1 e2 e3;refine ⟨hl,?_,aFI _ _ _ hi2.cbd.1 hi2.cbd.2⟩;unfold gW aED;rw [pD (jA hfine.1).2.1 (jA hfine.1).2.2]
   obtain ⟨hp1,hp2⟩:=jA hfine.1;have hs4:=pD hp2.1 hp2.2;have hs2:0<=(place mk).1->(Hex.dP (place mk).1 2).size=3:=fun h=>pC h (by omega)
   have HBK:Hid (((place mk).1 = -1->gV (place mk).1=⟨#[45,45]⟩)/\(0<=(place mk).1->gV (place mk).1=(Hex.dP (place mk).1 2).extract 1 3)/\(gV (place mk).1).size=2):=⟨fun h=>by unfold gV;rw [if_pos h],fun h=>by unfold gV aED;rw [if_neg (by omega),hs2 h],tL hp1⟩;have ca:=fun W=>aYD mk pk ck W hfine.1.rt
   have css:=fun W h h2=>Stdg.ssS mk pk ck W hfine.1 hfine.2 h h2
   have ch2:=fun W=>Hex.iB (place mk).1 2 W
   have ch4:=fun W=>Hex.iB (place mk).2 4 W
   have ct:=fun W=>Texj.vE c cb imm W
   unfold Stdg.SP at css
   clear hI hp2 hfine;generalize ReadI.dD (Stph.bU mk) 0=nn at *
   obtain ⟨tx,htx⟩ : ∃ s,s=Texi.fP c cb imm:=⟨_,rfl⟩
   rw [<- htx] at ct HLN
   clear htx;obtain ⟨s2,hs2e⟩ : ∃ s,s=Hex.dP (place mk).1 2:=⟨_,rfl⟩
   rw [<- hs2e] at ch2 HBK hs2
   clear hs2e;obtain ⟨s4,hs4e⟩ : ∃ s,s=Hex.dP (place mk).2 4:=⟨_,rfl⟩
   rw [<- hs4e] at ch4 HLN hs4
   clear hs4e;obtain ⟨bt,hbt⟩ : ∃ s,s=gV (place mk).1:=⟨_,rfl⟩
   rw [<- hbt] at HBK HLN
   clear hbt;obtain ⟨pb,hpb⟩ : ∃ x,x=(place mk).1:=⟨_,rfl⟩
   obtain ⟨pa,hpa⟩ : ∃ x,x=(place mk).2:=⟨_,rfl⟩
   rw [<- hpb] at ca ch2 hs2 HBK hp1
   rw [<- hpa] at ca ch4
   clear hpb hpa
   go_upto_region 7 with fail
   refine wp_region_list ?_;refine wpList_load_row rfl 30 _ rfl w.heap.size rfl _ _ (0,0) _ HX.out.1 underlying30 rfl (aP _ _ _) ?_
   go_wp2_with fail
   refine Calls.mono (cf _) ?_;rintro e w2 ⟨rfl,hb2⟩;have H2:Hid (w2.heap[w.heap.size]? = some (.cells (aA mk pk ck) 30)/\Mrow w w2 mk pk ck/\Ln w.heap.size v L w2/\Below w.heap.size w w2/\eY mk):=⟨(hb2.block _ (zLo HX.out.1)).trans HX.out.1,HX.out.2.1.below hb2,HX.out.2.2.1.below hb2,HX.out.2.2.2.1.trans (hb2.mono HX.out.2.2.2.1.size),HX.out.2.2.2.2⟩;clear hb2 HX cf
   go_upto_region 8 with fail
   obtain ⟨w3,hw3⟩ : ∃ u,u=w2.alloc (.cells #[.int .i64 c,.bool cb,.int .i64 imm] 80):=⟨_,rfl⟩
   obtain ⟨b7,hb7⟩ : ∃ b,b=w2.heap.size:=⟨_,rfl⟩
   have H3:Hid ((w3.heap[w.heap.size]? = some (.cells (aA mk pk ck) 30)/\Mrow w w3 mk pk ck/\Ln w.heap.size v L w3/\Below w.heap.size w w3/\eY mk)/\w3.heap[b7]? = some (.cells #[.int .i64 c,.bool cb,.int .i64 imm] 80)):=by
    show _/\_;have hb:Below w2.heap.size w2 w3:=by rw [hw3];exact zAl _ _
    exact ⟨⟨(hb.block _ (zLo H2.out.1)).trans H2.out.1,H2.out.2.1.below hb,H2.out.2.2.1.below hb,H2.out.2.2.2.1.trans (hb.mono H2.out.2.2.2.1.size),H2.out.2.2.2.2⟩,by rw [hw3,hb7];exact heap_alloc_last w2 _⟩
   rw [<- hw3,<- hb7];clear hw3 hb7 H2;refine wp_region_list ?_;refine wpList_load_row rfl 30 _ rfl w.heap.size rfl _ _ (0,0) _ H3.out.1.1 underlying30 rfl (aP _ _ _) ?_
   go_wp2_with fail
   refine Calls.mono (ca _) ?_;rintro e w4 ⟨rfl,hb4⟩;have H4:Hid ((w4.heap[w.heap.size]? = some (.cells (aA mk pk ck) 30)/\Mrow w w4 mk pk ck/\Ln w.heap.size v L w4/\Below w.heap.size w w4/\eY mk)/\w4.heap[b7]? = some (.cells #[.int .i64 c,.bool cb,.int .i64 imm] 80)):=⟨⟨(hb4.block _ (zLo H3.out.1.1)).trans H3.out.1.1,H3.out.1.2.1.below hb4,H3.out.1.2.2.1.below hb4,H3.out.1.2.2.2.1.trans (hb4.mono H3.out.1.2.2.2.1.size),H3.out.1.2.2.2.2⟩,(hb4.block _ (zLo H3.out.2)).trans H3.out.2⟩;clear hb4 H3 ca
   go_upto_region 9 with fail
   obtain ⟨w5,hw5⟩ : ∃ u,u=w4.alloc (.cells #[.int .i64 pb,.int .i64 pa] 40):=⟨_,rfl⟩
   obtain ⟨b9,hb9⟩ : ∃ b,b=w4.heap.size:=⟨_,rfl⟩
   have H5:Hid ((w5.heap[w.heap.size]? = some (.cells (aA mk pk ck) 30)/\Mrow w w5 mk pk ck/\Ln w.heap.size v L w5/\Below w.heap.size w w5/\eY mk)/\w5.heap[b7]? = some (.cells #[.int .i64 c,.bool cb,.int .i64 imm] 80)/\w5.heap[b9]? = some (.cells #[.int .i64 pb,.int .i64 pa] 40)):=by
    show _/\_;have hb:Below w4.heap.size w4 w5:=by rw [hw5];exact zAl _ _
    exact ⟨⟨(hb.block _ (zLo H4.out.1.1)).trans H4.out.1.1,H4.out.1.2.1.below hb,H4.out.1.2.2.1.below hb,H4.out.1.2.2.2.1.trans (hb.mono H4.out.1.2.2.2.1.size),H4.out.1.2.2.2.2⟩,(hb.block _ (zLo H4.out.2)).trans H4.out.2,by rw [hw5,hb9];exact heap_alloc_last w4 _⟩
   rw [<- hw5,<- hb9];clear hw5 hb9 H4;refine wp_region_list ?_;refine wpList_load_row rfl 30 _ rfl w.heap.size rfl _ _ (0,0) _ H5.out.1.1 underlying30 rfl (aP _ _ _) ?_
   go_wp2_with fail
   refine Calls.mono (css _ (H5.out.1.2.1.sl H5.out.1.2.2.2.1).1 (H5.out.1.2.1.sl H5.out.1.2.2.2.1).2) ?_;rintro e w6 ⟨⟨p2,c2,rfl,own2⟩,hb6⟩;obtain ⟨m2,hm2⟩ : ∃ x,x=(bR mk).1:=⟨_,rfl⟩
   obtain ⟨cd,hcd⟩ : ∃ x,x=(bR mk).2:=⟨_,rfl⟩
   rw [<- hm2,<- hcd];rw [<- hm2] at own2
   have HM2:Hid (m2=(bR mk).1/\cd=(bR mk).2):=⟨hm2,hcd⟩;have H6:Hid ((w6.heap[w.heap.size]? = some (.cells (aA mk pk ck) 30)/\Ln w.heap.size v L w6/\Below w.heap.size w w6/\eY mk)/\w6.heap[b7]? = some (.cells #[.int .i64 c,.bool cb,.int .i64 imm] 80)/\w6.heap[b9]? = some (.cells #[.int .i64 pb,.int .i64 pa] 40)/\Mrow w w6 m2 p2 c2) :=
    ⟨⟨(hb6.block _ (zLo H5.out.1.1)).trans H5.out.1.1,H5.out.1.2.2.1.below hb6,H5.out.1.2.2.2.1.trans (hb6.mono H5.out.1.2.2.2.1.size),H5.out.1.2.2.2.2⟩,(hb6.block _ (zLo H5.out.2.1)).trans H5.out.2.1,(hb6.block _ (zLo H5.out.2.2)).trans H5.out.2.2,.inr (Stdg.nT (w':=w6) own2 _ H5.out.1.2.2.2.1.size)⟩
   clear hm2 hcd own2 hb6 H5 css
   rename_i hK
   refine hK _ _ ?_;clear hK;refine wpList_plain rfl (fun K hK=>?_);go_simp;refine hK _ _ ?_;clear hK;refine wpList_plain rfl (fun K hK=>?_);go_simp;refine hK _ _ ?_;clear hK;refine wpList_plain rfl (fun K hK=>?_);go_simp;refine hK _ _ ?_;clear hK;refine wpList_plain rfl (fun K hK=>?_);go_simp;refine hK _ _ ?_;clear hK;refine wpList_store_row rfl 30 _ _ rfl w6.heap.size (aA m2 p2 c2) rfl rfl _ _ (heap_alloc_last w6 _) (aP _ _ _) (by rw [HZ.out,aV,aV]) (dS _ _ _) ?_;rw [World.setRow_alloc_new]
   go_upto_region 10 with fail
   obtain ⟨w7,hw7⟩ : ∃ u,u=w6.alloc (.cells (aA m2 p2 c2) 30):=⟨_,rfl⟩
   obtain ⟨bn,hbn⟩ : ∃ b,b=w6.heap.size:=⟨_,rfl⟩
   have H7:Hid ((w7.heap[w.heap.size]? = some (.cells (aA mk pk ck) 30)/\Ln w.heap.size v L w7/\Below w.heap.size w w7/\eY mk)/\(w7.heap[b7]? = some (.cells #[.int .i64 c,.bool cb,.int .i64 imm] 80)/\w7.heap[b9]? = some (.cells #[.int .i64 pb,.int .i64 pa] 40))/\Mrow w w7 m2 p2 c2/\w7.heap[bn]? = some (.cells (aA m2 p2 c2) 30)):=by
    show _/\_;have hb:Below w6.heap.size w6 w7:=by rw [hw7];exact zAl _ _
    exact ⟨⟨(hb.block _ (zLo H6.out.1.1)).trans H6.out.1.1,H6.out.1.2.1.below hb,H6.out.1.2.2.1.trans (hb.mono H6.out.1.2.2.1.size),H6.out.1.2.2.2⟩,⟨(hb.block _ (zLo H6.out.2.1)).trans H6.out.2.1,(hb.block _ (zLo H6.out.2.2.1)).trans H6.out.2.2.1⟩,H6.out.2.2.2.below hb,by rw [hw7,hbn];exact heap_alloc_last w6 _⟩
   rw [<- hw7,<- hbn];clear hw7 hbn H6
   by_cases hz0:cd=0
   ·subst hz0
    obtain ⟨hnn,hline,htx⟩:=HLN.out HM2.out.2.symm;have hnb:(nn == 0)=false:=by simpa using hnn
    have HLP:Hid (gW mk=bt ++ ⟨#[58]⟩ ++ s4.extract 1 5 ++ ⟨#[32]⟩ ++ tx):=hline;have q9:=cel H7.out.2.1.2 0 _ rfl;have hbt2:=HBK.out.2.2;clear hnn hline HLN;rcases hp1 with hp1|⟨hp1,hp1'⟩
    ·have hge:decide (0<=pb)=false:=u6 (by omega)
     go_upto_region 15 with fail
     have hbk:=HBK.out.1 hp1;rw [<- hbk];clear hbk hge hp1 hs2 q9 ch2;refine wp_region_held (S:=fun U=>U.heap[b9]? = some (.cells #[.int .i64 pb,.int .i64 pa] 40)/\U.heap[b7]? = some (.cells #[.int .i64 c,.bool cb,.int .i64 imm] 80)) (by kernel_rfl) ?_;try (change wpAnyH _ _ _ _ _ _ _ _ (World.drew _))
     obtain ⟨W8,hW8⟩ : ∃ u,u=World.drew w7:=⟨_,rfl⟩
     have H8:Hid ((W8.heap[w.heap.size]? = some (.cells (aA mk pk ck) 30)/\Ln w.heap.size v L W8/\Below w.heap.size w W8/\eY mk)/\(W8.heap[b7]? = some (.cells #[.int .i64 c,.bool cb,.int .i64 imm] 80)/\W8.heap[b9]? = some (.cells #[.int .i64 pb,.int .i64 pa] 40))/\Mrow w W8 m2 p2 c2/\W8.heap[bn]? = some (.cells (aA m2 p2 c2) 30)):=by
      show _/\_;have hb:Below w7.heap.size w7 W8:=by rw [hW8];exact zRf.drew
      exact ⟨⟨(hb.block _ (zLo H7.out.1.1)).trans H7.out.1.1,H7.out.1.2.1.below hb,H7.out.1.2.2.1.trans (hb.mono H7.out.1.2.2.1.size),H7.out.1.2.2.2⟩,⟨(hb.block _ (zLo H7.out.2.1.1)).trans H7.out.2.1.1,(hb.block _ (zLo H7.out.2.1.2)).trans H7.out.2.1.2⟩,H7.out.2.2.1.below hb,(hb.block _ (zLo H7.out.2.2.2)).trans H7.out.2.2.2⟩
     rw [<- hW8];clear hW8 H7;refine wpAnyH_take (i:=0) (v:=?ve1) rfl (by kernel_rfl) (by kernel_rfl) (by kernel_rfl) (fun _ _ _ h=>h) (Or.inl ⟨by rfl,?hye1⟩) ⟨H8.out.2.1.2,H8.out.2.1.1⟩ ?reste1
     case hye1=>(intro U hS;go_simp;try with_reducible rfl)
     refine wpAnyH_take (i:=1) (v:=?ve2) rfl (by kernel_rfl) (by kernel_rfl) (by kernel_rfl) (fun _ _ _ h=>h) (Or.inl ⟨by rfl,?hye2⟩) ⟨H8.out.2.1.2,H8.out.2.1.1⟩ ?reste2
     case hye2=>(intro U hS;go_simp;try with_reducible rfl)
     go_simp;refine wpAnyH_take (i:=2) (v:=(.string (bt ++ ⟨#[58]⟩))) rfl (by kernel_rfl) (by kernel_rfl) (by kernel_rfl) (fun _ _ _ h=>h) (Or.inl ⟨by rfl,?hye3⟩) ⟨H8.out.2.1.2,H8.out.2.1.1⟩ ?reste3
     case hye3=>(intro U hS;go_simp;(try omega))
     refine wpAnyH_take (i:=3) (v:=?ve4) rfl (by kernel_rfl) (by kernel_rfl) (by kernel_rfl) (fun _ _ _ h=>h) (Or.inl ⟨by rfl,?hye4⟩) ⟨H8.out.2.1.2,H8.out.2.1.1⟩ ?reste4
     case hye4=>(intro U hS;go_simp;try with_reducible rfl)
     go_simp;refine wpAnyH_take (i:=4) (v:=?ve5) rfl (by kernel_rfl) (by kernel_rfl) (by kernel_rfl) (fun _ _ _ h=>h) (Or.inl ⟨by rfl,?hye5⟩) ⟨H8.out.2.1.2,H8.out.2.1.1⟩ ?reste5
     case hye5=>(intro U hS;have q9:=cel hS.1 1 _ rfl;go_simp;try with_reducible rfl)
     refine wpAnyH_take (i:=9) (v:=(.agg #[.int .i64 c,.bool cb,.int .i64 imm])) rfl (by kernel_rfl) (by kernel_rfl) (by kernel_rfl) (fun _ _ _ h=>h) (Or.inl ⟨by rfl,?hye6⟩) ⟨H8.out.2.1.2,H8.out.2.1.1⟩ ?reste6
     case hye6=>(intro U hS;exact kW 80 _ (by rfl) b7 (by rfl) _ _ (0,0) _ hS.2 underlying80 (by rfl) (by kernel_rfl))
     refine wpAnyH_all (rs:=[5]) (by kernel_rfl) (by simp) (List.forall_mem_cons.2 ⟨?_,fun _ h=>absurd h List.not_mem_nil⟩);refine opH rfl (by rfl) (fun K hK=>?_)
     go_wp2_with fail
     refine (ch4 _).mono ?_;rintro e wx ⟨rfl,hwx⟩;rw [hwx];clear hwx wx;refine hK _ _ ⟨H8.out.2.1.2,H8.out.2.1.1⟩ ?_;clear hK;go_simp;refine wpAnyH_take (i:=6) (v:=(.string (s4.extract 1 5))) rfl (by kernel_rfl) (by kernel_rfl) (by kernel_rfl) (fun _ _ _ h=>h) (Or.inl ⟨by rfl,?hye7⟩) ⟨H8.out.2.1.2,H8.out.2.1.1⟩ ?reste7
     case hye7=>(intro U hS;go_simp;try with_reducible rfl)
     refine wpAnyH_take (i:=7) (v:=(.string (bt ++ ⟨#[58]⟩ ++ s4.extract 1 5))) rfl (by kernel_rfl) (by kernel_rfl) (by kernel_rfl) (fun _ _ _ h=>h) (Or.inl ⟨by rfl,?hye8⟩) ⟨H8.out.2.1.2,H8.out.2.1.1⟩ ?reste8
     case hye8=>(intro U hS;go_simp;(try omega))
     refine wpAnyH_take (i:=8) (v:=(.string (bt ++ ⟨#[58]⟩ ++ s4.extract 1 5 ++ ⟨#[32]⟩))) rfl (by kernel_rfl) (by kernel_rfl) (by kernel_rfl) (fun _ _ _ h=>h) (Or.inl ⟨by rfl,?hye9⟩) ⟨H8.out.2.1.2,H8.out.2.1.1⟩ ?reste9
     case hye9=>(intro U hS;go_simp;(try omega))
     refine wpAnyH_all (rs:=[10]) (by kernel_rfl) (by simp) (List.forall_mem_cons.2 ⟨?_,fun _ h=>absurd h List.not_mem_nil⟩);refine opH rfl (by rfl) (fun K hK=>?_)
     go_wp2_with fail
     refine (ct _).mono ?_;rintro e W9 ⟨rfl,hb9⟩;have H9:Hid ((W9.heap[w.heap.size]? = some (.cells (aA mk pk ck) 30)/\Ln w.heap.size v L W9/\Below w.heap.size w W9/\eY mk)/\(W9.heap[b7]? = some (.cells #[.int .i64 c,.bool cb,.int .i64 imm] 80)/\W9.heap[b9]? = some (.cells #[.int .i64 pb,.int .i64 pa] 40))/\Mrow w W9 m2 p2 c2/\W9.heap[bn]? = some (.cells (aA m2 p2 c2) 30)):=⟨⟨(hb9.block _ (zLo H8.out.1.1)).trans H8.out.1.1,H8.out.1.2.1.below hb9,H8.out.1.2.2.1.trans (hb9.mono H8.out.1.2.2.1.size),H8.out.1.2.2.2⟩,⟨(hb9.block _ (zLo H8.out.2.1.1)).trans H8.out.2.1.1,(hb9.block _ (zLo H8.out.2.1.2)).trans H8.out.2.1.2⟩,H8.out.2.2.1.below hb9,(hb9.block _ (zLo H8.out.2.2.2)).trans H8.out.2.2.2⟩;clear hb9 H8;refine hK _ _ ⟨H9.out.2.1.2,H9.out.2.1.1⟩ ?_;clear hK;refine wpAnyH_take (i:=11) (v:=(.string (bt ++ ⟨#[58]⟩ ++ s4.extract 1 5 ++ ⟨#[32]⟩ ++ tx))) rfl (by kernel_rfl) (by kernel_rfl) (by kernel_rfl) (fun _ _ _ h=>h) (Or.inl ⟨by rfl,?hye10⟩) ⟨H9.out.2.1.2,H9.out.2.1.1⟩ ?reste10
     case hye10=>(intro U hS;go_simp;(try omega))
     refine wpAnyH_all (rs:=[12]) (by kernel_rfl) (by simp) (List.forall_mem_cons.2 ⟨?_,fun _ h=>absurd h List.not_mem_nil⟩);refine opH rfl (by rfl) (fun K hK=>?_);go_simp;obtain ⟨WA,hWA⟩ : ∃ u,u=W9.alloc (.cells #[.string (bt ++ ⟨#[58]⟩ ++ s4.extract 1 5 ++ ⟨#[32]⟩ ++ tx)] 9):=⟨_,rfl⟩
     obtain ⟨bl,hbl⟩ : ∃ b,b=W9.heap.size:=⟨_,rfl⟩
     have HA:Hid ((WA.heap[w.heap.size]? = some (.cells (aA mk pk ck) 30)/\Ln w.heap.size v L WA/\Below w.heap.size w WA/\eY mk)/\(WA.heap[b7]? = some (.cells #[.int .i64 c,.bool cb,.int .i64 imm] 80)/\WA.heap[b9]? = some (.cells #[.int .i64 pb,.int .i64 pa] 40))/\Mrow w WA m2 p2 c2/\WA.heap[bn]? = some (.cells (aA m2 p2 c2) 30)):=by
      show _/\_;have hb:Below W9.heap.size W9 WA:=by rw [hWA];exact zAl _ _
      exact ⟨⟨(hb.block _ (zLo H9.out.1.1)).trans H9.out.1.1,H9.out.1.2.1.below hb,H9.out.1.2.2.1.trans (hb.mono H9.out.1.2.2.1.size),H9.out.1.2.2.2⟩,⟨(hb.block _ (zLo H9.out.2.1.1)).trans H9.out.2.1.1,(hb.block _ (zLo H9.out.2.1.2)).trans H9.out.2.1.2⟩,H9.out.2.2.1.below hb,(hb.block _ (zLo H9.out.2.2.2)).trans H9.out.2.2.2⟩
     have HCA:Hid (WA.cell? ((⟨bl,0,none⟩ : Addr).add 0)=some (.string (bt ++ ⟨#[58]⟩ ++ s4.extract 1 5 ++ ⟨#[32]⟩ ++ tx))):=by show _=_;rw [hWA,hbl];exact cel (heap_alloc_last W9 _) 0 _ rfl
     rw [<- hWA,<- hbl];clear hWA hbl H9;refine hK _ _ ⟨HA.out.2.1.2,HA.out.2.1.1⟩ ?_;clear hK;refine wpAnyH_all (rs:=[13]) (by kernel_rfl) (by simp) (List.forall_mem_cons.2 ⟨?_,fun _ h=>absurd h List.not_mem_nil⟩);refine opH rfl (by rfl) (fun K hK=>?_);refine wp_append_own WA (.tmp 54) (.tmp 66) 44 rfl w.heap.size 9 i0 (.string ⟨#[]⟩) 1 16 underlying44 hi hz0 hz1 hz2 rfl (by decide) v L.length (L.map Value.string) rfl HA.out.1.2.1 ⟨bl,0,none⟩ 1 1 [.string (bt ++ ⟨#[58]⟩ ++ s4.extract 1 5 ++ ⟨#[32]⟩ ++ tx)] rfl rfl (by
      intro j u hu
      match j,hu with
      | 0,hu=>simp at hu;subst hu;exact HCA.out
      | j+1,hu=>simp at hu) (by intro u hu;simp at hu;subst hu;rfl) (by unfold maxLen;omega) (by omega) HA.out.1.2.2.1.size ?_
     intro v' WB hown' hgrow _;have hown2:Ln w.heap.size v' (L ++ [(bt ++ ⟨#[58]⟩ ++ s4.extract 1 5 ++ ⟨#[32]⟩ ++ tx)]) WB:=snoc hown' rfl;have kp:∀ (k:Nat) (cs:Array Value) (t:TypeId),WA.heap[k]? = some (.cells cs t)->t ≠ 9->WB.heap[k]? = some (.cells cs t):=fun k cs t e ht=>(hgrow.block k (zLo e) (fun e2=>HA.out.1.2.1.ne e ht e2.symm)).trans e
     have HB:Hid ((WB.heap[w.heap.size]? = some (.cells (aA mk pk ck) 30)/\Ln w.heap.size v' (L ++ [(bt ++ ⟨#[58]⟩ ++ s4.extract 1 5 ++ ⟨#[32]⟩ ++ tx)]) WB/\Below w.heap.size w WB)/\(WB.heap[b7]? = some (.cells #[.int .i64 c,.bool cb,.int .i64 imm] 80)/\WB.heap[b9]? = some (.cells #[.int .i64 pb,.int .i64 pa] 40))/\Mrow w WB m2 p2 c2/\WB.heap[bn]? = some (.cells (aA m2 p2 c2) 30)) :=
      ⟨⟨kp _ _ _ HA.out.1.1 (by decide),hown2,HA.out.1.2.2.1.grown hgrow HA.out.1.2.2.1.size (fun j e=>by
       rcases HA.out.1.2.1.2 with ⟨rfl,_⟩|⟨g,cap',cur,rfl,hb,_⟩
       ·cases e
       ·cases e;exact hb)⟩,⟨kp _ _ _ HA.out.2.1.1 (by decide),kp _ _ _ HA.out.2.1.2 (by decide)⟩,HA.out.2.2.1.grown HA.out.1.2.1 hgrow,kp _ _ _ HA.out.2.2.2 (by decide)⟩
     have HFM:Hid (eY mk):=HA.out.1.2.2.2;clear hown' hown2 hgrow kp HA HCA;refine hK _ _ ⟨HB.out.2.1.2,HB.out.2.1.1⟩ ?_;clear hK;refine wpAnyH_take (i:=14) (v:=v') rfl (by kernel_rfl) (by kernel_rfl) (by kernel_rfl) (fun _ _ _ h=>h) (Or.inl ⟨by rfl,?hye11⟩) ⟨HB.out.2.1.2,HB.out.2.1.1⟩ ?reste11
     case hye11=>(intro U hS;go_simp;try with_reducible rfl)
     refine wpAnyH_done (by kernel_rfl) ?_ _
     go_upto_region 16 with fail
     refine wp_region_list ?_;refine wpList_load_row rfl 30 _ rfl bn rfl _ _ (0,0) _ HB.out.2.2.2 underlying30 rfl (aP _ _ _) ?_;refine wpList_store_row rfl 30 _ _ rfl w.heap.size _ rfl rfl _ _ HB.out.1.1 (aP _ _ _) (by rw [aV,aV]) (dS _ _ _) ?_;have HR:Hid (SI w (L ++ [gW mk]) v' m2 (WB.setRow w.heap.size (aA m2 p2 c2))):=by
      rw [HLP.out];exact ⟨p2,c2,bG HB.out.1.1,HB.out.2.2.1.row HB.out.1.1,HB.out.1.2.1.kept (fun k cs e e2=>aZ (fun e3=>by subst e3;rw [HB.out.1.1] at e2;cases e2) _),bJ HB.out.1.2.2 (Nat.le_refl _),by rw [HM2.out.1];exact lO HFM.out⟩
     have d1:IntKind.i64.wrap ((k:Int)+1)=(k:Int)+1:=by rw [x6];omega
     clear HB
     go_wp2_with fail
     go_roundw
     case rel =>
      refine ⟨k+1,m2,L ++ [gW mk],by omega,by go_num,by rw [List.length_append];simp only [List.length_singleton];omega,?_,HR.out⟩;show _=_;have e1:N-k=(N-(k+1))+1:=by omega
      rw [HT.out,e1,kX HM2.out.2.symm,HM2.out.1,List.append_assoc]
      rfl
     case measure=>simp [intOf];omega
    ·have hge:decide (0<=pb)=true:=x9 hp1
     have hs2:=hs2 hp1
     go_upto_region 15 with (go_at_call 51;refine (ch2 _).mono ?_;rintro e wx ⟨rfl,hwx⟩;rw [hwx];clear hwx wx)
     have hbk:=HBK.out.2.1 hp1;rw [<- hbk];clear hbk hge hp1 hp1' hs2 q9 ch2;refine wp_region_held (S:=fun U=>U.heap[b9]? = some (.cells #[.int .i64 pb,.int .i64 pa] 40)/\U.heap[b7]? = some (.cells #[.int .i64 c,.bool cb,.int .i64 imm] 80)) (by kernel_rfl) ?_;try (change wpAnyH _ _ _ _ _ _ _ _ (World.drew _))
     obtain ⟨W8,hW8⟩ : ∃ u,u=World.drew w7:=⟨_,rfl⟩
     have H8:Hid ((W8.heap[w.heap.size]? = some (.cells (aA mk pk ck) 30)/\Ln w.heap.size v L W8/\Below w.heap.size w W8/\eY mk)/\(W8.heap[b7]? = some (.cells #[.int .i64 c,.bool cb,.int .i64 imm] 80)/\W8.heap[b9]? = some (.cells #[.int .i64 pb,.int .i64 pa] 40))/\Mrow w W8 m2 p2 c2/\W8.heap[bn]? = some (.cells (aA m2 p2 c2) 30)):=by
      show _/\_;have hb:Below w7.heap.size w7 W8:=by rw [hW8];exact zRf.drew
      exact ⟨⟨(hb.block _ (zLo H7.out.1.1)).trans H7.out.1.1,H7.out.1.2.1.below hb,H7.out.1.2.2.1.trans (hb.mono H7.out.1.2.2.1.size),H7.out.1.2.2.2⟩,⟨(hb.block _ (zLo H7.out.2.1.1)).trans H7.out.2.1.1,(hb.block _ (zLo H7.out.2.1.2)).trans H7.out.2.1.2⟩,H7.out.2.2.1.below hb,(hb.block _ (zLo H7.out.2.2.2)).trans H7.out.2.2.2⟩
     rw [<- hW8];clear hW8 H7;refine wpAnyH_take (i:=0) (v:=?ve12) rfl (by kernel_rfl) (by kernel_rfl) (by kernel_rfl) (fun _ _ _ h=>h) (Or.inl ⟨by rfl,?hye12⟩) ⟨H8.out.2.1.2,H8.out.2.1.1⟩ ?reste12
     case hye12=>(intro U hS;go_simp;try with_reducible rfl)
     refine wpAnyH_take (i:=1) (v:=?ve13) rfl (by kernel_rfl) (by kernel_rfl) (by kernel_rfl) (fun _ _ _ h=>h) (Or.inl ⟨by rfl,?hye13⟩) ⟨H8.out.2.1.2,H8.out.2.1.1⟩ ?reste13
     case hye13=>(intro U hS;go_simp;try with_reducible rfl)
     go_simp;refine wpAnyH_take (i:=2) (v:=(.string (bt ++ ⟨#[58]⟩))) rfl (by kernel_rfl) (by kernel_rfl) (by kernel_rfl) (fun _ _ _ h=>h) (Or.inl ⟨by rfl,?hye14⟩) ⟨H8.out.2.1.2,H8.out.2.1.1⟩ ?reste14
     case hye14=>(intro U hS;go_simp;(try omega))
     refine wpAnyH_take (i:=3) (v:=?ve15) rfl (by kernel_rfl) (by kernel_rfl) (by kernel_rfl) (fun _ _ _ h=>h) (Or.inl ⟨by rfl,?hye15⟩) ⟨H8.out.2.1.2,H8.out.2.1.1⟩ ?reste15
     case hye15=>(intro U hS;go_simp;try with_reducible rfl)
     go_simp;refine wpAnyH_take (i:=4) (v:=?ve16) rfl (by kernel_rfl) (by kernel_rfl) (by kernel_rfl) (fun _ _ _ h=>h) (Or.inl ⟨by rfl,?hye16⟩) ⟨H8.out.2.1.2,H8.out.2.1.1⟩ ?reste16
     case hye16=>(intro U hS;have q9:=cel hS.1 1 _ rfl;go_simp;try with_reducible rfl)
     refine wpAnyH_take (i:=9) (v:=(.agg #[.int .i64 c,.bool cb,.int .i64 imm])) rfl (by kernel_rfl) (by kernel_rfl) (by kernel_rfl) (fun _ _ _ h=>h) (Or.inl ⟨by rfl,?hye17⟩) ⟨H8.out.2.1.2,H8.out.2.1.1⟩ ?reste17
     case hye17=>(intro U hS;exact kW 80 _ (by rfl) b7 (by rfl) _ _ (0,0) _ hS.2 underlying80 (by rfl) (by kernel_rfl))
     refine wpAnyH_all (rs:=[5]) (by kernel_rfl) (by simp) (List.forall_mem_cons.2 ⟨?_,fun _ h=>absurd h List.not_mem_nil⟩);refine opH rfl (by rfl) (fun K hK=>?_)
     go_wp2_with fail
     refine (ch4 _).mono ?_;rintro e wx ⟨rfl,hwx⟩;rw [hwx];clear hwx wx;refine hK _ _ ⟨H8.out.2.1.2,H8.out.2.1.1⟩ ?_;clear hK;go_simp;refine wpAnyH_take (i:=6) (v:=(.string (s4.extract 1 5))) rfl (by kernel_rfl) (by kernel_rfl) (by kernel_rfl) (fun _ _ _ h=>h) (Or.inl ⟨by rfl,?hye18⟩) ⟨H8.out.2.1.2,H8.out.2.1.1⟩ ?reste18
     case hye18=>(intro U hS;go_simp;try with_reducible rfl)
     refine wpAnyH_take (i:=7) (v:=(.string (bt ++ ⟨#[58]⟩ ++ s4.extract 1 5))) rfl (by kernel_rfl) (by kernel_rfl) (by kernel_rfl) (fun _ _ _ h=>h) (Or.inl ⟨by rfl,?hye19⟩) ⟨H8.out.2.1.2,H8.out.2.1.1⟩ ?reste19
     case hye19=>(intro U hS;go_simp;(try omega))
     refine wpAnyH_take (i:=8) (v:=(.string (bt ++ ⟨#[58]⟩ ++ s4.extract 1 5 ++ ⟨#[32]⟩))) rfl (by kernel_rfl) (by kernel_rfl) (by kernel_rfl) (fun _ _ _ h=>h) (Or.inl ⟨by rfl,?hye20⟩) ⟨H8.out.2.1.2,H8.out.2.1.1⟩ ?reste20
     case hye20=>(intro U hS;go_simp;(try omega))
     refine wpAnyH_all (rs:=[10]) (by kernel_rfl) (by simp) (List.forall_mem_cons.2 ⟨?_,fun _ h=>absurd h List.not_mem_nil⟩);refine opH rfl (by rfl) (fun K hK=>?_)
     go_wp2_with fail
     refine (ct _).mono ?_;rintro e W9 ⟨rfl,hb9⟩;have H9:Hid ((W9.heap[w.heap.size]? = some (.cells (aA mk pk ck) 30)/\Ln w.heap.size v L W9/\Below w.heap.size w W9/\eY mk)/\(W9.heap[b7]? = some (.cells #[.int .i64 c,.bool cb,.int .i64 imm] 80)/\W9.heap[b9]? = some (.cells #[.int .i64 pb,.int .i64 pa] 40))/\Mrow w W9 m2 p2 c2/\W9.heap[bn]? = some (.cells (aA m2 p2 c2) 30)):=⟨⟨(hb9.block _ (zLo H8.out.1.1)).trans H8.out.1.1,H8.out.1.2.1.below hb9,H8.out.1.2.2.1.trans (hb9.mono H8.out.1.2.2.1.size),H8.out.1.2.2.2⟩,⟨(hb9.block _ (zLo H8.out.2.1.1)).trans H8.out.2.1.1,(hb9.block _ (zLo H8.out.2.1.2)).trans H8.out.2.1.2⟩,H8.out.2.2.1.below hb9,(hb9.block _ (zLo H8.out.2.2.2)).trans H8.out.2.2.2⟩;clear hb9 H8;refine hK _ _ ⟨H9.out.2.1.2,H9.out.2.1.1⟩ ?_;clear hK;refine wpAnyH_take (i:=11) (v:=(.string (bt ++ ⟨#[58]⟩ ++ s4.extract 1 5 ++ ⟨#[32]⟩ ++ tx))) rfl (by kernel_rfl) (by kernel_rfl) (by kernel_rfl) (fun _ _ _ h=>h) (Or.inl ⟨by rfl,?hye21⟩) ⟨H9.out.2.1.2,H9.out.2.1.1⟩ ?reste21
     case hye21=>(intro U hS;go_simp;(try omega))
     refine wpAnyH_all (rs:=[12]) (by kernel_rfl) (by simp) (List.forall_mem_cons.2 ⟨?_,fun _ h=>absurd h List.not_mem_nil⟩);refine opH rfl (by rfl) (fun K hK=>?_);go_simp;obtain ⟨WA,hWA⟩ : ∃ u,u=W9.alloc (.cells #[.string (bt ++ ⟨#[58]⟩ ++ s4.extract 1 5 ++ ⟨#[32]⟩ ++ tx)] 9):=⟨_,rfl⟩
     obtain ⟨bl,hbl⟩ : ∃ b,b=W9.heap.size:=⟨_,rfl⟩
     have HA:Hid ((WA.heap[w.heap.size]? = some (.cells (aA mk pk ck) 30)/\Ln w.heap.size v L WA/\Below w.heap.size w WA/\eY mk)/\(WA.heap[b7]? = some (.cells #[.int .i64 c,.bool cb,.int .i64 imm] 80)/\WA.heap[b9]? = some (.cells #[.int .i64 pb,.int .i64 pa] 40))/\Mrow w WA m2 p2 c2/\WA.heap[bn]? = some (.cells (aA m2 p2 c2) 30)):=by
      show _/\_;have hb:Below W9.heap.size W9 WA:=by rw [hWA];exact zAl _ _
      exact ⟨⟨(hb.block _ (zLo H9.out.1.1)).trans H9.out.1.1,H9.out.1.2.1.below hb,H9.out.1.2.2.1.trans (hb.mono H9.out.1.2.2.1.size),H9.out.1.2.2.2⟩,⟨(hb.block _ (zLo H9.out.2.1.1)).trans H9.out.2.1.1,(hb.block _ (zLo H9.out.2.1.2)).trans H9.out.2.1.2⟩,H9.out.2.2.1.below hb,(hb.block _ (zLo H9.out.2.2.2)).trans H9.out.2.2.2⟩
     have HCA:Hid (WA.cell? ((⟨bl,0,none⟩ : Addr).add 0)=some (.string (bt ++ ⟨#[58]⟩ ++ s4.extract 1 5 ++ ⟨#[32]⟩ ++ tx))):=by show _=_;rw [hWA,hbl];exact cel (heap_alloc_last W9 _) 0 _ rfl
     rw [<- hWA,<- hbl];clear hWA hbl H9;refine hK _ _ ⟨HA.out.2.1.2,HA.out.2.1.1⟩ ?_;clear hK;refine wpAnyH_all (rs:=[13]) (by kernel_rfl) (by simp) (List.forall_mem_cons.2 ⟨?_,fun _ h=>absurd h List.not_mem_nil⟩);refine opH rfl (by rfl) (fun K hK=>?_);refine wp_append_own WA (.tmp 54) (.tmp 66) 44 rfl w.heap.size 9 i0 (.string ⟨#[]⟩) 1 16 underlying44 hi hz0 hz1 hz2 rfl (by decide) v L.length (L.map Value.string) rfl HA.out.1.2.1 ⟨bl,0,none⟩ 1 1 [.string (bt ++ ⟨#[58]⟩ ++ s4.extract 1 5 ++ ⟨#[32]⟩ ++ tx)] rfl rfl (by
      intro j u hu
      match j,hu with
      | 0,hu=>simp at hu;subst hu;exact HCA.out
      | j+1,hu=>simp at hu) (by intro u hu;simp at hu;subst hu;rfl) (by unfold maxLen;omega) (by omega) HA.out.1.2.2.1.size ?_
     intro v' WB hown' hgrow _;have hown2:Ln w.heap.size v' (L ++ [(bt ++ ⟨#[58]⟩ ++ s4.extract 1 5 ++ ⟨#[32]⟩ ++ tx)]) WB:=snoc hown' rfl;have kp:∀ (k:Nat) (cs:Array Value) (t:TypeId),WA.heap[k]? = some (.cells cs t)->t ≠ 9->WB.heap[k]? = some (.cells cs t):=fun k cs t e ht=>(hgrow.block k (zLo e) (fun e2=>HA.out.1.2.1.ne e ht e2.symm)).trans e
     have HB:Hid ((WB.heap[w.heap.size]? = some (.cells (aA mk pk ck) 30)/\Ln w.heap.size v' (L ++ [(bt ++ ⟨#[58]⟩ ++ s4.extract 1 5 ++ ⟨#[32]⟩ ++ tx)]) WB/\Below w.heap.size w WB)/\(WB.heap[b7]? = some (.cells #[.int .i64 c,.bool cb,.int .i64 imm] 80)/\WB.heap[b9]? = some (.cells #[.int .i64 pb,.int .i64 pa] 40))/\Mrow w WB m2 p2 c2/\WB.heap[bn]? = some (.cells (aA m2 p2 c2) 30)) :=
      ⟨⟨kp _ _ _ HA.out.1.1 (by decide),hown2,HA.out.1.2.2.1.grown hgrow HA.out.1.2.2.1.size (fun j e=>by
       rcases HA.out.1.2.1.2 with ⟨rfl,_⟩|⟨g,cap',cur,rfl,hb,_⟩
       ·cases e
       ·cases e;exact hb)⟩,⟨kp _ _ _ HA.out.2.1.1 (by decide),kp _ _ _ HA.out.2.1.2 (by decide)⟩,HA.out.2.2.1.grown HA.out.1.2.1 hgrow,kp _ _ _ HA.out.2.2.2 (by decide)⟩
     have HFM:Hid (eY mk):=HA.out.1.2.2.2;clear hown' hown2 hgrow kp HA HCA;refine hK _ _ ⟨HB.out.2.1.2,HB.out.2.1.1⟩ ?_;clear hK;refine wpAnyH_take (i:=14) (v:=v') rfl (by kernel_rfl) (by kernel_rfl) (by kernel_rfl) (fun _ _ _ h=>h) (Or.inl ⟨by rfl,?hye22⟩) ⟨HB.out.2.1.2,HB.out.2.1.1⟩ ?reste22
     case hye22=>(intro U hS;go_simp;try with_reducible rfl)
     refine wpAnyH_done (by kernel_rfl) ?_ _
     go_upto_region 16 with fail
     refine wp_region_list ?_;refine wpList_load_row rfl 30 _ rfl bn rfl _ _ (0,0) _ HB.out.2.2.2 underlying30 rfl (aP _ _ _) ?_;refine wpList_store_row rfl 30 _ _ rfl w.heap.size _ rfl rfl _ _ HB.out.1.1 (aP _ _ _) (by rw [aV,aV]) (dS _ _ _) ?_;have HR:Hid (SI w (L ++ [gW mk]) v' m2 (WB.setRow w.heap.size (aA m2 p2 c2))):=by
      rw [HLP.out];exact ⟨p2,c2,bG HB.out.1.1,HB.out.2.2.1.row HB.out.1.1,HB.out.1.2.1.kept (fun k cs e e2=>aZ (fun e3=>by subst e3;rw [HB.out.1.1] at e2;cases e2) _),bJ HB.out.1.2.2 (Nat.le_refl _),by rw [HM2.out.1];exact lO HFM.out⟩
     have d1:IntKind.i64.wrap ((k:Int)+1)=(k:Int)+1:=by rw [x6];omega
     clear HB
     go_wp2_with fail
     go_roundw
     case rel =>
      refine ⟨k+1,m2,L ++ [gW mk],by omega,by go_num,by rw [List.length_append];simp only [List.length_singleton];omega,?_,HR.out⟩;show _=_;have e1:N-k=(N-(k+1))+1:=by omega
      rw [HT.out,e1,kX HM2.out.2.symm,HM2.out.1,List.append_assoc]
      rfl
     case measure=>simp [intOf];omega
   ·have hne:(cd == 0)=false:=by simpa using hz0
    have HNZ:Hid (cd ≠ 0):=hz0;clear hz0 HLN;go_wp2;go_ret;refine ⟨v,rfl,?_,H7.out.1.2.2.1⟩;have e1:N-k=(N-(k+1))+1:=by omega
    rw [HV.out,HT.out,e1,rQ (by rw [<- HM2.out.2];exact HNZ.out),List.append_nil];exact H7.out.1.2.1
  ·obtain ⟨pk,ck,hbox,hrow,hown,hbel,hfine⟩:=HI.out
   have HO:Hid (Ln w.heap.size v L wr/\Below w.heap.size w wr):=⟨hown,hbel⟩;clear hbox hrow hown hbel hfine HI;go_wp2;go_ret;refine ⟨v,rfl,?_,HO.out.2⟩;have e:k=N:=by omega
   rw [HV.out,HT.out,e,Nat.sub_self];simp only [dA,List.append_nil];exact HO.out.1
theorem sK (m:M) (po:Option Addr) (cap:Nat) (n:Int) (w:World) (hs:Sm m) (hN:Sl w po m.out cap) (hpo:∀ p,po=some p->p.block<w.heap.size):Calls prog 18 #[.agg (aA m po cap),.int .i64 n] w (rR m n w):=by
 by_cases h:lT m=true/\0<=n/\n<=100
 ·exact aYF m po cap n w hs hN hpo h.1 h.2
 ·exact bFI m po cap n w hs hN h
end Trac
end Go.Proofs.YteglcgnhhoenbaaGreatDoor
