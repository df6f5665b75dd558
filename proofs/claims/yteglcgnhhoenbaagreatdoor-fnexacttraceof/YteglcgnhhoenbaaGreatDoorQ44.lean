import Derived.Test.YteglcgnhhoenbaaGreatDoorQ42
set_option linter.all false
set_option maxRecDepth 20000
set_option maxHeartbeats 8000000
open Go.ChangeShapes Go.WideShapes Go.ChangeAt Go.RowKit
open Go.Proofs.Tryz
namespace Go.Proofs.YteglcgnhhoenbaaGreatDoor
namespace Trai
open Go.Deep
open Busw Busx Busy Stpp Stpq Stpi Stpo Stpl Runp Ista Runt Plac Stfr Trap Traa
open MachT (bG aZ bJ cel)
open Txts (aEH)
attribute [local go_sem] Oper.semAt_some
theorem bFJ (m:M) (po:Option Addr) (cap:Nat) (n:Int) (w:World) (hs:Sm m) (hN:Sl w po m.out cap) (hbad:¬ (lT m=true/\0<=n/\n<=100)) :
  Calls prog 16 #[.agg (aA m po cap),.int .i64 n] w (rR m n w):=by
 have hz:=fM;have c1:=fun W (h:Sl W po m.out cap)=>xU m po cap W hs h
 have H0:Hid (∀ W,Below w.heap.size w W->Sl W po m.out cap):=fun W h=>hN.below h
 have HV:Hid (fU m n=[]):=by show _=_;unfold fU;rw [if_neg hbad]
 obtain ⟨b1,hb1⟩ : ∃ b,lT m=b:=⟨_,rfl⟩
 obtain ⟨b2,hb2⟩ : ∃ b,decide (n<0)=b:=⟨_,rfl⟩
 obtain ⟨b3,hb3⟩ : ∃ b,decide (100<n)=b:=⟨_,rfl⟩
 have hcase:b1=false \/ (b1=true/\b2=true) \/ (b1=true/\b2=false/\b3=true):=by
  cases b1
  ·exact .inl rfl
  cases b2
  ·cases b3
   ·exact absurd ⟨hb1,by have:=of_decide_eq_false hb2;omega,by have:=of_decide_eq_false hb3;omega⟩ hbad
   ·exact .inr (.inr ⟨rfl,rfl,rfl⟩)
  ·exact .inr (.inl ⟨rfl,rfl⟩)
 rw [hb1] at c1
 clear hN hs hb1 hbad;obtain ⟨cM,hcM⟩ : ∃ c,c=aA m po cap:=⟨_,rfl⟩
 obtain ⟨cZ,hcZ⟩ : ∃ c,c=aA Z0 none 0:=⟨_,rfl⟩
 have HM:Hid (cM=aA m po cap):=hcM;have HZ:Hid (cZ=aA Z0 none 0):=hcZ;have HIM:Hid ((prog.info? 30).map (·.size)=some cM.size):=hcM ▸ aP m po cap;rw [<- hcM] at c1 |-
 rw [<- hcZ] at hz
 clear hcM hcZ
 go_enter func16,ntmps16
 go_upto_region 1 with fail
 refine wp_region_list ?_;refine wpList_load_row rfl 30 _ rfl w.heap.size rfl _ _ (0,0) _ (heap_alloc_last w _) underlying30 rfl HIM.out ?_
 go_wp2_with fail
 refine Calls.mono (c1 _ (H0.out _ (zAl _ _))) ?_;rintro e w1 ⟨rfl,hb1⟩;have X1:Hid (w1.heap[w.heap.size]? = some (.cells cM 30)/\Below w.heap.size w w1):=⟨(hb1.block _ (by simp)).trans (heap_alloc_last w _),(zAl _ _).trans (hb1.mono (by simp))⟩;clear hb1 c1;rcases hcase with rfl|⟨rfl,rfl⟩|⟨rfl,rfl,rfl⟩
 all_goals
  go_wp2;go_ret;exact ⟨_,rfl,by rw [HV.out];exact World.ownsRow_nil _ _ _ _,X1.out.2⟩
theorem aYG (m:M) (po:Option Addr) (cap:Nat) (n:Int) (w:World) (hs:Sm m) (hN:Sl w po m.out cap) (hc:Trab.Cx w) (ht:Tb w) (hok:lT m=true) (hn:0<=n/\n<=100) :
  CallsIn Fence.wide 6 prog 16 #[.agg (aA m po cap),.int .i64 n] w (rR m n w):=by
 obtain ⟨i0,hi,hz0,hz1,hz2⟩:=info_parts aEH;have hz:=fM;have c1:=fun W (h:Sl W po m.out cap)=>xU m po cap W hs h
 have H0:Hid (∀ W,Below w.heap.size w W->Sl W po m.out cap):=fun W h=>hN.below h
 have HT:Hid (Tb w/\Trab.Cx w):=⟨ht,hc⟩;rw [hok] at c1
 have HGD:Hid (eY m):=aES hok hs;have HLE:Hid (m.out.length<=1048576):=hs.out;have HV:Hid (fU m n=dA n.toNat m):=by show _=_;unfold fU;rw [if_pos ⟨hok,hn⟩]
 have hd:decide (n<0)=false:=u6 (by omega);have hd2:decide (100<n)=false:=u6 (by omega);obtain ⟨N,hNn⟩ : ∃ N:Nat,(N:Int)=n:=⟨n.toNat,by omega⟩
 subst hNn;have hN1:N<=100:=by omega
 rw [Int.toNat_natCast] at HV
 clear hN hs hok ht hc hn;obtain ⟨cM,hcM⟩ : ∃ c,c=aA m po cap:=⟨_,rfl⟩
 obtain ⟨cZ,hcZ⟩ : ∃ c,c=aA Z0 none 0:=⟨_,rfl⟩
 have HM:Hid (cM=aA m po cap):=hcM;have HZ:Hid (cZ=aA Z0 none 0):=hcZ;have HIM:Hid ((prog.info? 30).map (·.size)=some cM.size):=hcM ▸ aP m po cap;rw [<- hcM] at c1 |-
 rw [<- hcZ] at hz
 clear hcM hcZ;refine callsIn_of_wp_marks func16 rfl trivial ?_ rfl;simp only [ntmps16,List.size_toArray,List.length_cons,List.length_nil,Nat.reduceAdd,Nat.reduceSub,Array.replicate_succ,Array.replicate_zero,List.push_toArray,List.append_toArray,List.nil_append,List.cons_append];refine wpIn_wide.2 ?_
 go_upto_region 1 with fail
 refine wp_region_list ?_;refine wpList_load_row rfl 30 _ rfl w.heap.size rfl _ _ (0,0) _ (heap_alloc_last w _) underlying30 rfl HIM.out ?_
 go_wp2_with fail
 refine Calls.mono (c1 _ (H0.out _ (zAl _ _))) ?_;rintro e w1 ⟨rfl,hb1⟩;have X1:Hid (w1.heap[w.heap.size]? = some (.cells cM 30)/\Below w.heap.size w w1):=⟨(hb1.block _ (by simp)).trans (heap_alloc_last w _),(zAl _ _).trans (hb1.mono (by simp))⟩;clear hb1 c1;have X2:Hid (w1.heap[w.heap.size]? = some (.cells (aA m po cap) 30)/\Below w.heap.size w w1):=by rw [<- HM.out];exact X1.out
 have q21:w1.cell? ⟨w.heap.size,21,none⟩=some (.slice po m.out.length cap):=eM X2.out.1 21 _ rfl
 go_upto_region 3 with fail
 clear hd hd2 X1
 go_wp2_with fail
 refine Calls.mono (aHH po m.out cap w1 (H0.out w1 X2.out.2) HLE.out) ?_;rintro e w2 ⟨⟨po',cap',rfl,own⟩,hb2⟩;have hld:=lay X2.out.2 X2.out.1 hb2 own;have X3:Hid ((w2.setCell ⟨w.heap.size,21,none⟩ (.slice po' m.out.length cap')).heap[w.heap.size]? = some (.cells (aA m po' cap') 30)/\nU w.heap.size ⟨0,m,po',cap',0⟩ (w2.setCell ⟨w.heap.size,21,none⟩ (.slice po' m.out.length cap'))/\Below w.heap.size w (w2.setCell ⟨w.heap.size,21,none⟩ (.slice po' m.out.length cap'))) :=
  ⟨hld.box,hld.row,(X2.out.2.trans (hb2.mono X2.out.2.size)).setCell (Nat.le_refl _) _⟩
 have hlt:w.heap.size<w1.heap.size:=(zLo X2.out.1);have q21':w2.cell? ⟨w.heap.size,21,none⟩=some (.slice po m.out.length cap):=(hb2.cell (p:=⟨w.heap.size,21,none⟩) hlt).trans q21;have f21':w2.frozen? ⟨w.heap.size,21,none⟩=false:=by
  rw [World.frozen?_of_block (a:=⟨w.heap.size,21,none⟩) (hb2.block w.heap.size hlt)];exact frozen_of_row _ _ _ _ _ X2.out.1
 clear q21 own hb2 hlt hld X2
 go_upto_region 4 with fail
 clear q21' f21';generalize w2.setCell ⟨w.heap.size,21,none⟩ (.slice po' m.out.length cap')=W3 at *
 go_upto_region 5 with fail
 obtain ⟨D,hD⟩ : ∃ d,d=W3.heap.size:=⟨_,rfl⟩
 obtain ⟨W4,hW4⟩ : ∃ u,u=W3.alloc (.cells #[.slice none 0 0] 44):=⟨_,rfl⟩
 have X4:Hid (St w D [] (.slice none 0 0) (aA m po' cap') ⟨0,m,po',cap',0⟩ W4/\w.heap.size<D/\W4.heap.size=D+1):=by
  show _/\_;rw [hW4,hD];have hl:=(zLo X3.out.1);exact ⟨⟨(aM _ _ hl).trans X3.out.1,heap_alloc_last W3 _,World.ownsRow_nil _ _ _ _,X3.out.2.1.alloc _,X3.out.2.2.alloc X3.out.2.2.size _⟩,hl,by simp⟩
 rw [<- hD,<- hW4];clear hW4 hD X3;refine wp_region_list ?_;refine wpList_load_row rfl 30 _ rfl w.heap.size rfl _ _ (0,0) _ X4.out.1.box underlying30 rfl (aP _ _ _) ?_
 go_wp2_with fail
 refine Calls.mono (sI (aA m po' cap') (N:Int) _ (aV _ _ _)) ?_;rintro e w5 ⟨rfl,rfl⟩
 go_wp2_with fail
 obtain ⟨cA,hcA⟩ : ∃ c,c=W4.heap.size:=⟨_,rfl⟩
 obtain ⟨w5,hw5⟩ : ∃ u,u=(W4.alloc (.cells (aA m po' cap') 30)).alloc (.cells #[.int .i64 (N:Int)] 2):=⟨_,rfl⟩
 have X5:Hid (St w D [] (.slice none 0 0) (aA m po' cap') ⟨0,m,po',cap',0⟩ w5/\w.heap.size<D/\w5.heap.size=D+3/\w5.heap[cA]? = some (.cells (aA m po' cap') 30)/\w5.heap[cA+1]? = some (.cells #[.int .i64 (N:Int)] 2)):=by
  show _/\_;obtain ⟨h1,h3,h4⟩:=X4.out;rw [hw5,hcA];refine ⟨h1.below ((zAl _ _).alloc (by simp) _),h3,by simp [h4],(aM _ _ (by simp)).trans (heap_alloc_last W4 _),?_⟩
  have:=heap_alloc_last (W4.alloc (.cells (aA m po' cap') 30)) (.cells #[.int .i64 (N:Int)] 2)
  simpa using this
 rw [<- hw5,<- hcA];clear hw5 hcA X4 HIM H0 HLE;obtain ⟨R,hR⟩ : ∃ r,r=dA N m:=⟨_,rfl⟩
 have HR:Hid (R=dA N m):=hR;have HU:Hid (w.heap.size<w5.heap.size/\D<w5.heap.size):=⟨by have:=X5.out.2;omega,by have:=X5.out.2;omega⟩;clear hR
 rename_i K0 hK0
 have HK0:Hid _:=hK0;clear hK0;refine (wpIn_wide (n:=6)).1 ?_;refine Rlaw.aFK rfl (by omega) (gf:=79) (lb:=#[.pointer (some ⟨cA,0,none⟩),.pointer (some ⟨cA+1,0,none⟩)]) rfl trivial (enters_of func79 (by kernel_rfl) rfl) encs (fun _=>rfl) ⟨0,m,po',cap',0⟩
  (I w D N w5.heap.size m) (fun _ _=>False) (Gv w.heap.size (w5.heap.size+2) N) (fun s X W x a' V=>a'={ tmps:=#[.agg cM,.int .i64 (N:Int),.pointer (some ⟨w.heap.size,0,none⟩),undef,.slice none 0 0,.pointer (some ⟨D,0,none⟩),.pointer (some ⟨W.heap.size,0,none⟩),.int .i64 x.code,.agg cM,.bool true,.bool false,.bool false,.int .i64 (N:Int),.bool false,.bool false,.bool false,.int .i64 (N:Int),.bool false,.bool false,.pointer (some ⟨w.heap.size,21,none⟩),.slice po m.out.length cap,.slice po' m.out.length cap',.pointer (some ⟨w.heap.size,21,none⟩),.agg (aA m po' cap'),.int .i64 (N:Int),.func (.func 79) #[] #[.pointer (some ⟨cA,0,none⟩),.pointer (some ⟨cA+1,0,none⟩)],.agg (aA x.m x.po x.cap),.int .i64 x.code,undef,undef,undef,undef,undef,undef,undef,undef],defers:=[] }/\Ga w D N w5.heap.size m s x W V) (Kp w.heap.size (w5.heap.size+2)) (En2 w.heap.size w5.heap.size N)
  (fun s=>I.free HU.out.1 HU.out.2) (fun c W k o o' h=>h.elim) (fun x W=>Rtoa.aYE (by have:=HU.out.1;omega)) (fun s X=>En2.free) ?hGa ?h0 ?hit ?assign ?body ?done ?stop
 case hGa=>exact fun s X W x a' V k o o' h hk ho hc hc'=>⟨h.1,Ga.free HU.out.1 HU.out.2 V k o o' h.2 hk ho hc hc'⟩
 case h0=>exact fun r=>⟨[],_,X5.out.1.below ((zAl _ _).alloc (by simp) _),fun cs e=>by
  have:=(zLo e)
  simp at this,Nat.zero_le _,HGD.out,Nat.zero_le _,.inl ⟨rfl,rfl⟩⟩
 case hit =>
  intro W1 J Jx hB1 hS1 hJI hJ0 hy;have t1:=X5.out.1.below hB1;refine CallsIn.mono (callsIn_wide.2 (aQZ (w5.heap.size+1) 4 w.heap.size N m po' cap' cA (cA+1) W1 J Jx (by omega) ((hB1.block _ (zLo X5.out.2.2.2.1)).trans X5.out.2.2.2.1) ((hB1.block _ (zLo X5.out.2.2.2.2)).trans X5.out.2.2.2.2) t1.row HGD.out (HT.out.1.below t1.bel) (HT.out.2.max.below t1.bel) ⟨(aYY HT.out.1).1,(aYY HT.out.1).2,bFB HT.out.2.max⟩ t1.bel.size hJ0 ?_)) ?_
  ·intro s X W x hJ hG
   rw [hS1] at hG |-
   obtain ⟨L,v,hst,_⟩:=hJI s X hJ;exact hy s X W x hJ hG (Rtoa.aAG hG.2.2.2.2.2.2.1 hst.row)
  ·rintro e W' ⟨hv,(⟨s,X,hJ,hE⟩|hx)⟩
   ·rw [hS1] at hE
    exact ⟨hv,.inl ⟨s,X,hJ,En2.of hE⟩⟩
   ·exact ⟨hv,.inr hx⟩
 case assign =>
  intro s X W x hI hG;obtain ⟨L,v,hst,hB9,hLl,hF,hjN,hMore⟩:=hI;obtain ⟨g1,g2,g3,g4,g5,g6,g7,g8⟩:=hG;have hTr:dA N m=L ++ dA (N-s.j) s.m:=by
   rcases hMore with ⟨_,h⟩|⟨h,_⟩
   ·exact h
   ·exact absurd g1 h
  have hbW:Below w.heap.size w W:=⟨g7.os.trans hst.bel.os,g7.tape.trans hst.bel.tape,g7.output.trans hst.bel.output,Nat.le_trans hst.bel.size g7.size,fun k hk=>by
   have hl:k<X.heap.size:=Nat.lt_of_lt_of_le hk hst.bel.size
   have:=g7.block k _ (Array.getElem?_eq_getElem hl) (fun e=>by
    rcases hs:s.po with _|p
    ·rw [hs] at e;cases e
    ·rw [hs] at e;have e3:k=p.block:=Option.some.inj e;have:=aBV hst.row p hs;omega) (.inl (by have:=HU.out.1;omega))
   rw [this,<- Array.getElem?_eq_getElem hl];exact hst.bel.block k hk⟩
  have hlD:=(zLo hst.lin);have HW:Hid (St w D L v (aA s.m s.po s.cap) x W) :=
   ⟨g7.block _ _ hst.box (wJ hst.row hst.box (by decide)) (.inl (by have:=HU.out.1;omega)),g7.block _ _ hst.lin (wJ hst.row hst.lin (by decide)) (.inl (by have:=HU.out.2;omega)),
    hst.own.kept (fun k cs _ e=>(g7.block k _ e (wJ hst.row e (by decide)) (.inl (fun e2=>hB9 cs (e2 ▸ e)))).trans e.symm),g5,hbW⟩
  have HWU:Hid ((D<W.heap.size/\w.heap.size<W.heap.size)/\(∃ cs,W.heap[w5.heap.size+2]? = some (.cells cs 30))/\L.length<=s.j/\eY s.m/\s.j<N/\x.j=s.j+1/\bR s.m=(x.m,x.code)/\dA N m=L ++ dA (N-s.j) s.m) :=
   ⟨⟨Nat.lt_of_lt_of_le hlD g7.size,by have:=(zLo hst.box);have:=g7.size;omega⟩,g8,hLl,hF,g2,g3,g4,hTr⟩
  clear hst hB9 hLl hF hjN hMore g1 g2 g3 g4 g5 g6 g7 g8 hbW hlD hTr;unfold encs
  gi_wp2_with first
   | (refine Rin.iO rfl 30 _ _ rfl W.heap.size (aA x.m x.po x.cap) rfl rfl _ _ (heap_alloc_last W _) (aP _ _ _) (by rw [HZ.out,aV,aV]) (dS _ _ _) ?_;rw [World.setRow_alloc_new])
   | fail
  obtain ⟨k1,⟨cB,k2⟩,k3⟩:=HWU.out;refine ⟨(Rtoa.Hi.below (Rtoa.Hi.refl _ _) (zAl _ _)).keeps,?_⟩;try refine ⟨trivial,?_⟩
  exact ⟨L,v,⟨heap_alloc_last W _,k1⟩,HW.out.below (zAl _ _),⟨cB,(aM _ _ (zLo k2)).trans k2⟩,⟨zRf.alloc HW.out.bel.size _,fun k cs e hk=>(aM _ _ (zLo e)).trans e⟩,k3⟩
 case body =>
  intro s X W x a' V hI hG;obtain ⟨rfl,L,v,hg1,hst,hu2,hkp,q1,q2,q3,q4,q5,q6⟩:=hG;obtain ⟨xj,xm,xp,xc,cd⟩:=x;have HS:Hid (St w D L v (aA s.m s.po s.cap) ⟨xj,xm,xp,xc,cd⟩ V):=hst;have HN:Hid (V.heap[W.heap.size]? = some (.cells (aA xm xp xc) 30)/\D<W.heap.size/\w.heap.size<W.heap.size):=hg1;have HP:Hid (L.length<=s.j/\eY s.m/\s.j<N/\xj=s.j+1/\bR s.m=(xm,cd)/\dA N m=L ++ dA (N-s.j) s.m):=⟨q1,q2,q3,q4,q5,q6⟩;have HKP:Hid ((∃ cs,V.heap[w5.heap.size+2]? = some (.cells cs 30))/\Below w.heap.size W V/\∀ k cs,W.heap[k]? = some (.cells cs 30)->w5.heap.size+2<=k->V.heap[k]? = some (.cells cs 30)):=⟨hu2,hkp⟩;have HFX:Hid (eY xm):=by have h:=lO q2;rw [q5] at h;exact h
  have HX5:Hid (w.heap.size<D/\w5.heap.size=D+3):=⟨X5.out.2.1,X5.out.2.2.1⟩;have fin:∀ (L':List ByteArray) (v':Value) (V6:World),St w D L' v' (aA xm xp xc) ⟨xj,xm,xp,xc,cd⟩ V6->Hj w.heap.size D V V6->L'.length<=xj->bKU N m L' ⟨xj,xm,xp,xc,cd⟩ ->
    KeepsFrom w5.heap.size V V6/\Kp w.heap.size (w5.heap.size+2) ⟨xj,xm,xp,xc,cd⟩ W V6/\I w D N w5.heap.size m ⟨xj,xm,xp,xc,cd⟩ V6:=by
   intro L' v' V6 h1 h2 h3 h4;obtain ⟨⟨cB,k1⟩,k2,k3⟩:=HKP.out;have k4:=h2.mach k1 (by have:=HX5.out;omega) (by have:=HX5.out;omega);refine ⟨h2.keeps HU.out.1 HU.out.2,⟨Rtoa.aRA k2 HS.out.bel h1.bel h2.1,h1.row,fun k cs e hk=>h2.mach (k3 k cs e hk) (by have:=HX5.out;omega) (by have:=HX5.out;omega)⟩,L',v',h1,(fun cs e=>by rw [k4] at e;cases e),h3,HFX.out,by have:=HP.out.2.2;omega,h4⟩
  have HFIN:Hid _:=fin;clear hI hg1 hst hu2 hkp q1 q2 q3 q4 q5 q6 fin
  by_cases hz0:cd=0
  ·subst hz0
   have hins:=aFH (m:=s.m) (by rw [HP.out.2.2.2.2.1]);obtain ⟨ln,hln⟩ : ∃ l,l=gW s.m:=⟨_,rfl⟩
   have HLN:Hid (ln=gW s.m):=hln;have HCT:Hid (∀ U,Below w.heap.size w U->U.heap[w.heap.size]? = some (.cells (aA s.m s.po s.cap) 30)->Calls prog 49 #[.pointer (some ⟨w.heap.size,0,none⟩)] U fun e w'=>e=.returned (.string ln)/\Below U.heap.size U w'):=fun U hb hB=>by
    rw [hln];exact Trab.sJ s.m s.po s.cap w.heap.size U hB HP.out.2.1.1 hins (HT.out.2.below hb)
   clear hins hln;have hne9:(0:Int)=0:=rfl
   gi_wp2_with fail
   refine Inr.aFP (by kernel_rfl) (by kernel_rfl) (by rintro ⟨_,_,h⟩;exact h) ?_;obtain ⟨V0,hV0⟩ : ∃ u,u=World.drew V:=⟨_,rfl⟩
   have H0:Hid (St w D L v (aA s.m s.po s.cap) ⟨xj,xm,xp,xc,0⟩ V0/\Hj w.heap.size D V V0):=by
    show _/\_;rw [hV0];exact ⟨HS.out.below zRf.drew,(Hj.refl _ _ _).below zRf.drew⟩
   rw [<- hV0];clear hV0;refine wpAny_ready (rs:=[0,1]) (by kernel_rfl) (by simp) ?_;refine MachP.bQ rfl rfl (fun K hK=>?_) (MachP.bQ rfl rfl (fun K hK=>?_) AllReady.nil)
   ·have q5:=cel H0.out.1.lin 0 _ rfl
    go_simp;refine hK _ _ ?_;clear hK q5;refine wpAny_ready (rs:=[1]) (by kernel_rfl) (by simp) ?_;refine MachP.bQ rfl rfl (fun K hK=>?_) AllReady.nil
    go_wp2_with fail
    refine Calls.mono (HCT.out V0 H0.out.1.bel H0.out.1.box) ?_;rintro e V1 ⟨rfl,hb1⟩;have H1:Hid (St w D L v (aA s.m s.po s.cap) ⟨xj,xm,xp,xc,0⟩ V1/\Hj w.heap.size D V V1):=⟨H0.out.1.below hb1,H0.out.2.below hb1⟩;clear hb1 HCT;refine hK _ _ ?_;clear hK;refine wpAny_ready (rs:=[2]) (by kernel_rfl) (by simp) ?_;refine MachP.bQ rfl rfl (fun K hK=>?_) AllReady.nil;go_simp;refine hK _ _ ?_;clear hK;obtain ⟨V2,hV2⟩ : ∃ u,u=V1.alloc (.cells #[.string ln] 9):=⟨_,rfl⟩
    obtain ⟨bl,hbl⟩ : ∃ b,b=V1.heap.size:=⟨_,rfl⟩
    have H2:Hid (St w D L v (aA s.m s.po s.cap) ⟨xj,xm,xp,xc,0⟩ V2/\Hj w.heap.size D V V2):=by
     show _/\_;rw [hV2];exact ⟨H1.out.1.below (zAl _ _),H1.out.2.below (zAl _ _)⟩
    have HC2:Hid (V2.cell? ((⟨bl,0,none⟩ : Addr).add 0)=some (.string ln)):=by show _=_;rw [hV2,hbl];exact cel (heap_alloc_last V1 _) 0 _ rfl
    rw [<- hV2,<- hbl];clear hV2 hbl H1;refine wpAny_ready (rs:=[3]) (by kernel_rfl) (by simp) ?_;refine MachP.bQ rfl rfl (fun K hK=>?_) AllReady.nil;refine wp_append_own V2 (.tmp 30) (.tmp 32) 44 rfl w.heap.size 9 i0 (.string ⟨#[]⟩) 1 16 underlying44 hi hz0 hz1 hz2 rfl (by decide) v L.length (L.map Value.string) rfl H2.out.1.own ⟨bl,0,none⟩ 1 1 [.string ln] rfl rfl (by
     intro j u hu
     match j,hu with
     | 0,hu=>simp at hu;subst hu;exact HC2.out
     | j+1,hu=>simp at hu) (by intro u hu;simp at hu;subst hu;rfl) (by have:=HP.out;unfold maxLen;omega) (by have:=HP.out;omega) H2.out.1.bel.size ?_
    intro v' V3 hown' hgrow _;refine hK _ _ ?_;clear hK;have hown2:Ln w.heap.size v' (L ++ [ln]) V3:=snoc hown' rfl;obtain ⟨pl,cl,rfl,_,_⟩:=Txts.fX hown2;obtain ⟨nl,hnl⟩ : ∃ k,k=(L ++ [ln]).length:=⟨_,rfl⟩
    rw [<- hnl] at hown2 |-
    clear hown' hnl;obtain ⟨⟨q5,f5⟩,htold⟩:=H2.out.1.told hgrow hown2 HX5.out.1;have H4:Hid (St w D (L ++ [ln]) (.slice pl nl cl) (aA s.m s.po s.cap) ⟨xj,xm,xp,xc,0⟩ (V3.setCell ⟨D,0,none⟩ (.slice pl nl cl))/\Hj w.heap.size D V (V3.setCell ⟨D,0,none⟩ (.slice pl nl cl))):=⟨htold,(H2.out.2.grown H2.out.1.own hgrow).cell _⟩;clear htold hown2 hgrow H2 HC2;refine wpAny_ready (rs:=[4]) (by kernel_rfl) (by simp) ?_;refine MachP.bQ rfl rfl (fun K hK=>?_) AllReady.nil;go_simp;refine hK _ _ ?_;clear hK q5 f5;refine wpAny_done (by kernel_rfl) ?_ _;obtain ⟨V4,hV4⟩ : ∃ u,u=V3.setCell ⟨D,0,none⟩ (.slice pl nl cl):=⟨_,rfl⟩
    rw [<- hV4] at H4 |-
    clear hV4;have HN4:Hid (V4.heap[W.heap.size]? = some (.cells (aA xm xp xc) 30)):=H4.out.2.mach HN.out.1 (by have:=HN.out.2.2;omega) (by have:=HN.out.2.1;omega)
    gi_wp2_with first
     | (refine Rin.iN rfl 30 _ rfl W.heap.size rfl _ _ (0,0) _ HN4.out underlying30 rfl (aP _ _ _) ?_)
     | (refine Rin.iO rfl 30 _ _ rfl w.heap.size (aA xm xp xc) rfl rfl _ _ H4.out.1.box (aP _ _ _) (by rw [aV,aV]) (dS _ _ _) ?_)
     | fail
    refine HFIN.out (L ++ [ln]) _ _ (H4.out.1.next HX5.out.1) (H4.out.2.row _) (by have:=HP.out;rw [List.length_append];simp only [List.length_singleton];omega) (.inl ⟨rfl,?_⟩);obtain ⟨p1,p2,p3,p4,p5,p6⟩:=HP.out;have e1:N-s.j=(N-(s.j+1))+1:=by omega
    rw [p6,e1,kX (by rw [p5]),p5,HLN.out,p4,List.append_assoc]
    rfl
   ·go_wp2_with fail
    refine Calls.mono (HCT.out V0 H0.out.1.bel H0.out.1.box) ?_;rintro e V1 ⟨rfl,hb1⟩;have H1:Hid (St w D L v (aA s.m s.po s.cap) ⟨xj,xm,xp,xc,0⟩ V1/\Hj w.heap.size D V V1):=⟨H0.out.1.below hb1,H0.out.2.below hb1⟩;clear hb1 HCT;refine hK _ _ ?_;clear hK;refine wpAny_ready (rs:=[0,2]) (by kernel_rfl) (by simp) ?_;refine MachP.bQ rfl rfl (fun K hK=>?_) (MachP.bQ rfl rfl (fun K hK=>?_) AllReady.nil)
    ·have q5:=cel H1.out.1.lin 0 _ rfl
     go_simp;refine hK _ _ ?_;clear hK q5;refine wpAny_ready (rs:=[2]) (by kernel_rfl) (by simp) ?_;refine MachP.bQ rfl rfl (fun K hK=>?_) AllReady.nil;go_simp;refine hK _ _ ?_;clear hK;obtain ⟨V2,hV2⟩ : ∃ u,u=V1.alloc (.cells #[.string ln] 9):=⟨_,rfl⟩
     obtain ⟨bl,hbl⟩ : ∃ b,b=V1.heap.size:=⟨_,rfl⟩
     have H2:Hid (St w D L v (aA s.m s.po s.cap) ⟨xj,xm,xp,xc,0⟩ V2/\Hj w.heap.size D V V2):=by
      show _/\_;rw [hV2];exact ⟨H1.out.1.below (zAl _ _),H1.out.2.below (zAl _ _)⟩
     have HC2:Hid (V2.cell? ((⟨bl,0,none⟩ : Addr).add 0)=some (.string ln)):=by show _=_;rw [hV2,hbl];exact cel (heap_alloc_last V1 _) 0 _ rfl
     rw [<- hV2,<- hbl];clear hV2 hbl H1;refine wpAny_ready (rs:=[3]) (by kernel_rfl) (by simp) ?_;refine MachP.bQ rfl rfl (fun K hK=>?_) AllReady.nil;refine wp_append_own V2 (.tmp 30) (.tmp 32) 44 rfl w.heap.size 9 i0 (.string ⟨#[]⟩) 1 16 underlying44 hi hz0 hz1 hz2 rfl (by decide) v L.length (L.map Value.string) rfl H2.out.1.own ⟨bl,0,none⟩ 1 1 [.string ln] rfl rfl (by
      intro j u hu
      match j,hu with
      | 0,hu=>simp at hu;subst hu;exact HC2.out
      | j+1,hu=>simp at hu) (by intro u hu;simp at hu;subst hu;rfl) (by have:=HP.out;unfold maxLen;omega) (by have:=HP.out;omega) H2.out.1.bel.size ?_
     intro v' V3 hown' hgrow _;refine hK _ _ ?_;clear hK;have hown2:Ln w.heap.size v' (L ++ [ln]) V3:=snoc hown' rfl;obtain ⟨pl,cl,rfl,_,_⟩:=Txts.fX hown2;obtain ⟨nl,hnl⟩ : ∃ k,k=(L ++ [ln]).length:=⟨_,rfl⟩
     rw [<- hnl] at hown2 |-
     clear hown' hnl;obtain ⟨⟨q5,f5⟩,htold⟩:=H2.out.1.told hgrow hown2 HX5.out.1;have H4:Hid (St w D (L ++ [ln]) (.slice pl nl cl) (aA s.m s.po s.cap) ⟨xj,xm,xp,xc,0⟩ (V3.setCell ⟨D,0,none⟩ (.slice pl nl cl))/\Hj w.heap.size D V (V3.setCell ⟨D,0,none⟩ (.slice pl nl cl))):=⟨htold,(H2.out.2.grown H2.out.1.own hgrow).cell _⟩;clear htold hown2 hgrow H2 HC2;refine wpAny_ready (rs:=[4]) (by kernel_rfl) (by simp) ?_;refine MachP.bQ rfl rfl (fun K hK=>?_) AllReady.nil;go_simp;refine hK _ _ ?_;clear hK q5 f5;refine wpAny_done (by kernel_rfl) ?_ _;obtain ⟨V4,hV4⟩ : ∃ u,u=V3.setCell ⟨D,0,none⟩ (.slice pl nl cl):=⟨_,rfl⟩
     rw [<- hV4] at H4 |-
     clear hV4;have HN4:Hid (V4.heap[W.heap.size]? = some (.cells (aA xm xp xc) 30)):=H4.out.2.mach HN.out.1 (by have:=HN.out.2.2;omega) (by have:=HN.out.2.1;omega)
     gi_wp2_with first
      | (refine Rin.iN rfl 30 _ rfl W.heap.size rfl _ _ (0,0) _ HN4.out underlying30 rfl (aP _ _ _) ?_)
      | (refine Rin.iO rfl 30 _ _ rfl w.heap.size (aA xm xp xc) rfl rfl _ _ H4.out.1.box (aP _ _ _) (by rw [aV,aV]) (dS _ _ _) ?_)
      | fail
     refine HFIN.out (L ++ [ln]) _ _ (H4.out.1.next HX5.out.1) (H4.out.2.row _) (by have:=HP.out;rw [List.length_append];simp only [List.length_singleton];omega) (.inl ⟨rfl,?_⟩);obtain ⟨p1,p2,p3,p4,p5,p6⟩:=HP.out;have e1:N-s.j=(N-(s.j+1))+1:=by omega
     rw [p6,e1,kX (by rw [p5]),p5,HLN.out,p4,List.append_assoc]
     rfl
    ·go_simp
     refine hK _ _ ?_;clear hK;obtain ⟨V2,hV2⟩ : ∃ u,u=V1.alloc (.cells #[.string ln] 9):=⟨_,rfl⟩
     obtain ⟨bl,hbl⟩ : ∃ b,b=V1.heap.size:=⟨_,rfl⟩
     have H2:Hid (St w D L v (aA s.m s.po s.cap) ⟨xj,xm,xp,xc,0⟩ V2/\Hj w.heap.size D V V2):=by
      show _/\_;rw [hV2];exact ⟨H1.out.1.below (zAl _ _),H1.out.2.below (zAl _ _)⟩
     have HC2:Hid (V2.cell? ((⟨bl,0,none⟩ : Addr).add 0)=some (.string ln)):=by show _=_;rw [hV2,hbl];exact cel (heap_alloc_last V1 _) 0 _ rfl
     rw [<- hV2,<- hbl];clear hV2 hbl H1;refine wpAny_ready (rs:=[0]) (by kernel_rfl) (by simp) ?_;refine MachP.bQ rfl rfl (fun K hK=>?_) AllReady.nil;have q5:=cel H2.out.1.lin 0 _ rfl;go_simp;refine hK _ _ ?_;clear hK q5;refine wpAny_ready (rs:=[3]) (by kernel_rfl) (by simp) ?_;refine MachP.bQ rfl rfl (fun K hK=>?_) AllReady.nil;refine wp_append_own V2 (.tmp 30) (.tmp 32) 44 rfl w.heap.size 9 i0 (.string ⟨#[]⟩) 1 16 underlying44 hi hz0 hz1 hz2 rfl (by decide) v L.length (L.map Value.string) rfl H2.out.1.own ⟨bl,0,none⟩ 1 1 [.string ln] rfl rfl (by
      intro j u hu
      match j,hu with
      | 0,hu=>simp at hu;subst hu;exact HC2.out
      | j+1,hu=>simp at hu) (by intro u hu;simp at hu;subst hu;rfl) (by have:=HP.out;unfold maxLen;omega) (by have:=HP.out;omega) H2.out.1.bel.size ?_
     intro v' V3 hown' hgrow _;refine hK _ _ ?_;clear hK;have hown2:Ln w.heap.size v' (L ++ [ln]) V3:=snoc hown' rfl;obtain ⟨pl,cl,rfl,_,_⟩:=Txts.fX hown2;obtain ⟨nl,hnl⟩ : ∃ k,k=(L ++ [ln]).length:=⟨_,rfl⟩
     rw [<- hnl] at hown2 |-
     clear hown' hnl;obtain ⟨⟨q5,f5⟩,htold⟩:=H2.out.1.told hgrow hown2 HX5.out.1;have H4:Hid (St w D (L ++ [ln]) (.slice pl nl cl) (aA s.m s.po s.cap) ⟨xj,xm,xp,xc,0⟩ (V3.setCell ⟨D,0,none⟩ (.slice pl nl cl))/\Hj w.heap.size D V (V3.setCell ⟨D,0,none⟩ (.slice pl nl cl))):=⟨htold,(H2.out.2.grown H2.out.1.own hgrow).cell _⟩;clear htold hown2 hgrow H2 HC2;refine wpAny_ready (rs:=[4]) (by kernel_rfl) (by simp) ?_;refine MachP.bQ rfl rfl (fun K hK=>?_) AllReady.nil;go_simp;refine hK _ _ ?_;clear hK q5 f5;refine wpAny_done (by kernel_rfl) ?_ _;obtain ⟨V4,hV4⟩ : ∃ u,u=V3.setCell ⟨D,0,none⟩ (.slice pl nl cl):=⟨_,rfl⟩
     rw [<- hV4] at H4 |-
     clear hV4;have HN4:Hid (V4.heap[W.heap.size]? = some (.cells (aA xm xp xc) 30)):=H4.out.2.mach HN.out.1 (by have:=HN.out.2.2;omega) (by have:=HN.out.2.1;omega)
     gi_wp2_with first
      | (refine Rin.iN rfl 30 _ rfl W.heap.size rfl _ _ (0,0) _ HN4.out underlying30 rfl (aP _ _ _) ?_)
      | (refine Rin.iO rfl 30 _ _ rfl w.heap.size (aA xm xp xc) rfl rfl _ _ H4.out.1.box (aP _ _ _) (by rw [aV,aV]) (dS _ _ _) ?_)
      | fail
     refine HFIN.out (L ++ [ln]) _ _ (H4.out.1.next HX5.out.1) (H4.out.2.row _) (by have:=HP.out;rw [List.length_append];simp only [List.length_singleton];omega) (.inl ⟨rfl,?_⟩);obtain ⟨p1,p2,p3,p4,p5,p6⟩:=HP.out;have e1:N-s.j=(N-(s.j+1))+1:=by omega
     rw [p6,e1,kX (by rw [p5]),p5,HLN.out,p4,List.append_assoc]
     rfl
  ·have hne:(cd == 0)=false:=by simpa using hz0
   have HNZ:Hid (cd ≠ 0):=hz0;clear hz0
   gi_wp2_with first
    | (refine Rin.iN rfl 30 _ rfl W.heap.size rfl _ _ (0,0) _ HN.out.1 underlying30 rfl (aP _ _ _) ?_)
    | (refine Rin.iO rfl 30 _ _ rfl w.heap.size (aA xm xp xc) rfl rfl _ _ HS.out.box (aP _ _ _) (by rw [aV,aV]) (dS _ _ _) ?_)
    | fail
   refine HFIN.out L v _ (HS.out.next HX5.out.1) ((Hj.refl _ _ _).row _) (by have:=HP.out;omega) (.inr ⟨HNZ.out,?_⟩);obtain ⟨p1,p2,p3,p4,p5,p6⟩:=HP.out;have e1:N-s.j=(N-(s.j+1))+1:=by omega
   rw [p6,e1,rQ (by rw [p5];exact HNZ.out),List.append_nil]
 case done =>
  intro s X W hI hE hD;have HO:Hid (Out w D R W):=by show Out _ _ _ _;rw [HR.out];exact Out.done hI hE HU.out.1 HU.out.2
  have HD:Hid (W.heap[w5.heap.size]? = some (.deferred (some []))):=hD;clear hI hE hD;refine HK0.out _ _ ?_;obtain ⟨v,ho1,ho2,ho3⟩:=HO.out;have HO2:Hid (Ln w.heap.size v R W/\Below w.heap.size w W):=⟨ho2,ho3⟩;have q5:=cel ho1 0 _ rfl;clear ho1 ho2 ho3 HO;go_wp2;refine ⟨by simp,.inl ⟨_,_,rfl,run_takeDeferred HD.out,?_⟩⟩;refine ⟨_,by simp [results,results16,go_sem],v,rfl,?_,HO2.out.2.trans (belowK_b (w:=w) (Nat.le_refl _) _ _ _ _ (by have:=HU.out.1;omega) HD.out rfl rfl)⟩;have hV:fU m (N:Int)=R:=HV.out.trans HR.out.symm;rw [hV];exact Rtoa.lP HO2.out.1 HD.out rfl
 case stop=>exact fun c W h _=>h.elim
theorem sL (m:M) (po:Option Addr) (cap:Nat) (n:Int) (w:World) (hs:Sm m) (hN:Sl w po m.out cap) (hc:Trab.Cx w) (ht:Tb w):Calls prog 16 #[.agg (aA m po cap),.int .i64 n] w (rR m n w):=by
 by_cases h:lT m=true/\0<=n/\n<=100
 ·exact callsIn_wide.1 (aYG m po cap n w hs hN hc ht h.1 h.2)
 ·exact bFJ m po cap n w hs hN h
end Trai
end Go.Proofs.YteglcgnhhoenbaaGreatDoor
