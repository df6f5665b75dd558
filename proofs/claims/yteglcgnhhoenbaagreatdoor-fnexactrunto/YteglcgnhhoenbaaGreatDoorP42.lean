import Derived.Test.YteglcgnhhoenbaaGreatDoorP41
set_option linter.all false
set_option maxRecDepth 20000
set_option maxHeartbeats 8000000
open Go.ChangeShapes Go.WideShapes Go.ChangeAt Go.RowKit
open Go.Proofs.Tryz
namespace Go.Proofs.YteglcgnhhoenbaaGreatDoor
namespace Rtoi
open Go.Deep
open Busw Busx Busy Stpp Stpq Stpi Stpo Stpl Runp Ista Runt Plac Stfr Rtoa
open MachT (heap_row heap_row_other below_row cel)
attribute [local go_sem] Oper.semAt_some
theorem rt_bad (hit:M->Bool) (sa:Option Addr) (sl sc:Nat) (m:M) (po:Option Addr) (cap:Nat) (n:Int) (w:World) (hsl:sl<=maxLen) (hs:Sm m) (hN:Sl w po m.out cap) (hbad:¬ (okMM m=true/\sl<=20/\0<=n/\n<=500)) :
  Calls prog 9 #[.agg (cellsM m po cap),.slice sa sl sc,.int .i64 n] w (ToldT hit sl m n w):=by
 have hz:=zeroM
 have c1:=fun W (h:Sl W po m.out cap)=>implOk_M m po cap W hs h
 have H0:Hid (∀ W,Below w.heap.size w W->Sl W po m.out cap):=fun W h=>hN.below h
 have HBT:Hid (prog.built 30 []=some (cellsM Z0 none 0)):=builtM
 have HV:Hid (toV hit sl m n=(Z0,3,0)):=by show _=_;unfold toV;rw [if_neg hbad]
 obtain ⟨b1,hb1⟩ : ∃ b,okMM m=b:=⟨_,rfl⟩
 obtain ⟨b2,hb2⟩ : ∃ b,decide (n<0)=b:=⟨_,rfl⟩
 obtain ⟨b3,hb3⟩ : ∃ b,decide (500<n)=b:=⟨_,rfl⟩
 obtain ⟨b4,hb4⟩ : ∃ b,decide ((20:Int)<(sl:Int))=b:=⟨_,rfl⟩
 have hcase:b1=false \/ (b1=true/\b2=true) \/ (b1=true/\b2=false/\b3=true) \/ (b1=true/\b2=false/\b3=false/\b4=true):=by
  cases b1
  ·exact .inl rfl
  cases b2
  ·cases b3
   ·cases b4
    ·exact absurd ⟨hb1,by have:=of_decide_eq_false hb4;omega,by have:=of_decide_eq_false hb2;omega,by have:=of_decide_eq_false hb3;omega⟩ hbad
    ·exact .inr (.inr (.inr ⟨rfl,rfl,rfl,rfl⟩))
   ·exact .inr (.inr (.inl ⟨rfl,rfl,rfl⟩))
  ·exact .inr (.inl ⟨rfl,rfl⟩)
 rw [hb1] at c1
 clear hN hs hb1 hbad
 obtain ⟨cM,hcM⟩ : ∃ c,c=cellsM m po cap:=⟨_,rfl⟩
 obtain ⟨cZ,hcZ⟩ : ∃ c,c=cellsM Z0 none 0:=⟨_,rfl⟩
 have HM:Hid (cM=cellsM m po cap):=hcM
 have HZ:Hid (cZ=cellsM Z0 none 0):=hcZ
 have HIM:Hid ((prog.info? 30).map (·.size)=some cM.size):=hcM ▸ infoMs m po cap
 have HIZ:Hid ((prog.info? 30).map (·.size)=some cZ.size):=hcZ ▸ infoMs Z0 none 0
 have HOZ:Hid (cZ.all (·.oneCell')=true):=hcZ ▸ one_M Z0 none 0
 have HNEW:Hid (Bx w cM (.slice sa sl sc) (((((w.alloc (.cells cM 30)).alloc (.cells #[.slice sa sl sc] 31)).alloc (.cells cZ 30)).alloc (.cells #[.int .i64 0] 2)).alloc (.cells #[.int .i64 0] 2))):=hcZ ▸ Bx.new w cM (.slice sa sl sc)
 rw [<- hcM] at c1 |-
 rw [<- hcZ] at hz HBT
 clear hcM hcZ
 go_enter func9,ntmps9
 go_upto_region 1 with fail
 obtain ⟨W0,hW0⟩ : ∃ u,u=((((w.alloc (.cells cM 30)).alloc (.cells #[.slice sa sl sc] 31)).alloc (.cells cZ 30)).alloc (.cells #[.int .i64 0] 2)).alloc (.cells #[.int .i64 0] 2):=⟨_,rfl⟩
 have X0:Hid (Bx w cM (.slice sa sl sc) W0):=by show Bx _ _ _ _;rw [hW0];exact HNEW.out
 rw [<- hW0]
 clear hW0 HNEW
 refine wp_region_list ?_
 refine wpList_load_row rfl 30 _ rfl w.heap.size rfl _ _ (0,0) _ X0.out.m underlying30 rfl HIM.out ?_
 go_wp2_with fail
 refine Calls.mono (c1 _ (H0.out _ X0.out.bel)) ?_
 rintro e w1 ⟨rfl,hb1⟩
 have X1:=zHd (X0.out.below hb1)
 clear hb1 c1 X0
 have cs:w1.cell? ⟨w.heap.size+1,0,none⟩=some (.slice sa sl sc):=cel X1.out.s 0 _ rfl
 rcases hcase with rfl|⟨rfl,rfl⟩|⟨rfl,rfl,rfl⟩|⟨rfl,rfl,rfl,rfl⟩
 all_goals
  go_upto_region 2 with fail
  refine wp_region_list ?_
  refine wpList_build0 rfl 30 rfl cZ HBT.out ?_
  refine wpList_store_row rfl 30 _ _ rfl (w.heap.size+1+1) (cellsM Z0 none 0) rfl (by rw [<- HZ.out];rfl) _ _ X1.out.r (infoMs _ _ _) rfl (one_M _ _ _) ?_
  obtain ⟨W2,hW2⟩ : ∃ u,u=w1.setRow (w.heap.size+1+1) (cellsM Z0 none 0):=⟨_,rfl⟩
  have X2:Hid (W2.heap[w.heap.size+1+1]? = some (.cells (cellsM Z0 none 0) 30)/\W2.heap[w.heap.size+1+1+1]? = some (.cells #[.int .i64 0] 2)/\W2.heap[w.heap.size+1+1+1+1]? = some (.cells #[.int .i64 0] 2)/\Below w.heap.size w W2):=by
   show _/\_;rw [hW2];exact ⟨heap_row X1.out.r,(heap_row_other (by omega) _).trans X1.out.c,(heap_row_other (by omega) _).trans X1.out.d,below_row X1.out.bel (by omega)⟩
  rw [<- hW2]
  clear hW2
  have q3:=cel X2.out.2.1 0 _ rfl
  have q4:=cel X2.out.2.2.1 0 _ rfl
  have f3:=frozen_of_row W2 (w.heap.size+1+1+1) 0 _ _ X2.out.2.1
  have f4:=frozen_of_row W2 (w.heap.size+1+1+1+1) 0 _ _ X2.out.2.2.1
  have HE:Hid (((W2.setCell ⟨w.heap.size+1+1+1,0,none⟩ (.int .i64 3)).setCell ⟨w.heap.size+1+1+1+1,0,none⟩ (.int .i64 0)).heap[w.heap.size+1+1]? = some (.cells (cellsM Z0 none 0) 30)/\((W2.setCell ⟨w.heap.size+1+1+1,0,none⟩ (.int .i64 3)).setCell ⟨w.heap.size+1+1+1+1,0,none⟩ (.int .i64 0)).cell? ⟨w.heap.size+1+1+1,0,none⟩=some (.int .i64 3)/\((W2.setCell ⟨w.heap.size+1+1+1,0,none⟩ (.int .i64 3)).setCell ⟨w.heap.size+1+1+1+1,0,none⟩ (.int .i64 0)).cell? ⟨w.heap.size+1+1+1+1,0,none⟩=some (.int .i64 0)/\Below w.heap.size w ((W2.setCell ⟨w.heap.size+1+1+1,0,none⟩ (.int .i64 3)).setCell ⟨w.heap.size+1+1+1+1,0,none⟩ (.int .i64 0))):=by
   refine ⟨?_,?_,?_,(X2.out.2.2.2.setCell (by simp;omega) _).setCell (by simp;omega) _⟩
   ·rw [Below.heap_setCell _ _ _ _ (by simp),Below.heap_setCell _ _ _ _ (by simp)];exact X2.out.1
   ·rw [World.cell?_setCell_other _ _ _ _ (by simp)];exact World.cell?_setCell_same _ _ _ q3
   ·refine World.cell?_setCell_same _ _ _ (u:=.int .i64 0) ?_
    rw [World.cell?_setCell_other _ _ _ _ (by simp)];exact q4
  go_wp2
  refine bodyPost_ret (v:=.tuple #[.agg (cellsM Z0 none 0),.int .i64 3,.int .i64 0]) (results_cells load_one results9 _ _ (w.heap.size+1+1) (w.heap.size+1+1+1) (w.heap.size+1+1+1+1) _ _ (0,0) _ _ _ rfl rfl rfl HE.out.1 HE.out.2.1 HE.out.2.2.1 underlying30 rfl (infoMs _ _ _)) rfl ?_
  refine ⟨⟨none,0,by rw [HV.out],?_⟩,HE.out.2.2.2⟩
  rw [HV.out]
  exact Ista.own_nil _ _ HE.out.2.2.2.size
def Qt (w:World) (R:M × Int × Int) (U:Nat):Exit->Act->World->Prop
 | .ret,a',V=>a'.defers=[{ target:=.collected U,args:=#[] }]/\a'.tmps.getD 6 undef=.pointer (some ⟨w.heap.size+1+1,0,none⟩)/\a'.tmps.getD 7 undef=.pointer (some ⟨w.heap.size+1+1+1,0,none⟩)/\a'.tmps.getD 8 undef=.pointer (some ⟨w.heap.size+1+1+1+1,0,none⟩)/\Res w R V/\V.heap[U]? = some (.deferred (some []))
 | _,_,_=>False
theorem fin (hit:M->Bool) (sl:Nat) (m:M) (n:Int) (w:World) (R:M × Int × Int) (U:Nat) (hV:toV hit sl m n=R) (hU:w.heap.size+5<=U) (a:Act) (V:World) (hd:a.defers=[{ target:=.collected U,args:=#[] }])
  (h6:a.tmps.getD 6 undef=.pointer (some ⟨w.heap.size+1+1,0,none⟩)) (h7:a.tmps.getD 7 undef=.pointer (some ⟨w.heap.size+1+1+1,0,none⟩)) (h8:a.tmps.getD 8 undef=.pointer (some ⟨w.heap.size+1+1+1+1,0,none⟩)) (hR:Res w R V) (hD:V.heap[U]? = some (.deferred (some []))) :
  bodyPostM Fence.wide 6 prog Tryz.f9 (ToldT hit sl m n w) .ret a V:=by
 show LeavesInM _ _ _ _ _ _ _ _ _
 rw [hd]
 refine ⟨by simp,.inl ⟨_,_,rfl,run_takeDeferred hD,?_⟩⟩
 obtain ⟨pf,cf,k1,k2,k3,k4,k5⟩:=hR
 have oth:∀ k,k<w.heap.size+5->(V.putObj U (.deferred none)).heap[k]? = V.heap[k]?:=fun k hk=>World.putObj_heap_other (by omega)
 refine ⟨_,results_cells load_one results9 _ _ (w.heap.size+1+1) (w.heap.size+1+1+1) (w.heap.size+1+1+1+1) _ _ (0,0) _ _ _ h6 h7 h8 ((oth _ (by omega)).trans k1) (cel ((oth _ (by omega)).trans k2) 0 (.int .i64 R.2.1) rfl) (cel ((oth _ (by omega)).trans k3) 0 (.int .i64 R.2.2) rfl) underlying30 rfl (infoMs _ _ _),?_⟩
 refine ⟨⟨pf,cf,by rw [hV],?_⟩,k5.trans (belowK_b (w:=w) (Nat.le_refl _) _ _ _ _ (by omega) hD rfl rfl)⟩
 rw [hV]
 exact own_put k4 hD rfl
theorem rt_main (L:List (Int × Int)) (sa:Option Addr) (sl sc:Nat) (m:M) (po:Option Addr) (cap:Nat) (n:Int) (w:World) (hsl:sl<=maxLen) (hs:Sm m) (hN:Sl w po m.out cap) (hL:L.length=sl) (hSt:Stops w sa L) (ht:Tb w) (hm:HolI.MaxL w) (hok:okMM m=true) (h20:sl<=20) (hn:0<=n/\n<=500) :
  CallsIn Fence.wide 6 prog 9 #[.agg (cellsM m po cap),.slice sa sl sc,.int .i64 n] w (ToldT (hitS L) sl m n w):=by
 have hz:=zeroM
 have c1:=fun W (h:Sl W po m.out cap)=>implOk_M m po cap W hs h
 have H0:Hid (∀ W,Below w.heap.size w W->Sl W po m.out cap):=fun W h=>hN.below h
 have HST:Hid (∀ W,Below w.heap.size w W->Stops W sa L):=fun W h=>hSt.below h
 have HT:Hid (Tb w/\HolI.MaxL w):=⟨ht,hm⟩
 have HBT:Hid (prog.built 30 []=some (cellsM Z0 none 0)):=builtM
 have HL:Hid (L.length=sl/\sl<=20):=⟨hL,h20⟩
 rw [hok] at c1
 have HGD:Hid (Fine m):=good_of hok hs
 have HLE:Hid (m.out.length<=1048576):=hs.out
 have HV:Hid (toV (hitS L) sl m n=toP (hitS L) n.toNat 0 m):=by show _=_;unfold toV;rw [if_pos ⟨hok,h20,hn⟩]
 have hd:decide (n<0)=false:=decide_eq_false (by omega)
 have hd2:decide (500<n)=false:=decide_eq_false (by omega)
 have hd3:decide ((20:Int)<(sl:Int))=false:=decide_eq_false (by omega)
 obtain ⟨N,hNn⟩ : ∃ N:Nat,(N:Int)=n:=⟨n.toNat,by omega⟩
 subst hNn
 have hN5:N<=500:=by omega
 rw [Int.toNat_natCast] at HV
 clear hN hs hok ht hm hSt hL hn
 obtain ⟨cM,hcM⟩ : ∃ c,c=cellsM m po cap:=⟨_,rfl⟩
 obtain ⟨cZ,hcZ⟩ : ∃ c,c=cellsM Z0 none 0:=⟨_,rfl⟩
 have HM:Hid (cM=cellsM m po cap):=hcM
 have HZ:Hid (cZ=cellsM Z0 none 0):=hcZ
 have HIM:Hid ((prog.info? 30).map (·.size)=some cM.size):=hcM ▸ infoMs m po cap
 have HIZ:Hid ((prog.info? 30).map (·.size)=some cZ.size):=hcZ ▸ infoMs Z0 none 0
 have HOZ:Hid (cZ.all (·.oneCell')=true):=hcZ ▸ one_M Z0 none 0
 have HNEW:Hid (Bx w cM (.slice sa sl sc) (((((w.alloc (.cells cM 30)).alloc (.cells #[.slice sa sl sc] 31)).alloc (.cells cZ 30)).alloc (.cells #[.int .i64 0] 2)).alloc (.cells #[.int .i64 0] 2))):=hcZ ▸ Bx.new w cM (.slice sa sl sc)
 rw [<- hcM] at c1 |-
 rw [<- hcZ] at hz HBT
 clear hcM hcZ
 refine callsIn_of_wp_marks func9 rfl trivial ?_ rfl
 simp only [ntmps9,List.size_toArray,List.length_cons,List.length_nil,Nat.reduceAdd,Nat.reduceSub,Array.replicate_succ,Array.replicate_zero,List.push_toArray,List.append_toArray,List.nil_append,List.cons_append]
 refine wpIn_wide.2 ?_
 go_upto_region 1 with fail
 obtain ⟨W0,hW0⟩ : ∃ u,u=((((w.alloc (.cells cM 30)).alloc (.cells #[.slice sa sl sc] 31)).alloc (.cells cZ 30)).alloc (.cells #[.int .i64 0] 2)).alloc (.cells #[.int .i64 0] 2):=⟨_,rfl⟩
 have X0:Hid (Bx w cM (.slice sa sl sc) W0):=by show Bx _ _ _ _;rw [hW0];exact HNEW.out
 rw [<- hW0]
 clear hW0 HNEW
 refine wp_region_list ?_
 refine wpList_load_row rfl 30 _ rfl w.heap.size rfl _ _ (0,0) _ X0.out.m underlying30 rfl HIM.out ?_
 go_wp2_with fail
 refine Calls.mono (c1 _ (H0.out _ X0.out.bel)) ?_
 rintro e w1 ⟨rfl,hb1⟩
 have X1:=zHd (X0.out.below hb1)
 clear hb1 c1 X0
 have cs:w1.cell? ⟨w.heap.size+1,0,none⟩=some (.slice sa sl sc):=cel X1.out.s 0 _ rfl
 have X2:Hid (Bx w (cellsM m po cap) (.slice sa sl sc) w1):=by rw [<- HM.out];exact X1.out
 have q21:w1.cell? ⟨w.heap.size,21,none⟩=some (.slice po m.out.length cap):=celM X2.out.m 21 _ rfl
 go_upto_region 3 with fail
 clear hd hd2 hd3 X1 cs
 go_wp2_with fail
 refine Calls.mono (clone_any po m.out cap w1 (H0.out w1 X2.out.bel) HLE.out) ?_
 rintro e w2 ⟨⟨po',cap',rfl,own⟩,hb2⟩
 have hld:=lay X2.out.bel X2.out.m hb2 own
 have X3:Hid (Bx w (cellsM m po' cap') (.slice sa sl sc) (w2.setCell ⟨w.heap.size,21,none⟩ (.slice po' m.out.length cap'))/\RowX w.heap.size ⟨0,m,po',cap',0⟩ (w2.setCell ⟨w.heap.size,21,none⟩ (.slice po' m.out.length cap'))/\∀ p,po'=some p->w.heap.size+5<=p.block/\p.block<(w2.setCell ⟨w.heap.size,21,none⟩ (.slice po' m.out.length cap')).heap.size):=by
  have h2:=X2.out.below hb2
  have oth:∀ k,k ≠ w.heap.size->(w2.setCell ⟨w.heap.size,21,none⟩ (.slice po' m.out.length cap')).heap[k]? = w2.heap[k]?:=fun k hk=>Below.heap_setCell _ _ _ _ hk
  refine ⟨⟨hld.box,(oth _ (by omega)).trans h2.s,(oth _ (by omega)).trans h2.r,(oth _ (by omega)).trans h2.c,(oth _ (by omega)).trans h2.d,h2.bel.setCell (Nat.le_refl _) _⟩,hld.row,fun p e=>⟨Nat.le_trans X2.out.lt (own_at own p e),?_⟩⟩
  rw [Busw.size_set]
  subst e
  rcases own.2 with ⟨h,_⟩|⟨g,c,cur,hv,_,hg,_⟩
  ·cases h
  ·cases hv;exact (zLo hg)
 have hlt:w.heap.size<w1.heap.size:=(zLo X2.out.m)
 have q21':w2.cell? ⟨w.heap.size,21,none⟩=some (.slice po m.out.length cap):=(hb2.cell (p:=⟨w.heap.size,21,none⟩) hlt).trans q21
 have f21':w2.frozen? ⟨w.heap.size,21,none⟩=false:=by
  rw [World.frozen?_of_block (a:=⟨w.heap.size,21,none⟩) (hb2.block w.heap.size hlt)];exact frozen_of_row _ _ _ _ _ X2.out.m
 clear q21 own hb2 hlt hld X2
 go_upto_region 4 with fail
 clear q21' f21'
 generalize w2.setCell ⟨w.heap.size,21,none⟩ (.slice po' m.out.length cap')=W3 at *
 go_upto_region 5 with fail
 obtain ⟨D,hD⟩ : ∃ d,d=W3.heap.size:=⟨_,rfl⟩
 obtain ⟨W4,hW4⟩ : ∃ u,u=W3.alloc (.cells #[.int .i64 0] 2):=⟨_,rfl⟩
 have X4:Hid (St w D (.slice sa sl sc) (cellsM m po' cap') 0 ⟨0,m,po',cap',0⟩ W4/\Away w D po'/\w.heap.size+5<=D/\W4.heap.size=D+1):=by
  show _/\_
  rw [hW4,hD]
  have hb:Below W3.heap.size W3 (W3.alloc (.cells #[.int .i64 0] 2)):=zAl _ _
  exact ⟨⟨X3.out.1.below hb,heap_alloc_last W3 _,X3.out.2.1.alloc _⟩,fun p e=>⟨(X3.out.2.2 p e).1,by have:=(X3.out.2.2 p e).2;omega⟩,X3.out.1.lt,by simp⟩
 rw [<- hD,<- hW4]
 clear hW4 hD X3
 refine wp_region_list ?_
 refine wpList_load_row rfl 30 _ rfl w.heap.size rfl _ _ (0,0) _ X4.out.1.bx.m underlying30 rfl (infoMs _ _ _) ?_
 go_wp2_with fail
 refine Calls.mono (stepsFrom_any (cellsM m po' cap') (N:Int) _ (size_M _ _ _)) ?_
 rintro e w5 ⟨rfl,rfl⟩
 go_wp2_with fail
 obtain ⟨cA,hcA⟩ : ∃ c,c=W4.heap.size:=⟨_,rfl⟩
 obtain ⟨w5,hw5⟩ : ∃ u,u=(W4.alloc (.cells (cellsM m po' cap') 30)).alloc (.cells #[.int .i64 (N:Int)] 2):=⟨_,rfl⟩
 have X5:Hid (St w D (.slice sa sl sc) (cellsM m po' cap') 0 ⟨0,m,po',cap',0⟩ w5/\Away w D po'/\w.heap.size+5<=D/\w5.heap.size=D+3/\w5.heap[cA]? = some (.cells (cellsM m po' cap') 30)/\w5.heap[cA+1]? = some (.cells #[.int .i64 (N:Int)] 2)):=by
  show _/\_
  obtain ⟨h1,h2,h3,h4⟩:=X4.out
  rw [hw5,hcA]
  refine ⟨h1.below ((zAl _ _).alloc (by simp) _),h2,h3,by simp [h4],(alloc_kept _ _ (by simp)).trans (heap_alloc_last W4 _),?_⟩
  have:=heap_alloc_last (W4.alloc (.cells (cellsM m po' cap') 30)) (.cells #[.int .i64 (N:Int)] 2)
  simpa using this
 rw [<- hw5,<- hcA]
 clear hw5 hcA X4 HBT HIM HOZ H0 HLE
 obtain ⟨R,hR⟩ : ∃ r,r=toP (hitS L) N 0 m:=⟨_,rfl⟩
 have HR:Hid (R=toP (hitS L) N 0 m):=hR
 have HU:Hid (w.heap.size+5<=w5.heap.size/\D<w5.heap.size):=⟨by have:=X5.out.2.2;omega,by have:=X5.out.2.2;omega⟩
 clear hR
 rename_i K0 hK0
 have HK0:Hid _:=hK0
 clear hK0
 have tail:∀ W,Out w D (.slice sa sl sc) R W->W.heap[w5.heap.size]? = some (.deferred (some []))->K0 { tmps:=#[.agg cM,.slice sa sl sc,.int .i64 (N:Int),.pointer (some ⟨w.heap.size,0,none⟩),.pointer (some ⟨w.heap.size+1,0,none⟩),undef,.pointer (some ⟨w.heap.size+1+1,0,none⟩),.pointer (some ⟨w.heap.size+1+1+1,0,none⟩),.pointer (some ⟨w.heap.size+1+1+1+1,0,none⟩),.pointer (some ⟨D,0,none⟩),undef,undef,.agg cM,.bool true,.bool false,.bool false,.int .i64 (N:Int),.bool false,.bool false,.bool false,.int .i64 (N:Int),.bool false,.bool false,.bool false,.slice sa sl sc,.int .i64 (sl:Int),.bool false,.bool false,undef,.pointer (some ⟨w.heap.size,21,none⟩),.slice po m.out.length cap,.slice po' m.out.length cap',.pointer (some ⟨w.heap.size,21,none⟩),.agg (cellsM m po' cap'),.int .i64 (N:Int),.func (.func 79) #[] #[.pointer (some ⟨cA,0,none⟩),.pointer (some ⟨cA+1,0,none⟩)],undef,undef,undef,undef,undef,undef,undef,undef,undef,undef,undef,undef,undef,undef,undef],defers:=[{ target:=.collected w5.heap.size,args:=#[] }] } W:=by
  intro W hO hD
  refine HK0.out _ _ (Code.wp_mono (Q:=Qt w R w5.heap.size) ?_ ?_)
  ·intro e a' V h
   unfold Qt at h
   split at h
   ·obtain ⟨h1,h2,h3,h4,h5,h6⟩:=h
    exact fin _ _ _ _ _ _ _ (HV.out.trans HR.out.symm) HU.out.1 _ _ h1 h2 h3 h4 h5 h6
   ·exact h.elim
  obtain ⟨x,hst,haw,hRx⟩:=hO
  have HRX:Hid (R=(x.m,0,(x.j:Int))/\Away w D x.po):=⟨hRx,haw⟩
  have HSW:Hid (St w D (.slice sa sl sc) (cellsM x.m x.po x.cap) x.j x W):=hst
  have HDW:Hid (W.heap[w5.heap.size]? = some (.deferred (some []))):=hD
  clear hst haw hRx hD
  refine wp_seq ?_
  refine wp_region_held (S:=fun V=>V.heap[w.heap.size]? = some (.cells (cellsM x.m x.po x.cap) 30)/\V.heap[D]? = some (.cells #[.int .i64 (x.j:Int)] 2)) (by kernel_rfl) ?_
  try (change wpAnyH _ _ _ _ _ _ _ _ (World.drew _))
  obtain ⟨V,hV⟩ : ∃ u,u=World.drew W:=⟨_,rfl⟩
  have HS:Hid (St w D (.slice sa sl sc) (cellsM x.m x.po x.cap) x.j x V):=(show St _ _ _ _ _ _ _ from by rw [hV];exact HSW.out.below zRf.drew)
  have HD:Hid (V.heap[w5.heap.size]? = some (.deferred (some []))):=(show _=_ from by rw [hV];exact HDW.out)
  rw [<- hV]
  clear hV HSW HDW
  have HS0:Hid (V.heap[w.heap.size]? = some (.cells (cellsM x.m x.po x.cap) 30)/\V.heap[D]? = some (.cells #[.int .i64 (x.j:Int)] 2)):=⟨HS.out.bx.m,HS.out.cnt⟩
  refine wpAnyH_take (i:=0) (v:=(.agg (cellsM x.m x.po x.cap))) rfl (by kernel_rfl) (by kernel_rfl) (by kernel_rfl) (fun _ _ _ h=>h) (Or.inl ⟨by rfl,?hye5⟩) HS0.out ?reste5
  case hye5=>(intro U hS;exact load_yields 30 _ (by rfl) w.heap.size (by rfl) _ _ (0,0) _ hS.1 underlying30 (by rfl) (infoMs _ _ _))
  refine wpAnyH_take (i:=1) (v:=?ve6) rfl (by kernel_rfl) (by kernel_rfl) (by kernel_rfl) (fun _ _ _ h=>h) (Or.inl ⟨by rfl,?hye6⟩) HS0.out ?reste6
  case hye6=>(intro U hS;have c9:=cel hS.2 0 _ rfl;go_simp;try with_reducible rfl)
  go_simp
  obtain ⟨V1,hV1⟩ : ∃ u,u=V.setRow (w.heap.size+1+1) (cellsM x.m x.po x.cap):=⟨_,rfl⟩
  obtain ⟨V2,hV2⟩ : ∃ u,u=V1.setCell ⟨w.heap.size+1+1+1,0,none⟩ (.int .i64 0):=⟨_,rfl⟩
  obtain ⟨V3,hV3⟩ : ∃ u,u=V2.setCell ⟨w.heap.size+1+1+1+1,0,none⟩ (.int .i64 (x.j:Int)):=⟨_,rfl⟩
  obtain ⟨⟨q3,f3⟩,⟨q4,f4⟩,hres,hoth,hhi⟩:=three HS.out.bx x HS.out.row (fun p e=>(HRX.out.2 p e).1) 0 (x.j:Int) V1 V2 V3 hV1 hV2 hV3
  have HRS:Hid (Res w R V3):=(show Res _ _ _ from by rw [HRX.out.1];exact hres)
  have HD3:Hid (V3.heap[w5.heap.size]? = some (.deferred (some []))):=(hoth _ (.inr HU.out.1)).2.2.trans HD.out
  have HS1:Hid (V1.heap[w.heap.size]? = some (.cells (cellsM x.m x.po x.cap) 30)/\V1.heap[D]? = some (.cells #[.int .i64 (x.j:Int)] 2)):=⟨(hoth _ (.inl (by omega))).1.trans HS0.out.1,(hoth _ (.inr X5.out.2.2.1)).1.trans HS0.out.2⟩
  have HS2:Hid (V2.heap[w.heap.size]? = some (.cells (cellsM x.m x.po x.cap) 30)/\V2.heap[D]? = some (.cells #[.int .i64 (x.j:Int)] 2)):=⟨(hoth _ (.inl (by omega))).2.1.trans HS0.out.1,(hoth _ (.inr X5.out.2.2.1)).2.1.trans HS0.out.2⟩
  have HS3:Hid (V3.heap[w.heap.size]? = some (.cells (cellsM x.m x.po x.cap) 30)/\V3.heap[D]? = some (.cells #[.int .i64 (x.j:Int)] 2)):=⟨(hoth _ (.inl (by omega))).2.2.trans HS0.out.1,(hoth _ (.inr X5.out.2.2.1)).2.2.trans HS0.out.2⟩
  have HV1:Hid (V1=V.setRow (w.heap.size+1+1) (cellsM x.m x.po x.cap)):=hV1
  have HV2:Hid (V2=V1.setCell ⟨w.heap.size+1+1+1,0,none⟩ (.int .i64 0)):=hV2
  have HV3:Hid (V3=V2.setCell ⟨w.heap.size+1+1+1+1,0,none⟩ (.int .i64 (x.j:Int))):=hV3
  clear hres hoth hhi hV1 hV2 hV3
  refine wpAnyH_all (rs:=[2]) (by kernel_rfl) (by simp) (List.forall_mem_cons.2 ⟨?_,fun _ h=>absurd h List.not_mem_nil⟩)
  refine opH rfl (by rfl) (fun K hK=>?_)
  refine wp_store_row 30 _ _ rfl (w.heap.size+1+1) (cellsM x.m x.po x.cap) rfl rfl _ _ HS.out.bx.r (infoMs _ _ _) (by rw [size_M,size_M]) (one_M _ _ _) ?_
  rw [<- HV1.out]
  refine hK _ _ HS1.out ?_
  clear hK
  refine wpAnyH_all (rs:=[3]) (by kernel_rfl) (by simp) (List.forall_mem_cons.2 ⟨?_,fun _ h=>absurd h List.not_mem_nil⟩)
  refine opH rfl (by rfl) (fun K hK=>?_)
  go_simp
  rw [<- HV2.out]
  refine hK _ _ HS2.out ?_
  clear hK
  refine wpAnyH_all (rs:=[4]) (by kernel_rfl) (by simp) (List.forall_mem_cons.2 ⟨?_,fun _ h=>absurd h List.not_mem_nil⟩)
  refine opH rfl (by rfl) (fun K hK=>?_)
  go_simp
  rw [<- HV3.out]
  refine hK _ _ HS3.out ?_
  clear hK
  refine wpAnyH_done (by kernel_rfl) ?_ _
  clear q3 f3 q4 f4
  go_wp2
  exact ⟨rfl,rfl,rfl,rfl,HRS.out,HD3.out⟩
 refine (wpIn_wide (n:=6)).1 ?_
 refine Rlaw.range_law rfl (by omega) (gf:=79) (lb:=#[.pointer (some ⟨cA,0,none⟩),.pointer (some ⟨cA+1,0,none⟩)]) rfl trivial (enters_of func79 (by kernel_rfl) rfl) encs (fun _=>rfl) ⟨0,m,po',cap',0⟩
  (I w D N (.slice sa sl sc) (hitS L) m) (Ix w D (.slice sa sl sc) R) (Gv w.heap.size (w5.heap.size+2) N) (fun s X W x a' V=>a'={ tmps:=#[.agg cM,.slice sa sl sc,.int .i64 (N:Int),.pointer (some ⟨w.heap.size,0,none⟩),.pointer (some ⟨w.heap.size+1,0,none⟩),undef,.pointer (some ⟨w.heap.size+1+1,0,none⟩),.pointer (some ⟨w.heap.size+1+1+1,0,none⟩),.pointer (some ⟨w.heap.size+1+1+1+1,0,none⟩),.pointer (some ⟨D,0,none⟩),.pointer (some ⟨W.heap.size,0,none⟩),.int .i64 x.code,.agg cM,.bool true,.bool false,.bool false,.int .i64 (N:Int),.bool false,.bool false,.bool false,.int .i64 (N:Int),.bool false,.bool false,.bool false,.slice sa sl sc,.int .i64 (sl:Int),.bool false,.bool false,undef,.pointer (some ⟨w.heap.size,21,none⟩),.slice po m.out.length cap,.slice po' m.out.length cap',.pointer (some ⟨w.heap.size,21,none⟩),.agg (cellsM m po' cap'),.int .i64 (N:Int),.func (.func 79) #[] #[.pointer (some ⟨cA,0,none⟩),.pointer (some ⟨cA+1,0,none⟩)],.agg (cellsM x.m x.po x.cap),.int .i64 x.code,undef,undef,undef,undef,undef,undef,undef,undef,undef,undef,undef,undef,undef],defers:=[] }/\Ga w D N w5.heap.size (.slice sa sl sc) s x W V) (Kp w.heap.size (w5.heap.size+2)) (Rtoa.En w.heap.size w5.heap.size N)
  (fun s=>I.free HU.out.1 HU.out.2) (Ix.free HU.out.1 HU.out.2) (fun x W=>kp_free (by have:=HU.out.1;omega)) (fun s X=>Rtoa.En.free) ?hGa ?h0 ?hit ?assign ?body ?done ?stop
 case hGa=>exact fun s X W x a' V k o o' h hk ho hc hc'=>⟨h.1,Ga.free HU.out.1 HU.out.2 V k o o' h.2 hk ho hc hc'⟩
 case h0=>exact fun r=>⟨X5.out.1.below ((zAl _ _).alloc (by simp) _),X5.out.2.1,HGD.out,rfl,Nat.zero_le _,rfl⟩
 case hit =>
  intro W1 J Jx hB1 hS1 hJI hJ0 hy
  have t1:=X5.out.1.below hB1
  refine CallsIn.mono (callsIn_wide.2 (iter_any (w5.heap.size+1) 4 w.heap.size N m po' cap' cA (cA+1) W1 J Jx hN5 ((hB1.block _ (zLo X5.out.2.2.2.2.1)).trans X5.out.2.2.2.2.1) ((hB1.block _ (zLo X5.out.2.2.2.2.2)).trans X5.out.2.2.2.2.2) t1.row HGD.out (HT.out.1.below t1.bx.bel) (HT.out.2.below t1.bx.bel) ⟨(tb_lt HT.out.1).1,(tb_lt HT.out.1).2,max_lt HT.out.2⟩ t1.bx.bel.size hJ0 ?_)) ?_
  ·intro s X W x hJ hG
   rw [hS1] at hG |-
   exact hy s X W x hJ hG (still_keeps hG.2.2.2.2.2.2.1 (hJI s X hJ).1.row)
  ·rintro e W' ⟨hv,(⟨s,X,hJ,hE⟩|hx)⟩
   ·rw [hS1] at hE
    exact ⟨hv,.inl ⟨s,X,hJ,En.of hE⟩⟩
   ·exact ⟨hv,.inr hx⟩
 case assign =>
  intro s X W x hI hG
  obtain ⟨hI1,hI2,hI3,hI4,hI5,hI6⟩:=hI
  obtain ⟨g1,g2,g3,g4,g5,g6,g7,-⟩:=hG
  have hbW:Below w.heap.size w W:=⟨g7.os.trans hI1.bx.bel.os,g7.tape.trans hI1.bx.bel.tape,g7.output.trans hI1.bx.bel.output,Nat.le_trans hI1.bx.bel.size g7.size,fun k hk=>by
   have hl:k<X.heap.size:=Nat.lt_of_lt_of_le hk hI1.bx.bel.size
   have:=g7.block k _ (Array.getElem?_eq_getElem hl) (fun e=>by
    rcases hs:s.po with _|p
    ·rw [hs] at e;cases e
    ·rw [hs] at e;have e3:k=p.block:=Option.some.inj e;have:=own_at hI1.row p hs;omega) (.inl (by have:=HU.out.1;omega))
   rw [this,<- Array.getElem?_eq_getElem hl]
   exact hI1.bx.bel.block k hk⟩
  have keep:∀ k,k<w.heap.size+5 \/ k=D->k<X.heap.size->W.heap[k]? = X.heap[k]?:=fun k hk hl=>by
   have:=g7.block k _ (Array.getElem?_eq_getElem hl) (fun e=>by
    rcases hs:s.po with _|p
    ·rw [hs] at e;cases e
    ·rw [hs] at e;have e3:k=p.block:=Option.some.inj e;have:=hI2 p hs;omega) (.inl (by have:=HU.out;omega))
   rw [this,<- Array.getElem?_eq_getElem hl]
  have hlD:=(zLo hI1.cnt)
  have HW:Hid (St w D (.slice sa sl sc) (cellsM s.m s.po s.cap) s.j x W/\s.code=0/\s.j<N/\x.j=s.j+1/\stepP s.m=(x.m,x.code)/\Away w D x.po) :=
   ⟨⟨hI1.bx.same (fun k hk=>keep k (.inl hk) (Nat.lt_of_lt_of_le hk hI1.bx.lt)) hbW,(keep D (.inr rfl) hlD).trans hI1.cnt,g5⟩,g1,g2,g3,g4,hI2.moved g6 hlD hI1.bx.lt⟩
  have HWU:Hid (D<W.heap.size):=Nat.lt_of_lt_of_le hlD g7.size
  clear hI1 hI2 hI3 hI4 hI5 hI6 g1 g2 g3 g4 g5 g6 g7 hbW keep hlD
  unfold encs
  gi_wp2_with first
   | (refine Rin.store_row rfl 30 _ _ rfl W.heap.size (cellsM x.m x.po x.cap) rfl rfl _ _ (heap_alloc_last W _) (infoMs _ _ _) (by rw [HZ.out,size_M,size_M]) (one_M _ _ _) ?_;rw [World.setRow_alloc_new])
   | fail
  refine ⟨(Hi.below (Hi.refl _ _) (zAl _ _)).keeps,heap_alloc_last W _,HWU.out,HW.out.1.below (zAl _ _),⟨zRf.alloc HW.out.1.bx.bel.size _,fun k o e hk _=>(alloc_kept _ _ (zLo e)).trans e⟩,HW.out.2⟩
 case body =>
  intro s X W x a' V hI hG
  obtain ⟨rfl,hg1,hg2,hst,hkp,g1,g2,g3,g4,g5⟩:=hG
  have HI:Hid (Fine s.m/\s.j<=N/\toP (hitS L) (N-s.j) s.j s.m=toP (hitS L) N 0 m):=⟨hI.2.2.1,hI.2.2.2.2.1,hI.2.2.2.2.2⟩
  obtain ⟨xj,xm,xp,xc,cd⟩:=x
  have HS:Hid (St w D (.slice sa sl sc) (cellsM s.m s.po s.cap) s.j ⟨xj,xm,xp,xc,cd⟩ V):=hst
  have HN:Hid (V.heap[W.heap.size]? = some (.cells (cellsM xm xp xc) 30)/\D<W.heap.size):=⟨hg1,hg2⟩
  have HP:Hid (s.j<N/\xj=s.j+1/\stepP s.m=(xm,cd)/\Away w D xp):=⟨g2,g3,g4,g5⟩
  have HKP:Hid (Below w.heap.size W V/\∀ k o,W.heap[k]? = some o->w5.heap.size+2<=k->o.isCells=true->V.heap[k]? = some o):=hkp
  clear hI hg1 hg2 hst hkp g1 g2 g3 g4 g5
  by_cases hz0:cd=0
  ·subst hz0
   have d1:IntKind.i64.wrap ((s.j:Int)+1)=(s.j:Int)+1:=by rw [IntKind.wrap_i64];have:=HP.out.1;omega
   have hrow:RowX w.heap.size ⟨xj,xm,xp,xc,0⟩ V:=HS.out.row
   obtain ⟨V1,hV1⟩ : ∃ u,u=V.setRow w.heap.size (cellsM xm xp xc):=⟨_,rfl⟩
   have HV1:Hid (V1=V.setRow w.heap.size (cellsM xm xp xc)):=hV1
   obtain ⟨V2,hV2⟩ : ∃ u,u=V1.setCell ⟨D,0,none⟩ (.int .i64 ((s.j:Int)+1)):=⟨_,rfl⟩
   have HV2:Hid (V2=V1.setCell ⟨D,0,none⟩ (.int .i64 ((s.j:Int)+1))):=hV2
   have hcnt1:V1.heap[D]? = some (.cells #[.int .i64 (s.j:Int)] 2):=by rw [hV1];exact (heap_row_other (by have:=X5.out.2.2.1;omega) _).trans HS.out.cnt
   have q9:=cel hcnt1 0 _ rfl
   have f9:=frozen_of_row _ _ 0 _ _ hcnt1
   have H2:Hid (St w D (.slice sa sl sc) (cellsM xm xp xc) (s.j+1) ⟨xj,xm,xp,xc,0⟩ V2/\Hi w5.heap.size V V2):=by
    show _/\_
    have hb1:Bx w (cellsM xm xp xc) (.slice sa sl sc) V1:=by rw [hV1];exact HS.out.bx.put
    refine ⟨⟨by rw [hV2];exact hb1.cell X5.out.2.2.1,by rw [hV2];exact (heap_setCell_same _ _ 0 _ _ _ hcnt1).trans rfl,?_⟩,?_⟩
    ·rw [hV2]
     exact own_cell (by rw [hV1];exact own_row hrow HS.out.bx.m) (fun p e=>(HP.out.2.2.2 p e).2) _
    ·rw [hV2,hV1]
     exact ((Hi.refl _ _).row (by have:=HU.out.1;omega) _).cell HU.out.2 _
   clear hrow hcnt1 hV1 hV2
   gi_wp2_with first
    | (refine Rin.load_row rfl 30 _ rfl W.heap.size rfl _ _ (0,0) _ HN.out.1 underlying30 rfl (infoMs _ _ _) ?_)
    | (refine Rin.store_row rfl 30 _ _ rfl w.heap.size (cellsM xm xp xc) rfl rfl _ _ HS.out.bx.m (infoMs _ _ _) (by rw [size_M,size_M]) (one_M _ _ _) ?_;rw [<- HV1.out])
    | fail
   rw [<- HV2.out]
   clear q9 f9 d1 HV1 HV2
   refine Inr.region_in (by kernel_rfl) (by kernel_rfl) (by rintro ⟨_,_,h⟩;exact h) ?_
   refine wpAny_of_held (S:=fun U=>U.heap[w.heap.size+1]? = some (.cells #[.slice sa sl sc] 31)) _ _ _ _ ?_
   obtain ⟨V3,hV3⟩ : ∃ u,u=World.drew V2:=⟨_,rfl⟩
   have H3:Hid (St w D (.slice sa sl sc) (cellsM xm xp xc) (s.j+1) ⟨xj,xm,xp,xc,0⟩ V3/\Hi w5.heap.size V V3):=by
    show _/\_
    rw [hV3]
    exact ⟨H2.out.1.below zRf.drew,H2.out.2.below zRf.drew⟩
   rw [<- hV3]
   clear hV3 H2
   refine wpAnyH_take (i:=0) (v:=?ve1) rfl (by kernel_rfl) (by kernel_rfl) (by kernel_rfl) (fun _ _ _ h=>h) (Or.inl ⟨by rfl,?hye1⟩) H3.out.1.bx.s ?reste1
   case hye1=>(intro U hS;have c9:=cel hS 0 _ rfl;go_simp;try with_reducible rfl)
   have HFX:Hid (Fine xm):=(show Fine _ from by have:=step_fine HI.out.1;rw [HP.out.2.2.1] at this;exact this)
   have cc:=fun x y W h=>Stoc.contains_any sa sc L x y W h (by have:=HL.out;omega)
   rw [HL.out.1] at cc
   refine wpAnyH_all (rs:=[1]) (by kernel_rfl) (by simp) (List.forall_mem_cons.2 ⟨?_,fun _ h=>absurd h List.not_mem_nil⟩)
   refine opH rfl (by rfl) (fun K hK=>?_)
   go_wp2_with fail
   refine Calls.mono (whereIs_M xm xp xc w.heap.size V3 HFX.out.1.rt H3.out.1.bx.m) ?_
   rintro e V4 ⟨rfl,hb4⟩
   have H4:Hid (St w D (.slice sa sl sc) (cellsM xm xp xc) (s.j+1) ⟨xj,xm,xp,xc,0⟩ V4/\Hi w5.heap.size V V4):=⟨H3.out.1.below hb4,H3.out.2.below hb4⟩
   clear hb4
   refine hK _ _ H4.out.1.bx.s ?_
   clear hK
   refine wpAnyH_all (rs:=[2]) (by kernel_rfl) (by simp) (List.forall_mem_cons.2 ⟨?_,fun _ h=>absurd h List.not_mem_nil⟩)
   refine opH rfl (by rfl) (fun K hK=>?_)
   go_wp2_with fail
   refine Calls.mono (cc (place xm).1 (place xm).2 V4 (HST.out V4 H4.out.1.bx.bel)) ?_
   rintro e V5 ⟨rfl,hb5⟩
   have H5:Hid (St w D (.slice sa sl sc) (cellsM xm xp xc) (s.j+1) ⟨xj,xm,xp,xc,0⟩ V5/\Hi w5.heap.size V V5):=⟨H4.out.1.below hb5,H4.out.2.below hb5⟩
   clear hb5 cc
   refine hK _ _ H5.out.1.bx.s ?_
   clear hK
   obtain ⟨hb,hhb⟩ : ∃ b,(L.any fun s=>s == ((place xm).1,(place xm).2))=b:=⟨_,rfl⟩
   have HHB:Hid (hitS L xm=hb):=hhb
   rw [hhb]
   clear hhb
   refine wpAnyH_done (by kernel_rfl) ?_ _
   cases hb
   ·gi_wp2_with fail
    obtain ⟨p1,rfl,p3,p4⟩:=HP.out
    obtain ⟨i1,i2,i3⟩:=HI.out
    refine ⟨H5.out.2.keeps,⟨kp_below HKP.out.1 HS.out.bx.bel H5.out.1.bx.bel H5.out.2.1,H5.out.1.row,fun k cs e hk=>?_⟩,H5.out.1,p4,HFX.out,rfl,p1,?_⟩
    ·have h7:=HKP.out.2 k _ e hk rfl
     exact (H5.out.2.2 k (by omega) (zLo h7)).trans h7
    ·have e1:N-s.j=(N-(s.j+1))+1:=by omega
     rw [<- i3,e1,to_go (by rw [p3]) (by rw [p3];exact HHB.out),p3]
     rfl
   ·gi_wp2_with fail
    obtain ⟨p1,rfl,p3,p4⟩:=HP.out
    obtain ⟨i1,i2,i3⟩:=HI.out
    refine ⟨H5.out.2.keeps,⟨s.j+1,xm,xp,xc,0⟩,H5.out.1,p4,?_⟩
    have e1:N-s.j=(N-(s.j+1))+1:=by omega
    rw [HR.out,<- i3,e1,to_hit (by rw [p3]) (by rw [p3];exact HHB.out),p3]
    rfl
  ·have hne:(cd == 0)=false:=by simpa using hz0
   have HNZ:Hid (cd ≠ 0):=hz0
   clear hz0
   gi_wp2_with fail
   refine Inr.region_in (by kernel_rfl) (by kernel_rfl) (by rintro ⟨_,_,h⟩;exact h) ?_
   refine wpAny_of_held (S:=fun U=>U.heap[W.heap.size]? = some (.cells (cellsM xm xp xc) 30)/\U.heap[D]? = some (.cells #[.int .i64 (s.j:Int)] 2)) _ _ _ _ ?_
   obtain ⟨V0,hV0⟩ : ∃ u,u=World.drew V:=⟨_,rfl⟩
   have hS0:Hid (St w D (.slice sa sl sc) (cellsM s.m s.po s.cap) s.j ⟨xj,xm,xp,xc,cd⟩ V0/\V0.heap[W.heap.size]? = some (.cells (cellsM xm xp xc) 30)/\Hi w5.heap.size V V0):=by
    show _/\_
    rw [hV0]
    exact ⟨HS.out.below zRf.drew,HN.out.1,(Hi.refl _ _).below zRf.drew⟩
   rw [<- hV0]
   clear hV0 HS
   have HS:Hid (St w D (.slice sa sl sc) (cellsM s.m s.po s.cap) s.j ⟨xj,xm,xp,xc,cd⟩ V0):=hS0.out.1
   have HS0:Hid (V0.heap[W.heap.size]? = some (.cells (cellsM xm xp xc) 30)/\V0.heap[D]? = some (.cells #[.int .i64 (s.j:Int)] 2)):=⟨hS0.out.2.1,HS.out.cnt⟩
   refine wpAnyH_take (i:=0) (v:=(.agg (cellsM xm xp xc))) rfl (by kernel_rfl) (by kernel_rfl) (by kernel_rfl) (fun _ _ _ h=>h) (Or.inl ⟨by rfl,?hye2⟩) HS0.out ?reste2
   case hye2=>(intro U hS;exact load_yields 30 _ (by rfl) W.heap.size (by rfl) _ _ (0,0) _ hS.1 underlying30 (by rfl) (infoMs _ _ _))
   refine wpAnyH_take (i:=1) (v:=?ve3) rfl (by kernel_rfl) (by kernel_rfl) (by kernel_rfl) (fun _ _ _ h=>h) (Or.inl ⟨by rfl,?hye3⟩) HS0.out ?reste3
   case hye3=>(intro U hS;go_simp;try with_reducible rfl)
   refine wpAnyH_take (i:=2) (v:=?ve4) rfl (by kernel_rfl) (by kernel_rfl) (by kernel_rfl) (fun _ _ _ h=>h) (Or.inl ⟨by rfl,?hye4⟩) HS0.out ?reste4
   case hye4=>(intro U hS;have c9:=cel hS.2 0 _ rfl;go_simp;try with_reducible rfl)
   go_simp
   obtain ⟨V1,hV1⟩ : ∃ u,u=V0.setRow (w.heap.size+1+1) (cellsM xm xp xc):=⟨_,rfl⟩
   obtain ⟨V2,hV2⟩ : ∃ u,u=V1.setCell ⟨w.heap.size+1+1+1,0,none⟩ (.int .i64 cd):=⟨_,rfl⟩
   obtain ⟨V3,hV3⟩ : ∃ u,u=V2.setCell ⟨w.heap.size+1+1+1+1,0,none⟩ (.int .i64 (s.j:Int)):=⟨_,rfl⟩
   obtain ⟨⟨q3,f3⟩,⟨q4,f4⟩,hres,hoth,hhi⟩:=three HS.out.bx ⟨xj,xm,xp,xc,cd⟩ HS.out.row (fun p e=>(HP.out.2.2.2 p e).1) cd (s.j:Int) V1 V2 V3 hV1 hV2 hV3
   have hBn:w.heap.size+5<=W.heap.size:=by have:=HN.out.2;have:=X5.out.2.2.1;omega
   have HS1:Hid (V1.heap[W.heap.size]? = some (.cells (cellsM xm xp xc) 30)/\V1.heap[D]? = some (.cells #[.int .i64 (s.j:Int)] 2)):=⟨(hoth _ (.inr hBn)).1.trans HS0.out.1,(hoth _ (.inr X5.out.2.2.1)).1.trans HS0.out.2⟩
   have HS2:Hid (V2.heap[W.heap.size]? = some (.cells (cellsM xm xp xc) 30)/\V2.heap[D]? = some (.cells #[.int .i64 (s.j:Int)] 2)):=⟨(hoth _ (.inr hBn)).2.1.trans HS0.out.1,(hoth _ (.inr X5.out.2.2.1)).2.1.trans HS0.out.2⟩
   have HS3:Hid (V3.heap[W.heap.size]? = some (.cells (cellsM xm xp xc) 30)/\V3.heap[D]? = some (.cells #[.int .i64 (s.j:Int)] 2)):=⟨(hoth _ (.inr hBn)).2.2.trans HS0.out.1,(hoth _ (.inr X5.out.2.2.1)).2.2.trans HS0.out.2⟩
   have HRS:Hid (Res w R V3/\KeepsFrom w5.heap.size V V3):=by
    obtain ⟨p1,p2,p3,p4⟩:=HP.out
    obtain ⟨i1,i2,i3⟩:=HI.out
    have e1:N-s.j=(N-(s.j+1))+1:=by omega
    have e2:R=(xm,cd,(s.j:Int)):=by
     have hst:=step_stays (m:=s.m) (by rw [p3];exact HNZ.out)
     rw [HR.out,<- i3,e1,to_stop (by rw [p3];exact HNZ.out),p3,<- hst,p3]
    exact ⟨by rw [e2];exact hres,(hS0.out.2.2.keeps).trans (hhi _ HU.out.1).keeps⟩
   have HV1:Hid (V1=V0.setRow (w.heap.size+1+1) (cellsM xm xp xc)):=hV1
   have HV2:Hid (V2=V1.setCell ⟨w.heap.size+1+1+1,0,none⟩ (.int .i64 cd)):=hV2
   have HV3:Hid (V3=V2.setCell ⟨w.heap.size+1+1+1+1,0,none⟩ (.int .i64 (s.j:Int))):=hV3
   clear hres hoth hhi hBn hV1 hV2 hV3
   refine wpAnyH_all (rs:=[3]) (by kernel_rfl) (by simp) (List.forall_mem_cons.2 ⟨?_,fun _ h=>absurd h List.not_mem_nil⟩)
   refine opH rfl (by rfl) (fun K hK=>?_)
   refine wp_store_row 30 _ _ rfl (w.heap.size+1+1) (cellsM xm xp xc) rfl rfl _ _ HS.out.bx.r (infoMs _ _ _) (by rw [size_M,size_M]) (one_M _ _ _) ?_
   rw [<- HV1.out]
   refine hK _ _ HS1.out ?_
   clear hK
   refine wpAnyH_all (rs:=[4]) (by kernel_rfl) (by simp) (List.forall_mem_cons.2 ⟨?_,fun _ h=>absurd h List.not_mem_nil⟩)
   refine opH rfl (by rfl) (fun K hK=>?_)
   go_simp
   rw [<- HV2.out]
   refine hK _ _ HS2.out ?_
   clear hK
   refine wpAnyH_all (rs:=[5]) (by kernel_rfl) (by simp) (List.forall_mem_cons.2 ⟨?_,fun _ h=>absurd h List.not_mem_nil⟩)
   refine opH rfl (by rfl) (fun K hK=>?_)
   go_simp
   rw [<- HV3.out]
   refine hK _ _ HS3.out ?_
   clear hK
   refine wpAnyH_done (by kernel_rfl) ?_ _
   clear q3 f3 q4 f4
   gi_wp2_with fail
   exact ⟨HRS.out.2,HRS.out.1⟩

 case done=>exact fun s X W hI hE hD=>tail W (by rw [HR.out];exact Out.done hI hE HU.out.1 HU.out.2) hD
 case stop =>
  intro c W hx hD
  by_cases hc:c=.ret
  ·subst hc
   have HX:Hid (Res w R W):=hx
   have HD:Hid (W.heap[w5.heap.size]? = some (.deferred (some []))):=hD
   clear hx hD tail
   gi_wp2_with fail
   exact fin _ _ _ _ _ _ _ (HV.out.trans HR.out.symm) HU.out.1 _ _ rfl rfl rfl rfl HX.out HD.out
  by_cases hc:c=.exit 0
  ·subst hc
   have HX:Hid (K0 _ W):=tail W hx hD
   clear hx hD tail
   gi_wp2_with fail
   exact HX.out
  ·unfold Ix at hx
   split at hx
   ·exact absurd rfl ‹¬ Code.ret=.ret›
   ·exact absurd rfl ‹¬ Code.exit 0=.exit 0›
   ·exact hx.elim
theorem implTo_any (L:List (Int × Int)) (sa:Option Addr) (sl sc:Nat) (m:M) (po:Option Addr) (cap:Nat) (n:Int) (w:World) (hsl:sl<=maxLen) (hL:L.length=sl) (hSt:Stops w sa L) (hs:Sm m) (hN:Sl w po m.out cap) (ht:Tb w) (hm:HolI.MaxL w) :
  Calls prog 9 #[.agg (cellsM m po cap),.slice sa sl sc,.int .i64 n] w (ToldT (hitS L) sl m n w):=by
 by_cases h:okMM m=true/\sl<=20/\0<=n/\n<=500
 ·exact callsIn_wide.1 (rt_main L sa sl sc m po cap n w hsl hs hN hL hSt ht hm h.1 h.2.1 h.2.2)
 ·exact rt_bad _ sa sl sc m po cap n w hsl hs hN h
end Rtoi
end Go.Proofs.YteglcgnhhoenbaaGreatDoor
