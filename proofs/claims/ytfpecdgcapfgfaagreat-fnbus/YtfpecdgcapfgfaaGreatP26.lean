import Derived.Test.YtfpecdgcapfgfaaGreatP25
set_option linter.all false
set_option maxRecDepth 20000
set_option maxHeartbeats 8000000
open Go.ChangeShapes Go.WideShapes Go.ChangeAt Go.RowKit
open Go.Proofs.Tryz
namespace Go.Proofs.YtfpecdgcapfgfaaGreat
namespace Runp
open Go.Deep
open Busw Busx Stpp Stpq Stpo Stpt
def Fine (m:M):Prop:=Stpq.Good m/\0<=m.cyc/\m.cyc<=1000000000
def runP:Nat->Int->M->M × Int × Int
 | 0,i,m=>(m,0,i)
 | k+1,i,m=>if (stepP m).2=0 then runP k (i+1) (stepP m).1 else (m,(stepP m).2,i)
def runV (m:M) (n:Int):M × Int × Int:=if okMM m=true/\0<=n/\n<=500 then runP n.toNat 0 m else (Z0,3,0)
theorem step_fine {m:M} (h:Fine m):Fine (stepP m).1:=by
 unfold stepP
 split
 ·exact h
 split
 ·exact h
 split
 ·exact h
 ·rename_i h1 h2 h3
  have hI:=ins_of m h2
  have hpc:=h.1.pc
  have hG:Stpq.Good (semOf m).1.m:=by
   refine sem_good ?_ _ _ _ hI.cbd.1 hI.cbd.2 hI.iok
   exact good_pc h.1 _ (by omega) (by omega)
  have hr:=CycX.range (insOf m).1 (insOf m).2.1 (semOf m).2 hI.cbd.1 hI.cbd.2 hI.non
  have hc:¬ 1000000000<cycOf m:=fun e=>h3 (.inr e)
  have h0:0<=cycOf m:=by unfold cycOf;have:=h.2.1;omega
  exact ⟨good_i hG (semOf m).1.m.ime (semOf m).1.m.hal (cycOf m),h0,by show cycOf m<=_;omega⟩
theorem run_fine (k:Nat) (i:Int) (m:M) (h:Fine m):Fine (runP k i m).1:=by
 induction k generalizing i m with
 | zero=>exact h
 | succ k ih =>
  unfold runP
  split
  ·exact ih _ _ (step_fine h)
  ·exact h
def Told3 (m:M) (n:Int) (w:World) (e:Ending) (w':World):Prop:=(∃ po cap,e=.returned (.tuple #[.agg (cellsM (runV m n).1 po cap),.int .i64 (runV m n).2.1,.int .i64 (runV m n).2.2])/\w'.ownsRow w.heap.size 2 1 (.slice po (runV m n).1.out.length cap) (runV m n).1.out.length (outC (runV m n).1.out))/\Below w.heap.size w w'
theorem results_three {P:Program} {fn:Func} {p q r:Tmp} {ty:TypeId} (h:fn.results=#[.cell p ty,.tmp q,.tmp r]) (tmps:Array Value) (w:World) (g:Nat) (t:TypeId) (cs:Array Value) (fr:Nat × Nat) (d:TypeDesc) (v x:Value)
  (hp:tmps.getD p undef=.pointer (some ⟨g,0,none⟩)) (hq:tmps.getD q undef=v) (hr:tmps.getD r undef=x) (hg:w.heap[g]? = some (.cells cs t fr))
  (hu:P.underlying ty=some d) (hd:(match d with|.struct _|.array _ _=>true|_=>false)=true) (hi:(P.info? ty).map (·.size)=some cs.size) :
  (results fn tmps).run P w=.ok (.tuple #[.agg cs,v,x]) w:=by
 have hp':tmps[p]?.getD undef=.pointer (some ⟨g,0,none⟩):=by simpa using hp
 have hq':tmps[q]?.getD undef=v:=by simpa using hq
 have hr':tmps[r]?.getD undef=x:=by simpa using hr
 simp [results,h,hp',hq',hr',asAddr,run_loadVar_row w g t ty cs fr d hg hu hd hi]
theorem run_go {k:Nat} {i:Int} {m:M} (h:(stepP m).2=0):runP (k+1) i m=runP k (i+1) (stepP m).1:=by
 show (if _ then _ else _)=_
 rw [if_pos h]
theorem run_stop {k:Nat} {i:Int} {m:M} (h:¬ (stepP m).2=0):runP (k+1) i m=(m,(stepP m).2,i):=by
 show (if _ then _ else _)=_
 rw [if_neg h]
end Runp
namespace Runs
open Go.Deep
open Signed (inB l1In_any)
open Busw Busx Busy Stpp Stpq Stpo Runp
open MachT (heap_row heap_row_other below_row)
theorem own_lt {w:World} {base n cap:Nat} {po:Option Addr} {xs:List Value} (h:w.ownsRow base 2 1 (.slice po n cap) n xs) (p:Addr) (e:po=some p):p.block<w.heap.size:=by
 subst e
 rcases h.2 with ⟨h,_⟩|⟨g,c,cur,hv,hb,hc,_⟩
 ·cases h
 ·cases hv;exact (zLo hc)
structure Inv (w:World) (B:Nat) (u:World) (mk:M):Prop where
 box:∃ pk ck,u.heap[B]? = some (.cells (cellsM mk pk ck) 30)/\u.ownsRow w.heap.size 2 1 (.slice pk mk.out.length ck) mk.out.length (outC mk.out)
 fine:Fine mk
 res:u.heap[w.heap.size+1]? = some (.cells (cellsM Z0 none 0) 30)
 bel:Below w.heap.size w u
 at_:w.heap.size+1<B
theorem sr_machine (m:M) (po:Option Addr) (cap:Nat) (n:Int) (w:World) (hs:Sm m) (hN:Sl w po m.out cap) (hok:okMM m=false) :
  Calls prog 37 #[.agg (cellsM m po cap),.int .i64 n] w (Told3 m n w):=by
 have hz:=zeroM
 have c1:=fun W (h:Sl W po m.out cap)=>specOk_M m po cap W hs h
 have H0:Hid (∀ W,Below w.heap.size w W->Sl W po m.out cap):=fun W h=>hN.below h
 have HS:Hid (Sm m):=hs
 have HBT:Hid (prog.built 30 []=some (cellsM Z0 none 0)):=builtM
 rw [hok] at c1
 have HV:Hid (runV m n=(Z0,3,0)):=by show _=_;unfold runV;rw [if_neg (fun h=>by rw [hok] at h;exact absurd h.1 (by decide))]
 clear hN hs hok
 obtain ⟨cM,hcM⟩ : ∃ c,c=cellsM m po cap:=⟨_,rfl⟩
 obtain ⟨cZ,hcZ⟩ : ∃ c,c=cellsM Z0 none 0:=⟨_,rfl⟩
 have HM:Hid (cM=cellsM m po cap):=hcM
 have HZ:Hid (cZ=cellsM Z0 none 0):=hcZ
 have HIM:Hid ((prog.info? 30).map (·.size)=some cM.size):=hcM ▸ infoMs m po cap
 have HIZ:Hid ((prog.info? 30).map (·.size)=some cZ.size):=hcZ ▸ infoMs Z0 none 0
 have HOZ:Hid (cZ.all (·.oneCell')=true):=hcZ ▸ one_M Z0 none 0
 rw [<- hcM] at c1 |-
 rw [<- hcZ] at hz HBT
 clear hcM hcZ
 go_enter func37,ntmps37
 go_upto_region 1 with fail
 refine wp_region_list ?_
 have k0:((w.alloc (.cells cM 30)).alloc (.cells cZ 30)).heap[w.heap.size]? = some (.cells cM 30):=by
  rw [Below.heap_alloc _ _ _ (by simp)];exact heap_alloc_last w _
 refine wpList_load_row rfl 30 _ rfl w.heap.size rfl _ _ (0,0) _ k0 underlying30 rfl HIM.out ?_
 clear k0
 go_wp2_with fail
 refine Calls.mono (c1 _ (H0.out _ (by repeat (with_reducible first|exact zRf|refine zGr ?_ _|refine below_drewN ?_ _|refine Below.drew ?_)))) ?_
 rintro e w1 ⟨rfl,hb1⟩
 have HB:Hid (Below w.heap.size w w1):=HolI.after (by repeat (with_reducible first|exact zRf|refine zGr ?_ _|refine below_drewN ?_ _|refine Below.drew ?_)) hb1
 have HK:Hid (w1.heap[w.heap.size]? = some (.cells cM 30)):=by
  have h:=hb1.block w.heap.size (by simp;omega)
  rw [Below.heap_alloc _ _ _ (by simp)] at h
  exact h.trans (heap_alloc_last w _)
 have HR:Hid (w1.heap[w.heap.size+1]? = some (.cells cZ 30)):=by
  have h:=hb1.block (w.heap.size+1) (by simp)
  have h2:=heap_alloc_last (w.alloc (.cells cM 30)) (.cells cZ 30)
  simp only [World.size_alloc] at h2
  exact h.trans h2
 clear hb1 c1
 go_upto_region 2 with fail
 refine wp_region_list ?_
 refine wpList_build0 rfl 30 rfl cZ HBT.out ?_
 refine wpList_store_row rfl 30 _ _ rfl (w.heap.size+1) cZ rfl rfl _ _ HR.out HIZ.out rfl HOZ.out ?_
 have HF:Hid ((w1.setRow (w.heap.size+1) cZ).heap[w.heap.size+1]? = some (.cells cZ 30)):=heap_row HR.out
 have HG:Hid (Below w.heap.size w (w1.setRow (w.heap.size+1) cZ)):=below_row HB.out (by omega)
 go_wp2
 refine bodyPost_ret (v:=.tuple #[.agg cZ,.int .i64 3,.int .i64 0]) (results_three results37 _ _ (w.heap.size+1) _ _ (0,0) _ _ _ rfl rfl rfl HF.out underlying30 rfl HIZ.out) rfl ?_
 refine ⟨⟨none,0,by rw [HV.out,HZ.out],?_⟩,HG.out⟩
 rw [HV.out]
 exact Ista.own_nil _ _ HG.out.size
theorem sr_number (m:M) (po:Option Addr) (cap:Nat) (n:Int) (w:World) (hs:Sm m) (hN:Sl w po m.out cap) (hok:okMM m=true) (hn:¬ (0<=n/\n<=500)) :
  Calls prog 37 #[.agg (cellsM m po cap),.int .i64 n] w (Told3 m n w):=by
 have hz:=zeroM
 have c1:=fun W (h:Sl W po m.out cap)=>specOk_M m po cap W hs h
 have H0:Hid (∀ W,Below w.heap.size w W->Sl W po m.out cap):=fun W h=>hN.below h
 have HS:Hid (Sm m):=hs
 have HBT:Hid (prog.built 30 []=some (cellsM Z0 none 0)):=builtM
 rw [hok] at c1
 have HV:Hid (runV m n=(Z0,3,0)):=by show _=_;unfold runV;rw [if_neg (fun h=>by exact hn h.2)]
 have hq:inB n 0 500=false:=by unfold inB;simp;omega
 have cI:=fun W=>l1In_any n 0 500 W
 rw [hq] at cI
 clear hq hn
 clear hN hs hok
 obtain ⟨cM,hcM⟩ : ∃ c,c=cellsM m po cap:=⟨_,rfl⟩
 obtain ⟨cZ,hcZ⟩ : ∃ c,c=cellsM Z0 none 0:=⟨_,rfl⟩
 have HM:Hid (cM=cellsM m po cap):=hcM
 have HZ:Hid (cZ=cellsM Z0 none 0):=hcZ
 have HIM:Hid ((prog.info? 30).map (·.size)=some cM.size):=hcM ▸ infoMs m po cap
 have HIZ:Hid ((prog.info? 30).map (·.size)=some cZ.size):=hcZ ▸ infoMs Z0 none 0
 have HOZ:Hid (cZ.all (·.oneCell')=true):=hcZ ▸ one_M Z0 none 0
 rw [<- hcM] at c1 |-
 rw [<- hcZ] at hz HBT
 clear hcM hcZ
 go_enter func37,ntmps37
 go_upto_region 1 with fail
 refine wp_region_list ?_
 have k0:((w.alloc (.cells cM 30)).alloc (.cells cZ 30)).heap[w.heap.size]? = some (.cells cM 30):=by
  rw [Below.heap_alloc _ _ _ (by simp)];exact heap_alloc_last w _
 refine wpList_load_row rfl 30 _ rfl w.heap.size rfl _ _ (0,0) _ k0 underlying30 rfl HIM.out ?_
 clear k0
 go_wp2_with fail
 refine Calls.mono (c1 _ (H0.out _ (by repeat (with_reducible first|exact zRf|refine zGr ?_ _|refine below_drewN ?_ _|refine Below.drew ?_)))) ?_
 rintro e w1 ⟨rfl,hb1⟩
 have HB:Hid (Below w.heap.size w w1):=HolI.after (by repeat (with_reducible first|exact zRf|refine zGr ?_ _|refine below_drewN ?_ _|refine Below.drew ?_)) hb1
 have HK:Hid (w1.heap[w.heap.size]? = some (.cells cM 30)):=by
  have h:=hb1.block w.heap.size (by simp;omega)
  rw [Below.heap_alloc _ _ _ (by simp)] at h
  exact h.trans (heap_alloc_last w _)
 have HR:Hid (w1.heap[w.heap.size+1]? = some (.cells cZ 30)):=by
  have h:=hb1.block (w.heap.size+1) (by simp)
  have h2:=heap_alloc_last (w.alloc (.cells cM 30)) (.cells cZ 30)
  simp only [World.size_alloc] at h2
  exact h.trans h2
 clear hb1 c1
 go_upto_region 2 with (go_at_call 45;refine (cI _).mono ?_;rintro e wx ⟨rfl,hwx⟩;rw [hwx];clear hwx wx)
 refine wp_region_list ?_
 refine wpList_build0 rfl 30 rfl cZ HBT.out ?_
 refine wpList_store_row rfl 30 _ _ rfl (w.heap.size+1) cZ rfl rfl _ _ HR.out HIZ.out rfl HOZ.out ?_
 have HF:Hid ((w1.setRow (w.heap.size+1) cZ).heap[w.heap.size+1]? = some (.cells cZ 30)):=heap_row HR.out
 have HG:Hid (Below w.heap.size w (w1.setRow (w.heap.size+1) cZ)):=below_row HB.out (by omega)
 go_wp2
 refine bodyPost_ret (v:=.tuple #[.agg cZ,.int .i64 3,.int .i64 0]) (results_three results37 _ _ (w.heap.size+1) _ _ (0,0) _ _ _ rfl rfl rfl HF.out underlying30 rfl HIZ.out) rfl ?_
 refine ⟨⟨none,0,by rw [HV.out,HZ.out],?_⟩,HG.out⟩
 rw [HV.out]
 exact Ista.own_nil _ _ HG.out.size
theorem sr_main (m:M) (po:Option Addr) (cap:Nat) (n:Int) (w:World) (hs:Sm m) (hN:Sl w po m.out cap) (hok:okMM m=true) (hn:0<=n/\n<=500) :
  Calls prog 37 #[.agg (cellsM m po cap),.int .i64 n] w (Told3 m n w):=by
 have hz:=zeroM
 have c1:=fun W (h:Sl W po m.out cap)=>specOk_M m po cap W hs h
 have H0:Hid (∀ W,Below w.heap.size w W->Sl W po m.out cap):=fun W h=>hN.below h
 have HS:Hid (Sm m):=hs
 have HBT:Hid (prog.built 30 []=some (cellsM Z0 none 0)):=builtM
 rw [hok] at c1
 have HGD:Hid (Fine m):=good_of hok hs
 have HLE:Hid (m.out.length<=1048576):=hs.out
 have HV:Hid (runV m n=runP n.toNat 0 m):=by show _=_;unfold runV;rw [if_pos ⟨hok,hn⟩]
 have hq:inB n 0 500=true:=by unfold inB;simp;omega
 have cI:=fun W=>l1In_any n 0 500 W
 rw [hq] at cI
 clear hq
 clear hN hs hok
 obtain ⟨cM,hcM⟩ : ∃ c,c=cellsM m po cap:=⟨_,rfl⟩
 obtain ⟨cZ,hcZ⟩ : ∃ c,c=cellsM Z0 none 0:=⟨_,rfl⟩
 have HM:Hid (cM=cellsM m po cap):=hcM
 have HZ:Hid (cZ=cellsM Z0 none 0):=hcZ
 have HIM:Hid ((prog.info? 30).map (·.size)=some cM.size):=hcM ▸ infoMs m po cap
 have HIZ:Hid ((prog.info? 30).map (·.size)=some cZ.size):=hcZ ▸ infoMs Z0 none 0
 have HOZ:Hid (cZ.all (·.oneCell')=true):=hcZ ▸ one_M Z0 none 0
 rw [<- hcM] at c1 |-
 rw [<- hcZ] at hz HBT
 clear hcM hcZ
 go_enter func37,ntmps37
 go_upto_region 1 with fail
 refine wp_region_list ?_
 have k0:((w.alloc (.cells cM 30)).alloc (.cells cZ 30)).heap[w.heap.size]? = some (.cells cM 30):=by
  rw [Below.heap_alloc _ _ _ (by simp)];exact heap_alloc_last w _
 refine wpList_load_row rfl 30 _ rfl w.heap.size rfl _ _ (0,0) _ k0 underlying30 rfl HIM.out ?_
 clear k0
 go_wp2_with fail
 refine Calls.mono (c1 _ (H0.out _ (by repeat (with_reducible first|exact zRf|refine zGr ?_ _|refine below_drewN ?_ _|refine Below.drew ?_)))) ?_
 rintro e w1 ⟨rfl,hb1⟩
 have HB:Hid (Below w.heap.size w w1):=HolI.after (by repeat (with_reducible first|exact zRf|refine zGr ?_ _|refine below_drewN ?_ _|refine Below.drew ?_)) hb1
 have HK:Hid (w1.heap[w.heap.size]? = some (.cells cM 30)):=by
  have h:=hb1.block w.heap.size (by simp;omega)
  rw [Below.heap_alloc _ _ _ (by simp)] at h
  exact h.trans (heap_alloc_last w _)
 have HR:Hid (w1.heap[w.heap.size+1]? = some (.cells cZ 30)):=by
  have h:=hb1.block (w.heap.size+1) (by simp)
  have h2:=heap_alloc_last (w.alloc (.cells cM 30)) (.cells cZ 30)
  simp only [World.size_alloc] at h2
  exact h.trans h2
 clear hb1 c1
 go_upto_region 3 with (go_at_call 45;refine (cI _).mono ?_;rintro e wx ⟨rfl,hwx⟩;rw [hwx];clear hwx wx)
 refine wp_region_list ?_
 refine wpList_load_row rfl 30 _ rfl w.heap.size rfl _ _ (0,0) _ HK.out underlying30 rfl HIM.out ?_
 go_wp2_with fail
 refine Calls.mono (by rw [HM.out];exact Busy.copy_any m po cap _ HLE.out (H0.out _ HB.out)) ?_
 rintro e wy ⟨⟨poy,capy,rfl,owny⟩,hby⟩
 have HY:=zHd (HolI.after HB.out hby)
 have HYR:Hid (wy.heap[w.heap.size+1]? = some (.cells cZ 30)):=(hby.block _ (zLo HR.out)).trans HR.out
 have HYO:Hid (wy.ownsRow w.heap.size 2 1 (.slice poy m.out.length capy) m.out.length (outC m.out)):=Stdg.row_own (w':=wy) owny _ HB.out.size
 clear hby owny
 rename_i hK
 refine hK _ _ ?_
 clear hK
 refine wpList_plain rfl (fun K hK=>?_)
 go_simp
 refine hK _ _ ?_
 clear hK
 refine wpList_store_row rfl 30 _ _ rfl wy.heap.size _ rfl rfl _ _ (heap_alloc_last wy _) (infoMs _ _ _) (by rw [HZ.out,size_M,size_M]) (one_M _ _ _) ?_
 rw [World.setRow_alloc_new]
 refine wpList_nil ?_
 obtain ⟨u,hu⟩ : ∃ u,u=wy.alloc (.cells (cellsM m poy capy) 30):=⟨_,rfl⟩
 obtain ⟨B,hB⟩ : ∃ B,B=wy.heap.size:=⟨_,rfl⟩
 have HI:Hid (Inv w B u m):=by
  have hl:=(zLo HYR.out)
  rw [hu,hB]
  exact ⟨⟨poy,capy,heap_alloc_last wy _,HYO.out.alloc _⟩,HGD.out,by rw [alloc_kept _ _ hl,HYR.out,HZ.out],zGr HY.out _,hl⟩
 rw [<- hu,<- hB]
 clear hu hB HYR HYO HY HK HR HB H0
 obtain ⟨N,hN⟩ : ∃ N:Nat,(N:Int)=n:=⟨n.toNat,by omega⟩
 subst hN
 go_wp2_with fail
 go_loopw [8] (fun i wr=>∃ (k:Nat) (mk:M),k<=N/\i=.int .i64 (k:Int)/\Hid (runP (N-k) k mk=runP N 0 m)/\Hid (Inv w B wr mk)) (fun i _=>N-(intOf i).toNat)
 case atStart=>exact ⟨0,m,Nat.zero_le _,rfl,rfl,HI.out⟩
 case round =>
  obtain ⟨k,mk,hk,rfl,HR1,HI1⟩:=hrel
  obtain ⟨⟨pk,ck,hbox,hown⟩,hfine,hres,hbel,hat⟩:=HI1.out
  have HX:Hid (wr.heap[B]? = some (.cells (cellsM mk pk ck) 30)/\wr.ownsRow w.heap.size 2 1 (.slice pk mk.out.length ck) mk.out.length (outC mk.out)/\Fine mk/\wr.heap[w.heap.size+1]? = some (.cells (cellsM Z0 none 0) 30)/\Below w.heap.size w wr/\w.heap.size+1<B):=⟨hbox,hown,hfine,hres,hbel,hat⟩
  clear hbox hown hfine hres hbel hat HI1
  by_cases hlt:k<N
  ·go_upto_region 7 with fail
   refine wp_region_list ?_
   refine wpList_load_row rfl 30 _ rfl B rfl _ _ (0,0) _ HX.out.1 underlying30 rfl (infoMs _ _ _) ?_
   go_wp2_with fail
   refine Calls.mono (Stdg.ssS mk pk ck wr HX.out.2.2.1.1 HX.out.2.2.1.2 (own_sl HX.out.2.1 rfl) (own_lt HX.out.2.1)) ?_
   rintro e w2 ⟨⟨p2,c2,rfl,own2⟩,hb2⟩
   obtain ⟨m2,hm2⟩ : ∃ x,x=(stepP mk).1:=⟨_,rfl⟩
   obtain ⟨cd,hcd⟩ : ∃ x,x=(stepP mk).2:=⟨_,rfl⟩
   rw [<- hm2,<- hcd]
   rw [<- hm2] at own2
   have HM2:Hid (m2=(stepP mk).1):=hm2
   have HCD:Hid (cd=(stepP mk).2):=hcd
   have HY2:Hid (w2.heap[B]? = some (.cells (cellsM mk pk ck) 30)/\w2.ownsRow w.heap.size 2 1 (.slice pk mk.out.length ck) mk.out.length (outC mk.out)/\w2.heap[w.heap.size+1]? = some (.cells (cellsM Z0 none 0) 30)/\Below w.heap.size w w2):=⟨(hb2.block _ (zLo HX.out.1)).trans HX.out.1,Busl.own_stay HX.out.2.1 hb2,(hb2.block _ (zLo HX.out.2.2.2.1)).trans HX.out.2.2.2.1,HolI.after HX.out.2.2.2.2.1 hb2⟩
   have HO2:Hid (w2.ownsRow w.heap.size 2 1 (.slice p2 m2.out.length c2) m2.out.length (outC m2.out)):=Stdg.row_own (w':=w2) own2 _ HX.out.2.2.2.2.1.size
   clear hm2 hcd own2 hb2
   rename_i hK
   refine hK _ _ ?_
   clear hK
   refine wpList_plain rfl (fun K hK=>?_)
   go_simp
   refine hK _ _ ?_
   clear hK
   refine wpList_plain rfl (fun K hK=>?_)
   go_simp
   refine hK _ _ ?_
   clear hK
   refine wpList_plain rfl (fun K hK=>?_)
   go_simp
   refine hK _ _ ?_
   clear hK
   refine wpList_plain rfl (fun K hK=>?_)
   go_simp
   refine hK _ _ ?_
   clear hK
   refine wpList_store_row rfl 30 _ _ rfl w2.heap.size (cellsM m2 p2 c2) rfl rfl _ _ (heap_alloc_last w2 _) (infoMs _ _ _) (by rw [HZ.out,size_M,size_M]) (one_M _ _ _) ?_
   rw [World.setRow_alloc_new]
   go_upto_region 8 with fail
   obtain ⟨u2,hu2⟩ : ∃ u,u=w2.alloc (.cells (cellsM m2 p2 c2) 30):=⟨_,rfl⟩
   obtain ⟨B2,hB2⟩ : ∃ b,b=w2.heap.size:=⟨_,rfl⟩
   have HU:Hid (u2.heap[B]? = some (.cells (cellsM mk pk ck) 30)/\u2.ownsRow w.heap.size 2 1 (.slice pk mk.out.length ck) mk.out.length (outC mk.out)/\u2.heap[w.heap.size+1]? = some (.cells (cellsM Z0 none 0) 30)/\Below w.heap.size w u2/\u2.heap[B2]? = some (.cells (cellsM m2 p2 c2) 30)/\u2.ownsRow w.heap.size 2 1 (.slice p2 m2.out.length c2) m2.out.length (outC m2.out)):=by
    obtain ⟨h1,h2,h3,h4⟩:=HY2.out
    rw [hu2,hB2]
    exact ⟨(alloc_kept _ _ (zLo h1)).trans h1,h2.alloc _,(alloc_kept _ _ (zLo h3)).trans h3,zGr h4 _,heap_alloc_last w2 _,HO2.out.alloc _⟩
   rw [<- hu2,<- hB2]
   clear hu2 hB2 HY2 HO2
   by_cases hz0:cd=0
   ·subst hz0
    go_upto_region 10 with fail
    refine wp_region_list ?_
    refine wpList_load_row rfl 30 _ rfl B2 rfl _ _ (0,0) _ HU.out.2.2.2.2.1 underlying30 rfl (infoMs _ _ _) ?_
    refine wpList_store_row rfl 30 _ _ rfl B _ rfl rfl _ _ HU.out.1 (infoMs _ _ _) (by rw [size_M,size_M]) (one_M _ _ _) ?_
    have HI2:Hid (Inv w B (u2.setRow B (cellsM m2 p2 c2)) m2):=by
     obtain ⟨h1,h2,h3,h4,h5,h6⟩:=HU.out
     have hB:=HX.out.2.2.2.2.2
     exact ⟨⟨p2,c2,heap_row h1,World.ownsRow.kept (row:=some B) h6 (set_row_grown _ _ _) (.inr (row_ne h6 h1))⟩,by rw [HM2.out];exact step_fine HX.out.2.2.1,(heap_row_other (by omega) _).trans h3,below_row h4 (by omega),hB⟩
    have d1:IntKind.i64.wrap ((k:Int)+1)=(k:Int)+1:=by rw [IntKind.wrap_i64];omega
    go_wp2_with fail
    go_roundw
    case rel =>
     refine ⟨k+1,m2,by omega,by go_num,?_,HI2.out⟩
     show _=_
     have e1:N-k=(N-(k+1))+1:=by omega
     rw [<- HR1.out,e1,run_go HCD.out.symm,HM2.out]
     rfl
    case measure=>simp [intOf];omega
   ·have hne:(cd == 0)=false:=by simpa using hz0
    have HV2:Hid (runV m (N:Int)=(mk,cd,(k:Int))):=by
     show _=_
     have e1:N-k=(N-(k+1))+1:=by omega
     rw [HV.out,Int.toNat_natCast,<- HR1.out,e1,run_stop (by rw [<- HCD.out];exact hz0),HCD.out]
    go_upto_region 9 with fail
    refine wp_region_list ?_
    refine wpList_load_row rfl 30 _ rfl B rfl _ _ (0,0) _ HU.out.1 underlying30 rfl (infoMs _ _ _) ?_
    refine wpList_plain rfl (fun K hK=>?_)
    go_simp
    refine hK _ _ ?_
    clear hK
    refine wpList_plain rfl (fun K hK=>?_)
    go_simp
    refine hK _ _ ?_
    clear hK
    refine wpList_store_row rfl 30 _ _ rfl (w.heap.size+1) _ rfl rfl _ _ HU.out.2.2.1 (infoMs _ _ _) (by rw [size_M,size_M]) (one_M _ _ _) ?_
    have HF:Hid ((u2.setRow (w.heap.size+1) (cellsM mk pk ck)).heap[w.heap.size+1]? = some (.cells (cellsM mk pk ck) 30)):=heap_row HU.out.2.2.1
    have HG:Hid (Below w.heap.size w (u2.setRow (w.heap.size+1) (cellsM mk pk ck))):=below_row HU.out.2.2.2.1 (by omega)
    have HOw:Hid ((u2.setRow (w.heap.size+1) (cellsM mk pk ck)).ownsRow w.heap.size 2 1 (.slice pk mk.out.length ck) mk.out.length (outC mk.out)):=World.ownsRow.kept (row:=some (w.heap.size+1)) HU.out.2.1 (set_row_grown _ _ _) (.inr (row_ne HU.out.2.1 HU.out.2.2.1))
    go_wp2
    refine bodyPost_ret (v:=.tuple #[.agg (cellsM mk pk ck),.int .i64 cd,.int .i64 (k:Int)]) (results_three results37 _ _ (w.heap.size+1) _ _ (0,0) _ _ _ rfl rfl rfl HF.out underlying30 rfl (infoMs _ _ _)) rfl ?_
    exact ⟨⟨pk,ck,by rw [HV2.out],by rw [HV2.out];exact HOw.out⟩,HG.out⟩
  ·have HV2:Hid (runV m (N:Int)=(mk,0,(N:Int))):=by
    show _=_
    have e:k=N:=by omega
    rw [HV.out,Int.toNat_natCast,<- HR1.out,e,Nat.sub_self];rfl
   go_upto_region 11 with fail
   refine wp_region_list ?_
   refine wpList_load_row rfl 30 _ rfl B rfl _ _ (0,0) _ HX.out.1 underlying30 rfl (infoMs _ _ _) ?_
   refine wpList_plain rfl (fun K hK=>?_)
   go_simp
   refine hK _ _ ?_
   clear hK
   refine wpList_store_row rfl 30 _ _ rfl (w.heap.size+1) _ rfl rfl _ _ HX.out.2.2.2.1 (infoMs _ _ _) (by rw [size_M,size_M]) (one_M _ _ _) ?_
   have HF:Hid ((wr.setRow (w.heap.size+1) (cellsM mk pk ck)).heap[w.heap.size+1]? = some (.cells (cellsM mk pk ck) 30)):=heap_row HX.out.2.2.2.1
   have HG:Hid (Below w.heap.size w (wr.setRow (w.heap.size+1) (cellsM mk pk ck))):=below_row HX.out.2.2.2.2.1 (by omega)
   have HOw:Hid ((wr.setRow (w.heap.size+1) (cellsM mk pk ck)).ownsRow w.heap.size 2 1 (.slice pk mk.out.length ck) mk.out.length (outC mk.out)):=World.ownsRow.kept (row:=some (w.heap.size+1)) HX.out.2.1 (set_row_grown _ _ _) (.inr (row_ne HX.out.2.1 HX.out.2.2.2.1))
   go_wp2
   refine bodyPost_ret (v:=.tuple #[.agg (cellsM mk pk ck),.int .i64 0,.int .i64 (N:Int)]) (results_three results37 _ _ (w.heap.size+1) _ _ (0,0) _ _ _ rfl rfl rfl HF.out underlying30 rfl (infoMs _ _ _)) rfl ?_
   exact ⟨⟨pk,ck,by rw [HV2.out],by rw [HV2.out];exact HOw.out⟩,HG.out⟩
theorem specRun_any (m:M) (po:Option Addr) (cap:Nat) (n:Int) (w:World) (hs:Sm m) (hN:Sl w po m.out cap) :
  Calls prog 37 #[.agg (cellsM m po cap),.int .i64 n] w (Told3 m n w):=by
 cases hok:okMM m with
 | false=>exact sr_machine m po cap n w hs hN hok
 | true =>
  by_cases hn:0<=n/\n<=500
  ·exact sr_main m po cap n w hs hN hok hn
  ·exact sr_number m po cap n w hs hN hok hn
end Runs
namespace Runq
open Go.Deep
open Signed (inB sgn)
open Busw Busx Stpp Stpq Stpo Stpt Stph Runp
open ReadI (lenC immV)
def newM (rom:ByteArray) (kind:Int):M:=⟨0,0,0,0,0,0,0,0,65534,0,false,false,rom,kind,1,CartN.Z 256,0,false,0,CartN.Z 256,CartN.Z 127,[],0⟩
theorem putB_at {s:ByteArray} {i v:Int} (h0:0<=i) (h1:i<s.size) (hv:0<=v/\v<=255):CartR.byteAt (CartP.putB s i v) i=v:=by
 unfold CartR.byteAt
 have hs:=CartP.putB_size s i v
 rw [dif_pos (by rw [hs];omega)]
 show (((s.data.toList.set i.toNat (UInt8.ofNat v.toNat)).toArray[i.toNat]'(by simp;have:s.data.size=s.size:=rfl;omega)).toNat:Int)=v
 simp
 omega
theorem putB_ne {s:ByteArray} {i j v:Int} (h0:0<=i) (h1:0<=j) (hne:i ≠ j):CartR.byteAt (CartP.putB s i v) j=CartR.byteAt s j:=by
 unfold CartR.byteAt
 have hs:=CartP.putB_size s i v
 by_cases hj:j.toNat<s.size
 ·rw [dif_pos (by rw [hs];exact hj),dif_pos hj]
  show (((s.data.toList.set i.toNat (UInt8.ofNat v.toNat)).toArray[j.toNat]'(by simp;exact hj)).toNat:Int)=((s.data[j.toNat]'hj).toNat:Int)
  simp
  rw [List.getElem_set_ne (by omega)]
  simp
 ·rw [dif_neg (by rw [hs];exact hj),dif_neg hj]
end Runq
namespace Mnew
open Go.Deep
open Busw (M cellsM cells_def outC)
open Busx Stpp Stpq Runp Runq
open CartN (newB)
theorem sm_fine {m:M} (h:Fine m):Sm m:=⟨h.1.rt.rom,h.1.rt.ram,by rw [h.1.rt.work];decide,by rw [h.1.rt.high];decide,Nat.le_trans h.1.rt.out (by decide)⟩
theorem sm_zero:Sm Z0:=⟨by decide,by decide,by decide,by decide,by decide⟩
theorem sm_run {m:M} {n:Int} (hs:Sm m):Sm (runV m n).1:=by
 unfold runV
 split
 ·rename_i h
  exact sm_fine (run_fine _ _ _ (good_of h.1 hs))
 ·exact sm_zero
def newV (rom:ByteArray) (kind:Int):M:=if newB rom kind=true then newM rom kind else Z0
theorem sm_new (rom:ByteArray) (kind:Int) (h:rom.size<=maxLen):Sm (newV rom kind):=by
 unfold newV
 split
 ·exact ⟨h,by show (CartN.Z 256).size<=_;rw [CartN.Z_size];decide,by show (CartN.Z 256).size<=_;rw [CartN.Z_size];decide,by show (CartN.Z 127).size<=_;rw [CartN.Z_size];decide,by show ([]:List Int).length<=_;decide⟩
 ·exact sm_zero
theorem out_new (rom:ByteArray) (kind:Int):(newV rom kind).out=[]:=by unfold newV;split <;> rfl
theorem specNew_M (rom:ByteArray) (kind:Int) (w:World) (hs:rom.size<=maxLen):Calls prog 33 #[.string rom,.int .i64 kind] w fun e w'=>e=.returned (.tuple #[.agg (cellsM (newV rom kind) none 0),.bool (newB rom kind)])/\Below w.heap.size w w':=by
 cases h:newB rom kind with
 | true =>
  have e:newV rom kind=newM rom kind:=by unfold newV;rw [if_pos h]
  rw [e,cells_def];exact MachN.specM_yes rom kind w hs h
 | false =>
  have e:newV rom kind=Z0:=by unfold newV;rw [if_neg (by rw [h];decide)]
  rw [e,cells_def];exact MachN.specM_no rom kind w hs h
end Mnew
namespace Mdrw
open Go.Deep
open Rdr (Rd)
open DrawI (postB postSet)
open Busw (M cellsM cells_def celM outC Held row_ne blk_own alloc_kept)
open Busx Busy Stpp Stpq Runp Runq Mnew
open MachT (heap_row heap_row_other)
open CartN (newB)
structure At (w:World) (rd B:Nat) (W:World) (m:M) (po:Option Addr) (cap:Nat):Prop where
 box:W.heap[B]? = some (.cells (cellsM m po cap) 30)
 row:W.ownsRow w.heap.size 2 1 (.slice po m.out.length cap) m.out.length (outC m.out)
 res:W.heap[w.heap.size]? = some (.cells (cellsM Z0 none 0) 30)
 post:Rdr.Post w rd W
 sm:Sm m
 lt:rd<w.heap.size/\w.heap.size<B
theorem own_ne {w:World} {base n cap k:Nat} {po:Option Addr} {xs:List Value} (h:w.ownsRow base 2 1 (.slice po n cap) n xs) (hk:k<base):(Value.slice po n cap).ownBlock ≠ some k:=by
 rw [blk_own]
 intro e
 cases po with
 | none=>cases e
 | some p=>have h1:=own_at h p rfl;have h2:p.block=k:=Option.some.inj e;omega
theorem At.next {w:World} {rd B:Nat} {W W':World} {m:M} {po:Option Addr} {cap:Nat} (h:At w rd B W m po cap) (p:Rdr.Post W rd W'):At w rd B W' m po cap :=
 ⟨(p.2.block B (zLo h.box) (fun e=>by have:=h.lt;have e2:B=rd:=Option.some.inj e;omega)).trans h.box,
 h.row.kept p.2 (.inr (own_ne h.row h.lt.1)),
 (p.2.block _ (zLo h.res) (fun e=>by have:=h.lt;have e2:w.heap.size=rd:=Option.some.inj e;omega)).trans h.res,h.post.trans p,h.sm,h.lt⟩
theorem At.below {w:World} {rd B:Nat} {W W':World} {m:M} {po:Option Addr} {cap:Nat} (h:At w rd B W m po cap) (b:Below W.heap.size W W'):At w rd B W' m po cap:=h.next (postB h.post.1 b)
theorem At.alloc {w:World} {rd B:Nat} {W:World} {m:M} {po:Option Addr} {cap:Nat} (h:At w rd B W m po cap) (o:Obj):At w rd B (W.alloc o) m po cap:=h.below (zAl _ _)
theorem At.nextA {w:World} {rd B:Nat} {W W':World} {m:M} {po:Option Addr} {cap:Nat} {o:Obj} (h:At w rd B W m po cap) (p:Rdr.Post (W.alloc o) rd W'):At w rd B W' m po cap:=(h.alloc o).next p
theorem At.rdA {w:World} {rd B:Nat} {W:World} {m:M} {po:Option Addr} {cap:Nat} (h:At w rd B W m po cap) (o:Obj):Rd (W.alloc o) rd:=(h.alloc o).post.1
theorem At.set {w:World} {rd B:Nat} {W:World} {m m':M} {po:Option Addr} {cap:Nat} (h:At w rd B W m po cap) (i:Nat) (v:Value) (hc:(cellsM m po cap).setIfInBounds i v=cellsM m' po cap) (ho:m'.out=m.out) (hs:Sm m'):At w rd B (W.setCell ⟨B,i,none⟩ v) m' po cap :=
 ⟨by rw [<- hc];exact MachT.heap_set h.box,
 by rw [ho];exact h.row.kept (Rdr.grown_set W B i v) (.inr (row_ne h.row h.box)),
 (MachT.heap_set_other (by have:=h.lt;omega) W).trans h.res,
 postSet h.post h.lt.1 (p:=⟨B,i,none⟩) (by have:=h.lt;show _<=B;omega) v,hs,h.lt⟩
theorem At.set0 {w:World} {rd B:Nat} {W:World} {m:M} {po:Option Addr} {cap:Nat} (h:At w rd B W m po cap) (x:Int):At w rd B (W.setCell ⟨B,0,none⟩ (.int .i64 x)) { m with ra:=x } po cap :=
 h.set 0 _ (by rw [cells_def,cells_def];rfl) rfl ⟨h.sm.rom,h.sm.ram,h.sm.work,h.sm.high,h.sm.out⟩
theorem At.set1 {w:World} {rd B:Nat} {W:World} {m:M} {po:Option Addr} {cap:Nat} (h:At w rd B W m po cap) (x:Int):At w rd B (W.setCell ⟨B,1,none⟩ (.int .i64 x)) { m with rf:=x } po cap :=
 h.set 1 _ (by rw [cells_def,cells_def];rfl) rfl ⟨h.sm.rom,h.sm.ram,h.sm.work,h.sm.high,h.sm.out⟩
theorem At.set2 {w:World} {rd B:Nat} {W:World} {m:M} {po:Option Addr} {cap:Nat} (h:At w rd B W m po cap) (x:Int):At w rd B (W.setCell ⟨B,2,none⟩ (.int .i64 x)) { m with rB:=x } po cap :=
 h.set 2 _ (by rw [cells_def,cells_def];rfl) rfl ⟨h.sm.rom,h.sm.ram,h.sm.work,h.sm.high,h.sm.out⟩
theorem At.set6 {w:World} {rd B:Nat} {W:World} {m:M} {po:Option Addr} {cap:Nat} (h:At w rd B W m po cap) (x:Int):At w rd B (W.setCell ⟨B,6,none⟩ (.int .i64 x)) { m with rH:=x } po cap :=
 h.set 6 _ (by rw [cells_def,cells_def];rfl) rfl ⟨h.sm.rom,h.sm.ram,h.sm.work,h.sm.high,h.sm.out⟩
theorem At.set7 {w:World} {rd B:Nat} {W:World} {m:M} {po:Option Addr} {cap:Nat} (h:At w rd B W m po cap) (x:Int):At w rd B (W.setCell ⟨B,7,none⟩ (.int .i64 x)) { m with rL:=x } po cap :=
 h.set 7 _ (by rw [cells_def,cells_def];rfl) rfl ⟨h.sm.rom,h.sm.ram,h.sm.work,h.sm.high,h.sm.out⟩
theorem At.set8 {w:World} {rd B:Nat} {W:World} {m:M} {po:Option Addr} {cap:Nat} (h:At w rd B W m po cap) (x:Int):At w rd B (W.setCell ⟨B,8,none⟩ (.int .i64 x)) { m with sp:=x } po cap :=
 h.set 8 _ (by rw [cells_def,cells_def];rfl) rfl ⟨h.sm.rom,h.sm.ram,h.sm.work,h.sm.high,h.sm.out⟩
theorem At.set9 {w:World} {rd B:Nat} {W:World} {m:M} {po:Option Addr} {cap:Nat} (h:At w rd B W m po cap) (x:Int):At w rd B (W.setCell ⟨B,9,none⟩ (.int .i64 x)) { m with pc:=x } po cap :=
 h.set 9 _ (by rw [cells_def,cells_def];rfl) rfl ⟨h.sm.rom,h.sm.ram,h.sm.work,h.sm.high,h.sm.out⟩
theorem At.cell {w:World} {rd B:Nat} {W:World} {m:M} {po:Option Addr} {cap:Nat} (h:At w rd B W m po cap) (i:Nat):W.frozen? ⟨B,i,none⟩=false:=frozen_of_row _ _ _ _ _ h.box
theorem At.over {w:World} {rd B:Nat} {W:World} {m m':M} {po po':Option Addr} {cap cap':Nat} (h:At w rd B W m po cap) (ho:W.ownsRow w.heap.size 2 1 (.slice po' m'.out.length cap') m'.out.length (outC m'.out)) (hs:Sm m'):At w rd B (W.setRow B (cellsM m' po' cap')) m' po' cap' :=
 ⟨heap_row h.box,ho.kept (row:=some B) (set_row_grown _ _ _) (.inr (row_ne ho h.box)),(heap_row_other (by have:=h.lt;omega) W).trans h.res,
 by
  have g:=set_row_grown W B (cellsM m' po' cap')
  have hl:=h.lt
  have hlt:=h.post.1.lt
  refine ⟨h.post.1.kept fun k hk=>heap_row_other (by omega) W,⟨g.os.trans h.post.2.os,g.tape.trans h.post.2.tape,g.output.trans h.post.2.output,Nat.le_trans h.post.2.size g.size,fun k hk hne=>?_⟩⟩
  exact (heap_row_other (by omega) W).trans (h.post.2.block k hk hne),hs,h.lt⟩
def AtE (w:World) (rd B:Nat) (W:World):Prop:=∃ (m:M) (po:Option Addr) (cap:Nat),At w rd B W m po cap
theorem AtE.next {w:World} {rd B:Nat} {W W':World} (h:AtE w rd B W) (p:Rdr.Post W rd W'):AtE w rd B W':=by obtain ⟨m,po,cap,h⟩:=h;exact ⟨m,po,cap,h.next p⟩
theorem AtE.nextA {w:World} {rd B:Nat} {W W':World} {o:Obj} (h:AtE w rd B W) (p:Rdr.Post (W.alloc o) rd W'):AtE w rd B W':=by obtain ⟨m,po,cap,h⟩:=h;exact ⟨m,po,cap,h.nextA p⟩
theorem AtE.rd {w:World} {rd B:Nat} {W:World} (h:AtE w rd B W):Rd W rd:=by obtain ⟨m,po,cap,h⟩:=h;exact h.post.1
theorem AtE.rdA {w:World} {rd B:Nat} {W:World} (h:AtE w rd B W) (o:Obj):Rd (W.alloc o) rd:=by obtain ⟨m,po,cap,h⟩:=h;exact h.rdA o
theorem AtE.free {w:World} {rd B:Nat} {W:World} (h:AtE w rd B W) (i:Nat):W.frozen? ⟨B,i,none⟩=false:=by obtain ⟨m,po,cap,h⟩:=h;exact h.cell i
theorem AtE.set0 {w:World} {rd B:Nat} {W:World} (h:AtE w rd B W) (x:Int):AtE w rd B (W.setCell ⟨B,0,none⟩ (.int .i64 x)):=by obtain ⟨m,po,cap,h⟩:=h;exact ⟨_,po,cap,h.set0 x⟩
theorem AtE.get0 {w:World} {rd B:Nat} {W:World} (h:AtE w rd B W):∃ v:Int,W.cell? ⟨B,0,none⟩=some (.int .i64 v):=by obtain ⟨m,po,cap,h⟩:=h;exact ⟨m.ra,celM h.box 0 _ rfl⟩
theorem AtE.set1 {w:World} {rd B:Nat} {W:World} (h:AtE w rd B W) (x:Int):AtE w rd B (W.setCell ⟨B,1,none⟩ (.int .i64 x)):=by obtain ⟨m,po,cap,h⟩:=h;exact ⟨_,po,cap,h.set1 x⟩
theorem AtE.get1 {w:World} {rd B:Nat} {W:World} (h:AtE w rd B W):∃ v:Int,W.cell? ⟨B,1,none⟩=some (.int .i64 v):=by obtain ⟨m,po,cap,h⟩:=h;exact ⟨m.rf,celM h.box 1 _ rfl⟩
theorem AtE.set2 {w:World} {rd B:Nat} {W:World} (h:AtE w rd B W) (x:Int):AtE w rd B (W.setCell ⟨B,2,none⟩ (.int .i64 x)):=by obtain ⟨m,po,cap,h⟩:=h;exact ⟨_,po,cap,h.set2 x⟩
theorem AtE.get2 {w:World} {rd B:Nat} {W:World} (h:AtE w rd B W):∃ v:Int,W.cell? ⟨B,2,none⟩=some (.int .i64 v):=by obtain ⟨m,po,cap,h⟩:=h;exact ⟨m.rB,celM h.box 2 _ rfl⟩
theorem AtE.set6 {w:World} {rd B:Nat} {W:World} (h:AtE w rd B W) (x:Int):AtE w rd B (W.setCell ⟨B,6,none⟩ (.int .i64 x)):=by obtain ⟨m,po,cap,h⟩:=h;exact ⟨_,po,cap,h.set6 x⟩
theorem AtE.get6 {w:World} {rd B:Nat} {W:World} (h:AtE w rd B W):∃ v:Int,W.cell? ⟨B,6,none⟩=some (.int .i64 v):=by obtain ⟨m,po,cap,h⟩:=h;exact ⟨m.rH,celM h.box 6 _ rfl⟩
theorem AtE.set7 {w:World} {rd B:Nat} {W:World} (h:AtE w rd B W) (x:Int):AtE w rd B (W.setCell ⟨B,7,none⟩ (.int .i64 x)):=by obtain ⟨m,po,cap,h⟩:=h;exact ⟨_,po,cap,h.set7 x⟩
theorem AtE.get7 {w:World} {rd B:Nat} {W:World} (h:AtE w rd B W):∃ v:Int,W.cell? ⟨B,7,none⟩=some (.int .i64 v):=by obtain ⟨m,po,cap,h⟩:=h;exact ⟨m.rL,celM h.box 7 _ rfl⟩
theorem AtE.set8 {w:World} {rd B:Nat} {W:World} (h:AtE w rd B W) (x:Int):AtE w rd B (W.setCell ⟨B,8,none⟩ (.int .i64 x)):=by obtain ⟨m,po,cap,h⟩:=h;exact ⟨_,po,cap,h.set8 x⟩
theorem AtE.get8 {w:World} {rd B:Nat} {W:World} (h:AtE w rd B W):∃ v:Int,W.cell? ⟨B,8,none⟩=some (.int .i64 v):=by obtain ⟨m,po,cap,h⟩:=h;exact ⟨m.sp,celM h.box 8 _ rfl⟩
theorem AtE.set9 {w:World} {rd B:Nat} {W:World} (h:AtE w rd B W) (x:Int):AtE w rd B (W.setCell ⟨B,9,none⟩ (.int .i64 x)):=by obtain ⟨m,po,cap,h⟩:=h;exact ⟨_,po,cap,h.set9 x⟩
theorem AtE.get9 {w:World} {rd B:Nat} {W:World} (h:AtE w rd B W):∃ v:Int,W.cell? ⟨B,9,none⟩=some (.int .i64 v):=by obtain ⟨m,po,cap,h⟩:=h;exact ⟨m.pc,celM h.box 9 _ rfl⟩
def Drawn (w:World) (rd:Nat) (e:Ending) (w':World):Prop:=∃ (m:M) (po:Option Addr) (cap:Nat),e=.returned (.agg (cellsM m po cap))/\Sm m/\w'.ownsRow w.heap.size 2 1 (.slice po m.out.length cap) m.out.length (outC m.out)/\Rdr.Post w rd w'
theorem At.done {w:World} {rd B:Nat} {W:World} {m:M} {po:Option Addr} {cap:Nat} (h:At w rd B W m po cap):(W.setRow w.heap.size (cellsM m po cap)).heap[w.heap.size]? = some (.cells (cellsM m po cap) 30)/\Drawn w rd (.returned (.agg (cellsM m po cap))) (W.setRow w.heap.size (cellsM m po cap)):=by
 refine ⟨heap_row h.res,m,po,cap,rfl,h.sm,h.row.kept (row:=some w.heap.size) (set_row_grown _ _ _) (.inr (row_ne h.row h.res)),?_⟩
 have g:=set_row_grown W w.heap.size (cellsM m po cap)
 have hl:=h.lt
 refine ⟨h.post.1.kept fun k hk=>heap_row_other (by omega) W,⟨g.os.trans h.post.2.os,g.tape.trans h.post.2.tape,g.output.trans h.post.2.output,Nat.le_trans h.post.2.size g.size,fun k hk hne=>?_⟩⟩
 exact (heap_row_other (by omega) W).trans (h.post.2.block k hk hne)
theorem machine_any (rd:Nat) (most:Int) (w:World) (h:Rd w rd) (h0:0<=most) (h1:most<=400) :
  Calls prog 15 #[.pointer (some ⟨rd,0,none⟩),.int .i64 most] w (Drawn w rd):=by
 have hz:=zeroM
 obtain ⟨cZ,hcZ⟩ : ∃ c,c=cellsM Z0 none 0:=⟨_,rfl⟩
 rw [<- hcZ] at hz
 have HZ:Hid (cZ=cellsM Z0 none 0):=hcZ
 have PW:Hid (Rdr.Post w rd w):=Rdr.Post.refl h
 have hlt:=h.lt
 have hwk:IntKind.i64.wrap (most+1)=most+1:=by rw [IntKind.wrap_i64];omega
 clear h hcZ
 go_enter func15,ntmps15
 go_wp2_with fail
 have HR:Hid ((w.alloc (.cells cZ 30)).heap[w.heap.size]? = some (.cells (cellsM Z0 none 0) 30)):=by show _=_;rw [<- HZ.out];exact heap_alloc_last w _
 have PW:Hid (Rdr.Post w rd (w.alloc (.cells cZ 30))):=PW.out.alloc _
 generalize w.alloc (.cells cZ 30)=w0 at HR PW |-
 have HN:Hid (w.heap.size ≠ rd):=by show _ ≠ _;omega
 refine (DrawP.rom_any _ _ PW.out.1).mono ?_
 rintro e w1 ⟨⟨s,hs,rfl⟩,p⟩
 have HR:Hid (w1.heap[w.heap.size]? = some (.cells (cellsM Z0 none 0) 30)):=(p.2.block _ (zLo HR.out) (fun e=>HN.out (Option.some.inj e))).trans HR.out
 have PW:Hid (Rdr.Post w rd w1):=PW.out.trans p
 clear p
 go_wp2_with fail
 refine (Rdr.below_any _ _ _ PW.out.1 (by decide) (by decide)).mono ?_
 rintro e w2 ⟨⟨k,k0,k1,rfl⟩,p⟩
 have HR:Hid (w2.heap[w.heap.size]? = some (.cells (cellsM Z0 none 0) 30)):=(p.2.block _ (zLo HR.out) (fun e=>HN.out (Option.some.inj e))).trans HR.out
 have PW:Hid (Rdr.Post w rd w2):=PW.out.trans p
 clear p
 have hs2:s.size<=maxLen:=Nat.le_trans hs (by decide)
 have cn:=fun w=>specNew_M s k w hs2
 have hwk2:IntKind.i64.wrap k=k:=by rw [IntKind.wrap_i64];omega
 have hsm:=sm_new s k hs2
 have hou:=out_new s k
 generalize newV s k=m at *
 generalize newB s k=f at *
 go_wp2_with fail
 refine (cn _).mono ?_
 rintro e w3 ⟨rfl,b⟩
 have HR:Hid (w3.heap[w.heap.size]? = some (.cells (cellsM Z0 none 0) 30)):=(b.block _ (zLo HR.out)).trans HR.out
 have PW:Hid (Rdr.Post w rd w3):=PW.out.trans (postB PW.out.1 b)
 clear b cn
 rename_i hK
 refine hK _ _ ?_
 clear hK
 refine wpList_plain rfl (fun K hK=>?_)
 go_simp
 refine hK _ _ ?_
 clear hK
 refine wpList_plain rfl (fun K hK=>?_)
 go_simp
 refine hK _ _ ?_
 clear hK
 refine wpList_plain rfl (fun K hK=>?_)
 go_simp
 refine hK _ _ ?_
 clear hK
 refine wpList_plain rfl (fun K hK=>?_)
 go_simp
 refine hK _ _ ?_
 clear hK
 refine wpList_store_row rfl 30 _ _ rfl w3.heap.size (cellsM m none 0) rfl rfl _ _ (heap_alloc_last w3 _) (infoMs _ _ _) (by rw [HZ.out,size_M,size_M]) (one_M _ _ _) ?_
 rw [World.setRow_alloc_new]
 obtain ⟨W3,hW3⟩ : ∃ u,u=w3.alloc (.cells (cellsM m none 0) 30):=⟨_,rfl⟩
 obtain ⟨B,hB⟩ : ∃ b,b=w3.heap.size:=⟨_,rfl⟩
 have HA:Hid (At w rd B W3 m none 0):=by
  have hl3:=(zLo HR.out)
  rw [hW3,hB]
  exact ⟨heap_alloc_last w3 _,by rw [hou];exact ⟨rfl,.inl ⟨rfl,rfl⟩⟩,(alloc_kept _ _ hl3).trans HR.out,PW.out.alloc _,hsm,hlt,hl3⟩
 go_upto_region 2 with fail
 rw [<- hW3,<- hB]
 clear hW3 hB HR PW HN hs hs2 hsm hou k0 k1 hwk2
 obtain ⟨po,hpo⟩ : ∃ po:Option Addr,po=none:=⟨_,rfl⟩
 obtain ⟨cap,hcap⟩ : ∃ cap:Nat,cap=0:=⟨_,rfl⟩
 rw [<- hpo,<- hcap] at HA
 clear hpo hcap
 cases f with
 | false =>
  go_upto_region 3 with fail
  refine wp_region_list ?_
  refine wpList_load_row rfl 30 _ rfl B rfl _ _ (0,0) _ HA.out.box underlying30 rfl (infoMs _ _ _) ?_
  refine wpList_store_row rfl 30 _ _ rfl w.heap.size _ rfl rfl _ _ HA.out.res (infoMs _ _ _) (by rw [size_M,size_M]) (one_M _ _ _) ?_
  have HD:=HA.out.done
  have HD:Hid (_/\_):=HD
  go_wp2
  exact bodyPost_ret (v:=.agg (cellsM m po cap)) (results_cell_row results15 _ _ w.heap.size _ _ (0,0) _ rfl HD.out.1 underlying30 rfl (infoMs _ _ _)) rfl HD.out.2
 | true =>
  have HA2:Hid (AtE w rd B W3):=⟨m,po,cap,HA.out⟩
  clear HA
  have HA:Hid (AtE w rd B W3):=HA2.out
  clear HA2
  go_upto_region 4 with fail
  go_wp2_with fail
  refine (Rdr.byte_any _ _ HA.out.rd).mono ?_
  rintro e w4 ⟨⟨x,x0,x1,rfl⟩,p⟩
  have HA2:Hid (AtE w rd B w4):=HA.out.next p
  clear p HA
  have HA:Hid (AtE w rd B w4):=HA2.out
  clear HA2
  obtain ⟨v0,q0⟩:=HA.out.get0
  have g0:=HA.out.free 0
  go_upto_region 5 with fail
  have HA2:Hid (AtE w rd B (w4.setCell ⟨B,0,none⟩ (.int .i64 x))):=HA.out.set0 x
  clear q0 g0 HA
  have HA:Hid (AtE w rd B (w4.setCell ⟨B,0,none⟩ (.int .i64 x))):=HA2.out
  clear HA2
  clear x0 x1
  go_wp2_with fail
  refine (DrawR.flags_any _ _ HA.out.rd).mono ?_
  rintro e w5 ⟨⟨x,x0,x1,rfl⟩,p⟩
  have HA2:Hid (AtE w rd B w5):=HA.out.next p
  clear p HA
  have HA:Hid (AtE w rd B w5):=HA2.out
  clear HA2
  obtain ⟨v1,q1⟩:=HA.out.get1
  have g1:=HA.out.free 1
  go_upto_region 6 with fail
  have HA2:Hid (AtE w rd B (w5.setCell ⟨B,1,none⟩ (.int .i64 x))):=HA.out.set1 x
  clear q1 g1 HA
  have HA:Hid (AtE w rd B (w5.setCell ⟨B,1,none⟩ (.int .i64 x))):=HA2.out
  clear HA2
  clear x0 x1
  go_wp2_with fail
  refine (Rdr.byte_any _ _ HA.out.rd).mono ?_
  rintro e w6 ⟨⟨x,x0,x1,rfl⟩,p⟩
  have HA2:Hid (AtE w rd B w6):=HA.out.next p
  clear p HA
  have HA:Hid (AtE w rd B w6):=HA2.out
  clear HA2
  obtain ⟨v2,q2⟩:=HA.out.get2
  have g2:=HA.out.free 2
  go_upto_region 7 with fail
  have HA2:Hid (AtE w rd B (w6.setCell ⟨B,2,none⟩ (.int .i64 x))):=HA.out.set2 x
  clear q2 g2 HA
  have HA:Hid (AtE w rd B (w6.setCell ⟨B,2,none⟩ (.int .i64 x))):=HA2.out
  clear HA2
  clear x0 x1
  go_wp2_with fail
  refine (Rdr.byte_any _ _ HA.out.rd).mono ?_
  rintro e w7 ⟨⟨x,x0,x1,rfl⟩,p⟩
  have HA2:Hid (AtE w rd B w7):=HA.out.next p
  clear p HA
  have HA:Hid (AtE w rd B w7):=HA2.out
  clear HA2
  obtain ⟨v7,q7⟩:=HA.out.get7
  have g7:=HA.out.free 7
  go_upto_region 8 with fail
  have HA2:Hid (AtE w rd B (w7.setCell ⟨B,7,none⟩ (.int .i64 x))):=HA.out.set7 x
  clear q7 g7 HA
  have HA:Hid (AtE w rd B (w7.setCell ⟨B,7,none⟩ (.int .i64 x))):=HA2.out
  clear HA2
  clear x0 x1
  generalize w7.setCell ⟨B,7,none⟩ (.int .i64 x)=w7s at HA |-
  go_wp2_with fail
  refine (Rdr.below_any _ _ _ (HA.out.rdA _) (by decide) (by decide)).mono ?_
  rintro e w8 ⟨⟨c,c0,c1,rfl⟩,p⟩
  obtain ⟨z,hc⟩ : ∃ z:Int,w8.cell? ⟨w7s.heap.size,c.toNat,none⟩=some (.int .i64 z):=by
   have hl:=HA.out.rd.lt
   have e:∀ i:Nat,w8.cell? ⟨w7s.heap.size,i,none⟩=#[Value.int .i64 0,.int .i64 192,.int .i64 255,.int .i64 160,.int .i64 1][i]?:=fun i =>
    (World.cell?_of_block (a:=⟨w7s.heap.size,i,none⟩) (p.2.block _ (by simp) (fun e=>by have:w7s.heap.size=rd:=Option.some.inj e;omega))).trans (World.cell?_alloc_new _ _ _ _)
   rcases (show c=0 \/ c=1 \/ c=2 \/ c=3 \/ c=4 from by omega) with rfl|rfl|rfl|rfl|rfl
   ·exact ⟨_,e 0⟩
   ·exact ⟨_,e 1⟩
   ·exact ⟨_,e 2⟩
   ·exact ⟨_,e 3⟩
   ·exact ⟨_,e 4⟩
  have HA2:Hid (AtE w rd B w8):=HA.out.nextA p
  clear p HA
  have HA:Hid (AtE w rd B w8):=HA2.out
  clear HA2
  obtain ⟨v6,q6⟩:=HA.out.get6
  have g6:=HA.out.free 6
  go_upto_region 9 with fail
  have HA2:Hid (AtE w rd B (w8.setCell ⟨B,6,none⟩ (.int .i64 z))):=HA.out.set6 z
  clear q6 g6 HA
  have HA:Hid (AtE w rd B (w8.setCell ⟨B,6,none⟩ (.int .i64 z))):=HA2.out
  clear HA2
  clear hc c0 c1
  generalize w8.setCell ⟨B,6,none⟩ (.int .i64 z)=w8s at HA |-
  go_wp2_with fail
  refine (Rdr.below_any _ _ _ (HA.out.rdA _) (by decide) (by decide)).mono ?_
  rintro e w9 ⟨⟨c,c0,c1,rfl⟩,p⟩
  obtain ⟨z,hc⟩ : ∃ z:Int,w9.cell? ⟨w8s.heap.size,c.toNat,none⟩=some (.int .i64 z):=by
   have hl:=HA.out.rd.lt
   have e:∀ i:Nat,w9.cell? ⟨w8s.heap.size,i,none⟩=#[Value.int .i64 65534,.int .i64 49200,.int .i64 65420,.int .i64 49153,.int .i64 2][i]?:=fun i =>
    (World.cell?_of_block (a:=⟨w8s.heap.size,i,none⟩) (p.2.block _ (by simp) (fun e=>by have:w8s.heap.size=rd:=Option.some.inj e;omega))).trans (World.cell?_alloc_new _ _ _ _)
   rcases (show c=0 \/ c=1 \/ c=2 \/ c=3 \/ c=4 from by omega) with rfl|rfl|rfl|rfl|rfl
   ·exact ⟨_,e 0⟩
   ·exact ⟨_,e 1⟩
   ·exact ⟨_,e 2⟩
   ·exact ⟨_,e 3⟩
   ·exact ⟨_,e 4⟩
  have HA2:Hid (AtE w rd B w9):=HA.out.nextA p
  clear p HA
  have HA:Hid (AtE w rd B w9):=HA2.out
  clear HA2
  obtain ⟨v8,q8⟩:=HA.out.get8
  have g8:=HA.out.free 8
  go_upto_region 10 with fail
  have HA2:Hid (AtE w rd B (w9.setCell ⟨B,8,none⟩ (.int .i64 z))):=HA.out.set8 z
  clear q8 g8 HA
  have HA:Hid (AtE w rd B (w9.setCell ⟨B,8,none⟩ (.int .i64 z))):=HA2.out
  clear HA2
  clear hc c0 c1
  generalize w9.setCell ⟨B,8,none⟩ (.int .i64 z)=w9s at HA |-
  go_cut [] (fun wx=>Hid (AtE w rd B wx))
  case first =>
   obtain ⟨m,po,cap,HA⟩:=HA.out
   have HA:Hid (At w rd B w9s m po cap):=HA
   refine wp_region_any (by kernel_rfl) ?_
   try (change wpAny _ _ _ _ _ _ _ (World.drew _))
   have HA:Hid (At w rd B w9s.drew m po cap):=HA.out.below (zRf.drew)
   generalize w9s.drew=wd at HA |-
   refine wpAny_take (i:=1) (v:=?vd1) rfl (by kernel_rfl) (by kernel_rfl) (by kernel_rfl) (fun _ _ _ h=>h) (Or.inl ⟨by rfl,?hyd1⟩) ?restd1
   case hyd1=>(intro w;go_simp;try with_reducible rfl)
   refine wpAny_take (i:=2) (v:=?vd2) rfl (by kernel_rfl) (by kernel_rfl) (by kernel_rfl) (fun _ _ _ h=>h) (Or.inl ⟨by rfl,?hyd2⟩) ?restd2
   case hyd2=>(intro w;go_simp;try with_reducible rfl)
   refine wpAny_take (i:=3) (v:=?vd3) rfl (by kernel_rfl) (by kernel_rfl) (by kernel_rfl) (fun _ _ _ h=>h) (Or.inl ⟨by rfl,?hyd3⟩) ?restd3
   case hyd3=>(intro w;go_simp;try with_reducible rfl)
   go_simp
   refine wpAny_ready (rs:=[0,4]) (by kernel_rfl) (by simp) ?_
   refine MachP.any_cons rfl rfl (fun K hK=>?_) (MachP.any_cons rfl rfl (fun K hK=>?_) AllReady.nil)
   ·refine wp_load_row 30 _ rfl B rfl _ _ (0,0) _ HA.out.box underlying30 rfl (infoMs _ _ _) ?_
    refine hK _ _ ?_
    clear hK
    refine wpAny_ready (rs:=[4]) (by kernel_rfl) (by simp) ?_
    refine MachP.any_cons rfl rfl (fun K hK=>?_) AllReady.nil
    go_wp2_with fail
    refine (Rdr.below_any _ _ _ HA.out.post.1 (by omega) (by omega)).mono ?_
    rintro e w10 ⟨⟨y,y0,y1,rfl⟩,p⟩
    have HA:Hid (At w rd B w10 m po cap):=HA.out.next p
    clear p
    refine hK _ _ ?_
    clear hK
    refine wpAny_ready (rs:=[5]) (by kernel_rfl) (by simp) ?_
    refine MachP.any_cons rfl rfl (fun K hK=>?_) AllReady.nil
    have hwy:IntKind.i64.wrap y=y:=by rw [IntKind.wrap_i64];omega
    go_wp2_with fail
    refine Calls.mono (Runs.specRun_any m po cap y _ HA.out.sm (own_sl HA.out.row rfl)) ?_
    rintro e wr ⟨⟨p2,c2,rfl,own2⟩,hb⟩
    have HO:Hid (wr.ownsRow w.heap.size 2 1 (.slice p2 (runV m y).1.out.length c2) (runV m y).1.out.length (outC (runV m y).1.out)):=Stdg.row_own (w':=wr) own2 _ HA.out.post.2.size
    have HS2:Hid (Sm (runV m y).1):=sm_run HA.out.sm
    have HA:=zHd (HA.out.below hb)
    clear own2 hb
    generalize (runV m y).1=m2 at *
    generalize (runV m y).2.1=cd at *
    generalize (runV m y).2.2=st at *
    refine hK _ _ ?_
    clear hK
    refine wpAny_take (i:=6) (v:=?vd4) rfl (by kernel_rfl) (by kernel_rfl) (by kernel_rfl) (fun _ _ _ h=>h) (Or.inl ⟨by rfl,?hyd4⟩) ?restd4
    case hyd4=>(intro w;go_simp;try with_reducible rfl)
    refine wpAny_take (i:=7) (v:=?vd5) rfl (by kernel_rfl) (by kernel_rfl) (by kernel_rfl) (fun _ _ _ h=>h) (Or.inl ⟨by rfl,?hyd5⟩) ?restd5
    case hyd5=>(intro w;go_simp;try with_reducible rfl)
    refine wpAny_take (i:=8) (v:=?vd6) rfl (by kernel_rfl) (by kernel_rfl) (by kernel_rfl) (fun _ _ _ h=>h) (Or.inl ⟨by rfl,?hyd6⟩) ?restd6
    case hyd6=>(intro w;go_simp;try with_reducible rfl)
    refine wpAny_take (i:=9) (v:=?vd7) rfl (by kernel_rfl) (by kernel_rfl) (by kernel_rfl) (fun _ _ _ h=>h) (Or.inl ⟨by rfl,?hyd7⟩) ?restd7
    case hyd7=>(intro w;go_simp;try with_reducible rfl)
    go_simp
    refine wpAny_ready (rs:=[10]) (by kernel_rfl) (by simp) ?_
    refine MachP.any_cons rfl rfl (fun K hK=>?_) AllReady.nil
    refine wp_store_row 30 _ _ rfl B (cellsM m2 p2 c2) rfl rfl _ _ HA.out.box (infoMs _ _ _) (by rw [size_M,size_M]) (one_M _ _ _) ?_
    refine hK _ _ ?_
    clear hK
    refine wpAny_done (by kernel_rfl) ?_ _
    have HA:Hid (At w rd B (wr.setRow B (cellsM m2 p2 c2)) m2 p2 c2):=HA.out.over HO.out HS2.out
    clear HO HS2
    go_wp2_with fail
    go_meet
    exact ⟨m2,p2,c2,HA.out⟩
   ·go_wp2_with fail
    refine (Rdr.below_any _ _ _ HA.out.post.1 (by omega) (by omega)).mono ?_
    rintro e w10 ⟨⟨y,y0,y1,rfl⟩,p⟩
    have HA:Hid (At w rd B w10 m po cap):=HA.out.next p
    clear p
    refine hK _ _ ?_
    clear hK
    refine wpAny_ready (rs:=[0]) (by kernel_rfl) (by simp) ?_
    refine MachP.any_cons rfl rfl (fun K hK=>?_) AllReady.nil
    refine wp_load_row 30 _ rfl B rfl _ _ (0,0) _ HA.out.box underlying30 rfl (infoMs _ _ _) ?_
    refine hK _ _ ?_
    clear hK
    refine wpAny_ready (rs:=[5]) (by kernel_rfl) (by simp) ?_
    refine MachP.any_cons rfl rfl (fun K hK=>?_) AllReady.nil
    have hwy:IntKind.i64.wrap y=y:=by rw [IntKind.wrap_i64];omega
    go_wp2_with fail
    refine Calls.mono (Runs.specRun_any m po cap y _ HA.out.sm (own_sl HA.out.row rfl)) ?_
    rintro e wr ⟨⟨p2,c2,rfl,own2⟩,hb⟩
    have HO:Hid (wr.ownsRow w.heap.size 2 1 (.slice p2 (runV m y).1.out.length c2) (runV m y).1.out.length (outC (runV m y).1.out)):=Stdg.row_own (w':=wr) own2 _ HA.out.post.2.size
    have HS2:Hid (Sm (runV m y).1):=sm_run HA.out.sm
    have HA:=zHd (HA.out.below hb)
    clear own2 hb
    generalize (runV m y).1=m2 at *
    generalize (runV m y).2.1=cd at *
    generalize (runV m y).2.2=st at *
    refine hK _ _ ?_
    clear hK
    refine wpAny_take (i:=6) (v:=?vd8) rfl (by kernel_rfl) (by kernel_rfl) (by kernel_rfl) (fun _ _ _ h=>h) (Or.inl ⟨by rfl,?hyd8⟩) ?restd8
    case hyd8=>(intro w;go_simp;try with_reducible rfl)
    refine wpAny_take (i:=7) (v:=?vd9) rfl (by kernel_rfl) (by kernel_rfl) (by kernel_rfl) (fun _ _ _ h=>h) (Or.inl ⟨by rfl,?hyd9⟩) ?restd9
    case hyd9=>(intro w;go_simp;try with_reducible rfl)
    refine wpAny_take (i:=8) (v:=?vd10) rfl (by kernel_rfl) (by kernel_rfl) (by kernel_rfl) (fun _ _ _ h=>h) (Or.inl ⟨by rfl,?hyd10⟩) ?restd10
    case hyd10=>(intro w;go_simp;try with_reducible rfl)
    refine wpAny_take (i:=9) (v:=?vd11) rfl (by kernel_rfl) (by kernel_rfl) (by kernel_rfl) (fun _ _ _ h=>h) (Or.inl ⟨by rfl,?hyd11⟩) ?restd11
    case hyd11=>(intro w;go_simp;try with_reducible rfl)
    go_simp
    refine wpAny_ready (rs:=[10]) (by kernel_rfl) (by simp) ?_
    refine MachP.any_cons rfl rfl (fun K hK=>?_) AllReady.nil
    refine wp_store_row 30 _ _ rfl B (cellsM m2 p2 c2) rfl rfl _ _ HA.out.box (infoMs _ _ _) (by rw [size_M,size_M]) (one_M _ _ _) ?_
    refine hK _ _ ?_
    clear hK
    refine wpAny_done (by kernel_rfl) ?_ _
    have HA:Hid (At w rd B (wr.setRow B (cellsM m2 p2 c2)) m2 p2 c2):=HA.out.over HO.out HS2.out
    clear HO HS2
    go_wp2_with fail
    go_meet
    exact ⟨m2,p2,c2,HA.out⟩
  case rest =>
  clear HA
  have HA:=hcut
  clear hcut
  rename World=>wz
  go_wp2_with fail
  refine (Rdr.once_any _ _ _ HA.out.rd (by decide) (by decide)).mono ?_
  rintro e w11 ⟨⟨q,rfl⟩,p⟩
  have HA2:Hid (AtE w rd B w11):=HA.out.next p
  clear p HA
  have HA:Hid (AtE w rd B w11):=HA2.out
  clear HA2
  go_upto_if 59 with fail
  go_cut [] (fun wx=>Hid (AtE w rd B wx))
  case first =>
   cases q with
   | false =>
    go_wp2_with fail
    go_meet
    exact HA.out
   | true =>
    go_wp2_with fail
    refine (Rdr.below_any _ _ _ (HA.out.rdA _) (by decide) (by decide)).mono ?_
    rintro e w12 ⟨⟨c,c0,c1,rfl⟩,p⟩
    obtain ⟨z,hc⟩ : ∃ z:Int,w12.cell? ⟨w11.heap.size,c.toNat,none⟩=some (.int .i64 z):=by
     have hl:=HA.out.rd.lt
     have e:∀ i:Nat,w12.cell? ⟨w11.heap.size,i,none⟩=#[Value.int .i64 256,.int .i64 49152,.int .i64 0,.int .i64 257][i]?:=fun i =>
      (World.cell?_of_block (a:=⟨w11.heap.size,i,none⟩) (p.2.block _ (by simp) (fun e=>by have:w11.heap.size=rd:=Option.some.inj e;omega))).trans (World.cell?_alloc_new _ _ _ _)
     rcases (show c=0 \/ c=1 \/ c=2 \/ c=3 from by omega) with rfl|rfl|rfl|rfl
     ·exact ⟨_,e 0⟩
     ·exact ⟨_,e 1⟩
     ·exact ⟨_,e 2⟩
     ·exact ⟨_,e 3⟩
    have HA2:Hid (AtE w rd B w12):=HA.out.nextA p
    clear p HA
    have HA:Hid (AtE w rd B w12):=HA2.out
    clear HA2
    obtain ⟨v9,q9⟩:=HA.out.get9
    have g9:=HA.out.free 9
    go_wp2_with fail
    go_meet
    exact HA.out.set9 z
  case rest =>
  clear HA
  have HA:=hcut
  clear hcut
  rename World=>wy
  go_wp2_with fail
  refine (Rdr.below_any _ _ _ HA.out.rd (by decide) (by decide)).mono ?_
  rintro e w13 ⟨⟨y,y0,y1,rfl⟩,p⟩
  have HA2:Hid (AtE w rd B w13):=HA.out.next p
  clear p HA
  have HA:Hid (AtE w rd B w13):=HA2.out
  clear HA2
  by_cases hy8:y=28
  ·subst hy8
   go_upto_region 15 with fail
   go_wp2_with fail
   refine (Rdr.off_any _ _ _ _ HA.out.rd (by decide) (by decide) (by decide)).mono ?_
   rintro e w15 ⟨⟨x,hx,rfl⟩,p⟩
   clear hx
   have HA2:Hid (AtE w rd B w15):=HA.out.next p
   clear p HA
   have HA:Hid (AtE w rd B w15):=HA2.out
   clear HA2
   obtain ⟨v1,q1⟩:=HA.out.get1
   have g1:=HA.out.free 1
   go_upto_region 18 with fail
   have HA2:Hid (AtE w rd B (w15.setCell ⟨B,1,none⟩ (.int .i64 x))):=HA.out.set1 x
   clear q1 g1 HA
   have HA:Hid (AtE w rd B (w15.setCell ⟨B,1,none⟩ (.int .i64 x))):=HA2.out
   clear HA2
   obtain ⟨m,po,cap,HA⟩:=HA.out
   have HA:Hid (At w rd B _ m po cap):=HA
   go_upto_region 18 with fail
   refine wp_region_list ?_
   refine wpList_load_row rfl 30 _ rfl B rfl _ _ (0,0) _ HA.out.box underlying30 rfl (infoMs _ _ _) ?_
   refine wpList_store_row rfl 30 _ _ rfl w.heap.size _ rfl rfl _ _ HA.out.res (infoMs _ _ _) (by rw [size_M,size_M]) (one_M _ _ _) ?_
   have HD:=HA.out.done
   have HD:Hid (_/\_):=HD
   go_wp2
   exact bodyPost_ret (v:=.agg (cellsM _ _ _)) (results_cell_row results15 _ _ w.heap.size _ _ (0,0) _ rfl HD.out.1 underlying30 rfl (infoMs _ _ _)) rfl HD.out.2
  by_cases hy9:y=29
  ·subst hy9
   go_upto_region 17 with fail
   go_wp2_with fail
   refine (Rdr.off_any _ _ _ _ HA.out.rd (by decide) (by decide) (by decide)).mono ?_
   rintro e w17 ⟨⟨x,hx,rfl⟩,p⟩
   clear hx
   have HA2:Hid (AtE w rd B w17):=HA.out.next p
   clear p HA
   have HA:Hid (AtE w rd B w17):=HA2.out
   clear HA2
   obtain ⟨v9,q9⟩:=HA.out.get9
   have g9:=HA.out.free 9
   go_upto_region 18 with fail
   have HA2:Hid (AtE w rd B (w17.setCell ⟨B,9,none⟩ (.int .i64 x))):=HA.out.set9 x
   clear q9 g9 HA
   have HA:Hid (AtE w rd B (w17.setCell ⟨B,9,none⟩ (.int .i64 x))):=HA2.out
   clear HA2
   obtain ⟨m,po,cap,HA⟩:=HA.out
   have HA:Hid (At w rd B _ m po cap):=HA
   go_upto_region 18 with fail
   refine wp_region_list ?_
   refine wpList_load_row rfl 30 _ rfl B rfl _ _ (0,0) _ HA.out.box underlying30 rfl (infoMs _ _ _) ?_
   refine wpList_store_row rfl 30 _ _ rfl w.heap.size _ rfl rfl _ _ HA.out.res (infoMs _ _ _) (by rw [size_M,size_M]) (one_M _ _ _) ?_
   have HD:=HA.out.done
   have HD:Hid (_/\_):=HD
   go_wp2
   exact bodyPost_ret (v:=.agg (cellsM _ _ _)) (results_cell_row results15 _ _ w.heap.size _ _ (0,0) _ rfl HD.out.1 underlying30 rfl (infoMs _ _ _)) rfl HD.out.2
  ·have b8:(y == 28)=false:=by simpa using hy8
   have b9:(y == 29)=false:=by simpa using hy9
   obtain ⟨m,po,cap,HA⟩:=HA.out
   have HA:Hid (At w rd B _ m po cap):=HA
   go_upto_region 18 with fail
   refine wp_region_list ?_
   refine wpList_load_row rfl 30 _ rfl B rfl _ _ (0,0) _ HA.out.box underlying30 rfl (infoMs _ _ _) ?_
   refine wpList_store_row rfl 30 _ _ rfl w.heap.size _ rfl rfl _ _ HA.out.res (infoMs _ _ _) (by rw [size_M,size_M]) (one_M _ _ _) ?_
   have HD:=HA.out.done
   have HD:Hid (_/\_):=HD
   go_wp2
   exact bodyPost_ret (v:=.agg (cellsM _ _ _)) (results_cell_row results15 _ _ w.heap.size _ _ (0,0) _ rfl HD.out.1 underlying30 rfl (infoMs _ _ _)) rfl HD.out.2
end Mdrw
namespace Boxs
open Go.Deep
open Busw (M cellsM cells_def celM outC row_ne alloc_kept)
open Busx Busy Stpp Runp
structure Bx (W:World) (b:Nat) (m:M) (po:Option Addr) (cap:Nat):Prop where
 box:W.heap[b]? = some (.cells (cellsM m po cap) 30)
 sl:Sl W po m.out cap
 lt:∀ p,po=some p->p.block<W.heap.size
theorem Bx.below {W W':World} {b:Nat} {m:M} {po:Option Addr} {cap:Nat} (h:Bx W b m po cap) (hb:Below W.heap.size W W'):Bx W' b m po cap :=
 ⟨(hb.block b (zLo h.box)).trans h.box,h.sl.below hb,fun p e=>Nat.lt_of_lt_of_le (h.lt p e) hb.size⟩
theorem Bx.alloc {W:World} {b:Nat} {m:M} {po:Option Addr} {cap:Nat} (h:Bx W b m po cap) (o:Obj):Bx (W.alloc o) b m po cap:=h.below (zAl _ _)
theorem Bx.new {W:World} {base:Nat} {m:M} {po:Option Addr} {cap:Nat} (h:W.ownsRow base 2 1 (.slice po m.out.length cap) m.out.length (outC m.out)):Bx (W.alloc (.cells (cellsM m po cap) 30)) W.heap.size m po cap :=
 ⟨heap_alloc_last W _,(own_sl h rfl).below (zAl _ _),fun p e=>Nat.lt_of_lt_of_le (Runs.own_lt h p e) (by simp)⟩
theorem Bx.load {W:World} {b:Nat} {m:M} {po:Option Addr} {cap:Nat} (h:Bx W b m po cap):(loadVar 30 ⟨b,0,none⟩).run prog W=.ok (.agg (cellsM m po cap)) W:=run_loadVar_row W b 30 30 _ (0,0) _ h.box underlying30 rfl (infoMs _ _ _)
end Boxs
end Go.Proofs.YtfpecdgcapfgfaaGreat
