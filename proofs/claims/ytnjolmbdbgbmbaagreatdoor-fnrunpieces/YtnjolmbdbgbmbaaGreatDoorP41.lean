import Derived.Test.YtnjolmbdbgbmbaaGreatDoorP40
set_option linter.all false
set_option maxRecDepth 20000
set_option maxHeartbeats 8000000
open Go.ChangeShapes Go.WideShapes Go.ChangeAt Go.RowKit
open Go.Proofs.Tryz
namespace Go.Proofs.YtnjolmbdbgbmbaaGreatDoor
namespace Runp
open Go.Deep
open Busw Busx Stpp Stpq Stpo Stpt
def Fine (m:M):Prop:=Stpq.Good m/\0<=m.cyc/\m.cyc<=1000000000
def runP:Nat->Int->M->M × Int × Int
 | 0,i,m=>(m,0,i)
 | k+1,i,m=>if (stepP m).2=0 then runP k (i+1) (stepP m).1 else (m,(stepP m).2,i)
def runV (m:M) (n:Int):M × Int × Int:=if okMM m=true/\0<=n/\n<=500 then runP n.toNat 0 m else (Z0,3,0)
theorem step_stays {m:M} (h:¬ (stepP m).2=0):(stepP m).1=m:=by
 unfold stepP at h |-
 split
 ·rfl
 split
 ·rfl
 split
 ·rfl
 ·rename_i h1 h2 h3
  rw [if_neg h1,if_neg h2,if_neg h3] at h
  exact absurd rfl h
theorem step_fine {m:M} (h:Fine m):Fine (stepP m).1:=by
 unfold stepP
 split
 ·exact h
 split
 ·exact h
 split
 ·exact h
 ·rename_i h1 h2 h3
  have hI:=ins_of m h2
  have hpc:=h.1.pc
  have hG:Stpq.Good (semOf m).1.m:=by
   refine sem_good ?_ _ _ _ hI.cbd.1 hI.cbd.2 hI.iok
   exact good_pc h.1 _ (by omega) (by omega)
  have hr:=CycX.range (insOf m).1 (insOf m).2.1 (semOf m).2 hI.cbd.1 hI.cbd.2 hI.non
  have hc:¬ 1000000000<cycOf m:=fun e=>h3 (.inr e)
  have h0:0<=cycOf m:=by unfold cycOf;have:=h.2.1;omega
  exact ⟨good_i hG (semOf m).1.m.ime (semOf m).1.m.hal (cycOf m),h0,by show cycOf m<=_;omega⟩
theorem run_fine (k:Nat) (i:Int) (m:M) (h:Fine m):Fine (runP k i m).1:=by
 induction k generalizing i m with
 | zero=>exact h
 | succ k ih =>
  unfold runP
  split
  ·exact ih _ _ (step_fine h)
  ·exact h
theorem runV_len {m:M} {n:Int} (hs:Sm m):(runV m n).1.out.length<=1048576:=by
 unfold runV
 split
 ·rename_i h
  exact Nat.le_trans (run_fine _ _ _ (good_of h.1 hs)).1.rt.out (by decide)
 ·show Z0.out.length<=_
  simp [Z0]
def Told3 (m:M) (n:Int) (w:World) (e:Ending) (w':World):Prop:=(∃ po cap,e=.returned (.tuple #[.agg (cellsM (runV m n).1 po cap),.int .i64 (runV m n).2.1,.int .i64 (runV m n).2.2])/\w'.ownsRow w.heap.size 2 1 (.slice po (runV m n).1.out.length cap) (runV m n).1.out.length (outC (runV m n).1.out))/\Below w.heap.size w w'
theorem results_three {P:Program} {fn:Func} {p q r:Tmp} {ty:TypeId} (h:fn.results=#[.cell p ty,.tmp q,.tmp r]) (tmps:Array Value) (w:World) (g:Nat) (t:TypeId) (cs:Array Value) (fr:Nat × Nat) (d:TypeDesc) (v x:Value)
  (hp:tmps.getD p undef=.pointer (some ⟨g,0,none⟩)) (hq:tmps.getD q undef=v) (hr:tmps.getD r undef=x) (hg:w.heap[g]? = some (.cells cs t fr))
  (hu:P.underlying ty=some d) (hd:(match d with|.struct _|.array _ _=>true|_=>false)=true) (hi:(P.info? ty).map (·.size)=some cs.size) :
  (results fn tmps).run P w=.ok (.tuple #[.agg cs,v,x]) w:=by
 have hp':tmps[p]?.getD undef=.pointer (some ⟨g,0,none⟩):=by simpa using hp
 have hq':tmps[q]?.getD undef=v:=by simpa using hq
 have hr':tmps[r]?.getD undef=x:=by simpa using hr
 simp [results,h,hp',hq',hr',asAddr,run_loadVar_row w g t ty cs fr d hg hu hd hi]
theorem run_go {k:Nat} {i:Int} {m:M} (h:(stepP m).2=0):runP (k+1) i m=runP k (i+1) (stepP m).1:=by
 show (if _ then _ else _)=_
 rw [if_pos h]
theorem run_stop {k:Nat} {i:Int} {m:M} (h:¬ (stepP m).2=0):runP (k+1) i m=(m,(stepP m).2,i):=by
 show (if _ then _ else _)=_
 rw [if_neg h]
end Runp
namespace Runs
open Go.Deep
open Signed (inB l1In_any)
open Busw Busx Busy Stpp Stpq Stpo Runp
open MachT (heap_row heap_row_other below_row)
theorem own_lt {w:World} {base n cap:Nat} {po:Option Addr} {xs:List Value} (h:w.ownsRow base 2 1 (.slice po n cap) n xs) (p:Addr) (e:po=some p):p.block<w.heap.size:=by
 subst e
 rcases h.2 with ⟨h,_⟩|⟨g,c,cur,hv,hb,hc,_⟩
 ·cases h
 ·cases hv;exact (zLo hc)
structure Inv (w:World) (B:Nat) (u:World) (mk:M):Prop where
 box:∃ pk ck,u.heap[B]? = some (.cells (cellsM mk pk ck) 33)/\u.ownsRow w.heap.size 2 1 (.slice pk mk.out.length ck) mk.out.length (outC mk.out)
 fine:Fine mk
 res:u.heap[w.heap.size+1]? = some (.cells (cellsM Z0 none 0) 33)
 bel:Below w.heap.size w u
 at_:w.heap.size+1<B
theorem sr_machine (m:M) (po:Option Addr) (cap:Nat) (n:Int) (w:World) (hs:Sm m) (hN:Sl w po m.out cap) (hok:okMM m=false) :
  Calls prog 13 #[.agg (cellsM m po cap),.int .i64 n] w (Told3 m n w):=by
 have hz:=zeroM
 have c1:=fun W (h:Sl W po m.out cap)=>specOk_M m po cap W hs h
 have H0:Hid (∀ W,Below w.heap.size w W->Sl W po m.out cap):=fun W h=>hN.below h
 have HS:Hid (Sm m):=hs
 have HBT:Hid (prog.built 33 []=some (cellsM Z0 none 0)):=builtM
 rw [hok] at c1
 have HV:Hid (runV m n=(Z0,3,0)):=by show _=_;unfold runV;rw [if_neg (fun h=>by rw [hok] at h;exact absurd h.1 (by decide))]
 clear hN hs hok
 obtain ⟨cM,hcM⟩ : ∃ c,c=cellsM m po cap:=⟨_,rfl⟩
 obtain ⟨cZ,hcZ⟩ : ∃ c,c=cellsM Z0 none 0:=⟨_,rfl⟩
 have HM:Hid (cM=cellsM m po cap):=hcM
 have HZ:Hid (cZ=cellsM Z0 none 0):=hcZ
 have HIM:Hid ((prog.info? 33).map (·.size)=some cM.size):=hcM ▸ infoMs m po cap
 have HIZ:Hid ((prog.info? 33).map (·.size)=some cZ.size):=hcZ ▸ infoMs Z0 none 0
 have HOZ:Hid (cZ.all (·.oneCell')=true):=hcZ ▸ one_M Z0 none 0
 rw [<- hcM] at c1 |-
 rw [<- hcZ] at hz HBT
 clear hcM hcZ
 go_enter func13,ntmps13
 go_upto_region 1 with fail
 refine wp_region_list ?_
 have k0:((w.alloc (.cells cM 33)).alloc (.cells cZ 33)).heap[w.heap.size]? = some (.cells cM 33):=by
  rw [Below.heap_alloc _ _ _ (by simp)];exact heap_alloc_last w _
 refine wpList_load_row rfl 33 _ rfl w.heap.size rfl _ _ (0,0) _ k0 underlying33 rfl HIM.out ?_
 clear k0
 go_wp2_with fail
 refine Calls.mono (c1 _ (H0.out _ (by repeat (with_reducible first|exact zRf|refine zGr ?_ _|refine below_drewN ?_ _|refine Below.drew ?_)))) ?_
 rintro e w1 ⟨rfl,hb1⟩
 have HB:Hid (Below w.heap.size w w1):=HolI.after (by repeat (with_reducible first|exact zRf|refine zGr ?_ _|refine below_drewN ?_ _|refine Below.drew ?_)) hb1
 have HK:Hid (w1.heap[w.heap.size]? = some (.cells cM 33)):=by
  have h:=hb1.block w.heap.size (by simp;omega)
  rw [Below.heap_alloc _ _ _ (by simp)] at h
  exact h.trans (heap_alloc_last w _)
 have HR:Hid (w1.heap[w.heap.size+1]? = some (.cells cZ 33)):=by
  have h:=hb1.block (w.heap.size+1) (by simp)
  have h2:=heap_alloc_last (w.alloc (.cells cM 33)) (.cells cZ 33)
  simp only [World.size_alloc] at h2
  exact h.trans h2
 clear hb1 c1
 go_upto_region 2 with fail
 refine wp_region_list ?_
 refine wpList_build0 rfl 33 rfl cZ HBT.out ?_
 refine wpList_store_row rfl 33 _ _ rfl (w.heap.size+1) cZ rfl rfl _ _ HR.out HIZ.out rfl HOZ.out ?_
 have HF:Hid ((w1.setRow (w.heap.size+1) cZ).heap[w.heap.size+1]? = some (.cells cZ 33)):=heap_row HR.out
 have HG:Hid (Below w.heap.size w (w1.setRow (w.heap.size+1) cZ)):=below_row HB.out (by omega)
 go_wp2
 refine bodyPost_ret (v:=.tuple #[.agg cZ,.int .i64 3,.int .i64 0]) (results_three results13 _ _ (w.heap.size+1) _ _ (0,0) _ _ _ rfl rfl rfl HF.out underlying33 rfl HIZ.out) rfl ?_
 refine ⟨⟨none,0,by rw [HV.out,HZ.out],?_⟩,HG.out⟩
 rw [HV.out]
 exact Ista.own_nil _ _ HG.out.size
theorem sr_number (m:M) (po:Option Addr) (cap:Nat) (n:Int) (w:World) (hs:Sm m) (hN:Sl w po m.out cap) (hok:okMM m=true) (hn:¬ (0<=n/\n<=500)) :
  Calls prog 13 #[.agg (cellsM m po cap),.int .i64 n] w (Told3 m n w):=by
 have hz:=zeroM
 have c1:=fun W (h:Sl W po m.out cap)=>specOk_M m po cap W hs h
 have H0:Hid (∀ W,Below w.heap.size w W->Sl W po m.out cap):=fun W h=>hN.below h
 have HS:Hid (Sm m):=hs
 have HBT:Hid (prog.built 33 []=some (cellsM Z0 none 0)):=builtM
 rw [hok] at c1
 have HV:Hid (runV m n=(Z0,3,0)):=by show _=_;unfold runV;rw [if_neg (fun h=>by exact hn h.2)]
 have hq:inB n 0 500=false:=by unfold inB;simp;omega
 have cI:=fun W=>l1In_any n 0 500 W
 rw [hq] at cI
 clear hq hn
 clear hN hs hok
 obtain ⟨cM,hcM⟩ : ∃ c,c=cellsM m po cap:=⟨_,rfl⟩
 obtain ⟨cZ,hcZ⟩ : ∃ c,c=cellsM Z0 none 0:=⟨_,rfl⟩
 have HM:Hid (cM=cellsM m po cap):=hcM
 have HZ:Hid (cZ=cellsM Z0 none 0):=hcZ
 have HIM:Hid ((prog.info? 33).map (·.size)=some cM.size):=hcM ▸ infoMs m po cap
 have HIZ:Hid ((prog.info? 33).map (·.size)=some cZ.size):=hcZ ▸ infoMs Z0 none 0
 have HOZ:Hid (cZ.all (·.oneCell')=true):=hcZ ▸ one_M Z0 none 0
 rw [<- hcM] at c1 |-
 rw [<- hcZ] at hz HBT
 clear hcM hcZ
 go_enter func13,ntmps13
 go_upto_region 1 with fail
 refine wp_region_list ?_
 have k0:((w.alloc (.cells cM 33)).alloc (.cells cZ 33)).heap[w.heap.size]? = some (.cells cM 33):=by
  rw [Below.heap_alloc _ _ _ (by simp)];exact heap_alloc_last w _
 refine wpList_load_row rfl 33 _ rfl w.heap.size rfl _ _ (0,0) _ k0 underlying33 rfl HIM.out ?_
 clear k0
 go_wp2_with fail
 refine Calls.mono (c1 _ (H0.out _ (by repeat (with_reducible first|exact zRf|refine zGr ?_ _|refine below_drewN ?_ _|refine Below.drew ?_)))) ?_
 rintro e w1 ⟨rfl,hb1⟩
 have HB:Hid (Below w.heap.size w w1):=HolI.after (by repeat (with_reducible first|exact zRf|refine zGr ?_ _|refine below_drewN ?_ _|refine Below.drew ?_)) hb1
 have HK:Hid (w1.heap[w.heap.size]? = some (.cells cM 33)):=by
  have h:=hb1.block w.heap.size (by simp;omega)
  rw [Below.heap_alloc _ _ _ (by simp)] at h
  exact h.trans (heap_alloc_last w _)
 have HR:Hid (w1.heap[w.heap.size+1]? = some (.cells cZ 33)):=by
  have h:=hb1.block (w.heap.size+1) (by simp)
  have h2:=heap_alloc_last (w.alloc (.cells cM 33)) (.cells cZ 33)
  simp only [World.size_alloc] at h2
  exact h.trans h2
 clear hb1 c1
 go_upto_region 2 with (go_at_call 43;refine (cI _).mono ?_;rintro e wx ⟨rfl,hwx⟩;rw [hwx];clear hwx wx)
 refine wp_region_list ?_
 refine wpList_build0 rfl 33 rfl cZ HBT.out ?_
 refine wpList_store_row rfl 33 _ _ rfl (w.heap.size+1) cZ rfl rfl _ _ HR.out HIZ.out rfl HOZ.out ?_
 have HF:Hid ((w1.setRow (w.heap.size+1) cZ).heap[w.heap.size+1]? = some (.cells cZ 33)):=heap_row HR.out
 have HG:Hid (Below w.heap.size w (w1.setRow (w.heap.size+1) cZ)):=below_row HB.out (by omega)
 go_wp2
 refine bodyPost_ret (v:=.tuple #[.agg cZ,.int .i64 3,.int .i64 0]) (results_three results13 _ _ (w.heap.size+1) _ _ (0,0) _ _ _ rfl rfl rfl HF.out underlying33 rfl HIZ.out) rfl ?_
 refine ⟨⟨none,0,by rw [HV.out,HZ.out],?_⟩,HG.out⟩
 rw [HV.out]
 exact Ista.own_nil _ _ HG.out.size
theorem sr_main (m:M) (po:Option Addr) (cap:Nat) (n:Int) (w:World) (hs:Sm m) (hN:Sl w po m.out cap) (hok:okMM m=true) (hn:0<=n/\n<=500) :
  Calls prog 13 #[.agg (cellsM m po cap),.int .i64 n] w (Told3 m n w):=by
 have hz:=zeroM
 have c1:=fun W (h:Sl W po m.out cap)=>specOk_M m po cap W hs h
 have H0:Hid (∀ W,Below w.heap.size w W->Sl W po m.out cap):=fun W h=>hN.below h
 have HS:Hid (Sm m):=hs
 have HBT:Hid (prog.built 33 []=some (cellsM Z0 none 0)):=builtM
 rw [hok] at c1
 have HGD:Hid (Fine m):=good_of hok hs
 have HLE:Hid (m.out.length<=1048576):=hs.out
 have HV:Hid (runV m n=runP n.toNat 0 m):=by show _=_;unfold runV;rw [if_pos ⟨hok,hn⟩]
 have hq:inB n 0 500=true:=by unfold inB;simp;omega
 have cI:=fun W=>l1In_any n 0 500 W
 rw [hq] at cI
 clear hq
 clear hN hs hok
 obtain ⟨cM,hcM⟩ : ∃ c,c=cellsM m po cap:=⟨_,rfl⟩
 obtain ⟨cZ,hcZ⟩ : ∃ c,c=cellsM Z0 none 0:=⟨_,rfl⟩
 have HM:Hid (cM=cellsM m po cap):=hcM
 have HZ:Hid (cZ=cellsM Z0 none 0):=hcZ
 have HIM:Hid ((prog.info? 33).map (·.size)=some cM.size):=hcM ▸ infoMs m po cap
 have HIZ:Hid ((prog.info? 33).map (·.size)=some cZ.size):=hcZ ▸ infoMs Z0 none 0
 have HOZ:Hid (cZ.all (·.oneCell')=true):=hcZ ▸ one_M Z0 none 0
 rw [<- hcM] at c1 |-
 rw [<- hcZ] at hz HBT
 clear hcM hcZ
 go_enter func13,ntmps13
 go_upto_region 1 with fail
 refine wp_region_list ?_
 have k0:((w.alloc (.cells cM 33)).alloc (.cells cZ 33)).heap[w.heap.size]? = some (.cells cM 33):=by
  rw [Below.heap_alloc _ _ _ (by simp)];exact heap_alloc_last w _
 refine wpList_load_row rfl 33 _ rfl w.heap.size rfl _ _ (0,0) _ k0 underlying33 rfl HIM.out ?_
 clear k0
 go_wp2_with fail
 refine Calls.mono (c1 _ (H0.out _ (by repeat (with_reducible first|exact zRf|refine zGr ?_ _|refine below_drewN ?_ _|refine Below.drew ?_)))) ?_
 rintro e w1 ⟨rfl,hb1⟩
 have HB:Hid (Below w.heap.size w w1):=HolI.after (by repeat (with_reducible first|exact zRf|refine zGr ?_ _|refine below_drewN ?_ _|refine Below.drew ?_)) hb1
 have HK:Hid (w1.heap[w.heap.size]? = some (.cells cM 33)):=by
  have h:=hb1.block w.heap.size (by simp;omega)
  rw [Below.heap_alloc _ _ _ (by simp)] at h
  exact h.trans (heap_alloc_last w _)
 have HR:Hid (w1.heap[w.heap.size+1]? = some (.cells cZ 33)):=by
  have h:=hb1.block (w.heap.size+1) (by simp)
  have h2:=heap_alloc_last (w.alloc (.cells cM 33)) (.cells cZ 33)
  simp only [World.size_alloc] at h2
  exact h.trans h2
 clear hb1 c1
 go_upto_region 3 with (go_at_call 43;refine (cI _).mono ?_;rintro e wx ⟨rfl,hwx⟩;rw [hwx];clear hwx wx)
 refine wp_region_list ?_
 refine wpList_load_row rfl 33 _ rfl w.heap.size rfl _ _ (0,0) _ HK.out underlying33 rfl HIM.out ?_
 go_wp2_with fail
 refine Calls.mono (by rw [HM.out];exact Busy.copy_any m po cap _ HLE.out (H0.out _ HB.out)) ?_
 rintro e wy ⟨⟨poy,capy,rfl,owny⟩,hby⟩
 have HY:=zHd (HolI.after HB.out hby)
 have HYR:Hid (wy.heap[w.heap.size+1]? = some (.cells cZ 33)):=(hby.block _ (zLo HR.out)).trans HR.out
 have HYO:Hid (wy.ownsRow w.heap.size 2 1 (.slice poy m.out.length capy) m.out.length (outC m.out)):=Stdg.row_own (w':=wy) owny _ HB.out.size
 clear hby owny
 rename_i hK
 refine hK _ _ ?_
 clear hK
 refine wpList_plain rfl (fun K hK=>?_)
 go_simp
 refine hK _ _ ?_
 clear hK
 refine wpList_store_row rfl 33 _ _ rfl wy.heap.size _ rfl rfl _ _ (heap_alloc_last wy _) (infoMs _ _ _) (by rw [HZ.out,size_M,size_M]) (one_M _ _ _) ?_
 rw [World.setRow_alloc_new]
 refine wpList_nil ?_
 obtain ⟨u,hu⟩ : ∃ u,u=wy.alloc (.cells (cellsM m poy capy) 33):=⟨_,rfl⟩
 obtain ⟨B,hB⟩ : ∃ B,B=wy.heap.size:=⟨_,rfl⟩
 have HI:Hid (Inv w B u m):=by
  have hl:=(zLo HYR.out)
  rw [hu,hB]
  exact ⟨⟨poy,capy,heap_alloc_last wy _,HYO.out.alloc _⟩,HGD.out,by rw [alloc_kept _ _ hl,HYR.out,HZ.out],zGr HY.out _,hl⟩
 rw [<- hu,<- hB]
 clear hu hB HYR HYO HY HK HR HB H0
 obtain ⟨N,hN⟩ : ∃ N:Nat,(N:Int)=n:=⟨n.toNat,by omega⟩
 subst hN
 go_wp2_with fail
 go_loopw [8] (fun i wr=>∃ (k:Nat) (mk:M),k<=N/\i=.int .i64 (k:Int)/\Hid (runP (N-k) k mk=runP N 0 m)/\Hid (Inv w B wr mk)) (fun i _=>N-(intOf i).toNat)
 case atStart=>exact ⟨0,m,Nat.zero_le _,rfl,rfl,HI.out⟩
 case round =>
  obtain ⟨k,mk,hk,rfl,HR1,HI1⟩:=hrel
  obtain ⟨⟨pk,ck,hbox,hown⟩,hfine,hres,hbel,hat⟩:=HI1.out
  have HX:Hid (wr.heap[B]? = some (.cells (cellsM mk pk ck) 33)/\wr.ownsRow w.heap.size 2 1 (.slice pk mk.out.length ck) mk.out.length (outC mk.out)/\Fine mk/\wr.heap[w.heap.size+1]? = some (.cells (cellsM Z0 none 0) 33)/\Below w.heap.size w wr/\w.heap.size+1<B):=⟨hbox,hown,hfine,hres,hbel,hat⟩
  clear hbox hown hfine hres hbel hat HI1
  by_cases hlt:k<N
  ·go_upto_region 7 with fail
   refine wp_region_list ?_
   refine wpList_load_row rfl 33 _ rfl B rfl _ _ (0,0) _ HX.out.1 underlying33 rfl (infoMs _ _ _) ?_
   go_wp2_with fail
   refine Calls.mono (Stdg.ssS mk pk ck wr HX.out.2.2.1.1 HX.out.2.2.1.2 (own_sl HX.out.2.1 rfl) (own_lt HX.out.2.1)) ?_
   rintro e w2 ⟨⟨p2,c2,rfl,own2⟩,hb2⟩
   obtain ⟨m2,hm2⟩ : ∃ x,x=(stepP mk).1:=⟨_,rfl⟩
   obtain ⟨cd,hcd⟩ : ∃ x,x=(stepP mk).2:=⟨_,rfl⟩
   rw [<- hm2,<- hcd]
   rw [<- hm2] at own2
   have HM2:Hid (m2=(stepP mk).1):=hm2
   have HCD:Hid (cd=(stepP mk).2):=hcd
   have HY2:Hid (w2.heap[B]? = some (.cells (cellsM mk pk ck) 33)/\w2.ownsRow w.heap.size 2 1 (.slice pk mk.out.length ck) mk.out.length (outC mk.out)/\w2.heap[w.heap.size+1]? = some (.cells (cellsM Z0 none 0) 33)/\Below w.heap.size w w2):=⟨(hb2.block _ (zLo HX.out.1)).trans HX.out.1,Busl.own_stay HX.out.2.1 hb2,(hb2.block _ (zLo HX.out.2.2.2.1)).trans HX.out.2.2.2.1,HolI.after HX.out.2.2.2.2.1 hb2⟩
   have HO2:Hid (w2.ownsRow w.heap.size 2 1 (.slice p2 m2.out.length c2) m2.out.length (outC m2.out)):=Stdg.row_own (w':=w2) own2 _ HX.out.2.2.2.2.1.size
   clear hm2 hcd own2 hb2
   rename_i hK
   refine hK _ _ ?_
   clear hK
   refine wpList_plain rfl (fun K hK=>?_)
   go_simp
   refine hK _ _ ?_
   clear hK
   refine wpList_plain rfl (fun K hK=>?_)
   go_simp
   refine hK _ _ ?_
   clear hK
   refine wpList_plain rfl (fun K hK=>?_)
   go_simp
   refine hK _ _ ?_
   clear hK
   refine wpList_plain rfl (fun K hK=>?_)
   go_simp
   refine hK _ _ ?_
   clear hK
   refine wpList_store_row rfl 33 _ _ rfl w2.heap.size (cellsM m2 p2 c2) rfl rfl _ _ (heap_alloc_last w2 _) (infoMs _ _ _) (by rw [HZ.out,size_M,size_M]) (one_M _ _ _) ?_
   rw [World.setRow_alloc_new]
   go_upto_region 8 with fail
   obtain ⟨u2,hu2⟩ : ∃ u,u=w2.alloc (.cells (cellsM m2 p2 c2) 33):=⟨_,rfl⟩
   obtain ⟨B2,hB2⟩ : ∃ b,b=w2.heap.size:=⟨_,rfl⟩
   have HU:Hid (u2.heap[B]? = some (.cells (cellsM mk pk ck) 33)/\u2.ownsRow w.heap.size 2 1 (.slice pk mk.out.length ck) mk.out.length (outC mk.out)/\u2.heap[w.heap.size+1]? = some (.cells (cellsM Z0 none 0) 33)/\Below w.heap.size w u2/\u2.heap[B2]? = some (.cells (cellsM m2 p2 c2) 33)/\u2.ownsRow w.heap.size 2 1 (.slice p2 m2.out.length c2) m2.out.length (outC m2.out)):=by
    obtain ⟨h1,h2,h3,h4⟩:=HY2.out
    rw [hu2,hB2]
    exact ⟨(alloc_kept _ _ (zLo h1)).trans h1,h2.alloc _,(alloc_kept _ _ (zLo h3)).trans h3,zGr h4 _,heap_alloc_last w2 _,HO2.out.alloc _⟩
   rw [<- hu2,<- hB2]
   clear hu2 hB2 HY2 HO2
   by_cases hz0:cd=0
   ·subst hz0
    go_upto_region 10 with fail
    refine wp_region_list ?_
    refine wpList_load_row rfl 33 _ rfl B2 rfl _ _ (0,0) _ HU.out.2.2.2.2.1 underlying33 rfl (infoMs _ _ _) ?_
    refine wpList_store_row rfl 33 _ _ rfl B _ rfl rfl _ _ HU.out.1 (infoMs _ _ _) (by rw [size_M,size_M]) (one_M _ _ _) ?_
    have HI2:Hid (Inv w B (u2.setRow B (cellsM m2 p2 c2)) m2):=by
     obtain ⟨h1,h2,h3,h4,h5,h6⟩:=HU.out
     have hB:=HX.out.2.2.2.2.2
     exact ⟨⟨p2,c2,heap_row h1,World.ownsRow.kept (row:=some B) h6 (set_row_grown _ _ _) (.inr (row_ne h6 h1))⟩,by rw [HM2.out];exact step_fine HX.out.2.2.1,(heap_row_other (by omega) _).trans h3,below_row h4 (by omega),hB⟩
    have d1:IntKind.i64.wrap ((k:Int)+1)=(k:Int)+1:=by rw [IntKind.wrap_i64];omega
    go_wp2_with fail
    go_roundw
    case rel =>
     refine ⟨k+1,m2,by omega,by go_num,?_,HI2.out⟩
     show _=_
     have e1:N-k=(N-(k+1))+1:=by omega
     rw [<- HR1.out,e1,run_go HCD.out.symm,HM2.out]
     rfl
    case measure=>simp [intOf];omega
   ·have hne:(cd == 0)=false:=by simpa using hz0
    have HV2:Hid (runV m (N:Int)=(mk,cd,(k:Int))):=by
     show _=_
     have e1:N-k=(N-(k+1))+1:=by omega
     rw [HV.out,Int.toNat_natCast,<- HR1.out,e1,run_stop (by rw [<- HCD.out];exact hz0),HCD.out]
    go_upto_region 9 with fail
    refine wp_region_list ?_
    refine wpList_load_row rfl 33 _ rfl B rfl _ _ (0,0) _ HU.out.1 underlying33 rfl (infoMs _ _ _) ?_
    refine wpList_plain rfl (fun K hK=>?_)
    go_simp
    refine hK _ _ ?_
    clear hK
    refine wpList_plain rfl (fun K hK=>?_)
    go_simp
    refine hK _ _ ?_
    clear hK
    refine wpList_store_row rfl 33 _ _ rfl (w.heap.size+1) _ rfl rfl _ _ HU.out.2.2.1 (infoMs _ _ _) (by rw [size_M,size_M]) (one_M _ _ _) ?_
    have HF:Hid ((u2.setRow (w.heap.size+1) (cellsM mk pk ck)).heap[w.heap.size+1]? = some (.cells (cellsM mk pk ck) 33)):=heap_row HU.out.2.2.1
    have HG:Hid (Below w.heap.size w (u2.setRow (w.heap.size+1) (cellsM mk pk ck))):=below_row HU.out.2.2.2.1 (by omega)
    have HOw:Hid ((u2.setRow (w.heap.size+1) (cellsM mk pk ck)).ownsRow w.heap.size 2 1 (.slice pk mk.out.length ck) mk.out.length (outC mk.out)):=World.ownsRow.kept (row:=some (w.heap.size+1)) HU.out.2.1 (set_row_grown _ _ _) (.inr (row_ne HU.out.2.1 HU.out.2.2.1))
    go_wp2
    refine bodyPost_ret (v:=.tuple #[.agg (cellsM mk pk ck),.int .i64 cd,.int .i64 (k:Int)]) (results_three results13 _ _ (w.heap.size+1) _ _ (0,0) _ _ _ rfl rfl rfl HF.out underlying33 rfl (infoMs _ _ _)) rfl ?_
    exact ⟨⟨pk,ck,by rw [HV2.out],by rw [HV2.out];exact HOw.out⟩,HG.out⟩
  ·have HV2:Hid (runV m (N:Int)=(mk,0,(N:Int))):=by
    show _=_
    have e:k=N:=by omega
    rw [HV.out,Int.toNat_natCast,<- HR1.out,e,Nat.sub_self];rfl
   go_upto_region 11 with fail
   refine wp_region_list ?_
   refine wpList_load_row rfl 33 _ rfl B rfl _ _ (0,0) _ HX.out.1 underlying33 rfl (infoMs _ _ _) ?_
   refine wpList_plain rfl (fun K hK=>?_)
   go_simp
   refine hK _ _ ?_
   clear hK
   refine wpList_store_row rfl 33 _ _ rfl (w.heap.size+1) _ rfl rfl _ _ HX.out.2.2.2.1 (infoMs _ _ _) (by rw [size_M,size_M]) (one_M _ _ _) ?_
   have HF:Hid ((wr.setRow (w.heap.size+1) (cellsM mk pk ck)).heap[w.heap.size+1]? = some (.cells (cellsM mk pk ck) 33)):=heap_row HX.out.2.2.2.1
   have HG:Hid (Below w.heap.size w (wr.setRow (w.heap.size+1) (cellsM mk pk ck))):=below_row HX.out.2.2.2.2.1 (by omega)
   have HOw:Hid ((wr.setRow (w.heap.size+1) (cellsM mk pk ck)).ownsRow w.heap.size 2 1 (.slice pk mk.out.length ck) mk.out.length (outC mk.out)):=World.ownsRow.kept (row:=some (w.heap.size+1)) HX.out.2.1 (set_row_grown _ _ _) (.inr (row_ne HX.out.2.1 HX.out.2.2.2.1))
   go_wp2
   refine bodyPost_ret (v:=.tuple #[.agg (cellsM mk pk ck),.int .i64 0,.int .i64 (N:Int)]) (results_three results13 _ _ (w.heap.size+1) _ _ (0,0) _ _ _ rfl rfl rfl HF.out underlying33 rfl (infoMs _ _ _)) rfl ?_
   exact ⟨⟨pk,ck,by rw [HV2.out],by rw [HV2.out];exact HOw.out⟩,HG.out⟩
theorem specRun_any (m:M) (po:Option Addr) (cap:Nat) (n:Int) (w:World) (hs:Sm m) (hN:Sl w po m.out cap) :
  Calls prog 13 #[.agg (cellsM m po cap),.int .i64 n] w (Told3 m n w):=by
 cases hok:okMM m with
 | false=>exact sr_machine m po cap n w hs hN hok
 | true =>
  by_cases hn:0<=n/\n<=500
  ·exact sr_main m po cap n w hs hN hok hn
  ·exact sr_number m po cap n w hs hN hok hn
end Runs
namespace Runq
open Go.Deep
open Signed (inB sgn)
open Busw Busx Stpp Stpq Stpo Stpt Stph Runp
open ReadI (lenC immV)
def newM (rom:ByteArray) (kind:Int):M:=⟨0,0,0,0,0,0,0,0,65534,0,false,false,rom,kind,1,CartN.Z 256,0,false,0,CartN.Z 256,CartN.Z 127,[],0⟩
end Runq
namespace Mnew
open Go.Deep
open Busw (M cellsM cells_def outC)
open Busx Stpp Stpq Runp Runq
open CartN (newB)
theorem sm_fine {m:M} (h:Fine m):Sm m:=⟨h.1.rt.rom,h.1.rt.ram,by rw [h.1.rt.work];decide,by rw [h.1.rt.high];decide,Nat.le_trans h.1.rt.out (by decide)⟩
theorem sm_zero:Sm Z0:=⟨by decide,by decide,by decide,by decide,by decide⟩
theorem sm_run {m:M} {n:Int} (hs:Sm m):Sm (runV m n).1:=by
 unfold runV
 split
 ·rename_i h
  exact sm_fine (run_fine _ _ _ (good_of h.1 hs))
 ·exact sm_zero
def newV (rom:ByteArray) (kind:Int):M:=if newB rom kind=true then newM rom kind else Z0
theorem sm_new (rom:ByteArray) (kind:Int) (h:rom.size<=maxLen):Sm (newV rom kind):=by
 unfold newV
 split
 ·exact ⟨h,by show (CartN.Z 256).size<=_;rw [CartN.Z_size];decide,by show (CartN.Z 256).size<=_;rw [CartN.Z_size];decide,by show (CartN.Z 127).size<=_;rw [CartN.Z_size];decide,by show ([]:List Int).length<=_;decide⟩
 ·exact sm_zero
theorem out_new (rom:ByteArray) (kind:Int):(newV rom kind).out=[]:=by unfold newV;split <;> rfl
theorem specNew_M (rom:ByteArray) (kind:Int) (w:World) (hs:rom.size<=maxLen):Calls prog 27 #[.string rom,.int .i64 kind] w fun e w'=>e=.returned (.tuple #[.agg (cellsM (newV rom kind) none 0),.bool (newB rom kind)])/\Below w.heap.size w w':=by
 cases h:newB rom kind with
 | true =>
  have e:newV rom kind=newM rom kind:=by unfold newV;rw [if_pos h]
  rw [e,cells_def];exact MachN.specM_yes rom kind w hs h
 | false =>
  have e:newV rom kind=Z0:=by unfold newV;rw [if_neg (by rw [h];decide)]
  rw [e,cells_def];exact MachN.specM_no rom kind w hs h
end Mnew
namespace Boxs
open Go.Deep
open Busw (M cellsM cells_def celM outC row_ne alloc_kept)
open Busx Busy Stpp Runp
structure Bx (W:World) (b:Nat) (m:M) (po:Option Addr) (cap:Nat):Prop where
 box:W.heap[b]? = some (.cells (cellsM m po cap) 33)
 sl:Sl W po m.out cap
 lt:∀ p,po=some p->p.block<W.heap.size
theorem Bx.below {W W':World} {b:Nat} {m:M} {po:Option Addr} {cap:Nat} (h:Bx W b m po cap) (hb:Below W.heap.size W W'):Bx W' b m po cap :=
 ⟨(hb.block b (zLo h.box)).trans h.box,h.sl.below hb,fun p e=>Nat.lt_of_lt_of_le (h.lt p e) hb.size⟩
theorem Bx.alloc {W:World} {b:Nat} {m:M} {po:Option Addr} {cap:Nat} (h:Bx W b m po cap) (o:Obj):Bx (W.alloc o) b m po cap:=h.below (zAl _ _)
theorem Bx.new {W:World} {base:Nat} {m:M} {po:Option Addr} {cap:Nat} (h:W.ownsRow base 2 1 (.slice po m.out.length cap) m.out.length (outC m.out)):Bx (W.alloc (.cells (cellsM m po cap) 33)) W.heap.size m po cap :=
 ⟨heap_alloc_last W _,(own_sl h rfl).below (zAl _ _),fun p e=>Nat.lt_of_lt_of_le (Runs.own_lt h p e) (by simp)⟩
end Boxs
namespace Runr
open Go.Deep
open Busw Busx Stpp Stpq Stpo Stpt Runp
theorem runV_ok {m:M} {n:Int} (h:¬ (runV m n).2.1=3):okMM m=true/\0<=n/\n<=500/\runV m n=runP n.toNat 0 m:=by
 unfold runV at h |-
 split at h
 ·rename_i h1;exact ⟨h1.1,h1.2.1,h1.2.2,by rw [if_pos h1]⟩
 ·exact absurd rfl h
structure Keep (a b:M):Prop where
 rom:b.rom=a.rom
 out:a.out.length<=b.out.length
theorem Keep.refl (a:M):Keep a a:=⟨rfl,Nat.le_refl _⟩
theorem Keep.trans {a b c:M} (h:Keep a b) (k:Keep b c):Keep a c:=⟨k.rom.trans h.rom,Nat.le_trans h.out k.out⟩
theorem fine_ok {m:M} (h:Fine m):okMM m=true:=ok_of h.1 h.2.1 h.2.2
theorem run_from (k:Nat) (i:Int) (m:M):runP k i m=((runP k 0 m).1,(runP k 0 m).2.1,i+(runP k 0 m).2.2):=by
 induction k generalizing i m with
 | zero=>show (m,0,i)=(m,0,i+0);rw [Int.add_zero]
 | succ k ih =>
  by_cases h:(stepP m).2=0
  ·rw [run_go h,run_go h,ih (i+1),ih (0+1)]
   show (_,_,_)=(_,_,_)
   simp only []
   rw [show i+1+(runP k 0 (stepP m).1).2.2=i+(0+1+(runP k 0 (stepP m).1).2.2) by omega]
  ·rw [run_stop h,run_stop h]
   show (_,_,_)=(_,_,_)
   simp only []
   rw [Int.add_zero]
theorem run_pieces (k j:Nat) (m:M):(¬ (runP k 0 m).2.1=0->runP (k+j) 0 m=runP k 0 m)/\((runP k 0 m).2.1=0->(runP k 0 m).2.2=k/\runP (k+j) 0 m=((runP j 0 (runP k 0 m).1).1,(runP j 0 (runP k 0 m).1).2.1,k+(runP j 0 (runP k 0 m).1).2.2)):=by
 induction k generalizing m with
 | zero =>
  refine ⟨fun h=>absurd rfl h,fun _=>⟨rfl,?_⟩⟩
  rw [Nat.zero_add]
  show runP j 0 m=((runP j 0 m).1,(runP j 0 m).2.1,((0:Nat):Int)+(runP j 0 m).2.2)
  rw [show ((0:Nat):Int)+(runP j 0 m).2.2=(runP j 0 m).2.2 by omega]
 | succ k ih =>
  by_cases h:(stepP m).2=0
  ·have e:runP (k+1) 0 m=((runP k 0 (stepP m).1).1,(runP k 0 (stepP m).1).2.1,0+1+(runP k 0 (stepP m).1).2.2):=by rw [run_go h,run_from]
   have e2:runP (k+1+j) 0 m=((runP (k+j) 0 (stepP m).1).1,(runP (k+j) 0 (stepP m).1).2.1,0+1+(runP (k+j) 0 (stepP m).1).2.2):=by
    rw [show k+1+j=(k+j)+1 by omega,run_go h,run_from]
   obtain ⟨i1,i2⟩:=ih (stepP m).1
   rw [e,e2]
   refine ⟨fun hn=>?_,fun hz=>?_⟩
   ·rw [i1 hn]
   ·obtain ⟨i3,i4⟩:=i2 hz
    refine ⟨by show 0+1+(runP k 0 (stepP m).1).2.2=_;rw [i3];omega,?_⟩
    rw [i4]
    show (_,_,_)=(_,_,_)
    simp only []
    rw [show (0:Int)+1+((k:Int)+(runP j 0 (runP k 0 (stepP m).1).1).2.2)=((k+1:Nat):Int)+(runP j 0 (runP k 0 (stepP m).1).1).2.2 by omega]
  ·have e:runP (k+1) 0 m=(m,(stepP m).2,0):=run_stop h
   have e2:runP (k+1+j) 0 m=(m,(stepP m).2,0):=by rw [show k+1+j=(k+j)+1 by omega];exact run_stop h
   rw [e,e2]
   exact ⟨fun _=>rfl,fun hz=>absurd hz h⟩
theorem pieces {m:M} {n k:Int} (hs:Sm m) (h3:¬ (runV m n).2.1=3) (k0:0<=k) (k1:k<=n):(¬ (runV m k).2.1=0->runV m k=runV m n)/\((runV m k).2.1=0->(runV (runV m k).1 (n-k)).1=(runV m n).1/\(runV (runV m k).1 (n-k)).2.1=(runV m n).2.1/\(runV m k).2.2+(runV (runV m k).1 (n-k)).2.2=(runV m n).2.2):=by
 obtain ⟨hok,n0,n1,e⟩:=runV_ok h3
 have ek:runV m k=runP k.toNat 0 m:=by unfold runV;rw [if_pos ⟨hok,k0,by omega⟩]
 obtain ⟨p1,p2⟩:=run_pieces k.toNat (n-k).toNat m
 rw [show k.toNat+(n-k).toNat=n.toNat by omega] at p1 p2
 rw [e,ek]
 refine ⟨fun h=>(p1 h).symm,fun h=>?_⟩
 obtain ⟨p3,p4⟩:=p2 h
 have hf:Fine (runP k.toNat 0 m).1:=run_fine _ _ _ (good_of hok hs)
 have e2:runV (runP k.toNat 0 m).1 (n-k)=runP (n-k).toNat 0 (runP k.toNat 0 m).1:=by
  unfold runV
  rw [if_pos ⟨fine_ok hf,by omega,by omega⟩]
 rw [e2,p4,p3]
 exact ⟨rfl,rfl,rfl⟩
theorem run_steps (k:Nat) (m:M):0<=(runP k 0 m).2.2/\(runP k 0 m).2.2<=k:=by
 induction k generalizing m with
 | zero=>exact ⟨by show (0:Int)<=0;omega,by show (0:Int)<=_;omega⟩
 | succ k ih =>
  by_cases h:(stepP m).2=0
  ·rw [run_go h,run_from]
   have:=ih (stepP m).1
   show 0<=0+1+(runP k 0 (stepP m).1).2.2/\0+1+(runP k 0 (stepP m).1).2.2<=_
   omega
  ·rw [run_stop h]
   exact ⟨by show (0:Int)<=0;omega,by show (0:Int)<=_;omega⟩
theorem run_bd {m:M} {n:Int} (hs:Sm m) (h3:¬ (runV m n).2.1=3):0<=(runV m n).2.2/\(runV m n).2.2<=500:=by
 obtain ⟨hok,n0,n1,e⟩:=runV_ok h3
 rw [e]
 have:=run_steps n.toNat m
 omega
end Runr
namespace Runi
open Go.Deep
open Signed (inB)
open Busw Busx Busy Stpp Stpq Stpi Stpo Stpl Runp Ista
open MachT (heap_row heap_row_other below_row)
theorem fr_bel {w u u':World} {po:Option Addr} {n:Nat} (h:Below n w u) (hn:n<=u.heap.size) (hf:Fr u u' po) (ho:∀ p,po=some p->n<=p.block):Below n w u' :=
 ⟨hf.os.trans h.os,hf.tape.trans h.tape,hf.output.trans h.output,Nat.le_trans h.size hf.size,fun k hk=>(hf.block k (Nat.lt_of_lt_of_le hk hn) (fun e=>by
  cases po with
  | none=>cases e
  | some p=>have:=ho p rfl;have e2:k=p.block:=Option.some.inj e;omega)).trans (h.block k hk)⟩
theorem fr_box {u u':World} {po:Option Addr} {base n cap B:Nat} {xs:List Value} {cs:Array Value} (hf:Fr u u' po) (ho:u.ownsRow base 2 1 (.slice po n cap) n xs) (hb:u.heap[B]? = some (.cells cs 33)):u'.heap[B]? = some (.cells cs 33) :=
 (hf.block B (zLo hb) (fun e=>row_ne ho hb (by rw [blk_own];exact e.symm))).trans hb
structure Inv (w:World) (B:Nat) (u:World) (mk:M):Prop where
 box:∃ pk ck,u.heap[B]? = some (.cells (cellsM mk pk ck) 33)/\u.ownsRow w.heap.size 2 1 (.slice pk mk.out.length ck) mk.out.length (outC mk.out)
 fine:Fine mk
 res:u.heap[w.heap.size+1]? = some (.cells (cellsM Z0 none 0) 33)
 bel:Below w.heap.size w u
theorem ir_machine (m:M) (po:Option Addr) (cap:Nat) (n:Int) (w:World) (hs:Sm m) (hN:Sl w po m.out cap) (ht:Tb w) (hm:HolI.MaxL w) (hok:okMM m=false) :
  Calls prog 15 #[.agg (cellsM m po cap),.int .i64 n] w (Told3 m n w):=by
 have hz:=zeroM
 have c1:=fun W (h:Sl W po m.out cap)=>implOk_M m po cap W hs h
 have H0:Hid (∀ W,Below w.heap.size w W->Sl W po m.out cap):=fun W h=>hN.below h
 have HS:Hid (Sm m):=hs
 have HT:Hid (Tb w):=ht
 have HX0:Hid (HolI.MaxL w):=hm
 have HBT:Hid (prog.built 33 []=some (cellsM Z0 none 0)):=builtM
 rw [hok] at c1
 have HV:Hid (runV m n=(Z0,3,0)):=by show _=_;unfold runV;rw [if_neg (fun h=>by rw [hok] at h;exact absurd h.1 (by decide))]
 clear hN hs hok ht hm
 obtain ⟨cM,hcM⟩ : ∃ c,c=cellsM m po cap:=⟨_,rfl⟩
 obtain ⟨cZ,hcZ⟩ : ∃ c,c=cellsM Z0 none 0:=⟨_,rfl⟩
 have HM:Hid (cM=cellsM m po cap):=hcM
 have HZ:Hid (cZ=cellsM Z0 none 0):=hcZ
 have HIM:Hid ((prog.info? 33).map (·.size)=some cM.size):=hcM ▸ infoMs m po cap
 have HIZ:Hid ((prog.info? 33).map (·.size)=some cZ.size):=hcZ ▸ infoMs Z0 none 0
 have HOZ:Hid (cZ.all (·.oneCell')=true):=hcZ ▸ one_M Z0 none 0
 rw [<- hcM] at c1 |-
 rw [<- hcZ] at hz HBT
 clear hcM hcZ
 go_enter func15,ntmps15
 go_upto_region 1 with fail
 refine wp_region_list ?_
 have k0:((w.alloc (.cells cM 33)).alloc (.cells cZ 33)).heap[w.heap.size]? = some (.cells cM 33):=by
  rw [Below.heap_alloc _ _ _ (by simp)];exact heap_alloc_last w _
 refine wpList_load_row rfl 33 _ rfl w.heap.size rfl _ _ (0,0) _ k0 underlying33 rfl HIM.out ?_
 clear k0
 go_wp2_with fail
 refine Calls.mono (c1 _ (H0.out _ (by repeat (with_reducible first|exact zRf|refine zGr ?_ _|refine below_drewN ?_ _|refine Below.drew ?_)))) ?_
 rintro e w1 ⟨rfl,hb1⟩
 have HB:Hid (Below w.heap.size w w1):=HolI.after (by repeat (with_reducible first|exact zRf|refine zGr ?_ _|refine below_drewN ?_ _|refine Below.drew ?_)) hb1
 have HK:Hid (w1.heap[w.heap.size]? = some (.cells cM 33)):=by
  have h:=hb1.block w.heap.size (by simp;omega)
  rw [Below.heap_alloc _ _ _ (by simp)] at h
  exact h.trans (heap_alloc_last w _)
 have HR:Hid (w1.heap[w.heap.size+1]? = some (.cells cZ 33)):=by
  have h:=hb1.block (w.heap.size+1) (by simp)
  have h2:=heap_alloc_last (w.alloc (.cells cM 33)) (.cells cZ 33)
  simp only [World.size_alloc] at h2
  exact h.trans h2
 clear hb1 c1
 go_upto_region 2 with fail
 refine wp_region_list ?_
 refine wpList_build0 rfl 33 rfl cZ HBT.out ?_
 refine wpList_store_row rfl 33 _ _ rfl (w.heap.size+1) cZ rfl rfl _ _ HR.out HIZ.out rfl HOZ.out ?_
 have HF:Hid ((w1.setRow (w.heap.size+1) cZ).heap[w.heap.size+1]? = some (.cells cZ 33)):=heap_row HR.out
 have HG:Hid (Below w.heap.size w (w1.setRow (w.heap.size+1) cZ)):=below_row HB.out (by omega)
 go_wp2
 refine bodyPost_ret (v:=.tuple #[.agg cZ,.int .i64 3,.int .i64 0]) (results_three results15 _ _ (w.heap.size+1) _ _ (0,0) _ _ _ rfl rfl rfl HF.out underlying33 rfl HIZ.out) rfl ?_
 refine ⟨⟨none,0,by rw [HV.out,HZ.out],?_⟩,HG.out⟩
 rw [HV.out]
 exact Ista.own_nil _ _ HG.out.size
theorem ir_low (m:M) (po:Option Addr) (cap:Nat) (n:Int) (w:World) (hs:Sm m) (hN:Sl w po m.out cap) (ht:Tb w) (hm:HolI.MaxL w) (hok:okMM m=true) (hn:n<0) :
  Calls prog 15 #[.agg (cellsM m po cap),.int .i64 n] w (Told3 m n w):=by
 have hz:=zeroM
 have c1:=fun W (h:Sl W po m.out cap)=>implOk_M m po cap W hs h
 have H0:Hid (∀ W,Below w.heap.size w W->Sl W po m.out cap):=fun W h=>hN.below h
 have HS:Hid (Sm m):=hs
 have HT:Hid (Tb w):=ht
 have HX0:Hid (HolI.MaxL w):=hm
 have HBT:Hid (prog.built 33 []=some (cellsM Z0 none 0)):=builtM
 rw [hok] at c1
 have HV:Hid (runV m n=(Z0,3,0)):=by show _=_;unfold runV;rw [if_neg (fun h=>by omega)]
 have hd:decide (n<0)=true:=decide_eq_true hn
 clear hN hs hok ht hm
 obtain ⟨cM,hcM⟩ : ∃ c,c=cellsM m po cap:=⟨_,rfl⟩
 obtain ⟨cZ,hcZ⟩ : ∃ c,c=cellsM Z0 none 0:=⟨_,rfl⟩
 have HM:Hid (cM=cellsM m po cap):=hcM
 have HZ:Hid (cZ=cellsM Z0 none 0):=hcZ
 have HIM:Hid ((prog.info? 33).map (·.size)=some cM.size):=hcM ▸ infoMs m po cap
 have HIZ:Hid ((prog.info? 33).map (·.size)=some cZ.size):=hcZ ▸ infoMs Z0 none 0
 have HOZ:Hid (cZ.all (·.oneCell')=true):=hcZ ▸ one_M Z0 none 0
 rw [<- hcM] at c1 |-
 rw [<- hcZ] at hz HBT
 clear hcM hcZ
 go_enter func15,ntmps15
 go_upto_region 1 with fail
 refine wp_region_list ?_
 have k0:((w.alloc (.cells cM 33)).alloc (.cells cZ 33)).heap[w.heap.size]? = some (.cells cM 33):=by
  rw [Below.heap_alloc _ _ _ (by simp)];exact heap_alloc_last w _
 refine wpList_load_row rfl 33 _ rfl w.heap.size rfl _ _ (0,0) _ k0 underlying33 rfl HIM.out ?_
 clear k0
 go_wp2_with fail
 refine Calls.mono (c1 _ (H0.out _ (by repeat (with_reducible first|exact zRf|refine zGr ?_ _|refine below_drewN ?_ _|refine Below.drew ?_)))) ?_
 rintro e w1 ⟨rfl,hb1⟩
 have HB:Hid (Below w.heap.size w w1):=HolI.after (by repeat (with_reducible first|exact zRf|refine zGr ?_ _|refine below_drewN ?_ _|refine Below.drew ?_)) hb1
 have HK:Hid (w1.heap[w.heap.size]? = some (.cells cM 33)):=by
  have h:=hb1.block w.heap.size (by simp;omega)
  rw [Below.heap_alloc _ _ _ (by simp)] at h
  exact h.trans (heap_alloc_last w _)
 have HR:Hid (w1.heap[w.heap.size+1]? = some (.cells cZ 33)):=by
  have h:=hb1.block (w.heap.size+1) (by simp)
  have h2:=heap_alloc_last (w.alloc (.cells cM 33)) (.cells cZ 33)
  simp only [World.size_alloc] at h2
  exact h.trans h2
 clear hb1 c1
 go_upto_region 2 with fail
 refine wp_region_list ?_
 refine wpList_build0 rfl 33 rfl cZ HBT.out ?_
 refine wpList_store_row rfl 33 _ _ rfl (w.heap.size+1) cZ rfl rfl _ _ HR.out HIZ.out rfl HOZ.out ?_
 have HF:Hid ((w1.setRow (w.heap.size+1) cZ).heap[w.heap.size+1]? = some (.cells cZ 33)):=heap_row HR.out
 have HG:Hid (Below w.heap.size w (w1.setRow (w.heap.size+1) cZ)):=below_row HB.out (by omega)
 go_wp2
 refine bodyPost_ret (v:=.tuple #[.agg cZ,.int .i64 3,.int .i64 0]) (results_three results15 _ _ (w.heap.size+1) _ _ (0,0) _ _ _ rfl rfl rfl HF.out underlying33 rfl HIZ.out) rfl ?_
 refine ⟨⟨none,0,by rw [HV.out,HZ.out],?_⟩,HG.out⟩
 rw [HV.out]
 exact Ista.own_nil _ _ HG.out.size
theorem ir_high (m:M) (po:Option Addr) (cap:Nat) (n:Int) (w:World) (hs:Sm m) (hN:Sl w po m.out cap) (ht:Tb w) (hm:HolI.MaxL w) (hok:okMM m=true) (hn:500<n) :
  Calls prog 15 #[.agg (cellsM m po cap),.int .i64 n] w (Told3 m n w):=by
 have hz:=zeroM
 have c1:=fun W (h:Sl W po m.out cap)=>implOk_M m po cap W hs h
 have H0:Hid (∀ W,Below w.heap.size w W->Sl W po m.out cap):=fun W h=>hN.below h
 have HS:Hid (Sm m):=hs
 have HT:Hid (Tb w):=ht
 have HX0:Hid (HolI.MaxL w):=hm
 have HBT:Hid (prog.built 33 []=some (cellsM Z0 none 0)):=builtM
 rw [hok] at c1
 have HV:Hid (runV m n=(Z0,3,0)):=by show _=_;unfold runV;rw [if_neg (fun h=>by omega)]
 have hd:decide (n<0)=false:=decide_eq_false (by omega)
 have hd2:decide (500<n)=true:=decide_eq_true hn
 clear hN hs hok ht hm
 obtain ⟨cM,hcM⟩ : ∃ c,c=cellsM m po cap:=⟨_,rfl⟩
 obtain ⟨cZ,hcZ⟩ : ∃ c,c=cellsM Z0 none 0:=⟨_,rfl⟩
 have HM:Hid (cM=cellsM m po cap):=hcM
 have HZ:Hid (cZ=cellsM Z0 none 0):=hcZ
 have HIM:Hid ((prog.info? 33).map (·.size)=some cM.size):=hcM ▸ infoMs m po cap
 have HIZ:Hid ((prog.info? 33).map (·.size)=some cZ.size):=hcZ ▸ infoMs Z0 none 0
 have HOZ:Hid (cZ.all (·.oneCell')=true):=hcZ ▸ one_M Z0 none 0
 rw [<- hcM] at c1 |-
 rw [<- hcZ] at hz HBT
 clear hcM hcZ
 go_enter func15,ntmps15
 go_upto_region 1 with fail
 refine wp_region_list ?_
 have k0:((w.alloc (.cells cM 33)).alloc (.cells cZ 33)).heap[w.heap.size]? = some (.cells cM 33):=by
  rw [Below.heap_alloc _ _ _ (by simp)];exact heap_alloc_last w _
 refine wpList_load_row rfl 33 _ rfl w.heap.size rfl _ _ (0,0) _ k0 underlying33 rfl HIM.out ?_
 clear k0
 go_wp2_with fail
 refine Calls.mono (c1 _ (H0.out _ (by repeat (with_reducible first|exact zRf|refine zGr ?_ _|refine below_drewN ?_ _|refine Below.drew ?_)))) ?_
 rintro e w1 ⟨rfl,hb1⟩
 have HB:Hid (Below w.heap.size w w1):=HolI.after (by repeat (with_reducible first|exact zRf|refine zGr ?_ _|refine below_drewN ?_ _|refine Below.drew ?_)) hb1
 have HK:Hid (w1.heap[w.heap.size]? = some (.cells cM 33)):=by
  have h:=hb1.block w.heap.size (by simp;omega)
  rw [Below.heap_alloc _ _ _ (by simp)] at h
  exact h.trans (heap_alloc_last w _)
 have HR:Hid (w1.heap[w.heap.size+1]? = some (.cells cZ 33)):=by
  have h:=hb1.block (w.heap.size+1) (by simp)
  have h2:=heap_alloc_last (w.alloc (.cells cM 33)) (.cells cZ 33)
  simp only [World.size_alloc] at h2
  exact h.trans h2
 clear hb1 c1
 go_upto_region 2 with fail
 refine wp_region_list ?_
 refine wpList_build0 rfl 33 rfl cZ HBT.out ?_
 refine wpList_store_row rfl 33 _ _ rfl (w.heap.size+1) cZ rfl rfl _ _ HR.out HIZ.out rfl HOZ.out ?_
 have HF:Hid ((w1.setRow (w.heap.size+1) cZ).heap[w.heap.size+1]? = some (.cells cZ 33)):=heap_row HR.out
 have HG:Hid (Below w.heap.size w (w1.setRow (w.heap.size+1) cZ)):=below_row HB.out (by omega)
 go_wp2
 refine bodyPost_ret (v:=.tuple #[.agg cZ,.int .i64 3,.int .i64 0]) (results_three results15 _ _ (w.heap.size+1) _ _ (0,0) _ _ _ rfl rfl rfl HF.out underlying33 rfl HIZ.out) rfl ?_
 refine ⟨⟨none,0,by rw [HV.out,HZ.out],?_⟩,HG.out⟩
 rw [HV.out]
 exact Ista.own_nil _ _ HG.out.size
theorem ir_main (m:M) (po:Option Addr) (cap:Nat) (n:Int) (w:World) (hs:Sm m) (hN:Sl w po m.out cap) (ht:Tb w) (hm:HolI.MaxL w) (hok:okMM m=true) (hn:0<=n/\n<=500) :
  Calls prog 15 #[.agg (cellsM m po cap),.int .i64 n] w (Told3 m n w):=by
 have hz:=zeroM
 have c1:=fun W (h:Sl W po m.out cap)=>implOk_M m po cap W hs h
 have H0:Hid (∀ W,Below w.heap.size w W->Sl W po m.out cap):=fun W h=>hN.below h
 have HS:Hid (Sm m):=hs
 have HT:Hid (Tb w):=ht
 have HX0:Hid (HolI.MaxL w):=hm
 have HBT:Hid (prog.built 33 []=some (cellsM Z0 none 0)):=builtM
 rw [hok] at c1
 have HGD:Hid (Fine m):=good_of hok hs
 have HLE:Hid (m.out.length<=1048576):=hs.out
 have HV:Hid (runV m n=runP n.toNat 0 m):=by show _=_;unfold runV;rw [if_pos ⟨hok,hn⟩]
 have hd:decide (n<0)=false:=decide_eq_false (by omega)
 have hd2:decide (500<n)=false:=decide_eq_false (by omega)
 clear hN hs hok ht hm
 obtain ⟨cM,hcM⟩ : ∃ c,c=cellsM m po cap:=⟨_,rfl⟩
 obtain ⟨cZ,hcZ⟩ : ∃ c,c=cellsM Z0 none 0:=⟨_,rfl⟩
 have HM:Hid (cM=cellsM m po cap):=hcM
 have HZ:Hid (cZ=cellsM Z0 none 0):=hcZ
 have HIM:Hid ((prog.info? 33).map (·.size)=some cM.size):=hcM ▸ infoMs m po cap
 have HIZ:Hid ((prog.info? 33).map (·.size)=some cZ.size):=hcZ ▸ infoMs Z0 none 0
 have HOZ:Hid (cZ.all (·.oneCell')=true):=hcZ ▸ one_M Z0 none 0
 rw [<- hcM] at c1 |-
 rw [<- hcZ] at hz HBT
 clear hcM hcZ
 go_enter func15,ntmps15
 go_upto_region 1 with fail
 refine wp_region_list ?_
 have k0:((w.alloc (.cells cM 33)).alloc (.cells cZ 33)).heap[w.heap.size]? = some (.cells cM 33):=by
  rw [Below.heap_alloc _ _ _ (by simp)];exact heap_alloc_last w _
 refine wpList_load_row rfl 33 _ rfl w.heap.size rfl _ _ (0,0) _ k0 underlying33 rfl HIM.out ?_
 clear k0
 go_wp2_with fail
 refine Calls.mono (c1 _ (H0.out _ (by repeat (with_reducible first|exact zRf|refine zGr ?_ _|refine below_drewN ?_ _|refine Below.drew ?_)))) ?_
 rintro e w1 ⟨rfl,hb1⟩
 have HB:Hid (Below w.heap.size w w1):=HolI.after (by repeat (with_reducible first|exact zRf|refine zGr ?_ _|refine below_drewN ?_ _|refine Below.drew ?_)) hb1
 have HK:Hid (w1.heap[w.heap.size]? = some (.cells cM 33)):=by
  have h:=hb1.block w.heap.size (by simp;omega)
  rw [Below.heap_alloc _ _ _ (by simp)] at h
  exact h.trans (heap_alloc_last w _)
 have HR:Hid (w1.heap[w.heap.size+1]? = some (.cells cZ 33)):=by
  have h:=hb1.block (w.heap.size+1) (by simp)
  have h2:=heap_alloc_last (w.alloc (.cells cM 33)) (.cells cZ 33)
  simp only [World.size_alloc] at h2
  exact h.trans h2
 clear hb1 c1
 rw [HM.out] at HK
 have q21:w1.cell? ⟨w.heap.size,21,none⟩=some (.slice po m.out.length cap):=celM HK.out 21 _ rfl
 go_upto_region 3 with fail
 go_wp2_with fail
 refine Calls.mono (clone_any po m.out cap w1 (H0.out w1 HB.out) HLE.out) ?_
 rintro e w2 ⟨⟨po',cap',rfl,own⟩,hb2⟩
 have HH:Hid (Held (w2.setCell ⟨w.heap.size,21,none⟩ (.slice po' m.out.length cap')) w.heap.size w.heap.size m po' cap'):=lay HB.out HK.out hb2 own
 have hlt:w.heap.size<w1.heap.size:=(zLo HK.out)
 have hlt1:w.heap.size+1<w1.heap.size:=(zLo HR.out)
 have HZ2:Hid ((w2.setCell ⟨w.heap.size,21,none⟩ (.slice po' m.out.length cap')).heap[w.heap.size+1]? = some (.cells cZ 33)):=by
  show _=_
  rw [Below.heap_setCell _ _ _ _ (by simp),hb2.block _ hlt1];exact HR.out
 have q21':w2.cell? ⟨w.heap.size,21,none⟩=some (.slice po m.out.length cap):=(hb2.cell (p:=⟨w.heap.size,21,none⟩) hlt).trans q21
 have f21':w2.frozen? ⟨w.heap.size,21,none⟩=false:=by
  rw [World.frozen?_of_block (a:=⟨w.heap.size,21,none⟩) (hb2.block w.heap.size hlt)];exact frozen_of_row _ _ _ _ _ HK.out
 have HB3:Hid (Below w.heap.size w (w2.setCell ⟨w.heap.size,21,none⟩ (.slice po' m.out.length cap'))):=(HolI.after HB.out hb2).setCell (Nat.le_refl _) _
 have HI:Hid (Inv w w.heap.size (w2.setCell ⟨w.heap.size,21,none⟩ (.slice po' m.out.length cap')) m) :=
  ⟨⟨po',cap',HH.out.box,HH.out.row⟩,HGD.out,by rw [<- HZ.out];exact HZ2.out,HB3.out⟩
 clear q21 own hb2 hlt hlt1
 go_upto_region 4 with fail
 clear q21' f21' HH HZ2 HB3 HB HR HK
 generalize w2.setCell ⟨w.heap.size,21,none⟩ (.slice po' m.out.length cap')=W3 at *
 obtain ⟨N,hN⟩ : ∃ N:Nat,(N:Int)=n:=⟨n.toNat,by omega⟩
 subst hN
 clear hd hd2
 go_wp2_with fail
 go_loopw [27] (fun i wr=>∃ (k:Nat) (mk:M),k<=N/\i=.int .i64 (k:Int)/\Hid (runP (N-k) k mk=runP N 0 m)/\Hid (Inv w w.heap.size wr mk)) (fun i _=>N-(intOf i).toNat)
 case atStart=>exact ⟨0,m,Nat.zero_le _,rfl,rfl,HI.out⟩
 case round =>
  clear HI
  obtain ⟨k,mk,hk,rfl,HR1,HI1⟩:=hrel
  obtain ⟨⟨pk,ck,hbox,hown⟩,hfine,hres,hbel⟩:=HI1.out
  have HX:Hid (wr.heap[w.heap.size]? = some (.cells (cellsM mk pk ck) 33)/\wr.ownsRow w.heap.size 2 1 (.slice pk mk.out.length ck) mk.out.length (outC mk.out)/\Fine mk/\wr.heap[w.heap.size+1]? = some (.cells (cellsM Z0 none 0) 33)/\Below w.heap.size w wr):=⟨hbox,hown,hfine,hres,hbel⟩
  have HOK:Hid (Ok wr w.heap.size mk pk ck):=⟨hown,hfine.1,hfine.2,HT.out.below hbel,HX0.out.below hbel,⟨(tb_lt HT.out).1,(tb_lt HT.out).2,max_lt HX0.out⟩,hbel.size⟩
  clear hbox hown hfine hres hbel HI1
  by_cases hlt:k<N
  ·go_upto_region 7 with fail
   refine wp_region_list ?_
   refine wpList_load_row rfl 33 _ rfl w.heap.size rfl _ _ (0,0) _ HX.out.1 underlying33 rfl (infoMs _ _ _) ?_
   go_wp2_with fail
   refine Calls.mono (stepped_any mk pk ck w.heap.size wr HOK.out) ?_
   rintro e w2 ⟨p2,c2,rfl,own2,hfr⟩
   obtain ⟨m2,hm2⟩ : ∃ x,x=(stepP mk).1:=⟨_,rfl⟩
   obtain ⟨cd,hcd⟩ : ∃ x,x=(stepP mk).2:=⟨_,rfl⟩
   rw [<- hm2,<- hcd]
   rw [<- hm2] at own2
   have HM2:Hid (m2=(stepP mk).1):=hm2
   have HCD:Hid (cd=(stepP mk).2):=hcd
   have HY2:Hid (w2.heap[w.heap.size]? = some (.cells (cellsM mk pk ck) 33)/\w2.heap[w.heap.size+1]? = some (.cells (cellsM Z0 none 0) 33)/\Below w.heap.size w w2):=⟨fr_box hfr HX.out.2.1 HX.out.1,fr_box hfr HX.out.2.1 HX.out.2.2.2.1,fr_bel HX.out.2.2.2.2 HX.out.2.2.2.2.size hfr (own_at HX.out.2.1)⟩
   have HO2:Hid (w2.ownsRow w.heap.size 2 1 (.slice p2 m2.out.length c2) m2.out.length (outC m2.out)):=own2
   clear hm2 hcd own2 hfr HOK
   rename_i hK
   refine hK _ _ ?_
   clear hK
   refine wpList_plain rfl (fun K hK=>?_)
   go_simp
   refine hK _ _ ?_
   clear hK
   refine wpList_plain rfl (fun K hK=>?_)
   go_simp
   refine hK _ _ ?_
   clear hK
   refine wpList_plain rfl (fun K hK=>?_)
   go_simp
   refine hK _ _ ?_
   clear hK
   refine wpList_plain rfl (fun K hK=>?_)
   go_simp
   refine hK _ _ ?_
   clear hK
   refine wpList_store_row rfl 33 _ _ rfl w2.heap.size (cellsM m2 p2 c2) rfl rfl _ _ (heap_alloc_last w2 _) (infoMs _ _ _) (by rw [HZ.out,size_M,size_M]) (one_M _ _ _) ?_
   rw [World.setRow_alloc_new]
   go_upto_region 8 with fail
   obtain ⟨u2,hu2⟩ : ∃ u,u=w2.alloc (.cells (cellsM m2 p2 c2) 33):=⟨_,rfl⟩
   obtain ⟨B2,hB2⟩ : ∃ b,b=w2.heap.size:=⟨_,rfl⟩
   have HU:Hid (u2.heap[w.heap.size]? = some (.cells (cellsM mk pk ck) 33)/\u2.heap[w.heap.size+1]? = some (.cells (cellsM Z0 none 0) 33)/\Below w.heap.size w u2/\u2.heap[B2]? = some (.cells (cellsM m2 p2 c2) 33)/\u2.ownsRow w.heap.size 2 1 (.slice p2 m2.out.length c2) m2.out.length (outC m2.out)):=by
    obtain ⟨h1,h3,h4⟩:=HY2.out
    rw [hu2,hB2]
    exact ⟨(alloc_kept _ _ (zLo h1)).trans h1,(alloc_kept _ _ (zLo h3)).trans h3,zGr h4 _,heap_alloc_last w2 _,HO2.out.alloc _⟩
   rw [<- hu2,<- hB2]
   clear hu2 hB2 HY2 HO2
   by_cases hz0:cd=0
   ·subst hz0
    go_upto_region 10 with fail
    refine wp_region_list ?_
    refine wpList_load_row rfl 33 _ rfl B2 rfl _ _ (0,0) _ HU.out.2.2.2.1 underlying33 rfl (infoMs _ _ _) ?_
    refine wpList_store_row rfl 33 _ _ rfl w.heap.size _ rfl rfl _ _ HU.out.1 (infoMs _ _ _) (by rw [size_M,size_M]) (one_M _ _ _) ?_
    have HI2:Hid (Inv w w.heap.size (u2.setRow w.heap.size (cellsM m2 p2 c2)) m2):=by
     obtain ⟨h1,h3,h4,h5,h6⟩:=HU.out
     exact ⟨⟨p2,c2,heap_row h1,World.ownsRow.kept (row:=some w.heap.size) h6 (set_row_grown _ _ _) (.inr (row_ne h6 h1))⟩,by rw [HM2.out];exact step_fine HX.out.2.2.1,(heap_row_other (by omega) _).trans h3,below_row h4 (Nat.le_refl _)⟩
    have d1:IntKind.i64.wrap ((k:Int)+1)=(k:Int)+1:=by rw [IntKind.wrap_i64];omega
    go_wp2_with fail
    go_roundw
    case rel =>
     refine ⟨k+1,m2,by omega,by go_num,?_,HI2.out⟩
     show _=_
     have e1:N-k=(N-(k+1))+1:=by omega
     rw [<- HR1.out,e1,run_go HCD.out.symm,HM2.out]
     rfl
    case measure=>simp [intOf];omega
   ·have hne:(cd == 0)=false:=by simpa using hz0
    have HV2:Hid (runV m (N:Int)=(m2,cd,(k:Int))):=by
     show _=_
     have e1:N-k=(N-(k+1))+1:=by omega
     rw [HV.out,Int.toNat_natCast,<- HR1.out,e1,run_stop (by rw [<- HCD.out];exact hz0),HCD.out,HM2.out,step_stays (by rw [<- HCD.out];exact hz0)]
    go_upto_region 9 with fail
    refine wp_region_list ?_
    refine wpList_load_row rfl 33 _ rfl B2 rfl _ _ (0,0) _ HU.out.2.2.2.1 underlying33 rfl (infoMs _ _ _) ?_
    refine wpList_plain rfl (fun K hK=>?_)
    go_simp
    refine hK _ _ ?_
    clear hK
    refine wpList_plain rfl (fun K hK=>?_)
    go_simp
    refine hK _ _ ?_
    clear hK
    refine wpList_store_row rfl 33 _ _ rfl (w.heap.size+1) _ rfl rfl _ _ HU.out.2.1 (infoMs _ _ _) (by rw [size_M,size_M]) (one_M _ _ _) ?_
    have HF:Hid ((u2.setRow (w.heap.size+1) (cellsM m2 p2 c2)).heap[w.heap.size+1]? = some (.cells (cellsM m2 p2 c2) 33)):=heap_row HU.out.2.1
    have HG:Hid (Below w.heap.size w (u2.setRow (w.heap.size+1) (cellsM m2 p2 c2))):=below_row HU.out.2.2.1 (by omega)
    have HOw:Hid ((u2.setRow (w.heap.size+1) (cellsM m2 p2 c2)).ownsRow w.heap.size 2 1 (.slice p2 m2.out.length c2) m2.out.length (outC m2.out)):=World.ownsRow.kept (row:=some (w.heap.size+1)) HU.out.2.2.2.2 (set_row_grown _ _ _) (.inr (row_ne HU.out.2.2.2.2 HU.out.2.1))
    go_wp2
    refine bodyPost_ret (v:=.tuple #[.agg (cellsM m2 p2 c2),.int .i64 cd,.int .i64 (k:Int)]) (results_three results15 _ _ (w.heap.size+1) _ _ (0,0) _ _ _ rfl rfl rfl HF.out underlying33 rfl (infoMs _ _ _)) rfl ?_
    exact ⟨⟨p2,c2,by rw [HV2.out],by rw [HV2.out];exact HOw.out⟩,HG.out⟩
  ·have HV2:Hid (runV m (N:Int)=(mk,0,(N:Int))):=by
    show _=_
    have e:k=N:=by omega
    rw [HV.out,Int.toNat_natCast,<- HR1.out,e,Nat.sub_self];rfl
   go_upto_region 12 with fail
   refine wp_region_list ?_
   refine wpList_load_row rfl 33 _ rfl w.heap.size rfl _ _ (0,0) _ HX.out.1 underlying33 rfl (infoMs _ _ _) ?_
   refine wpList_plain rfl (fun K hK=>?_)
   go_simp
   refine hK _ _ ?_
   clear hK
   refine wpList_store_row rfl 33 _ _ rfl (w.heap.size+1) _ rfl rfl _ _ HX.out.2.2.2.1 (infoMs _ _ _) (by rw [size_M,size_M]) (one_M _ _ _) ?_
   have HF:Hid ((wr.setRow (w.heap.size+1) (cellsM mk pk ck)).heap[w.heap.size+1]? = some (.cells (cellsM mk pk ck) 33)):=heap_row HX.out.2.2.2.1
   have HG:Hid (Below w.heap.size w (wr.setRow (w.heap.size+1) (cellsM mk pk ck))):=below_row HX.out.2.2.2.2 (by omega)
   have HOw:Hid ((wr.setRow (w.heap.size+1) (cellsM mk pk ck)).ownsRow w.heap.size 2 1 (.slice pk mk.out.length ck) mk.out.length (outC mk.out)):=World.ownsRow.kept (row:=some (w.heap.size+1)) HX.out.2.1 (set_row_grown _ _ _) (.inr (row_ne HX.out.2.1 HX.out.2.2.2.1))
   go_wp2
   refine bodyPost_ret (v:=.tuple #[.agg (cellsM mk pk ck),.int .i64 0,.int .i64 (N:Int)]) (results_three results15 _ _ (w.heap.size+1) _ _ (0,0) _ _ _ rfl rfl rfl HF.out underlying33 rfl (infoMs _ _ _)) rfl ?_
   exact ⟨⟨pk,ck,by rw [HV2.out],by rw [HV2.out];exact HOw.out⟩,HG.out⟩
theorem implRun_any (m:M) (po:Option Addr) (cap:Nat) (n:Int) (w:World) (hs:Sm m) (hN:Sl w po m.out cap) (ht:Tb w) (hm:HolI.MaxL w) :
  Calls prog 15 #[.agg (cellsM m po cap),.int .i64 n] w (Told3 m n w):=by
 cases hok:okMM m with
 | false=>exact ir_machine m po cap n w hs hN ht hm hok
 | true =>
  by_cases h1:n<0
  ·exact ir_low m po cap n w hs hN ht hm hok h1
  by_cases h2:500<n
  ·exact ir_high m po cap n w hs hN ht hm hok h2
  ·exact ir_main m po cap n w hs hN ht hm hok ⟨by omega,by omega⟩
end Runi
end Go.Proofs.YtnjolmbdbgbmbaaGreatDoor
