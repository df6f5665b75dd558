import Derived.Test.YtnjolmbdbgbmbaaGreatDoorS40
set_option linter.all false
set_option maxRecDepth 20000
set_option maxHeartbeats 8000000
open Go.ChangeShapes Go.WideShapes Go.ChangeAt Go.RowKit
open Go.Proofs.Tryz
namespace Go.Proofs.YtnjolmbdbgbmbaaGreatDoor
namespace Stdh
open Go.Deep
open Signed (inB sgn ret_int ret_bool)
open Busw Busx Stpp Stpq Stpi Stpj Stpo Stdg
open Ista (stepV)
open MachT (heap_row heap_row_other below_row)
theorem specStep_any (m:M) (po:Option Addr) (cap:Nat) (w:World) (hs:Sm m) (hN:Sl w po m.out cap) (hpo:∀ p,po=some p->p.block<w.heap.size) :
  Calls prog 32 #[.agg (cellsM m po cap)] w (Ista.Told m w):=by
 have hz:=zeroM
 have c1:=fun W (h:Sl W po m.out cap)=>specOk_M m po cap W hs h
 have H0:Hid (∀ W,Below w.heap.size w W->Sl W po m.out cap):=fun W h=>hN.below h
 have HS:Hid (Sm m):=hs
 have HP:Hid (∀ p,po=some p->p.block<w.heap.size):=hpo
 have HBT:Hid (prog.built 33 []=some (cellsM Z0 none 0)):=builtM
 obtain ⟨b,hb⟩ : ∃ x,x=okMM m:=⟨_,rfl⟩
 have HO:Hid (b=okMM m):=hb
 rw [<- hb] at c1
 clear hN hs hb hpo
 obtain ⟨cM,hcM⟩ : ∃ c,c=cellsM m po cap:=⟨_,rfl⟩
 obtain ⟨cZ,hcZ⟩ : ∃ c,c=cellsM Z0 none 0:=⟨_,rfl⟩
 have HM:Hid (cM=cellsM m po cap):=hcM
 have HZ:Hid (cZ=cellsM Z0 none 0):=hcZ
 have HIM:Hid ((prog.info? 33).map (·.size)=some cM.size):=hcM ▸ infoMs m po cap
 have HIZ:Hid ((prog.info? 33).map (·.size)=some cZ.size):=hcZ ▸ infoMs Z0 none 0
 have HOZ:Hid (cZ.all (·.oneCell')=true):=hcZ ▸ one_M Z0 none 0
 rw [<- hcM] at c1 |-
 rw [<- hcZ] at hz HBT
 clear hcM hcZ
 go_enter func32,ntmps32
 go_upto_region 1 with fail
 refine wp_region_list ?_
 have k0:((w.alloc (.cells cM 33)).alloc (.cells cZ 33)).heap[w.heap.size]? = some (.cells cM 33):=by
  rw [Below.heap_alloc _ _ _ (by simp)];exact heap_alloc_last w _
 refine wpList_load_row rfl 33 _ rfl w.heap.size rfl _ _ (0,0) _ k0 underlying33 rfl HIM.out ?_
 clear k0
 go_wp2_with fail
 refine Calls.mono (c1 _ (H0.out _ (by repeat (with_reducible first|exact zRf|refine zGr ?_ _|refine below_drewN ?_ _|refine Below.drew ?_)))) ?_
 rintro e w1 ⟨rfl,hb1⟩
 have HB:Hid (Below w.heap.size w w1):=HolI.after (by repeat (with_reducible first|exact zRf|refine zGr ?_ _|refine below_drewN ?_ _|refine Below.drew ?_)) hb1
 have HK:Hid (w1.heap[w.heap.size]? = some (.cells cM 33)):=by
  have h:=hb1.block w.heap.size (by simp;omega)
  rw [Below.heap_alloc _ _ _ (by simp)] at h
  exact h.trans (heap_alloc_last w _)
 have HR:Hid (w1.heap[w.heap.size+1]? = some (.cells cZ 33)):=by
  have h:=hb1.block (w.heap.size+1) (by simp)
  have h2:=heap_alloc_last (w.alloc (.cells cM 33)) (.cells cZ 33)
  simp only [World.size_alloc] at h2
  exact h.trans h2
 clear hb1 c1
 cases b with
 | false =>
  have HV:Hid (stepV m=(Z0,3)):=by show _=_;unfold stepV;rw [if_neg (by rw [<- HO.out];decide)]
  go_upto_region 2 with fail
  refine wp_region_list ?_
  refine wpList_build0 rfl 33 rfl cZ HBT.out ?_
  refine wpList_store_row rfl 33 _ _ rfl (w.heap.size+1) cZ rfl rfl _ _ HR.out HIZ.out rfl HOZ.out ?_
  have HF:Hid ((w1.setRow (w.heap.size+1) cZ).heap[w.heap.size+1]? = some (.cells cZ 33)):=heap_row HR.out
  have HG:Hid (Below w.heap.size w (w1.setRow (w.heap.size+1) cZ)):=below_row HB.out (by omega)
  go_wp2
  refine bodyPost_ret (v:=.tuple #[.agg cZ,.int .i64 3]) (results_two results32 _ _ (w.heap.size+1) _ _ (0,0) _ _ rfl rfl HF.out underlying33 rfl HIZ.out) rfl ?_
  refine ⟨⟨none,0,by rw [HV.out,HZ.out],?_⟩,HG.out⟩
  rw [HV.out]
  exact Ista.own_nil _ _ HG.out.size
 | true =>
  have HV:Hid (stepV m=stepP m):=by show _=_;unfold stepV;rw [if_pos HO.out.symm]
  have HGD:Hid (Stpq.Good m/\0<=m.cyc/\m.cyc<=1000000000):=good_of HO.out.symm HS.out
  clear HS HBT
  go_upto_region 3 with fail
  refine wp_region_list ?_
  refine wpList_load_row rfl 33 _ rfl w.heap.size rfl _ _ (0,0) _ HK.out underlying33 rfl HIM.out ?_
  go_wp2_with fail
  refine Calls.mono (by rw [HM.out];exact ssS m po cap w1 HGD.out.1 HGD.out.2 (H0.out w1 HB.out) (fun p e=>Nat.lt_of_lt_of_le (HP.out p e) HB.out.size)) ?_
  rintro e w4 ⟨⟨po4,cap4,rfl,own4⟩,hb4⟩
  rw [<- HV.out]
  rw [<- HV.out] at own4
  have HB4:=zHd (HolI.after HB.out hb4)
  have HZ4:Hid (w4.heap[w.heap.size+1]? = some (.cells cZ 33)):=(hb4.block _ (zLo HR.out)).trans HR.out
  have HO4:Hid (w4.ownsRow w.heap.size 2 1 (.slice po4 (stepV m).1.out.length cap4) (stepV m).1.out.length (outC (stepV m).1.out)):=row_own (w':=w4) own4 _ HB.out.size
  clear own4 hb4
  generalize hR:(stepV m).1=R at *
  generalize hC:(stepV m).2=code at *
  rename_i hK
  refine hK _ _ ?_
  clear hK
  refine wpList_plain rfl (fun K hK=>?_)
  go_simp
  refine hK _ _ ?_
  clear hK
  refine wpList_plain rfl (fun K hK=>?_)
  go_simp
  refine hK _ _ ?_
  clear hK
  refine wpList_store_row rfl 33 _ _ rfl (w.heap.size+1) _ rfl rfl _ _ HZ4.out (infoMs _ _ _) (by rw [HZ.out,size_M,size_M]) (one_M _ _ _) ?_
  have HF:Hid ((w4.setRow (w.heap.size+1) (cellsM R po4 cap4)).heap[w.heap.size+1]? = some (.cells (cellsM R po4 cap4) 33)):=heap_row HZ4.out
  have HG:Hid (Below w.heap.size w (w4.setRow (w.heap.size+1) (cellsM R po4 cap4))):=below_row HB4.out (by omega)
  have HOw:Hid ((w4.setRow (w.heap.size+1) (cellsM R po4 cap4)).ownsRow w.heap.size 2 1 (.slice po4 R.out.length cap4) R.out.length (outC R.out)) :=
   World.ownsRow.kept (row:=some (w.heap.size+1)) HO4.out (set_row_grown _ _ _) (.inr (row_ne HO4.out HZ4.out))
  go_wp2
  refine bodyPost_ret (v:=.tuple #[.agg (cellsM R po4 cap4),.int .i64 code]) (results_two results32 _ _ (w.heap.size+1) _ _ (0,0) _ _ rfl rfl HF.out underlying33 rfl (infoMs _ _ _)) rfl ?_
  refine ⟨⟨po4,cap4,by rw [hR,hC],?_⟩,HG.out⟩
  rw [hR]
  exact HOw.out
theorem stepV_len {m:M} (hs:Sm m):(stepV m).1.out.length<=1048576:=by
 unfold stepV
 split
 ·rename_i h
  have hg:=good_of h hs
  unfold stepP
  split
  ·exact hs.out
  split
  ·exact hs.out
  rename_i hn
  have hI:=ins_of m hn
  show (if _ then _ else _:M × Int).1.out.length<=_
  split
  ·exact hs.out
  ·have hG:Stpq.Good (semOf m).1.m:=by
    refine sem_good ?_ _ _ _ hI.cbd.1 hI.cbd.2 hI.iok
    exact good_pc hg.1 _ (by omega) (by omega)
   exact Nat.le_trans hG.rt.out (by decide)
 ·show Z0.out.length<=_
  simp [Z0]
end Stdh
namespace Runp
open Go.Deep
open Busw Busx Stpp Stpq Stpo Stpt
def Fine (m:M):Prop:=Stpq.Good m/\0<=m.cyc/\m.cyc<=1000000000
def runP:Nat->Int->M->M × Int × Int
 | 0,i,m=>(m,0,i)
 | k+1,i,m=>if (stepP m).2=0 then runP k (i+1) (stepP m).1 else (m,(stepP m).2,i)
def runV (m:M) (n:Int):M × Int × Int:=if okMM m=true/\0<=n/\n<=500 then runP n.toNat 0 m else (Z0,3,0)
theorem step_stays {m:M} (h:¬ (stepP m).2=0):(stepP m).1=m:=by
 unfold stepP at h |-
 split
 ·rfl
 split
 ·rfl
 split
 ·rfl
 ·rename_i h1 h2 h3
  rw [if_neg h1,if_neg h2,if_neg h3] at h
  exact absurd rfl h
theorem step_fine {m:M} (h:Fine m):Fine (stepP m).1:=by
 unfold stepP
 split
 ·exact h
 split
 ·exact h
 split
 ·exact h
 ·rename_i h1 h2 h3
  have hI:=ins_of m h2
  have hpc:=h.1.pc
  have hG:Stpq.Good (semOf m).1.m:=by
   refine sem_good ?_ _ _ _ hI.cbd.1 hI.cbd.2 hI.iok
   exact good_pc h.1 _ (by omega) (by omega)
  have hr:=CycX.range (insOf m).1 (insOf m).2.1 (semOf m).2 hI.cbd.1 hI.cbd.2 hI.non
  have hc:¬ 1000000000<cycOf m:=fun e=>h3 (.inr e)
  have h0:0<=cycOf m:=by unfold cycOf;have:=h.2.1;omega
  exact ⟨good_i hG (semOf m).1.m.ime (semOf m).1.m.hal (cycOf m),h0,by show cycOf m<=_;omega⟩
theorem run_fine (k:Nat) (i:Int) (m:M) (h:Fine m):Fine (runP k i m).1:=by
 induction k generalizing i m with
 | zero=>exact h
 | succ k ih =>
  unfold runP
  split
  ·exact ih _ _ (step_fine h)
  ·exact h
def Told3 (m:M) (n:Int) (w:World) (e:Ending) (w':World):Prop:=(∃ po cap,e=.returned (.tuple #[.agg (cellsM (runV m n).1 po cap),.int .i64 (runV m n).2.1,.int .i64 (runV m n).2.2])/\w'.ownsRow w.heap.size 2 1 (.slice po (runV m n).1.out.length cap) (runV m n).1.out.length (outC (runV m n).1.out))/\Below w.heap.size w w'
theorem results_three {P:Program} {fn:Func} {p q r:Tmp} {ty:TypeId} (h:fn.results=#[.cell p ty,.tmp q,.tmp r]) (tmps:Array Value) (w:World) (g:Nat) (t:TypeId) (cs:Array Value) (fr:Nat × Nat) (d:TypeDesc) (v x:Value)
  (hp:tmps.getD p undef=.pointer (some ⟨g,0,none⟩)) (hq:tmps.getD q undef=v) (hr:tmps.getD r undef=x) (hg:w.heap[g]? = some (.cells cs t fr))
  (hu:P.underlying ty=some d) (hd:(match d with|.struct _|.array _ _=>true|_=>false)=true) (hi:(P.info? ty).map (·.size)=some cs.size) :
  (results fn tmps).run P w=.ok (.tuple #[.agg cs,v,x]) w:=by
 have hp':tmps[p]?.getD undef=.pointer (some ⟨g,0,none⟩):=by simpa using hp
 have hq':tmps[q]?.getD undef=v:=by simpa using hq
 have hr':tmps[r]?.getD undef=x:=by simpa using hr
 simp [results,h,hp',hq',hr',asAddr,run_loadVar_row w g t ty cs fr d hg hu hd hi]
theorem run_go {k:Nat} {i:Int} {m:M} (h:(stepP m).2=0):runP (k+1) i m=runP k (i+1) (stepP m).1:=by
 show (if _ then _ else _)=_
 rw [if_pos h]
theorem run_stop {k:Nat} {i:Int} {m:M} (h:¬ (stepP m).2=0):runP (k+1) i m=(m,(stepP m).2,i):=by
 show (if _ then _ else _)=_
 rw [if_neg h]
end Runp
namespace Runs
open Go.Deep
open Signed (inB l1In_any)
open Busw Busx Busy Stpp Stpq Stpo Runp
open MachT (heap_row heap_row_other below_row)
theorem own_lt {w:World} {base n cap:Nat} {po:Option Addr} {xs:List Value} (h:w.ownsRow base 2 1 (.slice po n cap) n xs) (p:Addr) (e:po=some p):p.block<w.heap.size:=by
 subst e
 rcases h.2 with ⟨h,_⟩|⟨g,c,cur,hv,hb,hc,_⟩
 ·cases h
 ·cases hv;exact (zLo hc)
structure Inv (w:World) (B:Nat) (u:World) (mk:M):Prop where
 box:∃ pk ck,u.heap[B]? = some (.cells (cellsM mk pk ck) 33)/\u.ownsRow w.heap.size 2 1 (.slice pk mk.out.length ck) mk.out.length (outC mk.out)
 fine:Fine mk
 res:u.heap[w.heap.size+1]? = some (.cells (cellsM Z0 none 0) 33)
 bel:Below w.heap.size w u
 at_:w.heap.size+1<B
theorem sr_machine (m:M) (po:Option Addr) (cap:Nat) (n:Int) (w:World) (hs:Sm m) (hN:Sl w po m.out cap) (hok:okMM m=false) :
  Calls prog 13 #[.agg (cellsM m po cap),.int .i64 n] w (Told3 m n w):=by
 have hz:=zeroM
 have c1:=fun W (h:Sl W po m.out cap)=>specOk_M m po cap W hs h
 have H0:Hid (∀ W,Below w.heap.size w W->Sl W po m.out cap):=fun W h=>hN.below h
 have HS:Hid (Sm m):=hs
 have HBT:Hid (prog.built 33 []=some (cellsM Z0 none 0)):=builtM
 rw [hok] at c1
 have HV:Hid (runV m n=(Z0,3,0)):=by show _=_;unfold runV;rw [if_neg (fun h=>by rw [hok] at h;exact absurd h.1 (by decide))]
 clear hN hs hok
 obtain ⟨cM,hcM⟩ : ∃ c,c=cellsM m po cap:=⟨_,rfl⟩
 obtain ⟨cZ,hcZ⟩ : ∃ c,c=cellsM Z0 none 0:=⟨_,rfl⟩
 have HM:Hid (cM=cellsM m po cap):=hcM
 have HZ:Hid (cZ=cellsM Z0 none 0):=hcZ
 have HIM:Hid ((prog.info? 33).map (·.size)=some cM.size):=hcM ▸ infoMs m po cap
 have HIZ:Hid ((prog.info? 33).map (·.size)=some cZ.size):=hcZ ▸ infoMs Z0 none 0
 have HOZ:Hid (cZ.all (·.oneCell')=true):=hcZ ▸ one_M Z0 none 0
 rw [<- hcM] at c1 |-
 rw [<- hcZ] at hz HBT
 clear hcM hcZ
 go_enter func13,ntmps13
 go_upto_region 1 with fail
 refine wp_region_list ?_
 have k0:((w.alloc (.cells cM 33)).alloc (.cells cZ 33)).heap[w.heap.size]? = some (.cells cM 33):=by
  rw [Below.heap_alloc _ _ _ (by simp)];exact heap_alloc_last w _
 refine wpList_load_row rfl 33 _ rfl w.heap.size rfl _ _ (0,0) _ k0 underlying33 rfl HIM.out ?_
 clear k0
 go_wp2_with fail
 refine Calls.mono (c1 _ (H0.out _ (by repeat (with_reducible first|exact zRf|refine zGr ?_ _|refine below_drewN ?_ _|refine Below.drew ?_)))) ?_
 rintro e w1 ⟨rfl,hb1⟩
 have HB:Hid (Below w.heap.size w w1):=HolI.after (by repeat (with_reducible first|exact zRf|refine zGr ?_ _|refine below_drewN ?_ _|refine Below.drew ?_)) hb1
 have HK:Hid (w1.heap[w.heap.size]? = some (.cells cM 33)):=by
  have h:=hb1.block w.heap.size (by simp;omega)
  rw [Below.heap_alloc _ _ _ (by simp)] at h
  exact h.trans (heap_alloc_last w _)
 have HR:Hid (w1.heap[w.heap.size+1]? = some (.cells cZ 33)):=by
  have h:=hb1.block (w.heap.size+1) (by simp)
  have h2:=heap_alloc_last (w.alloc (.cells cM 33)) (.cells cZ 33)
  simp only [World.size_alloc] at h2
  exact h.trans h2
 clear hb1 c1
 go_upto_region 2 with fail
 refine wp_region_list ?_
 refine wpList_build0 rfl 33 rfl cZ HBT.out ?_
 refine wpList_store_row rfl 33 _ _ rfl (w.heap.size+1) cZ rfl rfl _ _ HR.out HIZ.out rfl HOZ.out ?_
 have HF:Hid ((w1.setRow (w.heap.size+1) cZ).heap[w.heap.size+1]? = some (.cells cZ 33)):=heap_row HR.out
 have HG:Hid (Below w.heap.size w (w1.setRow (w.heap.size+1) cZ)):=below_row HB.out (by omega)
 go_wp2
 refine bodyPost_ret (v:=.tuple #[.agg cZ,.int .i64 3,.int .i64 0]) (results_three results13 _ _ (w.heap.size+1) _ _ (0,0) _ _ _ rfl rfl rfl HF.out underlying33 rfl HIZ.out) rfl ?_
 refine ⟨⟨none,0,by rw [HV.out,HZ.out],?_⟩,HG.out⟩
 rw [HV.out]
 exact Ista.own_nil _ _ HG.out.size
theorem sr_number (m:M) (po:Option Addr) (cap:Nat) (n:Int) (w:World) (hs:Sm m) (hN:Sl w po m.out cap) (hok:okMM m=true) (hn:¬ (0<=n/\n<=500)) :
  Calls prog 13 #[.agg (cellsM m po cap),.int .i64 n] w (Told3 m n w):=by
 have hz:=zeroM
 have c1:=fun W (h:Sl W po m.out cap)=>specOk_M m po cap W hs h
 have H0:Hid (∀ W,Below w.heap.size w W->Sl W po m.out cap):=fun W h=>hN.below h
 have HS:Hid (Sm m):=hs
 have HBT:Hid (prog.built 33 []=some (cellsM Z0 none 0)):=builtM
 rw [hok] at c1
 have HV:Hid (runV m n=(Z0,3,0)):=by show _=_;unfold runV;rw [if_neg (fun h=>by exact hn h.2)]
 have hq:inB n 0 500=false:=by unfold inB;simp;omega
 have cI:=fun W=>l1In_any n 0 500 W
 rw [hq] at cI
 clear hq hn
 clear hN hs hok
 obtain ⟨cM,hcM⟩ : ∃ c,c=cellsM m po cap:=⟨_,rfl⟩
 obtain ⟨cZ,hcZ⟩ : ∃ c,c=cellsM Z0 none 0:=⟨_,rfl⟩
 have HM:Hid (cM=cellsM m po cap):=hcM
 have HZ:Hid (cZ=cellsM Z0 none 0):=hcZ
 have HIM:Hid ((prog.info? 33).map (·.size)=some cM.size):=hcM ▸ infoMs m po cap
 have HIZ:Hid ((prog.info? 33).map (·.size)=some cZ.size):=hcZ ▸ infoMs Z0 none 0
 have HOZ:Hid (cZ.all (·.oneCell')=true):=hcZ ▸ one_M Z0 none 0
 rw [<- hcM] at c1 |-
 rw [<- hcZ] at hz HBT
 clear hcM hcZ
 go_enter func13,ntmps13
 go_upto_region 1 with fail
 refine wp_region_list ?_
 have k0:((w.alloc (.cells cM 33)).alloc (.cells cZ 33)).heap[w.heap.size]? = some (.cells cM 33):=by
  rw [Below.heap_alloc _ _ _ (by simp)];exact heap_alloc_last w _
 refine wpList_load_row rfl 33 _ rfl w.heap.size rfl _ _ (0,0) _ k0 underlying33 rfl HIM.out ?_
 clear k0
 go_wp2_with fail
 refine Calls.mono (c1 _ (H0.out _ (by repeat (with_reducible first|exact zRf|refine zGr ?_ _|refine below_drewN ?_ _|refine Below.drew ?_)))) ?_
 rintro e w1 ⟨rfl,hb1⟩
 have HB:Hid (Below w.heap.size w w1):=HolI.after (by repeat (with_reducible first|exact zRf|refine zGr ?_ _|refine below_drewN ?_ _|refine Below.drew ?_)) hb1
 have HK:Hid (w1.heap[w.heap.size]? = some (.cells cM 33)):=by
  have h:=hb1.block w.heap.size (by simp;omega)
  rw [Below.heap_alloc _ _ _ (by simp)] at h
  exact h.trans (heap_alloc_last w _)
 have HR:Hid (w1.heap[w.heap.size+1]? = some (.cells cZ 33)):=by
  have h:=hb1.block (w.heap.size+1) (by simp)
  have h2:=heap_alloc_last (w.alloc (.cells cM 33)) (.cells cZ 33)
  simp only [World.size_alloc] at h2
  exact h.trans h2
 clear hb1 c1
 go_upto_region 2 with (go_at_call 43;refine (cI _).mono ?_;rintro e wx ⟨rfl,hwx⟩;rw [hwx];clear hwx wx)
 refine wp_region_list ?_
 refine wpList_build0 rfl 33 rfl cZ HBT.out ?_
 refine wpList_store_row rfl 33 _ _ rfl (w.heap.size+1) cZ rfl rfl _ _ HR.out HIZ.out rfl HOZ.out ?_
 have HF:Hid ((w1.setRow (w.heap.size+1) cZ).heap[w.heap.size+1]? = some (.cells cZ 33)):=heap_row HR.out
 have HG:Hid (Below w.heap.size w (w1.setRow (w.heap.size+1) cZ)):=below_row HB.out (by omega)
 go_wp2
 refine bodyPost_ret (v:=.tuple #[.agg cZ,.int .i64 3,.int .i64 0]) (results_three results13 _ _ (w.heap.size+1) _ _ (0,0) _ _ _ rfl rfl rfl HF.out underlying33 rfl HIZ.out) rfl ?_
 refine ⟨⟨none,0,by rw [HV.out,HZ.out],?_⟩,HG.out⟩
 rw [HV.out]
 exact Ista.own_nil _ _ HG.out.size
theorem sr_main (m:M) (po:Option Addr) (cap:Nat) (n:Int) (w:World) (hs:Sm m) (hN:Sl w po m.out cap) (hok:okMM m=true) (hn:0<=n/\n<=500) :
  Calls prog 13 #[.agg (cellsM m po cap),.int .i64 n] w (Told3 m n w):=by
 have hz:=zeroM
 have c1:=fun W (h:Sl W po m.out cap)=>specOk_M m po cap W hs h
 have H0:Hid (∀ W,Below w.heap.size w W->Sl W po m.out cap):=fun W h=>hN.below h
 have HS:Hid (Sm m):=hs
 have HBT:Hid (prog.built 33 []=some (cellsM Z0 none 0)):=builtM
 rw [hok] at c1
 have HGD:Hid (Fine m):=good_of hok hs
 have HLE:Hid (m.out.length<=1048576):=hs.out
 have HV:Hid (runV m n=runP n.toNat 0 m):=by show _=_;unfold runV;rw [if_pos ⟨hok,hn⟩]
 have hq:inB n 0 500=true:=by unfold inB;simp;omega
 have cI:=fun W=>l1In_any n 0 500 W
 rw [hq] at cI
 clear hq
 clear hN hs hok
 obtain ⟨cM,hcM⟩ : ∃ c,c=cellsM m po cap:=⟨_,rfl⟩
 obtain ⟨cZ,hcZ⟩ : ∃ c,c=cellsM Z0 none 0:=⟨_,rfl⟩
 have HM:Hid (cM=cellsM m po cap):=hcM
 have HZ:Hid (cZ=cellsM Z0 none 0):=hcZ
 have HIM:Hid ((prog.info? 33).map (·.size)=some cM.size):=hcM ▸ infoMs m po cap
 have HIZ:Hid ((prog.info? 33).map (·.size)=some cZ.size):=hcZ ▸ infoMs Z0 none 0
 have HOZ:Hid (cZ.all (·.oneCell')=true):=hcZ ▸ one_M Z0 none 0
 rw [<- hcM] at c1 |-
 rw [<- hcZ] at hz HBT
 clear hcM hcZ
 go_enter func13,ntmps13
 go_upto_region 1 with fail
 refine wp_region_list ?_
 have k0:((w.alloc (.cells cM 33)).alloc (.cells cZ 33)).heap[w.heap.size]? = some (.cells cM 33):=by
  rw [Below.heap_alloc _ _ _ (by simp)];exact heap_alloc_last w _
 refine wpList_load_row rfl 33 _ rfl w.heap.size rfl _ _ (0,0) _ k0 underlying33 rfl HIM.out ?_
 clear k0
 go_wp2_with fail
 refine Calls.mono (c1 _ (H0.out _ (by repeat (with_reducible first|exact zRf|refine zGr ?_ _|refine below_drewN ?_ _|refine Below.drew ?_)))) ?_
 rintro e w1 ⟨rfl,hb1⟩
 have HB:Hid (Below w.heap.size w w1):=HolI.after (by repeat (with_reducible first|exact zRf|refine zGr ?_ _|refine below_drewN ?_ _|refine Below.drew ?_)) hb1
 have HK:Hid (w1.heap[w.heap.size]? = some (.cells cM 33)):=by
  have h:=hb1.block w.heap.size (by simp;omega)
  rw [Below.heap_alloc _ _ _ (by simp)] at h
  exact h.trans (heap_alloc_last w _)
 have HR:Hid (w1.heap[w.heap.size+1]? = some (.cells cZ 33)):=by
  have h:=hb1.block (w.heap.size+1) (by simp)
  have h2:=heap_alloc_last (w.alloc (.cells cM 33)) (.cells cZ 33)
  simp only [World.size_alloc] at h2
  exact h.trans h2
 clear hb1 c1
 go_upto_region 3 with (go_at_call 43;refine (cI _).mono ?_;rintro e wx ⟨rfl,hwx⟩;rw [hwx];clear hwx wx)
 refine wp_region_list ?_
 refine wpList_load_row rfl 33 _ rfl w.heap.size rfl _ _ (0,0) _ HK.out underlying33 rfl HIM.out ?_
 go_wp2_with fail
 refine Calls.mono (by rw [HM.out];exact Busy.copy_any m po cap _ HLE.out (H0.out _ HB.out)) ?_
 rintro e wy ⟨⟨poy,capy,rfl,owny⟩,hby⟩
 have HY:=zHd (HolI.after HB.out hby)
 have HYR:Hid (wy.heap[w.heap.size+1]? = some (.cells cZ 33)):=(hby.block _ (zLo HR.out)).trans HR.out
 have HYO:Hid (wy.ownsRow w.heap.size 2 1 (.slice poy m.out.length capy) m.out.length (outC m.out)):=Stdg.row_own (w':=wy) owny _ HB.out.size
 clear hby owny
 rename_i hK
 refine hK _ _ ?_
 clear hK
 refine wpList_plain rfl (fun K hK=>?_)
 go_simp
 refine hK _ _ ?_
 clear hK
 refine wpList_store_row rfl 33 _ _ rfl wy.heap.size _ rfl rfl _ _ (heap_alloc_last wy _) (infoMs _ _ _) (by rw [HZ.out,size_M,size_M]) (one_M _ _ _) ?_
 rw [World.setRow_alloc_new]
 refine wpList_nil ?_
 obtain ⟨u,hu⟩ : ∃ u,u=wy.alloc (.cells (cellsM m poy capy) 33):=⟨_,rfl⟩
 obtain ⟨B,hB⟩ : ∃ B,B=wy.heap.size:=⟨_,rfl⟩
 have HI:Hid (Inv w B u m):=by
  have hl:=(zLo HYR.out)
  rw [hu,hB]
  exact ⟨⟨poy,capy,heap_alloc_last wy _,HYO.out.alloc _⟩,HGD.out,by rw [alloc_kept _ _ hl,HYR.out,HZ.out],zGr HY.out _,hl⟩
 rw [<- hu,<- hB]
 clear hu hB HYR HYO HY HK HR HB H0
 obtain ⟨N,hN⟩ : ∃ N:Nat,(N:Int)=n:=⟨n.toNat,by omega⟩
 subst hN
 go_wp2_with fail
 go_loopw [8] (fun i wr=>∃ (k:Nat) (mk:M),k<=N/\i=.int .i64 (k:Int)/\Hid (runP (N-k) k mk=runP N 0 m)/\Hid (Inv w B wr mk)) (fun i _=>N-(intOf i).toNat)
 case atStart=>exact ⟨0,m,Nat.zero_le _,rfl,rfl,HI.out⟩
 case round =>
  obtain ⟨k,mk,hk,rfl,HR1,HI1⟩:=hrel
  obtain ⟨⟨pk,ck,hbox,hown⟩,hfine,hres,hbel,hat⟩:=HI1.out
  have HX:Hid (wr.heap[B]? = some (.cells (cellsM mk pk ck) 33)/\wr.ownsRow w.heap.size 2 1 (.slice pk mk.out.length ck) mk.out.length (outC mk.out)/\Fine mk/\wr.heap[w.heap.size+1]? = some (.cells (cellsM Z0 none 0) 33)/\Below w.heap.size w wr/\w.heap.size+1<B):=⟨hbox,hown,hfine,hres,hbel,hat⟩
  clear hbox hown hfine hres hbel hat HI1
  by_cases hlt:k<N
  ·go_upto_region 7 with fail
   refine wp_region_list ?_
   refine wpList_load_row rfl 33 _ rfl B rfl _ _ (0,0) _ HX.out.1 underlying33 rfl (infoMs _ _ _) ?_
   go_wp2_with fail
   refine Calls.mono (Stdg.ssS mk pk ck wr HX.out.2.2.1.1 HX.out.2.2.1.2 (own_sl HX.out.2.1 rfl) (own_lt HX.out.2.1)) ?_
   rintro e w2 ⟨⟨p2,c2,rfl,own2⟩,hb2⟩
   obtain ⟨m2,hm2⟩ : ∃ x,x=(stepP mk).1:=⟨_,rfl⟩
   obtain ⟨cd,hcd⟩ : ∃ x,x=(stepP mk).2:=⟨_,rfl⟩
   rw [<- hm2,<- hcd]
   rw [<- hm2] at own2
   have HM2:Hid (m2=(stepP mk).1):=hm2
   have HCD:Hid (cd=(stepP mk).2):=hcd
   have HY2:Hid (w2.heap[B]? = some (.cells (cellsM mk pk ck) 33)/\w2.ownsRow w.heap.size 2 1 (.slice pk mk.out.length ck) mk.out.length (outC mk.out)/\w2.heap[w.heap.size+1]? = some (.cells (cellsM Z0 none 0) 33)/\Below w.heap.size w w2):=⟨(hb2.block _ (zLo HX.out.1)).trans HX.out.1,Busl.own_stay HX.out.2.1 hb2,(hb2.block _ (zLo HX.out.2.2.2.1)).trans HX.out.2.2.2.1,HolI.after HX.out.2.2.2.2.1 hb2⟩
   have HO2:Hid (w2.ownsRow w.heap.size 2 1 (.slice p2 m2.out.length c2) m2.out.length (outC m2.out)):=Stdg.row_own (w':=w2) own2 _ HX.out.2.2.2.2.1.size
   clear hm2 hcd own2 hb2
   rename_i hK
   refine hK _ _ ?_
   clear hK
   refine wpList_plain rfl (fun K hK=>?_)
   go_simp
   refine hK _ _ ?_
   clear hK
   refine wpList_plain rfl (fun K hK=>?_)
   go_simp
   refine hK _ _ ?_
   clear hK
   refine wpList_plain rfl (fun K hK=>?_)
   go_simp
   refine hK _ _ ?_
   clear hK
   refine wpList_plain rfl (fun K hK=>?_)
   go_simp
   refine hK _ _ ?_
   clear hK
   refine wpList_store_row rfl 33 _ _ rfl w2.heap.size (cellsM m2 p2 c2) rfl rfl _ _ (heap_alloc_last w2 _) (infoMs _ _ _) (by rw [HZ.out,size_M,size_M]) (one_M _ _ _) ?_
   rw [World.setRow_alloc_new]
   go_upto_region 8 with fail
   obtain ⟨u2,hu2⟩ : ∃ u,u=w2.alloc (.cells (cellsM m2 p2 c2) 33):=⟨_,rfl⟩
   obtain ⟨B2,hB2⟩ : ∃ b,b=w2.heap.size:=⟨_,rfl⟩
   have HU:Hid (u2.heap[B]? = some (.cells (cellsM mk pk ck) 33)/\u2.ownsRow w.heap.size 2 1 (.slice pk mk.out.length ck) mk.out.length (outC mk.out)/\u2.heap[w.heap.size+1]? = some (.cells (cellsM Z0 none 0) 33)/\Below w.heap.size w u2/\u2.heap[B2]? = some (.cells (cellsM m2 p2 c2) 33)/\u2.ownsRow w.heap.size 2 1 (.slice p2 m2.out.length c2) m2.out.length (outC m2.out)):=by
    obtain ⟨h1,h2,h3,h4⟩:=HY2.out
    rw [hu2,hB2]
    exact ⟨(alloc_kept _ _ (zLo h1)).trans h1,h2.alloc _,(alloc_kept _ _ (zLo h3)).trans h3,zGr h4 _,heap_alloc_last w2 _,HO2.out.alloc _⟩
   rw [<- hu2,<- hB2]
   clear hu2 hB2 HY2 HO2
   by_cases hz0:cd=0
   ·subst hz0
    go_upto_region 10 with fail
    refine wp_region_list ?_
    refine wpList_load_row rfl 33 _ rfl B2 rfl _ _ (0,0) _ HU.out.2.2.2.2.1 underlying33 rfl (infoMs _ _ _) ?_
    refine wpList_store_row rfl 33 _ _ rfl B _ rfl rfl _ _ HU.out.1 (infoMs _ _ _) (by rw [size_M,size_M]) (one_M _ _ _) ?_
    have HI2:Hid (Inv w B (u2.setRow B (cellsM m2 p2 c2)) m2):=by
     obtain ⟨h1,h2,h3,h4,h5,h6⟩:=HU.out
     have hB:=HX.out.2.2.2.2.2
     exact ⟨⟨p2,c2,heap_row h1,World.ownsRow.kept (row:=some B) h6 (set_row_grown _ _ _) (.inr (row_ne h6 h1))⟩,by rw [HM2.out];exact step_fine HX.out.2.2.1,(heap_row_other (by omega) _).trans h3,below_row h4 (by omega),hB⟩
    have d1:IntKind.i64.wrap ((k:Int)+1)=(k:Int)+1:=by rw [IntKind.wrap_i64];omega
    go_wp2_with fail
    go_roundw
    case rel =>
     refine ⟨k+1,m2,by omega,by go_num,?_,HI2.out⟩
     show _=_
     have e1:N-k=(N-(k+1))+1:=by omega
     rw [<- HR1.out,e1,run_go HCD.out.symm,HM2.out]
     rfl
    case measure=>simp [intOf];omega
   ·have hne:(cd == 0)=false:=by simpa using hz0
    have HV2:Hid (runV m (N:Int)=(mk,cd,(k:Int))):=by
     show _=_
     have e1:N-k=(N-(k+1))+1:=by omega
     rw [HV.out,Int.toNat_natCast,<- HR1.out,e1,run_stop (by rw [<- HCD.out];exact hz0),HCD.out]
    go_upto_region 9 with fail
    refine wp_region_list ?_
    refine wpList_load_row rfl 33 _ rfl B rfl _ _ (0,0) _ HU.out.1 underlying33 rfl (infoMs _ _ _) ?_
    refine wpList_plain rfl (fun K hK=>?_)
    go_simp
    refine hK _ _ ?_
    clear hK
    refine wpList_plain rfl (fun K hK=>?_)
    go_simp
    refine hK _ _ ?_
    clear hK
    refine wpList_store_row rfl 33 _ _ rfl (w.heap.size+1) _ rfl rfl _ _ HU.out.2.2.1 (infoMs _ _ _) (by rw [size_M,size_M]) (one_M _ _ _) ?_
    have HF:Hid ((u2.setRow (w.heap.size+1) (cellsM mk pk ck)).heap[w.heap.size+1]? = some (.cells (cellsM mk pk ck) 33)):=heap_row HU.out.2.2.1
    have HG:Hid (Below w.heap.size w (u2.setRow (w.heap.size+1) (cellsM mk pk ck))):=below_row HU.out.2.2.2.1 (by omega)
    have HOw:Hid ((u2.setRow (w.heap.size+1) (cellsM mk pk ck)).ownsRow w.heap.size 2 1 (.slice pk mk.out.length ck) mk.out.length (outC mk.out)):=World.ownsRow.kept (row:=some (w.heap.size+1)) HU.out.2.1 (set_row_grown _ _ _) (.inr (row_ne HU.out.2.1 HU.out.2.2.1))
    go_wp2
    refine bodyPost_ret (v:=.tuple #[.agg (cellsM mk pk ck),.int .i64 cd,.int .i64 (k:Int)]) (results_three results13 _ _ (w.heap.size+1) _ _ (0,0) _ _ _ rfl rfl rfl HF.out underlying33 rfl (infoMs _ _ _)) rfl ?_
    exact ⟨⟨pk,ck,by rw [HV2.out],by rw [HV2.out];exact HOw.out⟩,HG.out⟩
  ·have HV2:Hid (runV m (N:Int)=(mk,0,(N:Int))):=by
    show _=_
    have e:k=N:=by omega
    rw [HV.out,Int.toNat_natCast,<- HR1.out,e,Nat.sub_self];rfl
   go_upto_region 11 with fail
   refine wp_region_list ?_
   refine wpList_load_row rfl 33 _ rfl B rfl _ _ (0,0) _ HX.out.1 underlying33 rfl (infoMs _ _ _) ?_
   refine wpList_plain rfl (fun K hK=>?_)
   go_simp
   refine hK _ _ ?_
   clear hK
   refine wpList_store_row rfl 33 _ _ rfl (w.heap.size+1) _ rfl rfl _ _ HX.out.2.2.2.1 (infoMs _ _ _) (by rw [size_M,size_M]) (one_M _ _ _) ?_
   have HF:Hid ((wr.setRow (w.heap.size+1) (cellsM mk pk ck)).heap[w.heap.size+1]? = some (.cells (cellsM mk pk ck) 33)):=heap_row HX.out.2.2.2.1
   have HG:Hid (Below w.heap.size w (wr.setRow (w.heap.size+1) (cellsM mk pk ck))):=below_row HX.out.2.2.2.2.1 (by omega)
   have HOw:Hid ((wr.setRow (w.heap.size+1) (cellsM mk pk ck)).ownsRow w.heap.size 2 1 (.slice pk mk.out.length ck) mk.out.length (outC mk.out)):=World.ownsRow.kept (row:=some (w.heap.size+1)) HX.out.2.1 (set_row_grown _ _ _) (.inr (row_ne HX.out.2.1 HX.out.2.2.2.1))
   go_wp2
   refine bodyPost_ret (v:=.tuple #[.agg (cellsM mk pk ck),.int .i64 0,.int .i64 (N:Int)]) (results_three results13 _ _ (w.heap.size+1) _ _ (0,0) _ _ _ rfl rfl rfl HF.out underlying33 rfl (infoMs _ _ _)) rfl ?_
   exact ⟨⟨pk,ck,by rw [HV2.out],by rw [HV2.out];exact HOw.out⟩,HG.out⟩
theorem specRun_any (m:M) (po:Option Addr) (cap:Nat) (n:Int) (w:World) (hs:Sm m) (hN:Sl w po m.out cap) :
  Calls prog 13 #[.agg (cellsM m po cap),.int .i64 n] w (Told3 m n w):=by
 cases hok:okMM m with
 | false=>exact sr_machine m po cap n w hs hN hok
 | true =>
  by_cases hn:0<=n/\n<=500
  ·exact sr_main m po cap n w hs hN hok hn
  ·exact sr_number m po cap n w hs hN hok hn
end Runs
namespace Runq
open Go.Deep
open Signed (inB sgn)
open Busw Busx Stpp Stpq Stpo Stpt Stph Runp
open ReadI (lenC immV)
def newM (rom:ByteArray) (kind:Int):M:=⟨0,0,0,0,0,0,0,0,65534,0,false,false,rom,kind,1,CartN.Z 256,0,false,0,CartN.Z 256,CartN.Z 127,[],0⟩
end Runq
namespace Mnew
open Go.Deep
open Busw (M cellsM cells_def outC)
open Busx Stpp Stpq Runp Runq
open CartN (newB)
theorem sm_fine {m:M} (h:Fine m):Sm m:=⟨h.1.rt.rom,h.1.rt.ram,by rw [h.1.rt.work];decide,by rw [h.1.rt.high];decide,Nat.le_trans h.1.rt.out (by decide)⟩
theorem sm_zero:Sm Z0:=⟨by decide,by decide,by decide,by decide,by decide⟩
theorem sm_run {m:M} {n:Int} (hs:Sm m):Sm (runV m n).1:=by
 unfold runV
 split
 ·rename_i h
  exact sm_fine (run_fine _ _ _ (good_of h.1 hs))
 ·exact sm_zero
def newV (rom:ByteArray) (kind:Int):M:=if newB rom kind=true then newM rom kind else Z0
theorem sm_new (rom:ByteArray) (kind:Int) (h:rom.size<=maxLen):Sm (newV rom kind):=by
 unfold newV
 split
 ·exact ⟨h,by show (CartN.Z 256).size<=_;rw [CartN.Z_size];decide,by show (CartN.Z 256).size<=_;rw [CartN.Z_size];decide,by show (CartN.Z 127).size<=_;rw [CartN.Z_size];decide,by show ([]:List Int).length<=_;decide⟩
 ·exact sm_zero
theorem out_new (rom:ByteArray) (kind:Int):(newV rom kind).out=[]:=by unfold newV;split <;> rfl
theorem specNew_M (rom:ByteArray) (kind:Int) (w:World) (hs:rom.size<=maxLen):Calls prog 27 #[.string rom,.int .i64 kind] w fun e w'=>e=.returned (.tuple #[.agg (cellsM (newV rom kind) none 0),.bool (newB rom kind)])/\Below w.heap.size w w':=by
 cases h:newB rom kind with
 | true =>
  have e:newV rom kind=newM rom kind:=by unfold newV;rw [if_pos h]
  rw [e,cells_def];exact MachN.specM_yes rom kind w hs h
 | false =>
  have e:newV rom kind=Z0:=by unfold newV;rw [if_neg (by rw [h];decide)]
  rw [e,cells_def];exact MachN.specM_no rom kind w hs h
end Mnew
namespace Boxs
open Go.Deep
open Busw (M cellsM cells_def celM outC row_ne alloc_kept)
open Busx Busy Stpp Runp
structure Bx (W:World) (b:Nat) (m:M) (po:Option Addr) (cap:Nat):Prop where
 box:W.heap[b]? = some (.cells (cellsM m po cap) 33)
 sl:Sl W po m.out cap
 lt:∀ p,po=some p->p.block<W.heap.size
theorem Bx.below {W W':World} {b:Nat} {m:M} {po:Option Addr} {cap:Nat} (h:Bx W b m po cap) (hb:Below W.heap.size W W'):Bx W' b m po cap :=
 ⟨(hb.block b (zLo h.box)).trans h.box,h.sl.below hb,fun p e=>Nat.lt_of_lt_of_le (h.lt p e) hb.size⟩
theorem Bx.alloc {W:World} {b:Nat} {m:M} {po:Option Addr} {cap:Nat} (h:Bx W b m po cap) (o:Obj):Bx (W.alloc o) b m po cap:=h.below (zAl _ _)
theorem Bx.new {W:World} {base:Nat} {m:M} {po:Option Addr} {cap:Nat} (h:W.ownsRow base 2 1 (.slice po m.out.length cap) m.out.length (outC m.out)):Bx (W.alloc (.cells (cellsM m po cap) 33)) W.heap.size m po cap :=
 ⟨heap_alloc_last W _,(own_sl h rfl).below (zAl _ _),fun p e=>Nat.lt_of_lt_of_le (Runs.own_lt h p e) (by simp)⟩
theorem Bx.load {W:World} {b:Nat} {m:M} {po:Option Addr} {cap:Nat} (h:Bx W b m po cap):(loadVar 33 ⟨b,0,none⟩).run prog W=.ok (.agg (cellsM m po cap)) W:=run_loadVar_row W b 33 33 _ (0,0) _ h.box underlying33 rfl (infoMs _ _ _)
end Boxs
namespace Runr
open Go.Deep
open Busw Busx Stpp Stpq Stpo Stpt Runp
theorem stepV_ok {m:M} (h:¬ (Ista.stepV m).2=3):okMM m=true/\Ista.stepV m=stepP m:=by
 unfold Ista.stepV at h |-
 split at h
 ·rename_i h1;exact ⟨h1,by rw [if_pos h1]⟩
 ·exact absurd rfl h
structure Keep (a b:M):Prop where
 rom:b.rom=a.rom
 out:a.out.length<=b.out.length
theorem Keep.refl (a:M):Keep a a:=⟨rfl,Nat.le_refl _⟩
theorem Keep.trans {a b c:M} (h:Keep a b) (k:Keep b c):Keep a c:=⟨k.rom.trans h.rom,Nat.le_trans h.out k.out⟩
theorem wr_keep (s:S) (a v:Int):Keep s.m (wr s a v).m:=by
 unfold wr
 cases h:wrM s.m (a%65536) v with
 | none=>exact Keep.refl _
 | some m' =>
  unfold wrM at h
  split at h
  ·cases h;exact ⟨rfl,Nat.le_refl _⟩
  split at h
  ·cases h;exact ⟨rfl,Nat.le_refl _⟩
  split at h
  ·split at h
   ·cases h
   ·cases h;exact ⟨rfl,by show _<=(s.m.out ++ [v]).length;simp⟩
  ·cases h;exact ⟨rfl,Nat.le_refl _⟩
theorem setR_keep (m:M) (n v:Int):Keep m (setR m n v):=by unfold setR;(repeat' split) <;> exact ⟨rfl,Nat.le_refl _⟩
theorem setP_keep (m:M) (n v:Int):Keep m (setP m n v):=by unfold setP;(repeat' split) <;> exact ⟨rfl,Nat.le_refl _⟩
theorem setQ_keep (m:M) (n v:Int):Keep m (setQ m n v):=by
 unfold setQ
 split
 ·exact ⟨rfl,Nat.le_refl _⟩
 ·exact setP_keep _ _ _
theorem put_keep (s:S) (n v:Int):Keep s.m (put s n v).m:=by
 unfold put
 split
 ·exact wr_keep _ _ _
 ·exact setR_keep _ _ _
theorem push_keep (s:S) (v:Int):Keep s.m (push s v).m:=by
 have h:=(wr_keep s (s.m.sp+65535) (v / 256)).trans (wr_keep (wr s (s.m.sp+65535) (v / 256)) (s.m.sp+65534) (v%256))
 exact ⟨h.rom,h.out⟩
theorem call_keep (at_:Int) (s:S):Keep s.m (callE at_ s).m:=⟨(push_keep s s.m.pc).rom,(push_keep s s.m.pc).out⟩
theorem hl_keep (m:M) (p:Int):Keep m (stepHl m p):=by
 unfold stepHl
 split
 ·exact setP_keep _ _ _
 ·exact Keep.refl _
theorem cbE_keep (c:Int) (s:S):Keep s.m (cbE c s).m:=by
 unfold cbE
 split
 ·exact ⟨(put_keep s _ _).rom,(put_keep s _ _).out⟩
 split
 ·exact ⟨rfl,Nat.le_refl _⟩
 split <;> exact put_keep _ _ _
theorem oddE_keep (y:Int) (s:S):Keep s.m (oddE y s).m:=by
 unfold oddE
 repeat' split
 all_goals exact ⟨rfl,Nat.le_refl _⟩
theorem lowE_keep (c imm:Int) (s:S):Keep s.m (lowE c imm s).1.m:=by
 unfold lowE
 split
 ·split
  ·exact (wr_keep s _ _).trans (wr_keep _ _ _)
  split
  ·exact ⟨rfl,Nat.le_refl _⟩
  ·exact Keep.refl _
 split
 ·split
  ·exact setP_keep _ _ _
  ·exact ⟨(setP_keep s.m _ _).rom,(setP_keep s.m _ _).out⟩
 split
 ·split
  ·exact (wr_keep s _ _).trans (hl_keep _ _)
  ·exact Keep.trans (b:={ s.m with ra:=rd s.m (placeOf s.m (c / 8 / 2)) }) ⟨rfl,Nat.le_refl _⟩ (hl_keep _ _)
 split
 ·exact setP_keep _ _ _
 split
 ·exact ⟨(put_keep s _ _).rom,(put_keep s _ _).out⟩
 split
 ·exact ⟨(put_keep s _ _).rom,(put_keep s _ _).out⟩
 split
 ·exact put_keep _ _ _
 ·exact oddE_keep _ _
theorem keep_ite {m:M} {c:Prop} [Decidable c] {a b:S × Bool} (h1:Keep m a.1.m) (h2:Keep m b.1.m):Keep m (if c then a else b).1.m:=by
 by_cases h:c
 ·rw [if_pos h];exact h1
 ·rw [if_neg h];exact h2
theorem topE_keep (c imm:Int) (s:S):Keep s.m (topE c imm s).1.m:=by
 unfold topE
 refine keep_ite (by exact ⟨rfl,Nat.le_refl _⟩) ?_
 refine keep_ite (by exact wr_keep _ _ _) ?_
 refine keep_ite (by exact wr_keep _ _ _) ?_
 refine keep_ite (by exact ⟨rfl,Nat.le_refl _⟩) ?_
 refine keep_ite (by exact ⟨rfl,Nat.le_refl _⟩) ?_
 refine keep_ite (by exact wr_keep _ _ _) ?_
 refine keep_ite (by exact ⟨rfl,Nat.le_refl _⟩) ?_
 refine keep_ite (by exact ⟨rfl,Nat.le_refl _⟩) ?_
 refine keep_ite (by exact ⟨(setP_keep s.m _ _).rom,(setP_keep s.m _ _).out⟩) ?_
 refine keep_ite (by exact ⟨rfl,Nat.le_refl _⟩) ?_
 refine keep_ite (by exact ⟨rfl,Nat.le_refl _⟩) ?_
 refine keep_ite (by exact Keep.trans (b:=popM s.m) ⟨rfl,Nat.le_refl _⟩ (setQ_keep _ _ _)) ?_
 refine keep_ite (by exact push_keep _ _) ?_
 refine keep_ite (by exact ⟨rfl,Nat.le_refl _⟩) ?_
 refine keep_ite (by exact ⟨rfl,Nat.le_refl _⟩) ?_
 refine keep_ite (by exact call_keep _ _) ?_
 refine keep_ite (by exact ⟨rfl,Nat.le_refl _⟩) ?_
 refine keep_ite (by exact call_keep _ _) ?_
 exact Keep.refl _
theorem sem_keep (c:Int) (cb:Bool) (imm:Int) (s:S):Keep s.m (sem c cb imm s).1.m:=by
 unfold sem
 split;exact cbE_keep _ _
 split;exact lowE_keep _ _ _
 split;exact ⟨rfl,Nat.le_refl _⟩
 split;exact put_keep _ _ _
 split;exact ⟨rfl,Nat.le_refl _⟩
 exact topE_keep _ _ _
theorem step_keep (m:M):Keep m (stepP m).1:=by
 unfold stepP
 split;exact Keep.refl _
 split;exact Keep.refl _
 split;exact Keep.refl _
 have h:=sem_keep (insOf m).1 (insOf m).2.1 (insOf m).2.2 ⟨nextOf m,false⟩
 exact ⟨h.rom,h.out⟩
theorem step_go {m:M} (h0:(stepP m).2=0):¬ lenOf m=0/\(stepP m).1=cm (cycOf m) (semOf m).1.m:=by
 unfold stepP at h0 |-
 split at h0
 ·cases h0
 rename_i h1
 rw [if_neg h1]
 split at h0
 ·cases h0
 rename_i h2
 rw [if_neg h2]
 split at h0
 ·cases h0
 rename_i h3
 rw [if_neg h3]
 exact ⟨h2,rfl⟩
theorem step_cyc {m:M} (h0:(stepP m).2=0):m.cyc<(stepP m).1.cyc/\(stepP m).1.cyc<=m.cyc+6:=by
 obtain ⟨h1,h2⟩:=step_go h0
 rw [h2]
 have hI:=ins_of m h1
 have hr:=CycX.range (insOf m).1 (insOf m).2.1 (semOf m).2 hI.cbd.1 hI.cbd.2 hI.non
 show m.cyc<cycOf m/\cycOf m<=m.cyc+6
 unfold cycOf
 omega
theorem fine_ok {m:M} (h:Fine m):okMM m=true:=ok_of h.1 h.2.1 h.2.2
end Runr
end Go.Proofs.YtnjolmbdbgbmbaaGreatDoor
