import Derived.Test.YteglcgnhhoenbaaGreatDoorP39
import Derived.Deep.MidRow
import Derived.TacticsInMore
import Derived.LoopNIn
import Derived.LoopIn
import Derived.Sort.CutIn
set_option linter.all false
set_option maxRecDepth 20000
set_option maxHeartbeats 8000000
open Go.ChangeShapes Go.WideShapes Go.ChangeAt Go.RowKit
open Go.Proofs.Tryz
namespace Go.Proofs.YteglcgnhhoenbaaGreatDoor
namespace Runp
open Go.Deep
open Busw Busx Stpp Stpq Stpo Stpt
def Fine (m:M):Prop:=Stpq.Good m/\0<=m.cyc/\m.cyc<=1000000000
theorem step_stays {m:M} (h:¬ (stepP m).2=0):(stepP m).1=m:=by
 unfold stepP at h |-
 split
 ·rfl
 split
 ·rfl
 split
 ·rfl
 ·rename_i h1 h2 h3
  rw [if_neg h1,if_neg h2,if_neg h3] at h
  exact absurd rfl h
theorem step_fine {m:M} (h:Fine m):Fine (stepP m).1:=by
 unfold stepP
 split
 ·exact h
 split
 ·exact h
 split
 ·exact h
 ·rename_i h1 h2 h3
  have hI:=ins_of m h2
  have hpc:=h.1.pc
  have hG:Stpq.Good (semOf m).1.m:=by
   refine sem_good ?_ _ _ _ hI.cbd.1 hI.cbd.2 hI.iok
   exact good_pc h.1 _ (by omega) (by omega)
  have hr:=CycX.range (insOf m).1 (insOf m).2.1 (semOf m).2 hI.cbd.1 hI.cbd.2 hI.non
  have hc:¬ 1000000000<cycOf m:=fun e=>h3 (.inr e)
  have h0:0<=cycOf m:=by unfold cycOf;have:=h.2.1;omega
  exact ⟨good_i hG (semOf m).1.m.ime (semOf m).1.m.hal (cycOf m),h0,by show cycOf m<=_;omega⟩
theorem results_three {P:Program} {fn:Func} {p q r:Tmp} {ty:TypeId} (h:fn.results=#[.cell p ty,.tmp q,.tmp r]) (tmps:Array Value) (w:World) (g:Nat) (t:TypeId) (cs:Array Value) (fr:Nat × Nat) (d:TypeDesc) (v x:Value)
  (hp:tmps.getD p undef=.pointer (some ⟨g,0,none⟩)) (hq:tmps.getD q undef=v) (hr:tmps.getD r undef=x) (hg:w.heap[g]? = some (.cells cs t fr))
  (hu:P.underlying ty=some d) (hd:(match d with|.struct _|.array _ _=>true|_=>false)=true) (hi:(P.info? ty).map (·.size)=some cs.size) :
  (results fn tmps).run P w=.ok (.tuple #[.agg cs,v,x]) w:=by
 have hp':tmps[p]?.getD undef=.pointer (some ⟨g,0,none⟩):=by simpa using hp
 have hq':tmps[q]?.getD undef=v:=by simpa using hq
 have hr':tmps[r]?.getD undef=x:=by simpa using hr
 simp [results,h,hp',hq',hr',asAddr,run_loadVar_row w g t ty cs fr d hg hu hd hi]
end Runp
namespace Runt
open Go.Deep
open Busw Busx Stpp Stpq Stpo Stpt Runp
def toP (hit:M->Bool):Nat->Int->M->M × Int × Int
 | 0,i,m=>(m,0,i)
 | k+1,i,m=>if (stepP m).2=0 then (if hit (stepP m).1=true then ((stepP m).1,0,i+1) else toP hit k (i+1) (stepP m).1) else (m,(stepP m).2,i)
def toV (hit:M->Bool) (len:Nat) (m:M) (n:Int):M × Int × Int:=if okMM m=true/\len<=20/\0<=n/\n<=500 then toP hit n.toNat 0 m else (Z0,3,0)
theorem to_go {hit:M->Bool} {k:Nat} {i:Int} {m:M} (h:(stepP m).2=0) (hn:hit (stepP m).1=false):toP hit (k+1) i m=toP hit k (i+1) (stepP m).1:=by
 show (if _ then _ else _)=_
 rw [if_pos h,if_neg (by rw [hn];decide)]
theorem to_hit {hit:M->Bool} {k:Nat} {i:Int} {m:M} (h:(stepP m).2=0) (hn:hit (stepP m).1=true):toP hit (k+1) i m=((stepP m).1,0,i+1):=by
 show (if _ then _ else _)=_
 rw [if_pos h,if_pos hn]
theorem to_stop {hit:M->Bool} {k:Nat} {i:Int} {m:M} (h:¬ (stepP m).2=0):toP hit (k+1) i m=(m,(stepP m).2,i):=by
 show (if _ then _ else _)=_
 rw [if_neg h]
theorem to_fine (hit:M->Bool) (k:Nat) (i:Int) (m:M) (h:Fine m):Fine (toP hit k i m).1:=by
 induction k generalizing i m with
 | zero=>exact h
 | succ k ih =>
  unfold toP
  split
  ·split
   ·exact step_fine h
   ·exact ih _ _ (step_fine h)
  ·exact h
theorem toV_len {hit:M->Bool} {len:Nat} {m:M} {n:Int} (hs:Sm m):(toV hit len m n).1.out.length<=1048576:=by
 unfold toV
 split
 ·rename_i h
  exact Nat.le_trans (to_fine _ _ _ _ (good_of h.1 hs)).1.rt.out (by decide)
 ·show Z0.out.length<=_
  simp [Z0]
def ToldT (hit:M->Bool) (len:Nat) (m:M) (n:Int) (w:World) (e:Ending) (w':World):Prop:=(∃ po cap,e=.returned (.tuple #[.agg (cellsM (toV hit len m n).1 po cap),.int .i64 (toV hit len m n).2.1,.int .i64 (toV hit len m n).2.2])/\w'.ownsRow w.heap.size 2 1 (.slice po (toV hit len m n).1.out.length cap) (toV hit len m n).1.out.length (outC (toV hit len m n).1.out))/\Below w.heap.size w w'
end Runt
namespace Plac
open Go.Deep
open Busw Busx Stpq Runp Runt
def place (m:M):Int × Int:=(MachA.seenV m.pc m.bank (Carts.banks m.rom.size),m.pc)
theorem l17At_M (m:M) (po:Option Addr) (cap:Nat) (w:World) (h:Rt m):Calls prog 45 #[.agg (cellsM m po cap)] w fun e w'=>e=.returned (.agg #[.int .i64 (place m).1,.int .i64 (place m).2])/\Below w.heap.size w w':=by
 obtain ⟨n,n0,n1,hn,hb,_,b0,b1,_⟩:=CartM.right m.rom m.kind m.bank m.ram m.rb m.on m.mode h.cart
 rw [cells_def]
 unfold place
 rw [hb]
 exact MachA.l17At_any m.ra m.rf m.rB m.rC m.rD m.rE m.rH m.rL m.sp m.pc m.ime m.hal m.rom m.kind m.bank m.ram m.rb m.on m.mode m.work m.high po m.out cap m.cyc w h.rom h.ram h.cart n hb n0 n1 b0 b1
theorem whereIs_M (m:M) (po:Option Addr) (cap:Nat) (B:Nat) (w:World) (h:Rt m) (hB:w.heap[B]? = some (.cells (cellsM m po cap) 30)):Calls prog 41 #[.pointer (some ⟨B,0,none⟩)] w fun e w'=>e=.returned (.agg #[.int .i64 (place m).1,.int .i64 (place m).2])/\Below w.heap.size w w':=by
 obtain ⟨n,n0,n1,hn,hb,_,b0,b1,_⟩:=CartM.right m.rom m.kind m.bank m.ram m.rb m.on m.mode h.cart
 rw [cells_def] at hB
 unfold place
 rw [hb]
 exact MachA.whereIs_any m.ra m.rf m.rB m.rC m.rD m.rE m.rH m.rL m.sp m.pc m.ime m.hal m.rom m.kind m.bank m.ram m.rb m.on m.mode m.work m.high po m.out cap m.cyc B w hB n n0 n1 hn b0 b1
def Stops (w:World) (a:Option Addr) (L:List (Int × Int)):Prop :=
 L=[] \/ ∃ b off,a=some ⟨b,off,none⟩/\b<w.heap.size/\∀ i (h:i<L.length),w.cell? ⟨b,off+i*2,none⟩=some (.int .i64 L[i].1)/\w.cell? ⟨b,off+i*2+1,none⟩=some (.int .i64 L[i].2)
theorem Stops.below {w w':World} {a:Option Addr} {L:List (Int × Int)} (h:Stops w a L) (hb:Below w.heap.size w w'):Stops w' a L:=by
 rcases h with h|⟨b,off,ha,hl,hc⟩
 ·exact .inl h
 ·refine .inr ⟨b,off,ha,Nat.lt_of_lt_of_le hl hb.size,fun i hi=>?_⟩
  obtain ⟨d0,d1⟩:=hc i hi
  exact ⟨(hb.cell (p:=⟨b,_,none⟩) hl).trans d0,(hb.cell (p:=⟨b,_,none⟩) hl).trans d1⟩
def hitS (L:List (Int × Int)) (m:M):Bool:=L.any (fun s=>s == place m)
theorem hit_no {L:List (Int × Int)} {m:M} (h:∀ i (hi:i<L.length),L[i] ≠ place m):hitS L m=false:=by
 unfold hitS
 rw [List.any_eq_false]
 intro s hs
 obtain ⟨i,hi,rfl⟩:=List.getElem_of_mem hs
 simpa using h i hi
theorem hit_yes {L:List (Int × Int)} {m:M} (i:Nat) (hi:i<L.length) (h:L[i]=place m):hitS L m=true:=by
 unfold hitS
 rw [List.any_eq_true]
 exact ⟨L[i],List.getElem_mem hi,by simpa using h⟩
end Plac
namespace Runv
open Go.Deep
open Signed (inB l1In_any)
open Busw Busx Busy Stpp Stpq Stpo Runp Runt Plac
open MachT (heap_row heap_row_other below_row)
theorem own_lt {w:World} {base n cap:Nat} {po:Option Addr} {xs:List Value} (h:w.ownsRow base 2 1 (.slice po n cap) n xs) (p:Addr) (e:po=some p):p.block<w.heap.size:=by
 subst e
 rcases h.2 with ⟨h,_⟩|⟨g,c,cur,hv,hb,hc,_⟩
 ·cases h
 ·cases hv;exact (zLo hc)
structure Inv (w:World) (B:Nat) (u:World) (mk:M):Prop where
 box:∃ pk ck,u.heap[B]? = some (.cells (cellsM mk pk ck) 30)/\u.ownsRow w.heap.size 2 1 (.slice pk mk.out.length ck) mk.out.length (outC mk.out)
 fine:Fine mk
 res:u.heap[w.heap.size+1]? = some (.cells (cellsM Z0 none 0) 30)
 bel:Below w.heap.size w u
 at_:w.heap.size+1<B
theorem rt_machine (hit:M->Bool) (sa:Option Addr) (sl sc:Nat) (m:M) (po:Option Addr) (cap:Nat) (n:Int) (w:World) (hsl:sl<=maxLen) (hs:Sm m) (hN:Sl w po m.out cap) (hok:okMM m=false) :
  Calls prog 10 #[.agg (cellsM m po cap),.slice sa sl sc,.int .i64 n] w (ToldT hit sl m n w):=by
 have hz:=zeroM
 have c1:=fun W (h:Sl W po m.out cap)=>specOk_M m po cap W hs h
 have H0:Hid (∀ W,Below w.heap.size w W->Sl W po m.out cap):=fun W h=>hN.below h
 have HS:Hid (Sm m):=hs
 have HBT:Hid (prog.built 30 []=some (cellsM Z0 none 0)):=builtM
 rw [hok] at c1
 have HV:Hid (toV hit sl m n=(Z0,3,0)):=by show _=_;unfold toV;rw [if_neg (fun h=>by rw [hok] at h;exact absurd h.1 (by decide))]
 clear hN hs hok
 obtain ⟨cM,hcM⟩ : ∃ c,c=cellsM m po cap:=⟨_,rfl⟩
 obtain ⟨cZ,hcZ⟩ : ∃ c,c=cellsM Z0 none 0:=⟨_,rfl⟩
 have HM:Hid (cM=cellsM m po cap):=hcM
 have HZ:Hid (cZ=cellsM Z0 none 0):=hcZ
 have HIM:Hid ((prog.info? 30).map (·.size)=some cM.size):=hcM ▸ infoMs m po cap
 have HIZ:Hid ((prog.info? 30).map (·.size)=some cZ.size):=hcZ ▸ infoMs Z0 none 0
 have HOZ:Hid (cZ.all (·.oneCell')=true):=hcZ ▸ one_M Z0 none 0
 rw [<- hcM] at c1 |-
 rw [<- hcZ] at hz HBT
 clear hcM hcZ
 go_enter func10,ntmps10
 go_upto_region 1 with fail
 refine wp_region_list ?_
 have k0:((w.alloc (.cells cM 30)).alloc (.cells cZ 30)).heap[w.heap.size]? = some (.cells cM 30):=by
  rw [Below.heap_alloc _ _ _ (by simp)];exact heap_alloc_last w _
 refine wpList_load_row rfl 30 _ rfl w.heap.size rfl _ _ (0,0) _ k0 underlying30 rfl HIM.out ?_
 clear k0
 go_wp2_with fail
 refine Calls.mono (c1 _ (H0.out _ (by repeat (with_reducible first|exact zRf|refine zGr ?_ _|refine below_drewN ?_ _|refine Below.drew ?_)))) ?_
 rintro e w1 ⟨rfl,hb1⟩
 have HB:Hid (Below w.heap.size w w1):=HolI.after (by repeat (with_reducible first|exact zRf|refine zGr ?_ _|refine below_drewN ?_ _|refine Below.drew ?_)) hb1
 have HK:Hid (w1.heap[w.heap.size]? = some (.cells cM 30)):=by
  have h:=hb1.block w.heap.size (by simp;omega)
  rw [Below.heap_alloc _ _ _ (by simp)] at h
  exact h.trans (heap_alloc_last w _)
 have HR:Hid (w1.heap[w.heap.size+1]? = some (.cells cZ 30)):=by
  have h:=hb1.block (w.heap.size+1) (by simp)
  have h2:=heap_alloc_last (w.alloc (.cells cM 30)) (.cells cZ 30)
  simp only [World.size_alloc] at h2
  exact h.trans h2
 clear hb1 c1
 go_upto_region 2 with fail
 refine wp_region_list ?_
 refine wpList_build0 rfl 30 rfl cZ HBT.out ?_
 refine wpList_store_row rfl 30 _ _ rfl (w.heap.size+1) cZ rfl rfl _ _ HR.out HIZ.out rfl HOZ.out ?_
 have HF:Hid ((w1.setRow (w.heap.size+1) cZ).heap[w.heap.size+1]? = some (.cells cZ 30)):=heap_row HR.out
 have HG:Hid (Below w.heap.size w (w1.setRow (w.heap.size+1) cZ)):=below_row HB.out (by omega)
 go_wp2
 refine bodyPost_ret (v:=.tuple #[.agg cZ,.int .i64 3,.int .i64 0]) (results_three results10 _ _ (w.heap.size+1) _ _ (0,0) _ _ _ rfl rfl rfl HF.out underlying30 rfl HIZ.out) rfl ?_
 refine ⟨⟨none,0,by rw [HV.out,HZ.out],?_⟩,HG.out⟩
 rw [HV.out]
 exact Ista.own_nil _ _ HG.out.size
theorem rt_stops (hit:M->Bool) (sa:Option Addr) (sl sc:Nat) (m:M) (po:Option Addr) (cap:Nat) (n:Int) (w:World) (hsl:sl<=maxLen) (hs:Sm m) (hN:Sl w po m.out cap) (hok:okMM m=true) (hn:20<sl) :
  Calls prog 10 #[.agg (cellsM m po cap),.slice sa sl sc,.int .i64 n] w (ToldT hit sl m n w):=by
 have hz:=zeroM
 have c1:=fun W (h:Sl W po m.out cap)=>specOk_M m po cap W hs h
 have H0:Hid (∀ W,Below w.heap.size w W->Sl W po m.out cap):=fun W h=>hN.below h
 have HS:Hid (Sm m):=hs
 have HBT:Hid (prog.built 30 []=some (cellsM Z0 none 0)):=builtM
 rw [hok] at c1
 have HV:Hid (toV hit sl m n=(Z0,3,0)):=by show _=_;unfold toV;rw [if_neg (fun h=>by have:=h.2.1;omega)]
 have hq:decide ((20:Int)<(sl:Int))=true:=decide_eq_true (by omega)
 clear hn
 clear hN hs hok
 obtain ⟨cM,hcM⟩ : ∃ c,c=cellsM m po cap:=⟨_,rfl⟩
 obtain ⟨cZ,hcZ⟩ : ∃ c,c=cellsM Z0 none 0:=⟨_,rfl⟩
 have HM:Hid (cM=cellsM m po cap):=hcM
 have HZ:Hid (cZ=cellsM Z0 none 0):=hcZ
 have HIM:Hid ((prog.info? 30).map (·.size)=some cM.size):=hcM ▸ infoMs m po cap
 have HIZ:Hid ((prog.info? 30).map (·.size)=some cZ.size):=hcZ ▸ infoMs Z0 none 0
 have HOZ:Hid (cZ.all (·.oneCell')=true):=hcZ ▸ one_M Z0 none 0
 rw [<- hcM] at c1 |-
 rw [<- hcZ] at hz HBT
 clear hcM hcZ
 go_enter func10,ntmps10
 go_upto_region 1 with fail
 refine wp_region_list ?_
 have k0:((w.alloc (.cells cM 30)).alloc (.cells cZ 30)).heap[w.heap.size]? = some (.cells cM 30):=by
  rw [Below.heap_alloc _ _ _ (by simp)];exact heap_alloc_last w _
 refine wpList_load_row rfl 30 _ rfl w.heap.size rfl _ _ (0,0) _ k0 underlying30 rfl HIM.out ?_
 clear k0
 go_wp2_with fail
 refine Calls.mono (c1 _ (H0.out _ (by repeat (with_reducible first|exact zRf|refine zGr ?_ _|refine below_drewN ?_ _|refine Below.drew ?_)))) ?_
 rintro e w1 ⟨rfl,hb1⟩
 have HB:Hid (Below w.heap.size w w1):=HolI.after (by repeat (with_reducible first|exact zRf|refine zGr ?_ _|refine below_drewN ?_ _|refine Below.drew ?_)) hb1
 have HK:Hid (w1.heap[w.heap.size]? = some (.cells cM 30)):=by
  have h:=hb1.block w.heap.size (by simp;omega)
  rw [Below.heap_alloc _ _ _ (by simp)] at h
  exact h.trans (heap_alloc_last w _)
 have HR:Hid (w1.heap[w.heap.size+1]? = some (.cells cZ 30)):=by
  have h:=hb1.block (w.heap.size+1) (by simp)
  have h2:=heap_alloc_last (w.alloc (.cells cM 30)) (.cells cZ 30)
  simp only [World.size_alloc] at h2
  exact h.trans h2
 clear hb1 c1
 go_upto_region 2 with fail
 refine wp_region_list ?_
 refine wpList_build0 rfl 30 rfl cZ HBT.out ?_
 refine wpList_store_row rfl 30 _ _ rfl (w.heap.size+1) cZ rfl rfl _ _ HR.out HIZ.out rfl HOZ.out ?_
 have HF:Hid ((w1.setRow (w.heap.size+1) cZ).heap[w.heap.size+1]? = some (.cells cZ 30)):=heap_row HR.out
 have HG:Hid (Below w.heap.size w (w1.setRow (w.heap.size+1) cZ)):=below_row HB.out (by omega)
 go_wp2
 refine bodyPost_ret (v:=.tuple #[.agg cZ,.int .i64 3,.int .i64 0]) (results_three results10 _ _ (w.heap.size+1) _ _ (0,0) _ _ _ rfl rfl rfl HF.out underlying30 rfl HIZ.out) rfl ?_
 refine ⟨⟨none,0,by rw [HV.out,HZ.out],?_⟩,HG.out⟩
 rw [HV.out]
 exact Ista.own_nil _ _ HG.out.size
theorem rt_number (hit:M->Bool) (sa:Option Addr) (sl sc:Nat) (m:M) (po:Option Addr) (cap:Nat) (n:Int) (w:World) (hsl:sl<=maxLen) (hs:Sm m) (hN:Sl w po m.out cap) (hok:okMM m=true) (hn20:sl<=20) (hn:¬ (0<=n/\n<=500)) :
  Calls prog 10 #[.agg (cellsM m po cap),.slice sa sl sc,.int .i64 n] w (ToldT hit sl m n w):=by
 have hz:=zeroM
 have c1:=fun W (h:Sl W po m.out cap)=>specOk_M m po cap W hs h
 have H0:Hid (∀ W,Below w.heap.size w W->Sl W po m.out cap):=fun W h=>hN.below h
 have HS:Hid (Sm m):=hs
 have HBT:Hid (prog.built 30 []=some (cellsM Z0 none 0)):=builtM
 rw [hok] at c1
 have HV:Hid (toV hit sl m n=(Z0,3,0)):=by show _=_;unfold toV;rw [if_neg (fun h=>by exact hn h.2.2)]
 have hq20:decide ((20:Int)<(sl:Int))=false:=decide_eq_false (by omega)
 have hq:inB n 0 500=false:=by unfold inB;simp;omega
 have cI:=fun W=>l1In_any n 0 500 W
 rw [hq] at cI
 clear hq hn hn20
 clear hN hs hok
 obtain ⟨cM,hcM⟩ : ∃ c,c=cellsM m po cap:=⟨_,rfl⟩
 obtain ⟨cZ,hcZ⟩ : ∃ c,c=cellsM Z0 none 0:=⟨_,rfl⟩
 have HM:Hid (cM=cellsM m po cap):=hcM
 have HZ:Hid (cZ=cellsM Z0 none 0):=hcZ
 have HIM:Hid ((prog.info? 30).map (·.size)=some cM.size):=hcM ▸ infoMs m po cap
 have HIZ:Hid ((prog.info? 30).map (·.size)=some cZ.size):=hcZ ▸ infoMs Z0 none 0
 have HOZ:Hid (cZ.all (·.oneCell')=true):=hcZ ▸ one_M Z0 none 0
 rw [<- hcM] at c1 |-
 rw [<- hcZ] at hz HBT
 clear hcM hcZ
 go_enter func10,ntmps10
 go_upto_region 1 with fail
 refine wp_region_list ?_
 have k0:((w.alloc (.cells cM 30)).alloc (.cells cZ 30)).heap[w.heap.size]? = some (.cells cM 30):=by
  rw [Below.heap_alloc _ _ _ (by simp)];exact heap_alloc_last w _
 refine wpList_load_row rfl 30 _ rfl w.heap.size rfl _ _ (0,0) _ k0 underlying30 rfl HIM.out ?_
 clear k0
 go_wp2_with fail
 refine Calls.mono (c1 _ (H0.out _ (by repeat (with_reducible first|exact zRf|refine zGr ?_ _|refine below_drewN ?_ _|refine Below.drew ?_)))) ?_
 rintro e w1 ⟨rfl,hb1⟩
 have HB:Hid (Below w.heap.size w w1):=HolI.after (by repeat (with_reducible first|exact zRf|refine zGr ?_ _|refine below_drewN ?_ _|refine Below.drew ?_)) hb1
 have HK:Hid (w1.heap[w.heap.size]? = some (.cells cM 30)):=by
  have h:=hb1.block w.heap.size (by simp;omega)
  rw [Below.heap_alloc _ _ _ (by simp)] at h
  exact h.trans (heap_alloc_last w _)
 have HR:Hid (w1.heap[w.heap.size+1]? = some (.cells cZ 30)):=by
  have h:=hb1.block (w.heap.size+1) (by simp)
  have h2:=heap_alloc_last (w.alloc (.cells cM 30)) (.cells cZ 30)
  simp only [World.size_alloc] at h2
  exact h.trans h2
 clear hb1 c1
 go_upto_region 2 with (go_at_call 42;refine (cI _).mono ?_;rintro e wx ⟨rfl,hwx⟩;rw [hwx];clear hwx wx)
 refine wp_region_list ?_
 refine wpList_build0 rfl 30 rfl cZ HBT.out ?_
 refine wpList_store_row rfl 30 _ _ rfl (w.heap.size+1) cZ rfl rfl _ _ HR.out HIZ.out rfl HOZ.out ?_
 have HF:Hid ((w1.setRow (w.heap.size+1) cZ).heap[w.heap.size+1]? = some (.cells cZ 30)):=heap_row HR.out
 have HG:Hid (Below w.heap.size w (w1.setRow (w.heap.size+1) cZ)):=below_row HB.out (by omega)
 go_wp2
 refine bodyPost_ret (v:=.tuple #[.agg cZ,.int .i64 3,.int .i64 0]) (results_three results10 _ _ (w.heap.size+1) _ _ (0,0) _ _ _ rfl rfl rfl HF.out underlying30 rfl HIZ.out) rfl ?_
 refine ⟨⟨none,0,by rw [HV.out,HZ.out],?_⟩,HG.out⟩
 rw [HV.out]
 exact Ista.own_nil _ _ HG.out.size
theorem rt_main (L:List (Int × Int)) (sa:Option Addr) (sl sc:Nat) (m:M) (po:Option Addr) (cap:Nat) (n:Int) (w:World) (hsl:sl<=maxLen) (hs:Sm m) (hN:Sl w po m.out cap) (hok:okMM m=true) (hn20:sl<=20) (hn:0<=n/\n<=500) (hL:L.length=sl) (hSt:Plac.Stops w sa L) :
  Calls prog 10 #[.agg (cellsM m po cap),.slice sa sl sc,.int .i64 n] w (ToldT (hitS L) sl m n w):=by
 have hz:=zeroM
 have c1:=fun W (h:Sl W po m.out cap)=>specOk_M m po cap W hs h
 have H0:Hid (∀ W,Below w.heap.size w W->Sl W po m.out cap):=fun W h=>hN.below h
 have HS:Hid (Sm m):=hs
 have HBT:Hid (prog.built 30 []=some (cellsM Z0 none 0)):=builtM
 rw [hok] at c1
 have HGD:Hid (Fine m):=good_of hok hs
 have HLE:Hid (m.out.length<=1048576):=hs.out
 have HST:Hid (L.length=sl/\Plac.Stops w sa L):=⟨hL,hSt⟩
 have HV:Hid (toV (hitS L) sl m n=toP (hitS L) n.toNat 0 m):=by show _=_;unfold toV;rw [if_pos ⟨hok,hn20,hn⟩]
 have hq:inB n 0 500=true:=by unfold inB;simp;omega
 have hq20:decide ((20:Int)<(sl:Int))=false:=decide_eq_false (by omega)
 have cI:=fun W=>l1In_any n 0 500 W
 rw [hq] at cI
 clear hq hSt hL
 clear hN hs hok
 obtain ⟨cM,hcM⟩ : ∃ c,c=cellsM m po cap:=⟨_,rfl⟩
 obtain ⟨cZ,hcZ⟩ : ∃ c,c=cellsM Z0 none 0:=⟨_,rfl⟩
 have HM:Hid (cM=cellsM m po cap):=hcM
 have HZ:Hid (cZ=cellsM Z0 none 0):=hcZ
 have HIM:Hid ((prog.info? 30).map (·.size)=some cM.size):=hcM ▸ infoMs m po cap
 have HIZ:Hid ((prog.info? 30).map (·.size)=some cZ.size):=hcZ ▸ infoMs Z0 none 0
 have HOZ:Hid (cZ.all (·.oneCell')=true):=hcZ ▸ one_M Z0 none 0
 rw [<- hcM] at c1 |-
 rw [<- hcZ] at hz HBT
 clear hcM hcZ
 go_enter func10,ntmps10
 go_upto_region 1 with fail
 refine wp_region_list ?_
 have k0:((w.alloc (.cells cM 30)).alloc (.cells cZ 30)).heap[w.heap.size]? = some (.cells cM 30):=by
  rw [Below.heap_alloc _ _ _ (by simp)];exact heap_alloc_last w _
 refine wpList_load_row rfl 30 _ rfl w.heap.size rfl _ _ (0,0) _ k0 underlying30 rfl HIM.out ?_
 clear k0
 go_wp2_with fail
 refine Calls.mono (c1 _ (H0.out _ (by repeat (with_reducible first|exact zRf|refine zGr ?_ _|refine below_drewN ?_ _|refine Below.drew ?_)))) ?_
 rintro e w1 ⟨rfl,hb1⟩
 have HB:Hid (Below w.heap.size w w1):=HolI.after (by repeat (with_reducible first|exact zRf|refine zGr ?_ _|refine below_drewN ?_ _|refine Below.drew ?_)) hb1
 have HK:Hid (w1.heap[w.heap.size]? = some (.cells cM 30)):=by
  have h:=hb1.block w.heap.size (by simp;omega)
  rw [Below.heap_alloc _ _ _ (by simp)] at h
  exact h.trans (heap_alloc_last w _)
 have HR:Hid (w1.heap[w.heap.size+1]? = some (.cells cZ 30)):=by
  have h:=hb1.block (w.heap.size+1) (by simp)
  have h2:=heap_alloc_last (w.alloc (.cells cM 30)) (.cells cZ 30)
  simp only [World.size_alloc] at h2
  exact h.trans h2
 clear hb1 c1
 go_upto_region 3 with (go_at_call 42;refine (cI _).mono ?_;rintro e wx ⟨rfl,hwx⟩;rw [hwx];clear hwx wx)
 refine wp_region_list ?_
 refine wpList_load_row rfl 30 _ rfl w.heap.size rfl _ _ (0,0) _ HK.out underlying30 rfl HIM.out ?_
 go_wp2_with fail
 refine Calls.mono (by rw [HM.out];exact Busy.copy_any m po cap _ HLE.out (H0.out _ HB.out)) ?_
 rintro e wy ⟨⟨poy,capy,rfl,owny⟩,hby⟩
 have HY:=zHd (HolI.after HB.out hby)
 have HYR:Hid (wy.heap[w.heap.size+1]? = some (.cells cZ 30)):=(hby.block _ (zLo HR.out)).trans HR.out
 have HYO:Hid (wy.ownsRow w.heap.size 2 1 (.slice poy m.out.length capy) m.out.length (outC m.out)):=Stdg.row_own (w':=wy) owny _ HB.out.size
 clear hby owny
 rename_i hK
 refine hK _ _ ?_
 clear hK
 refine wpList_plain rfl (fun K hK=>?_)
 go_simp
 refine hK _ _ ?_
 clear hK
 refine wpList_store_row rfl 30 _ _ rfl wy.heap.size _ rfl rfl _ _ (heap_alloc_last wy _) (infoMs _ _ _) (by rw [HZ.out,size_M,size_M]) (one_M _ _ _) ?_
 rw [World.setRow_alloc_new]
 refine wpList_nil ?_
 obtain ⟨u,hu⟩ : ∃ u,u=wy.alloc (.cells (cellsM m poy capy) 30):=⟨_,rfl⟩
 obtain ⟨B,hB⟩ : ∃ B,B=wy.heap.size:=⟨_,rfl⟩
 have HI:Hid (Inv w B u m):=by
  have hl:=(zLo HYR.out)
  rw [hu,hB]
  exact ⟨⟨poy,capy,heap_alloc_last wy _,HYO.out.alloc _⟩,HGD.out,by rw [alloc_kept _ _ hl,HYR.out,HZ.out],zGr HY.out _,hl⟩
 rw [<- hu,<- hB]
 clear hu hB HYR HYO HY HK HR HB H0
 obtain ⟨N,hN⟩ : ∃ N:Nat,(N:Int)=n:=⟨n.toNat,by omega⟩
 subst hN
 go_wp2_with fail
 go_loopw [10] (fun i wr=>∃ (k:Nat) (mk:M),k<=N/\i=.int .i64 (k:Int)/\Hid (toP (hitS L) (N-k) k mk=toP (hitS L) N 0 m)/\Hid (Inv w B wr mk)) (fun i _=>N-(intOf i).toNat)
 case atStart=>exact ⟨0,m,Nat.zero_le _,rfl,rfl,HI.out⟩
 case round =>
  obtain ⟨k,mk,hk,rfl,HR1,HI1⟩:=hrel
  obtain ⟨⟨pk,ck,hbox,hown⟩,hfine,hres,hbel,hat⟩:=HI1.out
  have HX:Hid (wr.heap[B]? = some (.cells (cellsM mk pk ck) 30)/\wr.ownsRow w.heap.size 2 1 (.slice pk mk.out.length ck) mk.out.length (outC mk.out)/\Fine mk/\wr.heap[w.heap.size+1]? = some (.cells (cellsM Z0 none 0) 30)/\Below w.heap.size w wr/\w.heap.size+1<B):=⟨hbox,hown,hfine,hres,hbel,hat⟩
  clear hbox hown hfine hres hbel hat HI1
  by_cases hlt:k<N
  ·go_upto_region 7 with fail
   refine wp_region_list ?_
   refine wpList_load_row rfl 30 _ rfl B rfl _ _ (0,0) _ HX.out.1 underlying30 rfl (infoMs _ _ _) ?_
   go_wp2_with fail
   refine Calls.mono (Stdg.ssS mk pk ck wr HX.out.2.2.1.1 HX.out.2.2.1.2 (own_sl HX.out.2.1 rfl) (own_lt HX.out.2.1)) ?_
   rintro e w2 ⟨⟨p2,c2,rfl,own2⟩,hb2⟩
   obtain ⟨m2,hm2⟩ : ∃ x,x=(stepP mk).1:=⟨_,rfl⟩
   obtain ⟨cd,hcd⟩ : ∃ x,x=(stepP mk).2:=⟨_,rfl⟩
   rw [<- hm2,<- hcd]
   rw [<- hm2] at own2
   have HM2:Hid (m2=(stepP mk).1):=hm2
   have HCD:Hid (cd=(stepP mk).2):=hcd
   have HY2:Hid (w2.heap[B]? = some (.cells (cellsM mk pk ck) 30)/\w2.ownsRow w.heap.size 2 1 (.slice pk mk.out.length ck) mk.out.length (outC mk.out)/\w2.heap[w.heap.size+1]? = some (.cells (cellsM Z0 none 0) 30)/\Below w.heap.size w w2):=⟨(hb2.block _ (zLo HX.out.1)).trans HX.out.1,Busl.own_stay HX.out.2.1 hb2,(hb2.block _ (zLo HX.out.2.2.2.1)).trans HX.out.2.2.2.1,HolI.after HX.out.2.2.2.2.1 hb2⟩
   have HO2:Hid (w2.ownsRow w.heap.size 2 1 (.slice p2 m2.out.length c2) m2.out.length (outC m2.out)):=Stdg.row_own (w':=w2) own2 _ HX.out.2.2.2.2.1.size
   clear hm2 hcd own2 hb2
   rename_i hK
   refine hK _ _ ?_
   clear hK
   refine wpList_plain rfl (fun K hK=>?_)
   go_simp
   refine hK _ _ ?_
   clear hK
   refine wpList_plain rfl (fun K hK=>?_)
   go_simp
   refine hK _ _ ?_
   clear hK
   refine wpList_plain rfl (fun K hK=>?_)
   go_simp
   refine hK _ _ ?_
   clear hK
   refine wpList_plain rfl (fun K hK=>?_)
   go_simp
   refine hK _ _ ?_
   clear hK
   refine wpList_store_row rfl 30 _ _ rfl w2.heap.size (cellsM m2 p2 c2) rfl rfl _ _ (heap_alloc_last w2 _) (infoMs _ _ _) (by rw [HZ.out,size_M,size_M]) (one_M _ _ _) ?_
   rw [World.setRow_alloc_new]
   go_upto_region 8 with fail
   obtain ⟨u2,hu2⟩ : ∃ u,u=w2.alloc (.cells (cellsM m2 p2 c2) 30):=⟨_,rfl⟩
   obtain ⟨B2,hB2⟩ : ∃ b,b=w2.heap.size:=⟨_,rfl⟩
   have HU:Hid (u2.heap[B]? = some (.cells (cellsM mk pk ck) 30)/\u2.ownsRow w.heap.size 2 1 (.slice pk mk.out.length ck) mk.out.length (outC mk.out)/\u2.heap[w.heap.size+1]? = some (.cells (cellsM Z0 none 0) 30)/\Below w.heap.size w u2/\u2.heap[B2]? = some (.cells (cellsM m2 p2 c2) 30)/\u2.ownsRow w.heap.size 2 1 (.slice p2 m2.out.length c2) m2.out.length (outC m2.out)):=by
    obtain ⟨h1,h2,h3,h4⟩:=HY2.out
    rw [hu2,hB2]
    exact ⟨(alloc_kept _ _ (zLo h1)).trans h1,h2.alloc _,(alloc_kept _ _ (zLo h3)).trans h3,zGr h4 _,heap_alloc_last w2 _,HO2.out.alloc _⟩
   rw [<- hu2,<- hB2]
   clear hu2 hB2 HY2 HO2
   by_cases hz0:cd=0
   ·subst hz0
    go_upto_region 10 with fail
    refine wp_region_list ?_
    refine wpList_load_row rfl 30 _ rfl B2 rfl _ _ (0,0) _ HU.out.2.2.2.2.1 underlying30 rfl (infoMs _ _ _) ?_
    refine wpList_store_row rfl 30 _ _ rfl B _ rfl rfl _ _ HU.out.1 (infoMs _ _ _) (by rw [size_M,size_M]) (one_M _ _ _) ?_
    have HI2:Hid (Inv w B (u2.setRow B (cellsM m2 p2 c2)) m2):=by
     obtain ⟨h1,h2,h3,h4,h5,h6⟩:=HU.out
     have hB:=HX.out.2.2.2.2.2
     exact ⟨⟨p2,c2,heap_row h1,World.ownsRow.kept (row:=some B) h6 (set_row_grown _ _ _) (.inr (row_ne h6 h1))⟩,by rw [HM2.out];exact step_fine HX.out.2.2.1,(heap_row_other (by omega) _).trans h3,below_row h4 (by omega),hB⟩
    have d1:IntKind.i64.wrap ((k:Int)+1)=(k:Int)+1:=by rw [IntKind.wrap_i64];omega
    go_wp2_with fail
    go_loopw [13] (fun j wq=>∃ q:Nat,q<=sl/\j=.int .i64 (q:Int)/\Hid (Inv w B wq m2)/\Hid (∀ i (hi:i<L.length),i<q->L[i] ≠ Plac.place m2)) (fun j _=>sl-(intOf j).toNat)
    case atStart=>exact ⟨0,Nat.zero_le _,rfl,HI2.out,fun i hi h=>absurd h (Nat.not_lt_zero _)⟩
    case round =>
     obtain ⟨q,hq,rfl,HI3,HNO⟩:=hrel
     obtain ⟨⟨pq,cq,hbox,hown⟩,hfine,hres,hbel,hat⟩:=HI3.out
     have HQ:Hid (wr.heap[B]? = some (.cells (cellsM m2 pq cq) 30)/\wr.ownsRow w.heap.size 2 1 (.slice pq m2.out.length cq) m2.out.length (outC m2.out)/\Fine m2/\wr.heap[w.heap.size+1]? = some (.cells (cellsM Z0 none 0) 30)/\Below w.heap.size w wr/\w.heap.size+1<B):=⟨hbox,hown,hfine,hres,hbel,hat⟩
     clear hbox hown hfine hres hbel hat HI3 HI2 HU
     by_cases hlq:q<sl
     ·have hkL:q<L.length:=by have:=HST.out.1;omega
      rcases HST.out.2 with hnil|⟨b,off,hsa,hb,hc⟩
      ·exfalso;rw [hnil] at hkL;exact absurd hkL (by simp)
      subst hsa
      obtain ⟨c0,c1⟩ : wr.cell? ⟨b,off+q*2,none⟩=some (.int .i64 L[q].1)/\wr.cell? ⟨b,off+q*2+1,none⟩=some (.int .i64 L[q].2):=⟨(HQ.out.2.2.2.2.1.cell (p:=⟨b,_,none⟩) hb).trans (hc q hkL).1,(HQ.out.2.2.2.2.1.cell (p:=⟨b,_,none⟩) hb).trans (hc q hkL).2⟩
      have HBL:Hid (b<wr.heap.size):=Nat.lt_of_lt_of_le hb HQ.out.2.2.2.2.1.size
      clear hc hb
      have k0:Sta.Rg 45 #[.agg (cellsM m2 pq cq)] wr (.agg #[.int .i64 (Plac.place m2).1,.int .i64 (Plac.place m2).2]):=Sta.rg fun W hb=>l17At_M m2 pq cq W HQ.out.2.2.1.1.rt
      have l1:∀ d os,(loadVar 30 ⟨B,0,none⟩).run prog (Go.Sort.grow (redrawn wr d) os)=.ok (.agg (cellsM m2 pq cq)) (Go.Sort.grow (redrawn wr d) os):=fun d os=>run_loadVar_row _ B 30 30 _ (0,0) _ (((below_regrown wr d os).block B (zLo HQ.out.1)).trans HQ.out.1) underlying30 rfl (infoMs _ _ _)
      have HLP:Hid (L[q]=Plac.place m2 ↔ L[q].1=(Plac.place m2).1/\L[q].2=(Plac.place m2).2):=Prod.ext_iff
      obtain ⟨x,hx⟩ : ∃ x,x=L[q].1:=⟨_,rfl⟩
      obtain ⟨y,hy⟩ : ∃ y,y=L[q].2:=⟨_,rfl⟩
      obtain ⟨p,hp⟩ : ∃ p,p=(Plac.place m2).1:=⟨_,rfl⟩
      obtain ⟨a,ha⟩ : ∃ a,a=(Plac.place m2).2:=⟨_,rfl⟩
      rw [<- hx] at c0 HLP
      rw [<- hy] at c1 HLP
      rw [<- hp,<- ha] at k0 HLP
      clear hx hy hp ha
      have l0:∀ d os,(loadVar 40 ⟨b,off+q*2,none⟩).run prog (Go.Sort.grow (redrawn wr d) os)=.ok (.agg #[.int .i64 x,.int .i64 y]) (Go.Sort.grow (redrawn wr d) os):=fun d os=>run_loadVar_mid _ b (off+q*2) 40 [.int .i64 x,.int .i64 y] _ (by
       intro j v hv
       have hr:=(below_regrown wr d os)
       match j with
       | 0=>simp at hv;subst hv;exact (hr.cell (p:=⟨b,_,none⟩) HBL.out).trans c0
       | 1=>simp at hv;subst hv;exact (hr.cell (p:=⟨b,_,none⟩) HBL.out).trans c1
       | j+2=>simp at hv) underlying40 rfl (by kernel_rfl)
      by_cases hxp:x=p
      ·by_cases hya:y=a
       ·subst hxp hya
        go_upto_region 14 with fail
        refine wp_region_quiet_below (by kernel_rfl) (by kernel_rfl) ?_
        repeat (first|(go_big_quiet_step (first|fail|with_reducible exact k0 _ _))|(refine Stps.wpQuiet_load (by rfl) 30 _ rfl ⟨B,0,none⟩ rfl _ (fun W hW=>by obtain ⟨⟨d,o⟩,rfl⟩:=hW;exact l1 d o) ?_;simp only [Act.put,List.setIfInBounds_toArray,List.set_cons_succ,List.set_cons_zero])|(refine Stps.wpQuiet_load (by rfl) 40 _ rfl ⟨b,off+q*2,none⟩ rfl _ (fun W hW=>by obtain ⟨⟨d,o⟩,rfl⟩:=hW;exact l0 d o) ?_;simp only [Act.put,List.setIfInBounds_toArray,List.set_cons_succ,List.set_cons_zero]))
        refine wpQuiet_nil ?_
        intro _ hw'
        obtain ⟨⟨dq,osq⟩,hw''⟩:=hw'
        subst hw''
        have hr:=below_regrown wr dq osq
        obtain ⟨wz,hwz⟩ : ∃ z,z=Go.Sort.grow (redrawn wr dq) osq:=⟨_,rfl⟩
        rw [<- hwz] at hr
        rw [<- hwz]
        have HZZ:Hid (wz.heap[B]? = some (.cells (cellsM m2 pq cq) 30)/\wz.ownsRow w.heap.size 2 1 (.slice pq m2.out.length cq) m2.out.length (outC m2.out)/\wz.heap[w.heap.size+1]? = some (.cells (cellsM Z0 none 0) 30)/\Below w.heap.size w wz):=⟨(hr.block _ (zLo HQ.out.1)).trans HQ.out.1,Busl.own_stay HQ.out.2.1 hr,(hr.block _ (zLo HQ.out.2.2.2.1)).trans HQ.out.2.2.2.1,HolI.after HQ.out.2.2.2.2.1 hr⟩
        clear hwz hr
        have HV2:Hid (toV (hitS L) sl m (N:Int)=(m2,0,(k:Int)+1)):=by
         show _=_
         have e1:N-k=(N-(k+1))+1:=by omega
         rw [HV.out,Int.toNat_natCast,<- HR1.out,e1,to_hit HCD.out.symm (by rw [<- HM2.out];exact Plac.hit_yes q hkL (HLP.out.2 ⟨rfl,rfl⟩)),HM2.out]
        have hat:=HQ.out.2.2.2.2.2
        clear c0 c1 k0 l0 l1
        go_upto_region 15 with fail
        refine wp_region_list ?_
        refine wpList_load_row rfl 30 _ rfl B rfl _ _ (0,0) _ HZZ.out.1 underlying30 rfl (infoMs _ _ _) ?_
        refine wpList_plain rfl (fun K hK=>?_)
        go_simp
        refine hK _ _ ?_
        clear hK
        refine wpList_plain rfl (fun K hK=>?_)
        go_simp
        refine hK _ _ ?_
        clear hK
        refine wpList_store_row rfl 30 _ _ rfl (w.heap.size+1) _ rfl rfl _ _ HZZ.out.2.2.1 (infoMs _ _ _) (by rw [size_M,size_M]) (one_M _ _ _) ?_
        have HF:Hid ((wz.setRow (w.heap.size+1) (cellsM m2 pq cq)).heap[w.heap.size+1]? = some (.cells (cellsM m2 pq cq) 30)):=heap_row HZZ.out.2.2.1
        have HG:Hid (Below w.heap.size w (wz.setRow (w.heap.size+1) (cellsM m2 pq cq))):=below_row HZZ.out.2.2.2 (by omega)
        have HOw:Hid ((wz.setRow (w.heap.size+1) (cellsM m2 pq cq)).ownsRow w.heap.size 2 1 (.slice pq m2.out.length cq) m2.out.length (outC m2.out)):=World.ownsRow.kept (row:=some (w.heap.size+1)) HZZ.out.2.1 (set_row_grown _ _ _) (.inr (row_ne HZZ.out.2.1 HZZ.out.2.2.1))
        go_wp2
        refine bodyPost_ret (v:=.tuple #[.agg (cellsM m2 pq cq),.int .i64 0,.int .i64 ((k:Int)+1)]) (results_three results10 _ _ (w.heap.size+1) _ _ (0,0) _ _ _ rfl rfl rfl HF.out underlying30 rfl (infoMs _ _ _)) rfl ?_
        exact ⟨⟨pq,cq,by rw [HV2.out],by rw [HV2.out];exact HOw.out⟩,HG.out⟩
       ·have e1:(y == a)=false:=by simpa using hya
        subst hxp
        go_upto_region 14 with fail
        refine wp_region_quiet_below (by kernel_rfl) (by kernel_rfl) ?_
        repeat (first|(go_big_quiet_step (first|fail|with_reducible exact k0 _ _))|(refine Stps.wpQuiet_load (by rfl) 30 _ rfl ⟨B,0,none⟩ rfl _ (fun W hW=>by obtain ⟨⟨d,o⟩,rfl⟩:=hW;exact l1 d o) ?_;simp only [Act.put,List.setIfInBounds_toArray,List.set_cons_succ,List.set_cons_zero])|(refine Stps.wpQuiet_load (by rfl) 40 _ rfl ⟨b,off+q*2,none⟩ rfl _ (fun W hW=>by obtain ⟨⟨d,o⟩,rfl⟩:=hW;exact l0 d o) ?_;simp only [Act.put,List.setIfInBounds_toArray,List.set_cons_succ,List.set_cons_zero]))
        refine wpQuiet_nil ?_
        intro _ hw'
        obtain ⟨⟨dq,osq⟩,hw''⟩:=hw'
        subst hw''
        have hr:=below_regrown wr dq osq
        obtain ⟨wz,hwz⟩ : ∃ z,z=Go.Sort.grow (redrawn wr dq) osq:=⟨_,rfl⟩
        rw [<- hwz] at hr
        rw [<- hwz]
        have HZZ:Hid (wz.heap[B]? = some (.cells (cellsM m2 pq cq) 30)/\wz.ownsRow w.heap.size 2 1 (.slice pq m2.out.length cq) m2.out.length (outC m2.out)/\wz.heap[w.heap.size+1]? = some (.cells (cellsM Z0 none 0) 30)/\Below w.heap.size w wz):=⟨(hr.block _ (zLo HQ.out.1)).trans HQ.out.1,Busl.own_stay HQ.out.2.1 hr,(hr.block _ (zLo HQ.out.2.2.2.1)).trans HQ.out.2.2.2.1,HolI.after HQ.out.2.2.2.2.1 hr⟩
        clear hwz hr
        have HNE:Hid (L[q] ≠ Plac.place m2):=fun h=>hya (HLP.out.1 h).2
        clear c0 c1 k0 l0 l1
        go_wp2_with fail
        go_roundw
        case rel =>
         refine ⟨q+1,by omega,by go_num,⟨⟨pq,cq,HZZ.out.1,HZZ.out.2.1⟩,HQ.out.2.2.1,HZZ.out.2.2.1,HZZ.out.2.2.2,HQ.out.2.2.2.2.2⟩,fun i hi h=>?_⟩
         by_cases e:i=q
         ·subst e;exact HNE.out
         ·exact HNO.out i hi (by omega)
        case measure=>simp [intOf];omega
      ·have e0:(x == p)=false:=by simpa using hxp
       go_upto_region 14 with fail
       refine wp_region_quiet_below (by kernel_rfl) (by kernel_rfl) ?_
       repeat (first|(go_big_quiet_step (first|fail|with_reducible exact k0 _ _))|(refine Stps.wpQuiet_load (by rfl) 30 _ rfl ⟨B,0,none⟩ rfl _ (fun W hW=>by obtain ⟨⟨d,o⟩,rfl⟩:=hW;exact l1 d o) ?_;simp only [Act.put,List.setIfInBounds_toArray,List.set_cons_succ,List.set_cons_zero])|(refine Stps.wpQuiet_load (by rfl) 40 _ rfl ⟨b,off+q*2,none⟩ rfl _ (fun W hW=>by obtain ⟨⟨d,o⟩,rfl⟩:=hW;exact l0 d o) ?_;simp only [Act.put,List.setIfInBounds_toArray,List.set_cons_succ,List.set_cons_zero]))
       refine wpQuiet_nil ?_
       intro _ hw'
       obtain ⟨⟨dq,osq⟩,hw''⟩:=hw'
       subst hw''
       have hr:=below_regrown wr dq osq
       obtain ⟨wz,hwz⟩ : ∃ z,z=Go.Sort.grow (redrawn wr dq) osq:=⟨_,rfl⟩
       rw [<- hwz] at hr
       rw [<- hwz]
       have HZZ:Hid (wz.heap[B]? = some (.cells (cellsM m2 pq cq) 30)/\wz.ownsRow w.heap.size 2 1 (.slice pq m2.out.length cq) m2.out.length (outC m2.out)/\wz.heap[w.heap.size+1]? = some (.cells (cellsM Z0 none 0) 30)/\Below w.heap.size w wz):=⟨(hr.block _ (zLo HQ.out.1)).trans HQ.out.1,Busl.own_stay HQ.out.2.1 hr,(hr.block _ (zLo HQ.out.2.2.2.1)).trans HQ.out.2.2.2.1,HolI.after HQ.out.2.2.2.2.1 hr⟩
       clear hwz hr
       have HNE:Hid (L[q] ≠ Plac.place m2):=fun h=>hxp (HLP.out.1 h).1
       clear c0 c1 k0 l0 l1
       go_wp2_with fail
       go_roundw
       case rel =>
        refine ⟨q+1,by omega,by go_num,⟨⟨pq,cq,HZZ.out.1,HZZ.out.2.1⟩,HQ.out.2.2.1,HZZ.out.2.2.1,HZZ.out.2.2.2,HQ.out.2.2.2.2.2⟩,fun i hi h=>?_⟩
        by_cases e:i=q
        ·subst e;exact HNE.out
        ·exact HNO.out i hi (by omega)
       case measure=>simp [intOf];omega
     ·have HNH:Hid (hitS L m2=false):=Plac.hit_no fun i hi=>HNO.out i hi (by have:=HST.out.1;omega)
      go_wp2_with fail
      go_roundw
      case rel =>
       refine ⟨k+1,m2,by omega,by go_num,?_,⟨⟨pq,cq,HQ.out.1,HQ.out.2.1⟩,HQ.out.2.2.1,HQ.out.2.2.2.1,HQ.out.2.2.2.2.1,HQ.out.2.2.2.2.2⟩⟩
       show _=_
       have e1:N-k=(N-(k+1))+1:=by omega
       rw [<- HR1.out,e1,to_go HCD.out.symm (by rw [<- HM2.out];exact HNH.out),HM2.out]
       rfl
      case measure=>simp [intOf];omega
   ·have hne:(cd == 0)=false:=by simpa using hz0
    have HV2:Hid (toV (hitS L) sl m (N:Int)=(mk,cd,(k:Int))):=by
     show _=_
     have e1:N-k=(N-(k+1))+1:=by omega
     rw [HV.out,Int.toNat_natCast,<- HR1.out,e1,to_stop (by rw [<- HCD.out];exact hz0),HCD.out]
    go_upto_region 9 with fail
    refine wp_region_list ?_
    refine wpList_load_row rfl 30 _ rfl B rfl _ _ (0,0) _ HU.out.1 underlying30 rfl (infoMs _ _ _) ?_
    refine wpList_plain rfl (fun K hK=>?_)
    go_simp
    refine hK _ _ ?_
    clear hK
    refine wpList_plain rfl (fun K hK=>?_)
    go_simp
    refine hK _ _ ?_
    clear hK
    refine wpList_store_row rfl 30 _ _ rfl (w.heap.size+1) _ rfl rfl _ _ HU.out.2.2.1 (infoMs _ _ _) (by rw [size_M,size_M]) (one_M _ _ _) ?_
    have HF:Hid ((u2.setRow (w.heap.size+1) (cellsM mk pk ck)).heap[w.heap.size+1]? = some (.cells (cellsM mk pk ck) 30)):=heap_row HU.out.2.2.1
    have HG:Hid (Below w.heap.size w (u2.setRow (w.heap.size+1) (cellsM mk pk ck))):=below_row HU.out.2.2.2.1 (by omega)
    have HOw:Hid ((u2.setRow (w.heap.size+1) (cellsM mk pk ck)).ownsRow w.heap.size 2 1 (.slice pk mk.out.length ck) mk.out.length (outC mk.out)):=World.ownsRow.kept (row:=some (w.heap.size+1)) HU.out.2.1 (set_row_grown _ _ _) (.inr (row_ne HU.out.2.1 HU.out.2.2.1))
    go_wp2
    refine bodyPost_ret (v:=.tuple #[.agg (cellsM mk pk ck),.int .i64 cd,.int .i64 (k:Int)]) (results_three results10 _ _ (w.heap.size+1) _ _ (0,0) _ _ _ rfl rfl rfl HF.out underlying30 rfl (infoMs _ _ _)) rfl ?_
    exact ⟨⟨pk,ck,by rw [HV2.out],by rw [HV2.out];exact HOw.out⟩,HG.out⟩
  ·have HV2:Hid (toV (hitS L) sl m (N:Int)=(mk,0,(N:Int))):=by
    show _=_
    have e:k=N:=by omega
    rw [HV.out,Int.toNat_natCast,<- HR1.out,e,Nat.sub_self];rfl
   go_upto_region 16 with fail
   refine wp_region_list ?_
   refine wpList_load_row rfl 30 _ rfl B rfl _ _ (0,0) _ HX.out.1 underlying30 rfl (infoMs _ _ _) ?_
   refine wpList_plain rfl (fun K hK=>?_)
   go_simp
   refine hK _ _ ?_
   clear hK
   refine wpList_store_row rfl 30 _ _ rfl (w.heap.size+1) _ rfl rfl _ _ HX.out.2.2.2.1 (infoMs _ _ _) (by rw [size_M,size_M]) (one_M _ _ _) ?_
   have HF:Hid ((wr.setRow (w.heap.size+1) (cellsM mk pk ck)).heap[w.heap.size+1]? = some (.cells (cellsM mk pk ck) 30)):=heap_row HX.out.2.2.2.1
   have HG:Hid (Below w.heap.size w (wr.setRow (w.heap.size+1) (cellsM mk pk ck))):=below_row HX.out.2.2.2.2.1 (by omega)
   have HOw:Hid ((wr.setRow (w.heap.size+1) (cellsM mk pk ck)).ownsRow w.heap.size 2 1 (.slice pk mk.out.length ck) mk.out.length (outC mk.out)):=World.ownsRow.kept (row:=some (w.heap.size+1)) HX.out.2.1 (set_row_grown _ _ _) (.inr (row_ne HX.out.2.1 HX.out.2.2.2.1))
   go_wp2
   refine bodyPost_ret (v:=.tuple #[.agg (cellsM mk pk ck),.int .i64 0,.int .i64 (N:Int)]) (results_three results10 _ _ (w.heap.size+1) _ _ (0,0) _ _ _ rfl rfl rfl HF.out underlying30 rfl (infoMs _ _ _)) rfl ?_
   exact ⟨⟨pk,ck,by rw [HV2.out],by rw [HV2.out];exact HOw.out⟩,HG.out⟩
theorem specTo_any (L:List (Int × Int)) (sa:Option Addr) (sl sc:Nat) (m:M) (po:Option Addr) (cap:Nat) (n:Int) (w:World) (hsl:sl<=maxLen) (hL:L.length=sl) (hSt:Plac.Stops w sa L) (hs:Sm m) (hN:Sl w po m.out cap) :
  Calls prog 10 #[.agg (cellsM m po cap),.slice sa sl sc,.int .i64 n] w (ToldT (hitS L) sl m n w):=by
 cases hok:okMM m with
 | false=>exact rt_machine _ sa sl sc m po cap n w hsl hs hN hok
 | true =>
  by_cases h20:sl<=20
  ·by_cases hn:0<=n/\n<=500
   ·exact rt_main L sa sl sc m po cap n w hsl hs hN hok h20 hn hL hSt
   ·exact rt_number _ sa sl sc m po cap n w hsl hs hN hok h20 hn
  ·exact rt_stops _ sa sl sc m po cap n w hsl hs hN hok (by omega)
end Runv
namespace Stfr
open Go.Deep
open Busw Busx Stpp Stpq Stpi Stpo Stpl Runp Ista
open MachT (heap_row heap_row_other below_row)
structure Sx where
 (j:Nat)
 (m:M)
 (po:Option Addr)
 (cap:Nat)
 (code:Int)
def encs (x:Sx):Array Value:=#[.agg (cellsM x.m x.po x.cap),.int .i64 x.code]
def RowX (base:Nat) (x:Sx) (W:World):Prop:=W.ownsRow base 2 1 (.slice x.po x.m.out.length x.cap) x.m.out.length (outC x.m.out)
structure Still (B:Nat) (po:Option Addr) (X W:World):Prop where
 os:W.os=X.os
 tape:W.tape=X.tape
 output:W.output=X.output
 size:X.heap.size<=W.heap.size
 block:∀ k o,X.heap[k]? = some o->some k ≠ blk po->k ≠ B \/ o.isCells=false->W.heap[k]? = some o
theorem Still.refl (B:Nat) (po:Option Addr) (X:World):Still B po X X:=⟨rfl,rfl,rfl,Nat.le_refl _,fun _ _ h _ _=>h⟩
theorem Still.step {B:Nat} {po:Option Addr} {X W V:World} (h:Still B none X W) (k:Fr W V po):Still B po X V :=
 ⟨k.os.trans h.os,k.tape.trans h.tape,k.output.trans h.output,Nat.le_trans h.size k.size,fun i o h0 h1 h2=>by
  have h3:=h.block i o h0 (by intro e;cases e) h2
  exact (k.block i (zLo h3) h1).trans h3⟩
theorem Still.alloc {B:Nat} {po:Option Addr} {X W:World} (h:Still B po X W) (o:Obj):Still B po X (W.alloc o) :=
 ⟨h.os,h.tape,h.output,Nat.le_trans h.size (by simp),fun i u h0 h1 h2=>by
  have h3:=h.block i u h0 h1 h2
  exact (alloc_kept _ _ (zLo h3)).trans h3⟩
theorem Still.set {B k:Nat} {po:Option Addr} {X W:World} (h:Still B po X W) (hk:k=B) {cs old:Array Value} {T:TypeId} (hb:W.heap[k]? = some (.cells old T)):Still B po X (W.setRow k cs) :=
 ⟨h.os,h.tape,h.output,by rw [MachT.size_row];exact h.size,fun i u h0 h1 h2=>by
  have h3:=h.block i u h0 h1 h2
  refine (heap_row_other (fun e=>?_) _).trans h3
  subst e
  rcases h2 with h2|h2
  ·exact h2 hk
  ·rw [hb] at h3;cases h3;cases h2⟩
def Gv (base B N:Nat) (s:Sx) (X W:World) (x:Sx):Prop :=
 s.code=0/\s.j<N/\x.j=s.j+1/\stepP s.m=(x.m,x.code)/\RowX base x W/\Moved X s.po x.po/\Still B s.po X W/\∃ cs,W.heap[B]? = some (.cells cs 30)
def Kp (base B:Nat) (x:Sx) (W W':World):Prop:=Below base W W'/\RowX base x W'/\∀ k cs,W.heap[k]? = some (.cells cs 30)->B<=k->W'.heap[k]? = some (.cells cs 30)
def En (base B N:Nat) (s:Sx) (X W:World):Prop:=(s.j=N \/ s.code ≠ 0)/\RowX base s W/\Still B none X W
theorem fr_bel {w u u':World} {po:Option Addr} {n:Nat} (h:Below n w u) (hn:n<=u.heap.size) (hf:Fr u u' po) (ho:∀ p,po=some p->n<=p.block):Below n w u' :=
 ⟨hf.os.trans h.os,hf.tape.trans h.tape,hf.output.trans h.output,Nat.le_trans h.size hf.size,fun k hk=>(hf.block k (Nat.lt_of_lt_of_le hk hn) (fun e=>by
  cases po with
  | none=>cases e
  | some p=>have:=ho p rfl;have e2:k=p.block:=Option.some.inj e;omega)).trans (h.block k hk)⟩
theorem fr_box {u u':World} {po:Option Addr} {base n cap B:Nat} {xs:List Value} {cs:Array Value} (hf:Fr u u' po) (ho:u.ownsRow base 2 1 (.slice po n cap) n xs) (hb:u.heap[B]? = some (.cells cs 30)):u'.heap[B]? = some (.cells cs 30) :=
 (hf.block B (zLo hb) (fun e=>row_ne ho hb (by rw [blk_own];exact e.symm))).trans hb
theorem mov_down {X W:World} {po po':Option Addr} (h:X.heap.size<=W.heap.size) (k:Moved W po po'):Moved X po po':=by
 rcases k with h1|⟨p,h1,h2⟩
 ·exact .inl h1
 ·exact .inr ⟨p,h1,Nat.le_trans h h2⟩
theorem max_of {w w':World} (h:HolI.MaxL w) (b:w'.heap[9]? = w.heap[9]?):HolI.MaxL w':=by
 obtain ⟨m,hm⟩:=h
 exact ⟨m,(World.cell?_of_block (a:=⟨9,0,none⟩) b).trans hm⟩
def IInv (base B k:Nat) (s:Sx) (X W1 W:World):Prop :=
 s.j=k/\s.code=0/\W.heap[B]? = some (.cells (cellsM s.m s.po s.cap) 30)/\RowX base s W/\Fine s.m/\Still B none X W/\Below base W1 W
theorem stepsFrom_any (cM:Array Value) (n:Int) (w:World) (h:cM.size=23) :
  Calls prog 39 #[.agg cM,.int .i64 n] w fun e w'=>e=.returned (.func (.func 79) #[] #[.pointer (some ⟨w.heap.size,0,none⟩),.pointer (some ⟨w.heap.size+1,0,none⟩)])/\w'=(w.alloc (.cells cM 30)).alloc (.cells #[.int .i64 n] 2):=by
 go_enter func39,ntmps39
 go_wp2
 go_ret
 exact ⟨rfl,rfl⟩
theorem iter_any (l q base N:Nat) (m0:M) (po0:Option Addr) (cap0 c1 c2:Nat) (W1:World) (J:Sx->World->Prop) (Jx:World->Prop) (hN:N<=500)
  (hc1:W1.heap[c1]? = some (.cells (cellsM m0 po0 cap0) 30)) (hc2:W1.heap[c2]? = some (.cells #[.int .i64 (N:Int)] 2))
  (hr:RowX base ⟨0,m0,po0,cap0,0⟩ W1) (hf:Fine m0) (ht:Tb W1) (hm:HolI.MaxL W1) (hb:1<base/\2<base/\9<base) (hw:base<=W1.heap.size)
  (h0:J ⟨0,m0,po0,cap0,0⟩ W1)
  (hY:∀ s X W x,J s X->Gv base W1.heap.size N s X W x->YieldAt Fence.wide q prog l (encs x) W fun e W'=>(e=.returned (.bool true)/\J x W'/\Kp base W1.heap.size x W W') \/ (e=.returned (.bool false)/\Jx W')) :
  Calls prog 79 #[.func (.yield l) #[] #[],.pointer (some ⟨c1,0,none⟩),.pointer (some ⟨c2,0,none⟩)] W1 fun e W'=>(∃ v,e=.returned v)/\((∃ s X,J s X/\En base W1.heap.size N s X W') \/ Jx W'):=by
 have hz:=zeroM
 have HY:Hid (∀ s X W x,J s X->Gv base W1.heap.size N s X W x->YieldAt Fence.wide q prog l (encs x) W fun e W'=>(e=.returned (.bool true)/\J x W'/\Kp base W1.heap.size x W W') \/ (e=.returned (.bool false)/\Jx W')):=hY
 have HT:Hid (Tb W1/\HolI.MaxL W1/\(1<base/\2<base/\9<base)/\base<=W1.heap.size):=⟨ht,hm,hb,hw⟩
 have H1:Hid (J ⟨0,m0,po0,cap0,0⟩ W1/\RowX base ⟨0,m0,po0,cap0,0⟩ W1/\Fine m0):=⟨h0,hr,hf⟩
 have HC:Hid (W1.heap[c1]? = some (.cells (cellsM m0 po0 cap0) 30)):=hc1
 have c2l:(W1.alloc (.cells (cellsM m0 po0 cap0) 30)).cell? ⟨c2,0,none⟩=some (.int .i64 (N:Int)):=by
  rw [World.cell?_of_block (a:=⟨c2,0,none⟩) (alloc_kept _ _ (zLo hc2))]
  simp [World.cell?,hc2]
 clear hY ht hm hb hw h0 hr hf hc1 hc2
 obtain ⟨cZ,hcZ⟩ : ∃ c,c=cellsM Z0 none 0:=⟨_,rfl⟩
 have HZ:Hid (cZ=cellsM Z0 none 0):=hcZ
 rw [<- hcZ] at hz
 clear hcZ
 go_enter func79,ntmps79
 go_upto_region 0 with fail
 refine wp_region_list ?_
 refine wpList_load_row rfl 30 _ rfl c1 rfl _ _ (0,0) _ HC.out underlying30 rfl (infoMs _ _ _) ?_
 refine wpList_plain rfl (fun K hK=>?_)
 go_simp
 refine hK _ _ ?_
 clear hK
 refine wpList_store_row rfl 30 _ _ rfl W1.heap.size (cellsM m0 po0 cap0) rfl rfl _ _ (heap_alloc_last W1 _) (infoMs _ _ _) (by rw [HZ.out,size_M,size_M]) (one_M _ _ _) ?_
 rw [World.setRow_alloc_new]
 have HB0:Hid (IInv base W1.heap.size 0 ⟨0,m0,po0,cap0,0⟩ W1 W1 (W1.alloc (.cells (cellsM m0 po0 cap0) 30))):=⟨rfl,rfl,heap_alloc_last W1 _,H1.out.2.1.alloc _,H1.out.2.2,(Still.refl _ _ _).alloc _,(Below.refl base W1).alloc HT.out.2.2.2 _⟩
 go_upto_region 1 with fail
 go_wp2_with fail
 go_loopw [9] (fun i wr=>∃ (k:Nat) (s:Sx) (X:World),k<=N/\i=.int .i64 (k:Int)/\Hid (J s X)/\Hid (IInv base W1.heap.size k s X W1 wr)) (fun i _=>N-(intOf i).toNat)
 case atStart=>exact ⟨0,_,W1,Nat.zero_le _,rfl,H1.out.1,HB0.out⟩
 case round =>
  clear HB0 c2l H1 HC
  obtain ⟨k,s,X,hk,rfl,HJ,HI⟩:=hrel
  obtain ⟨j,mk,pk,ck,code⟩:=s
  obtain rfl:j=k:=HI.out.1
  have hbel:Below base W1 wr:=HI.out.2.2.2.2.2.2
  have HX:Hid (wr.heap[W1.heap.size]? = some (.cells (cellsM mk pk ck) 30)/\wr.ownsRow base 2 1 (.slice pk mk.out.length ck) mk.out.length (outC mk.out)):=⟨HI.out.2.2.1,HI.out.2.2.2.1⟩
  have HOK:Hid (Ok wr base mk pk ck):=⟨HX.out.2,HI.out.2.2.2.2.1.1,HI.out.2.2.2.2.1.2,HT.out.1.of fun k hk=>hbel.block k (hk.elim (fun e=>e ▸ HT.out.2.2.1.1) (fun e=>e ▸ HT.out.2.2.1.2.1)),max_of HT.out.2.1 (hbel.block _ HT.out.2.2.1.2.2),HT.out.2.2.1,Nat.le_trans HT.out.2.2.2 hbel.size⟩
  clear hbel
  by_cases hlt:j<N
  ·go_upto_region 3 with fail
   refine wp_region_list ?_
   refine wpList_load_row rfl 30 _ rfl W1.heap.size rfl _ _ (0,0) _ HX.out.1 underlying30 rfl (infoMs _ _ _) ?_
   go_wp2_with fail
   refine Calls.mono (stepped_anyM mk pk ck base wr HOK.out) ?_
   rintro e w2 ⟨p2,c2',rfl,own2,hfr,hmv⟩
   obtain ⟨m2,hm2⟩ : ∃ x,x=(stepP mk).1:=⟨_,rfl⟩
   obtain ⟨cd,hcd⟩ : ∃ x,x=(stepP mk).2:=⟨_,rfl⟩
   rw [<- hm2,<- hcd]
   rw [<- hm2] at own2
   have HS2:Hid (stepP mk=(m2,cd)):=by show _=_;rw [hm2,hcd]
   have HF2:Hid (Fine m2):=by show Fine _;rw [hm2];exact step_fine HI.out.2.2.2.2.1
   have HY2:Hid (w2.heap[W1.heap.size]? = some (.cells (cellsM mk pk ck) 30)/\RowX base ⟨j+1,m2,p2,c2',cd⟩ w2/\Still W1.heap.size pk X w2/\Moved X pk p2/\Below base W1 w2):=⟨fr_box hfr HX.out.2 HX.out.1,own2,HI.out.2.2.2.2.2.1.step hfr,mov_down HI.out.2.2.2.2.2.1.size hmv,fr_bel HI.out.2.2.2.2.2.2 (Nat.le_trans HT.out.2.2.2 HI.out.2.2.2.2.2.2.size) hfr (own_at HX.out.2)⟩
   clear hm2 hcd own2 hfr hmv HOK
   rename_i hK
   refine hK _ _ ?_
   clear hK
   refine wpList_plain rfl (fun K hK=>?_)
   go_simp
   refine hK _ _ ?_
   clear hK
   refine wpList_plain rfl (fun K hK=>?_)
   go_simp
   refine hK _ _ ?_
   clear hK
   refine wpList_plain rfl (fun K hK=>?_)
   go_simp
   refine hK _ _ ?_
   clear hK
   refine wpList_plain rfl (fun K hK=>?_)
   go_simp
   refine hK _ _ ?_
   clear hK
   refine wpList_store_row rfl 30 _ _ rfl w2.heap.size (cellsM m2 p2 c2') rfl rfl _ _ (heap_alloc_last w2 _) (infoMs _ _ _) (by rw [HZ.out,size_M,size_M]) (one_M _ _ _) ?_
   rw [World.setRow_alloc_new]
   go_upto_region 4 with fail
   obtain ⟨u2,hu2⟩ : ∃ u,u=w2.alloc (.cells (cellsM m2 p2 c2') 30):=⟨_,rfl⟩
   obtain ⟨B2,hB2⟩ : ∃ b,b=w2.heap.size:=⟨_,rfl⟩
   have HU:Hid (u2.heap[W1.heap.size]? = some (.cells (cellsM mk pk ck) 30)/\u2.heap[B2]? = some (.cells (cellsM m2 p2 c2') 30)/\Below base W1 u2/\W1.heap.size<=B2):=by
    obtain ⟨h1,h2,h3,h4,h5⟩:=HY2.out
    rw [hu2,hB2]
    exact ⟨(alloc_kept _ _ (zLo h1)).trans h1,heap_alloc_last w2 _,h5.alloc (Nat.le_trans HT.out.2.2.2 h5.size) _,h5.size⟩
   obtain ⟨fn,tmps,assign,body,hy,hR⟩:=HY.out _ X u2 ⟨j+1,m2,p2,c2',cd⟩ HJ.out (by
    obtain ⟨h1,h2,h3,h4,h5⟩:=HY2.out
    have h6:=HU.out.1
    rw [hu2] at h6 |-
    exact ⟨HI.out.2.1,hlt,rfl,HS2.out,h2.alloc _,h4,h3.alloc _,_,h6⟩)
   dsimp only [encs] at hy
   rw [<- hu2,<- hB2]
   clear hu2 hB2 HY2
   refine (wpIn_wide (n:=q+1)).1 ?_
   clear HX
   have HI2:Hid (J ⟨j,mk,pk,ck,code⟩ X/\Below base W1 u2):=⟨HJ.out,HU.out.2.2.1⟩
   by_cases hz0:cd=0
   ·subst hz0
    gi_wp2_with first|(refine Rin.load_row rfl 30 _ rfl B2 rfl _ _ (0,0) _ HU.out.2.1 underlying30 rfl (infoMs _ _ _) ?_)|fail
    refine hR.mono ?_
    rintro e W3 (⟨rfl,hJ3,hk3⟩|⟨rfl,hJx⟩)
    ·have HV:Hid (W3.heap[W1.heap.size]? = some (.cells (cellsM mk pk ck) 30)/\W3.heap[B2]? = some (.cells (cellsM m2 p2 c2') 30)):=⟨hk3.2.2 _ _ HU.out.1 (Nat.le_refl _),hk3.2.2 _ _ HU.out.2.1 HU.out.2.2.2⟩
     have HJ3:Hid (J ⟨j+1,m2,p2,c2',0⟩ W3):=hJ3
     have HI3:Hid (IInv base W1.heap.size (j+1) ⟨j+1,m2,p2,c2',0⟩ W3 W1 (W3.setRow W1.heap.size (cellsM m2 p2 c2'))) :=
      ⟨rfl,rfl,heap_row HV.out.1,World.ownsRow.kept (row:=some W1.heap.size) hk3.2.1 (set_row_grown _ _ _) (.inr (row_ne hk3.2.1 HV.out.1)),HF2.out,(Still.refl _ _ _).set rfl HV.out.1,below_row (HU.out.2.2.1.trans hk3.1) HT.out.2.2.2⟩
     clear hJ3 hk3
     have d1:IntKind.i64.wrap ((j:Int)+1)=(j:Int)+1:=by rw [IntKind.wrap_i64];omega
     gi_wp2_with fail
     go_upto_region 5 with fail
     refine wp_region_list ?_
     refine wpList_load_row rfl 30 _ rfl B2 rfl _ _ (0,0) _ HV.out.2 underlying30 rfl (infoMs _ _ _) ?_
     refine wpList_store_row rfl 30 _ _ rfl W1.heap.size _ rfl rfl _ _ HV.out.1 (infoMs _ _ _) (by rw [size_M,size_M]) (one_M _ _ _) ?_
     go_wp2_with fail
     go_roundw
     case rel=>exact ⟨j+1,_,W3,hlt,by go_num,HJ3.out,HI3.out⟩
     case measure=>simp [intOf];omega
    ·gi_wp2_with fail
     go_wp2
     refine bodyPost_ret (results_none rfl _ _ _) rfl ?_
     exact ⟨⟨_,rfl⟩,.inr hJx⟩
   ·have hne:(cd == 0)=false:=by simpa using hz0
    have HNZ:Hid (cd ≠ 0):=hz0
    clear hz0
    gi_wp2_with first|(refine Rin.load_row rfl 30 _ rfl B2 rfl _ _ (0,0) _ HU.out.2.1 underlying30 rfl (infoMs _ _ _) ?_)|fail
    refine hR.mono ?_
    rintro e W3 (⟨rfl,hJ3,hk3⟩|⟨rfl,hJx⟩)
    ·have HE:Hid (J ⟨j+1,m2,p2,c2',cd⟩ W3/\En base W1.heap.size N ⟨j+1,m2,p2,c2',cd⟩ W3 W3):=⟨hJ3,.inr HNZ.out,hk3.2.1,Still.refl _ _ _⟩
     clear hJ3 hk3
     gi_wp2_with fail
     go_wp2
     refine bodyPost_ret (results_none rfl _ _ _) rfl ?_
     exact ⟨⟨_,rfl⟩,.inl ⟨_,W3,HE.out.1,HE.out.2⟩⟩
    ·gi_wp2_with fail
     go_wp2
     refine bodyPost_ret (results_none rfl _ _ _) rfl ?_
     exact ⟨⟨_,rfl⟩,.inr hJx⟩
  ·go_wp2
   go_end0
   exact ⟨⟨_,rfl⟩,.inl ⟨_,X,HJ.out,.inl (by show j=N;omega),HX.out.2,HI.out.2.2.2.2.2.1⟩⟩
end Stfr
end Go.Proofs.YteglcgnhhoenbaaGreatDoor
