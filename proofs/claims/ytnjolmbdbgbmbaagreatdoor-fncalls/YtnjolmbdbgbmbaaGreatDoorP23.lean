/-
  Contracts and facts of ours, joined: Runi, Laid.
-/
import Derived.Test.YtnjolmbdbgbmbaaGreatDoorP21
import Derived.Test.YtnjolmbdbgbmbaaGreatDoorRows
import Derived.Lib.LaidTab
import Derived.OpenShut
import Derived.ProofKit
import Derived.Test.YtnjolmbdbgbmbaaGreatDoorP00
set_option linter.unusedVariables false
set_option linter.unusedSimpArgs false
set_option maxRecDepth 20000
set_option maxHeartbeats 8000000
open Go.ChangeShapes Go.WideShapes Go.ChangeAt Go.RowKit
open Go.Proofs.Tryz
namespace Go.Proofs.YtnjolmbdbgbmbaaGreatDoor.Runi
open Go.Deep
open Signed (inB)
open Busw Busx Busy Stpp Stpq Stpi Stpo Stpl Runp Ista
open MachT (heap_row heap_row_other below_row)
theorem fr_bel {w u u':World} {po:Option Addr} {n:Nat} (h:Below n w u) (hn:n<=u.heap.size) (hf:Fr u u' po) (ho:∀ p,po=some p->n<=p.block):Below n w u' :=
 ⟨hf.os.trans h.os,hf.tape.trans h.tape,hf.output.trans h.output,Nat.le_trans h.size hf.size,fun k hk=>(hf.block k (Nat.lt_of_lt_of_le hk hn) (fun e=>by
  cases po with
  | none=>cases e
  | some p=>have:=ho p rfl;have e2:k=p.block:=Option.some.inj e;omega)).trans (h.block k hk)⟩
theorem fr_box {u u':World} {po:Option Addr} {base n cap B:Nat} {xs:List Value} {cs:Array Value} (hf:Fr u u' po) (ho:u.ownsRow base 2 1 (.slice po n cap) n xs) (hb:u.heap[B]? = some (.cells cs 33)):u'.heap[B]? = some (.cells cs 33) :=
 (hf.block B (zLo hb) (fun e=>row_ne ho hb (by rw [blk_own];exact e.symm))).trans hb
structure Inv (w:World) (B:Nat) (u:World) (mk:M):Prop where
 box:∃ pk ck,u.heap[B]? = some (.cells (cellsM mk pk ck) 33)/\u.ownsRow w.heap.size 2 1 (.slice pk mk.out.length ck) mk.out.length (outC mk.out)
 fine:Fine mk
 res:u.heap[w.heap.size+1]? = some (.cells (cellsM Z0 none 0) 33)
 bel:Below w.heap.size w u
theorem ir_machine (m:M) (po:Option Addr) (cap:Nat) (n:Int) (w:World) (hs:Sm m) (hN:Sl w po m.out cap) (ht:Tb w) (hm:HolI.MaxL w) (hok:okMM m=false) :
  Calls prog 15 #[.agg (cellsM m po cap),.int .i64 n] w (Told3 m n w):=by
 have hz:=zeroM
 have c1:=fun W (h:Sl W po m.out cap)=>implOk_M m po cap W hs h
 have H0:Hid (∀ W,Below w.heap.size w W->Sl W po m.out cap):=fun W h=>hN.below h
 have HS:Hid (Sm m):=hs
 have HT:Hid (Tb w):=ht
 have HX0:Hid (HolI.MaxL w):=hm
 have HBT:Hid (prog.built 33 []=some (cellsM Z0 none 0)):=builtM
 rw [hok] at c1
 have HV:Hid (runV m n=(Z0,3,0)):=by show _=_;unfold runV;rw [if_neg (fun h=>by rw [hok] at h;exact absurd h.1 (by decide))]
 clear hN hs hok ht hm
 obtain ⟨cM,hcM⟩ : ∃ c,c=cellsM m po cap:=⟨_,rfl⟩
 obtain ⟨cZ,hcZ⟩ : ∃ c,c=cellsM Z0 none 0:=⟨_,rfl⟩
 have HM:Hid (cM=cellsM m po cap):=hcM
 have HZ:Hid (cZ=cellsM Z0 none 0):=hcZ
 have HIM:Hid ((prog.info? 33).map (·.size)=some cM.size):=hcM ▸ infoMs m po cap
 have HIZ:Hid ((prog.info? 33).map (·.size)=some cZ.size):=hcZ ▸ infoMs Z0 none 0
 have HOZ:Hid (cZ.all (·.oneCell')=true):=hcZ ▸ one_M Z0 none 0
 rw [<- hcM] at c1 |-
 rw [<- hcZ] at hz HBT
 clear hcM hcZ
 go_enter func15,ntmps15
 go_upto_region 1 with fail
 refine wp_region_list ?_
 have k0:((w.alloc (.cells cM 33)).alloc (.cells cZ 33)).heap[w.heap.size]? = some (.cells cM 33):=by
  rw [Below.heap_alloc _ _ _ (by simp)];exact heap_alloc_last w _
 refine wpList_load_row rfl 33 _ rfl w.heap.size rfl _ _ (0,0) _ k0 underlying33 rfl HIM.out ?_
 clear k0
 go_wp2_with fail
 refine Calls.mono (c1 _ (H0.out _ (by repeat (with_reducible first|exact zRf|refine zGr ?_ _|refine below_drewN ?_ _|refine Below.drew ?_)))) ?_
 rintro e w1 ⟨rfl,hb1⟩
 have HB:Hid (Below w.heap.size w w1):=HolI.after (by repeat (with_reducible first|exact zRf|refine zGr ?_ _|refine below_drewN ?_ _|refine Below.drew ?_)) hb1
 have HK:Hid (w1.heap[w.heap.size]? = some (.cells cM 33)):=by
  have h:=hb1.block w.heap.size (by simp;omega)
  rw [Below.heap_alloc _ _ _ (by simp)] at h
  exact h.trans (heap_alloc_last w _)
 have HR:Hid (w1.heap[w.heap.size+1]? = some (.cells cZ 33)):=by
  have h:=hb1.block (w.heap.size+1) (by simp)
  have h2:=heap_alloc_last (w.alloc (.cells cM 33)) (.cells cZ 33)
  simp only [World.size_alloc] at h2
  exact h.trans h2
 clear hb1 c1
 go_upto_region 2 with fail
 refine wp_region_list ?_
 refine wpList_build0 rfl 33 rfl cZ HBT.out ?_
 refine wpList_store_row rfl 33 _ _ rfl (w.heap.size+1) cZ rfl rfl _ _ HR.out HIZ.out rfl HOZ.out ?_
 have HF:Hid ((w1.setRow (w.heap.size+1) cZ).heap[w.heap.size+1]? = some (.cells cZ 33)):=heap_row HR.out
 have HG:Hid (Below w.heap.size w (w1.setRow (w.heap.size+1) cZ)):=below_row HB.out (by omega)
 go_wp2
 refine bodyPost_ret (v:=.tuple #[.agg cZ,.int .i64 3,.int .i64 0]) (results_three results15 _ _ (w.heap.size+1) _ _ (0,0) _ _ _ rfl rfl rfl HF.out underlying33 rfl HIZ.out) rfl ?_
 refine ⟨⟨none,0,by rw [HV.out,HZ.out],?_⟩,HG.out⟩
 rw [HV.out]
 exact Ista.own_nil _ _ HG.out.size
theorem ir_low (m:M) (po:Option Addr) (cap:Nat) (n:Int) (w:World) (hs:Sm m) (hN:Sl w po m.out cap) (ht:Tb w) (hm:HolI.MaxL w) (hok:okMM m=true) (hn:n<0) :
  Calls prog 15 #[.agg (cellsM m po cap),.int .i64 n] w (Told3 m n w):=by
 have hz:=zeroM
 have c1:=fun W (h:Sl W po m.out cap)=>implOk_M m po cap W hs h
 have H0:Hid (∀ W,Below w.heap.size w W->Sl W po m.out cap):=fun W h=>hN.below h
 have HS:Hid (Sm m):=hs
 have HT:Hid (Tb w):=ht
 have HX0:Hid (HolI.MaxL w):=hm
 have HBT:Hid (prog.built 33 []=some (cellsM Z0 none 0)):=builtM
 rw [hok] at c1
 have HV:Hid (runV m n=(Z0,3,0)):=by show _=_;unfold runV;rw [if_neg (fun h=>by omega)]
 have hd:decide (n<0)=true:=decide_eq_true hn
 clear hN hs hok ht hm
 obtain ⟨cM,hcM⟩ : ∃ c,c=cellsM m po cap:=⟨_,rfl⟩
 obtain ⟨cZ,hcZ⟩ : ∃ c,c=cellsM Z0 none 0:=⟨_,rfl⟩
 have HM:Hid (cM=cellsM m po cap):=hcM
 have HZ:Hid (cZ=cellsM Z0 none 0):=hcZ
 have HIM:Hid ((prog.info? 33).map (·.size)=some cM.size):=hcM ▸ infoMs m po cap
 have HIZ:Hid ((prog.info? 33).map (·.size)=some cZ.size):=hcZ ▸ infoMs Z0 none 0
 have HOZ:Hid (cZ.all (·.oneCell')=true):=hcZ ▸ one_M Z0 none 0
 rw [<- hcM] at c1 |-
 rw [<- hcZ] at hz HBT
 clear hcM hcZ
 go_enter func15,ntmps15
 go_upto_region 1 with fail
 refine wp_region_list ?_
 have k0:((w.alloc (.cells cM 33)).alloc (.cells cZ 33)).heap[w.heap.size]? = some (.cells cM 33):=by
  rw [Below.heap_alloc _ _ _ (by simp)];exact heap_alloc_last w _
 refine wpList_load_row rfl 33 _ rfl w.heap.size rfl _ _ (0,0) _ k0 underlying33 rfl HIM.out ?_
 clear k0
 go_wp2_with fail
 refine Calls.mono (c1 _ (H0.out _ (by repeat (with_reducible first|exact zRf|refine zGr ?_ _|refine below_drewN ?_ _|refine Below.drew ?_)))) ?_
 rintro e w1 ⟨rfl,hb1⟩
 have HB:Hid (Below w.heap.size w w1):=HolI.after (by repeat (with_reducible first|exact zRf|refine zGr ?_ _|refine below_drewN ?_ _|refine Below.drew ?_)) hb1
 have HK:Hid (w1.heap[w.heap.size]? = some (.cells cM 33)):=by
  have h:=hb1.block w.heap.size (by simp;omega)
  rw [Below.heap_alloc _ _ _ (by simp)] at h
  exact h.trans (heap_alloc_last w _)
 have HR:Hid (w1.heap[w.heap.size+1]? = some (.cells cZ 33)):=by
  have h:=hb1.block (w.heap.size+1) (by simp)
  have h2:=heap_alloc_last (w.alloc (.cells cM 33)) (.cells cZ 33)
  simp only [World.size_alloc] at h2
  exact h.trans h2
 clear hb1 c1
 go_upto_region 2 with fail
 refine wp_region_list ?_
 refine wpList_build0 rfl 33 rfl cZ HBT.out ?_
 refine wpList_store_row rfl 33 _ _ rfl (w.heap.size+1) cZ rfl rfl _ _ HR.out HIZ.out rfl HOZ.out ?_
 have HF:Hid ((w1.setRow (w.heap.size+1) cZ).heap[w.heap.size+1]? = some (.cells cZ 33)):=heap_row HR.out
 have HG:Hid (Below w.heap.size w (w1.setRow (w.heap.size+1) cZ)):=below_row HB.out (by omega)
 go_wp2
 refine bodyPost_ret (v:=.tuple #[.agg cZ,.int .i64 3,.int .i64 0]) (results_three results15 _ _ (w.heap.size+1) _ _ (0,0) _ _ _ rfl rfl rfl HF.out underlying33 rfl HIZ.out) rfl ?_
 refine ⟨⟨none,0,by rw [HV.out,HZ.out],?_⟩,HG.out⟩
 rw [HV.out]
 exact Ista.own_nil _ _ HG.out.size
theorem ir_high (m:M) (po:Option Addr) (cap:Nat) (n:Int) (w:World) (hs:Sm m) (hN:Sl w po m.out cap) (ht:Tb w) (hm:HolI.MaxL w) (hok:okMM m=true) (hn:500<n) :
  Calls prog 15 #[.agg (cellsM m po cap),.int .i64 n] w (Told3 m n w):=by
 have hz:=zeroM
 have c1:=fun W (h:Sl W po m.out cap)=>implOk_M m po cap W hs h
 have H0:Hid (∀ W,Below w.heap.size w W->Sl W po m.out cap):=fun W h=>hN.below h
 have HS:Hid (Sm m):=hs
 have HT:Hid (Tb w):=ht
 have HX0:Hid (HolI.MaxL w):=hm
 have HBT:Hid (prog.built 33 []=some (cellsM Z0 none 0)):=builtM
 rw [hok] at c1
 have HV:Hid (runV m n=(Z0,3,0)):=by show _=_;unfold runV;rw [if_neg (fun h=>by omega)]
 have hd:decide (n<0)=false:=decide_eq_false (by omega)
 have hd2:decide (500<n)=true:=decide_eq_true hn
 clear hN hs hok ht hm
 obtain ⟨cM,hcM⟩ : ∃ c,c=cellsM m po cap:=⟨_,rfl⟩
 obtain ⟨cZ,hcZ⟩ : ∃ c,c=cellsM Z0 none 0:=⟨_,rfl⟩
 have HM:Hid (cM=cellsM m po cap):=hcM
 have HZ:Hid (cZ=cellsM Z0 none 0):=hcZ
 have HIM:Hid ((prog.info? 33).map (·.size)=some cM.size):=hcM ▸ infoMs m po cap
 have HIZ:Hid ((prog.info? 33).map (·.size)=some cZ.size):=hcZ ▸ infoMs Z0 none 0
 have HOZ:Hid (cZ.all (·.oneCell')=true):=hcZ ▸ one_M Z0 none 0
 rw [<- hcM] at c1 |-
 rw [<- hcZ] at hz HBT
 clear hcM hcZ
 go_enter func15,ntmps15
 go_upto_region 1 with fail
 refine wp_region_list ?_
 have k0:((w.alloc (.cells cM 33)).alloc (.cells cZ 33)).heap[w.heap.size]? = some (.cells cM 33):=by
  rw [Below.heap_alloc _ _ _ (by simp)];exact heap_alloc_last w _
 refine wpList_load_row rfl 33 _ rfl w.heap.size rfl _ _ (0,0) _ k0 underlying33 rfl HIM.out ?_
 clear k0
 go_wp2_with fail
 refine Calls.mono (c1 _ (H0.out _ (by repeat (with_reducible first|exact zRf|refine zGr ?_ _|refine below_drewN ?_ _|refine Below.drew ?_)))) ?_
 rintro e w1 ⟨rfl,hb1⟩
 have HB:Hid (Below w.heap.size w w1):=HolI.after (by repeat (with_reducible first|exact zRf|refine zGr ?_ _|refine below_drewN ?_ _|refine Below.drew ?_)) hb1
 have HK:Hid (w1.heap[w.heap.size]? = some (.cells cM 33)):=by
  have h:=hb1.block w.heap.size (by simp;omega)
  rw [Below.heap_alloc _ _ _ (by simp)] at h
  exact h.trans (heap_alloc_last w _)
 have HR:Hid (w1.heap[w.heap.size+1]? = some (.cells cZ 33)):=by
  have h:=hb1.block (w.heap.size+1) (by simp)
  have h2:=heap_alloc_last (w.alloc (.cells cM 33)) (.cells cZ 33)
  simp only [World.size_alloc] at h2
  exact h.trans h2
 clear hb1 c1
 go_upto_region 2 with fail
 refine wp_region_list ?_
 refine wpList_build0 rfl 33 rfl cZ HBT.out ?_
 refine wpList_store_row rfl 33 _ _ rfl (w.heap.size+1) cZ rfl rfl _ _ HR.out HIZ.out rfl HOZ.out ?_
 have HF:Hid ((w1.setRow (w.heap.size+1) cZ).heap[w.heap.size+1]? = some (.cells cZ 33)):=heap_row HR.out
 have HG:Hid (Below w.heap.size w (w1.setRow (w.heap.size+1) cZ)):=below_row HB.out (by omega)
 go_wp2
 refine bodyPost_ret (v:=.tuple #[.agg cZ,.int .i64 3,.int .i64 0]) (results_three results15 _ _ (w.heap.size+1) _ _ (0,0) _ _ _ rfl rfl rfl HF.out underlying33 rfl HIZ.out) rfl ?_
 refine ⟨⟨none,0,by rw [HV.out,HZ.out],?_⟩,HG.out⟩
 rw [HV.out]
 exact Ista.own_nil _ _ HG.out.size
theorem ir_main (m:M) (po:Option Addr) (cap:Nat) (n:Int) (w:World) (hs:Sm m) (hN:Sl w po m.out cap) (ht:Tb w) (hm:HolI.MaxL w) (hok:okMM m=true) (hn:0<=n/\n<=500) :
  Calls prog 15 #[.agg (cellsM m po cap),.int .i64 n] w (Told3 m n w):=by
 have hz:=zeroM
 have c1:=fun W (h:Sl W po m.out cap)=>implOk_M m po cap W hs h
 have H0:Hid (∀ W,Below w.heap.size w W->Sl W po m.out cap):=fun W h=>hN.below h
 have HS:Hid (Sm m):=hs
 have HT:Hid (Tb w):=ht
 have HX0:Hid (HolI.MaxL w):=hm
 have HBT:Hid (prog.built 33 []=some (cellsM Z0 none 0)):=builtM
 rw [hok] at c1
 have HGD:Hid (Fine m):=good_of hok hs
 have HLE:Hid (m.out.length<=1048576):=hs.out
 have HV:Hid (runV m n=runP n.toNat 0 m):=by show _=_;unfold runV;rw [if_pos ⟨hok,hn⟩]
 have hd:decide (n<0)=false:=decide_eq_false (by omega)
 have hd2:decide (500<n)=false:=decide_eq_false (by omega)
 clear hN hs hok ht hm
 obtain ⟨cM,hcM⟩ : ∃ c,c=cellsM m po cap:=⟨_,rfl⟩
 obtain ⟨cZ,hcZ⟩ : ∃ c,c=cellsM Z0 none 0:=⟨_,rfl⟩
 have HM:Hid (cM=cellsM m po cap):=hcM
 have HZ:Hid (cZ=cellsM Z0 none 0):=hcZ
 have HIM:Hid ((prog.info? 33).map (·.size)=some cM.size):=hcM ▸ infoMs m po cap
 have HIZ:Hid ((prog.info? 33).map (·.size)=some cZ.size):=hcZ ▸ infoMs Z0 none 0
 have HOZ:Hid (cZ.all (·.oneCell')=true):=hcZ ▸ one_M Z0 none 0
 rw [<- hcM] at c1 |-
 rw [<- hcZ] at hz HBT
 clear hcM hcZ
 go_enter func15,ntmps15
 go_upto_region 1 with fail
 refine wp_region_list ?_
 have k0:((w.alloc (.cells cM 33)).alloc (.cells cZ 33)).heap[w.heap.size]? = some (.cells cM 33):=by
  rw [Below.heap_alloc _ _ _ (by simp)];exact heap_alloc_last w _
 refine wpList_load_row rfl 33 _ rfl w.heap.size rfl _ _ (0,0) _ k0 underlying33 rfl HIM.out ?_
 clear k0
 go_wp2_with fail
 refine Calls.mono (c1 _ (H0.out _ (by repeat (with_reducible first|exact zRf|refine zGr ?_ _|refine below_drewN ?_ _|refine Below.drew ?_)))) ?_
 rintro e w1 ⟨rfl,hb1⟩
 have HB:Hid (Below w.heap.size w w1):=HolI.after (by repeat (with_reducible first|exact zRf|refine zGr ?_ _|refine below_drewN ?_ _|refine Below.drew ?_)) hb1
 have HK:Hid (w1.heap[w.heap.size]? = some (.cells cM 33)):=by
  have h:=hb1.block w.heap.size (by simp;omega)
  rw [Below.heap_alloc _ _ _ (by simp)] at h
  exact h.trans (heap_alloc_last w _)
 have HR:Hid (w1.heap[w.heap.size+1]? = some (.cells cZ 33)):=by
  have h:=hb1.block (w.heap.size+1) (by simp)
  have h2:=heap_alloc_last (w.alloc (.cells cM 33)) (.cells cZ 33)
  simp only [World.size_alloc] at h2
  exact h.trans h2
 clear hb1 c1
 rw [HM.out] at HK
 have q21:w1.cell? ⟨w.heap.size,21,none⟩=some (.slice po m.out.length cap):=celM HK.out 21 _ rfl
 go_upto_region 3 with fail
 go_wp2_with fail
 refine Calls.mono (clone_any po m.out cap w1 (H0.out w1 HB.out) HLE.out) ?_
 rintro e w2 ⟨⟨po',cap',rfl,own⟩,hb2⟩
 have HH:Hid (Held (w2.setCell ⟨w.heap.size,21,none⟩ (.slice po' m.out.length cap')) w.heap.size w.heap.size m po' cap'):=lay HB.out HK.out hb2 own
 have hlt:w.heap.size<w1.heap.size:=(zLo HK.out)
 have hlt1:w.heap.size+1<w1.heap.size:=(zLo HR.out)
 have HZ2:Hid ((w2.setCell ⟨w.heap.size,21,none⟩ (.slice po' m.out.length cap')).heap[w.heap.size+1]? = some (.cells cZ 33)):=by
  show _=_
  rw [Below.heap_setCell _ _ _ _ (by simp),hb2.block _ hlt1];exact HR.out
 have q21':w2.cell? ⟨w.heap.size,21,none⟩=some (.slice po m.out.length cap):=(hb2.cell (p:=⟨w.heap.size,21,none⟩) hlt).trans q21
 have f21':w2.frozen? ⟨w.heap.size,21,none⟩=false:=by
  rw [World.frozen?_of_block (a:=⟨w.heap.size,21,none⟩) (hb2.block w.heap.size hlt)];exact frozen_of_row _ _ _ _ _ HK.out
 have HB3:Hid (Below w.heap.size w (w2.setCell ⟨w.heap.size,21,none⟩ (.slice po' m.out.length cap'))):=(HolI.after HB.out hb2).setCell (Nat.le_refl _) _
 have HI:Hid (Inv w w.heap.size (w2.setCell ⟨w.heap.size,21,none⟩ (.slice po' m.out.length cap')) m) :=
  ⟨⟨po',cap',HH.out.box,HH.out.row⟩,HGD.out,by rw [<- HZ.out];exact HZ2.out,HB3.out⟩
 clear q21 own hb2 hlt hlt1
 go_upto_region 4 with fail
 clear q21' f21' HH HZ2 HB3 HB HR HK
 generalize w2.setCell ⟨w.heap.size,21,none⟩ (.slice po' m.out.length cap')=W3 at *
 obtain ⟨N,hN⟩ : ∃ N:Nat,(N:Int)=n:=⟨n.toNat,by omega⟩
 subst hN
 clear hd hd2
 go_wp2_with fail
 go_loopw [27] (fun i wr=>∃ (k:Nat) (mk:M),k<=N/\i=.int .i64 (k:Int)/\Hid (runP (N-k) k mk=runP N 0 m)/\Hid (Inv w w.heap.size wr mk)) (fun i _=>N-(intOf i).toNat)
 case atStart=>exact ⟨0,m,Nat.zero_le _,rfl,rfl,HI.out⟩
 case round =>
  clear HI
  obtain ⟨k,mk,hk,rfl,HR1,HI1⟩:=hrel
  obtain ⟨⟨pk,ck,hbox,hown⟩,hfine,hres,hbel⟩:=HI1.out
  have HX:Hid (wr.heap[w.heap.size]? = some (.cells (cellsM mk pk ck) 33)/\wr.ownsRow w.heap.size 2 1 (.slice pk mk.out.length ck) mk.out.length (outC mk.out)/\Fine mk/\wr.heap[w.heap.size+1]? = some (.cells (cellsM Z0 none 0) 33)/\Below w.heap.size w wr):=⟨hbox,hown,hfine,hres,hbel⟩
  have HOK:Hid (Ok wr w.heap.size mk pk ck):=⟨hown,hfine.1,hfine.2,HT.out.below hbel,HX0.out.below hbel,⟨(tb_lt HT.out).1,(tb_lt HT.out).2,max_lt HX0.out⟩,hbel.size⟩
  clear hbox hown hfine hres hbel HI1
  by_cases hlt:k<N
  ·go_upto_region 7 with fail
   refine wp_region_list ?_
   refine wpList_load_row rfl 33 _ rfl w.heap.size rfl _ _ (0,0) _ HX.out.1 underlying33 rfl (infoMs _ _ _) ?_
   go_wp2_with fail
   refine Calls.mono (stepped_any mk pk ck w.heap.size wr HOK.out) ?_
   rintro e w2 ⟨p2,c2,rfl,own2,hfr⟩
   obtain ⟨m2,hm2⟩ : ∃ x,x=(stepP mk).1:=⟨_,rfl⟩
   obtain ⟨cd,hcd⟩ : ∃ x,x=(stepP mk).2:=⟨_,rfl⟩
   rw [<- hm2,<- hcd]
   rw [<- hm2] at own2
   have HM2:Hid (m2=(stepP mk).1):=hm2
   have HCD:Hid (cd=(stepP mk).2):=hcd
   have HY2:Hid (w2.heap[w.heap.size]? = some (.cells (cellsM mk pk ck) 33)/\w2.heap[w.heap.size+1]? = some (.cells (cellsM Z0 none 0) 33)/\Below w.heap.size w w2):=⟨fr_box hfr HX.out.2.1 HX.out.1,fr_box hfr HX.out.2.1 HX.out.2.2.2.1,fr_bel HX.out.2.2.2.2 HX.out.2.2.2.2.size hfr (own_at HX.out.2.1)⟩
   have HO2:Hid (w2.ownsRow w.heap.size 2 1 (.slice p2 m2.out.length c2) m2.out.length (outC m2.out)):=own2
   clear hm2 hcd own2 hfr HOK
   rename_i hK
   refine hK _ _ ?_
   clear hK
   refine wpList_plain rfl (fun K hK=>?_)
   go_simp
   refine hK _ _ ?_
   clear hK
   refine wpList_plain rfl (fun K hK=>?_)
   go_simp
   refine hK _ _ ?_
   clear hK
   refine wpList_plain rfl (fun K hK=>?_)
   go_simp
   refine hK _ _ ?_
   clear hK
   refine wpList_plain rfl (fun K hK=>?_)
   go_simp
   refine hK _ _ ?_
   clear hK
   refine wpList_store_row rfl 33 _ _ rfl w2.heap.size (cellsM m2 p2 c2) rfl rfl _ _ (heap_alloc_last w2 _) (infoMs _ _ _) (by rw [HZ.out,size_M,size_M]) (one_M _ _ _) ?_
   rw [World.setRow_alloc_new]
   go_upto_region 8 with fail
   obtain ⟨u2,hu2⟩ : ∃ u,u=w2.alloc (.cells (cellsM m2 p2 c2) 33):=⟨_,rfl⟩
   obtain ⟨B2,hB2⟩ : ∃ b,b=w2.heap.size:=⟨_,rfl⟩
   have HU:Hid (u2.heap[w.heap.size]? = some (.cells (cellsM mk pk ck) 33)/\u2.heap[w.heap.size+1]? = some (.cells (cellsM Z0 none 0) 33)/\Below w.heap.size w u2/\u2.heap[B2]? = some (.cells (cellsM m2 p2 c2) 33)/\u2.ownsRow w.heap.size 2 1 (.slice p2 m2.out.length c2) m2.out.length (outC m2.out)):=by
    obtain ⟨h1,h3,h4⟩:=HY2.out
    rw [hu2,hB2]
    exact ⟨(alloc_kept _ _ (zLo h1)).trans h1,(alloc_kept _ _ (zLo h3)).trans h3,zGr h4 _,heap_alloc_last w2 _,HO2.out.alloc _⟩
   rw [<- hu2,<- hB2]
   clear hu2 hB2 HY2 HO2
   by_cases hz0:cd=0
   ·subst hz0
    go_upto_region 10 with fail
    refine wp_region_list ?_
    refine wpList_load_row rfl 33 _ rfl B2 rfl _ _ (0,0) _ HU.out.2.2.2.1 underlying33 rfl (infoMs _ _ _) ?_
    refine wpList_store_row rfl 33 _ _ rfl w.heap.size _ rfl rfl _ _ HU.out.1 (infoMs _ _ _) (by rw [size_M,size_M]) (one_M _ _ _) ?_
    have HI2:Hid (Inv w w.heap.size (u2.setRow w.heap.size (cellsM m2 p2 c2)) m2):=by
     obtain ⟨h1,h3,h4,h5,h6⟩:=HU.out
     exact ⟨⟨p2,c2,heap_row h1,World.ownsRow.kept (row:=some w.heap.size) h6 (set_row_grown _ _ _) (.inr (row_ne h6 h1))⟩,by rw [HM2.out];exact step_fine HX.out.2.2.1,(heap_row_other (by omega) _).trans h3,below_row h4 (Nat.le_refl _)⟩
    have d1:IntKind.i64.wrap ((k:Int)+1)=(k:Int)+1:=by rw [IntKind.wrap_i64];omega
    go_wp2_with fail
    go_roundw
    case rel =>
     refine ⟨k+1,m2,by omega,by go_num,?_,HI2.out⟩
     show _=_
     have e1:N-k=(N-(k+1))+1:=by omega
     rw [<- HR1.out,e1,run_go HCD.out.symm,HM2.out]
     rfl
    case measure=>simp [intOf];omega
   ·have hne:(cd == 0)=false:=by simpa using hz0
    have HV2:Hid (runV m (N:Int)=(m2,cd,(k:Int))):=by
     show _=_
     have e1:N-k=(N-(k+1))+1:=by omega
     rw [HV.out,Int.toNat_natCast,<- HR1.out,e1,run_stop (by rw [<- HCD.out];exact hz0),HCD.out,HM2.out,step_stays (by rw [<- HCD.out];exact hz0)]
    go_upto_region 9 with fail
    refine wp_region_list ?_
    refine wpList_load_row rfl 33 _ rfl B2 rfl _ _ (0,0) _ HU.out.2.2.2.1 underlying33 rfl (infoMs _ _ _) ?_
    refine wpList_plain rfl (fun K hK=>?_)
    go_simp
    refine hK _ _ ?_
    clear hK
    refine wpList_plain rfl (fun K hK=>?_)
    go_simp
    refine hK _ _ ?_
    clear hK
    refine wpList_store_row rfl 33 _ _ rfl (w.heap.size+1) _ rfl rfl _ _ HU.out.2.1 (infoMs _ _ _) (by rw [size_M,size_M]) (one_M _ _ _) ?_
    have HF:Hid ((u2.setRow (w.heap.size+1) (cellsM m2 p2 c2)).heap[w.heap.size+1]? = some (.cells (cellsM m2 p2 c2) 33)):=heap_row HU.out.2.1
    have HG:Hid (Below w.heap.size w (u2.setRow (w.heap.size+1) (cellsM m2 p2 c2))):=below_row HU.out.2.2.1 (by omega)
    have HOw:Hid ((u2.setRow (w.heap.size+1) (cellsM m2 p2 c2)).ownsRow w.heap.size 2 1 (.slice p2 m2.out.length c2) m2.out.length (outC m2.out)):=World.ownsRow.kept (row:=some (w.heap.size+1)) HU.out.2.2.2.2 (set_row_grown _ _ _) (.inr (row_ne HU.out.2.2.2.2 HU.out.2.1))
    go_wp2
    refine bodyPost_ret (v:=.tuple #[.agg (cellsM m2 p2 c2),.int .i64 cd,.int .i64 (k:Int)]) (results_three results15 _ _ (w.heap.size+1) _ _ (0,0) _ _ _ rfl rfl rfl HF.out underlying33 rfl (infoMs _ _ _)) rfl ?_
    exact ⟨⟨p2,c2,by rw [HV2.out],by rw [HV2.out];exact HOw.out⟩,HG.out⟩
  ·have HV2:Hid (runV m (N:Int)=(mk,0,(N:Int))):=by
    show _=_
    have e:k=N:=by omega
    rw [HV.out,Int.toNat_natCast,<- HR1.out,e,Nat.sub_self];rfl
   go_upto_region 12 with fail
   refine wp_region_list ?_
   refine wpList_load_row rfl 33 _ rfl w.heap.size rfl _ _ (0,0) _ HX.out.1 underlying33 rfl (infoMs _ _ _) ?_
   refine wpList_plain rfl (fun K hK=>?_)
   go_simp
   refine hK _ _ ?_
   clear hK
   refine wpList_store_row rfl 33 _ _ rfl (w.heap.size+1) _ rfl rfl _ _ HX.out.2.2.2.1 (infoMs _ _ _) (by rw [size_M,size_M]) (one_M _ _ _) ?_
   have HF:Hid ((wr.setRow (w.heap.size+1) (cellsM mk pk ck)).heap[w.heap.size+1]? = some (.cells (cellsM mk pk ck) 33)):=heap_row HX.out.2.2.2.1
   have HG:Hid (Below w.heap.size w (wr.setRow (w.heap.size+1) (cellsM mk pk ck))):=below_row HX.out.2.2.2.2 (by omega)
   have HOw:Hid ((wr.setRow (w.heap.size+1) (cellsM mk pk ck)).ownsRow w.heap.size 2 1 (.slice pk mk.out.length ck) mk.out.length (outC mk.out)):=World.ownsRow.kept (row:=some (w.heap.size+1)) HX.out.2.1 (set_row_grown _ _ _) (.inr (row_ne HX.out.2.1 HX.out.2.2.2.1))
   go_wp2
   refine bodyPost_ret (v:=.tuple #[.agg (cellsM mk pk ck),.int .i64 0,.int .i64 (N:Int)]) (results_three results15 _ _ (w.heap.size+1) _ _ (0,0) _ _ _ rfl rfl rfl HF.out underlying33 rfl (infoMs _ _ _)) rfl ?_
   exact ⟨⟨pk,ck,by rw [HV2.out],by rw [HV2.out];exact HOw.out⟩,HG.out⟩
theorem implRun_any (m:M) (po:Option Addr) (cap:Nat) (n:Int) (w:World) (hs:Sm m) (hN:Sl w po m.out cap) (ht:Tb w) (hm:HolI.MaxL w) :
  Calls prog 15 #[.agg (cellsM m po cap),.int .i64 n] w (Told3 m n w):=by
 cases hok:okMM m with
 | false=>exact ir_machine m po cap n w hs hN ht hm hok
 | true =>
  by_cases h1:n<0
  ·exact ir_low m po cap n w hs hN ht hm hok h1
  by_cases h2:500<n
  ·exact ir_high m po cap n w hs hN ht hm hok h2
  ·exact ir_main m po cap n w hs hN ht hm hok ⟨by omega,by omega⟩
end Go.Proofs.YtnjolmbdbgbmbaaGreatDoor.Runi
namespace Go.Proofs.YtnjolmbdbgbmbaaGreatDoor.Laid
open Go.ChangeShapes Go.WideShapes Go.RowKit
theorem skip {P:Program} {W:World} {x:String × DataW Unit} {rest:List (String × DataW Unit)} {ps:List MemPlace} (h:DataW.LaidVars P W (x :: rest) ps):∃ q,DataW.LaidVars P W rest q:=by
 obtain ⟨n,d⟩:=x
 obtain ⟨_,_,_,_,_,q,_,_,_,_,h,_⟩:=h
 exact ⟨q,h⟩
def txtData (l:List (List UInt8)):DataW Unit:=.agg (l.map fun s=>.lit (.string s))
theorem txts {P:Program} {W:World} {name:String} {l:List (List UInt8)} {rest:List (String × DataW Unit)} {ps:List MemPlace} {g:Nat} {t e:TypeId} {n:Nat}
  (hg:P.globalNamed name=some g) (hty:(P.globals[g]?).map (·.type)=some t) (ht:P.underlying t=some (.array n e)) (he:P.underlying e=some .string) (hce:P.cellsOf e=1) (hct:P.cellsOf t=n)
  (h:DataW.LaidVars P W ((name,txtData l) :: rest) ps):∀ i,i<l.length->W.cell? ⟨g,i,none⟩=some (.string ⟨(l.getD i []).toArray⟩):=by
 obtain ⟨g',t',cs,fuel,p,q,hg',ht',hvar,hd,_,_⟩:=h
 obtain rfl:=Option.some.inj (hg.symm.trans hg')
 obtain rfl:=Option.some.inj (hty.symm.trans ht')
 intro i hi
 rw [World.var?_cell hg hvar i]
 cases fuel with
 | zero=>simp [DataW.trod] at hd
 | succ fuel =>
  simp only [DataW.trod,ht,hce,hct,Nat.mul_one] at hd
  split at hd
  ·obtain ⟨xs,hm,hx⟩:=Option.map_eq_some_iff.1 hd
   have hxs:xs.map (·.1)=l.map fun s=>(DataW.lit (.string s):DataW Unit):=by
    have:=congrArg Prod.fst hx
    simpa [txtData] using this
   have hxl:xs.length=n:=by simpa using Lib.mapM_length hm
   have hln:l.length=n:=by
    have:=congrArg List.length hxs
    simp at this
    omega
   have hi':i<n:=by omega
   obtain ⟨b,hb,hf⟩:=Lib.mapM_at hm i i (by simp [hi'])
   obtain ⟨s,hc,rfl,_⟩:=DataW.trod_string he hf
   have h1:cs.toList[i]? = some (.string s):=by
    have:=congrArg (·[0]?) hc
    simpa [List.getElem?_take,List.getElem?_drop] using this
   have h2:(xs.map (·.1))[i]? = some (DataW.lit (.string s.data.toList):DataW Unit):=by simp [hb]
   rw [hxs] at h2
   simp only [List.getElem?_map,Option.map_eq_some_iff,DataW.lit.injEq,Lit.string.injEq] at h2
   obtain ⟨z,hz,hzs⟩:=h2
   rw [<- Array.getElem?_toList,h1,List.getD_eq_getElem?_getD,hz]
   simp [hzs]
  ·cases hd
theorem vars_len {H:Type} {enc:TypeId × Value->H} {P:Program} {w:World} {sp:Nat->Bool}:∀ {ns:List String} {gs:List (DataW H)} {ps:List MemPlace},DataW.TrodVars enc P w sp ns gs ps->gs.length=ns.length
 | [],[],_,_=>rfl
 | [],_ :: _,_,h=>h.elim
 | _ :: _,[],_,h=>h.elim
 | _ :: ns,_ :: gs,_,h=>by
  obtain ⟨_,_,_,_,_,q,_,_,_,_,h,_⟩:=h
  simp only [List.length_cons]
  rw [vars_len h]
end Go.Proofs.YtnjolmbdbgbmbaaGreatDoor.Laid
