/-
  Contracts and facts of ours, joined: Stdh, Busm, Mact, Busl, Laid.
-/
import Derived.Test.YtkfehdkjeodbmaaGreatDoorS33
import Derived.Test.YtkfehdkjeodbmaaGreatDoorP07
import Derived.Test.YtkfehdkjeodbmaaGreatDoorRows
import Derived.Lib.LaidTab
import Derived.OpenShut
import Derived.ProofKit
import Derived.Test.YtkfehdkjeodbmaaGreatDoorP00
set_option linter.unusedVariables false
set_option linter.unusedSimpArgs false
set_option maxRecDepth 20000
set_option maxHeartbeats 8000000
open Go.ChangeShapes Go.WideShapes Go.ChangeAt Go.RowKit
open Go.Proofs.Tryz
namespace Go.Proofs.YtkfehdkjeodbmaaGreatDoor.Stdh
open Go.Deep
open Signed (inB sgn ret_int ret_bool)
open Busw Busx Stpp Stpq Stpi Stpj Stpo Stdg
open Ista (stepV)
open MachT (heap_row heap_row_other below_row)
theorem specStep_any (m:M) (po:Option Addr) (cap:Nat) (w:World) (hs:Sm m) (hN:Sl w po m.out cap) (hpo:∀ p,po=some p->p.block<w.heap.size) :
  Calls prog 7 #[.agg (cellsM m po cap)] w (Ista.Told m w):=by
 have hz:=zeroM
 have c1:=fun W (h:Sl W po m.out cap)=>specOk_M m po cap W hs h
 have H0:Hid (∀ W,Below w.heap.size w W->Sl W po m.out cap):=fun W h=>hN.below h
 have HS:Hid (Sm m):=hs
 have HP:Hid (∀ p,po=some p->p.block<w.heap.size):=hpo
 have HBT:Hid (prog.built 33 []=some (cellsM Z0 none 0)):=builtM
 obtain ⟨b,hb⟩ : ∃ x,x=okMM m:=⟨_,rfl⟩
 have HO:Hid (b=okMM m):=hb
 rw [<- hb] at c1
 clear hN hs hb hpo
 obtain ⟨cM,hcM⟩ : ∃ c,c=cellsM m po cap:=⟨_,rfl⟩
 obtain ⟨cZ,hcZ⟩ : ∃ c,c=cellsM Z0 none 0:=⟨_,rfl⟩
 have HM:Hid (cM=cellsM m po cap):=hcM
 have HZ:Hid (cZ=cellsM Z0 none 0):=hcZ
 have HIM:Hid ((prog.info? 33).map (·.size)=some cM.size):=hcM ▸ infoMs m po cap
 have HIZ:Hid ((prog.info? 33).map (·.size)=some cZ.size):=hcZ ▸ infoMs Z0 none 0
 have HOZ:Hid (cZ.all (·.oneCell')=true):=hcZ ▸ one_M Z0 none 0
 rw [<- hcM] at c1 |-
 rw [<- hcZ] at hz HBT
 clear hcM hcZ
 go_enter func7,ntmps7
 go_upto_region 1 with fail
 refine wp_region_list ?_
 have k0:((w.alloc (.cells cM 33)).alloc (.cells cZ 33)).heap[w.heap.size]? = some (.cells cM 33):=by
  rw [Below.heap_alloc _ _ _ (by simp)];exact heap_alloc_last w _
 refine wpList_load_row rfl 33 _ rfl w.heap.size rfl _ _ (0,0) _ k0 underlying33 rfl HIM.out ?_
 clear k0
 go_wp2_with fail
 refine Calls.mono (c1 _ (H0.out _ (by repeat (with_reducible first|exact zRf|refine zGr ?_ _|refine below_drewN ?_ _|refine Below.drew ?_)))) ?_
 rintro e w1 ⟨rfl,hb1⟩
 have HB:Hid (Below w.heap.size w w1):=HolI.after (by repeat (with_reducible first|exact zRf|refine zGr ?_ _|refine below_drewN ?_ _|refine Below.drew ?_)) hb1
 have HK:Hid (w1.heap[w.heap.size]? = some (.cells cM 33)):=by
  have h:=hb1.block w.heap.size (by simp;omega)
  rw [Below.heap_alloc _ _ _ (by simp)] at h
  exact h.trans (heap_alloc_last w _)
 have HR:Hid (w1.heap[w.heap.size+1]? = some (.cells cZ 33)):=by
  have h:=hb1.block (w.heap.size+1) (by simp)
  have h2:=heap_alloc_last (w.alloc (.cells cM 33)) (.cells cZ 33)
  simp only [World.size_alloc] at h2
  exact h.trans h2
 clear hb1 c1
 cases b with
 | false =>
  have HV:Hid (stepV m=(Z0,3)):=by show _=_;unfold stepV;rw [if_neg (by rw [<- HO.out];decide)]
  go_upto_region 2 with fail
  refine wp_region_list ?_
  refine wpList_build0 rfl 33 rfl cZ HBT.out ?_
  refine wpList_store_row rfl 33 _ _ rfl (w.heap.size+1) cZ rfl rfl _ _ HR.out HIZ.out rfl HOZ.out ?_
  have HF:Hid ((w1.setRow (w.heap.size+1) cZ).heap[w.heap.size+1]? = some (.cells cZ 33)):=heap_row HR.out
  have HG:Hid (Below w.heap.size w (w1.setRow (w.heap.size+1) cZ)):=below_row HB.out (by omega)
  go_wp2
  refine bodyPost_ret (v:=.tuple #[.agg cZ,.int .i64 3]) (results_two results7 _ _ (w.heap.size+1) _ _ (0,0) _ _ rfl rfl HF.out underlying33 rfl HIZ.out) rfl ?_
  refine ⟨⟨none,0,by rw [HV.out,HZ.out],?_⟩,HG.out⟩
  rw [HV.out]
  exact Ista.own_nil _ _ HG.out.size
 | true =>
  have HV:Hid (stepV m=stepP m):=by show _=_;unfold stepV;rw [if_pos HO.out.symm]
  have HGD:Hid (Stpq.Good m/\0<=m.cyc/\m.cyc<=1000000000):=good_of HO.out.symm HS.out
  clear HS HBT
  go_upto_region 3 with fail
  refine wp_region_list ?_
  refine wpList_load_row rfl 33 _ rfl w.heap.size rfl _ _ (0,0) _ HK.out underlying33 rfl HIM.out ?_
  go_wp2_with fail
  refine Calls.mono (by rw [HM.out];exact ssS m po cap w1 HGD.out.1 HGD.out.2 (H0.out w1 HB.out) (fun p e=>Nat.lt_of_lt_of_le (HP.out p e) HB.out.size)) ?_
  rintro e w4 ⟨⟨po4,cap4,rfl,own4⟩,hb4⟩
  rw [<- HV.out]
  rw [<- HV.out] at own4
  have HB4:=zHd (HolI.after HB.out hb4)
  have HZ4:Hid (w4.heap[w.heap.size+1]? = some (.cells cZ 33)):=(hb4.block _ (zLo HR.out)).trans HR.out
  have HO4:Hid (w4.ownsRow w.heap.size 2 1 (.slice po4 (stepV m).1.out.length cap4) (stepV m).1.out.length (outC (stepV m).1.out)):=row_own (w':=w4) own4 _ HB.out.size
  clear own4 hb4
  generalize hR:(stepV m).1=R at *
  generalize hC:(stepV m).2=code at *
  rename_i hK
  refine hK _ _ ?_
  clear hK
  refine wpList_plain rfl (fun K hK=>?_)
  go_simp
  refine hK _ _ ?_
  clear hK
  refine wpList_plain rfl (fun K hK=>?_)
  go_simp
  refine hK _ _ ?_
  clear hK
  refine wpList_store_row rfl 33 _ _ rfl (w.heap.size+1) _ rfl rfl _ _ HZ4.out (infoMs _ _ _) (by rw [HZ.out,size_M,size_M]) (one_M _ _ _) ?_
  have HF:Hid ((w4.setRow (w.heap.size+1) (cellsM R po4 cap4)).heap[w.heap.size+1]? = some (.cells (cellsM R po4 cap4) 33)):=heap_row HZ4.out
  have HG:Hid (Below w.heap.size w (w4.setRow (w.heap.size+1) (cellsM R po4 cap4))):=below_row HB4.out (by omega)
  have HOw:Hid ((w4.setRow (w.heap.size+1) (cellsM R po4 cap4)).ownsRow w.heap.size 2 1 (.slice po4 R.out.length cap4) R.out.length (outC R.out)) :=
   World.ownsRow.kept (row:=some (w.heap.size+1)) HO4.out (set_row_grown _ _ _) (.inr (row_ne HO4.out HZ4.out))
  go_wp2
  refine bodyPost_ret (v:=.tuple #[.agg (cellsM R po4 cap4),.int .i64 code]) (results_two results7 _ _ (w.heap.size+1) _ _ (0,0) _ _ rfl rfl HF.out underlying33 rfl (infoMs _ _ _)) rfl ?_
  refine ⟨⟨po4,cap4,by rw [hR,hC],?_⟩,HG.out⟩
  rw [hR]
  exact HOw.out
theorem stepV_len {m:M} (hs:Sm m):(stepV m).1.out.length<=1048576:=by
 unfold stepV
 split
 ·rename_i h
  have hg:=good_of h hs
  unfold stepP
  split
  ·exact hs.out
  split
  ·exact hs.out
  rename_i hn
  have hI:=ins_of m hn
  show (if _ then _ else _:M × Int).1.out.length<=_
  split
  ·exact hs.out
  ·have hG:Stpq.Good (semOf m).1.m:=by
    refine sem_good ?_ _ _ _ hI.cbd.1 hI.cbd.2 hI.iok
    exact good_pc hg.1 _ (by omega) (by omega)
   exact Nat.le_trans hG.rt.out (by decide)
 ·show Z0.out.length<=_
  simp [Z0]
end Go.Proofs.YtkfehdkjeodbmaaGreatDoor.Stdh
namespace Go.Proofs.YtkfehdkjeodbmaaGreatDoor.Busm
open Go.Deep
open Carts CartK CartL Outs Mach MachT Busw Busx Busy
def Open (w:World) (po:Option Addr) (n:Nat):Prop:=∀ i,i<n->∃ b off,po=some ⟨b,off,none⟩/\b<w.heap.size/\(∃ z,w.cell? ⟨b,off+i,none⟩=some (.int .i64 z))/\w.frozen? ⟨b,off+i,none⟩=false
def Is (w:World) (po:Option Addr) (n:Nat) (f:Nat->Int):Prop:=∀ i,i<n->∃ b off,po=some ⟨b,off,none⟩/\b<w.heap.size/\w.cell? ⟨b,off+i,none⟩=some (.int .i64 (f i))
def blockOf (po:Option Addr):Option Nat:=po.map (·.block)
theorem addr_ne {b off i j:Nat} (h:i ≠ j):(⟨b,off+i,none⟩ : Addr) ≠ ⟨b,off+j,none⟩:=fun e=>by
 injection e with _ e2;omega
structure Mid (w wr:World) (po:Option Addr) (n k:Nat) (k0:Int):Prop where
 grown:w.grownBy wr (blockOf po)
 size:wr.heap.size=w.heap.size
 done:Is wr po k (fun i=>k0+i)
 left:∀ i,k<=i->i<n->∀ b off,po=some ⟨b,off,none⟩->wr.cell? ⟨b,off+i,none⟩=w.cell? ⟨b,off+i,none⟩
 froz:∀ a,wr.frozen? a=w.frozen? a
theorem Mid.start (w:World) (po:Option Addr) (n:Nat) (k0:Int):Mid w w po n 0 k0:=⟨⟨rfl,rfl,rfl,Nat.le_refl _,fun _ _ _=>rfl⟩,rfl,fun i h=>absurd h (by omega),fun _ _ _ _ _ _=>rfl,fun _=>rfl⟩
theorem Mid.next {w wr:World} {b off n k:Nat} {k0:Int} (h:Mid w wr (some ⟨b,off,none⟩) n k k0) (ho:Open w (some ⟨b,off,none⟩) n) (hk:k<n):Mid w (wr.setCell ⟨b,off+k,none⟩ (.int .i64 (k0+k))) (some ⟨b,off,none⟩) n (k+1) k0:=by
 have hcur:∃ z,wr.cell? ⟨b,off+k,none⟩=some (.int .i64 z):=by
  obtain ⟨b',off',e,_,⟨z,hz⟩,_⟩:=ho k hk
  cases e
  exact ⟨z,(h.left k (Nat.le_refl _) hk b off rfl).trans hz⟩
 have hb:b<w.heap.size:=by
  obtain ⟨b',off',e,hb,_⟩:=ho k hk
  cases e;exact hb
 obtain ⟨z,hz⟩:=hcur
 refine ⟨⟨h.grown.os,h.grown.tape,h.grown.output,by rw [Busw.size_set,h.size];exact Nat.le_refl _,fun j hj hne=>?_⟩,by rw [Busw.size_set,h.size],fun i hi=>⟨b,off,rfl,by rw [Busw.size_set,h.size];exact hb,?_⟩,fun i h1 h2 b' off' e=>?_,fun a=>by rw [World.frozen?_setCell,h.froz]⟩
 ·rw [Below.heap_setCell _ _ _ _ (fun e=>hne (by rw [e];rfl)),h.grown.block j hj hne]
 ·by_cases e:i=k
  ·subst e;exact World.cell?_setCell_same (h:=hz) ..
  ·rw [World.cell?_setCell_other (h:=addr_ne (b:=b) (off:=off) (i:=k) (j:=i) (fun x=>e x.symm))]
   obtain ⟨b',off',e',_,hc⟩:=h.done i (by omega)
   cases e';exact hc
 ·cases e
  rw [World.cell?_setCell_other (h:=addr_ne (b:=b) (off:=off) (i:=k) (j:=i) (by omega))]
  exact h.left i (by omega) h2 b off rfl
theorem markInt64S_any (po:Option Addr) (n cap:Nat) (k0:Int) (w:World) (ho:Open w po n) (hn:n<=1048576) (hk0:0<=k0) (hk1:k0<=1048576) :
  Calls prog 34 #[.slice po n cap,.int .i64 k0] w fun e w'=>e=.returned (.int .i64 (k0+n))/\Mid w w' po n n k0:=by
 have HO:Hid (Open w po n):=ho
 clear ho
 go_enter func34,ntmps34
 go_wp2
 go_loopw [5,1] (fun i q wr=>∃ k:Nat,k<=n/\i=.int .i64 k/\q=.int .i64 (k0+k)/\Hid (Mid w wr po n k k0)) (fun i _ _=>n-(intOf i).toNat)
 case atStart=>exact ⟨0,Nat.zero_le _,rfl,by simp,Mid.start w po n k0⟩
 case round =>
  obtain ⟨k,hk,rfl,rfl,hm⟩:=hrel
  by_cases hlt:k<n
  ·obtain ⟨b,off,rfl,hb,⟨z,hz⟩,hf⟩:=HO.out k hlt
   have q1:=(hm.out.left k (Nat.le_refl _) hlt b off rfl).trans hz
   have q2:=(hm.out.froz _).trans hf
   have HNX:Hid _:=hm.out.next HO.out hlt
   clear hm hz hf
   have k0':(0:Int)<=(k:Int):=by omega
   have k1:(k:Int)<(n:Int):=by omega
   go_wp2
   go_roundw
   case rel=>exact ⟨k+1,by omega,by go_num,by go_num,HNX⟩
   case measure=>simp [intOf];omega
  ·have e:k=n:=by omega
   subst e
   go_wp2
   go_ret
   exact ⟨rfl,hm.out⟩
theorem heldInt64S_any (po:Option Addr) (n cap:Nat) (k0:Int) (w:World) (hi:Is w po n (fun i=>k0+i)) (hn:n<=1048576) (hk0:0<=k0) (hk1:k0<=1048576) :
  Calls prog 35 #[.slice po n cap,.int .i64 k0] w fun e w'=>e=.returned (.int .i64 (k0+n))/\w'=w:=by
 have HI:Hid (Is w po n (fun i=>k0+i)):=hi
 clear hi
 go_enter func35,ntmps35
 go_wp2
 go_loopw [5,1] (fun i q wr=>∃ k:Nat,k<=n/\i=.int .i64 k/\q=.int .i64 (k0+k)/\wr=w) (fun i _ _=>n-(intOf i).toNat)
 case atStart=>exact ⟨0,Nat.zero_le _,rfl,by simp,rfl⟩
 case round =>
  obtain ⟨k,hk,rfl,rfl,rfl⟩:=hrel
  by_cases hlt:k<n
  ·obtain ⟨b,off,rfl,hb,hz⟩:=HI.out k hlt
   have k0':(0:Int)<=(k:Int):=by omega
   have k1:(k:Int)<(n:Int):=by omega
   go_wp2
   go_roundw
   case rel=>exact ⟨k+1,by omega,by go_num,by go_num,trivial⟩
   case measure=>simp [intOf];omega
  ·have e:k=n:=by omega
   subst e
   go_wp2
   go_ret
   exact ⟨rfl,rfl⟩
theorem open_alloc {w:World} {po:Option Addr} {n:Nat} (h:Open w po n) (o:Obj):Open (w.alloc o) po n:=fun i hi=>by
 obtain ⟨b,off,e,hb,⟨z,hz⟩,hf⟩:=h i hi
 exact ⟨b,off,e,by simp;omega,⟨z,(((Below.refl _ w).alloc (Nat.le_refl _) o).cell (p:=⟨b,_,none⟩) hb).trans hz⟩,by rw [World.frozen?_of_block (a:=⟨b,off+i,none⟩) (alloc_kept _ _ hb)];exact hf⟩
theorem is_alloc {w:World} {po:Option Addr} {n:Nat} {f:Nat->Int} (h:Is w po n f) (o:Obj):Is (w.alloc o) po n f:=fun i hi=>by
 obtain ⟨b,off,e,hb,hz⟩:=h i hi
 exact ⟨b,off,e,by simp;omega,(((Below.refl _ w).alloc (Nat.le_refl _) o).cell (p:=⟨b,_,none⟩) hb).trans hz⟩
theorem markMachine_any (m:M) (po:Option Addr) (cap:Nat) (w:World) (ho:Open w po m.out.length) (hn:m.out.length<=1048576) :
  Calls prog 11 #[.agg (cellsM m po cap),.int .i64 1] w fun e w'=>e=.returned (.int .i64 (1+m.out.length))/\∃ o,Mid (w.alloc o) w' po m.out.length m.out.length 1:=by
 have HO:Hid (Open w po m.out.length):=ho
 obtain ⟨cM,hcM⟩ : ∃ c,c=cellsM m po cap:=⟨_,rfl⟩
 have k0:(w.alloc (.cells cM 33)).cell? ⟨w.heap.size,21,none⟩=some (.slice po m.out.length cap):=by
  rw [hcM];exact celM (heap_alloc_last w _) 21 _ rfl
 rw [<- hcM]
 clear ho hcM
 have c:=fun W h=>markInt64S_any po m.out.length cap 1 W h hn (by decide) (by decide)
 have n0:¬ (1+(m.out.length:Int))<0:=by omega
 go_enter func11,ntmps11
 go_upto_region 1 with fail
 have HO1:Hid (Open (w.alloc (.cells cM 33)) po m.out.length):=open_alloc HO.out _
 go_wp2_with fail
 refine Calls.mono (c _ HO1.out) ?_
 rintro e w1 ⟨rfl,hm⟩
 have HM:Hid _:=hm
 clear hm
 go_wp2
 go_ret
 exact ⟨rfl,_,HM.out⟩
theorem heldMachine_any (m:M) (po:Option Addr) (cap:Nat) (w:World) (ho:Is w po m.out.length (fun i=>1+i)) (hn:m.out.length<=1048576) :
  Calls prog 12 #[.agg (cellsM m po cap),.int .i64 1] w fun e w'=>e=.returned (.int .i64 (1+m.out.length))/\∃ o,w'=w.alloc o:=by
 have HO:Hid (Is w po m.out.length (fun i=>1+i)):=ho
 obtain ⟨cM,hcM⟩ : ∃ c,c=cellsM m po cap:=⟨_,rfl⟩
 have k0:(w.alloc (.cells cM 33)).cell? ⟨w.heap.size,21,none⟩=some (.slice po m.out.length cap):=by
  rw [hcM];exact celM (heap_alloc_last w _) 21 _ rfl
 rw [<- hcM]
 clear ho hcM
 have c:=fun W h=>heldInt64S_any po m.out.length cap 1 W h hn (by decide) (by decide)
 have n0:¬ (1+(m.out.length:Int))<0:=by omega
 go_enter func12,ntmps12
 go_upto_region 1 with fail
 have HO1:Hid (Is (w.alloc (.cells cM 33)) po m.out.length (fun i=>1+i)):=is_alloc HO.out _
 go_wp2_with fail
 refine Calls.mono (c _ HO1.out) ?_
 rintro e w1 ⟨rfl,rfl⟩
 go_wp2
 go_ret
 exact ⟨rfl,_,rfl⟩
end Go.Proofs.YtkfehdkjeodbmaaGreatDoor.Busm
namespace Go.Proofs.YtkfehdkjeodbmaaGreatDoor.Mact
open Go.Deep
open Carts CartK CartL Outs Mach MachT
theorem toMachine_blk (ra rf rB rC rD rE rH rL sp pc:Int) (ime hal:Bool) (rom:ByteArray) (kind bank:Int) (ram:ByteArray) (rb:Int) (on:Bool) (mode:Int) (work high:ByteArray) (po:Option Addr) (L:List Int) (cap:Nat) (cyc:Int) (w:World) (hN:Row w po L) (hlen:L.length<=1048576) :
  Calls prog 8 #[.agg #[.int .i64 ra,.int .i64 rf,.int .i64 rB,.int .i64 rC,.int .i64 rD,.int .i64 rE,.int .i64 rH,.int .i64 rL,.int .i64 sp,.int .i64 pc,.bool ime,.bool hal,.string rom,.int .i64 kind,.int .i64 bank,.string ram,.int .i64 rb,.bool on,.int .i64 mode,.string work,.string high,.slice po L.length cap,.int .i64 cyc]] w fun e w'=>e=.returned (.agg #[.int .i64 ra,.int .i64 rf,.int .i64 rB,.int .i64 rC,.int .i64 rD,.int .i64 rE,.int .i64 rH,.int .i64 rL,.int .i64 sp,.int .i64 pc,.bool ime,.bool hal,.string rom,.int .i64 kind,.int .i64 bank,.string ram,.int .i64 rb,.bool on,.int .i64 mode,.string work,.string high,.slice (some ⟨w.heap.size+1+1+1+1+1+1+1+1+1,0,none⟩) L.length L.length,.int .i64 cyc])/\w'.heap[w.heap.size+1+1+1+1+1+1+1+1+1]? = some (rowO L)/\Below w.heap.size w w':=by
 have c:=fun W (h:Row W po L)=>toInt64S_any po cap L W h hlen
 have HB:Hid (Row w po L):=hN
 have HR:Hid (∀ W:World,(W.alloc (rowO L)).heap[W.heap.size]? = some (rowO L)):=fun W=>heap_alloc_last W _
 clear hN hlen
 obtain ⟨ln,hl⟩ : ∃ ln,ln=L.length:=⟨_,rfl⟩
 obtain ⟨ro,hro⟩ : ∃ ro,ro=rowO L:=⟨_,rfl⟩
 rw [<- hro] at HR
 rw [<- hl,<- hro] at c
 rw [<- hl,<- hro]
 clear hl hro
 go_enter func8,ntmps8
 go_wp2_with first|(go_at_call 25;refine (toCpu_ex _ _ _ _ _ _ _ _ _ _ _ _ _).mono ?_;rintro e w' ⟨rfl,p1,p2,p3,rfl⟩)|(go_at_call 26;refine (toCart_ex _ _ _ _ _ _ _ _).mono ?_;rintro e w' ⟨rfl,q1,q2,q3,rfl⟩)
 refine Calls.mono (c _ ?_) ?_
 ·exact HB.out.below (by repeat (with_reducible first|exact zRf|refine zGr ?_ _|refine below_drewN ?_ _|refine Below.drew ?_))
 rintro e W ⟨rfl,hW⟩
 clear c HB
 have hb3:Below (((w.alloc (.cells #[.int .i64 ra,.int .i64 rf,.int .i64 rB,.int .i64 rC,.int .i64 rD,.int .i64 rE,.int .i64 rH,.int .i64 rL,.int .i64 sp,.int .i64 pc,.bool ime,.bool hal,.string rom,.int .i64 kind,.int .i64 bank,.string ram,.int .i64 rb,.bool on,.int .i64 mode,.string work,.string high,.slice po ln cap,.int .i64 cyc] 28)).alloc (.cells #[.int .i64 0,.int .i64 0,.int .i64 0,.int .i64 0,.int .i64 0,.int .i64 0,.int .i64 0,.int .i64 0,.int .i64 0,.int .i64 0,.bool false,.bool false,.string ⟨#[]⟩,.int .i64 0,.int .i64 0,.string ⟨#[]⟩,.int .i64 0,.bool false,.int .i64 0,.string ⟨#[]⟩,.string ⟨#[]⟩,.slice none 0 0,.int .i64 0] 33)).alloc (.cells #[.int .i64 ra,.int .i64 rf,.int .i64 rB,.int .i64 rC,.int .i64 rD,.int .i64 rE,.int .i64 rH,.int .i64 rL,.int .i64 sp,.int .i64 pc,.bool ime,.bool hal,.string rom,.int .i64 kind,.int .i64 bank,.string ram,.int .i64 rb,.bool on,.int .i64 mode,.string work,.string high,.slice none 0 0,.int .i64 0] 33)).heap.size (((w.alloc (.cells #[.int .i64 ra,.int .i64 rf,.int .i64 rB,.int .i64 rC,.int .i64 rD,.int .i64 rE,.int .i64 rH,.int .i64 rL,.int .i64 sp,.int .i64 pc,.bool ime,.bool hal,.string rom,.int .i64 kind,.int .i64 bank,.string ram,.int .i64 rb,.bool on,.int .i64 mode,.string work,.string high,.slice po ln cap,.int .i64 cyc] 28)).alloc (.cells #[.int .i64 0,.int .i64 0,.int .i64 0,.int .i64 0,.int .i64 0,.int .i64 0,.int .i64 0,.int .i64 0,.int .i64 0,.int .i64 0,.bool false,.bool false,.string ⟨#[]⟩,.int .i64 0,.int .i64 0,.string ⟨#[]⟩,.int .i64 0,.bool false,.int .i64 0,.string ⟨#[]⟩,.string ⟨#[]⟩,.slice none 0 0,.int .i64 0] 33)).alloc (.cells #[.int .i64 ra,.int .i64 rf,.int .i64 rB,.int .i64 rC,.int .i64 rD,.int .i64 rE,.int .i64 rH,.int .i64 rL,.int .i64 sp,.int .i64 pc,.bool ime,.bool hal,.string rom,.int .i64 kind,.int .i64 bank,.string ram,.int .i64 rb,.bool on,.int .i64 mode,.string work,.string high,.slice none 0 0,.int .i64 0] 33)) W:=by
  rw [hW]
  exact by repeat (with_reducible first|exact zRf|refine zGr ?_ _|refine below_drewN ?_ _|refine Below.drew ?_)
 have HRow:Hid (W.heap[w.heap.size+1+1+1+1+1+1+1+1+1]? = some ro):=by
  have h:=HR.out ((((((((((w.alloc (.cells #[.int .i64 ra,.int .i64 rf,.int .i64 rB,.int .i64 rC,.int .i64 rD,.int .i64 rE,.int .i64 rH,.int .i64 rL,.int .i64 sp,.int .i64 pc,.bool ime,.bool hal,.string rom,.int .i64 kind,.int .i64 bank,.string ram,.int .i64 rb,.bool on,.int .i64 mode,.string work,.string high,.slice po ln cap,.int .i64 cyc] 28)).alloc (.cells #[.int .i64 0,.int .i64 0,.int .i64 0,.int .i64 0,.int .i64 0,.int .i64 0,.int .i64 0,.int .i64 0,.int .i64 0,.int .i64 0,.bool false,.bool false,.string ⟨#[]⟩,.int .i64 0,.int .i64 0,.string ⟨#[]⟩,.int .i64 0,.bool false,.int .i64 0,.string ⟨#[]⟩,.string ⟨#[]⟩,.slice none 0 0,.int .i64 0] 33)).alloc (.cells #[.int .i64 ra,.int .i64 rf,.int .i64 rB,.int .i64 rC,.int .i64 rD,.int .i64 rE,.int .i64 rH,.int .i64 rL,.int .i64 sp,.int .i64 pc,.bool ime,.bool hal,.string rom,.int .i64 kind,.int .i64 bank,.string ram,.int .i64 rb,.bool on,.int .i64 mode,.string work,.string high,.slice none 0 0,.int .i64 0] 33)).alloc p1).alloc p2).alloc p3).alloc q1).alloc q2).alloc q3))
  rw [<- hW] at h
  simp only [World.size_alloc] at h
  exact h
 have HBel:Hid (Below w.heap.size w W):=after (by repeat (with_reducible first|exact zRf|refine zGr ?_ _|refine below_drewN ?_ _|refine Below.drew ?_)) hb3
 clear hW HR
 obtain ⟨k1,k2,k3⟩:=blk1 hb3
 clear hb3
 have b22:=cel k1 22 _ rfl
 have c21:=cel k3 21 _ rfl
 have c22:=cel k3 22 _ rfl
 have f21:=fro k3 21
 have f22:=fro k3 22
 have K2:Hid (_=_):=k2
 have K3:Hid (_=_):=k3
 clear k1 k2 k3
 go_upto_region 8 with fail
 have h3:=heap_set (i:=22) (v:=.int .i64 cyc) (heap_set (i:=21) (v:=.slice (some ⟨w.heap.size+1+1+1+1+1+1+1+1+1,0,none⟩) ln ln) K3.out)
 have h2:=(heap_set_other (i:=22) (v:=.int .i64 cyc) (B:=w.heap.size+1+1) (B':=w.heap.size+1) (by omega) _).trans ((heap_set_other (i:=21) (v:=.slice (some ⟨w.heap.size+1+1+1+1+1+1+1+1+1,0,none⟩) ln ln) (B:=w.heap.size+1+1) (B':=w.heap.size+1) (by omega) _).trans K2.out)
 refine wp_region_list ?_
 refine wpList_load_row rfl 33 _ rfl (w.heap.size+1+1) rfl _ _ (0,0) _ h3 underlying33 rfl (by kernel_rfl) ?_
 refine wpList_store_row rfl 33 _ _ rfl (w.heap.size+1) #[.int .i64 ra,.int .i64 rf,.int .i64 rB,.int .i64 rC,.int .i64 rD,.int .i64 rE,.int .i64 rH,.int .i64 rL,.int .i64 sp,.int .i64 pc,.bool ime,.bool hal,.string rom,.int .i64 kind,.int .i64 bank,.string ram,.int .i64 rb,.bool on,.int .i64 mode,.string work,.string high,.slice (some ⟨w.heap.size+1+1+1+1+1+1+1+1+1,0,none⟩) ln ln,.int .i64 cyc] rfl rfl _ _ h2 (by kernel_rfl) rfl (by simp [Value.oneCell']) ?_
 refine wpList_nil ?_
 clear b22 c21 c22 f21 f22 K2 K3 h3
 have HH2:Hid (_=_):=h2
 clear h2
 go_wp2
 refine bodyPost_ret (v:=.agg #[.int .i64 ra,.int .i64 rf,.int .i64 rB,.int .i64 rC,.int .i64 rD,.int .i64 rE,.int .i64 rH,.int .i64 rL,.int .i64 sp,.int .i64 pc,.bool ime,.bool hal,.string rom,.int .i64 kind,.int .i64 bank,.string ram,.int .i64 rb,.bool on,.int .i64 mode,.string work,.string high,.slice (some ⟨w.heap.size+1+1+1+1+1+1+1+1+1,0,none⟩) ln ln,.int .i64 cyc]) (results_cell_row results8 _ _ (w.heap.size+1) _ _ (0,0) _ rfl (heap_row HH2.out) underlying33 rfl (by kernel_rfl)) rfl ⟨rfl,?_,?_⟩
 ·rw [heap_row_other (by omega),heap_set_other (by omega),heap_set_other (by omega)]
  exact HRow.out
 ·exact below_row ((HBel.out.setCell (by simp;omega) _).setCell (by simp;omega) _) (by omega)
open Busw Busx Busm
theorem open_row {w:World} {B:Nat} {L:List Int} (h:w.heap[B]? = some (rowO L)):Busm.Open w (some ⟨B,0,none⟩) L.length/\Is w (some ⟨B,0,none⟩) L.length (fun i=>L.getD i 0):=by
 have hlt:B<w.heap.size:=(zLo h)
 have hc:∀ i (hi:i<L.length),w.cell? ⟨B,0+i,none⟩=some (.int .i64 L[i]):=fun i hi=>by
  rw [Nat.zero_add]
  exact cel h i _ (rowA_full L i hi)
 exact ⟨fun i hi=>⟨B,0,rfl,hlt,⟨_,hc i hi⟩,frozen_of_row _ _ _ _ _ h⟩,fun i hi=>⟨B,0,rfl,hlt,by rw [hc i hi];simp [List.getD_eq_getElem?_getD,hi]⟩⟩
theorem sl_row {w:World} {B:Nat} {L:List Int} (h:w.heap[B]? = some (rowO L)) (cap:Nat):Sl w (some ⟨B,0,none⟩) L cap:=by
 have hlt:B<w.heap.size:=(zLo h)
 refine .inr ⟨B,0,rfl,fun i hi=>⟨hlt,?_⟩⟩
 rw [Nat.zero_add]
 exact cel h i _ (rowA_full L i hi)
theorem open_own {w:World} {base n cap:Nat} {po:Option Addr} {L:List Int} (h:w.ownsRow base 2 1 (.slice po n cap) n (outC L)) (hn:n=L.length):Busm.Open w po n:=by
 intro i hi
 rcases h.2 with ⟨h0,hl⟩|⟨g,c,cur,hv,hb,hg,h1,h2,h3,h4⟩
 ·omega
 ·have hp:po=some ⟨g,0,none⟩:=by injection hv
  have hs:=Busy.own_sl h hn
  rcases hs with ⟨e,_,_⟩|⟨b,off,e,hc⟩
  ·rw [hp] at e;cases e
  ·rw [hp] at e;cases e
   exact ⟨g,0,hp,(hc i (by omega)).1,⟨_,(hc i (by omega)).2⟩,frozen_of_row _ _ _ _ _ hg⟩
theorem toM_any (m:M) (po:Option Addr) (cap:Nat) (w:World) (hN:Row w po m.out) (hlen:m.out.length<=1048576) :
  Calls prog 8 #[.agg (cellsM m po cap)] w fun e w'=>∃ B,w.heap.size<=B/\e=.returned (.agg (cellsM m (some ⟨B,0,none⟩) m.out.length))/\w'.heap[B]? = some (rowO m.out)/\Below w.heap.size w w':=by
 rw [cells_def]
 refine (toMachine_blk m.ra m.rf m.rB m.rC m.rD m.rE m.rH m.rL m.sp m.pc m.ime m.hal m.rom m.kind m.bank m.ram m.rb m.on m.mode m.work m.high po m.out cap m.cyc w hN hlen).mono ?_
 rintro e w' ⟨rfl,h1,h2⟩
 exact ⟨_,by omega,by rw [cells_def],h1,h2⟩
theorem eqM_any (m:M) (po po':Option Addr) (cap cap':Nat) (w:World) (hN:Row w po m.out) (hN':Row w po' m.out) (hlen:m.out.length<=1048576) :
  Calls prog 10 #[.agg (cellsM m po cap),.agg (cellsM m po' cap')] w fun e w'=>e=.returned (.bool true)/\Below w.heap.size w w':=by
 rw [cells_def,cells_def]
 refine (eqMachine_any m.ra m.rf m.rB m.rC m.rD m.rE m.rH m.rL m.sp m.pc m.ime m.hal m.rom m.kind m.bank m.ram m.rb m.on m.mode m.work m.high po m.out cap m.cyc po' cap' w hN hN' hlen).mono ?_
 rintro e w' ⟨rfl,o1,o2,o3,o4,o5,o6,n,rfl⟩
 exact ⟨rfl,by repeat (with_reducible first|exact zRf|refine zGr ?_ _|refine below_drewN ?_ _|refine Below.drew ?_)⟩
end Go.Proofs.YtkfehdkjeodbmaaGreatDoor.Mact
namespace Go.Proofs.YtkfehdkjeodbmaaGreatDoor.Busl
open Go.Deep
open Carts CartK CartL Outs Mach MachT Busw Busx Busy Busm Mact
def Kp (n:Nat) (u W:World):Prop:=n<=W.heap.size/\∀ k,k<n->W.heap[k]? = u.heap[k]?
theorem Kp.of {u W:World} (h:Below u.heap.size u W):Kp u.heap.size u W:=⟨h.size,h.block⟩
theorem Kp.step {n:Nat} {u W W':World} (h:Kp n u W) (hb:Below W.heap.size W W'):Kp n u W':=⟨Nat.le_trans h.1 hb.size,fun k hk=>(hb.block k (Nat.lt_of_lt_of_le hk h.1)).trans (h.2 k hk)⟩
theorem row_kp {u W:World} {po:Option Addr} {L:List Int} (h:Row u po L) (hk:Kp u.heap.size u W):Row W po L:=by
 rcases h with h|⟨b,off,hp,hl,hc⟩
 ·exact .inl h
 ·exact .inr ⟨b,off,hp,Nat.lt_of_lt_of_le hl hk.1,fun i hi=>(World.cell?_of_block (a:=⟨b,_,none⟩) (hk.2 b hl)).trans (hc i hi)⟩
theorem infoN (m:M) (po:Option Addr) (cap:Nat):(prog.info? 28).map (·.size)=some (cellsM m po cap).size:=by rw [size_M];kernel_rfl
theorem own_stay {u W:World} {base n:Nat} {v:Value} {xs:List Value} (h:u.ownsRow base 2 1 v n xs) (hb:Below u.heap.size u W):W.ownsRow base 2 1 v n xs:=by
 rcases h with ⟨h1,h2|⟨g,c,cur,hv,hb',hg,r⟩⟩
 ·exact ⟨h1,.inl h2⟩
 ·exact ⟨h1,.inr ⟨g,c,cur,hv,hb',(hb.block g (zLo hg)).trans hg,r⟩⟩
theorem blk_mid {W W':World} {o:Obj} {po:Option Addr} {n k:Nat} {k0:Int} (hm:Mid (W.alloc o) W' po n k k0) {b:Nat} (hb:b<W.heap.size) (hne:∀ p,po=some p->p.block ≠ b):W'.heap[b]? = W.heap[b]? :=
 (hm.grown.block b (by simp;omega) (fun e=>by
  cases po with
  | none=>cases e
  | some p=>exact hne p rfl (Option.some.inj e).symm)).trans (alloc_kept _ _ hb)
theorem kp_mid {u W W':World} {o:Obj} {po:Option Addr} {n k N:Nat} {k0:Int} (h:Kp N u W) (hm:Mid (W.alloc o) W' po n k k0) (hne:∀ p,po=some p->N<=p.block):Kp N u W' :=
 ⟨by rw [hm.size];simp;exact Nat.le_trans h.1 (by omega),fun j hj=>(blk_mid hm (Nat.lt_of_lt_of_le hj h.1) (fun p e=>by have:=hne p e;omega)).trans (h.2 j hj)⟩
theorem below_mid {w W W':World} {o:Obj} {po:Option Addr} {n k:Nat} {k0:Int} (h:Below w.heap.size w W) (hm:Mid (W.alloc o) W' po n k k0) (hne:∀ p,po=some p->w.heap.size<=p.block):Below w.heap.size w W' :=
 ⟨hm.grown.os.trans h.os,hm.grown.tape.trans h.tape,hm.grown.output.trans h.output,by rw [hm.size];simp;exact Nat.le_trans h.size (by omega),fun j hj=>(blk_mid hm (Nat.lt_of_lt_of_le hj h.size) (fun p e=>by have:=hne p e;omega)).trans (h.block j hj)⟩
theorem own_mid {W W':World} {o:Obj} {B n k base n':Nat} {k0:Int} {v:Value} {xs:List Value} (h:W.ownsRow base 2 1 v n' xs) (hm:Mid (W.alloc o) W' (some ⟨B,0,none⟩) n k k0) (hB:B<base):W'.ownsRow base 2 1 v n' xs:=by
 rcases h with ⟨h1,h2|⟨g,c,cur,hv,hb',hg,r⟩⟩
 ·exact ⟨h1,.inl h2⟩
 ·exact ⟨h1,.inr ⟨g,c,cur,hv,hb',(blk_mid hm (zLo hg) (fun p e=>by cases e;show B ≠ g;omega)).trans hg,r⟩⟩
theorem is_below {W W':World} {po:Option Addr} {n:Nat} {f:Nat->Int} (h:Is W po n f) (hb:Below W.heap.size W W'):Is W' po n f:=fun i hi=>by
 obtain ⟨b,off,e,hl,hz⟩:=h i hi
 exact ⟨b,off,e,Nat.lt_of_lt_of_le hl hb.size,(hb.cell (p:=⟨b,_,none⟩) hl).trans hz⟩
theorem row_box {w:World} {base n cap B:Nat} {po:Option Addr} {xs:List Value} {cs:Array Value} {fz:Nat × Nat} (h:w.ownsRow base 2 1 (.slice po n cap) n xs) (hb:w.heap[B]? = some (.cells cs 33 fz)) (p:Addr) (e:po=some p):p.block ≠ B:=fun e2=>row_ne h hb (by subst e;rw [<- e2];rfl)
end Go.Proofs.YtkfehdkjeodbmaaGreatDoor.Busl
namespace Go.Proofs.YtkfehdkjeodbmaaGreatDoor.Laid
open Go.ChangeShapes Go.WideShapes Go.RowKit
theorem skip {P:Program} {W:World} {x:String × DataW Unit} {rest:List (String × DataW Unit)} {ps:List MemPlace} (h:DataW.LaidVars P W (x :: rest) ps):∃ q,DataW.LaidVars P W rest q:=by
 obtain ⟨n,d⟩:=x
 obtain ⟨_,_,_,_,_,q,_,_,_,_,h,_⟩:=h
 exact ⟨q,h⟩
def txtData (l:List (List UInt8)):DataW Unit:=.agg (l.map fun s=>.lit (.string s))
theorem txts {P:Program} {W:World} {name:String} {l:List (List UInt8)} {rest:List (String × DataW Unit)} {ps:List MemPlace} {g:Nat} {t e:TypeId} {n:Nat}
  (hg:P.globalNamed name=some g) (hty:(P.globals[g]?).map (·.type)=some t) (ht:P.underlying t=some (.array n e)) (he:P.underlying e=some .string) (hce:P.cellsOf e=1) (hct:P.cellsOf t=n)
  (h:DataW.LaidVars P W ((name,txtData l) :: rest) ps):∀ i,i<l.length->W.cell? ⟨g,i,none⟩=some (.string ⟨(l.getD i []).toArray⟩):=by
 obtain ⟨g',t',cs,fuel,p,q,hg',ht',hvar,hd,_,_⟩:=h
 obtain rfl:=Option.some.inj (hg.symm.trans hg')
 obtain rfl:=Option.some.inj (hty.symm.trans ht')
 intro i hi
 rw [World.var?_cell hg hvar i]
 cases fuel with
 | zero=>simp [DataW.trod] at hd
 | succ fuel =>
  simp only [DataW.trod,ht,hce,hct,Nat.mul_one] at hd
  split at hd
  ·obtain ⟨xs,hm,hx⟩:=Option.map_eq_some_iff.1 hd
   have hxs:xs.map (·.1)=l.map fun s=>(DataW.lit (.string s):DataW Unit):=by
    have:=congrArg Prod.fst hx
    simpa [txtData] using this
   have hxl:xs.length=n:=by simpa using Lib.mapM_length hm
   have hln:l.length=n:=by
    have:=congrArg List.length hxs
    simp at this
    omega
   have hi':i<n:=by omega
   obtain ⟨b,hb,hf⟩:=Lib.mapM_at hm i i (by simp [hi'])
   obtain ⟨s,hc,rfl,_⟩:=DataW.trod_string he hf
   have h1:cs.toList[i]? = some (.string s):=by
    have:=congrArg (·[0]?) hc
    simpa [List.getElem?_take,List.getElem?_drop] using this
   have h2:(xs.map (·.1))[i]? = some (DataW.lit (.string s.data.toList):DataW Unit):=by simp [hb]
   rw [hxs] at h2
   simp only [List.getElem?_map,Option.map_eq_some_iff,DataW.lit.injEq,Lit.string.injEq] at h2
   obtain ⟨z,hz,hzs⟩:=h2
   rw [<- Array.getElem?_toList,h1,List.getD_eq_getElem?_getD,hz]
   simp [hzs]
  ·cases hd
theorem vars_len {H:Type} {enc:TypeId × Value->H} {P:Program} {w:World} {sp:Nat->Bool}:∀ {ns:List String} {gs:List (DataW H)} {ps:List MemPlace},DataW.TrodVars enc P w sp ns gs ps->gs.length=ns.length
 | [],[],_,_=>rfl
 | [],_ :: _,_,h=>h.elim
 | _ :: _,[],_,h=>h.elim
 | _ :: ns,_ :: gs,_,h=>by
  obtain ⟨_,_,_,_,_,q,_,_,_,_,h,_⟩:=h
  simp only [List.length_cons]
  rw [vars_len h]
end Go.Proofs.YtkfehdkjeodbmaaGreatDoor.Laid
