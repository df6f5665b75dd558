import Derived.Test.YtnjolmbdbgbmbaaGreatDoorH37
set_option linter.all false
set_option maxRecDepth 20000
set_option maxHeartbeats 8000000
open Go.ChangeShapes Go.WideShapes Go.ChangeAt Go.RowKit
open Go.Proofs.Tryz
namespace Go.Proofs.YtnjolmbdbgbmbaaGreatDoor
namespace Ista
open Go.Deep
open Signed (inB sgn ret_int ret_bool)
open Busw Busx Stpp Stpq Stpi Stpj Stpo Stpl
open MachT (heap_row heap_row_other below_row)
def stepV (m:M):M × Int:=if okMM m=true then stepP m else (Z0,3)
theorem stepped_any (m:M) (po:Option Addr) (cap base:Nat) (w:World) (h:Ok w base m po cap):Calls prog 50 #[.agg (cellsM m po cap)] w (SPost w base m po):=by
 cases hh:m.hal with
 | true=>exact st_halt m po cap base w h hh
 | false =>
  by_cases hn:lenOf m=0
  ·exact st_none m po cap base w h hh hn
  ·exact st_main m po cap base w h hh hn _ rfl
theorem tb_lt {w:World} (h:Tb w):0<w.heap.size/\1<w.heap.size:=⟨h.stack.lt (by decide),h.bit.lt (by decide)⟩
theorem max_lt {w:World} (h:HolI.MaxL w):2<w.heap.size:=by obtain ⟨m,hm⟩:=h;exact HolI.cell_lt hm
def Told (m:M) (w:World) (e:Ending) (w':World):Prop:=(∃ po cap,e=.returned (.tuple #[.agg (cellsM (stepV m).1 po cap),.int .i64 (stepV m).2])/\w'.ownsRow w.heap.size 2 1 (.slice po (stepV m).1.out.length cap) (stepV m).1.out.length (outC (stepV m).1.out))/\Below w.heap.size w w'
theorem own_nil (w:World) (base:Nat) (h:base<=w.heap.size):w.ownsRow base 2 1 (.slice none Z0.out.length 0) Z0.out.length (outC Z0.out):=⟨rfl,.inl ⟨rfl,rfl⟩⟩
theorem fr_below {w w1 w2 w':World} {po:Option Addr} {x:Value} (h1:Below w.heap.size w w1) (hb:Below w1.heap.size w1 w2) (hfr:Fr (w2.setCell ⟨w.heap.size,21,none⟩ x) w' po) (ho:∀ p,po=some p->w.heap.size<=p.block):Below w.heap.size w w':=by
 have h3:Below w.heap.size w (w2.setCell ⟨w.heap.size,21,none⟩ x):=(HolI.after h1 hb).setCell (Nat.le_refl _) _
 exact ⟨hfr.os.trans h3.os,hfr.tape.trans h3.tape,hfr.output.trans h3.output,Nat.le_trans h3.size hfr.size,fun k hk=>(hfr.block k (Nat.lt_of_lt_of_le hk h3.size) (fun e=>by
  cases po with
  | none=>cases e
  | some p=>have:=ho p rfl;have e2:k=p.block:=Option.some.inj e;omega)).trans (h3.block k hk)⟩
theorem implStep_any (m:M) (po:Option Addr) (cap:Nat) (w:World) (hs:Sm m) (hN:Sl w po m.out cap) (ht:Tb w) (hm:HolI.MaxL w) :
  Calls prog 31 #[.agg (cellsM m po cap)] w (Told m w):=by
 have hz:=zeroM
 have c1:=fun W (h:Sl W po m.out cap)=>implOk_M m po cap W hs h
 have H0:Hid (∀ W,Below w.heap.size w W->Sl W po m.out cap):=fun W h=>hN.below h
 have HS:Hid (Sm m):=hs
 have HT:Hid (Tb w):=ht
 have HX:Hid (HolI.MaxL w):=hm
 have HBT:Hid (prog.built 33 []=some (cellsM Z0 none 0)):=builtM
 obtain ⟨b,hb⟩ : ∃ x,x=okMM m:=⟨_,rfl⟩
 have HO:Hid (b=okMM m):=hb
 rw [<- hb] at c1
 clear hN hs hb ht hm
 obtain ⟨cM,hcM⟩ : ∃ c,c=cellsM m po cap:=⟨_,rfl⟩
 obtain ⟨cZ,hcZ⟩ : ∃ c,c=cellsM Z0 none 0:=⟨_,rfl⟩
 have HM:Hid (cM=cellsM m po cap):=hcM
 have HZ:Hid (cZ=cellsM Z0 none 0):=hcZ
 have HIM:Hid ((prog.info? 33).map (·.size)=some cM.size):=hcM ▸ infoMs m po cap
 have HIZ:Hid ((prog.info? 33).map (·.size)=some cZ.size):=hcZ ▸ infoMs Z0 none 0
 have HOZ:Hid (cZ.all (·.oneCell')=true):=hcZ ▸ one_M Z0 none 0
 rw [<- hcM] at c1 |-
 rw [<- hcZ] at hz HBT
 clear hcM hcZ
 go_enter func31,ntmps31
 go_upto_region 1 with fail
 refine wp_region_list ?_
 have k0:((w.alloc (.cells cM 33)).alloc (.cells cZ 33)).heap[w.heap.size]? = some (.cells cM 33):=by
  rw [Below.heap_alloc _ _ _ (by simp)];exact heap_alloc_last w _
 refine wpList_load_row rfl 33 _ rfl w.heap.size rfl _ _ (0,0) _ k0 underlying33 rfl HIM.out ?_
 clear k0
 go_wp2_with fail
 refine Calls.mono (c1 _ (H0.out _ (by repeat (with_reducible first|exact zRf|refine zGr ?_ _|refine below_drewN ?_ _|refine Below.drew ?_)))) ?_
 rintro e w1 ⟨rfl,hb1⟩
 have HB:Hid (Below w.heap.size w w1):=HolI.after (by repeat (with_reducible first|exact zRf|refine zGr ?_ _|refine below_drewN ?_ _|refine Below.drew ?_)) hb1
 have HK:Hid (w1.heap[w.heap.size]? = some (.cells cM 33)):=by
  have h:=hb1.block w.heap.size (by simp;omega)
  rw [Below.heap_alloc _ _ _ (by simp)] at h
  exact h.trans (heap_alloc_last w _)
 have HR:Hid (w1.heap[w.heap.size+1]? = some (.cells cZ 33)):=by
  have h:=hb1.block (w.heap.size+1) (by simp)
  have h2:=heap_alloc_last (w.alloc (.cells cM 33)) (.cells cZ 33)
  simp only [World.size_alloc] at h2
  exact h.trans h2
 clear hb1 c1
 cases b with
 | false =>
  have HV:Hid (stepV m=(Z0,3)):=by show _=_;unfold stepV;rw [if_neg (by rw [<- HO.out];decide)]
  go_upto_region 2 with fail
  refine wp_region_list ?_
  refine wpList_build0 rfl 33 rfl cZ HBT.out ?_
  refine wpList_store_row rfl 33 _ _ rfl (w.heap.size+1) cZ rfl rfl _ _ HR.out HIZ.out rfl HOZ.out ?_
  have HF:Hid ((w1.setRow (w.heap.size+1) cZ).heap[w.heap.size+1]? = some (.cells cZ 33)):=heap_row HR.out
  have HG:Hid (Below w.heap.size w (w1.setRow (w.heap.size+1) cZ)):=below_row HB.out (by omega)
  go_wp2
  refine bodyPost_ret (v:=.tuple #[.agg cZ,.int .i64 3]) (results_two results31 _ _ (w.heap.size+1) _ _ (0,0) _ _ rfl rfl HF.out underlying33 rfl HIZ.out) rfl ?_
  refine ⟨⟨none,0,by rw [HV.out,HZ.out],?_⟩,HG.out⟩
  rw [HV.out]
  exact own_nil _ _ HG.out.size
 | true =>
  have HV:Hid (stepV m=stepP m):=by show _=_;unfold stepV;rw [if_pos HO.out.symm]
  have HGD:Hid (Stpq.Good m/\0<=m.cyc/\m.cyc<=1000000000):=good_of HO.out.symm HS.out
  have HL:Hid (m.out.length<=1048576):=HS.out.out
  clear HS HBT
  rw [HM.out] at HK
  have q21:w1.cell? ⟨w.heap.size,21,none⟩=some (.slice po m.out.length cap):=celM HK.out 21 _ rfl
  go_upto_region 3 with fail
  go_wp2_with fail
  refine Calls.mono (clone_any po m.out cap w1 (H0.out w1 HB.out) HL.out) ?_
  rintro e w2 ⟨⟨po',cap',rfl,own⟩,hb2⟩
  have HH:Hid (Held (w2.setCell ⟨w.heap.size,21,none⟩ (.slice po' m.out.length cap')) w.heap.size w.heap.size m po' cap'):=lay HB.out HK.out hb2 own
  have hlt:w.heap.size<w1.heap.size:=(zLo HK.out)
  have hlt1:w.heap.size+1<w1.heap.size:=(zLo HR.out)
  have HZ2:Hid ((w2.setCell ⟨w.heap.size,21,none⟩ (.slice po' m.out.length cap')).heap[w.heap.size+1]? = some (.cells cZ 33)):=by
   show _=_
   rw [Below.heap_setCell _ _ _ _ (by simp),hb2.block _ hlt1];exact HR.out
  have q21':w2.cell? ⟨w.heap.size,21,none⟩=some (.slice po m.out.length cap):=(hb2.cell (p:=⟨w.heap.size,21,none⟩) hlt).trans q21
  have f21':w2.frozen? ⟨w.heap.size,21,none⟩=false:=by
   rw [World.frozen?_of_block (a:=⟨w.heap.size,21,none⟩) (hb2.block w.heap.size hlt)];exact frozen_of_row _ _ _ _ _ HK.out
  have HB3:Hid (Below w.heap.size w (w2.setCell ⟨w.heap.size,21,none⟩ (.slice po' m.out.length cap'))):=(HolI.after HB.out hb2).setCell (Nat.le_refl _) _
  have HPO:Hid (∀ p,po'=some p->w.heap.size+1<p.block):=fun p e=>by have:=own_at own p e;omega
  have HFB:Hid (∀ w' ,Fr (w2.setCell ⟨w.heap.size,21,none⟩ (.slice po' m.out.length cap')) w' po'->Below w.heap.size w w'):=fun w' hfr=>fr_below HB.out hb2 hfr (fun p e=>by have:=own_at own p e;omega)
  have HOK:Hid (Ok (w2.setCell ⟨w.heap.size,21,none⟩ (.slice po' m.out.length cap')) w.heap.size m po' cap') :=
   ⟨HH.out.row,HGD.out.1,HGD.out.2,HT.out.below HB3.out,HX.out.below HB3.out,⟨(tb_lt HT.out).1,(tb_lt HT.out).2,max_lt HX.out⟩,HB3.out.size⟩
  clear q21 own hb2 hlt
  go_upto_region 4 with fail
  clear q21' f21'
  generalize w2.setCell ⟨w.heap.size,21,none⟩ (.slice po' m.out.length cap')=W3 at *
  refine wp_region_list ?_
  refine wpList_load_row rfl 33 _ rfl w.heap.size rfl _ _ (0,0) _ HH.out.box underlying33 rfl (infoMs _ _ _) ?_
  go_wp2_with fail
  refine Calls.mono (stepped_any m po' cap' w.heap.size W3 HOK.out) ?_
  rintro e w4 ⟨po4,cap4,rfl,own4,hfr4⟩
  rw [<- HV.out]
  rw [<- HV.out] at own4
  have HB4:Hid (Below w.heap.size w w4):=HFB.out w4 hfr4
  have HZ4:Hid (w4.heap[w.heap.size+1]? = some (.cells cZ 33)):=by
   refine (hfr4.block _ (zLo HZ2.out) (fun e=>?_)).trans HZ2.out
   cases po' with
   | none=>cases e
   | some p=>have h1:=HPO.out p rfl;have h2:w.heap.size+1=p.block:=Option.some.inj e;omega
  have HO4:Hid (w4.ownsRow w.heap.size 2 1 (.slice po4 (stepV m).1.out.length cap4) (stepV m).1.out.length (outC (stepV m).1.out)):=own4
  clear own4 hfr4 HFB HPO HOK HB3 HZ2 HH
  generalize hR:(stepV m).1=R at *
  generalize hC:(stepV m).2=code at *
  rename_i hK
  refine hK _ _ ?_
  clear hK
  refine wpList_plain rfl (fun K hK=>?_)
  go_simp
  refine hK _ _ ?_
  clear hK
  refine wpList_plain rfl (fun K hK=>?_)
  go_simp
  refine hK _ _ ?_
  clear hK
  refine wpList_store_row rfl 33 _ _ rfl (w.heap.size+1) _ rfl rfl _ _ HZ4.out (infoMs _ _ _) (by rw [HZ.out,size_M,size_M]) (one_M _ _ _) ?_
  have HF:Hid ((w4.setRow (w.heap.size+1) (cellsM R po4 cap4)).heap[w.heap.size+1]? = some (.cells (cellsM R po4 cap4) 33)):=heap_row HZ4.out
  have HG:Hid (Below w.heap.size w (w4.setRow (w.heap.size+1) (cellsM R po4 cap4))):=below_row HB4.out (by omega)
  have HOw:Hid ((w4.setRow (w.heap.size+1) (cellsM R po4 cap4)).ownsRow w.heap.size 2 1 (.slice po4 R.out.length cap4) R.out.length (outC R.out)) :=
   World.ownsRow.kept (row:=some (w.heap.size+1)) HO4.out (set_row_grown _ _ _) (.inr (row_ne HO4.out HZ4.out))
  go_wp2
  refine bodyPost_ret (v:=.tuple #[.agg (cellsM R po4 cap4),.int .i64 code]) (results_two results31 _ _ (w.heap.size+1) _ _ (0,0) _ _ rfl rfl HF.out underlying33 rfl (infoMs _ _ _)) rfl ?_
  refine ⟨⟨po4,cap4,by rw [hR,hC],?_⟩,HG.out⟩
  rw [hR]
  exact HOw.out
end Ista
end Go.Proofs.YtnjolmbdbgbmbaaGreatDoor
