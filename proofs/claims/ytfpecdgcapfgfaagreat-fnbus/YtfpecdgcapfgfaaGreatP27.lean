import Derived.Test.YtfpecdgcapfgfaaGreatP26
set_option linter.all false
set_option maxRecDepth 20000
set_option maxHeartbeats 8000000
open Go.ChangeShapes Go.WideShapes Go.ChangeAt Go.RowKit
open Go.Proofs.Tryz
namespace Go.Proofs.YtfpecdgcapfgfaaGreat
namespace Boxb
open Go.Deep
open Rdr (Rd)
open DrawI (postB postSet)
open Busw (M cellsM cells_def celM outC row_ne alloc_kept)
open Busx Busy Stpp Runp Mnew Mdrw Boxs
open MachT (heap_row heap_row_other below_row)
def DrawnA (w:World) (e:Ending) (w':World):Prop:=∃ (m:M) (po:Option Addr) (cap:Nat) (x:Int),e=.returned (.tuple #[.agg (cellsM m po cap),.int .i64 x])/\Sm m/\w'.ownsRow w.heap.size 2 1 (.slice po m.out.length cap) m.out.length (outC m.out)/\Below w.heap.size w w'
def DrawnW (w:World) (e:Ending) (w':World):Prop:=∃ (m:M) (po:Option Addr) (cap:Nat) (x y:Int),e=.returned (.tuple #[.agg (cellsM m po cap),.int .i64 x,.int .i64 y])/\Sm m/\w'.ownsRow w.heap.size 2 1 (.slice po m.out.length cap) m.out.length (outC m.out)/\Below w.heap.size w w'
theorem drawBusR_any (a:Option Addr) (len cap0:Nat) (zs:List Int) (w:World) (h:Rdr.IsRow .u8 w a len cap0 zs) :
  Calls prog 8 #[.slice a len cap0] w (DrawnA w):=by
 have H:Hid (Rdr.IsRow .u8 w a len cap0 zs):=h
 have hz:=zeroM
 obtain ⟨cZ,hcZ⟩ : ∃ c,c=cellsM Z0 none 0:=⟨_,rfl⟩
 rw [<- hcZ] at hz
 have HZ:Hid (cZ=cellsM Z0 none 0):=hcZ
 clear h hcZ
 go_enter func8,ntmps8
 go_wp2_with fail
 have B0:Hid (Below w.heap.size w (w.alloc (.cells cZ 30))):=zAl _ _
 have HR:Hid ((w.alloc (.cells cZ 30)).heap[w.heap.size]? = some (.cells (cellsM Z0 none 0) 30)):=by show _=_;rw [<- HZ.out];exact heap_alloc_last w _
 have HS:Hid ((w.alloc (.cells cZ 30)).heap.size=w.heap.size+1):=by show _=_;simp
 have H:=zHd (H.out.below B0.out)
 generalize w.alloc (.cells cZ 30)=wz at HR B0 HS H |-
 refine (Rdr.open_any _ _ _ _ _ H.out).mono ?_
 rintro e w1 ⟨rfl,hr,hb⟩
 have HR:Hid (w1.heap[w.heap.size]? = some (.cells (cellsM Z0 none 0) 30)):=(hb.block _ (zLo HR.out)).trans HR.out
 have BW:Hid (Below w.heap.size w w1):=B0.out.trans (hb.mono (by rw [HS.out];omega))
 have HD:Hid (Rd w1 wz.heap.size):=hr
 have HN:Hid (wz.heap.size=w.heap.size+1):=HS.out
 clear hr hb H B0 HS
 generalize wz.heap.size=rd at HD HN |-
 go_wp2_with fail
 refine (machine_any _ _ _ HD.out (by decide) (by decide)).mono ?_
 rintro e w2 ⟨m,po,cap,rfl,hsm,own,p⟩
 have HR:Hid (w2.heap[w.heap.size]? = some (.cells (cellsM Z0 none 0) 30)):=(p.2.block _ (zLo HR.out) (fun e=>by have:=HN.out;have e2:w.heap.size=rd:=Option.some.inj e;omega)).trans HR.out
 obtain ⟨bs,hbs⟩ : ∃ x,x=w1.heap.size:=⟨_,rfl⟩
 rw [<- hbs] at own
 have HO:Hid (w2.ownsRow bs 2 1 (.slice po m.out.length cap) m.out.length (outC m.out)):=own
 have HBS:Hid (rd<bs/\w.heap.size<=bs):=⟨by rw [hbs];exact HD.out.lt,by rw [hbs];exact BW.out.size⟩
 have BW:Hid (Below w.heap.size w w2):=BW.out.trans (p.below (by have:=HN.out;omega) (Nat.le_of_lt HD.out.lt))
 have HD:Hid (Rd w2 rd):=p.1
 have HSM:Hid (Sm m):=hsm
 clear p own hsm hbs
 rename_i hK
 refine hK _ _ ?_
 clear hK
 refine wpList_plain rfl (fun K hK=>?_)
 go_simp
 refine hK _ _ ?_
 clear hK
 refine wpList_store_row rfl 30 _ _ rfl w2.heap.size (cellsM m po cap) rfl rfl _ _ (heap_alloc_last w2 _) (infoMs _ _ _) (by rw [HZ.out,size_M,size_M]) (one_M _ _ _) ?_
 rw [World.setRow_alloc_new]
 obtain ⟨w3,hw3⟩ : ∃ u,u=w2.alloc (.cells (cellsM m po cap) 30):=⟨_,rfl⟩
 obtain ⟨b,hb⟩ : ∃ u,u=w2.heap.size:=⟨_,rfl⟩
 have HX:Hid (w3.heap[b]? = some (.cells (cellsM m po cap) 30)/\w3.heap[w.heap.size]? = some (.cells (cellsM Z0 none 0) 30)/\w3.ownsRow bs 2 1 (.slice po m.out.length cap) m.out.length (outC m.out)/\Below w.heap.size w w3/\Rd w3 rd):=by
  rw [hw3,hb]
  exact ⟨heap_alloc_last w2 _,(alloc_kept _ _ (zLo HR.out)).trans HR.out,HO.out.alloc _,zGr BW.out _,((Rdr.Post.refl HD.out).alloc _).1⟩
 have HNB:Hid (rd<w3.heap.size/\b ≠ rd/\rd=w.heap.size+1):=by
  have h1:=HX.out.2.2.2.2.lt
  have h2:=HD.out.lt
  exact ⟨h1,by omega,HN.out⟩
 go_upto_region 3 with fail
 rw [<- hw3,<- hb]
 clear hw3 hb HR HO BW HD HN
 refine wp_region_any (by kernel_rfl) ?_
 try (change wpAny _ _ _ _ _ _ _ (World.drew _))
 have HX:Hid (w3.drew.heap[b]? = some (.cells (cellsM m po cap) 30)/\w3.drew.heap[w.heap.size]? = some (.cells (cellsM Z0 none 0) 30)/\w3.drew.ownsRow bs 2 1 (.slice po m.out.length cap) m.out.length (outC m.out)/\Below w.heap.size w w3.drew/\Rd w3.drew rd):=⟨HX.out.1,HX.out.2.1,HX.out.2.2.1.drew,HX.out.2.2.2.1.drew,(Rdr.Post.of HX.out.2.2.2.2 rfl rfl rfl rfl).1⟩
 generalize w3.drew=wd at HX |-
 refine wpAny_take (i:=1) (v:=?vd1) rfl (by kernel_rfl) (by kernel_rfl) (by kernel_rfl) (fun _ _ _ h=>h) (Or.inl ⟨by rfl,?hyd1⟩) ?restd1
 case hyd1=>(intro w;go_simp;try with_reducible rfl)
 refine wpAny_ready (rs:=[0,2]) (by kernel_rfl) (by simp) ?_
 refine MachP.any_cons rfl rfl (fun K hK=>?_) (MachP.any_cons rfl rfl (fun K hK=>?_) AllReady.nil)
 ·refine wp_load_row 30 _ rfl b rfl _ _ (0,0) _ HX.out.1 underlying30 rfl (infoMs _ _ _) ?_
  refine hK _ _ ?_
  clear hK
  refine wpAny_ready (rs:=[2]) (by kernel_rfl) (by simp) ?_
  refine MachP.any_cons rfl rfl (fun K hK=>?_) AllReady.nil
  go_wp2_with fail
  refine (Addr.addr_any _ _ HX.out.2.2.2.2).mono ?_
  rintro e w7 ⟨⟨x,rfl⟩,p⟩
  have HX:Hid (w7.heap[b]? = some (.cells (cellsM m po cap) 30)/\w7.heap[w.heap.size]? = some (.cells (cellsM Z0 none 0) 30)/\w7.ownsRow bs 2 1 (.slice po m.out.length cap) m.out.length (outC m.out)/\Below w.heap.size w w7/\Rd w7 rd):=⟨(p.2.block _ (zLo HX.out.1) (fun e=>HNB.out.2.1 (Option.some.inj e))).trans HX.out.1,(p.2.block _ (zLo HX.out.2.1) (fun e=>by have:=HNB.out.2.2;have e2:w.heap.size=rd:=Option.some.inj e;omega)).trans HX.out.2.1,HX.out.2.2.1.kept p.2 (.inr (own_ne HX.out.2.2.1 HBS.out.1)),HX.out.2.2.2.1.trans (p.below (by have:=HNB.out.2.2;omega) (Nat.le_of_lt HX.out.2.2.2.2.lt)),p.1⟩
  clear p
  refine hK _ _ ?_
  clear hK
  refine wpAny_ready (rs:=[3]) (by kernel_rfl) (by simp) ?_
  refine MachP.any_cons rfl rfl (fun K hK=>?_) AllReady.nil
  refine wp_store_row 30 _ _ rfl w.heap.size (cellsM m po cap) rfl rfl _ _ HX.out.2.1 (infoMs _ _ _) (by rw [size_M,size_M]) (one_M _ _ _) ?_
  refine hK _ _ ?_
  clear hK
  refine wpAny_take (i:=4) (v:=?vd2) rfl (by kernel_rfl) (by kernel_rfl) (by kernel_rfl) (fun _ _ _ h=>h) (Or.inl ⟨by rfl,?hyd2⟩) ?restd2
  case hyd2=>(intro w;go_simp;try with_reducible rfl)
  refine wpAny_done (by kernel_rfl) ?_ _
  have HF:Hid ((w7.setRow w.heap.size (cellsM m po cap)).heap[w.heap.size]? = some (.cells (cellsM m po cap) 30)):=heap_row HX.out.2.1
  have HO:Hid ((w7.setRow w.heap.size (cellsM m po cap)).ownsRow bs 2 1 (.slice po m.out.length cap) m.out.length (outC m.out)):=HX.out.2.2.1.kept (row:=some w.heap.size) (set_row_grown _ _ _) (.inr (row_ne HX.out.2.2.1 HX.out.2.1))
  have BW:Hid (Below w.heap.size w (w7.setRow w.heap.size (cellsM m po cap))):=below_row HX.out.2.2.2.1 (Nat.le_refl _)
  go_wp2
  exact bodyPost_ret (v:=.tuple #[.agg (cellsM m po cap),.int .i64 x]) (results_two results8 _ _ w.heap.size _ _ (0,0) _ _ rfl rfl HF.out underlying30 rfl (infoMs _ _ _)) rfl ⟨m,po,cap,x,rfl,HSM.out,Stdg.row_own (w':=w) HO.out _ HBS.out.2,BW.out⟩
 ·go_wp2_with fail
  refine (Addr.addr_any _ _ HX.out.2.2.2.2).mono ?_
  rintro e w7 ⟨⟨x,rfl⟩,p⟩
  have HX:Hid (w7.heap[b]? = some (.cells (cellsM m po cap) 30)/\w7.heap[w.heap.size]? = some (.cells (cellsM Z0 none 0) 30)/\w7.ownsRow bs 2 1 (.slice po m.out.length cap) m.out.length (outC m.out)/\Below w.heap.size w w7/\Rd w7 rd):=⟨(p.2.block _ (zLo HX.out.1) (fun e=>HNB.out.2.1 (Option.some.inj e))).trans HX.out.1,(p.2.block _ (zLo HX.out.2.1) (fun e=>by have:=HNB.out.2.2;have e2:w.heap.size=rd:=Option.some.inj e;omega)).trans HX.out.2.1,HX.out.2.2.1.kept p.2 (.inr (own_ne HX.out.2.2.1 HBS.out.1)),HX.out.2.2.2.1.trans (p.below (by have:=HNB.out.2.2;omega) (Nat.le_of_lt HX.out.2.2.2.2.lt)),p.1⟩
  clear p
  refine hK _ _ ?_
  clear hK
  refine wpAny_ready (rs:=[0]) (by kernel_rfl) (by simp) ?_
  refine MachP.any_cons rfl rfl (fun K hK=>?_) AllReady.nil
  refine wp_load_row 30 _ rfl b rfl _ _ (0,0) _ HX.out.1 underlying30 rfl (infoMs _ _ _) ?_
  refine hK _ _ ?_
  clear hK
  refine wpAny_ready (rs:=[3]) (by kernel_rfl) (by simp) ?_
  refine MachP.any_cons rfl rfl (fun K hK=>?_) AllReady.nil
  refine wp_store_row 30 _ _ rfl w.heap.size (cellsM m po cap) rfl rfl _ _ HX.out.2.1 (infoMs _ _ _) (by rw [size_M,size_M]) (one_M _ _ _) ?_
  refine hK _ _ ?_
  clear hK
  refine wpAny_take (i:=4) (v:=?vd3) rfl (by kernel_rfl) (by kernel_rfl) (by kernel_rfl) (fun _ _ _ h=>h) (Or.inl ⟨by rfl,?hyd3⟩) ?restd3
  case hyd3=>(intro w;go_simp;try with_reducible rfl)
  refine wpAny_done (by kernel_rfl) ?_ _
  have HF:Hid ((w7.setRow w.heap.size (cellsM m po cap)).heap[w.heap.size]? = some (.cells (cellsM m po cap) 30)):=heap_row HX.out.2.1
  have HO:Hid ((w7.setRow w.heap.size (cellsM m po cap)).ownsRow bs 2 1 (.slice po m.out.length cap) m.out.length (outC m.out)):=HX.out.2.2.1.kept (row:=some w.heap.size) (set_row_grown _ _ _) (.inr (row_ne HX.out.2.2.1 HX.out.2.1))
  have BW:Hid (Below w.heap.size w (w7.setRow w.heap.size (cellsM m po cap))):=below_row HX.out.2.2.2.1 (Nat.le_refl _)
  go_wp2
  exact bodyPost_ret (v:=.tuple #[.agg (cellsM m po cap),.int .i64 x]) (results_two results8 _ _ w.heap.size _ _ (0,0) _ _ rfl rfl HF.out underlying30 rfl (infoMs _ _ _)) rfl ⟨m,po,cap,x,rfl,HSM.out,Stdg.row_own (w':=w) HO.out _ HBS.out.2,BW.out⟩
theorem drawBusW_any (a:Option Addr) (len cap0:Nat) (zs:List Int) (w:World) (h:Rdr.IsRow .u8 w a len cap0 zs) :
  Calls prog 5 #[.slice a len cap0] w (DrawnW w):=by
 have H:Hid (Rdr.IsRow .u8 w a len cap0 zs):=h
 have hz:=zeroM
 obtain ⟨cZ,hcZ⟩ : ∃ c,c=cellsM Z0 none 0:=⟨_,rfl⟩
 rw [<- hcZ] at hz
 have HZ:Hid (cZ=cellsM Z0 none 0):=hcZ
 clear h hcZ
 go_enter func5,ntmps5
 go_wp2_with fail
 have B0:Hid (Below w.heap.size w (w.alloc (.cells cZ 30))):=zAl _ _
 have HR:Hid ((w.alloc (.cells cZ 30)).heap[w.heap.size]? = some (.cells (cellsM Z0 none 0) 30)):=by show _=_;rw [<- HZ.out];exact heap_alloc_last w _
 have HS:Hid ((w.alloc (.cells cZ 30)).heap.size=w.heap.size+1):=by show _=_;simp
 have H:=zHd (H.out.below B0.out)
 generalize w.alloc (.cells cZ 30)=wz at HR B0 HS H |-
 refine (Rdr.open_any _ _ _ _ _ H.out).mono ?_
 rintro e w1 ⟨rfl,hr,hb⟩
 have HR:Hid (w1.heap[w.heap.size]? = some (.cells (cellsM Z0 none 0) 30)):=(hb.block _ (zLo HR.out)).trans HR.out
 have BW:Hid (Below w.heap.size w w1):=B0.out.trans (hb.mono (by rw [HS.out];omega))
 have HD:Hid (Rd w1 wz.heap.size):=hr
 have HN:Hid (wz.heap.size=w.heap.size+1):=HS.out
 clear hr hb H B0 HS
 generalize wz.heap.size=rd at HD HN |-
 go_wp2_with fail
 refine (machine_any _ _ _ HD.out (by decide) (by decide)).mono ?_
 rintro e w2 ⟨m,po,cap,rfl,hsm,own,p⟩
 have HR:Hid (w2.heap[w.heap.size]? = some (.cells (cellsM Z0 none 0) 30)):=(p.2.block _ (zLo HR.out) (fun e=>by have:=HN.out;have e2:w.heap.size=rd:=Option.some.inj e;omega)).trans HR.out
 obtain ⟨bs,hbs⟩ : ∃ x,x=w1.heap.size:=⟨_,rfl⟩
 rw [<- hbs] at own
 have HO:Hid (w2.ownsRow bs 2 1 (.slice po m.out.length cap) m.out.length (outC m.out)):=own
 have HBS:Hid (rd<bs/\w.heap.size<=bs):=⟨by rw [hbs];exact HD.out.lt,by rw [hbs];exact BW.out.size⟩
 have BW:Hid (Below w.heap.size w w2):=BW.out.trans (p.below (by have:=HN.out;omega) (Nat.le_of_lt HD.out.lt))
 have HD:Hid (Rd w2 rd):=p.1
 have HSM:Hid (Sm m):=hsm
 clear p own hsm hbs
 rename_i hK
 refine hK _ _ ?_
 clear hK
 refine wpList_plain rfl (fun K hK=>?_)
 go_simp
 refine hK _ _ ?_
 clear hK
 refine wpList_store_row rfl 30 _ _ rfl w2.heap.size (cellsM m po cap) rfl rfl _ _ (heap_alloc_last w2 _) (infoMs _ _ _) (by rw [HZ.out,size_M,size_M]) (one_M _ _ _) ?_
 rw [World.setRow_alloc_new]
 obtain ⟨w3,hw3⟩ : ∃ u,u=w2.alloc (.cells (cellsM m po cap) 30):=⟨_,rfl⟩
 obtain ⟨b,hb⟩ : ∃ u,u=w2.heap.size:=⟨_,rfl⟩
 have HX:Hid (w3.heap[b]? = some (.cells (cellsM m po cap) 30)/\w3.heap[w.heap.size]? = some (.cells (cellsM Z0 none 0) 30)/\w3.ownsRow bs 2 1 (.slice po m.out.length cap) m.out.length (outC m.out)/\Below w.heap.size w w3/\Rd w3 rd):=by
  rw [hw3,hb]
  exact ⟨heap_alloc_last w2 _,(alloc_kept _ _ (zLo HR.out)).trans HR.out,HO.out.alloc _,zGr BW.out _,((Rdr.Post.refl HD.out).alloc _).1⟩
 have HNB:Hid (rd<w3.heap.size/\b ≠ rd/\rd=w.heap.size+1):=by
  have h1:=HX.out.2.2.2.2.lt
  have h2:=HD.out.lt
  exact ⟨h1,by omega,HN.out⟩
 go_upto_region 3 with fail
 rw [<- hw3,<- hb]
 clear hw3 hb HR HO BW HD HN
 go_wp2_with fail
 refine (Addr.addr_any _ _ HX.out.2.2.2.2).mono ?_
 rintro e w4 ⟨⟨x,rfl⟩,p⟩
 have HX:Hid (w4.heap[b]? = some (.cells (cellsM m po cap) 30)/\w4.heap[w.heap.size]? = some (.cells (cellsM Z0 none 0) 30)/\w4.ownsRow bs 2 1 (.slice po m.out.length cap) m.out.length (outC m.out)/\Below w.heap.size w w4/\Rd w4 rd):=⟨(p.2.block _ (zLo HX.out.1) (fun e=>HNB.out.2.1 (Option.some.inj e))).trans HX.out.1,(p.2.block _ (zLo HX.out.2.1) (fun e=>by have:=HNB.out.2.2;have e2:w.heap.size=rd:=Option.some.inj e;omega)).trans HX.out.2.1,HX.out.2.2.1.kept p.2 (.inr (own_ne HX.out.2.2.1 HBS.out.1)),HX.out.2.2.2.1.trans (p.below (by have:=HNB.out.2.2;omega) (Nat.le_of_lt HX.out.2.2.2.2.lt)),p.1⟩
 clear p
 go_upto_region 4 with fail
 refine wp_region_any (by kernel_rfl) ?_
 try (change wpAny _ _ _ _ _ _ _ (World.drew _))
 have HX:Hid (w4.drew.heap[b]? = some (.cells (cellsM m po cap) 30)/\w4.drew.heap[w.heap.size]? = some (.cells (cellsM Z0 none 0) 30)/\w4.drew.ownsRow bs 2 1 (.slice po m.out.length cap) m.out.length (outC m.out)/\Below w.heap.size w w4.drew/\Rd w4.drew rd):=⟨HX.out.1,HX.out.2.1,HX.out.2.2.1.drew,HX.out.2.2.2.1.drew,(Rdr.Post.of HX.out.2.2.2.2 rfl rfl rfl rfl).1⟩
 generalize w4.drew=wd at HX |-
 refine wpAny_take (i:=1) (v:=?vd4) rfl (by kernel_rfl) (by kernel_rfl) (by kernel_rfl) (fun _ _ _ h=>h) (Or.inl ⟨by rfl,?hyd4⟩) ?restd4
 case hyd4=>(intro w;go_simp;try with_reducible rfl)
 refine wpAny_take (i:=2) (v:=?vd5) rfl (by kernel_rfl) (by kernel_rfl) (by kernel_rfl) (fun _ _ _ h=>h) (Or.inl ⟨by rfl,?hyd5⟩) ?restd5
 case hyd5=>(intro w;go_simp;try with_reducible rfl)
 refine wpAny_ready (rs:=[0,3]) (by kernel_rfl) (by simp) ?_
 refine MachP.any_cons rfl rfl (fun K hK=>?_) (MachP.any_cons rfl rfl (fun K hK=>?_) AllReady.nil)
 ·refine wp_load_row 30 _ rfl b rfl _ _ (0,0) _ HX.out.1 underlying30 rfl (infoMs _ _ _) ?_
  refine hK _ _ ?_
  clear hK
  refine wpAny_ready (rs:=[3]) (by kernel_rfl) (by simp) ?_
  refine MachP.any_cons rfl rfl (fun K hK=>?_) AllReady.nil
  go_wp2_with fail
  refine (Rdr.byte_any _ _ HX.out.2.2.2.2).mono ?_
  rintro e w7 ⟨⟨y,y0,y1,rfl⟩,p⟩
  have HX:Hid (w7.heap[b]? = some (.cells (cellsM m po cap) 30)/\w7.heap[w.heap.size]? = some (.cells (cellsM Z0 none 0) 30)/\w7.ownsRow bs 2 1 (.slice po m.out.length cap) m.out.length (outC m.out)/\Below w.heap.size w w7/\Rd w7 rd):=⟨(p.2.block _ (zLo HX.out.1) (fun e=>HNB.out.2.1 (Option.some.inj e))).trans HX.out.1,(p.2.block _ (zLo HX.out.2.1) (fun e=>by have:=HNB.out.2.2;have e2:w.heap.size=rd:=Option.some.inj e;omega)).trans HX.out.2.1,HX.out.2.2.1.kept p.2 (.inr (own_ne HX.out.2.2.1 HBS.out.1)),HX.out.2.2.2.1.trans (p.below (by have:=HNB.out.2.2;omega) (Nat.le_of_lt HX.out.2.2.2.2.lt)),p.1⟩
  clear p
  refine hK _ _ ?_
  clear hK
  refine wpAny_ready (rs:=[4]) (by kernel_rfl) (by simp) ?_
  refine MachP.any_cons rfl rfl (fun K hK=>?_) AllReady.nil
  refine wp_store_row 30 _ _ rfl w.heap.size (cellsM m po cap) rfl rfl _ _ HX.out.2.1 (infoMs _ _ _) (by rw [size_M,size_M]) (one_M _ _ _) ?_
  refine hK _ _ ?_
  clear hK
  refine wpAny_take (i:=5) (v:=?vd6) rfl (by kernel_rfl) (by kernel_rfl) (by kernel_rfl) (fun _ _ _ h=>h) (Or.inl ⟨by rfl,?hyd6⟩) ?restd6
  case hyd6=>(intro w;go_simp;try with_reducible rfl)
  refine wpAny_take (i:=6) (v:=?vd7) rfl (by kernel_rfl) (by kernel_rfl) (by kernel_rfl) (fun _ _ _ h=>h) (Or.inl ⟨by rfl,?hyd7⟩) ?restd7
  case hyd7=>(intro w;go_simp;try with_reducible rfl)
  refine wpAny_done (by kernel_rfl) ?_ _
  have HF:Hid ((w7.setRow w.heap.size (cellsM m po cap)).heap[w.heap.size]? = some (.cells (cellsM m po cap) 30)):=heap_row HX.out.2.1
  have HO:Hid ((w7.setRow w.heap.size (cellsM m po cap)).ownsRow bs 2 1 (.slice po m.out.length cap) m.out.length (outC m.out)):=HX.out.2.2.1.kept (row:=some w.heap.size) (set_row_grown _ _ _) (.inr (row_ne HX.out.2.2.1 HX.out.2.1))
  have BW:Hid (Below w.heap.size w (w7.setRow w.heap.size (cellsM m po cap))):=below_row HX.out.2.2.2.1 (Nat.le_refl _)
  go_wp2
  exact bodyPost_ret (v:=.tuple #[.agg (cellsM m po cap),.int .i64 x,.int .i64 y]) (results_three results5 _ _ w.heap.size _ _ (0,0) _ _ _ rfl rfl rfl HF.out underlying30 rfl (infoMs _ _ _)) rfl ⟨m,po,cap,x,y,rfl,HSM.out,Stdg.row_own (w':=w) HO.out _ HBS.out.2,BW.out⟩
 ·go_wp2_with fail
  refine (Rdr.byte_any _ _ HX.out.2.2.2.2).mono ?_
  rintro e w7 ⟨⟨y,y0,y1,rfl⟩,p⟩
  have HX:Hid (w7.heap[b]? = some (.cells (cellsM m po cap) 30)/\w7.heap[w.heap.size]? = some (.cells (cellsM Z0 none 0) 30)/\w7.ownsRow bs 2 1 (.slice po m.out.length cap) m.out.length (outC m.out)/\Below w.heap.size w w7/\Rd w7 rd):=⟨(p.2.block _ (zLo HX.out.1) (fun e=>HNB.out.2.1 (Option.some.inj e))).trans HX.out.1,(p.2.block _ (zLo HX.out.2.1) (fun e=>by have:=HNB.out.2.2;have e2:w.heap.size=rd:=Option.some.inj e;omega)).trans HX.out.2.1,HX.out.2.2.1.kept p.2 (.inr (own_ne HX.out.2.2.1 HBS.out.1)),HX.out.2.2.2.1.trans (p.below (by have:=HNB.out.2.2;omega) (Nat.le_of_lt HX.out.2.2.2.2.lt)),p.1⟩
  clear p
  refine hK _ _ ?_
  clear hK
  refine wpAny_ready (rs:=[0]) (by kernel_rfl) (by simp) ?_
  refine MachP.any_cons rfl rfl (fun K hK=>?_) AllReady.nil
  refine wp_load_row 30 _ rfl b rfl _ _ (0,0) _ HX.out.1 underlying30 rfl (infoMs _ _ _) ?_
  refine hK _ _ ?_
  clear hK
  refine wpAny_ready (rs:=[4]) (by kernel_rfl) (by simp) ?_
  refine MachP.any_cons rfl rfl (fun K hK=>?_) AllReady.nil
  refine wp_store_row 30 _ _ rfl w.heap.size (cellsM m po cap) rfl rfl _ _ HX.out.2.1 (infoMs _ _ _) (by rw [size_M,size_M]) (one_M _ _ _) ?_
  refine hK _ _ ?_
  clear hK
  refine wpAny_take (i:=5) (v:=?vd8) rfl (by kernel_rfl) (by kernel_rfl) (by kernel_rfl) (fun _ _ _ h=>h) (Or.inl ⟨by rfl,?hyd8⟩) ?restd8
  case hyd8=>(intro w;go_simp;try with_reducible rfl)
  refine wpAny_take (i:=6) (v:=?vd9) rfl (by kernel_rfl) (by kernel_rfl) (by kernel_rfl) (fun _ _ _ h=>h) (Or.inl ⟨by rfl,?hyd9⟩) ?restd9
  case hyd9=>(intro w;go_simp;try with_reducible rfl)
  refine wpAny_done (by kernel_rfl) ?_ _
  have HF:Hid ((w7.setRow w.heap.size (cellsM m po cap)).heap[w.heap.size]? = some (.cells (cellsM m po cap) 30)):=heap_row HX.out.2.1
  have HO:Hid ((w7.setRow w.heap.size (cellsM m po cap)).ownsRow bs 2 1 (.slice po m.out.length cap) m.out.length (outC m.out)):=HX.out.2.2.1.kept (row:=some w.heap.size) (set_row_grown _ _ _) (.inr (row_ne HX.out.2.2.1 HX.out.2.1))
  have BW:Hid (Below w.heap.size w (w7.setRow w.heap.size (cellsM m po cap))):=below_row HX.out.2.2.2.1 (Nat.le_refl _)
  go_wp2
  exact bodyPost_ret (v:=.tuple #[.agg (cellsM m po cap),.int .i64 x,.int .i64 y]) (results_three results5 _ _ w.heap.size _ _ (0,0) _ _ _ rfl rfl rfl HF.out underlying30 rfl (infoMs _ _ _)) rfl ⟨m,po,cap,x,y,rfl,HSM.out,Stdg.row_own (w':=w) HO.out _ HBS.out.2,BW.out⟩
end Boxb
namespace Bput
open Go.Deep
open Signed (inB)
open Busw Busx Stpp Stpq Runp Runq
def rdA (m:M) (a:Int):Int:=MachB.readM m.ra m.rf m.rB m.rC m.rD m.rE m.rH m.rL m.sp m.pc m.ime m.hal m.rom m.kind m.bank m.ram m.rb m.on m.mode m.work m.high none m.out 0 m.cyc a
theorem implRd_M (m:M) (po:Option Addr) (cap:Nat) (a:Int) (w:World) (hs:Sm m) (hN:Sl w po m.out cap) :
  Calls prog 10 #[.agg (cellsM m po cap),.int .i64 a] w fun e w'=>e=.returned (.int .i64 (rdA m a))/\Below w.heap.size w w':=by
 rw [cells_def]
 exact MachB.implB_any m.ra m.rf m.rB m.rC m.rD m.rE m.rH m.rL m.sp m.pc m.ime m.hal m.rom m.kind m.bank m.ram m.rb m.on m.mode m.work m.high po m.out cap m.cyc a w hs.rom hs.ram hs.work hs.high hN.row hs.out
theorem specRd_M (m:M) (po:Option Addr) (cap:Nat) (a:Int) (w:World) (hs:Sm m) (hN:Sl w po m.out cap) :
  Calls prog 11 #[.agg (cellsM m po cap),.int .i64 a] w fun e w'=>e=.returned (.int .i64 (rdA m a))/\Below w.heap.size w w':=by
 rw [cells_def]
 exact MachB.specB_any m.ra m.rf m.rB m.rC m.rD m.rE m.rH m.rL m.sp m.pc m.ime m.hal m.rom m.kind m.bank m.ram m.rb m.on m.mode m.work m.high po m.out cap m.cyc a w hs.rom hs.ram hs.work hs.high hN.row hs.out
theorem rdA_ok {m:M} {a:Int} (h:okMM m=true) (a0:0<=a) (a1:a<=65535):rdA m a=rd m a:=by
 unfold rdA MachB.readM
 rw [if_pos ⟨h,decide_eq_true ⟨a0,a1⟩⟩]
 rfl
theorem bw_some {m n:M} {addr v:Int} (h:bwM m addr v=some n):okMM m=true/\(0<=addr/\addr<=65535)/\(0<=v/\v<=255)/\wrM m addr v=some n:=by
 unfold bwM at h
 split at h
 ·rename_i hh
  exact ⟨hh.1,of_decide_eq_true hh.2.1,of_decide_eq_true hh.2.2,h⟩
 ·cases h
structure Stay (m n:M):Prop where
 ra:n.ra=m.ra
 rf:n.rf=m.rf
 rB:n.rB=m.rB
 rC:n.rC=m.rC
 rD:n.rD=m.rD
 rE:n.rE=m.rE
 rH:n.rH=m.rH
 rL:n.rL=m.rL
 sp:n.sp=m.sp
 pc:n.pc=m.pc
 ime:n.ime=m.ime
 hal:n.hal=m.hal
 rom:n.rom=m.rom
 cyc:n.cyc=m.cyc
structure Put (m n:M) (addr v:Int):Prop where
 stay:Stay m n
 ok:okMM n=true
 sm:Sm n
 work:∀ a,49152<=a->a<=49407->rdA n a=if a=addr then v else rdA m a
 back:(49152<=addr/\addr<=49407) \/ (65408<=addr/\addr<=65534)->rdA n addr=v
 out:addr=65281->n.out=m.out ++ [v]/\m.out.length<100
 same:addr ≠ 65281->n.out=m.out
theorem rd_work {m:M} {a:Int} (h0:49152<=a) (h1:a<=49407):rd m a=CartR.byteAt m.work (a-49152):=by
 unfold rd MachB.busV
 rw [if_pos (show inB a 49152 49407=true from decide_eq_true ⟨h0,h1⟩)]
theorem rd_high {m:M} {a:Int} (h0:65408<=a) (h1:a<=65534):rd m a=CartR.byteAt m.high (a-65408):=by
 unfold rd MachB.busV
 rw [if_neg (show ¬ inB a 49152 49407=true from fun h=>by have:=of_decide_eq_true h;omega),if_pos (show inB a 65408 65534=true from decide_eq_true ⟨h0,h1⟩)]
theorem put_of {m n:M} {addr v:Int} (hs:Sm m) (h:bwM m addr v=some n):Put m n addr v:=by
 obtain ⟨hok,⟨d0,d1⟩,⟨v0,v1⟩,hw⟩:=bw_some h
 have hg:=good_of hok hs
 have hgn:=wrM_good hg.1 d0 d1 v0 v1 hw
 have hst:Stay m n/\(addr=65281->n.out=m.out ++ [v]/\m.out.length<100)/\(addr ≠ 65281->n.out=m.out)/\(49152<=addr/\addr<=49407->n.work=CartP.putB m.work (addr-49152) v)/\(¬ (49152<=addr/\addr<=49407)->n.work=m.work)/\(65408<=addr/\addr<=65534->n.high=CartP.putB m.high (addr-65408) v):=by
  unfold wrM at hw
  split at hw
  ·rename_i h1
   have h1:=of_decide_eq_true h1
   cases hw
   exact ⟨⟨rfl,rfl,rfl,rfl,rfl,rfl,rfl,rfl,rfl,rfl,rfl,rfl,rfl,rfl⟩,fun e=>by omega,fun _=>rfl,fun _=>rfl,fun e=>absurd h1 e,fun e=>by omega⟩
  ·rename_i h1
   have h1:¬ (49152<=addr/\addr<=49407):=fun e=>h1 (decide_eq_true e)
   split at hw
   ·rename_i h2
    have h2:=of_decide_eq_true h2
    cases hw
    exact ⟨⟨rfl,rfl,rfl,rfl,rfl,rfl,rfl,rfl,rfl,rfl,rfl,rfl,rfl,rfl⟩,fun e=>by omega,fun _=>rfl,fun e=>absurd e h1,fun _=>rfl,fun _=>rfl⟩
   ·rename_i h2
    have h2:¬ (65408<=addr/\addr<=65534):=fun e=>h2 (decide_eq_true e)
    split at hw
    ·rename_i h3
     split at hw
     ·cases hw
     ·rename_i h4
      cases hw
      exact ⟨⟨rfl,rfl,rfl,rfl,rfl,rfl,rfl,rfl,rfl,rfl,rfl,rfl,rfl,rfl⟩,fun _=>⟨rfl,by omega⟩,fun e=>absurd h3 e,fun e=>absurd e h1,fun _=>rfl,fun e=>absurd e h2⟩
    ·rename_i h3
     cases hw
     exact ⟨⟨rfl,rfl,rfl,rfl,rfl,rfl,rfl,rfl,rfl,rfl,rfl,rfl,rfl,rfl⟩,fun e=>absurd e h3,fun _=>rfl,fun e=>absurd e h1,fun _=>rfl,fun e=>absurd e h2⟩
 obtain ⟨st,o1,o2,w1,w2,w3⟩:=hst
 have hcyc:=st.cyc
 have hokn:okMM n=true:=ok_of hgn (by omega) (by omega)
 have hwz:m.work.size=256:=hg.1.rt.work
 have hhz:m.high.size=127:=hg.1.rt.high
 refine ⟨st,hokn,Mnew.sm_fine ⟨hgn,by omega,by omega⟩,fun a a0 a1=>?_,fun hb=>?_,o1,o2⟩
 ·rw [rdA_ok hokn (by omega) (by omega),rdA_ok hok (by omega) (by omega),rd_work a0 a1,rd_work a0 a1]
  by_cases ha:a=addr
  ·rw [if_pos ha,w1 (by omega),ha]
   exact putB_at (by omega) (by omega) ⟨v0,v1⟩
  ·rw [if_neg ha]
   by_cases hw':49152<=addr/\addr<=49407
   ·rw [w1 hw']
    exact putB_ne (by omega) (by omega) (by omega)
   ·rw [w2 hw']
 ·rw [rdA_ok hokn d0 d1]
  rcases hb with hb|hb
  ·rw [rd_work hb.1 hb.2,w1 hb]
   exact putB_at (by omega) (by omega) ⟨v0,v1⟩
  ·rw [rd_high hb.1 hb.2,w3 hb]
   exact putB_at (by omega) (by omega) ⟨v0,v1⟩
theorem wp_append_sl {o:Oper} {a:Act} {w:World} {K:Act->World->Prop} {Q:Exit->Act->World->Prop} (s x:Operand) (ho:o.op=.call { callee:=.builtin .append,args:=#[s,x],argTypes:=#[28,28] })
  (base:Nat) (v:Value) (n:Nat) (xs:List Value) (hs:a.eval s=v) (hown:w.ownsRow base 2 1 v n xs) (po:Option Addr) (L:List Int) (cap:Nat) (hx:a.eval x=.slice po L.length cap) (hsl:Sl w po L cap) (hn:n+L.length<=2097152) (hbase:base<=w.heap.size)
  (h:∀ v' w',w'.ownsRow base 2 1 v' (n+L.length) (xs ++ outC L)->w.grownBy w' v.ownBlock->K (a.put o.dst v') w'):Oper.wp prog o a w K Q:=by
 obtain ⟨i0,hi,hz0,hz1,hz2⟩:=Busw.info_parts Busw.info2
 rcases hsl with ⟨rfl,rfl,rfl⟩|⟨b,off,rfl,hc⟩
 ·have hrun:=run_append_owned_none (P:=prog) (w:=w) base 28 o.type 2 i0 1 underlying28 hi v n xs hown
  have hk:=h v w (by simpa [outC] using hown) ⟨rfl,rfl,rfl,Nat.le_refl _,fun _ _ _=>rfl⟩
  have hx:a.eval x=.slice none 0 0:=hx
  unfold Oper.wp
  simp [execOp,ho,resolve,invoke,builtin,hs,hx,hrun,Result.andThen]
  exact hk
 ·refine wp_append_own w s x 28 ho base 2 i0 (.int .i64 0) 1 8 underlying28 hi hz0 hz1 hz2 rfl (by decide) v n xs hs hown ⟨b,off,none⟩ L.length cap (outC L) hx (by simp [outC]) ?_ ?_ (by unfold maxLen;omega) (by omega) hbase (fun v' w' h1 h2 _=>h v' w' h1 h2)
  ·intro j u hu
   unfold outC at hu
   rw [List.getElem?_map] at hu
   obtain ⟨z,hz,rfl⟩:=Option.map_eq_some_iff.1 hu
   obtain ⟨hj,rfl⟩:=List.getElem?_eq_some_iff.1 hz
   have e:(⟨b,off,none⟩ : Addr).add j=⟨b,off+j,none⟩:=by unfold Addr.add;split <;> simp_all
   rw [e]
   exact (hc j hj).2
  ·intro u hu
   unfold outC at hu
   obtain ⟨z,_,rfl⟩:=List.mem_map.1 hu
   rfl
end Bput
end Go.Proofs.YtfpecdgcapfgfaaGreat
