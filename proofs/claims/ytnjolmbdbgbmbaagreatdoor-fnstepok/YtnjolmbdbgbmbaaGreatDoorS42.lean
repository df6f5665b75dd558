import Derived.Test.YtnjolmbdbgbmbaaGreatDoorS41
set_option linter.all false
set_option maxRecDepth 20000
set_option maxHeartbeats 8000000
open Go.ChangeShapes Go.WideShapes Go.ChangeAt Go.RowKit
open Go.Proofs.Tryz
namespace Go.Proofs.YtnjolmbdbgbmbaaGreatDoor
namespace Mdrw
open Go.Deep
open Rdr (Rd)
open DrawI (postB postSet)
open Busw (M cellsM cells_def celM outC Held row_ne blk_own alloc_kept)
open Busx Busy Stpp Stpq Runp Runq Mnew
open MachT (heap_row heap_row_other)
open CartN (newB)
structure At (w:World) (rd B:Nat) (W:World) (m:M) (po:Option Addr) (cap:Nat):Prop where
 box:W.heap[B]? = some (.cells (cellsM m po cap) 33)
 row:W.ownsRow w.heap.size 2 1 (.slice po m.out.length cap) m.out.length (outC m.out)
 res:W.heap[w.heap.size]? = some (.cells (cellsM Z0 none 0) 33)
 post:Rdr.Post w rd W
 sm:Sm m
 lt:rd<w.heap.size/\w.heap.size<B
theorem own_ne {w:World} {base n cap k:Nat} {po:Option Addr} {xs:List Value} (h:w.ownsRow base 2 1 (.slice po n cap) n xs) (hk:k<base):(Value.slice po n cap).ownBlock ≠ some k:=by
 rw [blk_own]
 intro e
 cases po with
 | none=>cases e
 | some p=>have h1:=own_at h p rfl;have h2:p.block=k:=Option.some.inj e;omega
theorem At.next {w:World} {rd B:Nat} {W W':World} {m:M} {po:Option Addr} {cap:Nat} (h:At w rd B W m po cap) (p:Rdr.Post W rd W'):At w rd B W' m po cap :=
 ⟨(p.2.block B (zLo h.box) (fun e=>by have:=h.lt;have e2:B=rd:=Option.some.inj e;omega)).trans h.box,
 h.row.kept p.2 (.inr (own_ne h.row h.lt.1)),
 (p.2.block _ (zLo h.res) (fun e=>by have:=h.lt;have e2:w.heap.size=rd:=Option.some.inj e;omega)).trans h.res,h.post.trans p,h.sm,h.lt⟩
theorem At.below {w:World} {rd B:Nat} {W W':World} {m:M} {po:Option Addr} {cap:Nat} (h:At w rd B W m po cap) (b:Below W.heap.size W W'):At w rd B W' m po cap:=h.next (postB h.post.1 b)
theorem At.alloc {w:World} {rd B:Nat} {W:World} {m:M} {po:Option Addr} {cap:Nat} (h:At w rd B W m po cap) (o:Obj):At w rd B (W.alloc o) m po cap:=h.below (zAl _ _)
theorem At.nextA {w:World} {rd B:Nat} {W W':World} {m:M} {po:Option Addr} {cap:Nat} {o:Obj} (h:At w rd B W m po cap) (p:Rdr.Post (W.alloc o) rd W'):At w rd B W' m po cap:=(h.alloc o).next p
theorem At.rdA {w:World} {rd B:Nat} {W:World} {m:M} {po:Option Addr} {cap:Nat} (h:At w rd B W m po cap) (o:Obj):Rd (W.alloc o) rd:=(h.alloc o).post.1
theorem At.set {w:World} {rd B:Nat} {W:World} {m m':M} {po:Option Addr} {cap:Nat} (h:At w rd B W m po cap) (i:Nat) (v:Value) (hc:(cellsM m po cap).setIfInBounds i v=cellsM m' po cap) (ho:m'.out=m.out) (hs:Sm m'):At w rd B (W.setCell ⟨B,i,none⟩ v) m' po cap :=
 ⟨by rw [<- hc];exact MachT.heap_set h.box,
 by rw [ho];exact h.row.kept (Rdr.grown_set W B i v) (.inr (row_ne h.row h.box)),
 (MachT.heap_set_other (by have:=h.lt;omega) W).trans h.res,
 postSet h.post h.lt.1 (p:=⟨B,i,none⟩) (by have:=h.lt;show _<=B;omega) v,hs,h.lt⟩
theorem At.set0 {w:World} {rd B:Nat} {W:World} {m:M} {po:Option Addr} {cap:Nat} (h:At w rd B W m po cap) (x:Int):At w rd B (W.setCell ⟨B,0,none⟩ (.int .i64 x)) { m with ra:=x } po cap :=
 h.set 0 _ (by rw [cells_def,cells_def];rfl) rfl ⟨h.sm.rom,h.sm.ram,h.sm.work,h.sm.high,h.sm.out⟩
theorem At.set1 {w:World} {rd B:Nat} {W:World} {m:M} {po:Option Addr} {cap:Nat} (h:At w rd B W m po cap) (x:Int):At w rd B (W.setCell ⟨B,1,none⟩ (.int .i64 x)) { m with rf:=x } po cap :=
 h.set 1 _ (by rw [cells_def,cells_def];rfl) rfl ⟨h.sm.rom,h.sm.ram,h.sm.work,h.sm.high,h.sm.out⟩
theorem At.set2 {w:World} {rd B:Nat} {W:World} {m:M} {po:Option Addr} {cap:Nat} (h:At w rd B W m po cap) (x:Int):At w rd B (W.setCell ⟨B,2,none⟩ (.int .i64 x)) { m with rB:=x } po cap :=
 h.set 2 _ (by rw [cells_def,cells_def];rfl) rfl ⟨h.sm.rom,h.sm.ram,h.sm.work,h.sm.high,h.sm.out⟩
theorem At.set6 {w:World} {rd B:Nat} {W:World} {m:M} {po:Option Addr} {cap:Nat} (h:At w rd B W m po cap) (x:Int):At w rd B (W.setCell ⟨B,6,none⟩ (.int .i64 x)) { m with rH:=x } po cap :=
 h.set 6 _ (by rw [cells_def,cells_def];rfl) rfl ⟨h.sm.rom,h.sm.ram,h.sm.work,h.sm.high,h.sm.out⟩
theorem At.set7 {w:World} {rd B:Nat} {W:World} {m:M} {po:Option Addr} {cap:Nat} (h:At w rd B W m po cap) (x:Int):At w rd B (W.setCell ⟨B,7,none⟩ (.int .i64 x)) { m with rL:=x } po cap :=
 h.set 7 _ (by rw [cells_def,cells_def];rfl) rfl ⟨h.sm.rom,h.sm.ram,h.sm.work,h.sm.high,h.sm.out⟩
theorem At.set8 {w:World} {rd B:Nat} {W:World} {m:M} {po:Option Addr} {cap:Nat} (h:At w rd B W m po cap) (x:Int):At w rd B (W.setCell ⟨B,8,none⟩ (.int .i64 x)) { m with sp:=x } po cap :=
 h.set 8 _ (by rw [cells_def,cells_def];rfl) rfl ⟨h.sm.rom,h.sm.ram,h.sm.work,h.sm.high,h.sm.out⟩
theorem At.set9 {w:World} {rd B:Nat} {W:World} {m:M} {po:Option Addr} {cap:Nat} (h:At w rd B W m po cap) (x:Int):At w rd B (W.setCell ⟨B,9,none⟩ (.int .i64 x)) { m with pc:=x } po cap :=
 h.set 9 _ (by rw [cells_def,cells_def];rfl) rfl ⟨h.sm.rom,h.sm.ram,h.sm.work,h.sm.high,h.sm.out⟩
theorem At.cell {w:World} {rd B:Nat} {W:World} {m:M} {po:Option Addr} {cap:Nat} (h:At w rd B W m po cap) (i:Nat):W.frozen? ⟨B,i,none⟩=false:=frozen_of_row _ _ _ _ _ h.box
theorem At.over {w:World} {rd B:Nat} {W:World} {m m':M} {po po':Option Addr} {cap cap':Nat} (h:At w rd B W m po cap) (ho:W.ownsRow w.heap.size 2 1 (.slice po' m'.out.length cap') m'.out.length (outC m'.out)) (hs:Sm m'):At w rd B (W.setRow B (cellsM m' po' cap')) m' po' cap' :=
 ⟨heap_row h.box,ho.kept (row:=some B) (set_row_grown _ _ _) (.inr (row_ne ho h.box)),(heap_row_other (by have:=h.lt;omega) W).trans h.res,
 by
  have g:=set_row_grown W B (cellsM m' po' cap')
  have hl:=h.lt
  have hlt:=h.post.1.lt
  refine ⟨h.post.1.kept fun k hk=>heap_row_other (by omega) W,⟨g.os.trans h.post.2.os,g.tape.trans h.post.2.tape,g.output.trans h.post.2.output,Nat.le_trans h.post.2.size g.size,fun k hk hne=>?_⟩⟩
  exact (heap_row_other (by omega) W).trans (h.post.2.block k hk hne),hs,h.lt⟩
def AtE (w:World) (rd B:Nat) (W:World):Prop:=∃ (m:M) (po:Option Addr) (cap:Nat),At w rd B W m po cap
theorem AtE.next {w:World} {rd B:Nat} {W W':World} (h:AtE w rd B W) (p:Rdr.Post W rd W'):AtE w rd B W':=by obtain ⟨m,po,cap,h⟩:=h;exact ⟨m,po,cap,h.next p⟩
theorem AtE.nextA {w:World} {rd B:Nat} {W W':World} {o:Obj} (h:AtE w rd B W) (p:Rdr.Post (W.alloc o) rd W'):AtE w rd B W':=by obtain ⟨m,po,cap,h⟩:=h;exact ⟨m,po,cap,h.nextA p⟩
theorem AtE.rd {w:World} {rd B:Nat} {W:World} (h:AtE w rd B W):Rd W rd:=by obtain ⟨m,po,cap,h⟩:=h;exact h.post.1
theorem AtE.rdA {w:World} {rd B:Nat} {W:World} (h:AtE w rd B W) (o:Obj):Rd (W.alloc o) rd:=by obtain ⟨m,po,cap,h⟩:=h;exact h.rdA o
theorem AtE.free {w:World} {rd B:Nat} {W:World} (h:AtE w rd B W) (i:Nat):W.frozen? ⟨B,i,none⟩=false:=by obtain ⟨m,po,cap,h⟩:=h;exact h.cell i
theorem AtE.set0 {w:World} {rd B:Nat} {W:World} (h:AtE w rd B W) (x:Int):AtE w rd B (W.setCell ⟨B,0,none⟩ (.int .i64 x)):=by obtain ⟨m,po,cap,h⟩:=h;exact ⟨_,po,cap,h.set0 x⟩
theorem AtE.get0 {w:World} {rd B:Nat} {W:World} (h:AtE w rd B W):∃ v:Int,W.cell? ⟨B,0,none⟩=some (.int .i64 v):=by obtain ⟨m,po,cap,h⟩:=h;exact ⟨m.ra,celM h.box 0 _ rfl⟩
theorem AtE.set1 {w:World} {rd B:Nat} {W:World} (h:AtE w rd B W) (x:Int):AtE w rd B (W.setCell ⟨B,1,none⟩ (.int .i64 x)):=by obtain ⟨m,po,cap,h⟩:=h;exact ⟨_,po,cap,h.set1 x⟩
theorem AtE.get1 {w:World} {rd B:Nat} {W:World} (h:AtE w rd B W):∃ v:Int,W.cell? ⟨B,1,none⟩=some (.int .i64 v):=by obtain ⟨m,po,cap,h⟩:=h;exact ⟨m.rf,celM h.box 1 _ rfl⟩
theorem AtE.set2 {w:World} {rd B:Nat} {W:World} (h:AtE w rd B W) (x:Int):AtE w rd B (W.setCell ⟨B,2,none⟩ (.int .i64 x)):=by obtain ⟨m,po,cap,h⟩:=h;exact ⟨_,po,cap,h.set2 x⟩
theorem AtE.get2 {w:World} {rd B:Nat} {W:World} (h:AtE w rd B W):∃ v:Int,W.cell? ⟨B,2,none⟩=some (.int .i64 v):=by obtain ⟨m,po,cap,h⟩:=h;exact ⟨m.rB,celM h.box 2 _ rfl⟩
theorem AtE.set6 {w:World} {rd B:Nat} {W:World} (h:AtE w rd B W) (x:Int):AtE w rd B (W.setCell ⟨B,6,none⟩ (.int .i64 x)):=by obtain ⟨m,po,cap,h⟩:=h;exact ⟨_,po,cap,h.set6 x⟩
theorem AtE.get6 {w:World} {rd B:Nat} {W:World} (h:AtE w rd B W):∃ v:Int,W.cell? ⟨B,6,none⟩=some (.int .i64 v):=by obtain ⟨m,po,cap,h⟩:=h;exact ⟨m.rH,celM h.box 6 _ rfl⟩
theorem AtE.set7 {w:World} {rd B:Nat} {W:World} (h:AtE w rd B W) (x:Int):AtE w rd B (W.setCell ⟨B,7,none⟩ (.int .i64 x)):=by obtain ⟨m,po,cap,h⟩:=h;exact ⟨_,po,cap,h.set7 x⟩
theorem AtE.get7 {w:World} {rd B:Nat} {W:World} (h:AtE w rd B W):∃ v:Int,W.cell? ⟨B,7,none⟩=some (.int .i64 v):=by obtain ⟨m,po,cap,h⟩:=h;exact ⟨m.rL,celM h.box 7 _ rfl⟩
theorem AtE.set8 {w:World} {rd B:Nat} {W:World} (h:AtE w rd B W) (x:Int):AtE w rd B (W.setCell ⟨B,8,none⟩ (.int .i64 x)):=by obtain ⟨m,po,cap,h⟩:=h;exact ⟨_,po,cap,h.set8 x⟩
theorem AtE.get8 {w:World} {rd B:Nat} {W:World} (h:AtE w rd B W):∃ v:Int,W.cell? ⟨B,8,none⟩=some (.int .i64 v):=by obtain ⟨m,po,cap,h⟩:=h;exact ⟨m.sp,celM h.box 8 _ rfl⟩
theorem AtE.set9 {w:World} {rd B:Nat} {W:World} (h:AtE w rd B W) (x:Int):AtE w rd B (W.setCell ⟨B,9,none⟩ (.int .i64 x)):=by obtain ⟨m,po,cap,h⟩:=h;exact ⟨_,po,cap,h.set9 x⟩
theorem AtE.get9 {w:World} {rd B:Nat} {W:World} (h:AtE w rd B W):∃ v:Int,W.cell? ⟨B,9,none⟩=some (.int .i64 v):=by obtain ⟨m,po,cap,h⟩:=h;exact ⟨m.pc,celM h.box 9 _ rfl⟩
def Drawn (w:World) (rd:Nat) (e:Ending) (w':World):Prop:=∃ (m:M) (po:Option Addr) (cap:Nat),e=.returned (.agg (cellsM m po cap))/\Sm m/\w'.ownsRow w.heap.size 2 1 (.slice po m.out.length cap) m.out.length (outC m.out)/\Rdr.Post w rd w'
theorem At.done {w:World} {rd B:Nat} {W:World} {m:M} {po:Option Addr} {cap:Nat} (h:At w rd B W m po cap):(W.setRow w.heap.size (cellsM m po cap)).heap[w.heap.size]? = some (.cells (cellsM m po cap) 33)/\Drawn w rd (.returned (.agg (cellsM m po cap))) (W.setRow w.heap.size (cellsM m po cap)):=by
 refine ⟨heap_row h.res,m,po,cap,rfl,h.sm,h.row.kept (row:=some w.heap.size) (set_row_grown _ _ _) (.inr (row_ne h.row h.res)),?_⟩
 have g:=set_row_grown W w.heap.size (cellsM m po cap)
 have hl:=h.lt
 refine ⟨h.post.1.kept fun k hk=>heap_row_other (by omega) W,⟨g.os.trans h.post.2.os,g.tape.trans h.post.2.tape,g.output.trans h.post.2.output,Nat.le_trans h.post.2.size g.size,fun k hk hne=>?_⟩⟩
 exact (heap_row_other (by omega) W).trans (h.post.2.block k hk hne)
theorem machine_any (rd:Nat) (most:Int) (w:World) (h:Rd w rd) (h0:0<=most) (h1:most<=400) :
  Calls prog 67 #[.pointer (some ⟨rd,0,none⟩),.int .i64 most] w (Drawn w rd):=by
 have hz:=zeroM
 obtain ⟨cZ,hcZ⟩ : ∃ c,c=cellsM Z0 none 0:=⟨_,rfl⟩
 rw [<- hcZ] at hz
 have HZ:Hid (cZ=cellsM Z0 none 0):=hcZ
 have PW:Hid (Rdr.Post w rd w):=Rdr.Post.refl h
 have hlt:=h.lt
 have hwk:IntKind.i64.wrap (most+1)=most+1:=by rw [IntKind.wrap_i64];omega
 clear h hcZ
 go_enter func67,ntmps67
 go_wp2_with fail
 have HR:Hid ((w.alloc (.cells cZ 33)).heap[w.heap.size]? = some (.cells (cellsM Z0 none 0) 33)):=by show _=_;rw [<- HZ.out];exact heap_alloc_last w _
 have PW:Hid (Rdr.Post w rd (w.alloc (.cells cZ 33))):=PW.out.alloc _
 generalize w.alloc (.cells cZ 33)=w0 at HR PW |-
 have HN:Hid (w.heap.size ≠ rd):=by show _ ≠ _;omega
 refine (DrawP.rom_any _ _ PW.out.1).mono ?_
 rintro e w1 ⟨⟨s,hs,rfl⟩,p⟩
 have HR:Hid (w1.heap[w.heap.size]? = some (.cells (cellsM Z0 none 0) 33)):=(p.2.block _ (zLo HR.out) (fun e=>HN.out (Option.some.inj e))).trans HR.out
 have PW:Hid (Rdr.Post w rd w1):=PW.out.trans p
 clear p
 go_wp2_with fail
 refine (Rdr.below_any _ _ _ PW.out.1 (by decide) (by decide)).mono ?_
 rintro e w2 ⟨⟨k,k0,k1,rfl⟩,p⟩
 have HR:Hid (w2.heap[w.heap.size]? = some (.cells (cellsM Z0 none 0) 33)):=(p.2.block _ (zLo HR.out) (fun e=>HN.out (Option.some.inj e))).trans HR.out
 have PW:Hid (Rdr.Post w rd w2):=PW.out.trans p
 clear p
 have hs2:s.size<=maxLen:=Nat.le_trans hs (by decide)
 have cn:=fun w=>specNew_M s k w hs2
 have hwk2:IntKind.i64.wrap k=k:=by rw [IntKind.wrap_i64];omega
 have hsm:=sm_new s k hs2
 have hou:=out_new s k
 generalize newV s k=m at *
 generalize newB s k=f at *
 go_wp2_with fail
 refine (cn _).mono ?_
 rintro e w3 ⟨rfl,b⟩
 have HR:Hid (w3.heap[w.heap.size]? = some (.cells (cellsM Z0 none 0) 33)):=(b.block _ (zLo HR.out)).trans HR.out
 have PW:Hid (Rdr.Post w rd w3):=PW.out.trans (postB PW.out.1 b)
 clear b cn
 rename_i hK
 refine hK _ _ ?_
 clear hK
 refine wpList_plain rfl (fun K hK=>?_)
 go_simp
 refine hK _ _ ?_
 clear hK
 refine wpList_plain rfl (fun K hK=>?_)
 go_simp
 refine hK _ _ ?_
 clear hK
 refine wpList_plain rfl (fun K hK=>?_)
 go_simp
 refine hK _ _ ?_
 clear hK
 refine wpList_plain rfl (fun K hK=>?_)
 go_simp
 refine hK _ _ ?_
 clear hK
 refine wpList_store_row rfl 33 _ _ rfl w3.heap.size (cellsM m none 0) rfl rfl _ _ (heap_alloc_last w3 _) (infoMs _ _ _) (by rw [HZ.out,size_M,size_M]) (one_M _ _ _) ?_
 rw [World.setRow_alloc_new]
 obtain ⟨W3,hW3⟩ : ∃ u,u=w3.alloc (.cells (cellsM m none 0) 33):=⟨_,rfl⟩
 obtain ⟨B,hB⟩ : ∃ b,b=w3.heap.size:=⟨_,rfl⟩
 have HA:Hid (At w rd B W3 m none 0):=by
  have hl3:=(zLo HR.out)
  rw [hW3,hB]
  exact ⟨heap_alloc_last w3 _,by rw [hou];exact ⟨rfl,.inl ⟨rfl,rfl⟩⟩,(alloc_kept _ _ hl3).trans HR.out,PW.out.alloc _,hsm,hlt,hl3⟩
 go_upto_region 2 with fail
 rw [<- hW3,<- hB]
 clear hW3 hB HR PW HN hs hs2 hsm hou k0 k1 hwk2
 obtain ⟨po,hpo⟩ : ∃ po:Option Addr,po=none:=⟨_,rfl⟩
 obtain ⟨cap,hcap⟩ : ∃ cap:Nat,cap=0:=⟨_,rfl⟩
 rw [<- hpo,<- hcap] at HA
 clear hpo hcap
 cases f with
 | false =>
  go_upto_region 3 with fail
  refine wp_region_list ?_
  refine wpList_load_row rfl 33 _ rfl B rfl _ _ (0,0) _ HA.out.box underlying33 rfl (infoMs _ _ _) ?_
  refine wpList_store_row rfl 33 _ _ rfl w.heap.size _ rfl rfl _ _ HA.out.res (infoMs _ _ _) (by rw [size_M,size_M]) (one_M _ _ _) ?_
  have HD:=HA.out.done
  have HD:Hid (_/\_):=HD
  go_wp2
  exact bodyPost_ret (v:=.agg (cellsM m po cap)) (results_cell_row results67 _ _ w.heap.size _ _ (0,0) _ rfl HD.out.1 underlying33 rfl (infoMs _ _ _)) rfl HD.out.2
 | true =>
  have HA2:Hid (AtE w rd B W3):=⟨m,po,cap,HA.out⟩
  clear HA
  have HA:Hid (AtE w rd B W3):=HA2.out
  clear HA2
  go_upto_region 4 with fail
  go_wp2_with fail
  refine (Rdr.byte_any _ _ HA.out.rd).mono ?_
  rintro e w4 ⟨⟨x,x0,x1,rfl⟩,p⟩
  have HA2:Hid (AtE w rd B w4):=HA.out.next p
  clear p HA
  have HA:Hid (AtE w rd B w4):=HA2.out
  clear HA2
  obtain ⟨v0,q0⟩:=HA.out.get0
  have g0:=HA.out.free 0
  go_upto_region 5 with fail
  have HA2:Hid (AtE w rd B (w4.setCell ⟨B,0,none⟩ (.int .i64 x))):=HA.out.set0 x
  clear q0 g0 HA
  have HA:Hid (AtE w rd B (w4.setCell ⟨B,0,none⟩ (.int .i64 x))):=HA2.out
  clear HA2
  clear x0 x1
  go_wp2_with fail
  refine (DrawR.flags_any _ _ HA.out.rd).mono ?_
  rintro e w5 ⟨⟨x,x0,x1,rfl⟩,p⟩
  have HA2:Hid (AtE w rd B w5):=HA.out.next p
  clear p HA
  have HA:Hid (AtE w rd B w5):=HA2.out
  clear HA2
  obtain ⟨v1,q1⟩:=HA.out.get1
  have g1:=HA.out.free 1
  go_upto_region 6 with fail
  have HA2:Hid (AtE w rd B (w5.setCell ⟨B,1,none⟩ (.int .i64 x))):=HA.out.set1 x
  clear q1 g1 HA
  have HA:Hid (AtE w rd B (w5.setCell ⟨B,1,none⟩ (.int .i64 x))):=HA2.out
  clear HA2
  clear x0 x1
  go_wp2_with fail
  refine (Rdr.byte_any _ _ HA.out.rd).mono ?_
  rintro e w6 ⟨⟨x,x0,x1,rfl⟩,p⟩
  have HA2:Hid (AtE w rd B w6):=HA.out.next p
  clear p HA
  have HA:Hid (AtE w rd B w6):=HA2.out
  clear HA2
  obtain ⟨v2,q2⟩:=HA.out.get2
  have g2:=HA.out.free 2
  go_upto_region 7 with fail
  have HA2:Hid (AtE w rd B (w6.setCell ⟨B,2,none⟩ (.int .i64 x))):=HA.out.set2 x
  clear q2 g2 HA
  have HA:Hid (AtE w rd B (w6.setCell ⟨B,2,none⟩ (.int .i64 x))):=HA2.out
  clear HA2
  clear x0 x1
  go_wp2_with fail
  refine (Rdr.byte_any _ _ HA.out.rd).mono ?_
  rintro e w7 ⟨⟨x,x0,x1,rfl⟩,p⟩
  have HA2:Hid (AtE w rd B w7):=HA.out.next p
  clear p HA
  have HA:Hid (AtE w rd B w7):=HA2.out
  clear HA2
  obtain ⟨v7,q7⟩:=HA.out.get7
  have g7:=HA.out.free 7
  go_upto_region 8 with fail
  have HA2:Hid (AtE w rd B (w7.setCell ⟨B,7,none⟩ (.int .i64 x))):=HA.out.set7 x
  clear q7 g7 HA
  have HA:Hid (AtE w rd B (w7.setCell ⟨B,7,none⟩ (.int .i64 x))):=HA2.out
  clear HA2
  clear x0 x1
  generalize w7.setCell ⟨B,7,none⟩ (.int .i64 x)=w7s at HA |-
  go_wp2_with fail
  refine (Rdr.below_any _ _ _ (HA.out.rdA _) (by decide) (by decide)).mono ?_
  rintro e w8 ⟨⟨c,c0,c1,rfl⟩,p⟩
  obtain ⟨z,hc⟩ : ∃ z:Int,w8.cell? ⟨w7s.heap.size,c.toNat,none⟩=some (.int .i64 z):=by
   have hl:=HA.out.rd.lt
   have e:∀ i:Nat,w8.cell? ⟨w7s.heap.size,i,none⟩=#[Value.int .i64 0,.int .i64 192,.int .i64 255,.int .i64 160,.int .i64 1][i]?:=fun i =>
    (World.cell?_of_block (a:=⟨w7s.heap.size,i,none⟩) (p.2.block _ (by simp) (fun e=>by have:w7s.heap.size=rd:=Option.some.inj e;omega))).trans (World.cell?_alloc_new _ _ _ _)
   rcases (show c=0 \/ c=1 \/ c=2 \/ c=3 \/ c=4 from by omega) with rfl|rfl|rfl|rfl|rfl
   ·exact ⟨_,e 0⟩
   ·exact ⟨_,e 1⟩
   ·exact ⟨_,e 2⟩
   ·exact ⟨_,e 3⟩
   ·exact ⟨_,e 4⟩
  have HA2:Hid (AtE w rd B w8):=HA.out.nextA p
  clear p HA
  have HA:Hid (AtE w rd B w8):=HA2.out
  clear HA2
  obtain ⟨v6,q6⟩:=HA.out.get6
  have g6:=HA.out.free 6
  go_upto_region 9 with fail
  have HA2:Hid (AtE w rd B (w8.setCell ⟨B,6,none⟩ (.int .i64 z))):=HA.out.set6 z
  clear q6 g6 HA
  have HA:Hid (AtE w rd B (w8.setCell ⟨B,6,none⟩ (.int .i64 z))):=HA2.out
  clear HA2
  clear hc c0 c1
  generalize w8.setCell ⟨B,6,none⟩ (.int .i64 z)=w8s at HA |-
  go_wp2_with fail
  refine (Rdr.below_any _ _ _ (HA.out.rdA _) (by decide) (by decide)).mono ?_
  rintro e w9 ⟨⟨c,c0,c1,rfl⟩,p⟩
  obtain ⟨z,hc⟩ : ∃ z:Int,w9.cell? ⟨w8s.heap.size,c.toNat,none⟩=some (.int .i64 z):=by
   have hl:=HA.out.rd.lt
   have e:∀ i:Nat,w9.cell? ⟨w8s.heap.size,i,none⟩=#[Value.int .i64 65534,.int .i64 49200,.int .i64 65420,.int .i64 49153,.int .i64 2][i]?:=fun i =>
    (World.cell?_of_block (a:=⟨w8s.heap.size,i,none⟩) (p.2.block _ (by simp) (fun e=>by have:w8s.heap.size=rd:=Option.some.inj e;omega))).trans (World.cell?_alloc_new _ _ _ _)
   rcases (show c=0 \/ c=1 \/ c=2 \/ c=3 \/ c=4 from by omega) with rfl|rfl|rfl|rfl|rfl
   ·exact ⟨_,e 0⟩
   ·exact ⟨_,e 1⟩
   ·exact ⟨_,e 2⟩
   ·exact ⟨_,e 3⟩
   ·exact ⟨_,e 4⟩
  have HA2:Hid (AtE w rd B w9):=HA.out.nextA p
  clear p HA
  have HA:Hid (AtE w rd B w9):=HA2.out
  clear HA2
  obtain ⟨v8,q8⟩:=HA.out.get8
  have g8:=HA.out.free 8
  go_upto_region 10 with fail
  have HA2:Hid (AtE w rd B (w9.setCell ⟨B,8,none⟩ (.int .i64 z))):=HA.out.set8 z
  clear q8 g8 HA
  have HA:Hid (AtE w rd B (w9.setCell ⟨B,8,none⟩ (.int .i64 z))):=HA2.out
  clear HA2
  clear hc c0 c1
  generalize w9.setCell ⟨B,8,none⟩ (.int .i64 z)=w9s at HA |-
  go_cut [] (fun wx=>Hid (AtE w rd B wx))
  case first =>
   obtain ⟨m,po,cap,HA⟩:=HA.out
   have HA:Hid (At w rd B w9s m po cap):=HA
   refine wp_region_any (by kernel_rfl) ?_
   try (change wpAny _ _ _ _ _ _ _ (World.drew _))
   have HA:Hid (At w rd B w9s.drew m po cap):=HA.out.below (zRf.drew)
   generalize w9s.drew=wd at HA |-
   refine wpAny_take (i:=1) (v:=?vd1) rfl (by kernel_rfl) (by kernel_rfl) (by kernel_rfl) (fun _ _ _ h=>h) (Or.inl ⟨by rfl,?hyd1⟩) ?restd1
   case hyd1=>(intro w;go_simp;try with_reducible rfl)
   refine wpAny_take (i:=2) (v:=?vd2) rfl (by kernel_rfl) (by kernel_rfl) (by kernel_rfl) (fun _ _ _ h=>h) (Or.inl ⟨by rfl,?hyd2⟩) ?restd2
   case hyd2=>(intro w;go_simp;try with_reducible rfl)
   refine wpAny_take (i:=3) (v:=?vd3) rfl (by kernel_rfl) (by kernel_rfl) (by kernel_rfl) (fun _ _ _ h=>h) (Or.inl ⟨by rfl,?hyd3⟩) ?restd3
   case hyd3=>(intro w;go_simp;try with_reducible rfl)
   go_simp
   refine wpAny_ready (rs:=[0,4]) (by kernel_rfl) (by simp) ?_
   refine MachP.any_cons rfl rfl (fun K hK=>?_) (MachP.any_cons rfl rfl (fun K hK=>?_) AllReady.nil)
   ·refine wp_load_row 33 _ rfl B rfl _ _ (0,0) _ HA.out.box underlying33 rfl (infoMs _ _ _) ?_
    refine hK _ _ ?_
    clear hK
    refine wpAny_ready (rs:=[4]) (by kernel_rfl) (by simp) ?_
    refine MachP.any_cons rfl rfl (fun K hK=>?_) AllReady.nil
    go_wp2_with fail
    refine (Rdr.below_any _ _ _ HA.out.post.1 (by omega) (by omega)).mono ?_
    rintro e w10 ⟨⟨y,y0,y1,rfl⟩,p⟩
    have HA:Hid (At w rd B w10 m po cap):=HA.out.next p
    clear p
    refine hK _ _ ?_
    clear hK
    refine wpAny_ready (rs:=[5]) (by kernel_rfl) (by simp) ?_
    refine MachP.any_cons rfl rfl (fun K hK=>?_) AllReady.nil
    have hwy:IntKind.i64.wrap y=y:=by rw [IntKind.wrap_i64];omega
    go_wp2_with fail
    refine Calls.mono (Runs.specRun_any m po cap y _ HA.out.sm (own_sl HA.out.row rfl)) ?_
    rintro e wr ⟨⟨p2,c2,rfl,own2⟩,hb⟩
    have HO:Hid (wr.ownsRow w.heap.size 2 1 (.slice p2 (runV m y).1.out.length c2) (runV m y).1.out.length (outC (runV m y).1.out)):=Stdg.row_own (w':=wr) own2 _ HA.out.post.2.size
    have HS2:Hid (Sm (runV m y).1):=sm_run HA.out.sm
    have HA:=zHd (HA.out.below hb)
    clear own2 hb
    generalize (runV m y).1=m2 at *
    generalize (runV m y).2.1=cd at *
    generalize (runV m y).2.2=st at *
    refine hK _ _ ?_
    clear hK
    refine wpAny_take (i:=6) (v:=?vd4) rfl (by kernel_rfl) (by kernel_rfl) (by kernel_rfl) (fun _ _ _ h=>h) (Or.inl ⟨by rfl,?hyd4⟩) ?restd4
    case hyd4=>(intro w;go_simp;try with_reducible rfl)
    refine wpAny_take (i:=7) (v:=?vd5) rfl (by kernel_rfl) (by kernel_rfl) (by kernel_rfl) (fun _ _ _ h=>h) (Or.inl ⟨by rfl,?hyd5⟩) ?restd5
    case hyd5=>(intro w;go_simp;try with_reducible rfl)
    refine wpAny_take (i:=8) (v:=?vd6) rfl (by kernel_rfl) (by kernel_rfl) (by kernel_rfl) (fun _ _ _ h=>h) (Or.inl ⟨by rfl,?hyd6⟩) ?restd6
    case hyd6=>(intro w;go_simp;try with_reducible rfl)
    refine wpAny_take (i:=9) (v:=?vd7) rfl (by kernel_rfl) (by kernel_rfl) (by kernel_rfl) (fun _ _ _ h=>h) (Or.inl ⟨by rfl,?hyd7⟩) ?restd7
    case hyd7=>(intro w;go_simp;try with_reducible rfl)
    go_simp
    refine wpAny_ready (rs:=[10]) (by kernel_rfl) (by simp) ?_
    refine MachP.any_cons rfl rfl (fun K hK=>?_) AllReady.nil
    refine wp_store_row 33 _ _ rfl B (cellsM m2 p2 c2) rfl rfl _ _ HA.out.box (infoMs _ _ _) (by rw [size_M,size_M]) (one_M _ _ _) ?_
    refine hK _ _ ?_
    clear hK
    refine wpAny_done (by kernel_rfl) ?_ _
    have HA:Hid (At w rd B (wr.setRow B (cellsM m2 p2 c2)) m2 p2 c2):=HA.out.over HO.out HS2.out
    clear HO HS2
    go_wp2_with fail
    go_meet
    exact ⟨m2,p2,c2,HA.out⟩
   ·go_wp2_with fail
    refine (Rdr.below_any _ _ _ HA.out.post.1 (by omega) (by omega)).mono ?_
    rintro e w10 ⟨⟨y,y0,y1,rfl⟩,p⟩
    have HA:Hid (At w rd B w10 m po cap):=HA.out.next p
    clear p
    refine hK _ _ ?_
    clear hK
    refine wpAny_ready (rs:=[0]) (by kernel_rfl) (by simp) ?_
    refine MachP.any_cons rfl rfl (fun K hK=>?_) AllReady.nil
    refine wp_load_row 33 _ rfl B rfl _ _ (0,0) _ HA.out.box underlying33 rfl (infoMs _ _ _) ?_
    refine hK _ _ ?_
    clear hK
    refine wpAny_ready (rs:=[5]) (by kernel_rfl) (by simp) ?_
    refine MachP.any_cons rfl rfl (fun K hK=>?_) AllReady.nil
    have hwy:IntKind.i64.wrap y=y:=by rw [IntKind.wrap_i64];omega
    go_wp2_with fail
    refine Calls.mono (Runs.specRun_any m po cap y _ HA.out.sm (own_sl HA.out.row rfl)) ?_
    rintro e wr ⟨⟨p2,c2,rfl,own2⟩,hb⟩
    have HO:Hid (wr.ownsRow w.heap.size 2 1 (.slice p2 (runV m y).1.out.length c2) (runV m y).1.out.length (outC (runV m y).1.out)):=Stdg.row_own (w':=wr) own2 _ HA.out.post.2.size
    have HS2:Hid (Sm (runV m y).1):=sm_run HA.out.sm
    have HA:=zHd (HA.out.below hb)
    clear own2 hb
    generalize (runV m y).1=m2 at *
    generalize (runV m y).2.1=cd at *
    generalize (runV m y).2.2=st at *
    refine hK _ _ ?_
    clear hK
    refine wpAny_take (i:=6) (v:=?vd8) rfl (by kernel_rfl) (by kernel_rfl) (by kernel_rfl) (fun _ _ _ h=>h) (Or.inl ⟨by rfl,?hyd8⟩) ?restd8
    case hyd8=>(intro w;go_simp;try with_reducible rfl)
    refine wpAny_take (i:=7) (v:=?vd9) rfl (by kernel_rfl) (by kernel_rfl) (by kernel_rfl) (fun _ _ _ h=>h) (Or.inl ⟨by rfl,?hyd9⟩) ?restd9
    case hyd9=>(intro w;go_simp;try with_reducible rfl)
    refine wpAny_take (i:=8) (v:=?vd10) rfl (by kernel_rfl) (by kernel_rfl) (by kernel_rfl) (fun _ _ _ h=>h) (Or.inl ⟨by rfl,?hyd10⟩) ?restd10
    case hyd10=>(intro w;go_simp;try with_reducible rfl)
    refine wpAny_take (i:=9) (v:=?vd11) rfl (by kernel_rfl) (by kernel_rfl) (by kernel_rfl) (fun _ _ _ h=>h) (Or.inl ⟨by rfl,?hyd11⟩) ?restd11
    case hyd11=>(intro w;go_simp;try with_reducible rfl)
    go_simp
    refine wpAny_ready (rs:=[10]) (by kernel_rfl) (by simp) ?_
    refine MachP.any_cons rfl rfl (fun K hK=>?_) AllReady.nil
    refine wp_store_row 33 _ _ rfl B (cellsM m2 p2 c2) rfl rfl _ _ HA.out.box (infoMs _ _ _) (by rw [size_M,size_M]) (one_M _ _ _) ?_
    refine hK _ _ ?_
    clear hK
    refine wpAny_done (by kernel_rfl) ?_ _
    have HA:Hid (At w rd B (wr.setRow B (cellsM m2 p2 c2)) m2 p2 c2):=HA.out.over HO.out HS2.out
    clear HO HS2
    go_wp2_with fail
    go_meet
    exact ⟨m2,p2,c2,HA.out⟩
  case rest =>
  clear HA
  have HA:=hcut
  clear hcut
  rename World=>wz
  go_wp2_with fail
  refine (Rdr.once_any _ _ _ HA.out.rd (by decide) (by decide)).mono ?_
  rintro e w11 ⟨⟨q,rfl⟩,p⟩
  have HA2:Hid (AtE w rd B w11):=HA.out.next p
  clear p HA
  have HA:Hid (AtE w rd B w11):=HA2.out
  clear HA2
  go_upto_if 59 with fail
  go_cut [] (fun wx=>Hid (AtE w rd B wx))
  case first =>
   cases q with
   | false =>
    go_wp2_with fail
    go_meet
    exact HA.out
   | true =>
    go_wp2_with fail
    refine (Rdr.below_any _ _ _ (HA.out.rdA _) (by decide) (by decide)).mono ?_
    rintro e w12 ⟨⟨c,c0,c1,rfl⟩,p⟩
    obtain ⟨z,hc⟩ : ∃ z:Int,w12.cell? ⟨w11.heap.size,c.toNat,none⟩=some (.int .i64 z):=by
     have hl:=HA.out.rd.lt
     have e:∀ i:Nat,w12.cell? ⟨w11.heap.size,i,none⟩=#[Value.int .i64 256,.int .i64 49152,.int .i64 0,.int .i64 257][i]?:=fun i =>
      (World.cell?_of_block (a:=⟨w11.heap.size,i,none⟩) (p.2.block _ (by simp) (fun e=>by have:w11.heap.size=rd:=Option.some.inj e;omega))).trans (World.cell?_alloc_new _ _ _ _)
     rcases (show c=0 \/ c=1 \/ c=2 \/ c=3 from by omega) with rfl|rfl|rfl|rfl
     ·exact ⟨_,e 0⟩
     ·exact ⟨_,e 1⟩
     ·exact ⟨_,e 2⟩
     ·exact ⟨_,e 3⟩
    have HA2:Hid (AtE w rd B w12):=HA.out.nextA p
    clear p HA
    have HA:Hid (AtE w rd B w12):=HA2.out
    clear HA2
    obtain ⟨v9,q9⟩:=HA.out.get9
    have g9:=HA.out.free 9
    go_wp2_with fail
    go_meet
    exact HA.out.set9 z
  case rest =>
  clear HA
  have HA:=hcut
  clear hcut
  rename World=>wy
  go_wp2_with fail
  refine (Rdr.below_any _ _ _ HA.out.rd (by decide) (by decide)).mono ?_
  rintro e w13 ⟨⟨y,y0,y1,rfl⟩,p⟩
  have HA2:Hid (AtE w rd B w13):=HA.out.next p
  clear p HA
  have HA:Hid (AtE w rd B w13):=HA2.out
  clear HA2
  by_cases hy8:y=28
  ·subst hy8
   go_upto_region 15 with fail
   go_wp2_with fail
   refine (Rdr.off_any _ _ _ _ HA.out.rd (by decide) (by decide) (by decide)).mono ?_
   rintro e w15 ⟨⟨x,hx,rfl⟩,p⟩
   clear hx
   have HA2:Hid (AtE w rd B w15):=HA.out.next p
   clear p HA
   have HA:Hid (AtE w rd B w15):=HA2.out
   clear HA2
   obtain ⟨v1,q1⟩:=HA.out.get1
   have g1:=HA.out.free 1
   go_upto_region 18 with fail
   have HA2:Hid (AtE w rd B (w15.setCell ⟨B,1,none⟩ (.int .i64 x))):=HA.out.set1 x
   clear q1 g1 HA
   have HA:Hid (AtE w rd B (w15.setCell ⟨B,1,none⟩ (.int .i64 x))):=HA2.out
   clear HA2
   obtain ⟨m,po,cap,HA⟩:=HA.out
   have HA:Hid (At w rd B _ m po cap):=HA
   go_upto_region 18 with fail
   refine wp_region_list ?_
   refine wpList_load_row rfl 33 _ rfl B rfl _ _ (0,0) _ HA.out.box underlying33 rfl (infoMs _ _ _) ?_
   refine wpList_store_row rfl 33 _ _ rfl w.heap.size _ rfl rfl _ _ HA.out.res (infoMs _ _ _) (by rw [size_M,size_M]) (one_M _ _ _) ?_
   have HD:=HA.out.done
   have HD:Hid (_/\_):=HD
   go_wp2
   exact bodyPost_ret (v:=.agg (cellsM _ _ _)) (results_cell_row results67 _ _ w.heap.size _ _ (0,0) _ rfl HD.out.1 underlying33 rfl (infoMs _ _ _)) rfl HD.out.2
  by_cases hy9:y=29
  ·subst hy9
   go_upto_region 17 with fail
   go_wp2_with fail
   refine (Rdr.off_any _ _ _ _ HA.out.rd (by decide) (by decide) (by decide)).mono ?_
   rintro e w17 ⟨⟨x,hx,rfl⟩,p⟩
   clear hx
   have HA2:Hid (AtE w rd B w17):=HA.out.next p
   clear p HA
   have HA:Hid (AtE w rd B w17):=HA2.out
   clear HA2
   obtain ⟨v9,q9⟩:=HA.out.get9
   have g9:=HA.out.free 9
   go_upto_region 18 with fail
   have HA2:Hid (AtE w rd B (w17.setCell ⟨B,9,none⟩ (.int .i64 x))):=HA.out.set9 x
   clear q9 g9 HA
   have HA:Hid (AtE w rd B (w17.setCell ⟨B,9,none⟩ (.int .i64 x))):=HA2.out
   clear HA2
   obtain ⟨m,po,cap,HA⟩:=HA.out
   have HA:Hid (At w rd B _ m po cap):=HA
   go_upto_region 18 with fail
   refine wp_region_list ?_
   refine wpList_load_row rfl 33 _ rfl B rfl _ _ (0,0) _ HA.out.box underlying33 rfl (infoMs _ _ _) ?_
   refine wpList_store_row rfl 33 _ _ rfl w.heap.size _ rfl rfl _ _ HA.out.res (infoMs _ _ _) (by rw [size_M,size_M]) (one_M _ _ _) ?_
   have HD:=HA.out.done
   have HD:Hid (_/\_):=HD
   go_wp2
   exact bodyPost_ret (v:=.agg (cellsM _ _ _)) (results_cell_row results67 _ _ w.heap.size _ _ (0,0) _ rfl HD.out.1 underlying33 rfl (infoMs _ _ _)) rfl HD.out.2
  ·have b8:(y == 28)=false:=by simpa using hy8
   have b9:(y == 29)=false:=by simpa using hy9
   obtain ⟨m,po,cap,HA⟩:=HA.out
   have HA:Hid (At w rd B _ m po cap):=HA
   go_upto_region 18 with fail
   refine wp_region_list ?_
   refine wpList_load_row rfl 33 _ rfl B rfl _ _ (0,0) _ HA.out.box underlying33 rfl (infoMs _ _ _) ?_
   refine wpList_store_row rfl 33 _ _ rfl w.heap.size _ rfl rfl _ _ HA.out.res (infoMs _ _ _) (by rw [size_M,size_M]) (one_M _ _ _) ?_
   have HD:=HA.out.done
   have HD:Hid (_/\_):=HD
   go_wp2
   exact bodyPost_ret (v:=.agg (cellsM _ _ _)) (results_cell_row results67 _ _ w.heap.size _ _ (0,0) _ rfl HD.out.1 underlying33 rfl (infoMs _ _ _)) rfl HD.out.2
end Mdrw
namespace Boxm
open Go.Deep
open Rdr (Rd)
open DrawI (postB postSet)
open Busw (M cellsM cells_def celM outC row_ne alloc_kept)
open Busx Busy Stpp Runp Mnew Mdrw Boxs
open MachT (heap_row heap_row_other below_row)
def DrawnB (w:World) (e:Ending) (w':World):Prop:=∃ (m:M) (po:Option Addr) (cap:Nat),e=.returned (.agg (cellsM m po cap))/\Sm m/\w'.ownsRow w.heap.size 2 1 (.slice po m.out.length cap) m.out.length (outC m.out)/\Below w.heap.size w w'
theorem drawStep_any (a:Option Addr) (len cap0:Nat) (zs:List Int) (w:World) (h:Rdr.IsRow .u8 w a len cap0 zs) :
  Calls prog 30 #[.slice a len cap0] w (DrawnB w):=by
 have H:Hid (Rdr.IsRow .u8 w a len cap0 zs):=h
 have hz:=zeroM
 obtain ⟨cZ,hcZ⟩ : ∃ c,c=cellsM Z0 none 0:=⟨_,rfl⟩
 rw [<- hcZ] at hz
 have HZ:Hid (cZ=cellsM Z0 none 0):=hcZ
 clear h hcZ
 go_enter func30,ntmps30
 go_wp2_with fail
 have B0:Hid (Below w.heap.size w (w.alloc (.cells cZ 33))):=zAl _ _
 have HR:Hid ((w.alloc (.cells cZ 33)).heap[w.heap.size]? = some (.cells (cellsM Z0 none 0) 33)):=by show _=_;rw [<- HZ.out];exact heap_alloc_last w _
 have HS:Hid ((w.alloc (.cells cZ 33)).heap.size=w.heap.size+1):=by show _=_;simp
 have H:=zHd (H.out.below B0.out)
 generalize w.alloc (.cells cZ 33)=wz at HR B0 HS H |-
 refine (Rdr.open_any _ _ _ _ _ H.out).mono ?_
 rintro e w1 ⟨rfl,hr,hb⟩
 have HR:Hid (w1.heap[w.heap.size]? = some (.cells (cellsM Z0 none 0) 33)):=(hb.block _ (zLo HR.out)).trans HR.out
 have BW:Hid (Below w.heap.size w w1):=B0.out.trans (hb.mono (by rw [HS.out];omega))
 have HD:Hid (Rd w1 wz.heap.size):=hr
 have HN:Hid (wz.heap.size=w.heap.size+1):=HS.out
 clear hr hb H B0 HS
 generalize wz.heap.size=rd at HD HN |-
 go_wp2_with fail
 refine (machine_any _ _ _ HD.out (by decide) (by decide)).mono ?_
 rintro e w2 ⟨m,po,cap,rfl,hsm,own,p⟩
 have HR:Hid (w2.heap[w.heap.size]? = some (.cells (cellsM Z0 none 0) 33)):=(p.2.block _ (zLo HR.out) (fun e=>by have:=HN.out;have e2:w.heap.size=rd:=Option.some.inj e;omega)).trans HR.out
 obtain ⟨bs,hbs⟩ : ∃ x,x=w1.heap.size:=⟨_,rfl⟩
 rw [<- hbs] at own
 have HO:Hid (w2.ownsRow bs 2 1 (.slice po m.out.length cap) m.out.length (outC m.out)):=own
 have HBS:Hid (rd<bs/\w.heap.size<=bs):=⟨by rw [hbs];exact HD.out.lt,by rw [hbs];exact BW.out.size⟩
 have BW:Hid (Below w.heap.size w w2):=BW.out.trans (p.below (by have:=HN.out;omega) (Nat.le_of_lt HD.out.lt))
 have HD:Hid (Rd w2 rd):=p.1
 have HSM:Hid (Sm m):=hsm
 clear p own hsm hbs
 rename_i hK
 refine hK _ _ ?_
 clear hK
 refine wpList_store_row rfl 33 _ _ rfl w.heap.size (cellsM m po cap) rfl rfl _ _ HR.out (infoMs _ _ _) (by rw [size_M,size_M]) (one_M _ _ _) ?_
 have HF:Hid ((w2.setRow w.heap.size (cellsM m po cap)).heap[w.heap.size]? = some (.cells (cellsM m po cap) 33)):=heap_row HR.out
 have HO:Hid ((w2.setRow w.heap.size (cellsM m po cap)).ownsRow bs 2 1 (.slice po m.out.length cap) m.out.length (outC m.out)):=HO.out.kept (row:=some w.heap.size) (set_row_grown _ _ _) (.inr (row_ne HO.out HR.out))
 have BW:Hid (Below w.heap.size w (w2.setRow w.heap.size (cellsM m po cap))):=below_row BW.out (Nat.le_refl _)
 go_wp2
 exact bodyPost_ret (v:=.agg (cellsM m po cap)) (results_cell_row results30 _ _ w.heap.size _ _ (0,0) _ rfl HF.out underlying33 rfl (infoMs _ _ _)) rfl ⟨m,po,cap,rfl,HSM.out,Stdg.row_own (w':=w2) HO.out _ HBS.out.2,BW.out⟩
end Boxm
end Go.Proofs.YtnjolmbdbgbmbaaGreatDoor
