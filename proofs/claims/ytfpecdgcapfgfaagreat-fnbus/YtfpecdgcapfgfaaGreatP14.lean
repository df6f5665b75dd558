import Derived.Test.YtfpecdgcapfgfaaGreatP13
set_option linter.all false
set_option maxRecDepth 20000
set_option maxHeartbeats 8000000
open Go.ChangeShapes Go.WideShapes Go.ChangeAt Go.RowKit
open Go.Proofs.Tryz
namespace Go.Proofs.YtfpecdgcapfgfaaGreat
namespace Stps
open Go.Deep
open Signed (inB sgn ret_int ret_bool)
open Busw Busx Busy Stpp
structure SG where
 (W0:World)
 (X:Nat)
@[irreducible] def cellsW (m:M) (po:Option Addr) (cap:Nat) (full:Bool):Array Value:=(cellsM m po cap).push (.bool full)
theorem cellsW_def (m:M) (po:Option Addr) (cap:Nat) (full:Bool):cellsW m po cap full=#[.int .i64 m.ra,.int .i64 m.rf,.int .i64 m.rB,.int .i64 m.rC,.int .i64 m.rD,.int .i64 m.rE,.int .i64 m.rH,.int .i64 m.rL,.int .i64 m.sp,.int .i64 m.pc,.bool m.ime,.bool m.hal,.string m.rom,.int .i64 m.kind,.int .i64 m.bank,.string m.ram,.int .i64 m.rb,.bool m.on,.int .i64 m.mode,.string m.work,.string m.high,.slice po m.out.length cap,.int .i64 m.cyc,.bool full]:=by unfold cellsW;rw [cells_def];rfl
theorem cellsW_low {m:M} {po:Option Addr} {cap:Nat} {full:Bool} {j:Nat} {v:Value} (h:(cellsM m po cap).toList[j]? = some v):(cellsW m po cap full)[j]? = some v:=by
 unfold cellsW
 have hj:j<(cellsM m po cap).size:=by
  rcases Nat.lt_or_ge j (cellsM m po cap).toList.length with h1|h1
  ·simpa using h1
  ·rw [List.getElem?_eq_none h1] at h;cases h
 rw [Array.getElem?_push,if_neg (by omega)]
 simpa using h
structure SAt (g:SG) (W:World) (m:M) (full:Bool) (po:Option Addr) (cap:Nat):Prop where
 box:W.heap[g.X]? = some (.cells (cellsW m po cap full) 93 (0,0))
 sl:Sl W po m.out cap
 ne:∀ p,po=some p->p.block ≠ g.X
 grown:g.W0.grownBy W (some g.X)
def InS (g:SG) (W:World) (m:M) (full:Bool):Prop:=∃ po cap,SAt g W m full po cap
theorem run_loadVar_part {P:Program} (w:World) (b:Nat) (t ty:TypeId) (cs cs':Array Value) (fr:Nat × Nat) (d:TypeDesc) (hg:w.heap[b]? = some (.cells cs' t fr)) (hp:∀ (j:Nat) (v:Value),cs.toList[j]? = some v->cs'[j]? = some v)
  (hu:P.underlying ty=some d) (hd:(match d with|.struct _|.array _ _=>true|_=>false)=true) (hi:(P.info? ty).map (·.size)=some cs.size) :
  (loadVar ty ⟨b,0,none⟩).run P w=.ok (.agg cs) w:=by
 have hl:(loadCells ⟨b,0,none⟩ cs.toList.length).run P w=.ok cs.toList.toArray w :=
  run_loadCells_list (P:=P) w ⟨b,0,none⟩ cs.toList (fun j v hv=>by
   have hadd:(⟨b,0,none⟩ : Addr).add j=⟨b,j,none⟩:=by unfold Addr.add;split <;> simp_all
   rw [hadd,cell_of_row w b j cs' t fr hg]
   exact hp j v hv)
 cases hq:P.info? ty with
 | none=>simp [hq] at hi
 | some i =>
  have hs:i.size=cs.size:=by simpa [hq] using hi
  have hagg:(isAgg ty).run P w=.ok true w:=by
   unfold isAgg
   rw [Sem.run_bind,run_underlying hu w]
   cases d <;> simp_all
  simp only [Array.length_toList,Array.toArray_toList] at hl
  simp [loadVar,Sem.run_bind,hagg,sizeOf,typeInfo,hq,hs,hl]
theorem wpList_load_any {P:Program} {ops:Array Oper} {rest:List Oper} {o:Oper} {a:Act} {w:World} {Q:Exit->Act->World->Prop} (hgd:o.guard=none) (ty:TypeId) (x:Operand) (ho:o.op=.load ty x)
  (p:Addr) (hx:a.eval x=.pointer (some p)) (v:Value) (hl:(loadVar ty p).run P w=.ok v w) (h:wpList P ops Q rest (a.put o.dst v) w):wpList P ops Q (o :: rest) a w :=
 wpList_plain hgd fun K hK=>by
  unfold Oper.wp execOp
  simp only [ho,hx,Instr.loadAt,Instr.sureAddr,Sem.run_bind,Sem.run_pure,Result.andThen_ok,hl]
  exact hK _ _ h
theorem wpQuiet_load {P:Program} {ops:Array Oper} {rest:List Oper} {o:Oper} {a:Act} {C:World->Prop} {Q:Act->Prop} (hgd:Region.wanted o (yielded ops a.tmps)=true) (ty:TypeId) (x:Operand) (ho:o.op=.load ty x)
  (p:Addr) (hx:a.eval x=.pointer (some p)) (v:Value) (hl:∀ w,C w->(loadVar ty p).run P w=.ok v w) (h:wpQuiet P ops C Q rest (a.put o.dst v)):wpQuiet P ops C Q (o :: rest) a :=
 wpQuiet_step fun K hK=>by
  rw [if_pos hgd]
  refine ⟨v,fun w hw=>?_,hK _ h⟩
  unfold Oper.quietAt execOp
  simp only [ho,hx,Instr.loadAt,Instr.sureAddr,Sem.run_bind,Sem.run_pure,Result.andThen_ok,hl w hw]
  exact ⟨rfl,rfl⟩
theorem run_storeVar_part {P:Program} (w:World) (b:Nat) (t ty:TypeId) (old cells:Array Value) (hg:w.heap[b]? = some (.cells old t (0,0))) (hi:(P.info? ty).map (·.size)=some cells.size)
  (ho:cells.size<=old.size) (h1:cells.all (·.oneCell')=true) :
  (storeVar ty ⟨b,0,none⟩ (.agg cells)).run P w=.ok () (w.setRow b (cells.toList ++ old.toList.drop cells.size).toArray):=by
 have:=run_storeCells_at P b 0 t cells.toList 0 old w hg (by simpa using ho) (fun v hv=>(Array.all_eq_true_iff_forall_mem.1 h1) v (by simpa using hv))
 cases hq:P.info? ty with
 | none=>simp [hq] at hi
 | some i =>
  have hs:cells.size=i.size:=by simp [hq] at hi;omega
  simp [storeVar,sizeOf,typeInfo,hq,Value.cells,hs] at this |-
  rw [<- hs] at this |-
  simpa using this
theorem wpList_store_part {P:Program} {ops:Array Oper} {rest:List Oper} {o:Oper} {a:Act} {w:World} {Q:Exit->Act->World->Prop} (hgd:o.guard=none) (ty:TypeId) (x y:Operand) (ho:o.op=.store ty x y)
  (b:Nat) (cells:Array Value) (hx:a.eval x=.pointer (some ⟨b,0,none⟩)) (hy:a.eval y=.agg cells) (t:TypeId) (old:Array Value) (hg:w.heap[b]? = some (.cells old t (0,0))) (hi:(P.info? ty).map (·.size)=some cells.size)
  (hold:cells.size<=old.size) (h1:cells.all (·.oneCell')=true)
  (h:wpList P ops Q rest (a.put o.dst undef) (w.setRow b (cells.toList ++ old.toList.drop cells.size).toArray)):wpList P ops Q (o :: rest) a w :=
 wpList_plain hgd fun K hK=>by
  unfold Oper.wp execOp
  simp only [ho,hx,hy,Instr.storeAt,Instr.sureAddr,Sem.run_bind,Sem.run_pure,Result.andThen_ok,run_storeVar_part w b t ty old cells hg hi hold h1]
  exact hK _ _ h
theorem part_W (m m':M) (po po':Option Addr) (cap cap':Nat) (full:Bool):((cellsM m' po' cap').toList ++ (cellsW m po cap full).toList.drop (cellsM m' po' cap').size).toArray=cellsW m' po' cap' full:=by
 rw [size_M,cellsW_def,cellsW_def,cells_def];rfl
theorem size_W (m:M) (po:Option Addr) (cap:Nat) (full:Bool):(cellsW m po cap full).size=24:=by rw [cellsW_def];rfl
theorem SAt.load {g:SG} {W W':World} {m:M} {full:Bool} {po:Option Addr} {cap:Nat} (h:SAt g W m full po cap) (hb:W'.heap[g.X]? = W.heap[g.X]?):(loadVar 30 ⟨g.X,0,none⟩).run prog W'=.ok (.agg (cellsM m po cap)) W' :=
 run_loadVar_part W' g.X _ _ _ _ (0,0) _ (hb.trans h.box) (fun j v hv=>cellsW_low hv) underlying30 rfl (infoMs m po cap)
theorem SAt.lt {g:SG} {W:World} {m:M} {full:Bool} {po:Option Addr} {cap:Nat} (h:SAt g W m full po cap):g.X<W.heap.size:=(zLo h.box)
theorem sl_grown {W W':World} {po:Option Addr} {L:List Int} {cap X:Nat} (h:Sl W po L cap) (hne:∀ p,po=some p->p.block ≠ X) (hg:W.grownBy W' (some X)):Sl W' po L cap:=by
 rcases h with h|⟨b,off,rfl,hc⟩
 ·exact .inl h
 ·exact .inr ⟨b,off,rfl,fun i hi=>⟨Nat.lt_of_lt_of_le (hc i hi).1 hg.size,(World.cell?_of_block (a:=⟨b,off+i,none⟩) (hg.block b (hc i hi).1 (fun e=>hne _ rfl (Option.some.inj e)))).trans (hc i hi).2⟩⟩
theorem grown_trans {w w1 w2:World} {X:Nat} (h:w.grownBy w1 (some X)) (h2:w1.grownBy w2 (some X)):w.grownBy w2 (some X) :=
 ⟨h2.os.trans h.os,h2.tape.trans h.tape,h2.output.trans h.output,Nat.le_trans h.size h2.size,fun k hk hne=>(h2.block k (Nat.lt_of_lt_of_le hk h.size) hne).trans (h.block k hk hne)⟩
theorem below_grown {w w':World} {X:Nat} (h:Below w.heap.size w w'):w.grownBy w' (some X):=⟨h.os,h.tape,h.output,h.size,fun k hk _=>h.block k hk⟩
theorem InS.below {g:SG} {W W':World} {m:M} {full:Bool} (h:InS g W m full) (hb:Below W.heap.size W W'):InS g W' m full:=by
 obtain ⟨po,cap,h⟩:=h
 exact ⟨po,cap,(hb.block _ h.lt).trans h.box,h.sl.below hb,h.ne,grown_trans h.grown (below_grown hb)⟩
theorem InS.lt {g:SG} {W:World} {m:M} {full:Bool} (h:InS g W m full):g.X<W.heap.size:=by obtain ⟨po,cap,h⟩:=h;exact h.lt
theorem InS.fro {g:SG} {W:World} {m:M} {full:Bool} (h:InS g W m full) (i:Nat):W.frozen? ⟨g.X,i,none⟩=false:=by
 obtain ⟨po,cap,h⟩:=h
 exact frozen_of_row _ _ _ _ _ h.box
theorem InS.cell {g:SG} {W:World} {m:M} {full:Bool} (h:InS g W m full) (i:Nat) (v:Value) (hv:(#[.int .i64 m.ra,.int .i64 m.rf,.int .i64 m.rB,.int .i64 m.rC,.int .i64 m.rD,.int .i64 m.rE,.int .i64 m.rH,.int .i64 m.rL,.int .i64 m.sp,.int .i64 m.pc,.bool m.ime,.bool m.hal]:Array Value)[i]? = some v):W.cell? ⟨g.X,i,none⟩=some v:=by
 obtain ⟨po,cap,h⟩:=h
 rw [cell_of_row W g.X i _ _ _ h.box,cellsW_def]
 match i,hv with
 | 0,hv=>exact hv
 | 1,hv=>exact hv
 | 2,hv=>exact hv
 | 3,hv=>exact hv
 | 4,hv=>exact hv
 | 5,hv=>exact hv
 | 6,hv=>exact hv
 | 7,hv=>exact hv
 | 8,hv=>exact hv
 | 9,hv=>exact hv
 | 10,hv=>exact hv
 | 11,hv=>exact hv
 | i+12,hv=>simp at hv
theorem InS.cellFull {g:SG} {W:World} {m:M} {full:Bool} (h:InS g W m full):W.cell? ⟨g.X,23,none⟩=some (.bool full):=by
 obtain ⟨po,cap,h⟩:=h
 rw [cell_of_row W g.X 23 _ _ _ h.box,cellsW_def];rfl
theorem InS.cellCyc {g:SG} {W:World} {m:M} {full:Bool} (h:InS g W m full):W.cell? ⟨g.X,22,none⟩=some (.int .i64 m.cyc):=by
 obtain ⟨po,cap,h⟩:=h
 rw [cell_of_row W g.X 22 _ _ _ h.box,cellsW_def];rfl
theorem set_grown1 (w:World) (B i:Nat) (v:Value):w.grownBy (w.setCell ⟨B,i,none⟩ v) (some B) :=
 ⟨rfl,rfl,rfl,by rw [Busw.size_set];exact Nat.le_refl _,fun k _ hk=>Below.heap_setCell _ _ _ _ (fun e=>hk (by rw [e]))⟩
theorem InS.setX {g:SG} {W:World} {m m':M} {full full':Bool} (i:Nat) (v:Value) (h:InS g W m full) (ho:m'.out=m.out) (hbox:∀ po cap,W.heap[g.X]? = some (.cells (cellsW m po cap full) 93 (0,0))->(W.setCell ⟨g.X,i,none⟩ v).heap[g.X]? = some (.cells (cellsW m' po cap full') 93 (0,0))) :
  InS g (W.setCell ⟨g.X,i,none⟩ v) m' full':=by
 obtain ⟨po,cap,h⟩:=h
 have hg:=set_grown1 W g.X i v
 exact ⟨po,cap,hbox po cap h.box,by rw [ho];exact sl_grown h.sl h.ne hg,h.ne,grown_trans h.grown hg⟩
theorem InS.setFull {g:SG} {W:World} {m:M} {full:Bool} (h:InS g W m full) (b:Bool):InS g (W.setCell ⟨g.X,23,none⟩ (.bool b)) m b :=
 h.setX 23 _ rfl (fun po cap hb=>by rw [cellsW_def] at hb |-;exact (heap_setCell_same _ _ _ _ _ _ hb).trans rfl)
theorem InS.s_cyc {g:SG} {W:World} {m:M} {full:Bool} (h:InS g W m full) (v:Int):InS g (W.setCell ⟨g.X,22,none⟩ (.int .i64 v)) { m with cyc:=v } full :=
 h.setX 22 _ rfl (fun po cap hb=>by rw [cellsW_def] at hb |-;exact (heap_setCell_same _ _ _ _ _ _ hb).trans rfl)
theorem InS.s_ra {g:SG} {W:World} {m:M} {full:Bool} (h:InS g W m full) (v:Int):InS g (W.setCell ⟨g.X,0,none⟩ (.int .i64 v)) { m with ra:=v } full :=
 h.setX 0 _ rfl (fun po cap hb=>by rw [cellsW_def] at hb |-;exact (heap_setCell_same _ _ _ _ _ _ hb).trans rfl)
theorem InS.s_rf {g:SG} {W:World} {m:M} {full:Bool} (h:InS g W m full) (v:Int):InS g (W.setCell ⟨g.X,1,none⟩ (.int .i64 v)) { m with rf:=v } full :=
 h.setX 1 _ rfl (fun po cap hb=>by rw [cellsW_def] at hb |-;exact (heap_setCell_same _ _ _ _ _ _ hb).trans rfl)
theorem InS.s_rB {g:SG} {W:World} {m:M} {full:Bool} (h:InS g W m full) (v:Int):InS g (W.setCell ⟨g.X,2,none⟩ (.int .i64 v)) { m with rB:=v } full :=
 h.setX 2 _ rfl (fun po cap hb=>by rw [cellsW_def] at hb |-;exact (heap_setCell_same _ _ _ _ _ _ hb).trans rfl)
theorem InS.s_rC {g:SG} {W:World} {m:M} {full:Bool} (h:InS g W m full) (v:Int):InS g (W.setCell ⟨g.X,3,none⟩ (.int .i64 v)) { m with rC:=v } full :=
 h.setX 3 _ rfl (fun po cap hb=>by rw [cellsW_def] at hb |-;exact (heap_setCell_same _ _ _ _ _ _ hb).trans rfl)
theorem InS.s_rD {g:SG} {W:World} {m:M} {full:Bool} (h:InS g W m full) (v:Int):InS g (W.setCell ⟨g.X,4,none⟩ (.int .i64 v)) { m with rD:=v } full :=
 h.setX 4 _ rfl (fun po cap hb=>by rw [cellsW_def] at hb |-;exact (heap_setCell_same _ _ _ _ _ _ hb).trans rfl)
theorem InS.s_rE {g:SG} {W:World} {m:M} {full:Bool} (h:InS g W m full) (v:Int):InS g (W.setCell ⟨g.X,5,none⟩ (.int .i64 v)) { m with rE:=v } full :=
 h.setX 5 _ rfl (fun po cap hb=>by rw [cellsW_def] at hb |-;exact (heap_setCell_same _ _ _ _ _ _ hb).trans rfl)
theorem InS.s_rH {g:SG} {W:World} {m:M} {full:Bool} (h:InS g W m full) (v:Int):InS g (W.setCell ⟨g.X,6,none⟩ (.int .i64 v)) { m with rH:=v } full :=
 h.setX 6 _ rfl (fun po cap hb=>by rw [cellsW_def] at hb |-;exact (heap_setCell_same _ _ _ _ _ _ hb).trans rfl)
theorem InS.s_rL {g:SG} {W:World} {m:M} {full:Bool} (h:InS g W m full) (v:Int):InS g (W.setCell ⟨g.X,7,none⟩ (.int .i64 v)) { m with rL:=v } full :=
 h.setX 7 _ rfl (fun po cap hb=>by rw [cellsW_def] at hb |-;exact (heap_setCell_same _ _ _ _ _ _ hb).trans rfl)
theorem InS.s_sp {g:SG} {W:World} {m:M} {full:Bool} (h:InS g W m full) (v:Int):InS g (W.setCell ⟨g.X,8,none⟩ (.int .i64 v)) { m with sp:=v } full :=
 h.setX 8 _ rfl (fun po cap hb=>by rw [cellsW_def] at hb |-;exact (heap_setCell_same _ _ _ _ _ _ hb).trans rfl)
theorem InS.s_pc {g:SG} {W:World} {m:M} {full:Bool} (h:InS g W m full) (v:Int):InS g (W.setCell ⟨g.X,9,none⟩ (.int .i64 v)) { m with pc:=v } full :=
 h.setX 9 _ rfl (fun po cap hb=>by rw [cellsW_def] at hb |-;exact (heap_setCell_same _ _ _ _ _ _ hb).trans rfl)
theorem InS.s_ime {g:SG} {W:World} {m:M} {full:Bool} (h:InS g W m full) (v:Bool):InS g (W.setCell ⟨g.X,10,none⟩ (.bool v)) { m with ime:=v } full :=
 h.setX 10 _ rfl (fun po cap hb=>by rw [cellsW_def] at hb |-;exact (heap_setCell_same _ _ _ _ _ _ hb).trans rfl)
theorem InS.s_hal {g:SG} {W:World} {m:M} {full:Bool} (h:InS g W m full) (v:Bool):InS g (W.setCell ⟨g.X,11,none⟩ (.bool v)) { m with hal:=v } full :=
 h.setX 11 _ rfl (fun po cap hb=>by rw [cellsW_def] at hb |-;exact (heap_setCell_same _ _ _ _ _ _ hb).trans rfl)
theorem l6Read_M (m:M) (po:Option Addr) (cap:Nat) (addr:Int) (w:World) (hr:Rt m) (a0:0<=addr):Calls prog 29 #[.agg (cellsM m po cap),.int .i64 addr] w fun e w'=>e=.returned (.int .i64 (rd m addr))/\Below w.heap.size w w':=by
 rw [cells_def]
 exact MachB.l6Read_any m.ra m.rf m.rB m.rC m.rD m.rE m.rH m.rL m.sp m.pc m.ime m.hal m.rom m.kind m.bank m.ram m.rb m.on m.mode m.work m.high po m.out cap m.cyc addr w hr.rom hr.cart hr.work hr.high a0
end Stps
namespace Stpq
open Signed (inB sgn)
open Reck ReckS ReckM ReckD TurnS
open Busw (M wrM Rt)
open Busx (okMM Sm rt_of)
open Stpp
theorem cart_ok (rom:ByteArray) (kind bank:Int) (ram:ByteArray) (rb:Int) (on:Bool) (mode ad v:Int) (h:Carts.okB rom kind bank ram rb on mode=true) (a0:0<=ad) (a1:ad<=65535) (v0:0<=v) (v1:v<=255) :
  Carts.okB rom kind (CartY.wBank kind bank ad v) (CartY.wRam kind ram rb on mode ad v) (CartY.wRb kind rb ad v) (CartY.wOn kind on ad v) (CartY.wMode kind mode ad v)=true/\(CartY.wRam kind ram rb on mode ad v).size=256:=by
 obtain ⟨n,n0,n1,hn,hbk,hm,b0,b1,r0,r1,m0,m1,hk⟩:=CartM.right rom kind bank ram rb on mode h
 have hms:(CartY.wRam kind ram rb on mode ad v).size=256:=by
  unfold CartY.wRam
  repeat' split
  all_goals first|exact hm|(rw [CartP.putB_size];exact hm)
 have hh:Carts.heldB kind bank rb on mode=true/\Carts.romB rom.size=true:=by
  have h':=h
  simp only [Carts.okB,Bool.and_eq_true] at h'
  exact h'.1
 have hok:Carts.okB rom kind (CartY.wBank kind bank ad v) (CartY.wRam kind ram rb on mode ad v) (CartY.wRb kind rb ad v) (CartY.wOn kind on ad v) (CartY.wMode kind mode ad v)=true:=by
  simp only [Carts.okB,Bool.and_eq_true,beq_iff_eq]
  refine ⟨⟨?_,hh.2⟩,hms⟩
  have g:=hh.1
  unfold Carts.heldB at g |-
  rcases hk with ⟨rfl,hon⟩|rfl|⟨rfl,hmode⟩
  ·rw [if_pos rfl] at g |-
   have g:=of_decide_eq_true g
   refine decide_eq_true ⟨?_,?_,?_,?_⟩
   ·unfold CartY.wBank;split
    ·rw [if_neg (by omega),if_neg (by omega)];exact g.1
    ·exact g.1
   ·unfold CartY.wRb;rw [if_neg (by omega)];exact g.2.1
   ·unfold CartY.wMode;rw [if_neg (by omega)];exact g.2.2.1
   ·unfold CartY.wOn;rw [if_neg (by omega)];exact g.2.2.2
  ·rw [if_neg (by omega),if_pos rfl] at g |-
   simp only [Bool.and_eq_true] at g |-
   have g1:=of_decide_eq_true g.1.1
   have g2:=of_decide_eq_true g.1.2
   have g3:=of_decide_eq_true g.2
   refine ⟨⟨decide_eq_true ?_,decide_eq_true ?_⟩,decide_eq_true ?_⟩
   ·unfold CartY.wBank;split
    ·rw [if_pos rfl];unfold CartW.bank1;split <;> omega
    ·exact g1
   ·unfold CartY.wRb;split
    ·omega
    ·exact g2
   ·unfold CartY.wMode;split
    ·omega
    ·exact g3
  ·rw [if_neg (by omega),if_neg (by omega),if_pos rfl] at g |-
   simp only [Bool.and_eq_true,beq_iff_eq] at g |-
   have g1:=of_decide_eq_true g.1.1
   have g2:=of_decide_eq_true g.1.2
   refine ⟨⟨decide_eq_true ?_,decide_eq_true ?_⟩,?_⟩
   ·unfold CartY.wBank;split
    ·rw [if_neg (by omega),if_pos rfl];omega
    ·exact g1
   ·unfold CartY.wRb;split
    ·omega
    ·exact g2
   ·unfold CartY.wMode;rw [if_neg (by omega)];exact g.2
 exact ⟨hok,hms⟩
structure Good (m:M):Prop where
 a:0<=m.ra/\m.ra<=255
 f:0<=m.rf/\m.rf<=255
 b:0<=m.rB/\m.rB<=255
 c:0<=m.rC/\m.rC<=255
 d:0<=m.rD/\m.rD<=255
 e:0<=m.rE/\m.rE<=255
 h:0<=m.rH/\m.rH<=255
 l:0<=m.rL/\m.rL<=255
 f16:m.rf%16=0
 sp:0<=m.sp/\m.sp<=65535
 pc:0<=m.pc/\m.pc<=65535
 rt:Rt m
 outs:MachO.byteL m.out=true
theorem in_bd {n:Int} (h:inB n 0 255=true):0<=n/\n<=255:=of_decide_eq_true h
theorem good_of {m:M} (h:okMM m=true) (hs:Sm m):Good m/\0<=m.cyc/\m.cyc<=1000000000:=by
 have hr:=rt_of h hs
 unfold okMM MachK.okM MachO.cpuB MachO.byteL MachO.regL at h
 simp only [Bool.and_eq_true,decide_eq_true_eq,List.all_cons,List.all_nil,beq_iff_eq] at h
 obtain ⟨⟨⟨⟨⟨⟨⟨⟨⟨⟨⟨ha,hf,hB,hC,hD,hE,hH,hL,_⟩,h16⟩,hsp⟩,hpc⟩,_⟩,_⟩,_⟩,_⟩,ho⟩,c0⟩,c1⟩:=h
 exact ⟨⟨in_bd ha,in_bd hf,in_bd hB,in_bd hC,in_bd hD,in_bd hE,in_bd hH,in_bd hL,h16,of_decide_eq_true hsp,of_decide_eq_true hpc,hr,ho⟩,c0,c1⟩
theorem ok_of {m:M} (h:Good m) (c0:0<=m.cyc) (c1:m.cyc<=1000000000):okMM m=true:=by
 unfold okMM MachK.okM MachO.cpuB
 have hr:MachO.byteL (MachO.regL m.ra m.rf m.rB m.rC m.rD m.rE m.rH m.rL)=true:=by
  unfold MachO.byteL MachO.regL
  simp only [List.all_cons,List.all_nil,Bool.and_eq_true]
  exact ⟨decide_eq_true h.a,decide_eq_true h.f,decide_eq_true h.b,decide_eq_true h.c,decide_eq_true h.d,decide_eq_true h.e,decide_eq_true h.h,decide_eq_true h.l,trivial⟩
 rw [hr,h.outs,h.rt.cart,show inB m.sp 0 65535=true from decide_eq_true h.sp,show inB m.pc 0 65535=true from decide_eq_true h.pc,show decide (m.out.length<=100)=true from decide_eq_true h.rt.out,show decide (0<=m.cyc)=true from decide_eq_true c0,show decide (m.cyc<=1000000000)=true from decide_eq_true c1,h.f16,h.rt.work,h.rt.high]
 rfl
theorem wrM_good {m m':M} {a v:Int} (h:Good m) (a0:0<=a) (a1:a<=65535) (v0:0<=v) (v1:v<=255) (hw:wrM m a v=some m'):Good m':=by
 have hr:=h.rt
 unfold wrM at hw
 split at hw
 ·cases hw
  exact ⟨h.a,h.f,h.b,h.c,h.d,h.e,h.h,h.l,h.f16,h.sp,h.pc,⟨hr.cart,(CartP.putB_size _ _ _).trans hr.work,hr.high,hr.out,hr.rom,hr.ram⟩,h.outs⟩
 ·split at hw
  ·cases hw
   exact ⟨h.a,h.f,h.b,h.c,h.d,h.e,h.h,h.l,h.f16,h.sp,h.pc,⟨hr.cart,hr.work,(CartP.putB_size _ _ _).trans hr.high,hr.out,hr.rom,hr.ram⟩,h.outs⟩
  ·split at hw
   ·split at hw
    ·cases hw
    ·cases hw
     refine ⟨h.a,h.f,h.b,h.c,h.d,h.e,h.h,h.l,h.f16,h.sp,h.pc,⟨hr.cart,hr.work,hr.high,?_,hr.rom,hr.ram⟩,?_⟩
     ·show (m.out ++ [v]).length<=100
      rw [List.length_append];simp;omega
     ·have ho:=h.outs
      unfold MachO.byteL at ho |-
      show (m.out ++ [v]).all _=true
      rw [List.all_append,ho]
      simp only [List.all_cons,List.all_nil,Bool.and_true,Bool.true_and]
      exact decide_eq_true ⟨v0,v1⟩
   ·cases hw
    have hc:=cart_ok m.rom m.kind m.bank m.ram m.rb m.on m.mode a v hr.cart a0 a1 v0 v1
    exact ⟨h.a,h.f,h.b,h.c,h.d,h.e,h.h,h.l,h.f16,h.sp,h.pc,⟨hc.1,hr.work,hr.high,hr.out,hr.rom,by show (CartY.wRam _ _ _ _ _ _ _).size<=_;rw [hc.2];decide⟩,h.outs⟩
theorem wr_good {s:S} (h:Good s.m) (a v:Int) (v0:0<=v) (v1:v<=255):Good (wr s a v).m:=by
 unfold wr
 split
 ·rename_i m' hw
  exact wrM_good h (by omega) (by omega) v0 v1 hw
 ·exact h
theorem get_bd {m:M} (h:Good m) (n:Int):0<=get m n/\get m n<=255:=by
 unfold Stpp.get
 split
 ·exact rd_bd _ _
 ·unfold reg
  repeat' split
  all_goals first|exact h.b|exact h.c|exact h.d|exact h.e|exact h.h|exact h.l|exact h.a
theorem setR_good {m:M} (h:Good m) (n v:Int) (v0:0<=v) (v1:v<=255):Good (setR m n v):=by
 obtain ⟨ha,hf,hb,hc,hd,he,hh,hl,h16,hsp,hpc,hr,ho⟩:=h
 unfold setR
 repeat' split
 all_goals exact ⟨by first|exact ha|exact ⟨v0,v1⟩,hf,by first|exact hb|exact ⟨v0,v1⟩,by first|exact hc|exact ⟨v0,v1⟩,by first|exact hd|exact ⟨v0,v1⟩,by first|exact he|exact ⟨v0,v1⟩,by first|exact hh|exact ⟨v0,v1⟩,by first|exact hl|exact ⟨v0,v1⟩,h16,hsp,hpc,⟨hr.cart,hr.work,hr.high,hr.out,hr.rom,hr.ram⟩,ho⟩
theorem put_good {s:S} (h:Good s.m) (n v:Int) (v0:0<=v) (v1:v<=255):Good (put s n v).m:=by
 unfold put
 split
 ·exact wr_good h _ v v0 v1
 ·exact setR_good h n v v0 v1
theorem setP_good {m:M} (h:Good m) (p v:Int) (v0:0<=v) (v1:v<=65535):Good (setP m p v):=by
 obtain ⟨ha,hf,hb,hc,hd,he,hh,hl,h16,hsp,hpc,hr,ho⟩:=h
 have q1:0<=v / 256/\v / 256<=255:=by omega
 have q2:0<=v%256/\v%256<=255:=by omega
 unfold setP
 repeat' split
 all_goals exact ⟨ha,hf,by first|exact hb|exact q1,by first|exact hc|exact q2,by first|exact hd|exact q1,by first|exact he|exact q2,by first|exact hh|exact q1,by first|exact hl|exact q2,h16,by first|exact hsp|exact ⟨v0,v1⟩,hpc,⟨hr.cart,hr.work,hr.high,hr.out,hr.rom,hr.ram⟩,ho⟩
theorem hl_bd {m:M} (h:Good m):0<=hl m/\hl m<=65535:=by have:=h.h;have:=h.l;unfold hl;omega
theorem pr_bd {m:M} (h:Good m) (p:Int):0<=pr m p/\pr m p<=65535:=by
 have:=h.b;have:=h.c;have:=h.d;have:=h.e;have:=h.h;have:=h.l;have:=h.sp
 unfold pr
 repeat' split
 all_goals omega
theorem prQ_bd {m:M} (h:Good m) (p:Int):0<=prQ m p/\prQ m p<=65535:=by
 have:=h.a;have:=h.f
 unfold prQ
 split
 ·omega
 ·exact pr_bd h p
theorem good_f {m:M} (h:Good m) (f:Int) (f0:0<=f) (f1:f<=255) (f2:f%16=0):Good { m with rf:=f } :=
 ⟨h.a,⟨f0,f1⟩,h.b,h.c,h.d,h.e,h.h,h.l,f2,h.sp,h.pc,⟨h.rt.cart,h.rt.work,h.rt.high,h.rt.out,h.rt.rom,h.rt.ram⟩,h.outs⟩
theorem good_a {m:M} (h:Good m) (v:Int) (v0:0<=v) (v1:v<=255):Good { m with ra:=v } :=
 ⟨⟨v0,v1⟩,h.f,h.b,h.c,h.d,h.e,h.h,h.l,h.f16,h.sp,h.pc,⟨h.rt.cart,h.rt.work,h.rt.high,h.rt.out,h.rt.rom,h.rt.ram⟩,h.outs⟩
theorem good_sp {m:M} (h:Good m) (v:Int) (v0:0<=v) (v1:v<=65535):Good { m with sp:=v } :=
 ⟨h.a,h.f,h.b,h.c,h.d,h.e,h.h,h.l,h.f16,⟨v0,v1⟩,h.pc,⟨h.rt.cart,h.rt.work,h.rt.high,h.rt.out,h.rt.rom,h.rt.ram⟩,h.outs⟩
theorem good_pc {m:M} (h:Good m) (v:Int) (v0:0<=v) (v1:v<=65535):Good { m with pc:=v } :=
 ⟨h.a,h.f,h.b,h.c,h.d,h.e,h.h,h.l,h.f16,h.sp,⟨v0,v1⟩,⟨h.rt.cart,h.rt.work,h.rt.high,h.rt.out,h.rt.rom,h.rt.ram⟩,h.outs⟩
theorem good_i {m:M} (h:Good m) (i j:Bool) (c:Int):Good { m with ime:=i,hal:=j,cyc:=c } :=
 ⟨h.a,h.f,h.b,h.c,h.d,h.e,h.h,h.l,h.f16,h.sp,h.pc,⟨h.rt.cart,h.rt.work,h.rt.high,h.rt.out,h.rt.rom,h.rt.ram⟩,h.outs⟩
theorem fl_bd (z n h c:Bool):0<=fl z n h c/\fl z n h c<=255/\fl z n h c%16=0:=by cases z <;> cases n <;> cases h <;> cases c <;> decide
theorem fl_good {m:M} (h:Good m) (z n k c:Bool):Good { m with rf:=fl z n k c }:=good_f h _ (fl_bd z n k c).1 (fl_bd z n k c).2.1 (fl_bd z n k c).2.2
theorem af_good {s:S} (h:Good s.m) (p:Int × Int) (a0:0<=p.1) (a1:p.1<=255) (f0:0<=p.2) (f1:p.2<=255) (f2:p.2%16=0):Good (AF s p).m:=good_f (good_a h p.1 a0 a1) p.2 f0 f1 f2
theorem push_good {s:S} (h:Good s.m) (v:Int) (v0:0<=v) (v1:v<=65535):Good (push s v).m:=by
 have hsp:=h.sp
 exact good_sp (wr_good (wr_good h _ _ (by omega) (by omega)) _ _ (by omega) (by omega)) _ (by omega) (by omega)
theorem popV_bd (m:M):0<=popV m/\popV m<=65535:=by
 have h1:=rd_bd m m.sp
 have h2:=rd_bd m ((m.sp+1)%65536)
 unfold popV;omega
theorem popM_good {m:M} (h:Good m):Good (popM m):=good_sp h _ (by omega) (by omega)
theorem setQ_good {m:M} (h:Good m) (p v:Int) (v0:0<=v) (v1:v<=65535):Good (setQ m p v):=by
 unfold setQ
 split
 ·exact good_f (good_a h (v / 256) (by omega) (by omega)) _ (by omega) (by omega) (by omega)
 ·exact setP_good h p v v0 v1
theorem bits_le {a b:Int} (a0:0<=a) (a1:a<=255) (b0:0<=b) (b1:b<=255):(0<=bits .and .i64 a b/\bits .and .i64 a b<=255)/\(0<=bits .or .i64 a b/\bits .or .i64 a b<=255)/\(0<=bits .xor .i64 a b/\bits .xor .i64 a b<=255):=by
 have h1:a.toNat &&& b.toNat<2 ^ 8:=Nat.and_lt_two_pow _ (by omega)
 have h2:a.toNat ||| b.toNat<2 ^ 8:=Nat.or_lt_two_pow (by omega) (by omega)
 have h3:a.toNat ^^^ b.toNat<2 ^ 8:=Nat.xor_lt_two_pow (by omega) (by omega)
 rw [bits_and a0 a1 b0 b1,bits_or a0 a1 b0 b1,bits_xor a0 a1 b0 b1]
 omega
theorem alu_bd {op a b f:Int} (a0:0<=a) (a1:a<=255) (b0:0<=b) (b1:b<=255) (o0:0<=op) (o1:op<=7):0<=(aluR op a b f).1/\(aluR op a b f).1<=255/\0<=(aluR op a b f).2/\(aluR op a b f).2<=255/\(aluR op a b f).2%16=0:=by
 obtain ⟨k1,k2,k3⟩:=bits_le a0 a1 b0 b1
 have ho:op=0 \/ op=1 \/ op=2 \/ op=3 \/ op=4 \/ op=5 \/ op=6 \/ op=7:=by omega
 rcases ho with rfl|rfl|rfl|rfl|rfl|rfl|rfl|rfl
 ·rw [aluR_0];exact ⟨by show 0<=(_:Int)%256;omega,by show (_:Int)%256<=255;omega,fl_bd _ _ _ _⟩
 ·rw [aluR_1];exact ⟨by show 0<=(_:Int)%256;omega,by show (_:Int)%256<=255;omega,fl_bd _ _ _ _⟩
 ·rw [aluR_2];exact ⟨by show 0<=(_:Int)%256;omega,by show (_:Int)%256<=255;omega,fl_bd _ _ _ _⟩
 ·rw [aluR_3];exact ⟨by show 0<=(_:Int)%256;omega,by show (_:Int)%256<=255;omega,fl_bd _ _ _ _⟩
 ·rw [aluR_4];exact ⟨k1.1,k1.2,fl_bd _ _ _ _⟩
 ·rw [aluR_5];exact ⟨k3.1,k3.2,fl_bd _ _ _ _⟩
 ·rw [aluR_6];exact ⟨k2.1,k2.2,fl_bd _ _ _ _⟩
 ·rw [aluR_7,aluR_2];exact ⟨a0,a1,fl_bd _ _ _ _⟩
theorem st8_bd {v f:Int} (d:Bool):0<=(st8R v f d).1/\(st8R v f d).1<=255/\0<=(st8R v f d).2/\(st8R v f d).2<=255/\(st8R v f d).2%16=0:=by
 unfold st8R
 split
 ·exact ⟨by show 0<=(_:Int)%256;omega,by show (_:Int)%256<=255;omega,fl_bd _ _ _ _⟩
 ·exact ⟨by show 0<=(_:Int)%256;omega,by show (_:Int)%256<=255;omega,fl_bd _ _ _ _⟩
theorem aw_bd (a b f:Int):0<=(awR a b f).1/\(awR a b f).1<=65535/\0<=(awR a b f).2/\(awR a b f).2<=255/\(awR a b f).2%16=0:=⟨by show 0<=(_:Int)%65536;omega,by show (_:Int)%65536<=65535;omega,fl_bd _ _ _ _⟩
theorem as_bd (a b:Int):0<=(asR a b).1/\(asR a b).1<=65535/\0<=(asR a b).2/\(asR a b).2<=255/\(asR a b).2%16=0:=⟨by show 0<=(_:Int)%65536;omega,by show (_:Int)%65536<=65535;omega,fl_bd _ _ _ _⟩
theorem daa_bd (a f:Int):0<=(daaR a f).1/\(daaR a f).1<=255/\0<=(daaR a f).2/\(daaR a f).2<=255/\(daaR a f).2%16=0:=⟨by show 0<=(_:Int)%256;omega,by show (_:Int)%256<=255;omega,fl_bd _ _ _ _⟩
theorem trnP_bd {op v c:Int} (v0:0<=v) (v1:v<=255) (c0:0<=c) (c1:c<=1):0<=(trnP op v c).1/\(trnP op v c).1<=255:=by
 unfold trnP
 repeat' split
 all_goals simp only []
 all_goals omega
theorem trn_bd {op v f:Int} (v0:0<=v) (v1:v<=255):0<=(trnR op v f).1/\(trnR op v f).1<=255/\0<=(trnR op v f).2/\(trnR op v f).2<=255/\(trnR op v f).2%16=0:=by
 obtain ⟨c0,c1⟩:=cy_bd f
 have h:=trnP_bd (op:=op) v0 v1 c0 c1
 exact ⟨h.1,h.2,fl_bd _ _ _ _⟩
theorem bitV_cases (y:Int):bitV y=1 \/ bitV y=2 \/ bitV y=4 \/ bitV y=8 \/ bitV y=16 \/ bitV y=32 \/ bitV y=64 \/ bitV y=128:=by
 unfold bitV
 repeat' split
 all_goals decide
theorem andNot_all:∀ (v:Fin 256) (k:Fin 8),0<=bits .andNot .i64 (v.val:Int) (2 ^ k.val:Int)/\bits .andNot .i64 (v.val:Int) (2 ^ k.val:Int)<=255:=by decide +kernel
theorem bitV_pow (y:Int):∃ k:Fin 8,bitV y=2 ^ k.val:=by
 rcases bitV_cases y with h|h|h|h|h|h|h|h
 all_goals first|exact ⟨0,h⟩|exact ⟨1,h⟩|exact ⟨2,h⟩|exact ⟨3,h⟩|exact ⟨4,h⟩|exact ⟨5,h⟩|exact ⟨6,h⟩|exact ⟨7,h⟩
theorem andNot_bd {v:Int} (v0:0<=v) (v1:v<=255) (y:Int):0<=bits .andNot .i64 v (bitV y)/\bits .andNot .i64 v (bitV y)<=255:=by
 obtain ⟨k,hk⟩:=bitV_pow y
 have h:=andNot_all ⟨v.toNat,by omega⟩ k
 rw [hk]
 have e:((v.toNat:Nat):Int)=v:=by omega
 simpa [e] using h
theorem orBit_bd {v:Int} (v0:0<=v) (v1:v<=255) (y:Int):0<=bits .or .i64 v (bitV y)/\bits .or .i64 v (bitV y)<=255:=by
 have h:=bitV_cases y
 exact (bits_le v0 v1 (by omega) (by omega)).2.1
theorem cb_good {s:S} (h:Good s.m) (code:Int):Good (cbE code s).m:=by
 have hg:=get_bd h (code%8)
 unfold cbE
 split
 ·have ht:=trn_bd (op:=code / 8%8) (f:=s.m.rf) hg.1 hg.2
  exact good_f (put_good h _ _ ht.1 ht.2.1) _ ht.2.2.1 ht.2.2.2.1 ht.2.2.2.2
 ·split
  ·exact fl_good h _ _ _ _
  ·split
   ·have ht:=andNot_bd hg.1 hg.2 (code / 8%8)
    exact put_good h _ _ ht.1 ht.2
   ·have ht:=orBit_bd hg.1 hg.2 (code / 8%8)
    exact put_good h _ _ ht.1 ht.2
theorem odd_good {s:S} (h:Good s.m) (y:Int):Good (oddE y s).m:=by
 have ha:=h.a
 unfold oddE
 split
 ·have ht:=daa_bd s.m.ra s.m.rf
  exact af_good h _ ht.1 ht.2.1 ht.2.2.1 ht.2.2.2.1 ht.2.2.2.2
 ·split
  ·have ht:=fl_bd (zB s.m.rf) true true (cB s.m.rf)
   exact af_good h _ (by simp only [];omega) (by simp only [];omega) ht.1 ht.2.1 ht.2.2
  ·split
   ·exact fl_good h _ _ _ _
   ·split
    ·exact fl_good h _ _ _ _
    ·have ht:=trn_bd (op:=y) (f:=s.m.rf) ha.1 ha.2
     have hf:=fl_bd false false false (cB (trnR y s.m.ra s.m.rf).2)
     exact af_good h _ ht.1 ht.2.1 hf.1 hf.2.1 hf.2.2
theorem sgn_bd (b:Int):-128<=sgn b/\sgn b<=127:=ReckM.sgn_bd b
theorem stepHl_good {m:M} (h:Good m) (p:Int):Good (stepHl m p):=by
 unfold stepHl
 split
 ·exact setP_good h 2 _ (by omega) (by omega)
 ·exact h
def ImmOk (code:Int) (cb:Bool) (imm:Int):Prop:=cb=true \/ (0<=imm/\imm<=65535/\((code<64->code%8 ≠ 1->¬ (code%8=0/\code / 8=1)->imm<=255)/\(code=224 \/ code=240 \/ code=232 \/ code=248 \/ (192<=code/\code%8=6)->imm<=255)))
theorem low_good {s:S} (h:Good s.m) (code imm:Int) (c0:0<=code) (c1:code<64) (hi:ImmOk code false imm):Good (lowE code imm s).1.m:=by
 rcases hi with hi|⟨i0,i1,i2,i3⟩
 ·cases hi
 have hsp:=h.sp
 have hpc:=h.pc
 have hs:=sgn_bd imm
 unfold lowE
 split
 ·split
  ·exact wr_good (wr_good h _ _ (by omega) (by omega)) _ _ (by omega) (by omega)
  ·split
   ·exact good_pc h _ (by omega) (by omega)
   ·exact h
 ·split
  ·split
   ·exact setP_good h _ _ i0 i1
   ·have ht:=aw_bd (hl s.m) (pr s.m (code / 8 / 2)) s.m.rf
    exact good_f (setP_good h 2 _ ht.1 ht.2.1) _ ht.2.2.1 ht.2.2.2.1 ht.2.2.2.2
  ·split
   ·split
    ·exact stepHl_good (wr_good h _ _ h.a.1 h.a.2) _
    ·have hr:=rd_bd s.m (placeOf s.m (code / 8 / 2))
     exact stepHl_good (good_a h _ hr.1 hr.2) _
   ·split
    ·exact setP_good h _ _ (by omega) (by omega)
    ·split
     ·have ht:=st8_bd (v:=get s.m (code / 8)) (f:=s.m.rf) false
      exact good_f (put_good h _ _ ht.1 ht.2.1) _ ht.2.2.1 ht.2.2.2.1 ht.2.2.2.2
     ·split
      ·have ht:=st8_bd (v:=get s.m (code / 8)) (f:=s.m.rf) true
       exact good_f (put_good h _ _ ht.1 ht.2.1) _ ht.2.2.1 ht.2.2.2.1 ht.2.2.2.2
      ·split
       ·exact put_good h _ _ i0 (i2 c1 (by omega) (by omega))
       ·exact odd_good h _
theorem call_good {s:S} (h:Good s.m) (v:Int) (v0:0<=v) (v1:v<=65535):Good (callE v s).m:=good_pc (push_good h _ h.pc.1 h.pc.2) _ v0 v1
theorem iteG {c:Prop} [Decidable c] {x y:S × Bool} (h1:c->Good x.1.m) (h2:¬ c->Good y.1.m):Good (if c then x else y).1.m:=by
 by_cases h:c
 ·rw [if_pos h];exact h1 h
 ·rw [if_neg h];exact h2 h
theorem top_good {s:S} (h:Good s.m) (code imm:Int) (c0:192<=code) (c1:code<=255) (hi:ImmOk code false imm):Good (topE code imm s).1.m:=by
 rcases hi with hi|⟨i0,i1,i2,i3⟩
 ·cases hi
 have hv:=popV_bd s.m
 have ht:=as_bd s.m.sp imm
 unfold topE
 refine iteG (fun _=>good_i (good_pc (popM_good h) _ hv.1 hv.2) _ _ _) (fun _=>?_)
 refine iteG (fun _=>wr_good h _ _ h.a.1 h.a.2) (fun _=>?_)
 refine iteG (fun _=>wr_good h _ _ h.a.1 h.a.2) (fun _=>?_)
 refine iteG (fun _=>good_a h _ (rd_bd _ _).1 (rd_bd _ _).2) (fun _=>?_)
 refine iteG (fun _=>good_a h _ (rd_bd _ _).1 (rd_bd _ _).2) (fun _=>?_)
 refine iteG (fun _=>wr_good h _ _ h.a.1 h.a.2) (fun _=>?_)
 refine iteG (fun _=>good_a h _ (rd_bd _ _).1 (rd_bd _ _).2) (fun _=>?_)
 refine iteG (fun _=>good_f (good_sp h _ ht.1 ht.2.1) _ ht.2.2.1 ht.2.2.2.1 ht.2.2.2.2) (fun _=>?_)
 refine iteG (fun _=>good_f (setP_good h 2 _ ht.1 ht.2.1) _ ht.2.2.1 ht.2.2.2.1 ht.2.2.2.2) (fun _=>?_)
 refine iteG (fun _=>good_sp h _ (hl_bd h).1 (hl_bd h).2) (fun _=>?_)
 refine iteG (fun _=>good_pc h _ (hl_bd h).1 (hl_bd h).2) (fun _=>?_)
 refine iteG (fun _=>setQ_good (popM_good h) _ _ hv.1 hv.2) (fun _=>?_)
 refine iteG (fun _=>push_good h _ (prQ_bd h _).1 (prQ_bd h _).2) (fun _=>?_)
 refine iteG (fun _=>good_pc h _ i0 i1) (fun _=>?_)
 refine iteG (fun _=>good_i h _ _ _) (fun _=>?_)
 refine iteG (fun _=>call_good h _ i0 i1) (fun _=>?_)
 refine iteG (fun h6=>?_) (fun _=>?_)
 ·have ht:=alu_bd (op:=code / 8%8) (f:=s.m.rf) h.a.1 h.a.2 i0 (i3 (.inr (.inr (.inr (.inr ⟨c0,h6⟩))))) (by omega) (by omega)
  exact af_good h _ ht.1 ht.2.1 ht.2.2.1 ht.2.2.2.1 ht.2.2.2.2
 refine iteG (fun _=>call_good h _ (by omega) (by omega)) (fun _=>h)
theorem sem_good {s:S} (h:Good s.m) (code:Int) (cb:Bool) (imm:Int) (c0:0<=code) (c1:code<=255) (hi:ImmOk code cb imm):Good (sem code cb imm s).1.m:=by
 unfold sem
 split
 ·exact cb_good h code
 have hcb:cb=false:=by cases cb <;> simp_all
 subst hcb
 split
 ·exact low_good h code imm c0 (by assumption) hi
 split
 ·exact good_i h _ _ _
 split
 ·exact put_good h _ _ (get_bd h _).1 (get_bd h _).2
 split
 ·have ht:=alu_bd (op:=code / 8%8) (f:=s.m.rf) h.a.1 h.a.2 (get_bd h (code%8)).1 (get_bd h (code%8)).2 (by omega) (by omega)
  exact af_good h _ ht.1 ht.2.1 ht.2.2.1 ht.2.2.2.1 ht.2.2.2.2
 ·exact top_good h code imm (by omega) c1 hi
end Stpq
namespace Stpt
open Signed (inB sgn)
open Reck ReckS ReckM ReckD TurnS
open Busw (M wrM Rt)
open Stpp
def cm (c:Int) (m:M):M:={ m with cyc:=c }
end Stpt
namespace Busz
open Go.Deep
open Signed (inB ret_int ret_bool isByte_any l1In_any)
open Carts CartK CartL CartM CartN CartP CartR CartW CartX CartY Outs MachT MachO MachK MachB Busw Busx Busy
theorem wrM_len {m m':M} {addr v:Int} (hr:Rt m) (h:wrM m addr v=some m'):m'.out.length<=1048576:=by
 have ho:=hr.out
 unfold wrM at h
 split at h
 ·cases h;show m.out.length<=_;omega
 ·split at h
  ·cases h;show m.out.length<=_;omega
  ·split at h
   ·split at h
    ·cases h
    ·cases h;show (m.out ++ [v]).length<=_;rw [List.length_append];simp;omega
   ·cases h;show m.out.length<=_;omega
theorem specBW_any (m:M) (po:Option Addr) (cap:Nat) (addr v:Int) (w:World) (hs:Sm m) (hN:Sl w po m.out cap) :
  Calls prog 7 #[.agg (cellsM m po cap),.int .i64 addr,.int .i64 v] w fun e w' =>
   ((∃ m' po' cap',bwM m addr v=some m'/\e=.returned (.tuple #[.agg (cellsM m' po' cap'),.bool true])/\w'.ownsRow w.heap.size 2 1 (.slice po' m'.out.length cap') m'.out.length (outC m'.out)) \/ (bwM m addr v=none/\e=.returned (.tuple #[.agg (cellsM Z0 none 0),.bool false])))/\Below w.heap.size w w':=by
 have hz:=zeroM
 have c1:=fun W (h:Sl W po m.out cap)=>specOk_M m po cap W hs h
 have c2:=fun w=>l4Word_any addr w
 have c3:=fun w=>l4Byte_any v w
 have H0:Hid (∀ W,Below w.heap.size w W->Sl W po m.out cap):=fun W h=>hN.below h
 have HS:Hid (Sm m):=hs
 have HBW:Hid (bwM m addr v=if okMM m=true/\inB addr 0 65535=true/\inB v 0 255=true then wrM m addr v else none):=rfl
 have HBT:Hid (prog.built 30 []=some (cellsM Z0 none 0)):=builtM
 obtain ⟨bw,hbw⟩ : ∃ x,x=bwM m addr v:=⟨_,rfl⟩
 obtain ⟨b,hb⟩ : ∃ x,x=okMM m:=⟨_,rfl⟩
 obtain ⟨b2,hb2⟩ : ∃ x,x=inB addr 0 65535:=⟨_,rfl⟩
 obtain ⟨b3,hb3⟩ : ∃ x,x=inB v 0 255:=⟨_,rfl⟩
 have HO:Hid (b=okMM m/\b2=inB addr 0 65535/\b3=inB v 0 255):=⟨hb,hb2,hb3⟩
 rw [<- hbw,<- hb,<- hb2,<- hb3] at HBW
 rw [<- hbw]
 rw [<- hb] at c1
 rw [<- hb2] at c2
 rw [<- hb3] at c3
 clear hN hs hbw hb hb2 hb3
 obtain ⟨cM,hcM⟩ : ∃ c,c=cellsM m po cap:=⟨_,rfl⟩
 obtain ⟨cZ,hcZ⟩ : ∃ c,c=cellsM Z0 none 0:=⟨_,rfl⟩
 have HM:Hid (cM=cellsM m po cap):=hcM
 have HZ:Hid (cZ=cellsM Z0 none 0):=hcZ
 have HIM:Hid ((prog.info? 30).map (·.size)=some cM.size):=hcM ▸ infoMs m po cap
 have HIZ:Hid ((prog.info? 30).map (·.size)=some cZ.size):=hcZ ▸ infoMs Z0 none 0
 have HOZ:Hid (cZ.all (·.oneCell')=true):=hcZ ▸ one_M Z0 none 0
 rw [<- hcM] at c1 |-
 rw [<- hcZ] at hz HBT |-
 clear hcM hcZ
 go_enter func7,ntmps7
 go_upto_region 1 with fail
 refine wp_region_list ?_
 have k0:((w.alloc (.cells cM 30)).alloc (.cells cZ 30)).heap[w.heap.size]? = some (.cells cM 30):=by
  rw [Below.heap_alloc _ _ _ (by simp)];exact heap_alloc_last w _
 refine wpList_load_row rfl 30 _ rfl w.heap.size rfl _ _ (0,0) _ k0 underlying30 rfl HIM.out ?_
 clear k0
 go_wp2_with fail
 refine Calls.mono (c1 _ (H0.out _ (by repeat (with_reducible first|exact zRf|refine zGr ?_ _|refine below_drewN ?_ _|refine Below.drew ?_)))) ?_
 rintro e w1 ⟨rfl,hb1⟩
 have HB:Hid (Below w.heap.size w w1):=after (by repeat (with_reducible first|exact zRf|refine zGr ?_ _|refine below_drewN ?_ _|refine Below.drew ?_)) hb1
 have HK:Hid (w1.heap[w.heap.size]? = some (.cells cM 30)):=by
  have h:=hb1.block w.heap.size (by simp;omega)
  rw [Below.heap_alloc _ _ _ (by simp)] at h
  exact h.trans (heap_alloc_last w _)
 have HR:Hid (w1.heap[w.heap.size+1]? = some (.cells cZ 30)):=by
  have h:=hb1.block (w.heap.size+1) (by simp)
  have h2:=heap_alloc_last (w.alloc (.cells cM 30)) (.cells cZ 30)
  simp only [World.size_alloc] at h2
  exact h.trans h2
 clear hb1 c1
 have hcase:(b=false) \/ (b=true/\b2=false) \/ (b=true/\b2=true/\b3=false) \/ (b=true/\b2=true/\b3=true):=by cases b <;> cases b2 <;> cases b3 <;> simp
 rcases hcase with rfl|⟨rfl,rfl⟩|⟨rfl,rfl,rfl⟩|⟨rfl,rfl,rfl⟩
 rotate_left 3
 ·have HN:Hid (bw=wrM m addr v):=by have:=HBW.out;rw [if_pos ⟨rfl,rfl,rfl⟩] at this;exact this
  have HRT:Hid (Rt m):=rt_of HO.out.1.symm HS.out
  have HA:Hid (inB addr 0 65535=true/\inB v 0 255=true):=⟨HO.out.2.1.symm,HO.out.2.2.symm⟩
  have HSM:Hid (∀ m',wrM m addr v=some m'->m'.out.length<=1048576):=fun m' h=>wrM_len HRT.out h
  clear HBW HO HS
  go_upto_region 3 with first|(go_at_call 23;refine (c2 _).mono ?_;rintro e w' ⟨rfl,hw'⟩;have hw':=hw'.symm;subst hw')|(go_at_call 24;refine (c3 _).mono ?_;rintro e w' ⟨rfl,hw'⟩;have hw':=hw'.symm;subst hw')
  clear c2 c3
  refine wp_region_list ?_
  refine wpList_load_row rfl 30 _ rfl w.heap.size rfl _ _ (0,0) _ HK.out underlying30 rfl HIM.out ?_
  go_wp2_with fail
  have cw:=swrite_any m po cap addr v w1 HRT.out (H0.out w1 HB.out) HA.out.1 HA.out.2
  rw [<- HM.out] at cw
  refine Calls.mono cw ?_
  clear cw
  rintro e w2 ⟨⟨m',po',cap',hr,rfl,hsl,-⟩|⟨hr,rfl⟩,hb2⟩
  ·rename_i ha
   refine ha _ _ ?_
   clear ha
   refine wpList_plain rfl (fun K hK=>?_)
   go_simp
   refine hK _ _ ?_
   clear hK
   refine wpList_plain rfl (fun K hK=>?_)
   go_simp
   refine hK _ _ ?_
   clear hK
   refine wpList_plain rfl (fun K hK=>?_)
   go_simp
   refine hK _ _ ?_
   clear hK
   refine wpList_plain rfl (fun K hK=>?_)
   go_simp
   refine hK _ _ ?_
   clear hK
   refine wpList_store_row rfl 30 _ _ rfl w2.heap.size (cellsM m' po' cap') rfl rfl _ _ (heap_alloc_last w2 _) (infoMs _ _ _) (by rw [HZ.out,size_M,size_M]) (one_M _ _ _) ?_
   have hlt1:w.heap.size+1<w1.heap.size:=(zLo HR.out)
   have hlt2:w.heap.size+1<w2.heap.size:=Nat.lt_of_lt_of_le hlt1 hb2.size
   have hb3:Below w2.heap.size w2 ((w2.alloc (.cells cZ 30)).setRow w2.heap.size (cellsM m' po' cap')):=below_row (zAl _ _) (Nat.le_refl _)
   have hx3:((w2.alloc (.cells cZ 30)).setRow w2.heap.size (cellsM m' po' cap')).heap[w2.heap.size]? = some (.cells (cellsM m' po' cap') 30):=heap_row (heap_alloc_last w2 _)
   generalize (w2.alloc (.cells cZ 30)).setRow w2.heap.size (cellsM m' po' cap')=W3 at *
   have HX:Hid (W3.heap[w2.heap.size]? = some (.cells (cellsM m' po' cap') 30)):=hx3
   have HR3:Hid (W3.heap[w.heap.size+1]? = some (.cells cZ 30)):=(hb3.block _ hlt2).trans ((hb2.block _ hlt1).trans HR.out)
   have HB3:Hid (Below w.heap.size w W3):=after (after HB.out hb2) hb3
   have HSL:=zHd (hsl.below hb3)
   have HQ:Hid (bw=some m'):=HN.out.trans hr
   have HL:Hid (m'.out.length<=1048576):=HSM.out m' hr
   clear hx3 hb3 hb2 hsl hr hlt1 hlt2 HB HK HR H0 HN HRT HA HSM hz
   go_upto_region 6 with fail
   refine wp_region_list ?_
   refine wpList_load_row rfl 30 _ rfl w2.heap.size rfl _ _ (0,0) _ HX.out underlying30 rfl (infoMs _ _ _) ?_
   go_wp2_with fail
   refine Calls.mono (copy_any m' po' cap' W3 HL.out HSL.out) ?_
   rintro e w4 ⟨⟨po2,cap2,rfl,own⟩,hb4⟩
   have hlt3:w.heap.size+1<W3.heap.size:=(zLo HR3.out)
   have hr4:w4.heap[w.heap.size+1]? = some (.cells cZ 30):=(hb4.block _ hlt3).trans HR3.out
   have HF:Hid ((w4.setRow (w.heap.size+1) (cellsM m' po2 cap2)).heap[w.heap.size+1]? = some (.cells (cellsM m' po2 cap2) 30)):=heap_row hr4
   have HG:Hid (Below w.heap.size w (w4.setRow (w.heap.size+1) (cellsM m' po2 cap2))):=below_row (after HB3.out hb4) (by omega)
   have HOw:Hid ((w4.setRow (w.heap.size+1) (cellsM m' po2 cap2)).ownsRow w.heap.size 2 1 (.slice po2 m'.out.length cap2) m'.out.length (outC m'.out)) :=
    World.ownsRow.kept (row:=some (w.heap.size+1)) (World.ownsRow.mono own HB3.out.size) (set_row_grown _ _ _) (.inr (row_ne own hr4))
   have HR4:Hid (w4.heap[w.heap.size+1]? = some (.cells cZ 30)):=hr4
   clear own hb4 hlt3 hr4
   rename_i ha
   refine ha _ _ ?_
   refine wpList_store_row rfl 30 _ _ rfl (w.heap.size+1) (cellsM m' po2 cap2) rfl rfl _ _ HR4.out (infoMs _ _ _) (by rw [HZ.out,size_M,size_M]) (one_M _ _ _) ?_
   clear ha
   go_wp2
   exact bodyPost_ret (v:=.tuple #[.agg (cellsM m' po2 cap2),.bool true]) (results_two results7 _ _ (w.heap.size+1) _ _ (0,0) _ _ rfl rfl HF.out underlying30 rfl (infoMs _ _ _)) rfl ⟨.inl ⟨m',po2,cap2,HQ.out,rfl,HOw.out⟩,HG.out⟩
  ·rename_i ha
   refine ha _ _ ?_
   clear ha
   refine wpList_plain rfl (fun K hK=>?_)
   go_simp
   refine hK _ _ ?_
   clear hK
   refine wpList_plain rfl (fun K hK=>?_)
   go_simp
   refine hK _ _ ?_
   clear hK
   refine wpList_plain rfl (fun K hK=>?_)
   go_simp
   refine hK _ _ ?_
   clear hK
   refine wpList_plain rfl (fun K hK=>?_)
   go_simp
   refine hK _ _ ?_
   clear hK
   refine wpList_store_row rfl 30 _ _ rfl w2.heap.size (cellsM m po cap) rfl rfl _ _ (heap_alloc_last w2 _) (infoMs _ _ _) (by rw [HZ.out,size_M,size_M]) (one_M _ _ _) ?_
   have hlt1:w.heap.size+1<w1.heap.size:=(zLo HR.out)
   have hlt2:w.heap.size+1<w2.heap.size:=Nat.lt_of_lt_of_le hlt1 hb2.size
   have hb3:Below w2.heap.size w2 ((w2.alloc (.cells cZ 30)).setRow w2.heap.size (cellsM m po cap)):=below_row (zAl _ _) (Nat.le_refl _)
   have hx3:((w2.alloc (.cells cZ 30)).setRow w2.heap.size (cellsM m po cap)).heap[w2.heap.size]? = some (.cells (cellsM m po cap) 30):=heap_row (heap_alloc_last w2 _)
   generalize (w2.alloc (.cells cZ 30)).setRow w2.heap.size (cellsM m po cap)=W3 at *
   have HX:Hid (W3.heap[w2.heap.size]? = some (.cells (cellsM m po cap) 30)):=hx3
   have HR3:Hid (W3.heap[w.heap.size+1]? = some (.cells cZ 30)):=(hb3.block _ hlt2).trans ((hb2.block _ hlt1).trans HR.out)
   have HB3:Hid (Below w.heap.size w W3):=after (after HB.out hb2) hb3
   have HQ:Hid (bw=none):=HN.out.trans hr
   have HF:Hid ((W3.setRow (w.heap.size+1) cZ).heap[w.heap.size+1]? = some (.cells cZ 30)):=heap_row HR3.out
   have HG:Hid (Below w.heap.size w (W3.setRow (w.heap.size+1) cZ)):=below_row HB3.out (by omega)
   clear hx3 hb3 hb2 hr hlt1 hlt2 HB HK HR H0 HN HRT HA HSM hz
   go_upto_region 5 with fail
   refine wp_region_list ?_
   refine wpList_build0 rfl 30 rfl cZ HBT.out ?_
   refine wpList_store_row rfl 30 _ _ rfl (w.heap.size+1) cZ rfl rfl _ _ HR3.out HIZ.out rfl HOZ.out ?_
   go_wp2
   exact bodyPost_ret (v:=.tuple #[.agg cZ,.bool false]) (results_two results7 _ _ (w.heap.size+1) _ _ (0,0) _ _ rfl rfl HF.out underlying30 rfl HIZ.out) rfl ⟨.inr ⟨HQ.out,rfl⟩,HG.out⟩
 all_goals
  have HN:Hid (bw=none):=by have:=HBW.out;rw [if_neg (by simp)] at this;exact this
  clear HBW HO
  go_upto_region 2 with first|(go_at_call 23;refine (c2 _).mono ?_;rintro e w' ⟨rfl,hw'⟩;have hw':=hw'.symm;subst hw')|(go_at_call 24;refine (c3 _).mono ?_;rintro e w' ⟨rfl,hw'⟩;have hw':=hw'.symm;subst hw')
  refine wp_region_list ?_
  refine wpList_build0 rfl 30 rfl cZ HBT.out ?_
  refine wpList_store_row rfl 30 _ _ rfl (w.heap.size+1) cZ rfl rfl _ _ HR.out HIZ.out rfl HOZ.out ?_
  have HF:Hid ((w1.setRow (w.heap.size+1) cZ).heap[w.heap.size+1]? = some (.cells cZ 30)):=heap_row HR.out
  have HG:Hid (Below w.heap.size w (w1.setRow (w.heap.size+1) cZ)):=below_row HB.out (by omega)
  go_wp2
  exact bodyPost_ret (v:=.tuple #[.agg cZ,.bool false]) (results_two results7 _ _ (w.heap.size+1) _ _ (0,0) _ _ rfl rfl HF.out underlying30 rfl HIZ.out) rfl ⟨.inr ⟨HN.out,rfl⟩,HG.out⟩
end Busz
namespace Busl
open Go.Deep
open Carts CartK CartL Outs MachT Busw Busx Busy Busz
def Told (w w':World) (R:M) (f:Bool) (e:Ending):Prop:=(∃ po' cap',e=.returned (.tuple #[.agg (cellsM R po' cap'),.bool f])/\w'.ownsRow w.heap.size 2 1 (.slice po' R.out.length cap') R.out.length (outC R.out))/\Below w.heap.size w w'
theorem told_of {w w':World} {r:Option M} {e:Ending} (h:((∃ m' po' cap',r=some m'/\e=.returned (.tuple #[.agg (cellsM m' po' cap'),.bool true])/\w'.ownsRow w.heap.size 2 1 (.slice po' m'.out.length cap') m'.out.length (outC m'.out)) \/ (r=none/\e=.returned (.tuple #[.agg (cellsM Z0 none 0),.bool false])))/\Below w.heap.size w w'):Told w w' (r.getD Z0) r.isSome e:=by
 obtain ⟨⟨m',po',cap',rfl,he,ho⟩|⟨rfl,he⟩,hb⟩:=h
 ·exact ⟨⟨po',cap',he,ho⟩,hb⟩
 ·exact ⟨⟨none,0,he,World.ownsRow_nil _ _ _ _⟩,hb⟩
theorem own_stay {u W:World} {base n:Nat} {v:Value} {xs:List Value} (h:u.ownsRow base 2 1 v n xs) (hb:Below u.heap.size u W):W.ownsRow base 2 1 v n xs:=by
 rcases h with ⟨h1,h2|⟨g,c,cur,hv,hb',hg,r⟩⟩
 ·exact ⟨h1,.inl h2⟩
 ·exact ⟨h1,.inr ⟨g,c,cur,hv,hb',(hb.block g (zLo hg)).trans hg,r⟩⟩
end Busl
namespace Samm
open Busw Busx Busy
open Outs (Row)
theorem sameInts_any (a a':Option Addr) (cap cap':Nat) (L:List Int) (w:World) (hN:Row w a L) (hN':Row w a' L) (hlen:L.length<=1048576) :
  Calls prog 12 #[.slice a L.length cap,.slice a' L.length cap'] w fun e w'=>e=.returned (.bool true)/\∃ n,w'=w.drewN n:=by
 obtain ⟨len,hl⟩ : ∃ len,len=L.length:=⟨_,rfl⟩
 have HL:Hid (len=L.length):=hl
 rw [<- hl] at hlen |-
 clear hl
 go_enter func12,ntmps12
 go_wp2
 go_loopw [5] (fun i wr=>∃ k n:Nat,k<=len/\i=.int .i64 k/\wr=w.drewN n) (fun i _=>len-(intOf i).toNat)
 case atStart=>exact ⟨0,0,Nat.zero_le _,rfl,rfl⟩
 case round =>
  obtain ⟨k,n,hk,rfl,rfl⟩:=hrel
  by_cases hlt:k<len
  ·have hkL:k<L.length:=by have:=HL.out;omega
   rcases hN with hnil|⟨b,off,rfl,hb,hc⟩
   ·exfalso;rw [hnil] at hkL;exact absurd hkL (by simp)
   rcases hN' with hnil|⟨b',off',rfl,hb',hc'⟩
   ·exfalso;rw [hnil] at hkL;exact absurd hkL (by simp)
   have c0:w.cell? ⟨b,off+k,none⟩=some (.int .i64 L[k]):=hc k hkL
   have e0:w.cell? ⟨b',off'+k,none⟩=some (.int .i64 L[k]):=hc' k hkL
   clear hc hc'
   generalize L[k]=kd at c0 e0
   have k0:(0:Int)<=(k:Int):=by omega
   have k1:(k:Int)<(len:Int):=by omega
   go_wp2_with fail
   go_quiet (fail)
   go_wp2
   go_roundw
   case rel=>exact ⟨k+1,_,by omega,by go_num,rfl⟩
   case measure=>simp [intOf];omega
  ·clear hN hN'
   go_wp2
   go_ret
   exact ⟨rfl,_,rfl⟩
theorem sameCart_ex (rom:ByteArray) (kind bank:Int) (ram:ByteArray) (rb:Int) (on:Bool) (mode:Int) (w:World):Calls prog 27 #[.agg #[.string rom,.int .i64 kind,.int .i64 bank,.string ram,.int .i64 rb,.bool on,.int .i64 mode],.agg #[.string rom,.int .i64 kind,.int .i64 bank,.string ram,.int .i64 rb,.bool on,.int .i64 mode]] w fun e w'=>e=.returned (.bool true)/\∃ o1 o2,w'=(w.alloc o1).alloc o2:=by
 go_enter func27,ntmps27
 go_wp2
 go_ret
 exact ⟨rfl,_,_,rfl⟩
theorem sameMachine_mb (ra rf rB rC rD rE rH rL sp pc:Int) (ime hal:Bool) (rom:ByteArray) (kind bank:Int) (ram:ByteArray) (rb:Int) (on:Bool) (mode:Int) (work high:ByteArray) (po:Option Addr) (L:List Int) (cap:Nat) (cyc:Int) (po':Option Addr) (cap':Nat) (w:World) (hN:Row w po L) (hN':Row w po' L) (hlen:L.length<=1048576) :
  Calls prog 9 #[.agg #[.int .i64 ra,.int .i64 rf,.int .i64 rB,.int .i64 rC,.int .i64 rD,.int .i64 rE,.int .i64 rH,.int .i64 rL,.int .i64 sp,.int .i64 pc,.bool ime,.bool hal,.string rom,.int .i64 kind,.int .i64 bank,.string ram,.int .i64 rb,.bool on,.int .i64 mode,.string work,.string high,.slice po L.length cap,.int .i64 cyc],.agg #[.int .i64 ra,.int .i64 rf,.int .i64 rB,.int .i64 rC,.int .i64 rD,.int .i64 rE,.int .i64 rH,.int .i64 rL,.int .i64 sp,.int .i64 pc,.bool ime,.bool hal,.string rom,.int .i64 kind,.int .i64 bank,.string ram,.int .i64 rb,.bool on,.int .i64 mode,.string work,.string high,.slice po' L.length cap',.int .i64 cyc]] w fun e w'=>e=.returned (.bool true)/\Below w.heap.size w w':=by
 have c:=fun W (h:Row W po L) (h':Row W po' L)=>sameInts_any po po' cap cap' L W h h' hlen
 have HB:Hid (Row w po L):=hN
 have HB':Hid (Row w po' L):=hN'
 clear hN hN' hlen
 obtain ⟨ln,hl⟩ : ∃ ln,ln=L.length:=⟨_,rfl⟩
 rw [<- hl] at c |-
 clear hl
 go_enter func9,ntmps9
 go_wp2_with (go_at_call 27;refine (sameCart_ex _ _ _ _ _ _ _ _).mono ?_;rintro e w' ⟨rfl,q1,q2,rfl⟩)
 refine Calls.mono (c _ ?_ ?_) ?_
 ·exact HB.out.below (by repeat (with_reducible first|exact zRf|refine zGr ?_ _|refine below_drewN ?_ _|refine Below.drew ?_))
 ·exact HB'.out.below (by repeat (with_reducible first|exact zRf|refine zGr ?_ _|refine below_drewN ?_ _|refine Below.drew ?_))
 rintro e w' ⟨rfl,n,rfl⟩
 clear c HB HB'
 go_wp2
 go_ret
 exact ⟨rfl,below_drewN (by repeat (with_reducible first|exact zRf|refine zGr ?_ _|refine below_drewN ?_ _|refine Below.drew ?_)) _⟩
theorem sameM_any (m:M) (po po':Option Addr) (cap cap':Nat) (w:World) (hN:Row w po m.out) (hN':Row w po' m.out) (hlen:m.out.length<=1048576) :
  Calls prog 9 #[.agg (cellsM m po cap),.agg (cellsM m po' cap')] w fun e w'=>e=.returned (.bool true)/\Below w.heap.size w w':=by
 rw [cells_def,cells_def]
 exact sameMachine_mb m.ra m.rf m.rB m.rC m.rD m.rE m.rH m.rL m.sp m.pc m.ime m.hal m.rom m.kind m.bank m.ram m.rb m.on m.mode m.work m.high po m.out cap m.cyc po' cap' w hN hN' hlen
end Samm
end Go.Proofs.YtfpecdgcapfgfaaGreat
