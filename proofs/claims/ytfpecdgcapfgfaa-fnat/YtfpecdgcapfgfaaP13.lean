import Derived.Test.YtfpecdgcapfgfaaP12
import Derived.Test.YtfpecdgcapfgfaaP08
set_option linter.all false
set_option maxRecDepth 20000
set_option maxHeartbeats 8000000
open Go.ChangeShapes Go.WideShapes Go.ChangeAt Go.RowKit
open Go.Proofs.Try
namespace Go.Proofs.Ytfpecdgcapfgfaa
namespace Stps
open Go.Deep
open Signed (inB sgn ret_int ret_bool)
open Busw Busx Busy Stpp
structure SG where
 (W0:World)
 (X:Nat)
@[irreducible] def cellsW (m:M) (po:Option Addr) (cap:Nat) (full:Bool):Array Value:=(cellsM m po cap).push (.bool full)
theorem cellsW_def (m:M) (po:Option Addr) (cap:Nat) (full:Bool):cellsW m po cap full=#[.int .i64 m.ra,.int .i64 m.rf,.int .i64 m.rB,.int .i64 m.rC,.int .i64 m.rD,.int .i64 m.rE,.int .i64 m.rH,.int .i64 m.rL,.int .i64 m.sp,.int .i64 m.pc,.bool m.ime,.bool m.hal,.string m.rom,.int .i64 m.kind,.int .i64 m.bank,.string m.ram,.int .i64 m.rb,.bool m.on,.int .i64 m.mode,.string m.work,.string m.high,.slice po m.out.length cap,.int .i64 m.cyc,.bool full]:=by unfold cellsW;rw [cells_def];rfl
theorem cellsW_low {m:M} {po:Option Addr} {cap:Nat} {full:Bool} {j:Nat} {v:Value} (h:(cellsM m po cap).toList[j]? = some v):(cellsW m po cap full)[j]? = some v:=by
 unfold cellsW
 have hj:j<(cellsM m po cap).size:=by
  rcases Nat.lt_or_ge j (cellsM m po cap).toList.length with h1|h1
  ·simpa using h1
  ·rw [List.getElem?_eq_none h1] at h;cases h
 rw [Array.getElem?_push,if_neg (by omega)]
 simpa using h
structure SAt (g:SG) (W:World) (m:M) (full:Bool) (po:Option Addr) (cap:Nat):Prop where
 box:W.heap[g.X]? = some (.cells (cellsW m po cap full) 85 (0,0))
 sl:Sl W po m.out cap
 ne:∀ p,po=some p->p.block ≠ g.X
 grown:g.W0.grownBy W (some g.X)
def InS (g:SG) (W:World) (m:M) (full:Bool):Prop:=∃ po cap,SAt g W m full po cap
theorem run_loadVar_part {P:Program} (w:World) (b:Nat) (t ty:TypeId) (cs cs':Array Value) (fr:Nat × Nat) (d:TypeDesc) (hg:w.heap[b]? = some (.cells cs' t fr)) (hp:∀ (j:Nat) (v:Value),cs.toList[j]? = some v->cs'[j]? = some v)
  (hu:P.underlying ty=some d) (hd:(match d with|.struct _|.array _ _=>true|_=>false)=true) (hi:(P.info? ty).map (·.size)=some cs.size) :
  (loadVar ty ⟨b,0,none⟩).run P w=.ok (.agg cs) w:=by
 have hl:(loadCells ⟨b,0,none⟩ cs.toList.length).run P w=.ok cs.toList.toArray w :=
  run_loadCells_list (P:=P) w ⟨b,0,none⟩ cs.toList (fun j v hv=>by
   have hadd:(⟨b,0,none⟩ : Addr).add j=⟨b,j,none⟩:=by unfold Addr.add;split <;> simp_all
   rw [hadd,cell_of_row w b j cs' t fr hg]
   exact hp j v hv)
 cases hq:P.info? ty with
 | none=>simp [hq] at hi
 | some i =>
  have hs:i.size=cs.size:=by simpa [hq] using hi
  have hagg:(isAgg ty).run P w=.ok true w:=by
   unfold isAgg
   rw [Sem.run_bind,run_underlying hu w]
   cases d <;> simp_all
  simp only [Array.length_toList,Array.toArray_toList] at hl
  simp [loadVar,Sem.run_bind,hagg,sizeOf,typeInfo,hq,hs,hl]
theorem wpList_load_any {P:Program} {ops:Array Oper} {rest:List Oper} {o:Oper} {a:Act} {w:World} {Q:Exit->Act->World->Prop} (hgd:o.guard=none) (ty:TypeId) (x:Operand) (ho:o.op=.load ty x)
  (p:Addr) (hx:a.eval x=.pointer (some p)) (v:Value) (hl:(loadVar ty p).run P w=.ok v w) (h:wpList P ops Q rest (a.put o.dst v) w):wpList P ops Q (o :: rest) a w :=
 wpList_plain hgd fun K hK=>by
  unfold Oper.wp execOp
  simp only [ho,hx,Instr.loadAt,Instr.sureAddr,Sem.run_bind,Sem.run_pure,Result.andThen_ok,hl]
  exact hK _ _ h
theorem wpQuiet_load {P:Program} {ops:Array Oper} {rest:List Oper} {o:Oper} {a:Act} {C:World->Prop} {Q:Act->Prop} (hgd:Region.wanted o (yielded ops a.tmps)=true) (ty:TypeId) (x:Operand) (ho:o.op=.load ty x)
  (p:Addr) (hx:a.eval x=.pointer (some p)) (v:Value) (hl:∀ w,C w->(loadVar ty p).run P w=.ok v w) (h:wpQuiet P ops C Q rest (a.put o.dst v)):wpQuiet P ops C Q (o :: rest) a :=
 wpQuiet_step fun K hK=>by
  rw [if_pos hgd]
  refine ⟨v,fun w hw=>?_,hK _ h⟩
  unfold Oper.quietAt execOp
  simp only [ho,hx,Instr.loadAt,Instr.sureAddr,Sem.run_bind,Sem.run_pure,Result.andThen_ok,hl w hw]
  exact ⟨rfl,rfl⟩
theorem run_storeVar_part {P:Program} (w:World) (b:Nat) (t ty:TypeId) (old cells:Array Value) (hg:w.heap[b]? = some (.cells old t (0,0))) (hi:(P.info? ty).map (·.size)=some cells.size)
  (ho:cells.size<=old.size) (h1:cells.all (·.oneCell')=true) :
  (storeVar ty ⟨b,0,none⟩ (.agg cells)).run P w=.ok () (w.setRow b (cells.toList ++ old.toList.drop cells.size).toArray):=by
 have:=run_storeCells_at P b 0 t cells.toList 0 old w hg (by simpa using ho) (fun v hv=>(Array.all_eq_true_iff_forall_mem.1 h1) v (by simpa using hv))
 cases hq:P.info? ty with
 | none=>simp [hq] at hi
 | some i =>
  have hs:cells.size=i.size:=by simp [hq] at hi;omega
  simp [storeVar,sizeOf,typeInfo,hq,Value.cells,hs] at this |-
  rw [<- hs] at this |-
  simpa using this
theorem wpList_store_part {P:Program} {ops:Array Oper} {rest:List Oper} {o:Oper} {a:Act} {w:World} {Q:Exit->Act->World->Prop} (hgd:o.guard=none) (ty:TypeId) (x y:Operand) (ho:o.op=.store ty x y)
  (b:Nat) (cells:Array Value) (hx:a.eval x=.pointer (some ⟨b,0,none⟩)) (hy:a.eval y=.agg cells) (t:TypeId) (old:Array Value) (hg:w.heap[b]? = some (.cells old t (0,0))) (hi:(P.info? ty).map (·.size)=some cells.size)
  (hold:cells.size<=old.size) (h1:cells.all (·.oneCell')=true)
  (h:wpList P ops Q rest (a.put o.dst undef) (w.setRow b (cells.toList ++ old.toList.drop cells.size).toArray)):wpList P ops Q (o :: rest) a w :=
 wpList_plain hgd fun K hK=>by
  unfold Oper.wp execOp
  simp only [ho,hx,hy,Instr.storeAt,Instr.sureAddr,Sem.run_bind,Sem.run_pure,Result.andThen_ok,run_storeVar_part w b t ty old cells hg hi hold h1]
  exact hK _ _ h
theorem part_W (m m':M) (po po':Option Addr) (cap cap':Nat) (full:Bool):((cellsM m' po' cap').toList ++ (cellsW m po cap full).toList.drop (cellsM m' po' cap').size).toArray=cellsW m' po' cap' full:=by
 rw [size_M,cellsW_def,cellsW_def,cells_def];rfl
theorem size_W (m:M) (po:Option Addr) (cap:Nat) (full:Bool):(cellsW m po cap full).size=24:=by rw [cellsW_def];rfl
theorem SAt.load {g:SG} {W W':World} {m:M} {full:Bool} {po:Option Addr} {cap:Nat} (h:SAt g W m full po cap) (hb:W'.heap[g.X]? = W.heap[g.X]?):(loadVar 30 ⟨g.X,0,none⟩).run prog W'=.ok (.agg (cellsM m po cap)) W' :=
 run_loadVar_part W' g.X _ _ _ _ (0,0) _ (hb.trans h.box) (fun j v hv=>cellsW_low hv) underlying30 rfl (infoMs m po cap)
theorem SAt.lt {g:SG} {W:World} {m:M} {full:Bool} {po:Option Addr} {cap:Nat} (h:SAt g W m full po cap):g.X<W.heap.size:=(zLo h.box)
theorem sl_grown {W W':World} {po:Option Addr} {L:List Int} {cap X:Nat} (h:Sl W po L cap) (hne:∀ p,po=some p->p.block ≠ X) (hg:W.grownBy W' (some X)):Sl W' po L cap:=by
 rcases h with h|⟨b,off,rfl,hc⟩
 ·exact .inl h
 ·exact .inr ⟨b,off,rfl,fun i hi=>⟨Nat.lt_of_lt_of_le (hc i hi).1 hg.size,(World.cell?_of_block (a:=⟨b,off+i,none⟩) (hg.block b (hc i hi).1 (fun e=>hne _ rfl (Option.some.inj e)))).trans (hc i hi).2⟩⟩
theorem grown_trans {w w1 w2:World} {X:Nat} (h:w.grownBy w1 (some X)) (h2:w1.grownBy w2 (some X)):w.grownBy w2 (some X) :=
 ⟨h2.os.trans h.os,h2.tape.trans h.tape,h2.output.trans h.output,Nat.le_trans h.size h2.size,fun k hk hne=>(h2.block k (Nat.lt_of_lt_of_le hk h.size) hne).trans (h.block k hk hne)⟩
theorem below_grown {w w':World} {X:Nat} (h:Below w.heap.size w w'):w.grownBy w' (some X):=⟨h.os,h.tape,h.output,h.size,fun k hk _=>h.block k hk⟩
theorem InS.below {g:SG} {W W':World} {m:M} {full:Bool} (h:InS g W m full) (hb:Below W.heap.size W W'):InS g W' m full:=by
 obtain ⟨po,cap,h⟩:=h
 exact ⟨po,cap,(hb.block _ h.lt).trans h.box,h.sl.below hb,h.ne,grown_trans h.grown (below_grown hb)⟩
theorem InS.lt {g:SG} {W:World} {m:M} {full:Bool} (h:InS g W m full):g.X<W.heap.size:=by obtain ⟨po,cap,h⟩:=h;exact h.lt
theorem InS.fro {g:SG} {W:World} {m:M} {full:Bool} (h:InS g W m full) (i:Nat):W.frozen? ⟨g.X,i,none⟩=false:=by
 obtain ⟨po,cap,h⟩:=h
 exact frozen_of_row _ _ _ _ _ h.box
theorem InS.cell {g:SG} {W:World} {m:M} {full:Bool} (h:InS g W m full) (i:Nat) (v:Value) (hv:(#[.int .i64 m.ra,.int .i64 m.rf,.int .i64 m.rB,.int .i64 m.rC,.int .i64 m.rD,.int .i64 m.rE,.int .i64 m.rH,.int .i64 m.rL,.int .i64 m.sp,.int .i64 m.pc,.bool m.ime,.bool m.hal]:Array Value)[i]? = some v):W.cell? ⟨g.X,i,none⟩=some v:=by
 obtain ⟨po,cap,h⟩:=h
 rw [cell_of_row W g.X i _ _ _ h.box,cellsW_def]
 match i,hv with
 | 0,hv=>exact hv
 | 1,hv=>exact hv
 | 2,hv=>exact hv
 | 3,hv=>exact hv
 | 4,hv=>exact hv
 | 5,hv=>exact hv
 | 6,hv=>exact hv
 | 7,hv=>exact hv
 | 8,hv=>exact hv
 | 9,hv=>exact hv
 | 10,hv=>exact hv
 | 11,hv=>exact hv
 | i+12,hv=>simp at hv
theorem InS.cellFull {g:SG} {W:World} {m:M} {full:Bool} (h:InS g W m full):W.cell? ⟨g.X,23,none⟩=some (.bool full):=by
 obtain ⟨po,cap,h⟩:=h
 rw [cell_of_row W g.X 23 _ _ _ h.box,cellsW_def];rfl
theorem InS.cellCyc {g:SG} {W:World} {m:M} {full:Bool} (h:InS g W m full):W.cell? ⟨g.X,22,none⟩=some (.int .i64 m.cyc):=by
 obtain ⟨po,cap,h⟩:=h
 rw [cell_of_row W g.X 22 _ _ _ h.box,cellsW_def];rfl
theorem set_grown1 (w:World) (B i:Nat) (v:Value):w.grownBy (w.setCell ⟨B,i,none⟩ v) (some B) :=
 ⟨rfl,rfl,rfl,by rw [Busw.size_set];exact Nat.le_refl _,fun k _ hk=>Below.heap_setCell _ _ _ _ (fun e=>hk (by rw [e]))⟩
theorem InS.setX {g:SG} {W:World} {m m':M} {full full':Bool} (i:Nat) (v:Value) (h:InS g W m full) (ho:m'.out=m.out) (hbox:∀ po cap,W.heap[g.X]? = some (.cells (cellsW m po cap full) 85 (0,0))->(W.setCell ⟨g.X,i,none⟩ v).heap[g.X]? = some (.cells (cellsW m' po cap full') 85 (0,0))) :
  InS g (W.setCell ⟨g.X,i,none⟩ v) m' full':=by
 obtain ⟨po,cap,h⟩:=h
 have hg:=set_grown1 W g.X i v
 exact ⟨po,cap,hbox po cap h.box,by rw [ho];exact sl_grown h.sl h.ne hg,h.ne,grown_trans h.grown hg⟩
theorem InS.setFull {g:SG} {W:World} {m:M} {full:Bool} (h:InS g W m full) (b:Bool):InS g (W.setCell ⟨g.X,23,none⟩ (.bool b)) m b :=
 h.setX 23 _ rfl (fun po cap hb=>by rw [cellsW_def] at hb |-;exact (heap_setCell_same _ _ _ _ _ _ hb).trans rfl)
theorem InS.s_cyc {g:SG} {W:World} {m:M} {full:Bool} (h:InS g W m full) (v:Int):InS g (W.setCell ⟨g.X,22,none⟩ (.int .i64 v)) { m with cyc:=v } full :=
 h.setX 22 _ rfl (fun po cap hb=>by rw [cellsW_def] at hb |-;exact (heap_setCell_same _ _ _ _ _ _ hb).trans rfl)
theorem InS.s_ra {g:SG} {W:World} {m:M} {full:Bool} (h:InS g W m full) (v:Int):InS g (W.setCell ⟨g.X,0,none⟩ (.int .i64 v)) { m with ra:=v } full :=
 h.setX 0 _ rfl (fun po cap hb=>by rw [cellsW_def] at hb |-;exact (heap_setCell_same _ _ _ _ _ _ hb).trans rfl)
theorem InS.s_rf {g:SG} {W:World} {m:M} {full:Bool} (h:InS g W m full) (v:Int):InS g (W.setCell ⟨g.X,1,none⟩ (.int .i64 v)) { m with rf:=v } full :=
 h.setX 1 _ rfl (fun po cap hb=>by rw [cellsW_def] at hb |-;exact (heap_setCell_same _ _ _ _ _ _ hb).trans rfl)
theorem InS.s_rB {g:SG} {W:World} {m:M} {full:Bool} (h:InS g W m full) (v:Int):InS g (W.setCell ⟨g.X,2,none⟩ (.int .i64 v)) { m with rB:=v } full :=
 h.setX 2 _ rfl (fun po cap hb=>by rw [cellsW_def] at hb |-;exact (heap_setCell_same _ _ _ _ _ _ hb).trans rfl)
theorem InS.s_rC {g:SG} {W:World} {m:M} {full:Bool} (h:InS g W m full) (v:Int):InS g (W.setCell ⟨g.X,3,none⟩ (.int .i64 v)) { m with rC:=v } full :=
 h.setX 3 _ rfl (fun po cap hb=>by rw [cellsW_def] at hb |-;exact (heap_setCell_same _ _ _ _ _ _ hb).trans rfl)
theorem InS.s_rD {g:SG} {W:World} {m:M} {full:Bool} (h:InS g W m full) (v:Int):InS g (W.setCell ⟨g.X,4,none⟩ (.int .i64 v)) { m with rD:=v } full :=
 h.setX 4 _ rfl (fun po cap hb=>by rw [cellsW_def] at hb |-;exact (heap_setCell_same _ _ _ _ _ _ hb).trans rfl)
theorem InS.s_rE {g:SG} {W:World} {m:M} {full:Bool} (h:InS g W m full) (v:Int):InS g (W.setCell ⟨g.X,5,none⟩ (.int .i64 v)) { m with rE:=v } full :=
 h.setX 5 _ rfl (fun po cap hb=>by rw [cellsW_def] at hb |-;exact (heap_setCell_same _ _ _ _ _ _ hb).trans rfl)
theorem InS.s_rH {g:SG} {W:World} {m:M} {full:Bool} (h:InS g W m full) (v:Int):InS g (W.setCell ⟨g.X,6,none⟩ (.int .i64 v)) { m with rH:=v } full :=
 h.setX 6 _ rfl (fun po cap hb=>by rw [cellsW_def] at hb |-;exact (heap_setCell_same _ _ _ _ _ _ hb).trans rfl)
theorem InS.s_rL {g:SG} {W:World} {m:M} {full:Bool} (h:InS g W m full) (v:Int):InS g (W.setCell ⟨g.X,7,none⟩ (.int .i64 v)) { m with rL:=v } full :=
 h.setX 7 _ rfl (fun po cap hb=>by rw [cellsW_def] at hb |-;exact (heap_setCell_same _ _ _ _ _ _ hb).trans rfl)
theorem InS.s_sp {g:SG} {W:World} {m:M} {full:Bool} (h:InS g W m full) (v:Int):InS g (W.setCell ⟨g.X,8,none⟩ (.int .i64 v)) { m with sp:=v } full :=
 h.setX 8 _ rfl (fun po cap hb=>by rw [cellsW_def] at hb |-;exact (heap_setCell_same _ _ _ _ _ _ hb).trans rfl)
theorem InS.s_pc {g:SG} {W:World} {m:M} {full:Bool} (h:InS g W m full) (v:Int):InS g (W.setCell ⟨g.X,9,none⟩ (.int .i64 v)) { m with pc:=v } full :=
 h.setX 9 _ rfl (fun po cap hb=>by rw [cellsW_def] at hb |-;exact (heap_setCell_same _ _ _ _ _ _ hb).trans rfl)
theorem InS.s_ime {g:SG} {W:World} {m:M} {full:Bool} (h:InS g W m full) (v:Bool):InS g (W.setCell ⟨g.X,10,none⟩ (.bool v)) { m with ime:=v } full :=
 h.setX 10 _ rfl (fun po cap hb=>by rw [cellsW_def] at hb |-;exact (heap_setCell_same _ _ _ _ _ _ hb).trans rfl)
theorem InS.s_hal {g:SG} {W:World} {m:M} {full:Bool} (h:InS g W m full) (v:Bool):InS g (W.setCell ⟨g.X,11,none⟩ (.bool v)) { m with hal:=v } full :=
 h.setX 11 _ rfl (fun po cap hb=>by rw [cellsW_def] at hb |-;exact (heap_setCell_same _ _ _ _ _ _ hb).trans rfl)
theorem l6Read_M (m:M) (po:Option Addr) (cap:Nat) (addr:Int) (w:World) (hr:Rt m) (a0:0<=addr):Calls prog 59 #[.agg (cellsM m po cap),.int .i64 addr] w fun e w'=>e=.returned (.int .i64 (rd m addr))/\Below w.heap.size w w':=by
 rw [cells_def]
 exact MachB.l6Read_any m.ra m.rf m.rB m.rC m.rD m.rE m.rH m.rL m.sp m.pc m.ime m.hal m.rom m.kind m.bank m.ram m.rb m.on m.mode m.work m.high po m.out cap m.cyc addr w hr.rom hr.cart hr.work hr.high a0
end Stps
namespace Sta
open Go.Deep
open Signed (inB sgn ret_int ret_bool)
open Busw Busx Busy Stpp Stpq Stps
abbrev Rg (f:FuncId) (args:Array Value) (W:World) (v:Value):Prop:=∀ d os,Calls prog f args (Go.Sort.grow (redrawn W d) os) fun e w''=>e=.returned v/\∃ p:Regrown,w''=Go.Sort.grow (redrawn W p.d) p.os
theorem rg {f:FuncId} {args:Array Value} {W:World} {v:Value} (h:∀ W',Below W.heap.size W W'->Calls prog f args W' fun e w'=>e=.returned v/\Below W'.heap.size W' w'):Rg f args W v:=fun d os=>Calls.regrown_of (h _ (below_regrown W d os))
theorem after {a w w':World} (h:Below a.heap.size a w) (k:Below w.heap.size w w'):Below a.heap.size a w':=h.trans (k.mono h.size)
theorem hlS (g:SG) (m:M) (full:Bool) (w:World) (h:InS g w m full) (hg:Stpq.Good m) :
  Calls prog 69 #[.pointer (some ⟨g.X,0,none⟩)] w fun e w'=>e=.returned (.int .i64 (hl m))/\Below w.heap.size w w':=by
 have h1:=hg.h
 have h2:=hg.l
 have d1:IntKind.i64.wrap (256*m.rH)=256*m.rH:=by rw [IntKind.wrap_i64];omega
 have d2:IntKind.i64.wrap (256*m.rH+m.rL)=256*m.rH+m.rL:=by rw [IntKind.wrap_i64];omega
 have q_rH:=h.cell 6 _ rfl
 have q_rL:=h.cell 7 _ rfl
 clear h hg h1 h2
 go_enter func69,ntmps69
 go_wp2_with fail
 go_quiet (fail)
 go_wp2
 go_ret
 exact ⟨rfl,by repeat (with_reducible first|exact zRf|refine zGr ?_ _|refine below_drewN ?_ _|refine Below.drew ?_)⟩
theorem writeS (g:SG) (m:M) (full:Bool) (addr v:Int) (w:World) (h:InS g w m full) (hr:Rt m) (a0:0<=addr) (v0:0<=v) (v1:v<=255) :
  Calls prog 64 #[.pointer (some ⟨g.X,0,none⟩),.int .i64 addr,.int .i64 v] w fun e w'=>e=.returned (.tuple #[])/\InS g w' (wr ⟨m,full⟩ addr v).m (wr ⟨m,full⟩ addr v).full:=by
 obtain ⟨po,cap,hA⟩:=h
 have hq:0<=addr%65536/\addr%65536<=65535:=by omega
 have c1:=swrite_any m po cap (addr%65536) v w hr hA.sl (decide_eq_true hq) (decide_eq_true ⟨v0,v1⟩)
 have hl:=hA.load (W':=w) rfl
 have d1:addr.tmod 65536=addr%65536:=Int.tmod_eq_emod_of_nonneg a0
 have HA:Hid (SAt g w m full po cap):=hA
 have hz:=zeroM
 have HWR:Hid (wr ⟨m,full⟩ addr v=match wrM m (addr%65536) v with|some m'=>⟨m',full⟩|none=>⟨m,true⟩):=rfl
 generalize wr ⟨m,full⟩ addr v=t at *
 obtain ⟨rr,hrr⟩ : ∃ r,r=wrM m (addr%65536) v:=⟨_,rfl⟩
 rw [<- hrr] at c1 HWR
 clear hrr hA hr hq
 generalize addr%65536=aq at *
 obtain ⟨cZ,hcZ⟩ : ∃ c,c=cellsM Z0 none 0:=⟨_,rfl⟩
 have HZ:Hid (cZ=cellsM Z0 none 0):=hcZ
 rw [<- hcZ] at hz
 clear hcZ
 go_enter func64,ntmps64
 go_upto_region 0 with fail
 refine wp_region_list ?_
 refine wpList_plain rfl (fun K hK=>?_)
 go_simp
 refine hK _ _ ?_
 clear hK
 refine wpList_plain rfl (fun K hK=>?_)
 go_simp
 refine hK _ _ ?_
 clear hK
 refine wpList_plain rfl (fun K hK=>?_)
 go_simp
 refine hK _ _ ?_
 clear hK
 refine wpList_load_any rfl 30 _ rfl ⟨g.X,0,none⟩ rfl _ hl ?_
 go_wp2_with fail
 refine Calls.mono c1 ?_
 rintro e w1 ⟨hc,hb1⟩
 obtain ⟨m',po',cap',ok,hok,rfl,hsl,hmm⟩ : ∃ m' po' cap' ok,t=⟨m',full || !ok⟩/\e=.returned (.tuple #[.agg (cellsM m' po' cap'),.bool ok])/\Sl w1 po' m'.out cap'/\(∀ p,po'=some p->p.block ≠ g.X):=by
  rcases hc with ⟨m',po',cap',hr,he,hs,hfr⟩|⟨hr,he⟩
  ·refine ⟨m',po',cap',true,?_,he,hs,?_⟩
   ·rw [HWR.out,hr];simp
   ·intro p hp
    rcases hfr with rfl|hfr
    ·exact HA.out.ne p hp
    ·have h1:=hfr p hp
     have h2:=HA.out.lt
     omega
  ·refine ⟨m,po,cap,false,?_,he,HA.out.sl.below hb1,HA.out.ne⟩
   rw [HWR.out,hr];simp
 have HS1:Hid (Sl w1 po' m'.out cap'/\∀ p,po'=some p->p.block ≠ g.X):=⟨hsl,hmm⟩
 have HB1:Hid (Below w.heap.size w w1):=hb1
 have HXX:Hid (w1.heap[g.X]? = some (.cells (cellsW m po cap full) 85 (0,0))):=(hb1.block _ HA.out.lt).trans HA.out.box
 have HT:Hid (t=⟨m',full || !ok⟩):=hok
 clear hc hsl hmm hb1 HWR c1 hl hok
 rename_i hK
 refine hK _ _ ?_
 clear hK
 refine wpList_plain rfl (fun K hK=>?_)
 go_simp
 refine hK _ _ ?_
 clear hK
 refine wpList_plain rfl (fun K hK=>?_)
 go_simp
 refine hK _ _ ?_
 clear hK
 refine wpList_plain rfl (fun K hK=>?_)
 go_simp
 refine hK _ _ ?_
 clear hK
 refine wpList_plain rfl (fun K hK=>?_)
 go_simp
 refine hK _ _ ?_
 clear hK
 refine wpList_store_row rfl 30 _ _ rfl w1.heap.size (cellsM m' po' cap') rfl rfl _ _ (heap_alloc_last w1 _) (infoMs _ _ _) (by rw [HZ.out,size_M,size_M]) (one_M _ _ _) ?_
 rw [World.setRow_alloc_new]
 obtain ⟨u1,hu1⟩ : ∃ u,u=w1.alloc (.cells (cellsM m' po' cap') 30):=⟨_,rfl⟩
 have HU:Hid (u1.heap[w1.heap.size]? = some (.cells (cellsM m' po' cap') 30)/\u1.heap[g.X]? = some (.cells (cellsW m po cap full) 85 (0,0))/\Below w.heap.size w u1/\Sl u1 po' m'.out cap'/\g.X<w1.heap.size):=by
  have hx:=(zLo HXX.out)
  have hbb:Below w1.heap.size w1 u1:=by rw [hu1];exact zAl _ _
  exact ⟨by rw [hu1];exact heap_alloc_last w1 _,(hbb.block _ hx).trans HXX.out,after HB1.out hbb,HS1.out.1.below hbb,hx⟩
 obtain ⟨bM,hbM⟩ : ∃ b,b=w1.heap.size:=⟨_,rfl⟩
 rw [<- hu1,<- hbM]
 rw [<- hbM] at HU
 clear hu1 hbM HXX HB1
 go_upto_region 1 with fail
 refine wp_region_list ?_
 refine wpList_plain rfl (fun K hK=>?_)
 go_simp
 refine hK _ _ ?_
 clear hK
 refine wpList_load_row rfl 30 _ rfl bM rfl _ _ (0,0) _ HU.out.1 underlying30 rfl (infoMs _ _ _) ?_
 refine wpList_plain rfl (fun K hK=>?_)
 go_simp
 refine hK _ _ ?_
 clear hK
 refine wpList_plain rfl (fun K hK=>?_)
 go_simp
 refine hK _ _ ?_
 clear hK
 refine wpList_store_part rfl 30 _ _ rfl g.X (cellsM m' po' cap') rfl rfl _ _ HU.out.2.1 (infoMs _ _ _) (by rw [size_M,size_W];decide) (one_M _ _ _) ?_
 rw [part_W]
 obtain ⟨u2,hu2⟩ : ∃ u,u=u1.setRow g.X (cellsW m' po' cap' full):=⟨_,rfl⟩
 have HI:Hid (InS g u2 m' full):=by
  obtain ⟨h1,h2,h3,h4,h5⟩:=HU.out
  rw [hu2]
  refine ⟨po',cap',MachT.heap_row h2,?_,HS1.out.2,?_⟩
  ·exact sl_grown h4 HS1.out.2 (set_row_grown _ _ _)
  ·exact grown_trans (grown_trans HA.out.grown (below_grown h3)) (set_row_grown _ _ _)
 rw [<- hu2]
 clear hu2 HU HS1 HA
 have q:=HI.out.cellFull
 have f:=HI.out.fro 23
 have HF:Hid (InS g (u2.setCell ⟨g.X,23,none⟩ (.bool (full || !ok))) m' (full || !ok)):=HI.out.setFull _
 clear HI
 refine wpList_nil ?_
 cases full <;> cases ok
 all_goals
  go_wp2
  go_end0
  exact ⟨rfl,by rw [HT.out];exact HF.out⟩
theorem reg_0 (g:SG) (m:M) (full:Bool) (w:World) (h:InS g w m full) :
  Calls prog 51 #[.pointer (some ⟨g.X,0,none⟩),.int .i64 0] w fun e w'=>e=.returned (.int .i64 (m.rB))/\Below w.heap.size w w':=by
 have q_ra:=h.cell 0 _ rfl
 have q_rf:=h.cell 1 _ rfl
 have q_rB:=h.cell 2 _ rfl
 have q_rC:=h.cell 3 _ rfl
 have q_rD:=h.cell 4 _ rfl
 have q_rE:=h.cell 5 _ rfl
 have q_rH:=h.cell 6 _ rfl
 have q_rL:=h.cell 7 _ rfl
 have q_sp:=h.cell 8 _ rfl
 have q_pc:=h.cell 9 _ rfl
 have q_ime:=h.cell 10 _ rfl
 have q_hal:=h.cell 11 _ rfl
 have hl:=h.lt
 clear h
 go_enter func51,ntmps51
 go_wp2
 go_ret
 exact ⟨rfl,by repeat (with_reducible first|exact zRf|refine zGr ?_ _|refine below_drewN ?_ _|refine Below.drew ?_)⟩
theorem reg_1 (g:SG) (m:M) (full:Bool) (w:World) (h:InS g w m full) :
  Calls prog 51 #[.pointer (some ⟨g.X,0,none⟩),.int .i64 1] w fun e w'=>e=.returned (.int .i64 (m.rC))/\Below w.heap.size w w':=by
 have q_ra:=h.cell 0 _ rfl
 have q_rf:=h.cell 1 _ rfl
 have q_rB:=h.cell 2 _ rfl
 have q_rC:=h.cell 3 _ rfl
 have q_rD:=h.cell 4 _ rfl
 have q_rE:=h.cell 5 _ rfl
 have q_rH:=h.cell 6 _ rfl
 have q_rL:=h.cell 7 _ rfl
 have q_sp:=h.cell 8 _ rfl
 have q_pc:=h.cell 9 _ rfl
 have q_ime:=h.cell 10 _ rfl
 have q_hal:=h.cell 11 _ rfl
 have hl:=h.lt
 clear h
 go_enter func51,ntmps51
 go_wp2
 go_ret
 exact ⟨rfl,by repeat (with_reducible first|exact zRf|refine zGr ?_ _|refine below_drewN ?_ _|refine Below.drew ?_)⟩
theorem reg_2 (g:SG) (m:M) (full:Bool) (w:World) (h:InS g w m full) :
  Calls prog 51 #[.pointer (some ⟨g.X,0,none⟩),.int .i64 2] w fun e w'=>e=.returned (.int .i64 (m.rD))/\Below w.heap.size w w':=by
 have q_ra:=h.cell 0 _ rfl
 have q_rf:=h.cell 1 _ rfl
 have q_rB:=h.cell 2 _ rfl
 have q_rC:=h.cell 3 _ rfl
 have q_rD:=h.cell 4 _ rfl
 have q_rE:=h.cell 5 _ rfl
 have q_rH:=h.cell 6 _ rfl
 have q_rL:=h.cell 7 _ rfl
 have q_sp:=h.cell 8 _ rfl
 have q_pc:=h.cell 9 _ rfl
 have q_ime:=h.cell 10 _ rfl
 have q_hal:=h.cell 11 _ rfl
 have hl:=h.lt
 clear h
 go_enter func51,ntmps51
 go_wp2
 go_ret
 exact ⟨rfl,by repeat (with_reducible first|exact zRf|refine zGr ?_ _|refine below_drewN ?_ _|refine Below.drew ?_)⟩
theorem reg_3 (g:SG) (m:M) (full:Bool) (w:World) (h:InS g w m full) :
  Calls prog 51 #[.pointer (some ⟨g.X,0,none⟩),.int .i64 3] w fun e w'=>e=.returned (.int .i64 (m.rE))/\Below w.heap.size w w':=by
 have q_ra:=h.cell 0 _ rfl
 have q_rf:=h.cell 1 _ rfl
 have q_rB:=h.cell 2 _ rfl
 have q_rC:=h.cell 3 _ rfl
 have q_rD:=h.cell 4 _ rfl
 have q_rE:=h.cell 5 _ rfl
 have q_rH:=h.cell 6 _ rfl
 have q_rL:=h.cell 7 _ rfl
 have q_sp:=h.cell 8 _ rfl
 have q_pc:=h.cell 9 _ rfl
 have q_ime:=h.cell 10 _ rfl
 have q_hal:=h.cell 11 _ rfl
 have hl:=h.lt
 clear h
 go_enter func51,ntmps51
 go_wp2
 go_ret
 exact ⟨rfl,by repeat (with_reducible first|exact zRf|refine zGr ?_ _|refine below_drewN ?_ _|refine Below.drew ?_)⟩
theorem reg_4 (g:SG) (m:M) (full:Bool) (w:World) (h:InS g w m full) :
  Calls prog 51 #[.pointer (some ⟨g.X,0,none⟩),.int .i64 4] w fun e w'=>e=.returned (.int .i64 (m.rH))/\Below w.heap.size w w':=by
 have q_ra:=h.cell 0 _ rfl
 have q_rf:=h.cell 1 _ rfl
 have q_rB:=h.cell 2 _ rfl
 have q_rC:=h.cell 3 _ rfl
 have q_rD:=h.cell 4 _ rfl
 have q_rE:=h.cell 5 _ rfl
 have q_rH:=h.cell 6 _ rfl
 have q_rL:=h.cell 7 _ rfl
 have q_sp:=h.cell 8 _ rfl
 have q_pc:=h.cell 9 _ rfl
 have q_ime:=h.cell 10 _ rfl
 have q_hal:=h.cell 11 _ rfl
 have hl:=h.lt
 clear h
 go_enter func51,ntmps51
 go_wp2
 go_ret
 exact ⟨rfl,by repeat (with_reducible first|exact zRf|refine zGr ?_ _|refine below_drewN ?_ _|refine Below.drew ?_)⟩
theorem reg_5 (g:SG) (m:M) (full:Bool) (w:World) (h:InS g w m full) :
  Calls prog 51 #[.pointer (some ⟨g.X,0,none⟩),.int .i64 5] w fun e w'=>e=.returned (.int .i64 (m.rL))/\Below w.heap.size w w':=by
 have q_ra:=h.cell 0 _ rfl
 have q_rf:=h.cell 1 _ rfl
 have q_rB:=h.cell 2 _ rfl
 have q_rC:=h.cell 3 _ rfl
 have q_rD:=h.cell 4 _ rfl
 have q_rE:=h.cell 5 _ rfl
 have q_rH:=h.cell 6 _ rfl
 have q_rL:=h.cell 7 _ rfl
 have q_sp:=h.cell 8 _ rfl
 have q_pc:=h.cell 9 _ rfl
 have q_ime:=h.cell 10 _ rfl
 have q_hal:=h.cell 11 _ rfl
 have hl:=h.lt
 clear h
 go_enter func51,ntmps51
 go_wp2
 go_ret
 exact ⟨rfl,by repeat (with_reducible first|exact zRf|refine zGr ?_ _|refine below_drewN ?_ _|refine Below.drew ?_)⟩
theorem reg_7 (g:SG) (m:M) (full:Bool) (w:World) (h:InS g w m full) :
  Calls prog 51 #[.pointer (some ⟨g.X,0,none⟩),.int .i64 7] w fun e w'=>e=.returned (.int .i64 (m.ra))/\Below w.heap.size w w':=by
 have q_ra:=h.cell 0 _ rfl
 have q_rf:=h.cell 1 _ rfl
 have q_rB:=h.cell 2 _ rfl
 have q_rC:=h.cell 3 _ rfl
 have q_rD:=h.cell 4 _ rfl
 have q_rE:=h.cell 5 _ rfl
 have q_rH:=h.cell 6 _ rfl
 have q_rL:=h.cell 7 _ rfl
 have q_sp:=h.cell 8 _ rfl
 have q_pc:=h.cell 9 _ rfl
 have q_ime:=h.cell 10 _ rfl
 have q_hal:=h.cell 11 _ rfl
 have hl:=h.lt
 clear h
 go_enter func51,ntmps51
 go_wp2
 go_ret
 exact ⟨rfl,by repeat (with_reducible first|exact zRf|refine zGr ?_ _|refine below_drewN ?_ _|refine Below.drew ?_)⟩
theorem reg_6 (g:SG) (m:M) (full:Bool) (w:World) (h:InS g w m full) (hg:Stpq.Good m) :
  Calls prog 51 #[.pointer (some ⟨g.X,0,none⟩),.int .i64 6] w fun e w'=>e=.returned (.int .i64 (rd m (hl m)))/\Below w.heap.size w w':=by
 have q_ra:=h.cell 0 _ rfl
 have q_rf:=h.cell 1 _ rfl
 have q_rB:=h.cell 2 _ rfl
 have q_rC:=h.cell 3 _ rfl
 have q_rD:=h.cell 4 _ rfl
 have q_rE:=h.cell 5 _ rfl
 have q_rH:=h.cell 6 _ rfl
 have q_rL:=h.cell 7 _ rfl
 have q_sp:=h.cell 8 _ rfl
 have q_pc:=h.cell 9 _ rfl
 have q_ime:=h.cell 10 _ rfl
 have q_hal:=h.cell 11 _ rfl
 have hlt:=h.lt
 obtain ⟨o,ho⟩ : ∃ o:Obj,o=.cells #[.int .i64 m.ra,.int .i64 m.rf,.int .i64 m.rB,.int .i64 m.rC,.int .i64 m.rD,.int .i64 m.rE,.int .i64 m.rH,.int .i64 m.rL,.int .i64 m.sp,.int .i64 m.pc,.bool m.ime,.bool m.hal] 25:=⟨_,rfl⟩
 have hIA:InS g (w.alloc o) m full:=h.below (zAl _ _)
 have HI:Hid (InS g (w.alloc o) m full):=hIA
 obtain ⟨po,cap,hA⟩:=hIA
 have hb:=hl_bd hg
 have c1:Rg 69 #[.pointer (some ⟨g.X,0,none⟩)] (w.alloc o) (.int .i64 (hl m)):=rg fun W hb=>hlS g m full W (HI.out.below hb) hg
 have c2:Rg 59 #[.agg (cellsM m po cap),.int .i64 (hl m)] (w.alloc o) (.int .i64 (rd m (hl m))):=rg fun W hb'=>l6Read_M m po cap (hl m) W hg.rt hb.1
 have hld:∀ d os,(loadVar 30 ⟨g.X,0,none⟩).run prog (Go.Sort.grow (redrawn (w.alloc o) d) os)=.ok (.agg (cellsM m po cap)) (Go.Sort.grow (redrawn (w.alloc o) d) os):=fun d os=>hA.load ((below_regrown (w.alloc o) d os).block _ hA.lt)
 have HBW:Hid (Below w.heap.size w (w.alloc o)):=zAl _ _
 generalize rd m (hl m)=r at *
 generalize hl m=a at *
 generalize cellsM m po cap=cM at *
 clear h hg hb hA
 go_enter func51,ntmps51
 go_upto_region 3 with fail
 rw [<- ho]
 clear ho
 refine wp_region_quiet_below (by kernel_rfl) (by kernel_rfl) ?_
 repeat (first|(go_big_quiet_step (first|with_reducible exact c1 _ _|with_reducible exact c2 _ _))|(refine wpQuiet_load (by rfl) 30 _ rfl ⟨g.X,0,none⟩ rfl _ (fun W hW=>by obtain ⟨⟨d,o⟩,rfl⟩:=hW;exact hld d o) ?_;simp only [Act.put,List.setIfInBounds_toArray,List.set_cons_succ,List.set_cons_zero]))
 refine wpQuiet_nil ?_
 intro _ hw'
 obtain ⟨⟨dq,osq⟩,hw''⟩:=hw'
 subst hw''
 have H2:Hid (InS g (Go.Sort.grow (redrawn (w.alloc o) dq) osq) m full):=HI.out.below (below_regrown (w.alloc o) dq osq)
 have hbg:Below (w.alloc o).heap.size (w.alloc o) (Go.Sort.grow (redrawn (w.alloc o) dq) osq):=below_regrown (w.alloc o) dq osq
 generalize Go.Sort.grow (redrawn (w.alloc o) dq) osq=W2 at *
 clear HI c1 c2 hld
 have HB2:Hid (Below w.heap.size w W2):=after HBW.out hbg
 clear hbg
 go_wp2
 go_ret
 exact ⟨rfl,HB2.out⟩
theorem regS (g:SG) (m:M) (full:Bool) (n:Int) (w:World) (h:InS g w m full) (hg:Stpq.Good m) (n0:0<=n) (n1:n<=7) :
  Calls prog 51 #[.pointer (some ⟨g.X,0,none⟩),.int .i64 n] w fun e w'=>e=.returned (.int .i64 (Stpp.get m n))/\Below w.heap.size w w':=by
 have hn:n=0 \/ n=1 \/ n=2 \/ n=3 \/ n=4 \/ n=5 \/ n=6 \/ n=7:=by omega
 rcases hn with rfl|rfl|rfl|rfl|rfl|rfl|rfl|rfl
 ·exact reg_0 g m full w h
 ·exact reg_1 g m full w h
 ·exact reg_2 g m full w h
 ·exact reg_3 g m full w h
 ·exact reg_4 g m full w h
 ·exact reg_5 g m full w h
 ·exact reg_6 g m full w h hg
 ·exact reg_7 g m full w h
theorem set_0 (g:SG) (m:M) (full:Bool) (v:Int) (w:World) (h:InS g w m full) :
  Calls prog 50 #[.pointer (some ⟨g.X,0,none⟩),.int .i64 0,.int .i64 v] w fun e w'=>e=.returned (.tuple #[])/\InS g w' { m with rB:=v } full:=by
 have q:=h.cell 2 _ rfl
 have f:=h.fro 2
 have HF:Hid (InS g (w.setCell ⟨g.X,2,none⟩ (.int .i64 v)) { m with rB:=v } full):=h.s_rB v
 clear h
 go_enter func50,ntmps50
 go_wp2
 go_end0
 exact ⟨rfl,HF.out⟩
theorem set_1 (g:SG) (m:M) (full:Bool) (v:Int) (w:World) (h:InS g w m full) :
  Calls prog 50 #[.pointer (some ⟨g.X,0,none⟩),.int .i64 1,.int .i64 v] w fun e w'=>e=.returned (.tuple #[])/\InS g w' { m with rC:=v } full:=by
 have q:=h.cell 3 _ rfl
 have f:=h.fro 3
 have HF:Hid (InS g (w.setCell ⟨g.X,3,none⟩ (.int .i64 v)) { m with rC:=v } full):=h.s_rC v
 clear h
 go_enter func50,ntmps50
 go_wp2
 go_end0
 exact ⟨rfl,HF.out⟩
theorem set_2 (g:SG) (m:M) (full:Bool) (v:Int) (w:World) (h:InS g w m full) :
  Calls prog 50 #[.pointer (some ⟨g.X,0,none⟩),.int .i64 2,.int .i64 v] w fun e w'=>e=.returned (.tuple #[])/\InS g w' { m with rD:=v } full:=by
 have q:=h.cell 4 _ rfl
 have f:=h.fro 4
 have HF:Hid (InS g (w.setCell ⟨g.X,4,none⟩ (.int .i64 v)) { m with rD:=v } full):=h.s_rD v
 clear h
 go_enter func50,ntmps50
 go_wp2
 go_end0
 exact ⟨rfl,HF.out⟩
theorem set_3 (g:SG) (m:M) (full:Bool) (v:Int) (w:World) (h:InS g w m full) :
  Calls prog 50 #[.pointer (some ⟨g.X,0,none⟩),.int .i64 3,.int .i64 v] w fun e w'=>e=.returned (.tuple #[])/\InS g w' { m with rE:=v } full:=by
 have q:=h.cell 5 _ rfl
 have f:=h.fro 5
 have HF:Hid (InS g (w.setCell ⟨g.X,5,none⟩ (.int .i64 v)) { m with rE:=v } full):=h.s_rE v
 clear h
 go_enter func50,ntmps50
 go_wp2
 go_end0
 exact ⟨rfl,HF.out⟩
theorem set_4 (g:SG) (m:M) (full:Bool) (v:Int) (w:World) (h:InS g w m full) :
  Calls prog 50 #[.pointer (some ⟨g.X,0,none⟩),.int .i64 4,.int .i64 v] w fun e w'=>e=.returned (.tuple #[])/\InS g w' { m with rH:=v } full:=by
 have q:=h.cell 6 _ rfl
 have f:=h.fro 6
 have HF:Hid (InS g (w.setCell ⟨g.X,6,none⟩ (.int .i64 v)) { m with rH:=v } full):=h.s_rH v
 clear h
 go_enter func50,ntmps50
 go_wp2
 go_end0
 exact ⟨rfl,HF.out⟩
theorem set_5 (g:SG) (m:M) (full:Bool) (v:Int) (w:World) (h:InS g w m full) :
  Calls prog 50 #[.pointer (some ⟨g.X,0,none⟩),.int .i64 5,.int .i64 v] w fun e w'=>e=.returned (.tuple #[])/\InS g w' { m with rL:=v } full:=by
 have q:=h.cell 7 _ rfl
 have f:=h.fro 7
 have HF:Hid (InS g (w.setCell ⟨g.X,7,none⟩ (.int .i64 v)) { m with rL:=v } full):=h.s_rL v
 clear h
 go_enter func50,ntmps50
 go_wp2
 go_end0
 exact ⟨rfl,HF.out⟩
theorem set_7 (g:SG) (m:M) (full:Bool) (v:Int) (w:World) (h:InS g w m full) :
  Calls prog 50 #[.pointer (some ⟨g.X,0,none⟩),.int .i64 7,.int .i64 v] w fun e w'=>e=.returned (.tuple #[])/\InS g w' { m with ra:=v } full:=by
 have q:=h.cell 0 _ rfl
 have f:=h.fro 0
 have HF:Hid (InS g (w.setCell ⟨g.X,0,none⟩ (.int .i64 v)) { m with ra:=v } full):=h.s_ra v
 clear h
 go_enter func50,ntmps50
 go_wp2
 go_end0
 exact ⟨rfl,HF.out⟩
theorem set_6 (g:SG) (m:M) (full:Bool) (v:Int) (w:World) (h:InS g w m full) (hg:Stpq.Good m) (v0:0<=v) (v1:v<=255) :
  Calls prog 50 #[.pointer (some ⟨g.X,0,none⟩),.int .i64 6,.int .i64 v] w fun e w'=>e=.returned (.tuple #[])/\InS g w' (wr ⟨m,full⟩ (hl m) v).m (wr ⟨m,full⟩ (hl m) v).full:=by
 have c1:=hlS g m full w h hg
 have HC:Hid (∀ W,InS g W m full->Calls prog 64 #[.pointer (some ⟨g.X,0,none⟩),.int .i64 (hl m),.int .i64 v] W fun e w'=>e=.returned (.tuple #[])/\InS g w' (wr ⟨m,full⟩ (hl m) v).m (wr ⟨m,full⟩ (hl m) v).full):=fun W hi=>writeS g m full _ _ W hi hg.rt (hl_bd hg).1 v0 v1
 have HI:Hid (InS g w m full):=h
 generalize wr ⟨m,full⟩ (hl m) v=t at *
 generalize hl m=a at *
 clear h hg v0 v1
 go_enter func50,ntmps50
 go_wp2_with fail
 refine Calls.mono c1 ?_
 rintro e w1 ⟨rfl,hb1⟩
 have H1:=zHd (HI.out.below hb1)
 clear hb1 HI c1
 go_wp2_with fail
 refine Calls.mono (HC.out _ H1.out) ?_
 rintro e w2 ⟨rfl,hi2⟩
 have H2:Hid (InS g w2 t.m t.full):=hi2
 clear hi2 H1 HC
 go_wp2
 go_end0
 exact ⟨rfl,H2.out⟩
theorem setS (g:SG) (m:M) (full:Bool) (n v:Int) (w:World) (h:InS g w m full) (hg:Stpq.Good m) (n0:0<=n) (n1:n<=7) (v0:0<=v) (v1:v<=255) :
  Calls prog 50 #[.pointer (some ⟨g.X,0,none⟩),.int .i64 n,.int .i64 v] w fun e w'=>e=.returned (.tuple #[])/\InS g w' (put ⟨m,full⟩ n v).m (put ⟨m,full⟩ n v).full:=by
 have hn:n=0 \/ n=1 \/ n=2 \/ n=3 \/ n=4 \/ n=5 \/ n=6 \/ n=7:=by omega
 rcases hn with rfl|rfl|rfl|rfl|rfl|rfl|rfl|rfl
 ·exact set_0 g m full v w h
 ·exact set_1 g m full v w h
 ·exact set_2 g m full v w h
 ·exact set_3 g m full v w h
 ·exact set_4 g m full v w h
 ·exact set_5 g m full v w h
 ·exact set_6 g m full v w h hg v0 v1
 ·exact set_7 g m full v w h
end Sta
namespace Stpt
open Signed (inB sgn)
open Reck ReckS ReckM ReckD TurnS
open Busw (M wrM Rt)
open Stpp
def cm (c:Int) (m:M):M:={ m with cyc:=c }
end Stpt
namespace CycO
open Signed (inB ret_int)
open CycD CycE CycS CycQ Cyc Leng Tmpl
theorem spec_top (code:Int) (t:Bool) (w:World) (y z:Int) (hx:code / 64=3) (hy:code / 8%8=y) (hz:code%8=z) (h0:0<=code) (h1:code<=255) (hl:Len code false) :
  Calls prog 54 #[.int .i64 code,.bool false,.bool t] w fun e w'=>e=.returned (.int .i64 (topC y z t))/\Below w.heap.size w w':=by
 have hh:¬ code=118:=by omega
 have q118:(code == 118)=false:=by simpa using hh
 have c:=fun w=>cycles_any y z t w (by omega) (by omega) (by omega) (by omega)
 generalize topC y z t=T at c |-
 go_enter func54,ntmps54
 go_wp2_with fail
 refine (hl _).mono ?_
 rintro e w1 ⟨⟨n,rfl,hn⟩,b1⟩
 have hn':(n == 0)=false:=by simpa using hn
 have B1:Hid (Below w.heap.size w w1):=b1
 clear b1 hl
 go_wp2_with fail
 simp only [hy,hz]
 refine (c _).mono ?_
 rintro e w2 ⟨rfl,b2⟩
 have B2:Hid (Below w.heap.size w w2):=B1.out.trans (b2.mono B1.out.size)
 clear b2 B1
 go_wp2
 go_ret
 exact ⟨rfl,B2.out⟩
theorem spec_any (code:Int) (cb t:Bool) (w:World) (h0:0<=code) (h1:code<=255) (hl:Len code cb) :
  Calls prog 54 #[.int .i64 code,.bool cb,.bool t] w fun e w'=>e=.returned (.int .i64 (cycV code cb t))/\Below w.heap.size w w':=by
 unfold cycV
 cases cb with
 | true =>
  rw [if_pos rfl]
  unfold prefC
  by_cases hz:code%8=6
  ·rw [if_pos hz]
   by_cases hx:code / 64=1
   ·rw [if_pos hx];exact spec_cb3 code t w hz hx h0 h1 hl
   ·rw [if_neg hx];exact spec_cb4 code t w hz hx h0 h1 hl
  ·rw [if_neg hz];exact spec_cb2 code t w hz h0 h1 hl
 | false =>
  rw [if_neg (by decide)]
  by_cases hx:code / 64=0
  ·rw [if_pos hx]
   have e:code / 8%8*8+code%8=code:=by omega
   have h:=spec_low (code / 8%8) (code%8) t w (by omega) (by omega) (by omega) (by omega) (by rw [e];exact hl)
   rw [e] at h
   exact h
  rw [if_neg hx]
  by_cases h3:code / 64=3
  ·rw [if_pos h3];exact spec_top code t w _ _ h3 rfl rfl h0 h1 hl
  rw [if_neg h3]
  by_cases h8:code=118
  ·rw [if_pos h8];exact spec_halt code t w h8 h0 h1 hl
  rw [if_neg h8]
  by_cases hz:code%8=6
  ·rw [if_pos hz]
   by_cases h2:code / 64=1
   ·exact spec_1z code t w h2 h8 hz h0 h1 hl
   ·exact spec_2z code t w (by omega) hz h0 h1 hl
  rw [if_neg hz]
  by_cases h2:code / 64=1
  ·by_cases hy:code / 8%8=6
   ·rw [if_pos ⟨h2,hy⟩];exact spec_1y code t w h2 h8 hy h0 h1 hl
   ·rw [if_neg (fun h=>hy h.2)];exact spec_1n code t w h2 hy hz h0 h1 hl
  ·rw [if_neg (fun h=>h2 h.1)];exact spec_2n code t w (by omega) hz h0 h1 hl
end CycO
namespace CycX
open Signed (inB)
def Sp (code:Int) (cb t:Bool) (v:Int):Prop:=∀ w,Calls prog 54 #[.int .i64 code,.bool cb,.bool t] w fun e w'=>e=.returned (.int .i64 v)/\Below w.heap.size w w'
theorem spec_none (code:Int) (cb t:Bool) (hl:∀ w,Calls prog 56 #[.int .i64 code,.bool cb] w fun e w'=>e=.returned (.int .i64 0)/\Below w.heap.size w w'):Sp code cb t 0:=fun w=>by
 go_enter func54,ntmps54
 go_wp2_with fail
 refine (hl _).mono ?_
 rintro e w1 ⟨rfl,b1⟩
 have B1:Hid (Below w.heap.size w w1):=b1
 clear b1 hl
 go_wp2
 go_ret
 exact ⟨rfl,B1.out⟩
def cyc (code:Int) (cb t:Bool):Int:=if LenX.none? code cb=true then 0 else CycQ.cycV code cb t
theorem sp (code:Int) (cb t:Bool):Sp code cb t (cyc code cb t):=by
 cases hb:inB code 0 255
 ·have hn:LenX.none? code cb=true:=by unfold LenX.none?;rw [hb];rfl
  have hc:cyc code cb t=0:=by unfold cyc;rw [if_pos hn]
  rw [hc]
  refine spec_none code cb t (fun w=>(Leng.lengthOf_out code cb w hb).mono ?_)
  rintro e w' ⟨he,hw⟩
  exact ⟨he,by rw [hw];exact zRf⟩
 obtain ⟨h0,h1⟩:=of_decide_eq_true hb
 by_cases hz:(Tmpl.tmplS code cb).size=0
 ·have hn:LenX.none? code cb=true:=by unfold LenX.none?;rw [hz];simp
  have hc:cyc code cb t=0:=by unfold cyc;rw [if_pos hn]
  rw [hc]
  refine spec_none code cb t (fun w=>(Leng.lengthOf_any code cb w h0 h1).mono ?_)
  rintro e w' ⟨⟨n,rfl,hn,_⟩,hw⟩
  exact ⟨by rw [hn.2 hz],hw⟩
 ·have hn:LenX.none? code cb=false:=by unfold LenX.none?;rw [hb];simp [hz]
  have hc:cyc code cb t=CycQ.cycV code cb t:=by unfold cyc;rw [hn];rfl
  rw [hc]
  refine fun w=>CycO.spec_any code cb t w h0 h1 (fun w=>(Leng.lengthOf_any code cb w h0 h1).mono ?_)
  rintro e w' ⟨⟨n,rfl,hn,_⟩,hw⟩
  exact ⟨⟨n,rfl,fun h=>hz (hn.1 h)⟩,hw⟩
theorem range_all:∀ (c:Fin 256) (b t:Bool),LenX.none? (c.val:Int) b=false->0<CycQ.cycV (c.val:Int) b t/\CycQ.cycV (c.val:Int) b t<7/\CycQ.cycV (c.val:Int) b false<=CycQ.cycV (c.val:Int) b true:=by decide +kernel
theorem range (code:Int) (cb t:Bool) (h0:0<=code) (h1:code<=255) (h:LenX.none? code cb=false):0<cyc code cb t/\cyc code cb t<7/\cyc code cb false<=cyc code cb true:=by
 have:=range_all ⟨code.toNat,by omega⟩ cb t
 rw [show ((⟨code.toNat,by omega⟩ : Fin 256).val:Int)=code by show ((code.toNat:Nat):Int)=code;omega] at this
 unfold cyc
 rw [h]
 exact this h
end CycX
namespace Busl
open Go.Deep
open Carts CartK CartL Outs MachT Busw Busx Busy
theorem own_stay {u W:World} {base n:Nat} {v:Value} {xs:List Value} (h:u.ownsRow base 2 1 v n xs) (hb:Below u.heap.size u W):W.ownsRow base 2 1 v n xs:=by
 rcases h with ⟨h1,h2|⟨g,c,cur,hv,hb',hg,r⟩⟩
 ·exact ⟨h1,.inl h2⟩
 ·exact ⟨h1,.inr ⟨g,c,cur,hv,hb',(hb.block g (zLo hg)).trans hg,r⟩⟩
end Busl
end Go.Proofs.Ytfpecdgcapfgfaa
