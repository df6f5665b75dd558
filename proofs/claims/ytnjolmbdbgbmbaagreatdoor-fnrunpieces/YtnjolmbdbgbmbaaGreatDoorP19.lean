import Derived.Test.YtnjolmbdbgbmbaaGreatDoorP18
set_option linter.all false
set_option maxRecDepth 20000
set_option maxHeartbeats 8000000
open Go.ChangeShapes Go.WideShapes Go.ChangeAt Go.RowKit
open Go.Proofs.Tryz
namespace Go.Proofs.YtnjolmbdbgbmbaaGreatDoor
namespace Stps
open Go.Deep
open Signed (inB sgn ret_int ret_bool)
open Busw Busx Busy Stpp
structure SG where
 (W0:World)
 (X:Nat)
@[irreducible] def cellsW (m:M) (po:Option Addr) (cap:Nat) (full:Bool):Array Value:=(cellsM m po cap).push (.bool full)
theorem cellsW_def (m:M) (po:Option Addr) (cap:Nat) (full:Bool):cellsW m po cap full=#[.int .i64 m.ra,.int .i64 m.rf,.int .i64 m.rB,.int .i64 m.rC,.int .i64 m.rD,.int .i64 m.rE,.int .i64 m.rH,.int .i64 m.rL,.int .i64 m.sp,.int .i64 m.pc,.bool m.ime,.bool m.hal,.string m.rom,.int .i64 m.kind,.int .i64 m.bank,.string m.ram,.int .i64 m.rb,.bool m.on,.int .i64 m.mode,.string m.work,.string m.high,.slice po m.out.length cap,.int .i64 m.cyc,.bool full]:=by unfold cellsW;rw [cells_def];rfl
theorem cellsW_low {m:M} {po:Option Addr} {cap:Nat} {full:Bool} {j:Nat} {v:Value} (h:(cellsM m po cap).toList[j]? = some v):(cellsW m po cap full)[j]? = some v:=by
 unfold cellsW
 have hj:j<(cellsM m po cap).size:=by
  rcases Nat.lt_or_ge j (cellsM m po cap).toList.length with h1|h1
  ·simpa using h1
  ·rw [List.getElem?_eq_none h1] at h;cases h
 rw [Array.getElem?_push,if_neg (by omega)]
 simpa using h
structure SAt (g:SG) (W:World) (m:M) (full:Bool) (po:Option Addr) (cap:Nat):Prop where
 box:W.heap[g.X]? = some (.cells (cellsW m po cap full) 109 (0,0))
 sl:Sl W po m.out cap
 ne:∀ p,po=some p->p.block ≠ g.X
 grown:g.W0.grownBy W (some g.X)
def InS (g:SG) (W:World) (m:M) (full:Bool):Prop:=∃ po cap,SAt g W m full po cap
theorem run_loadVar_part {P:Program} (w:World) (b:Nat) (t ty:TypeId) (cs cs':Array Value) (fr:Nat × Nat) (d:TypeDesc) (hg:w.heap[b]? = some (.cells cs' t fr)) (hp:∀ (j:Nat) (v:Value),cs.toList[j]? = some v->cs'[j]? = some v)
  (hu:P.underlying ty=some d) (hd:(match d with|.struct _|.array _ _=>true|_=>false)=true) (hi:(P.info? ty).map (·.size)=some cs.size) :
  (loadVar ty ⟨b,0,none⟩).run P w=.ok (.agg cs) w:=by
 have hl:(loadCells ⟨b,0,none⟩ cs.toList.length).run P w=.ok cs.toList.toArray w :=
  run_loadCells_list (P:=P) w ⟨b,0,none⟩ cs.toList (fun j v hv=>by
   have hadd:(⟨b,0,none⟩ : Addr).add j=⟨b,j,none⟩:=by unfold Addr.add;split <;> simp_all
   rw [hadd,cell_of_row w b j cs' t fr hg]
   exact hp j v hv)
 cases hq:P.info? ty with
 | none=>simp [hq] at hi
 | some i =>
  have hs:i.size=cs.size:=by simpa [hq] using hi
  have hagg:(isAgg ty).run P w=.ok true w:=by
   unfold isAgg
   rw [Sem.run_bind,run_underlying hu w]
   cases d <;> simp_all
  simp only [Array.length_toList,Array.toArray_toList] at hl
  simp [loadVar,Sem.run_bind,hagg,sizeOf,typeInfo,hq,hs,hl]
theorem wpList_load_any {P:Program} {ops:Array Oper} {rest:List Oper} {o:Oper} {a:Act} {w:World} {Q:Exit->Act->World->Prop} (hgd:o.guard=none) (ty:TypeId) (x:Operand) (ho:o.op=.load ty x)
  (p:Addr) (hx:a.eval x=.pointer (some p)) (v:Value) (hl:(loadVar ty p).run P w=.ok v w) (h:wpList P ops Q rest (a.put o.dst v) w):wpList P ops Q (o :: rest) a w :=
 wpList_plain hgd fun K hK=>by
  unfold Oper.wp execOp
  simp only [ho,hx,Instr.loadAt,Instr.sureAddr,Sem.run_bind,Sem.run_pure,Result.andThen_ok,hl]
  exact hK _ _ h
theorem wpQuiet_load {P:Program} {ops:Array Oper} {rest:List Oper} {o:Oper} {a:Act} {C:World->Prop} {Q:Act->Prop} (hgd:Region.wanted o (yielded ops a.tmps)=true) (ty:TypeId) (x:Operand) (ho:o.op=.load ty x)
  (p:Addr) (hx:a.eval x=.pointer (some p)) (v:Value) (hl:∀ w,C w->(loadVar ty p).run P w=.ok v w) (h:wpQuiet P ops C Q rest (a.put o.dst v)):wpQuiet P ops C Q (o :: rest) a :=
 wpQuiet_step fun K hK=>by
  rw [if_pos hgd]
  refine ⟨v,fun w hw=>?_,hK _ h⟩
  unfold Oper.quietAt execOp
  simp only [ho,hx,Instr.loadAt,Instr.sureAddr,Sem.run_bind,Sem.run_pure,Result.andThen_ok,hl w hw]
  exact ⟨rfl,rfl⟩
theorem run_storeVar_part {P:Program} (w:World) (b:Nat) (t ty:TypeId) (old cells:Array Value) (hg:w.heap[b]? = some (.cells old t (0,0))) (hi:(P.info? ty).map (·.size)=some cells.size)
  (ho:cells.size<=old.size) (h1:cells.all (·.oneCell')=true) :
  (storeVar ty ⟨b,0,none⟩ (.agg cells)).run P w=.ok () (w.setRow b (cells.toList ++ old.toList.drop cells.size).toArray):=by
 have:=run_storeCells_at P b 0 t cells.toList 0 old w hg (by simpa using ho) (fun v hv=>(Array.all_eq_true_iff_forall_mem.1 h1) v (by simpa using hv))
 cases hq:P.info? ty with
 | none=>simp [hq] at hi
 | some i =>
  have hs:cells.size=i.size:=by simp [hq] at hi;omega
  simp [storeVar,sizeOf,typeInfo,hq,Value.cells,hs] at this |-
  rw [<- hs] at this |-
  simpa using this
theorem wpList_store_part {P:Program} {ops:Array Oper} {rest:List Oper} {o:Oper} {a:Act} {w:World} {Q:Exit->Act->World->Prop} (hgd:o.guard=none) (ty:TypeId) (x y:Operand) (ho:o.op=.store ty x y)
  (b:Nat) (cells:Array Value) (hx:a.eval x=.pointer (some ⟨b,0,none⟩)) (hy:a.eval y=.agg cells) (t:TypeId) (old:Array Value) (hg:w.heap[b]? = some (.cells old t (0,0))) (hi:(P.info? ty).map (·.size)=some cells.size)
  (hold:cells.size<=old.size) (h1:cells.all (·.oneCell')=true)
  (h:wpList P ops Q rest (a.put o.dst undef) (w.setRow b (cells.toList ++ old.toList.drop cells.size).toArray)):wpList P ops Q (o :: rest) a w :=
 wpList_plain hgd fun K hK=>by
  unfold Oper.wp execOp
  simp only [ho,hx,hy,Instr.storeAt,Instr.sureAddr,Sem.run_bind,Sem.run_pure,Result.andThen_ok,run_storeVar_part w b t ty old cells hg hi hold h1]
  exact hK _ _ h
theorem part_W (m m':M) (po po':Option Addr) (cap cap':Nat) (full:Bool):((cellsM m' po' cap').toList ++ (cellsW m po cap full).toList.drop (cellsM m' po' cap').size).toArray=cellsW m' po' cap' full:=by
 rw [size_M,cellsW_def,cellsW_def,cells_def];rfl
theorem size_W (m:M) (po:Option Addr) (cap:Nat) (full:Bool):(cellsW m po cap full).size=24:=by rw [cellsW_def];rfl
theorem SAt.load {g:SG} {W W':World} {m:M} {full:Bool} {po:Option Addr} {cap:Nat} (h:SAt g W m full po cap) (hb:W'.heap[g.X]? = W.heap[g.X]?):(loadVar 33 ⟨g.X,0,none⟩).run prog W'=.ok (.agg (cellsM m po cap)) W' :=
 run_loadVar_part W' g.X _ _ _ _ (0,0) _ (hb.trans h.box) (fun j v hv=>cellsW_low hv) underlying33 rfl (infoMs m po cap)
theorem SAt.lt {g:SG} {W:World} {m:M} {full:Bool} {po:Option Addr} {cap:Nat} (h:SAt g W m full po cap):g.X<W.heap.size:=(zLo h.box)
theorem sl_grown {W W':World} {po:Option Addr} {L:List Int} {cap X:Nat} (h:Sl W po L cap) (hne:∀ p,po=some p->p.block ≠ X) (hg:W.grownBy W' (some X)):Sl W' po L cap:=by
 rcases h with h|⟨b,off,rfl,hc⟩
 ·exact .inl h
 ·exact .inr ⟨b,off,rfl,fun i hi=>⟨Nat.lt_of_lt_of_le (hc i hi).1 hg.size,(World.cell?_of_block (a:=⟨b,off+i,none⟩) (hg.block b (hc i hi).1 (fun e=>hne _ rfl (Option.some.inj e)))).trans (hc i hi).2⟩⟩
theorem grown_trans {w w1 w2:World} {X:Nat} (h:w.grownBy w1 (some X)) (h2:w1.grownBy w2 (some X)):w.grownBy w2 (some X) :=
 ⟨h2.os.trans h.os,h2.tape.trans h.tape,h2.output.trans h.output,Nat.le_trans h.size h2.size,fun k hk hne=>(h2.block k (Nat.lt_of_lt_of_le hk h.size) hne).trans (h.block k hk hne)⟩
theorem below_grown {w w':World} {X:Nat} (h:Below w.heap.size w w'):w.grownBy w' (some X):=⟨h.os,h.tape,h.output,h.size,fun k hk _=>h.block k hk⟩
theorem InS.below {g:SG} {W W':World} {m:M} {full:Bool} (h:InS g W m full) (hb:Below W.heap.size W W'):InS g W' m full:=by
 obtain ⟨po,cap,h⟩:=h
 exact ⟨po,cap,(hb.block _ h.lt).trans h.box,h.sl.below hb,h.ne,grown_trans h.grown (below_grown hb)⟩
theorem InS.lt {g:SG} {W:World} {m:M} {full:Bool} (h:InS g W m full):g.X<W.heap.size:=by obtain ⟨po,cap,h⟩:=h;exact h.lt
theorem InS.fro {g:SG} {W:World} {m:M} {full:Bool} (h:InS g W m full) (i:Nat):W.frozen? ⟨g.X,i,none⟩=false:=by
 obtain ⟨po,cap,h⟩:=h
 exact frozen_of_row _ _ _ _ _ h.box
theorem InS.cell {g:SG} {W:World} {m:M} {full:Bool} (h:InS g W m full) (i:Nat) (v:Value) (hv:(#[.int .i64 m.ra,.int .i64 m.rf,.int .i64 m.rB,.int .i64 m.rC,.int .i64 m.rD,.int .i64 m.rE,.int .i64 m.rH,.int .i64 m.rL,.int .i64 m.sp,.int .i64 m.pc,.bool m.ime,.bool m.hal]:Array Value)[i]? = some v):W.cell? ⟨g.X,i,none⟩=some v:=by
 obtain ⟨po,cap,h⟩:=h
 rw [cell_of_row W g.X i _ _ _ h.box,cellsW_def]
 match i,hv with
 | 0,hv=>exact hv
 | 1,hv=>exact hv
 | 2,hv=>exact hv
 | 3,hv=>exact hv
 | 4,hv=>exact hv
 | 5,hv=>exact hv
 | 6,hv=>exact hv
 | 7,hv=>exact hv
 | 8,hv=>exact hv
 | 9,hv=>exact hv
 | 10,hv=>exact hv
 | 11,hv=>exact hv
 | i+12,hv=>simp at hv
theorem InS.cellFull {g:SG} {W:World} {m:M} {full:Bool} (h:InS g W m full):W.cell? ⟨g.X,23,none⟩=some (.bool full):=by
 obtain ⟨po,cap,h⟩:=h
 rw [cell_of_row W g.X 23 _ _ _ h.box,cellsW_def];rfl
theorem InS.cellCyc {g:SG} {W:World} {m:M} {full:Bool} (h:InS g W m full):W.cell? ⟨g.X,22,none⟩=some (.int .i64 m.cyc):=by
 obtain ⟨po,cap,h⟩:=h
 rw [cell_of_row W g.X 22 _ _ _ h.box,cellsW_def];rfl
theorem set_grown1 (w:World) (B i:Nat) (v:Value):w.grownBy (w.setCell ⟨B,i,none⟩ v) (some B) :=
 ⟨rfl,rfl,rfl,by rw [Busw.size_set];exact Nat.le_refl _,fun k _ hk=>Below.heap_setCell _ _ _ _ (fun e=>hk (by rw [e]))⟩
theorem InS.setX {g:SG} {W:World} {m m':M} {full full':Bool} (i:Nat) (v:Value) (h:InS g W m full) (ho:m'.out=m.out) (hbox:∀ po cap,W.heap[g.X]? = some (.cells (cellsW m po cap full) 109 (0,0))->(W.setCell ⟨g.X,i,none⟩ v).heap[g.X]? = some (.cells (cellsW m' po cap full') 109 (0,0))) :
  InS g (W.setCell ⟨g.X,i,none⟩ v) m' full':=by
 obtain ⟨po,cap,h⟩:=h
 have hg:=set_grown1 W g.X i v
 exact ⟨po,cap,hbox po cap h.box,by rw [ho];exact sl_grown h.sl h.ne hg,h.ne,grown_trans h.grown hg⟩
theorem InS.setFull {g:SG} {W:World} {m:M} {full:Bool} (h:InS g W m full) (b:Bool):InS g (W.setCell ⟨g.X,23,none⟩ (.bool b)) m b :=
 h.setX 23 _ rfl (fun po cap hb=>by rw [cellsW_def] at hb |-;exact (heap_setCell_same _ _ _ _ _ _ hb).trans rfl)
theorem InS.s_cyc {g:SG} {W:World} {m:M} {full:Bool} (h:InS g W m full) (v:Int):InS g (W.setCell ⟨g.X,22,none⟩ (.int .i64 v)) { m with cyc:=v } full :=
 h.setX 22 _ rfl (fun po cap hb=>by rw [cellsW_def] at hb |-;exact (heap_setCell_same _ _ _ _ _ _ hb).trans rfl)
theorem InS.s_ra {g:SG} {W:World} {m:M} {full:Bool} (h:InS g W m full) (v:Int):InS g (W.setCell ⟨g.X,0,none⟩ (.int .i64 v)) { m with ra:=v } full :=
 h.setX 0 _ rfl (fun po cap hb=>by rw [cellsW_def] at hb |-;exact (heap_setCell_same _ _ _ _ _ _ hb).trans rfl)
theorem InS.s_rf {g:SG} {W:World} {m:M} {full:Bool} (h:InS g W m full) (v:Int):InS g (W.setCell ⟨g.X,1,none⟩ (.int .i64 v)) { m with rf:=v } full :=
 h.setX 1 _ rfl (fun po cap hb=>by rw [cellsW_def] at hb |-;exact (heap_setCell_same _ _ _ _ _ _ hb).trans rfl)
theorem InS.s_rB {g:SG} {W:World} {m:M} {full:Bool} (h:InS g W m full) (v:Int):InS g (W.setCell ⟨g.X,2,none⟩ (.int .i64 v)) { m with rB:=v } full :=
 h.setX 2 _ rfl (fun po cap hb=>by rw [cellsW_def] at hb |-;exact (heap_setCell_same _ _ _ _ _ _ hb).trans rfl)
theorem InS.s_rC {g:SG} {W:World} {m:M} {full:Bool} (h:InS g W m full) (v:Int):InS g (W.setCell ⟨g.X,3,none⟩ (.int .i64 v)) { m with rC:=v } full :=
 h.setX 3 _ rfl (fun po cap hb=>by rw [cellsW_def] at hb |-;exact (heap_setCell_same _ _ _ _ _ _ hb).trans rfl)
theorem InS.s_rD {g:SG} {W:World} {m:M} {full:Bool} (h:InS g W m full) (v:Int):InS g (W.setCell ⟨g.X,4,none⟩ (.int .i64 v)) { m with rD:=v } full :=
 h.setX 4 _ rfl (fun po cap hb=>by rw [cellsW_def] at hb |-;exact (heap_setCell_same _ _ _ _ _ _ hb).trans rfl)
theorem InS.s_rE {g:SG} {W:World} {m:M} {full:Bool} (h:InS g W m full) (v:Int):InS g (W.setCell ⟨g.X,5,none⟩ (.int .i64 v)) { m with rE:=v } full :=
 h.setX 5 _ rfl (fun po cap hb=>by rw [cellsW_def] at hb |-;exact (heap_setCell_same _ _ _ _ _ _ hb).trans rfl)
theorem InS.s_rH {g:SG} {W:World} {m:M} {full:Bool} (h:InS g W m full) (v:Int):InS g (W.setCell ⟨g.X,6,none⟩ (.int .i64 v)) { m with rH:=v } full :=
 h.setX 6 _ rfl (fun po cap hb=>by rw [cellsW_def] at hb |-;exact (heap_setCell_same _ _ _ _ _ _ hb).trans rfl)
theorem InS.s_rL {g:SG} {W:World} {m:M} {full:Bool} (h:InS g W m full) (v:Int):InS g (W.setCell ⟨g.X,7,none⟩ (.int .i64 v)) { m with rL:=v } full :=
 h.setX 7 _ rfl (fun po cap hb=>by rw [cellsW_def] at hb |-;exact (heap_setCell_same _ _ _ _ _ _ hb).trans rfl)
theorem InS.s_sp {g:SG} {W:World} {m:M} {full:Bool} (h:InS g W m full) (v:Int):InS g (W.setCell ⟨g.X,8,none⟩ (.int .i64 v)) { m with sp:=v } full :=
 h.setX 8 _ rfl (fun po cap hb=>by rw [cellsW_def] at hb |-;exact (heap_setCell_same _ _ _ _ _ _ hb).trans rfl)
theorem InS.s_pc {g:SG} {W:World} {m:M} {full:Bool} (h:InS g W m full) (v:Int):InS g (W.setCell ⟨g.X,9,none⟩ (.int .i64 v)) { m with pc:=v } full :=
 h.setX 9 _ rfl (fun po cap hb=>by rw [cellsW_def] at hb |-;exact (heap_setCell_same _ _ _ _ _ _ hb).trans rfl)
theorem InS.s_ime {g:SG} {W:World} {m:M} {full:Bool} (h:InS g W m full) (v:Bool):InS g (W.setCell ⟨g.X,10,none⟩ (.bool v)) { m with ime:=v } full :=
 h.setX 10 _ rfl (fun po cap hb=>by rw [cellsW_def] at hb |-;exact (heap_setCell_same _ _ _ _ _ _ hb).trans rfl)
theorem InS.s_hal {g:SG} {W:World} {m:M} {full:Bool} (h:InS g W m full) (v:Bool):InS g (W.setCell ⟨g.X,11,none⟩ (.bool v)) { m with hal:=v } full :=
 h.setX 11 _ rfl (fun po cap hb=>by rw [cellsW_def] at hb |-;exact (heap_setCell_same _ _ _ _ _ _ hb).trans rfl)
theorem l6Read_M (m:M) (po:Option Addr) (cap:Nat) (addr:Int) (w:World) (hr:Rt m) (a0:0<=addr):Calls prog 117 #[.agg (cellsM m po cap),.int .i64 addr] w fun e w'=>e=.returned (.int .i64 (rd m addr))/\Below w.heap.size w w':=by
 rw [cells_def]
 exact MachB.l6Read_any m.ra m.rf m.rB m.rC m.rD m.rE m.rH m.rL m.sp m.pc m.ime m.hal m.rom m.kind m.bank m.ram m.rb m.on m.mode m.work m.high po m.out cap m.cyc addr w hr.rom hr.cart hr.work hr.high a0
end Stps
namespace Stpt
open Signed (inB sgn)
open Reck ReckS ReckM ReckD TurnS
open Busw (M wrM Rt)
open Stpp
def cm (c:Int) (m:M):M:={ m with cyc:=c }
def cy (c:Int) (s:S):S:=⟨cm c s.m,s.full⟩
theorem wrM_cm (c:Int) (m:M) (a v:Int):wrM (cm c m) a v=(wrM m a v).map (cm c):=by
 unfold wrM
 by_cases h1:inB a 49152 49407=true
 ·rw [if_pos h1,if_pos h1];rfl
 rw [if_neg h1,if_neg h1]
 by_cases h2:inB a 65408 65534=true
 ·rw [if_pos h2,if_pos h2];rfl
 rw [if_neg h2,if_neg h2]
 by_cases h3:a=65281
 ·rw [if_pos h3,if_pos h3]
  by_cases h4:100<=m.out.length
  ·have h5:100<=(cm c m).out.length:=h4
   rw [if_pos h4,if_pos h5];rfl
  ·have h5:¬ 100<=(cm c m).out.length:=h4
   rw [if_neg h4,if_neg h5];rfl
 ·rw [if_neg h3,if_neg h3];rfl
theorem wr_cy (c:Int) (s:S) (a v:Int):wr (cy c s) a v=cy c (wr s a v):=by
 unfold wr
 have h:=wrM_cm c s.m (a%65536) v
 rw [show (cy c s).m=cm c s.m from rfl,h]
 cases wrM s.m (a%65536) v <;> rfl
theorem setR_cm (c:Int) (m:M) (n v:Int):setR (cm c m) n v=cm c (setR m n v):=by
 unfold setR
 repeat' split
 all_goals rfl
theorem setP_cm (c:Int) (m:M) (n v:Int):setP (cm c m) n v=cm c (setP m n v):=by
 unfold setP
 repeat' split
 all_goals rfl
theorem setQ_cm (c:Int) (m:M) (n v:Int):setQ (cm c m) n v=cm c (setQ m n v):=by
 unfold setQ
 split
 ·rfl
 ·exact setP_cm c m n v
theorem put_cy (c:Int) (s:S) (n v:Int):put (cy c s) n v=cy c (put s n v):=by
 unfold put
 split
 ·exact wr_cy c s _ v
 ·show (⟨setR (cm c s.m) n v,s.full⟩ : S)=_
  rw [setR_cm];rfl
theorem push_cy (c:Int) (s:S) (v:Int):push (cy c s) v=cy c (push s v):=by
 unfold push
 rw [show (cy c s).m.sp=s.m.sp from rfl,wr_cy,wr_cy]
 rfl
theorem call_cy (c:Int) (s:S) (v:Int):callE v (cy c s)=cy c (callE v s):=by
 unfold callE
 rw [show (cy c s).m.pc=s.m.pc from rfl,push_cy]
 rfl
theorem cb_cy (c:Int) (code:Int) (s:S):cbE code (cy c s)=cy c (cbE code s):=by
 unfold cbE
 repeat' split
 ·rw [put_cy];rfl
 ·rfl
 ·exact put_cy c s _ _
 ·exact put_cy c s _ _
theorem odd_cy (c:Int) (y:Int) (s:S):oddE y (cy c s)=cy c (oddE y s):=by
 unfold oddE
 repeat' split
 all_goals rfl
theorem stepHl_cm (c:Int) (m:M) (p:Int):stepHl (cm c m) p=cm c (stepHl m p):=by
 unfold stepHl
 split
 ·exact setP_cm c m _ _
 ·rfl
def cp (c:Int) (r:S × Bool):S × Bool:=(cy c r.1,r.2)
theorem ite_cp {p:Prop} [Decidable p] {c:Int} {a b x y:S × Bool} (h1:a=cp c x) (h2:b=cp c y):(if p then a else b)=cp c (if p then x else y):=by
 split
 ·exact h1
 ·exact h2
theorem pair_cp {c:Int} {a x:S} {b:Bool} (h:a=cy c x):(a,b)=cp c (x,b):=by rw [h];rfl
theorem low_cy (c:Int) (code imm:Int) (s:S):lowE code imm (cy c s)=cp c (lowE code imm s):=by
 unfold lowE
 refine ite_cp (ite_cp (pair_cp ?_) (ite_cp (pair_cp rfl) (pair_cp rfl))) (ite_cp (ite_cp (pair_cp ?_) (pair_cp ?_)) (ite_cp (ite_cp (pair_cp ?_) (pair_cp ?_)) (ite_cp (pair_cp ?_) (ite_cp (pair_cp ?_) (ite_cp (pair_cp ?_) (ite_cp (pair_cp ?_) (pair_cp ?_)))))))
 ·unfold spE
  rw [show (cy c s).m.sp=s.m.sp from rfl,wr_cy,wr_cy]
 ·show (⟨setP (cm c s.m) _ _,s.full⟩ : S)=_
  rw [setP_cm];rfl
 ·unfold addE
  show (⟨{ setP (cm c s.m) 2 _ with rf:=_ },s.full⟩ : S)=_
  rw [setP_cm];rfl
 ·unfold stE
  rw [show placeOf (cy c s).m (code / 8 / 2)=placeOf s.m (code / 8 / 2) from rfl,show (cy c s).m.ra=s.m.ra from rfl,wr_cy]
  show (⟨stepHl (cm c (wr s _ _).m) _,(wr s _ _).full⟩ : S)=_
  rw [stepHl_cm];rfl
 ·unfold ldE
  show (⟨stepHl (cm c { s.m with ra:=_ }) _,s.full⟩ : S)=_
  rw [stepHl_cm];rfl
 ·show (⟨setP (cm c s.m) _ _,s.full⟩ : S)=_
  rw [setP_cm];rfl
 ·rw [put_cy];rfl
 ·rw [put_cy];rfl
 ·exact put_cy c s _ _
 ·exact odd_cy c _ s
theorem top_cy (c:Int) (code imm:Int) (s:S):topE code imm (cy c s)=cp c (topE code imm s):=by
 unfold topE
 refine ite_cp (pair_cp rfl) (ite_cp (pair_cp (wr_cy c s _ _)) (ite_cp (pair_cp (wr_cy c s _ _)) (ite_cp (pair_cp rfl) (ite_cp (pair_cp rfl) (ite_cp (pair_cp (wr_cy c s _ _)) (ite_cp (pair_cp rfl) (ite_cp (pair_cp rfl) (ite_cp (pair_cp ?_) (ite_cp (pair_cp rfl) (ite_cp (pair_cp rfl) (ite_cp (pair_cp ?_) (ite_cp (pair_cp (push_cy c s _)) (ite_cp (pair_cp rfl) (ite_cp (pair_cp rfl) (ite_cp (pair_cp (call_cy c s _)) (ite_cp (pair_cp rfl) (ite_cp (pair_cp (call_cy c s _)) (pair_cp rfl))))))))))))))))))
 ·show (⟨{ setP (cm c s.m) 2 _ with rf:=_ },s.full⟩ : S)=_
  rw [setP_cm];rfl
 ·show (⟨setQ (cm c (popM s.m)) _ _,s.full⟩ : S)=_
  rw [setQ_cm];rfl
theorem sem_cy (c:Int) (code:Int) (cb:Bool) (imm:Int) (s:S):sem code cb imm (cy c s)=cp c (sem code cb imm s):=by
 unfold sem
 exact ite_cp (pair_cp (cb_cy c code s)) (ite_cp (low_cy c code imm s) (ite_cp (pair_cp rfl) (ite_cp (pair_cp (put_cy c s _ _)) (ite_cp (pair_cp rfl) (top_cy c code imm s)))))
end Stpt
namespace Stpi
open Go.Deep
open Signed (inB sgn ret_int ret_bool)
open Busw Busx Stpp
def stacks:List ByteArray:=[⟨#[98,99]⟩,⟨#[100,101]⟩,⟨#[104,108]⟩,⟨#[97,102]⟩]
def bitTs:List ByteArray:=[⟨#[]⟩,⟨#[98,105,116]⟩,⟨#[114,101,115]⟩,⟨#[115,101,116]⟩]
def TRow (w:World) (g:Nat) (l:List ByteArray):Prop:=∀ i,i<l.length->w.cell? ⟨g,i,none⟩=some (.string (l.getD i ⟨#[]⟩))
structure Tb (w:World):Prop where
 stack:TRow w 0 stacks
 bit:TRow w 1 bitTs
theorem TRow.lt {w:World} {g:Nat} {l:List ByteArray} (h:TRow w g l) (hl:0<l.length):g<w.heap.size:=World.block_lt_of_cell? w ⟨g,0,none⟩ (h 0 hl)
theorem TRow.of {w w':World} {g:Nat} {l:List ByteArray} (h:TRow w g l) (b:w'.heap[g]? = w.heap[g]?):TRow w' g l:=fun i hi=>(World.cell?_of_block (a:=⟨g,i,none⟩) b).trans (h i hi)
theorem Tb.of {w w':World} (h:Tb w) (b:∀ k,k=0 \/ k=1->w'.heap[k]? = w.heap[k]?):Tb w':=⟨h.stack.of (b _ (.inl rfl)),h.bit.of (b _ (.inr rfl))⟩
theorem Tb.below {w w':World} (h:Tb w) (b:Below w.heap.size w w'):Tb w':=⟨h.stack.of (b.block _ (h.stack.lt (by decide))),h.bit.of (b.block _ (h.bit.lt (by decide)))⟩
structure G where
 (W0:World)
 (K B base:Nat)
 (code:Int)
 (cb:Bool)
 (imm x y z p q:Int)
 (po0:Option Addr)
 (n0 cap0:Nat)
 (L0:List Int)
def kc (g:G) (full:Bool):Array Value:=#[.pointer (some ⟨g.B,0,none⟩),.pointer (some ⟨g.B,0,none⟩),.int .i64 g.code,.bool g.cb,.int .i64 g.imm,.int .i64 g.x,.int .i64 g.y,.int .i64 g.z,.int .i64 g.p,.int .i64 g.q,.bool full]
structure At (g:G) (W:World) (m:M) (full:Bool) (po:Option Addr) (cap:Nat):Prop where
 held:Held W g.B g.base m po cap
 k:W.heap[g.K]? = some (.cells (kc g full) 120 (0,0))
 old:W.ownsRow g.base 2 1 (.slice g.po0 g.n0 g.cap0) g.n0 (outC g.L0)
 len:blk g.po0=blk po->g.n0<=m.out.length
 os:W.os=g.W0.os
 tape:W.tape=g.W0.tape
 output:W.output=g.W0.output
 size:g.W0.heap.size<=W.heap.size
 block:∀ k,k<g.W0.heap.size->k ≠ g.B->k ≠ g.K->some k ≠ blk g.po0->W.heap[k]? = g.W0.heap[k]?
 mov:Moved g.W0 g.po0 po
 tab:Tb W
 bB:g.base<=g.B
 bK:g.base<=g.K
 bT:0<g.base/\1<g.base
 low:∀ k,blk g.po0=some k->k<g.W0.heap.size
def In (g:G) (W:World) (m:M) (full:Bool):Prop:=∃ po cap,At g W m full po cap
theorem row_other {w:World} {base n B:Nat} {v:Value} {xs:List Value} {cs:Array Value} {t:TypeId} {fz:Nat × Nat} (ht:t ≠ 2) (h:w.ownsRow base 2 1 v n xs) (hb:w.heap[B]? = some (.cells cs t fz)):v.ownBlock ≠ some B:=by
 intro e
 rcases h.2 with ⟨rfl,_⟩|⟨g,cap,cur,rfl,_,hg,_⟩
 ·cases e
 ·cases e
  rw [hb] at hg
  injection hg with hg
  injection hg with _ h2
  exact ht h2
theorem row_base {w:World} {base n cap k:Nat} {po:Option Addr} {xs:List Value} (h:w.ownsRow base 2 1 (.slice po n cap) n xs) (hk:blk po=some k):base<=k/\k<w.heap.size:=h.lt k (by rw [blk_own];exact hk)
theorem At.neKB {g:G} {W:World} {m:M} {full:Bool} {po:Option Addr} {cap:Nat} (h:At g W m full po cap):g.K ≠ g.B:=fun e=>by
 have h1:=h.k
 rw [e,h.held.box] at h1
 injection h1 with h1
 injection h1 with _ h2
 exact absurd h2 (by decide)
theorem At.turn {g:G} {W W':World} {m m':M} {full full':Bool} {po po':Option Addr} {cap cap':Nat} (h:At g W m full po cap) (e1:W'.os=W.os) (e2:W'.tape=W.tape) (e3:W'.output=W.output) (e4:W.heap.size<=W'.heap.size)
  (hb:∀ k,k<W.heap.size->k ≠ g.B->k ≠ g.K->some k ≠ blk po->W'.heap[k]? = W.heap[k]?) (hh:Held W' g.B g.base m' po' cap') (hk:W'.heap[g.K]? = some (.cells (kc g full') 120 (0,0)))
  (ho:W'.ownsRow g.base 2 1 (.slice g.po0 g.n0 g.cap0) g.n0 (outC g.L0)) (hl:blk g.po0=blk po'->g.n0<=m'.out.length) (hm:Moved W po po'):At g W' m' full' po' cap':=by
 refine ⟨hh,hk,ho,hl,e1.trans h.os,e2.trans h.tape,e3.trans h.output,Nat.le_trans h.size e4,fun k h0 h1 h2 h3=>(hb k (Nat.lt_of_lt_of_le h0 h.size) h1 h2 (fun e=>?_)).trans (h.block k h0 h1 h2 h3),?_,h.tab.of (fun k hkk=>hb k ?_ ?_ ?_ (fun e=>?_)),h.bB,h.bK,h.bT,h.low⟩
 ·rcases h.mov with rfl|⟨p,rfl,hp⟩
  ·exact h3 e
  ·have e5:k=p.block:=Option.some.inj e
   omega
 ·rcases hm with rfl|⟨p,rfl,hp⟩
  ·exact h.mov
  ·exact .inr ⟨p,rfl,Nat.le_trans h.size hp⟩
 ·rcases hkk with rfl|rfl
  ·exact h.tab.stack.lt (by decide)
  ·exact h.tab.bit.lt (by decide)
 ·have h1:=h.bT
  have h2:=h.bB
  rcases hkk with rfl|rfl <;> omega
 ·have h1:=h.bT
  have h2:=h.bK
  rcases hkk with rfl|rfl <;> omega
 ·have h1:=h.bT
  have h2:=(row_base h.held.row e.symm).1
  rcases hkk with rfl|rfl <;> omega
theorem In.below {g:G} {W W':World} {m:M} {full:Bool} (h:In g W m full) (hb:Below W.heap.size W W'):In g W' m full:=by
 obtain ⟨po,cap,h⟩:=h
 have hg:W.grownBy W' none:=⟨hb.os,hb.tape,hb.output,hb.size,fun k hk _=>hb.block k hk⟩
 have kk:∀ {b:Nat} {q:Option Addr} {n c:Nat} {xs:List Value},W.ownsRow b 2 1 (.slice q n c) n xs->W'.ownsRow b 2 1 (.slice q n c) n xs:=fun h=>h.kept hg (by cases hv:(Value.slice _ _ _).ownBlock <;> simp)
 exact ⟨po,cap,h.turn hb.os hb.tape hb.output hb.size (fun k hk _ _ _=>hb.block k hk) ⟨(hb.block _ h.held.lt).trans h.held.box,kk h.held.row,h.held.ne⟩ ((hb.block _ (zLo h.k)).trans h.k) (kk h.old) h.len (.inl rfl)⟩
theorem In.ltB {g:G} {W:World} {m:M} {full:Bool} (h:In g W m full):g.B<W.heap.size:=by obtain ⟨po,cap,h⟩:=h;exact h.held.lt
theorem In.ltK {g:G} {W:World} {m:M} {full:Bool} (h:In g W m full):g.K<W.heap.size:=by obtain ⟨po,cap,h⟩:=h;exact (zLo h.k)
theorem In.base {g:G} {W:World} {m:M} {full:Bool} (h:In g W m full):g.base<=W.heap.size:=by obtain ⟨po,cap,h⟩:=h;have h1:=h.held.lt;have h2:=h.bB;omega
theorem In.tb {g:G} {W:World} {m:M} {full:Bool} (h:In g W m full):Tb W:=by obtain ⟨po,cap,h⟩:=h;exact h.tab
theorem In.kcell {g:G} {W:World} {m:M} {full:Bool} (h:In g W m full) (i:Nat) (v:Value) (hv:(kc g full)[i]? = some v):W.cell? ⟨g.K,i,none⟩=some v:=by
 obtain ⟨po,cap,h⟩:=h
 rw [cell_of_row W g.K i _ _ _ h.k];exact hv
theorem In.kfro {g:G} {W:World} {m:M} {full:Bool} (h:In g W m full) (i:Nat):W.frozen? ⟨g.K,i,none⟩=false:=by
 obtain ⟨po,cap,h⟩:=h
 exact frozen_of_row _ _ _ _ _ h.k
theorem In.fro {g:G} {W:World} {m:M} {full:Bool} (h:In g W m full) (i:Nat):W.frozen? ⟨g.B,i,none⟩=false:=by
 obtain ⟨po,cap,h⟩:=h
 exact frozen_of_row _ _ _ _ _ h.held.box
theorem In.cell {g:G} {W:World} {m:M} {full:Bool} (h:In g W m full) (i:Nat) (v:Value) (hv:(#[.int .i64 m.ra,.int .i64 m.rf,.int .i64 m.rB,.int .i64 m.rC,.int .i64 m.rD,.int .i64 m.rE,.int .i64 m.rH,.int .i64 m.rL,.int .i64 m.sp,.int .i64 m.pc,.bool m.ime,.bool m.hal]:Array Value)[i]? = some v):W.cell? ⟨g.B,i,none⟩=some v:=by
 obtain ⟨po,cap,h⟩:=h
 refine celM h.held.box i v ?_
 match i,hv with
 | 0,hv=>exact hv
 | 1,hv=>exact hv
 | 2,hv=>exact hv
 | 3,hv=>exact hv
 | 4,hv=>exact hv
 | 5,hv=>exact hv
 | 6,hv=>exact hv
 | 7,hv=>exact hv
 | 8,hv=>exact hv
 | 9,hv=>exact hv
 | 10,hv=>exact hv
 | 11,hv=>exact hv
 | i+12,hv=>simp at hv
theorem set_grown1 (w:World) (B i:Nat) (v:Value):w.grownBy (w.setCell ⟨B,i,none⟩ v) (some B) :=
 ⟨rfl,rfl,rfl,by rw [Busw.size_set];exact Nat.le_refl _,fun k _ hk=>Below.heap_setCell _ _ _ _ (fun e=>hk (by rw [e]))⟩
theorem In.setB {g:G} {W:World} {m m':M} {full:Bool} (i:Nat) (v:Value) (h:In g W m full) (ho:m'.out=m.out) (hbox:∀ po cap,W.heap[g.B]? = some (.cells (cellsM m po cap) 33 (0,0))->(W.setCell ⟨g.B,i,none⟩ v).heap[g.B]? = some (.cells (cellsM m' po cap) 33 (0,0))) :
  In g (W.setCell ⟨g.B,i,none⟩ v) m' full:=by
 obtain ⟨po,cap,h⟩:=h
 have hg:=set_grown1 W g.B i v
 refine ⟨po,cap,h.turn hg.os hg.tape hg.output hg.size (fun k hk h1 _ _=>hg.block k hk (fun e=>h1 (Option.some.inj e))) (h.held.turn (hbox po cap h.held.box) ho hg) ((hg.block _ (zLo h.k) (fun e=>h.neKB (Option.some.inj e))).trans h.k) (h.old.kept hg (.inr (row_ne h.old h.held.box))) (fun e=>by rw [ho];exact h.len e) (.inl rfl)⟩
theorem In.setFull {g:G} {W:World} {m:M} {full:Bool} (h:In g W m full):In g (W.setCell ⟨g.K,10,none⟩ (.bool true)) m true:=by
 obtain ⟨po,cap,h⟩:=h
 have hg:=set_grown1 W g.K 10 (.bool true)
 have hr:=row_other (by decide) h.held.row h.k
 refine ⟨po,cap,h.turn hg.os hg.tape hg.output hg.size (fun k hk _ h2 _=>hg.block k hk (fun e=>h2 (Option.some.inj e))) ⟨(hg.block _ h.held.lt (fun e=>h.neKB (Option.some.inj e).symm)).trans h.held.box,h.held.row.kept hg (.inr hr),h.held.ne⟩ ((heap_setCell_same _ _ _ _ _ _ h.k).trans rfl) (h.old.kept hg (.inr (row_other (by decide) h.old h.k))) h.len (.inl rfl)⟩
theorem In.s_ra {g:G} {W:World} {m:M} {full:Bool} (h:In g W m full) (v:Int):In g (W.setCell ⟨g.B,0,none⟩ (.int .i64 v)) { m with ra:=v } full :=
 h.setB 0 _ rfl (fun po cap hb=>by rw [cells_def] at hb |-;exact (heap_setCell_same _ _ _ _ _ _ hb).trans rfl)
theorem In.s_rf {g:G} {W:World} {m:M} {full:Bool} (h:In g W m full) (v:Int):In g (W.setCell ⟨g.B,1,none⟩ (.int .i64 v)) { m with rf:=v } full :=
 h.setB 1 _ rfl (fun po cap hb=>by rw [cells_def] at hb |-;exact (heap_setCell_same _ _ _ _ _ _ hb).trans rfl)
theorem In.s_rB {g:G} {W:World} {m:M} {full:Bool} (h:In g W m full) (v:Int):In g (W.setCell ⟨g.B,2,none⟩ (.int .i64 v)) { m with rB:=v } full :=
 h.setB 2 _ rfl (fun po cap hb=>by rw [cells_def] at hb |-;exact (heap_setCell_same _ _ _ _ _ _ hb).trans rfl)
theorem In.s_rC {g:G} {W:World} {m:M} {full:Bool} (h:In g W m full) (v:Int):In g (W.setCell ⟨g.B,3,none⟩ (.int .i64 v)) { m with rC:=v } full :=
 h.setB 3 _ rfl (fun po cap hb=>by rw [cells_def] at hb |-;exact (heap_setCell_same _ _ _ _ _ _ hb).trans rfl)
theorem In.s_rD {g:G} {W:World} {m:M} {full:Bool} (h:In g W m full) (v:Int):In g (W.setCell ⟨g.B,4,none⟩ (.int .i64 v)) { m with rD:=v } full :=
 h.setB 4 _ rfl (fun po cap hb=>by rw [cells_def] at hb |-;exact (heap_setCell_same _ _ _ _ _ _ hb).trans rfl)
theorem In.s_rE {g:G} {W:World} {m:M} {full:Bool} (h:In g W m full) (v:Int):In g (W.setCell ⟨g.B,5,none⟩ (.int .i64 v)) { m with rE:=v } full :=
 h.setB 5 _ rfl (fun po cap hb=>by rw [cells_def] at hb |-;exact (heap_setCell_same _ _ _ _ _ _ hb).trans rfl)
theorem In.s_rH {g:G} {W:World} {m:M} {full:Bool} (h:In g W m full) (v:Int):In g (W.setCell ⟨g.B,6,none⟩ (.int .i64 v)) { m with rH:=v } full :=
 h.setB 6 _ rfl (fun po cap hb=>by rw [cells_def] at hb |-;exact (heap_setCell_same _ _ _ _ _ _ hb).trans rfl)
theorem In.s_rL {g:G} {W:World} {m:M} {full:Bool} (h:In g W m full) (v:Int):In g (W.setCell ⟨g.B,7,none⟩ (.int .i64 v)) { m with rL:=v } full :=
 h.setB 7 _ rfl (fun po cap hb=>by rw [cells_def] at hb |-;exact (heap_setCell_same _ _ _ _ _ _ hb).trans rfl)
theorem In.s_sp {g:G} {W:World} {m:M} {full:Bool} (h:In g W m full) (v:Int):In g (W.setCell ⟨g.B,8,none⟩ (.int .i64 v)) { m with sp:=v } full :=
 h.setB 8 _ rfl (fun po cap hb=>by rw [cells_def] at hb |-;exact (heap_setCell_same _ _ _ _ _ _ hb).trans rfl)
theorem In.s_pc {g:G} {W:World} {m:M} {full:Bool} (h:In g W m full) (v:Int):In g (W.setCell ⟨g.B,9,none⟩ (.int .i64 v)) { m with pc:=v } full :=
 h.setB 9 _ rfl (fun po cap hb=>by rw [cells_def] at hb |-;exact (heap_setCell_same _ _ _ _ _ _ hb).trans rfl)
theorem In.s_ime {g:G} {W:World} {m:M} {full:Bool} (h:In g W m full) (v:Bool):In g (W.setCell ⟨g.B,10,none⟩ (.bool v)) { m with ime:=v } full :=
 h.setB 10 _ rfl (fun po cap hb=>by rw [cells_def] at hb |-;exact (heap_setCell_same _ _ _ _ _ _ hb).trans rfl)
theorem In.s_hal {g:G} {W:World} {m:M} {full:Bool} (h:In g W m full) (v:Bool):In g (W.setCell ⟨g.B,11,none⟩ (.bool v)) { m with hal:=v } full :=
 h.setB 11 _ rfl (fun po cap hb=>by rw [cells_def] at hb |-;exact (heap_setCell_same _ _ _ _ _ _ hb).trans rfl)
end Stpi
namespace Stpj
open Go.Deep
open Signed (inB sgn ret_int ret_bool)
open Busw Busx Stpp Stpi
theorem and65535 (n:Int):bits .and .i64 n 65535=n%65536:=by
 have h127:(BitVec.ofInt 64 65535).toNat=2 ^ 16-1:=by decide
 have key:(BitVec.ofInt 64 n &&& BitVec.ofInt 64 65535).toNat=(n%((2 ^ 64:Nat):Int)).toNat%2 ^ 16:=by
  rw [BitVec.toNat_and,BitVec.toNat_ofInt,h127,Nat.and_two_pow_sub_one_eq_mod]
 show IntKind.i64.wrap ((BitVec.ofInt 64 n &&& BitVec.ofInt 64 65535).toNat:Nat)=n%65536
 rw [key,IntKind.wrap_i64]
 omega
theorem wrapped_any (n:Int) (w:World) :
  Calls prog 94 #[.int .i64 n] w fun e w'=>e=.returned (.int .i64 (n%65536))/\w'=w:=by
 have h:=and65535 n
 go_enter func94,ntmps94
 go_wp2
 go_ret
 exact ⟨rfl,rfl⟩
theorem word_bd (n:Int):0<=n%65536/\n%65536<=65535:=by omega
theorem read_any (g:G) (m:M) (full:Bool) (addr:Int) (w:World) (h:In g w m full) (hr:Rt m) :
  Calls prog 220 #[.pointer (some ⟨g.K,0,none⟩),.int .i64 addr] w fun e w'=>e=.returned (.int .i64 (rd m (addr%65536)))/\Below w.heap.size w w':=by
 have c1:∀ d os,Calls prog 94 #[.int .i64 addr] (Go.Sort.grow (redrawn w d) os) fun e w''=>e=.returned (.int .i64 (addr%65536))/\∃ p:Regrown,w''=Go.Sort.grow (redrawn w p.d) p.os:=fun d os=>Calls.regrown_of ((wrapped_any addr _).mono fun e w' h=>⟨h.1,by rw [h.2];exact zRf⟩)
 have c2:∀ d os,Calls prog 75 #[.pointer (some ⟨g.B,0,none⟩),.int .i64 (addr%65536)] (Go.Sort.grow (redrawn w d) os) fun e w''=>e=.returned (.int .i64 (rd m (addr%65536)))/\∃ p:Regrown,w''=Go.Sort.grow (redrawn w p.d) p.os:=fun d os=>Calls.regrown_of (by
  obtain ⟨po,cap,h⟩:=h.below (below_regrown w d os)
  have hb:=h.held.box
  rw [cells_def] at hb
  exact MachB.readBus_any m.ra m.rf m.rB m.rC m.rD m.rE m.rH m.rL m.sp m.pc m.ime m.hal m.rom m.kind m.bank m.ram m.rb m.on m.mode m.work m.high po m.out cap m.cyc g.B _ _ hb hr.cart hr.work hr.high (word_bd addr).1)
 have k0:=cell_regrown (h.kcell 0 _ rfl)
 clear h hr
 generalize rd m (addr%65536)=r at *
 generalize hq:addr%65536=q at *
 clear hq
 go_enter func220,ntmps220
 go_wp2_with fail
 refine wp_region_quiet_below (by kernel_rfl) (by kernel_rfl) ?_
 repeat (go_big_quiet_step (first|exact c1 _ _|exact c2 _ _))
 refine wpQuiet_nil ?_
 intro _ hw'
 obtain ⟨⟨dq,osq⟩,hw''⟩:=hw'
 subst hw''
 go_wp2
 go_ret
 exact ⟨rfl,below_regrown _ _ _⟩
theorem in_post {g:G} {w w':World} {m:M} {full:Bool} {po:Option Addr} {cap:Nat} {addr v:Int} {e:Ending} (h:At g w m full po cap) (hp:Post w w' g.B g.base m.out.length (wrM m (addr%65536) v) po e) :
  (e=.returned (.bool true)/\In g w' (wr ⟨m,full⟩ addr v).m full/\(wr ⟨m,full⟩ addr v).full=full) \/ (e=.returned (.bool false)/\In g w' m full/\wr ⟨m,full⟩ addr v=⟨m,true⟩):=by
 obtain ⟨hc,ho,hk⟩:=hp
 have hlen:∀ m',wrM m (addr%65536) v=some m'->m.out.length<=m'.out.length:=fun m' h=>by
  unfold wrM at h
  repeat' split at h
  all_goals cases h
  all_goals simp
 have old:w'.ownsRow g.base 2 1 (.slice g.po0 g.n0 g.cap0) g.n0 (outC g.L0):=hk _ _ _ _ _ h.len h.old
 have hkk:w'.heap[g.K]? = some (.cells (kc g full) 120 (0,0)):=by
  rw [ho.block g.K (zLo h.k) h.neKB (fun p e e2=>row_other (by decide) h.held.row h.k (by subst e;rw [blk_own];show some p.block=_;rw [e2]))]
  exact h.k
 have blocks:∀ k,k<w.heap.size->k ≠ g.B->k ≠ g.K->some k ≠ blk po->w'.heap[k]? = w.heap[k]?:=fun k h0 h1 _ h3=>ho.block k h0 h1 (fun p e e2=>h3 (by subst e;rw [e2];rfl))
 rcases hc with ⟨m',po',cap',hm,rfl,hh,hmv⟩|⟨hm,rfl,rfl⟩
 ·left
  have hw:wr ⟨m,full⟩ addr v=⟨m',full⟩:=by unfold wr;rw [hm]
  rw [hw]
  refine ⟨rfl,⟨po',cap',h.turn ho.os ho.tape ho.output ho.size blocks hh hkk old (fun e=>?_) hmv⟩,rfl⟩
  rcases hmv with rfl|⟨p,rfl,hp⟩
  ·exact Nat.le_trans (h.len e) (hlen m' hm)
  ·have h1:=h.low p.block e
   have h2:=h.size
   omega
 ·right
  exact ⟨rfl,⟨po,cap,h⟩,by unfold wr;rw [hm]⟩
theorem write_any (g:G) (m:M) (full:Bool) (addr v:Int) (w:World) (h:In g w m full) (hr:Rt m) (v0:0<=v) (v1:v<=255) :
  Calls prog 219 #[.pointer (some ⟨g.K,0,none⟩),.int .i64 addr,.int .i64 v] w fun e w'=>e=.returned (.tuple #[])/\In g w' (wr ⟨m,full⟩ addr v).m (wr ⟨m,full⟩ addr v).full:=by
 have k0:=h.kcell 0 _ rfl
 have lk:=h.ltK
 have c1:=fun w=>wrapped_any addr w
 have hq:=word_bd addr
 have c2:∀ W,Below w.heap.size w W->Calls prog 238 #[.pointer (some ⟨g.B,0,none⟩),.int .i64 (addr%65536),.int .i64 v] W fun e w'=>∃ b,e=.returned (.bool b)/\Hid ((b=true/\In g w' (wr ⟨m,full⟩ addr v).m (wr ⟨m,full⟩ addr v).full) \/ (b=false/\In g w' m full/\wr ⟨m,full⟩ addr v=⟨m,true⟩)):=fun W hW=>by
  have h:=h.below hW
  have hb:=h.base
  obtain ⟨po,cap,h⟩:=h
  exact (Busw.write_any m g.B g.base po cap (addr%65536) v W h.held hr (decide_eq_true hq) (decide_eq_true ⟨v0,v1⟩) hb).mono fun e w' hp=>by
   rcases in_post h hp with ⟨rfl,h1,h2⟩|⟨rfl,h1,h2⟩
   ·exact ⟨true,rfl,.inl ⟨rfl,by rw [h2];exact h1⟩⟩
   ·exact ⟨false,rfl,.inr ⟨rfl,h1,h2⟩⟩
 clear h hr hq v0 v1
 obtain ⟨s,hs⟩ : ∃ s,s=wr ⟨m,full⟩ addr v:=⟨_,rfl⟩
 rw [<- hs] at c2 |-
 clear hs
 generalize hq:addr%65536=q at *
 clear hq
 go_enter func219,ntmps219
 go_wp2_with fail
 go_region_with (first|(go_at_call 94;refine (c1 _).mono ?_;rintro e w' ⟨rfl,hw'⟩;have hw':=hw'.symm;subst hw')|(go_at_call 238;refine (c2 _ (by repeat (with_reducible first|exact zRf|refine zGr ?_ _|refine below_drewN ?_ _|refine Below.drew ?_))).mono ?_;rintro e w' ⟨b,rfl,hpost⟩))
 all_goals
  rcases hpost.out with ⟨rfl,hi⟩|⟨rfl,hi,hf⟩
  ·have HI:Hid (In g w' s.m s.full):=hi
   clear hi hpost
   go_wp2
   go_end0
   exact ⟨rfl,HI.out⟩
  ·have HI:Hid (In g (w'.setCell ⟨g.K,10,none⟩ (.bool true)) s.m s.full):=by show In g (w'.setCell ⟨g.K,10,none⟩ (.bool true)) s.m s.full;rw [hf];exact hi.setFull
   have k10:=hi.kcell 10 _ rfl
   have f10:=hi.kfro 10
   clear hi hf hpost
   go_wp2
   go_end0
   exact ⟨rfl,HI.out⟩
end Stpj
namespace Busl
open Go.Deep
open Carts CartK CartL Outs MachT Busw Busx Busy
theorem own_stay {u W:World} {base n:Nat} {v:Value} {xs:List Value} (h:u.ownsRow base 2 1 v n xs) (hb:Below u.heap.size u W):W.ownsRow base 2 1 v n xs:=by
 rcases h with ⟨h1,h2|⟨g,c,cur,hv,hb',hg,r⟩⟩
 ·exact ⟨h1,.inl h2⟩
 ·exact ⟨h1,.inr ⟨g,c,cur,hv,hb',(hb.block g (zLo hg)).trans hg,r⟩⟩
end Busl
namespace Samm
open Busw Busx Busy
open Outs (Row)
theorem sameInts_any (a a':Option Addr) (cap cap':Nat) (L:List Int) (w:World) (hN:Row w a L) (hN':Row w a' L) (hlen:L.length<=1048576) :
  Calls prog 29 #[.slice a L.length cap,.slice a' L.length cap'] w fun e w'=>e=.returned (.bool true)/\∃ n,w'=w.drewN n:=by
 obtain ⟨len,hl⟩ : ∃ len,len=L.length:=⟨_,rfl⟩
 have HL:Hid (len=L.length):=hl
 rw [<- hl] at hlen |-
 clear hl
 go_enter func29,ntmps29
 go_wp2
 go_loopw [5] (fun i wr=>∃ k n:Nat,k<=len/\i=.int .i64 k/\wr=w.drewN n) (fun i _=>len-(intOf i).toNat)
 case atStart=>exact ⟨0,0,Nat.zero_le _,rfl,rfl⟩
 case round =>
  obtain ⟨k,n,hk,rfl,rfl⟩:=hrel
  by_cases hlt:k<len
  ·have hkL:k<L.length:=by have:=HL.out;omega
   rcases hN with hnil|⟨b,off,rfl,hb,hc⟩
   ·exfalso;rw [hnil] at hkL;exact absurd hkL (by simp)
   rcases hN' with hnil|⟨b',off',rfl,hb',hc'⟩
   ·exfalso;rw [hnil] at hkL;exact absurd hkL (by simp)
   have c0:w.cell? ⟨b,off+k,none⟩=some (.int .i64 L[k]):=hc k hkL
   have e0:w.cell? ⟨b',off'+k,none⟩=some (.int .i64 L[k]):=hc' k hkL
   clear hc hc'
   generalize L[k]=kd at c0 e0
   have k0:(0:Int)<=(k:Int):=by omega
   have k1:(k:Int)<(len:Int):=by omega
   go_wp2_with fail
   go_quiet (fail)
   go_wp2
   go_roundw
   case rel=>exact ⟨k+1,_,by omega,by go_num,rfl⟩
   case measure=>simp [intOf];omega
  ·clear hN hN'
   go_wp2
   go_ret
   exact ⟨rfl,_,rfl⟩
theorem sameCart_ex (rom:ByteArray) (kind bank:Int) (ram:ByteArray) (rb:Int) (on:Bool) (mode:Int) (w:World):Calls prog 65 #[.agg #[.string rom,.int .i64 kind,.int .i64 bank,.string ram,.int .i64 rb,.bool on,.int .i64 mode],.agg #[.string rom,.int .i64 kind,.int .i64 bank,.string ram,.int .i64 rb,.bool on,.int .i64 mode]] w fun e w'=>e=.returned (.bool true)/\∃ o1 o2,w'=(w.alloc o1).alloc o2:=by
 go_enter func65,ntmps65
 go_wp2
 go_ret
 exact ⟨rfl,_,_,rfl⟩
theorem sameMachine_mb (ra rf rB rC rD rE rH rL sp pc:Int) (ime hal:Bool) (rom:ByteArray) (kind bank:Int) (ram:ByteArray) (rb:Int) (on:Bool) (mode:Int) (work high:ByteArray) (po:Option Addr) (L:List Int) (cap:Nat) (cyc:Int) (po':Option Addr) (cap':Nat) (w:World) (hN:Row w po L) (hN':Row w po' L) (hlen:L.length<=1048576) :
  Calls prog 28 #[.agg #[.int .i64 ra,.int .i64 rf,.int .i64 rB,.int .i64 rC,.int .i64 rD,.int .i64 rE,.int .i64 rH,.int .i64 rL,.int .i64 sp,.int .i64 pc,.bool ime,.bool hal,.string rom,.int .i64 kind,.int .i64 bank,.string ram,.int .i64 rb,.bool on,.int .i64 mode,.string work,.string high,.slice po L.length cap,.int .i64 cyc],.agg #[.int .i64 ra,.int .i64 rf,.int .i64 rB,.int .i64 rC,.int .i64 rD,.int .i64 rE,.int .i64 rH,.int .i64 rL,.int .i64 sp,.int .i64 pc,.bool ime,.bool hal,.string rom,.int .i64 kind,.int .i64 bank,.string ram,.int .i64 rb,.bool on,.int .i64 mode,.string work,.string high,.slice po' L.length cap',.int .i64 cyc]] w fun e w'=>e=.returned (.bool true)/\Below w.heap.size w w':=by
 have c:=fun W (h:Row W po L) (h':Row W po' L)=>sameInts_any po po' cap cap' L W h h' hlen
 have HB:Hid (Row w po L):=hN
 have HB':Hid (Row w po' L):=hN'
 clear hN hN' hlen
 obtain ⟨ln,hl⟩ : ∃ ln,ln=L.length:=⟨_,rfl⟩
 rw [<- hl] at c |-
 clear hl
 go_enter func28,ntmps28
 go_wp2_with (go_at_call 65;refine (sameCart_ex _ _ _ _ _ _ _ _).mono ?_;rintro e w' ⟨rfl,q1,q2,rfl⟩)
 refine Calls.mono (c _ ?_ ?_) ?_
 ·exact HB.out.below (by repeat (with_reducible first|exact zRf|refine zGr ?_ _|refine below_drewN ?_ _|refine Below.drew ?_))
 ·exact HB'.out.below (by repeat (with_reducible first|exact zRf|refine zGr ?_ _|refine below_drewN ?_ _|refine Below.drew ?_))
 rintro e w' ⟨rfl,n,rfl⟩
 clear c HB HB'
 go_wp2
 go_ret
 exact ⟨rfl,below_drewN (by repeat (with_reducible first|exact zRf|refine zGr ?_ _|refine below_drewN ?_ _|refine Below.drew ?_)) _⟩
theorem sameM_any (m:M) (po po':Option Addr) (cap cap':Nat) (w:World) (hN:Row w po m.out) (hN':Row w po' m.out) (hlen:m.out.length<=1048576) :
  Calls prog 28 #[.agg (cellsM m po cap),.agg (cellsM m po' cap')] w fun e w'=>e=.returned (.bool true)/\Below w.heap.size w w':=by
 rw [cells_def,cells_def]
 exact sameMachine_mb m.ra m.rf m.rB m.rC m.rD m.rE m.rH m.rL m.sp m.pc m.ime m.hal m.rom m.kind m.bank m.ram m.rb m.on m.mode m.work m.high po m.out cap m.cyc po' cap' w hN hN' hlen
end Samm
end Go.Proofs.YtnjolmbdbgbmbaaGreatDoor
