/-
  Contracts and facts of ours, joined: Stps, Stpq, Qtail.
-/
import Derived.Test.YtkfehdkjeodbmaaGreatDoorP07
import Derived.Lib.QuietBelow
import Derived.BigQuiet
import Derived.Test.YtkfehdkjeodbmaaGreatDoorP02
import Derived.StillTail
import Derived.Deep.Quiet
import Derived.Test.YtkfehdkjeodbmaaGreatDoorRows
import Derived.Test.YtkfehdkjeodbmaaGreatDoorP00
set_option linter.unusedVariables false
set_option linter.unusedSimpArgs false
set_option maxRecDepth 20000
set_option maxHeartbeats 8000000
open Go.ChangeShapes Go.WideShapes Go.ChangeAt Go.RowKit
open Go.Proofs.Tryz
namespace Go.Proofs.YtkfehdkjeodbmaaGreatDoor.Stps
open Go.Deep
open Signed (inB sgn ret_int ret_bool)
open Busw Busx Busy Stpp
structure SG where
 (W0:World)
 (X:Nat)
@[irreducible] def cellsW (m:M) (po:Option Addr) (cap:Nat) (full:Bool):Array Value:=(cellsM m po cap).push (.bool full)
theorem cellsW_def (m:M) (po:Option Addr) (cap:Nat) (full:Bool):cellsW m po cap full=#[.int .i64 m.ra,.int .i64 m.rf,.int .i64 m.rB,.int .i64 m.rC,.int .i64 m.rD,.int .i64 m.rE,.int .i64 m.rH,.int .i64 m.rL,.int .i64 m.sp,.int .i64 m.pc,.bool m.ime,.bool m.hal,.string m.rom,.int .i64 m.kind,.int .i64 m.bank,.string m.ram,.int .i64 m.rb,.bool m.on,.int .i64 m.mode,.string m.work,.string m.high,.slice po m.out.length cap,.int .i64 m.cyc,.bool full]:=by unfold cellsW;rw [cells_def];rfl
theorem cellsW_low {m:M} {po:Option Addr} {cap:Nat} {full:Bool} {j:Nat} {v:Value} (h:(cellsM m po cap).toList[j]? = some v):(cellsW m po cap full)[j]? = some v:=by
 unfold cellsW
 have hj:j<(cellsM m po cap).size:=by
  rcases Nat.lt_or_ge j (cellsM m po cap).toList.length with h1|h1
  ·simpa using h1
  ·rw [List.getElem?_eq_none h1] at h;cases h
 rw [Array.getElem?_push,if_neg (by omega)]
 simpa using h
structure SAt (g:SG) (W:World) (m:M) (full:Bool) (po:Option Addr) (cap:Nat):Prop where
 box:W.heap[g.X]? = some (.cells (cellsW m po cap full) 82 (0,0))
 sl:Sl W po m.out cap
 ne:∀ p,po=some p->p.block ≠ g.X
 grown:g.W0.grownBy W (some g.X)
def InS (g:SG) (W:World) (m:M) (full:Bool):Prop:=∃ po cap,SAt g W m full po cap
theorem run_loadVar_part {P:Program} (w:World) (b:Nat) (t ty:TypeId) (cs cs':Array Value) (fr:Nat × Nat) (d:TypeDesc) (hg:w.heap[b]? = some (.cells cs' t fr)) (hp:∀ (j:Nat) (v:Value),cs.toList[j]? = some v->cs'[j]? = some v)
  (hu:P.underlying ty=some d) (hd:(match d with|.struct _|.array _ _=>true|_=>false)=true) (hi:(P.info? ty).map (·.size)=some cs.size) :
  (loadVar ty ⟨b,0,none⟩).run P w=.ok (.agg cs) w:=by
 have hl:(loadCells ⟨b,0,none⟩ cs.toList.length).run P w=.ok cs.toList.toArray w :=
  run_loadCells_list (P:=P) w ⟨b,0,none⟩ cs.toList (fun j v hv=>by
   have hadd:(⟨b,0,none⟩ : Addr).add j=⟨b,j,none⟩:=by unfold Addr.add;split <;> simp_all
   rw [hadd,cell_of_row w b j cs' t fr hg]
   exact hp j v hv)
 cases hq:P.info? ty with
 | none=>simp [hq] at hi
 | some i =>
  have hs:i.size=cs.size:=by simpa [hq] using hi
  have hagg:(isAgg ty).run P w=.ok true w:=by
   unfold isAgg
   rw [Sem.run_bind,run_underlying hu w]
   cases d <;> simp_all
  simp only [Array.length_toList,Array.toArray_toList] at hl
  simp [loadVar,Sem.run_bind,hagg,sizeOf,typeInfo,hq,hs,hl]
theorem wpList_load_any {P:Program} {ops:Array Oper} {rest:List Oper} {o:Oper} {a:Act} {w:World} {Q:Exit->Act->World->Prop} (hgd:o.guard=none) (ty:TypeId) (x:Operand) (ho:o.op=.load ty x)
  (p:Addr) (hx:a.eval x=.pointer (some p)) (v:Value) (hl:(loadVar ty p).run P w=.ok v w) (h:wpList P ops Q rest (a.put o.dst v) w):wpList P ops Q (o :: rest) a w :=
 wpList_plain hgd fun K hK=>by
  unfold Oper.wp execOp
  simp only [ho,hx,Instr.loadAt,Instr.sureAddr,Sem.run_bind,Sem.run_pure,Result.andThen_ok,hl]
  exact hK _ _ h
theorem wpQuiet_load {P:Program} {ops:Array Oper} {rest:List Oper} {o:Oper} {a:Act} {C:World->Prop} {Q:Act->Prop} (hgd:Region.wanted o (yielded ops a.tmps)=true) (ty:TypeId) (x:Operand) (ho:o.op=.load ty x)
  (p:Addr) (hx:a.eval x=.pointer (some p)) (v:Value) (hl:∀ w,C w->(loadVar ty p).run P w=.ok v w) (h:wpQuiet P ops C Q rest (a.put o.dst v)):wpQuiet P ops C Q (o :: rest) a :=
 wpQuiet_step fun K hK=>by
  rw [if_pos hgd]
  refine ⟨v,fun w hw=>?_,hK _ h⟩
  unfold Oper.quietAt execOp
  simp only [ho,hx,Instr.loadAt,Instr.sureAddr,Sem.run_bind,Sem.run_pure,Result.andThen_ok,hl w hw]
  exact ⟨rfl,rfl⟩
theorem run_storeVar_part {P:Program} (w:World) (b:Nat) (t ty:TypeId) (old cells:Array Value) (hg:w.heap[b]? = some (.cells old t (0,0))) (hi:(P.info? ty).map (·.size)=some cells.size)
  (ho:cells.size<=old.size) (h1:cells.all (·.oneCell')=true) :
  (storeVar ty ⟨b,0,none⟩ (.agg cells)).run P w=.ok () (w.setRow b (cells.toList ++ old.toList.drop cells.size).toArray):=by
 have:=run_storeCells_at P b 0 t cells.toList 0 old w hg (by simpa using ho) (fun v hv=>(Array.all_eq_true_iff_forall_mem.1 h1) v (by simpa using hv))
 cases hq:P.info? ty with
 | none=>simp [hq] at hi
 | some i =>
  have hs:cells.size=i.size:=by simp [hq] at hi;omega
  simp [storeVar,sizeOf,typeInfo,hq,Value.cells,hs] at this |-
  rw [<- hs] at this |-
  simpa using this
theorem wpList_store_part {P:Program} {ops:Array Oper} {rest:List Oper} {o:Oper} {a:Act} {w:World} {Q:Exit->Act->World->Prop} (hgd:o.guard=none) (ty:TypeId) (x y:Operand) (ho:o.op=.store ty x y)
  (b:Nat) (cells:Array Value) (hx:a.eval x=.pointer (some ⟨b,0,none⟩)) (hy:a.eval y=.agg cells) (t:TypeId) (old:Array Value) (hg:w.heap[b]? = some (.cells old t (0,0))) (hi:(P.info? ty).map (·.size)=some cells.size)
  (hold:cells.size<=old.size) (h1:cells.all (·.oneCell')=true)
  (h:wpList P ops Q rest (a.put o.dst undef) (w.setRow b (cells.toList ++ old.toList.drop cells.size).toArray)):wpList P ops Q (o :: rest) a w :=
 wpList_plain hgd fun K hK=>by
  unfold Oper.wp execOp
  simp only [ho,hx,hy,Instr.storeAt,Instr.sureAddr,Sem.run_bind,Sem.run_pure,Result.andThen_ok,run_storeVar_part w b t ty old cells hg hi hold h1]
  exact hK _ _ h
theorem part_W (m m':M) (po po':Option Addr) (cap cap':Nat) (full:Bool):((cellsM m' po' cap').toList ++ (cellsW m po cap full).toList.drop (cellsM m' po' cap').size).toArray=cellsW m' po' cap' full:=by
 rw [size_M,cellsW_def,cellsW_def,cells_def];rfl
theorem size_W (m:M) (po:Option Addr) (cap:Nat) (full:Bool):(cellsW m po cap full).size=24:=by rw [cellsW_def];rfl
theorem SAt.load {g:SG} {W W':World} {m:M} {full:Bool} {po:Option Addr} {cap:Nat} (h:SAt g W m full po cap) (hb:W'.heap[g.X]? = W.heap[g.X]?):(loadVar 33 ⟨g.X,0,none⟩).run prog W'=.ok (.agg (cellsM m po cap)) W' :=
 run_loadVar_part W' g.X _ _ _ _ (0,0) _ (hb.trans h.box) (fun j v hv=>cellsW_low hv) underlying33 rfl (infoMs m po cap)
theorem SAt.lt {g:SG} {W:World} {m:M} {full:Bool} {po:Option Addr} {cap:Nat} (h:SAt g W m full po cap):g.X<W.heap.size:=(zLo h.box)
theorem sl_grown {W W':World} {po:Option Addr} {L:List Int} {cap X:Nat} (h:Sl W po L cap) (hne:∀ p,po=some p->p.block ≠ X) (hg:W.grownBy W' (some X)):Sl W' po L cap:=by
 rcases h with h|⟨b,off,rfl,hc⟩
 ·exact .inl h
 ·exact .inr ⟨b,off,rfl,fun i hi=>⟨Nat.lt_of_lt_of_le (hc i hi).1 hg.size,(World.cell?_of_block (a:=⟨b,off+i,none⟩) (hg.block b (hc i hi).1 (fun e=>hne _ rfl (Option.some.inj e)))).trans (hc i hi).2⟩⟩
theorem grown_trans {w w1 w2:World} {X:Nat} (h:w.grownBy w1 (some X)) (h2:w1.grownBy w2 (some X)):w.grownBy w2 (some X) :=
 ⟨h2.os.trans h.os,h2.tape.trans h.tape,h2.output.trans h.output,Nat.le_trans h.size h2.size,fun k hk hne=>(h2.block k (Nat.lt_of_lt_of_le hk h.size) hne).trans (h.block k hk hne)⟩
theorem below_grown {w w':World} {X:Nat} (h:Below w.heap.size w w'):w.grownBy w' (some X):=⟨h.os,h.tape,h.output,h.size,fun k hk _=>h.block k hk⟩
theorem InS.below {g:SG} {W W':World} {m:M} {full:Bool} (h:InS g W m full) (hb:Below W.heap.size W W'):InS g W' m full:=by
 obtain ⟨po,cap,h⟩:=h
 exact ⟨po,cap,(hb.block _ h.lt).trans h.box,h.sl.below hb,h.ne,grown_trans h.grown (below_grown hb)⟩
theorem InS.lt {g:SG} {W:World} {m:M} {full:Bool} (h:InS g W m full):g.X<W.heap.size:=by obtain ⟨po,cap,h⟩:=h;exact h.lt
theorem InS.fro {g:SG} {W:World} {m:M} {full:Bool} (h:InS g W m full) (i:Nat):W.frozen? ⟨g.X,i,none⟩=false:=by
 obtain ⟨po,cap,h⟩:=h
 exact frozen_of_row _ _ _ _ _ h.box
theorem InS.cell {g:SG} {W:World} {m:M} {full:Bool} (h:InS g W m full) (i:Nat) (v:Value) (hv:(#[.int .i64 m.ra,.int .i64 m.rf,.int .i64 m.rB,.int .i64 m.rC,.int .i64 m.rD,.int .i64 m.rE,.int .i64 m.rH,.int .i64 m.rL,.int .i64 m.sp,.int .i64 m.pc,.bool m.ime,.bool m.hal]:Array Value)[i]? = some v):W.cell? ⟨g.X,i,none⟩=some v:=by
 obtain ⟨po,cap,h⟩:=h
 rw [cell_of_row W g.X i _ _ _ h.box,cellsW_def]
 match i,hv with
 | 0,hv=>exact hv
 | 1,hv=>exact hv
 | 2,hv=>exact hv
 | 3,hv=>exact hv
 | 4,hv=>exact hv
 | 5,hv=>exact hv
 | 6,hv=>exact hv
 | 7,hv=>exact hv
 | 8,hv=>exact hv
 | 9,hv=>exact hv
 | 10,hv=>exact hv
 | 11,hv=>exact hv
 | i+12,hv=>simp at hv
theorem InS.cellFull {g:SG} {W:World} {m:M} {full:Bool} (h:InS g W m full):W.cell? ⟨g.X,23,none⟩=some (.bool full):=by
 obtain ⟨po,cap,h⟩:=h
 rw [cell_of_row W g.X 23 _ _ _ h.box,cellsW_def];rfl
theorem InS.cellCyc {g:SG} {W:World} {m:M} {full:Bool} (h:InS g W m full):W.cell? ⟨g.X,22,none⟩=some (.int .i64 m.cyc):=by
 obtain ⟨po,cap,h⟩:=h
 rw [cell_of_row W g.X 22 _ _ _ h.box,cellsW_def];rfl
theorem set_grown1 (w:World) (B i:Nat) (v:Value):w.grownBy (w.setCell ⟨B,i,none⟩ v) (some B) :=
 ⟨rfl,rfl,rfl,by rw [Busw.size_set];exact Nat.le_refl _,fun k _ hk=>Below.heap_setCell _ _ _ _ (fun e=>hk (by rw [e]))⟩
theorem InS.setX {g:SG} {W:World} {m m':M} {full full':Bool} (i:Nat) (v:Value) (h:InS g W m full) (ho:m'.out=m.out) (hbox:∀ po cap,W.heap[g.X]? = some (.cells (cellsW m po cap full) 82 (0,0))->(W.setCell ⟨g.X,i,none⟩ v).heap[g.X]? = some (.cells (cellsW m' po cap full') 82 (0,0))) :
  InS g (W.setCell ⟨g.X,i,none⟩ v) m' full':=by
 obtain ⟨po,cap,h⟩:=h
 have hg:=set_grown1 W g.X i v
 exact ⟨po,cap,hbox po cap h.box,by rw [ho];exact sl_grown h.sl h.ne hg,h.ne,grown_trans h.grown hg⟩
theorem InS.setFull {g:SG} {W:World} {m:M} {full:Bool} (h:InS g W m full) (b:Bool):InS g (W.setCell ⟨g.X,23,none⟩ (.bool b)) m b :=
 h.setX 23 _ rfl (fun po cap hb=>by rw [cellsW_def] at hb |-;exact (heap_setCell_same _ _ _ _ _ _ hb).trans rfl)
theorem InS.s_cyc {g:SG} {W:World} {m:M} {full:Bool} (h:InS g W m full) (v:Int):InS g (W.setCell ⟨g.X,22,none⟩ (.int .i64 v)) { m with cyc:=v } full :=
 h.setX 22 _ rfl (fun po cap hb=>by rw [cellsW_def] at hb |-;exact (heap_setCell_same _ _ _ _ _ _ hb).trans rfl)
theorem InS.s_ra {g:SG} {W:World} {m:M} {full:Bool} (h:InS g W m full) (v:Int):InS g (W.setCell ⟨g.X,0,none⟩ (.int .i64 v)) { m with ra:=v } full :=
 h.setX 0 _ rfl (fun po cap hb=>by rw [cellsW_def] at hb |-;exact (heap_setCell_same _ _ _ _ _ _ hb).trans rfl)
theorem InS.s_rf {g:SG} {W:World} {m:M} {full:Bool} (h:InS g W m full) (v:Int):InS g (W.setCell ⟨g.X,1,none⟩ (.int .i64 v)) { m with rf:=v } full :=
 h.setX 1 _ rfl (fun po cap hb=>by rw [cellsW_def] at hb |-;exact (heap_setCell_same _ _ _ _ _ _ hb).trans rfl)
theorem InS.s_rB {g:SG} {W:World} {m:M} {full:Bool} (h:InS g W m full) (v:Int):InS g (W.setCell ⟨g.X,2,none⟩ (.int .i64 v)) { m with rB:=v } full :=
 h.setX 2 _ rfl (fun po cap hb=>by rw [cellsW_def] at hb |-;exact (heap_setCell_same _ _ _ _ _ _ hb).trans rfl)
theorem InS.s_rC {g:SG} {W:World} {m:M} {full:Bool} (h:InS g W m full) (v:Int):InS g (W.setCell ⟨g.X,3,none⟩ (.int .i64 v)) { m with rC:=v } full :=
 h.setX 3 _ rfl (fun po cap hb=>by rw [cellsW_def] at hb |-;exact (heap_setCell_same _ _ _ _ _ _ hb).trans rfl)
theorem InS.s_rD {g:SG} {W:World} {m:M} {full:Bool} (h:InS g W m full) (v:Int):InS g (W.setCell ⟨g.X,4,none⟩ (.int .i64 v)) { m with rD:=v } full :=
 h.setX 4 _ rfl (fun po cap hb=>by rw [cellsW_def] at hb |-;exact (heap_setCell_same _ _ _ _ _ _ hb).trans rfl)
theorem InS.s_rE {g:SG} {W:World} {m:M} {full:Bool} (h:InS g W m full) (v:Int):InS g (W.setCell ⟨g.X,5,none⟩ (.int .i64 v)) { m with rE:=v } full :=
 h.setX 5 _ rfl (fun po cap hb=>by rw [cellsW_def] at hb |-;exact (heap_setCell_same _ _ _ _ _ _ hb).trans rfl)
theorem InS.s_rH {g:SG} {W:World} {m:M} {full:Bool} (h:InS g W m full) (v:Int):InS g (W.setCell ⟨g.X,6,none⟩ (.int .i64 v)) { m with rH:=v } full :=
 h.setX 6 _ rfl (fun po cap hb=>by rw [cellsW_def] at hb |-;exact (heap_setCell_same _ _ _ _ _ _ hb).trans rfl)
theorem InS.s_rL {g:SG} {W:World} {m:M} {full:Bool} (h:InS g W m full) (v:Int):InS g (W.setCell ⟨g.X,7,none⟩ (.int .i64 v)) { m with rL:=v } full :=
 h.setX 7 _ rfl (fun po cap hb=>by rw [cellsW_def] at hb |-;exact (heap_setCell_same _ _ _ _ _ _ hb).trans rfl)
theorem InS.s_sp {g:SG} {W:World} {m:M} {full:Bool} (h:InS g W m full) (v:Int):InS g (W.setCell ⟨g.X,8,none⟩ (.int .i64 v)) { m with sp:=v } full :=
 h.setX 8 _ rfl (fun po cap hb=>by rw [cellsW_def] at hb |-;exact (heap_setCell_same _ _ _ _ _ _ hb).trans rfl)
theorem InS.s_pc {g:SG} {W:World} {m:M} {full:Bool} (h:InS g W m full) (v:Int):InS g (W.setCell ⟨g.X,9,none⟩ (.int .i64 v)) { m with pc:=v } full :=
 h.setX 9 _ rfl (fun po cap hb=>by rw [cellsW_def] at hb |-;exact (heap_setCell_same _ _ _ _ _ _ hb).trans rfl)
theorem InS.s_ime {g:SG} {W:World} {m:M} {full:Bool} (h:InS g W m full) (v:Bool):InS g (W.setCell ⟨g.X,10,none⟩ (.bool v)) { m with ime:=v } full :=
 h.setX 10 _ rfl (fun po cap hb=>by rw [cellsW_def] at hb |-;exact (heap_setCell_same _ _ _ _ _ _ hb).trans rfl)
theorem InS.s_hal {g:SG} {W:World} {m:M} {full:Bool} (h:InS g W m full) (v:Bool):InS g (W.setCell ⟨g.X,11,none⟩ (.bool v)) { m with hal:=v } full :=
 h.setX 11 _ rfl (fun po cap hb=>by rw [cellsW_def] at hb |-;exact (heap_setCell_same _ _ _ _ _ _ hb).trans rfl)
theorem l6Read_M (m:M) (po:Option Addr) (cap:Nat) (addr:Int) (w:World) (hr:Rt m) (a0:0<=addr):Calls prog 70 #[.agg (cellsM m po cap),.int .i64 addr] w fun e w'=>e=.returned (.int .i64 (rd m addr))/\Below w.heap.size w w':=by
 rw [cells_def]
 exact MachB.l6Read_any m.ra m.rf m.rB m.rC m.rD m.rE m.rH m.rL m.sp m.pc m.ime m.hal m.rom m.kind m.bank m.ram m.rb m.on m.mode m.work m.high po m.out cap m.cyc addr w hr.rom hr.cart hr.work hr.high a0
end Go.Proofs.YtkfehdkjeodbmaaGreatDoor.Stps
namespace Go.Proofs.YtkfehdkjeodbmaaGreatDoor.Stpq
open Signed (inB sgn)
open Reck ReckS ReckM ReckD TurnS
open Busw (M wrM Rt)
open Busx (okMM Sm rt_of)
open Stpp
theorem cart_ok (rom:ByteArray) (kind bank:Int) (ram:ByteArray) (rb:Int) (on:Bool) (mode ad v:Int) (h:Carts.okB rom kind bank ram rb on mode=true) (a0:0<=ad) (a1:ad<=65535) (v0:0<=v) (v1:v<=255) :
  Carts.okB rom kind (CartY.wBank kind bank ad v) (CartY.wRam kind ram rb on mode ad v) (CartY.wRb kind rb ad v) (CartY.wOn kind on ad v) (CartY.wMode kind mode ad v)=true/\(CartY.wRam kind ram rb on mode ad v).size=256:=by
 obtain ⟨n,n0,n1,hn,hbk,hm,b0,b1,r0,r1,m0,m1,hk⟩:=CartM.right rom kind bank ram rb on mode h
 have hms:(CartY.wRam kind ram rb on mode ad v).size=256:=by
  unfold CartY.wRam
  repeat' split
  all_goals first|exact hm|(rw [CartP.putB_size];exact hm)
 have hh:Carts.heldB kind bank rb on mode=true/\Carts.romB rom.size=true:=by
  have h':=h
  simp only [Carts.okB,Bool.and_eq_true] at h'
  exact h'.1
 have hok:Carts.okB rom kind (CartY.wBank kind bank ad v) (CartY.wRam kind ram rb on mode ad v) (CartY.wRb kind rb ad v) (CartY.wOn kind on ad v) (CartY.wMode kind mode ad v)=true:=by
  simp only [Carts.okB,Bool.and_eq_true,beq_iff_eq]
  refine ⟨⟨?_,hh.2⟩,hms⟩
  have g:=hh.1
  unfold Carts.heldB at g |-
  rcases hk with ⟨rfl,hon⟩|rfl|⟨rfl,hmode⟩
  ·rw [if_pos rfl] at g |-
   have g:=of_decide_eq_true g
   refine decide_eq_true ⟨?_,?_,?_,?_⟩
   ·unfold CartY.wBank;split
    ·rw [if_neg (by omega),if_neg (by omega)];exact g.1
    ·exact g.1
   ·unfold CartY.wRb;rw [if_neg (by omega)];exact g.2.1
   ·unfold CartY.wMode;rw [if_neg (by omega)];exact g.2.2.1
   ·unfold CartY.wOn;rw [if_neg (by omega)];exact g.2.2.2
  ·rw [if_neg (by omega),if_pos rfl] at g |-
   simp only [Bool.and_eq_true] at g |-
   have g1:=of_decide_eq_true g.1.1
   have g2:=of_decide_eq_true g.1.2
   have g3:=of_decide_eq_true g.2
   refine ⟨⟨decide_eq_true ?_,decide_eq_true ?_⟩,decide_eq_true ?_⟩
   ·unfold CartY.wBank;split
    ·rw [if_pos rfl];unfold CartW.bank1;split <;> omega
    ·exact g1
   ·unfold CartY.wRb;split
    ·omega
    ·exact g2
   ·unfold CartY.wMode;split
    ·omega
    ·exact g3
  ·rw [if_neg (by omega),if_neg (by omega),if_pos rfl] at g |-
   simp only [Bool.and_eq_true,beq_iff_eq] at g |-
   have g1:=of_decide_eq_true g.1.1
   have g2:=of_decide_eq_true g.1.2
   refine ⟨⟨decide_eq_true ?_,decide_eq_true ?_⟩,?_⟩
   ·unfold CartY.wBank;split
    ·rw [if_neg (by omega),if_pos rfl];omega
    ·exact g1
   ·unfold CartY.wRb;split
    ·omega
    ·exact g2
   ·unfold CartY.wMode;rw [if_neg (by omega)];exact g.2
 exact ⟨hok,hms⟩
structure Good (m:M):Prop where
 a:0<=m.ra/\m.ra<=255
 f:0<=m.rf/\m.rf<=255
 b:0<=m.rB/\m.rB<=255
 c:0<=m.rC/\m.rC<=255
 d:0<=m.rD/\m.rD<=255
 e:0<=m.rE/\m.rE<=255
 h:0<=m.rH/\m.rH<=255
 l:0<=m.rL/\m.rL<=255
 f16:m.rf%16=0
 sp:0<=m.sp/\m.sp<=65535
 pc:0<=m.pc/\m.pc<=65535
 rt:Rt m
 outs:MachO.byteL m.out=true
theorem in_bd {n:Int} (h:inB n 0 255=true):0<=n/\n<=255:=of_decide_eq_true h
theorem good_of {m:M} (h:okMM m=true) (hs:Sm m):Good m/\0<=m.cyc/\m.cyc<=1000000000:=by
 have hr:=rt_of h hs
 unfold okMM MachK.okM MachO.cpuB MachO.byteL MachO.regL at h
 simp only [Bool.and_eq_true,decide_eq_true_eq,List.all_cons,List.all_nil,beq_iff_eq] at h
 obtain ⟨⟨⟨⟨⟨⟨⟨⟨⟨⟨⟨ha,hf,hB,hC,hD,hE,hH,hL,_⟩,h16⟩,hsp⟩,hpc⟩,_⟩,_⟩,_⟩,_⟩,ho⟩,c0⟩,c1⟩:=h
 exact ⟨⟨in_bd ha,in_bd hf,in_bd hB,in_bd hC,in_bd hD,in_bd hE,in_bd hH,in_bd hL,h16,of_decide_eq_true hsp,of_decide_eq_true hpc,hr,ho⟩,c0,c1⟩
theorem wrM_good {m m':M} {a v:Int} (h:Good m) (a0:0<=a) (a1:a<=65535) (v0:0<=v) (v1:v<=255) (hw:wrM m a v=some m'):Good m':=by
 have hr:=h.rt
 unfold wrM at hw
 split at hw
 ·cases hw
  exact ⟨h.a,h.f,h.b,h.c,h.d,h.e,h.h,h.l,h.f16,h.sp,h.pc,⟨hr.cart,(CartP.putB_size _ _ _).trans hr.work,hr.high,hr.out,hr.rom,hr.ram⟩,h.outs⟩
 ·split at hw
  ·cases hw
   exact ⟨h.a,h.f,h.b,h.c,h.d,h.e,h.h,h.l,h.f16,h.sp,h.pc,⟨hr.cart,hr.work,(CartP.putB_size _ _ _).trans hr.high,hr.out,hr.rom,hr.ram⟩,h.outs⟩
  ·split at hw
   ·split at hw
    ·cases hw
    ·cases hw
     refine ⟨h.a,h.f,h.b,h.c,h.d,h.e,h.h,h.l,h.f16,h.sp,h.pc,⟨hr.cart,hr.work,hr.high,?_,hr.rom,hr.ram⟩,?_⟩
     ·show (m.out ++ [v]).length<=100
      rw [List.length_append];simp;omega
     ·have ho:=h.outs
      unfold MachO.byteL at ho |-
      show (m.out ++ [v]).all _=true
      rw [List.all_append,ho]
      simp only [List.all_cons,List.all_nil,Bool.and_true,Bool.true_and]
      exact decide_eq_true ⟨v0,v1⟩
   ·cases hw
    have hc:=cart_ok m.rom m.kind m.bank m.ram m.rb m.on m.mode a v hr.cart a0 a1 v0 v1
    exact ⟨h.a,h.f,h.b,h.c,h.d,h.e,h.h,h.l,h.f16,h.sp,h.pc,⟨hc.1,hr.work,hr.high,hr.out,hr.rom,by show (CartY.wRam _ _ _ _ _ _ _).size<=_;rw [hc.2];decide⟩,h.outs⟩
theorem wr_good {s:S} (h:Good s.m) (a v:Int) (v0:0<=v) (v1:v<=255):Good (wr s a v).m:=by
 unfold wr
 split
 ·rename_i m' hw
  exact wrM_good h (by omega) (by omega) v0 v1 hw
 ·exact h
theorem get_bd {m:M} (h:Good m) (n:Int):0<=get m n/\get m n<=255:=by
 unfold Stpp.get
 split
 ·exact rd_bd _ _
 ·unfold reg
  repeat' split
  all_goals first|exact h.b|exact h.c|exact h.d|exact h.e|exact h.h|exact h.l|exact h.a
theorem setR_good {m:M} (h:Good m) (n v:Int) (v0:0<=v) (v1:v<=255):Good (setR m n v):=by
 obtain ⟨ha,hf,hb,hc,hd,he,hh,hl,h16,hsp,hpc,hr,ho⟩:=h
 unfold setR
 repeat' split
 all_goals exact ⟨by first|exact ha|exact ⟨v0,v1⟩,hf,by first|exact hb|exact ⟨v0,v1⟩,by first|exact hc|exact ⟨v0,v1⟩,by first|exact hd|exact ⟨v0,v1⟩,by first|exact he|exact ⟨v0,v1⟩,by first|exact hh|exact ⟨v0,v1⟩,by first|exact hl|exact ⟨v0,v1⟩,h16,hsp,hpc,⟨hr.cart,hr.work,hr.high,hr.out,hr.rom,hr.ram⟩,ho⟩
theorem put_good {s:S} (h:Good s.m) (n v:Int) (v0:0<=v) (v1:v<=255):Good (put s n v).m:=by
 unfold put
 split
 ·exact wr_good h _ v v0 v1
 ·exact setR_good h n v v0 v1
theorem setP_good {m:M} (h:Good m) (p v:Int) (v0:0<=v) (v1:v<=65535):Good (setP m p v):=by
 obtain ⟨ha,hf,hb,hc,hd,he,hh,hl,h16,hsp,hpc,hr,ho⟩:=h
 have q1:0<=v / 256/\v / 256<=255:=by omega
 have q2:0<=v%256/\v%256<=255:=by omega
 unfold setP
 repeat' split
 all_goals exact ⟨ha,hf,by first|exact hb|exact q1,by first|exact hc|exact q2,by first|exact hd|exact q1,by first|exact he|exact q2,by first|exact hh|exact q1,by first|exact hl|exact q2,h16,by first|exact hsp|exact ⟨v0,v1⟩,hpc,⟨hr.cart,hr.work,hr.high,hr.out,hr.rom,hr.ram⟩,ho⟩
theorem hl_bd {m:M} (h:Good m):0<=hl m/\hl m<=65535:=by have:=h.h;have:=h.l;unfold hl;omega
theorem pr_bd {m:M} (h:Good m) (p:Int):0<=pr m p/\pr m p<=65535:=by
 have:=h.b;have:=h.c;have:=h.d;have:=h.e;have:=h.h;have:=h.l;have:=h.sp
 unfold pr
 repeat' split
 all_goals omega
theorem prQ_bd {m:M} (h:Good m) (p:Int):0<=prQ m p/\prQ m p<=65535:=by
 have:=h.a;have:=h.f
 unfold prQ
 split
 ·omega
 ·exact pr_bd h p
theorem good_f {m:M} (h:Good m) (f:Int) (f0:0<=f) (f1:f<=255) (f2:f%16=0):Good { m with rf:=f } :=
 ⟨h.a,⟨f0,f1⟩,h.b,h.c,h.d,h.e,h.h,h.l,f2,h.sp,h.pc,⟨h.rt.cart,h.rt.work,h.rt.high,h.rt.out,h.rt.rom,h.rt.ram⟩,h.outs⟩
theorem good_a {m:M} (h:Good m) (v:Int) (v0:0<=v) (v1:v<=255):Good { m with ra:=v } :=
 ⟨⟨v0,v1⟩,h.f,h.b,h.c,h.d,h.e,h.h,h.l,h.f16,h.sp,h.pc,⟨h.rt.cart,h.rt.work,h.rt.high,h.rt.out,h.rt.rom,h.rt.ram⟩,h.outs⟩
theorem good_sp {m:M} (h:Good m) (v:Int) (v0:0<=v) (v1:v<=65535):Good { m with sp:=v } :=
 ⟨h.a,h.f,h.b,h.c,h.d,h.e,h.h,h.l,h.f16,⟨v0,v1⟩,h.pc,⟨h.rt.cart,h.rt.work,h.rt.high,h.rt.out,h.rt.rom,h.rt.ram⟩,h.outs⟩
theorem good_pc {m:M} (h:Good m) (v:Int) (v0:0<=v) (v1:v<=65535):Good { m with pc:=v } :=
 ⟨h.a,h.f,h.b,h.c,h.d,h.e,h.h,h.l,h.f16,h.sp,⟨v0,v1⟩,⟨h.rt.cart,h.rt.work,h.rt.high,h.rt.out,h.rt.rom,h.rt.ram⟩,h.outs⟩
theorem good_i {m:M} (h:Good m) (i j:Bool) (c:Int):Good { m with ime:=i,hal:=j,cyc:=c } :=
 ⟨h.a,h.f,h.b,h.c,h.d,h.e,h.h,h.l,h.f16,h.sp,h.pc,⟨h.rt.cart,h.rt.work,h.rt.high,h.rt.out,h.rt.rom,h.rt.ram⟩,h.outs⟩
theorem fl_bd (z n h c:Bool):0<=fl z n h c/\fl z n h c<=255/\fl z n h c%16=0:=by cases z <;> cases n <;> cases h <;> cases c <;> decide
theorem fl_good {m:M} (h:Good m) (z n k c:Bool):Good { m with rf:=fl z n k c }:=good_f h _ (fl_bd z n k c).1 (fl_bd z n k c).2.1 (fl_bd z n k c).2.2
theorem af_good {s:S} (h:Good s.m) (p:Int × Int) (a0:0<=p.1) (a1:p.1<=255) (f0:0<=p.2) (f1:p.2<=255) (f2:p.2%16=0):Good (AF s p).m:=good_f (good_a h p.1 a0 a1) p.2 f0 f1 f2
theorem push_good {s:S} (h:Good s.m) (v:Int) (v0:0<=v) (v1:v<=65535):Good (push s v).m:=by
 have hsp:=h.sp
 exact good_sp (wr_good (wr_good h _ _ (by omega) (by omega)) _ _ (by omega) (by omega)) _ (by omega) (by omega)
theorem popV_bd (m:M):0<=popV m/\popV m<=65535:=by
 have h1:=rd_bd m m.sp
 have h2:=rd_bd m ((m.sp+1)%65536)
 unfold popV;omega
theorem popM_good {m:M} (h:Good m):Good (popM m):=good_sp h _ (by omega) (by omega)
theorem setQ_good {m:M} (h:Good m) (p v:Int) (v0:0<=v) (v1:v<=65535):Good (setQ m p v):=by
 unfold setQ
 split
 ·exact good_f (good_a h (v / 256) (by omega) (by omega)) _ (by omega) (by omega) (by omega)
 ·exact setP_good h p v v0 v1
theorem bits_le {a b:Int} (a0:0<=a) (a1:a<=255) (b0:0<=b) (b1:b<=255):(0<=bits .and .i64 a b/\bits .and .i64 a b<=255)/\(0<=bits .or .i64 a b/\bits .or .i64 a b<=255)/\(0<=bits .xor .i64 a b/\bits .xor .i64 a b<=255):=by
 have h1:a.toNat &&& b.toNat<2 ^ 8:=Nat.and_lt_two_pow _ (by omega)
 have h2:a.toNat ||| b.toNat<2 ^ 8:=Nat.or_lt_two_pow (by omega) (by omega)
 have h3:a.toNat ^^^ b.toNat<2 ^ 8:=Nat.xor_lt_two_pow (by omega) (by omega)
 rw [bits_and a0 a1 b0 b1,bits_or a0 a1 b0 b1,bits_xor a0 a1 b0 b1]
 omega
theorem alu_bd {op a b f:Int} (a0:0<=a) (a1:a<=255) (b0:0<=b) (b1:b<=255) (o0:0<=op) (o1:op<=7):0<=(aluR op a b f).1/\(aluR op a b f).1<=255/\0<=(aluR op a b f).2/\(aluR op a b f).2<=255/\(aluR op a b f).2%16=0:=by
 obtain ⟨k1,k2,k3⟩:=bits_le a0 a1 b0 b1
 have ho:op=0 \/ op=1 \/ op=2 \/ op=3 \/ op=4 \/ op=5 \/ op=6 \/ op=7:=by omega
 rcases ho with rfl|rfl|rfl|rfl|rfl|rfl|rfl|rfl
 ·rw [aluR_0];exact ⟨by show 0<=(_:Int)%256;omega,by show (_:Int)%256<=255;omega,fl_bd _ _ _ _⟩
 ·rw [aluR_1];exact ⟨by show 0<=(_:Int)%256;omega,by show (_:Int)%256<=255;omega,fl_bd _ _ _ _⟩
 ·rw [aluR_2];exact ⟨by show 0<=(_:Int)%256;omega,by show (_:Int)%256<=255;omega,fl_bd _ _ _ _⟩
 ·rw [aluR_3];exact ⟨by show 0<=(_:Int)%256;omega,by show (_:Int)%256<=255;omega,fl_bd _ _ _ _⟩
 ·rw [aluR_4];exact ⟨k1.1,k1.2,fl_bd _ _ _ _⟩
 ·rw [aluR_5];exact ⟨k3.1,k3.2,fl_bd _ _ _ _⟩
 ·rw [aluR_6];exact ⟨k2.1,k2.2,fl_bd _ _ _ _⟩
 ·rw [aluR_7,aluR_2];exact ⟨a0,a1,fl_bd _ _ _ _⟩
theorem st8_bd {v f:Int} (d:Bool):0<=(st8R v f d).1/\(st8R v f d).1<=255/\0<=(st8R v f d).2/\(st8R v f d).2<=255/\(st8R v f d).2%16=0:=by
 unfold st8R
 split
 ·exact ⟨by show 0<=(_:Int)%256;omega,by show (_:Int)%256<=255;omega,fl_bd _ _ _ _⟩
 ·exact ⟨by show 0<=(_:Int)%256;omega,by show (_:Int)%256<=255;omega,fl_bd _ _ _ _⟩
theorem aw_bd (a b f:Int):0<=(awR a b f).1/\(awR a b f).1<=65535/\0<=(awR a b f).2/\(awR a b f).2<=255/\(awR a b f).2%16=0:=⟨by show 0<=(_:Int)%65536;omega,by show (_:Int)%65536<=65535;omega,fl_bd _ _ _ _⟩
theorem as_bd (a b:Int):0<=(asR a b).1/\(asR a b).1<=65535/\0<=(asR a b).2/\(asR a b).2<=255/\(asR a b).2%16=0:=⟨by show 0<=(_:Int)%65536;omega,by show (_:Int)%65536<=65535;omega,fl_bd _ _ _ _⟩
theorem daa_bd (a f:Int):0<=(daaR a f).1/\(daaR a f).1<=255/\0<=(daaR a f).2/\(daaR a f).2<=255/\(daaR a f).2%16=0:=⟨by show 0<=(_:Int)%256;omega,by show (_:Int)%256<=255;omega,fl_bd _ _ _ _⟩
theorem trnP_bd {op v c:Int} (v0:0<=v) (v1:v<=255) (c0:0<=c) (c1:c<=1):0<=(trnP op v c).1/\(trnP op v c).1<=255:=by
 unfold trnP
 repeat' split
 all_goals simp only []
 all_goals omega
theorem trn_bd {op v f:Int} (v0:0<=v) (v1:v<=255):0<=(trnR op v f).1/\(trnR op v f).1<=255/\0<=(trnR op v f).2/\(trnR op v f).2<=255/\(trnR op v f).2%16=0:=by
 obtain ⟨c0,c1⟩:=cy_bd f
 have h:=trnP_bd (op:=op) v0 v1 c0 c1
 exact ⟨h.1,h.2,fl_bd _ _ _ _⟩
theorem bitV_cases (y:Int):bitV y=1 \/ bitV y=2 \/ bitV y=4 \/ bitV y=8 \/ bitV y=16 \/ bitV y=32 \/ bitV y=64 \/ bitV y=128:=by
 unfold bitV
 repeat' split
 all_goals decide
theorem andNot_all:∀ (v:Fin 256) (k:Fin 8),0<=bits .andNot .i64 (v.val:Int) (2 ^ k.val:Int)/\bits .andNot .i64 (v.val:Int) (2 ^ k.val:Int)<=255:=by decide +kernel
theorem bitV_pow (y:Int):∃ k:Fin 8,bitV y=2 ^ k.val:=by
 rcases bitV_cases y with h|h|h|h|h|h|h|h
 all_goals first|exact ⟨0,h⟩|exact ⟨1,h⟩|exact ⟨2,h⟩|exact ⟨3,h⟩|exact ⟨4,h⟩|exact ⟨5,h⟩|exact ⟨6,h⟩|exact ⟨7,h⟩
theorem andNot_bd {v:Int} (v0:0<=v) (v1:v<=255) (y:Int):0<=bits .andNot .i64 v (bitV y)/\bits .andNot .i64 v (bitV y)<=255:=by
 obtain ⟨k,hk⟩:=bitV_pow y
 have h:=andNot_all ⟨v.toNat,by omega⟩ k
 rw [hk]
 have e:((v.toNat:Nat):Int)=v:=by omega
 simpa [e] using h
theorem orBit_bd {v:Int} (v0:0<=v) (v1:v<=255) (y:Int):0<=bits .or .i64 v (bitV y)/\bits .or .i64 v (bitV y)<=255:=by
 have h:=bitV_cases y
 exact (bits_le v0 v1 (by omega) (by omega)).2.1
theorem cb_good {s:S} (h:Good s.m) (code:Int):Good (cbE code s).m:=by
 have hg:=get_bd h (code%8)
 unfold cbE
 split
 ·have ht:=trn_bd (op:=code / 8%8) (f:=s.m.rf) hg.1 hg.2
  exact good_f (put_good h _ _ ht.1 ht.2.1) _ ht.2.2.1 ht.2.2.2.1 ht.2.2.2.2
 ·split
  ·exact fl_good h _ _ _ _
  ·split
   ·have ht:=andNot_bd hg.1 hg.2 (code / 8%8)
    exact put_good h _ _ ht.1 ht.2
   ·have ht:=orBit_bd hg.1 hg.2 (code / 8%8)
    exact put_good h _ _ ht.1 ht.2
theorem odd_good {s:S} (h:Good s.m) (y:Int):Good (oddE y s).m:=by
 have ha:=h.a
 unfold oddE
 split
 ·have ht:=daa_bd s.m.ra s.m.rf
  exact af_good h _ ht.1 ht.2.1 ht.2.2.1 ht.2.2.2.1 ht.2.2.2.2
 ·split
  ·have ht:=fl_bd (zB s.m.rf) true true (cB s.m.rf)
   exact af_good h _ (by simp only [];omega) (by simp only [];omega) ht.1 ht.2.1 ht.2.2
  ·split
   ·exact fl_good h _ _ _ _
   ·split
    ·exact fl_good h _ _ _ _
    ·have ht:=trn_bd (op:=y) (f:=s.m.rf) ha.1 ha.2
     have hf:=fl_bd false false false (cB (trnR y s.m.ra s.m.rf).2)
     exact af_good h _ ht.1 ht.2.1 hf.1 hf.2.1 hf.2.2
theorem sgn_bd (b:Int):-128<=sgn b/\sgn b<=127:=ReckM.sgn_bd b
theorem stepHl_good {m:M} (h:Good m) (p:Int):Good (stepHl m p):=by
 unfold stepHl
 split
 ·exact setP_good h 2 _ (by omega) (by omega)
 ·exact h
def ImmOk (code:Int) (cb:Bool) (imm:Int):Prop:=cb=true \/ (0<=imm/\imm<=65535/\((code<64->code%8 ≠ 1->¬ (code%8=0/\code / 8=1)->imm<=255)/\(code=224 \/ code=240 \/ code=232 \/ code=248 \/ (192<=code/\code%8=6)->imm<=255)))
theorem low_good {s:S} (h:Good s.m) (code imm:Int) (c0:0<=code) (c1:code<64) (hi:ImmOk code false imm):Good (lowE code imm s).1.m:=by
 rcases hi with hi|⟨i0,i1,i2,i3⟩
 ·cases hi
 have hsp:=h.sp
 have hpc:=h.pc
 have hs:=sgn_bd imm
 unfold lowE
 split
 ·split
  ·exact wr_good (wr_good h _ _ (by omega) (by omega)) _ _ (by omega) (by omega)
  ·split
   ·exact good_pc h _ (by omega) (by omega)
   ·exact h
 ·split
  ·split
   ·exact setP_good h _ _ i0 i1
   ·have ht:=aw_bd (hl s.m) (pr s.m (code / 8 / 2)) s.m.rf
    exact good_f (setP_good h 2 _ ht.1 ht.2.1) _ ht.2.2.1 ht.2.2.2.1 ht.2.2.2.2
  ·split
   ·split
    ·exact stepHl_good (wr_good h _ _ h.a.1 h.a.2) _
    ·have hr:=rd_bd s.m (placeOf s.m (code / 8 / 2))
     exact stepHl_good (good_a h _ hr.1 hr.2) _
   ·split
    ·exact setP_good h _ _ (by omega) (by omega)
    ·split
     ·have ht:=st8_bd (v:=get s.m (code / 8)) (f:=s.m.rf) false
      exact good_f (put_good h _ _ ht.1 ht.2.1) _ ht.2.2.1 ht.2.2.2.1 ht.2.2.2.2
     ·split
      ·have ht:=st8_bd (v:=get s.m (code / 8)) (f:=s.m.rf) true
       exact good_f (put_good h _ _ ht.1 ht.2.1) _ ht.2.2.1 ht.2.2.2.1 ht.2.2.2.2
      ·split
       ·exact put_good h _ _ i0 (i2 c1 (by omega) (by omega))
       ·exact odd_good h _
theorem call_good {s:S} (h:Good s.m) (v:Int) (v0:0<=v) (v1:v<=65535):Good (callE v s).m:=good_pc (push_good h _ h.pc.1 h.pc.2) _ v0 v1
theorem iteG {c:Prop} [Decidable c] {x y:S × Bool} (h1:c->Good x.1.m) (h2:¬ c->Good y.1.m):Good (if c then x else y).1.m:=by
 by_cases h:c
 ·rw [if_pos h];exact h1 h
 ·rw [if_neg h];exact h2 h
theorem top_good {s:S} (h:Good s.m) (code imm:Int) (c0:192<=code) (c1:code<=255) (hi:ImmOk code false imm):Good (topE code imm s).1.m:=by
 rcases hi with hi|⟨i0,i1,i2,i3⟩
 ·cases hi
 have hv:=popV_bd s.m
 have ht:=as_bd s.m.sp imm
 unfold topE
 refine iteG (fun _=>good_i (good_pc (popM_good h) _ hv.1 hv.2) _ _ _) (fun _=>?_)
 refine iteG (fun _=>wr_good h _ _ h.a.1 h.a.2) (fun _=>?_)
 refine iteG (fun _=>wr_good h _ _ h.a.1 h.a.2) (fun _=>?_)
 refine iteG (fun _=>good_a h _ (rd_bd _ _).1 (rd_bd _ _).2) (fun _=>?_)
 refine iteG (fun _=>good_a h _ (rd_bd _ _).1 (rd_bd _ _).2) (fun _=>?_)
 refine iteG (fun _=>wr_good h _ _ h.a.1 h.a.2) (fun _=>?_)
 refine iteG (fun _=>good_a h _ (rd_bd _ _).1 (rd_bd _ _).2) (fun _=>?_)
 refine iteG (fun _=>good_f (good_sp h _ ht.1 ht.2.1) _ ht.2.2.1 ht.2.2.2.1 ht.2.2.2.2) (fun _=>?_)
 refine iteG (fun _=>good_f (setP_good h 2 _ ht.1 ht.2.1) _ ht.2.2.1 ht.2.2.2.1 ht.2.2.2.2) (fun _=>?_)
 refine iteG (fun _=>good_sp h _ (hl_bd h).1 (hl_bd h).2) (fun _=>?_)
 refine iteG (fun _=>good_pc h _ (hl_bd h).1 (hl_bd h).2) (fun _=>?_)
 refine iteG (fun _=>setQ_good (popM_good h) _ _ hv.1 hv.2) (fun _=>?_)
 refine iteG (fun _=>push_good h _ (prQ_bd h _).1 (prQ_bd h _).2) (fun _=>?_)
 refine iteG (fun _=>good_pc h _ i0 i1) (fun _=>?_)
 refine iteG (fun _=>good_i h _ _ _) (fun _=>?_)
 refine iteG (fun _=>call_good h _ i0 i1) (fun _=>?_)
 refine iteG (fun h6=>?_) (fun _=>?_)
 ·have ht:=alu_bd (op:=code / 8%8) (f:=s.m.rf) h.a.1 h.a.2 i0 (i3 (.inr (.inr (.inr (.inr ⟨c0,h6⟩))))) (by omega) (by omega)
  exact af_good h _ ht.1 ht.2.1 ht.2.2.1 ht.2.2.2.1 ht.2.2.2.2
 refine iteG (fun _=>call_good h _ (by omega) (by omega)) (fun _=>h)
theorem sem_good {s:S} (h:Good s.m) (code:Int) (cb:Bool) (imm:Int) (c0:0<=code) (c1:code<=255) (hi:ImmOk code cb imm):Good (sem code cb imm s).1.m:=by
 unfold sem
 split
 ·exact cb_good h code
 have hcb:cb=false:=by cases cb <;> simp_all
 subst hcb
 split
 ·exact low_good h code imm c0 (by assumption) hi
 split
 ·exact good_i h _ _ _
 split
 ·exact put_good h _ _ (get_bd h _).1 (get_bd h _).2
 split
 ·have ht:=alu_bd (op:=code / 8%8) (f:=s.m.rf) h.a.1 h.a.2 (get_bd h (code%8)).1 (get_bd h (code%8)).2 (by omega) (by omega)
  exact af_good h _ ht.1 ht.2.1 ht.2.2.1 ht.2.2.2.1 ht.2.2.2.2
 ·exact top_good h code imm (by omega) c1 hi
end Go.Proofs.YtkfehdkjeodbmaaGreatDoor.Stpq
namespace Go.Proofs.YtkfehdkjeodbmaaGreatDoor.Qtail
open Go.RowKit
def anyT (P:Program) (md:Region.Mode) (ops:Array Oper) (C:World->Prop) (n:Nat) (L:Array Bool->Act->Prop):Nat->Array Bool->Act->Prop
 | 0,listed,a=>L listed a
 | f+1,listed,a =>
  Region.ready md ops listed ≠ []/\∀ i ∈ Region.ready md ops listed,i<n/\qOp P ops C i (anyT P md ops C n L f (listed.setIfInBounds i true)) a
theorem any_of_head {P:Program} {ops:Array Oper} {md:Region.Mode} {C:World->Prop} {n g:Nat} {L:Array Bool->Act->Prop} {Q':Exit->Act->World->Prop} (hL:∀ listed a w,C w->L listed a->wpAny P md ops Q' g listed a w) :
  ∀ (f:Nat) (listed:Array Bool) (a:Act) (w:World),C w->anyT P md ops C n L f listed a->wpAny P md ops Q' (f+g) listed a w
 | 0,listed,a,w,hw,h=>by rw [Nat.zero_add];exact hL _ _ _ hw h
 | f+1,listed,a,w,hw,h=>by
  rw [show f+1+g=(f+g)+1 by omega]
  exact ⟨fun h0=>absurd h0 h.1,fun i hi=>wpOp_of_qOp hw (fun a' w' hw' h'=>any_of_head hL f _ a' w' hw' h') (h.2 i hi).2⟩
theorem anyT_first {P:Program} {ops:Array Oper} {md:Region.Mode} {C:World->Prop} {n i:Nat} {oi:Oper} {v:Value} {L:Array Bool->Act->Prop} (hi:ops[i]? = some oi) (hsel:∀ (j:Nat) (o:Oper) cs b,ops[j]? = some o->o.op ≠ .select cs b)
  (hs:Region.sinkB md ops n=true) (hc:Region.chainB md ops n=true) (hn:n<ops.size) (hin:i<n)
  (hdone:∀ listed a,L listed a->∀ j ∈ Region.ready md ops listed,n<=j) :
  ∀ (f:Nat) (listed:Array Bool) (a:Act),HeadInv md ops n listed ->
   (∀ j oj,ops[j]? = some oj->j ≠ i->listed.getD j true=false->(∀ e ∈ oj.after,Region.binds md e=true->e.on ≠ i)->oi.apart ops oj=true) ->
   i ∈ Region.ready md ops listed->YieldsIn P ops C oi v a ->
   anyT P md ops C n L f (listed.setIfInBounds i true) (a.put oi.dst v)->anyT P md ops C n L (f+1) listed a:=by
 intro f
 induction f with
 | zero =>
  intro listed a inv _ hr hy H
  have hun:=(mem_ready.1 hr).1
  refine ⟨fun h=>(by rw [h] at hr;cases hr),fun j hj=>?_⟩
  have hjn:j<n:=by
   rcases Nat.lt_or_ge j n with h|h
   ·exact h
   ·exact absurd hj (tail_waits hs hc hn inv _ i rfl hin hun j h)
  refine ⟨hjn,?_⟩
  by_cases hji:j=i
  ·subst hji;exact hy.qOp hi H
  ·have:=hdone _ _ H j (ready_mono hj hji)
   omega
 | succ f ih =>
  intro listed a inv hfree hr hy H
  have hun:=(mem_ready.1 hr).1
  refine ⟨fun h=>(by rw [h] at hr;cases hr),fun j hj=>?_⟩
  have hjn:j<n:=by
   rcases Nat.lt_or_ge j n with h|h
   ·exact h
   ·exact absurd hj (tail_waits hs hc hn inv _ i rfl hin hun j h)
  refine ⟨hjn,?_⟩
  by_cases hji:j=i
  ·subst hji;exact hy.qOp hi H
  ·have h1:=(H.2 j (ready_mono hj hji)).2
   obtain ⟨hjun,oj,hoj,hall⟩:=mem_ready.1 hj
   have hnot:∀ e ∈ oj.after,Region.binds md e=true->e.on ≠ i:=fun e he hb heq=>by
    have h1:=hall e he hb
    rw [heq,getD_both hun] at h1
    cases h1
   have h2:=qOp_put hoj (hfree j oj hoj hji hjun hnot) (fun cs b=>hsel i oi cs b hi) (fun cs b=>hsel j oj cs b hoj) hy h1
   have hfree':∀ k ok,ops[k]? = some ok->k ≠ i->(listed.setIfInBounds j true).getD k true=false ->
     (∀ e ∈ ok.after,Region.binds md e=true->e.on ≠ i)->oi.apart ops ok=true:=fun k ok hk hki hun hno=>by
    refine hfree k ok hk hki ?_ hno
    by_cases hjk:j=k
    ·subst hjk;exact hjun
    ·rw [getD_set_ne true hjk] at hun;exact hun
   refine qOp_mono (fun a' h3=>ih (listed.setIfInBounds j true) a' (inv.set hj hjn) hfree' (ready_mono hr (Ne.symm hji)) h3.1 ?_) h2
   rw [Array.setIfInBounds_comm _ _ hji]
   exact h3.2
theorem anyT_lex {P:Program} {ops:Array Oper} {md:Region.Mode} {C:World->Prop} {n g:Nat} {Lq:Act->Prop} (hsel:Region.noSelect ops=true) (hs:Region.sinkB md ops n=true) (hc:Region.chainB md ops n=true) (hn:n<ops.size) :
  ∀ (l:List Oper) (k:Nat) (listed:Array Bool) (a:Act),(∀ j,j<l.length->l[j]? = ops[k+j]?)->k+l.length=n->HeadInv md ops n listed ->
  Region.lexHead md ops g l.length k listed=true->wpQuiet P ops C Lq l a ->
  anyT P md ops C n (fun listed' a'=>Region.seqB md ops g n listed'=true/\Lq a') l.length listed a
 | [],k,listed,a,_,hk,_,hB,h=>by
  have:k=n:=by simpa using hk
  subst this
  exact ⟨by simpa [Region.lexHead] using hB,h⟩
 | o :: l,k,listed,a,hl,hk,inv,hB,h=>by
  have h0:ops[k]? = some o:=by simpa using (hl 0 (by simp)).symm
  simp only [List.length_cons,Region.lexHead,Bool.and_eq_true] at hB
  obtain ⟨⟨hr,hf⟩,hB'⟩:=hB
  have hkn:k<n:=by simp only [List.length_cons] at hk;omega
  have hr':k ∈ Region.ready md ops listed:=by simpa using hr
  have hst:qOp P ops C k (wpQuiet P ops C Lq l) a:=by unfold qOp;simp only [h0];exact h
  obtain ⟨v,hy,hK⟩:=yieldsIn_of_qOp h0 hst
  exact anyT_first h0 (Region.noSelect_spec hsel) hs hc hn hkn (fun listed' a' hL=>seqB_ready hL.1) l.length listed a inv (Region.free_spec h0 hf) hr' hy
   (anyT_lex hsel hs hc hn l (k+1) _ _ (fun j hj=>by have:=hl (j+1) (by simp;omega);simpa [Nat.add_assoc,Nat.add_comm 1 j] using this) (by simp only [List.length_cons] at hk;omega) (inv.set hr' hkn) hB' hK)
theorem region_tail {P:Program} {C:World->Prop} {id:Nat} {Q:Exit->Act->World->Prop} {a:Act} {w:World} {l:List Oper} (n:Nat) (hm:P.follows .mixedOrders=true) (hB:Region.lexTailB .any l.toArray n=true) (hC:C { w with drawn:=w.drawn+1 })
  (h:wpQuiet P l.toArray C (fun a'=>∀ w',C w'->wpList P l.toArray Q (l.drop n) a' w') (l.take n) a):(Code.region id l.toArray true).wp P Q a w:=by
 simp only [Region.lexTailB,Bool.and_eq_true,decide_eq_true_eq] at hB
 obtain ⟨⟨⟨⟨hsel,hn⟩,hs⟩,hc⟩,hlex⟩:=hB
 have hn':n<l.length:=by simpa using hn
 have htl:(l.take n).length=n:=by simp;omega
 have hdl:(l.drop n).length=l.toArray.size-n:=by simp
 have inv0:HeadInv .any l.toArray n (Array.replicate l.toArray.size false) :=
  ⟨by simp,fun j oj _ hl=>(by rw [getD_replicate_false] at hl;cases hl),fun t _ ht=>getD_in (by simpa using ht) (getD_replicate_false _ _)⟩
 have H:=anyT_lex (md:=.any) (g:=l.toArray.size-n) hsel hs hc hn (l.take n) 0 _ a (fun j hj=>by
  have hj':j<n:=by rw [htl] at hj;exact hj
  simp [hj']) (by simpa using htl) inv0 (by rw [htl];exact hlex) h
 refine wp_region_any hm ?_
 have:=any_of_head (Q':=Q) (g:=l.toArray.size-n) (fun listed a' w' hw' hL=>by
  have:=wpAny_of_seq (md:=.any) (Q':=Q) (l.drop n) n listed a' w' (fun j=>by simp [List.getElem?_drop]) (by rw [hdl];exact hL.1) (hL.2 w' hw')
  rwa [hdl] at this) _ _ _ { w with drawn:=w.drawn+1 } hC H
 rw [htl,show n+(l.toArray.size-n)=l.toArray.size by omega] at this
 exact this
theorem tail_below {P:Program} {id:Nat} {Q:Exit->Act->World->Prop} {a:Act} {w:World} {l:List Oper} (n:Nat) (hm:P.follows .mixedOrders=true) (hB:Region.lexTailB .any l.toArray n=true)
  (h:wpQuiet P l.toArray (fun w'=>∃ p:Regrown,w'=Go.Sort.grow (redrawn w p.d) p.os) (fun a'=>∀ w',(∃ p:Regrown,w'=Go.Sort.grow (redrawn w p.d) p.os)->wpList P l.toArray Q (l.drop n) a' w') (l.take n) a):(Code.region id l.toArray true).wp P Q a w :=
 region_tail (C:=fun w'=>∃ p:Regrown,w'=Go.Sort.grow (redrawn w p.d) p.os) n hm hB ⟨⟨w.drawn+1,#[]⟩,by rw [Go.Sort.grow_empty];rfl⟩ h
end Go.Proofs.YtkfehdkjeodbmaaGreatDoor.Qtail
