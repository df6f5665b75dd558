import Derived.Test.YteglcgnhhoenbaaGreatDoorP17
set_option linter.all false
set_option maxRecDepth 20000
set_option maxHeartbeats 8000000
open Go.ChangeShapes Go.WideShapes Go.ChangeAt Go.RowKit
open Go.Proofs.Tryz
namespace Go.Proofs.YteglcgnhhoenbaaGreatDoor
namespace Busm
open Go.Deep
open Carts CartK CartL Outs Mach MachT Busw Busx Busy
def Open (w:World) (po:Option Addr) (n:Nat):Prop:=∀ i,i<n->∃ b off,po=some ⟨b,off,none⟩/\b<w.heap.size/\(∃ z,w.cell? ⟨b,off+i,none⟩=some (.int .i64 z))/\w.frozen? ⟨b,off+i,none⟩=false
def Is (w:World) (po:Option Addr) (n:Nat) (f:Nat->Int):Prop:=∀ i,i<n->∃ b off,po=some ⟨b,off,none⟩/\b<w.heap.size/\w.cell? ⟨b,off+i,none⟩=some (.int .i64 (f i))
def blockOf (po:Option Addr):Option Nat:=po.map (·.block)
theorem addr_ne {b off i j:Nat} (h:i ≠ j):(⟨b,off+i,none⟩ : Addr) ≠ ⟨b,off+j,none⟩:=fun e=>by
 injection e with _ e2;omega
structure Mid (w wr:World) (po:Option Addr) (n k:Nat) (k0:Int):Prop where
 grown:w.grownBy wr (blockOf po)
 size:wr.heap.size=w.heap.size
 done:Is wr po k (fun i=>k0+i)
 left:∀ i,k<=i->i<n->∀ b off,po=some ⟨b,off,none⟩->wr.cell? ⟨b,off+i,none⟩=w.cell? ⟨b,off+i,none⟩
 froz:∀ a,wr.frozen? a=w.frozen? a
theorem Mid.start (w:World) (po:Option Addr) (n:Nat) (k0:Int):Mid w w po n 0 k0:=⟨⟨rfl,rfl,rfl,Nat.le_refl _,fun _ _ _=>rfl⟩,rfl,fun i h=>absurd h (by omega),fun _ _ _ _ _ _=>rfl,fun _=>rfl⟩
theorem Mid.next {w wr:World} {b off n k:Nat} {k0:Int} (h:Mid w wr (some ⟨b,off,none⟩) n k k0) (ho:Open w (some ⟨b,off,none⟩) n) (hk:k<n):Mid w (wr.setCell ⟨b,off+k,none⟩ (.int .i64 (k0+k))) (some ⟨b,off,none⟩) n (k+1) k0:=by
 have hcur:∃ z,wr.cell? ⟨b,off+k,none⟩=some (.int .i64 z):=by
  obtain ⟨b',off',e,_,⟨z,hz⟩,_⟩:=ho k hk
  cases e
  exact ⟨z,(h.left k (Nat.le_refl _) hk b off rfl).trans hz⟩
 have hb:b<w.heap.size:=by
  obtain ⟨b',off',e,hb,_⟩:=ho k hk
  cases e;exact hb
 obtain ⟨z,hz⟩:=hcur
 refine ⟨⟨h.grown.os,h.grown.tape,h.grown.output,by rw [Busw.size_set,h.size];exact Nat.le_refl _,fun j hj hne=>?_⟩,by rw [Busw.size_set,h.size],fun i hi=>⟨b,off,rfl,by rw [Busw.size_set,h.size];exact hb,?_⟩,fun i h1 h2 b' off' e=>?_,fun a=>by rw [World.frozen?_setCell,h.froz]⟩
 ·rw [Below.heap_setCell _ _ _ _ (fun e=>hne (by rw [e];rfl)),h.grown.block j hj hne]
 ·by_cases e:i=k
  ·subst e;exact World.cell?_setCell_same (h:=hz) ..
  ·rw [World.cell?_setCell_other (h:=addr_ne (b:=b) (off:=off) (i:=k) (j:=i) (fun x=>e x.symm))]
   obtain ⟨b',off',e',_,hc⟩:=h.done i (by omega)
   cases e';exact hc
 ·cases e
  rw [World.cell?_setCell_other (h:=addr_ne (b:=b) (off:=off) (i:=k) (j:=i) (by omega))]
  exact h.left i (by omega) h2 b off rfl
theorem markInt64S_any (po:Option Addr) (n cap:Nat) (k0:Int) (w:World) (ho:Open w po n) (hn:n<=1048576) (hk0:0<=k0) (hk1:k0<=1048576) :
  Calls prog 66 #[.slice po n cap,.int .i64 k0] w fun e w'=>e=.returned (.int .i64 (k0+n))/\Mid w w' po n n k0:=by
 have HO:Hid (Open w po n):=ho
 clear ho
 go_enter func66,ntmps66
 go_wp2
 go_loopw [5,1] (fun i q wr=>∃ k:Nat,k<=n/\i=.int .i64 k/\q=.int .i64 (k0+k)/\Hid (Mid w wr po n k k0)) (fun i _ _=>n-(intOf i).toNat)
 case atStart=>exact ⟨0,Nat.zero_le _,rfl,by simp,Mid.start w po n k0⟩
 case round =>
  obtain ⟨k,hk,rfl,rfl,hm⟩:=hrel
  by_cases hlt:k<n
  ·obtain ⟨b,off,rfl,hb,⟨z,hz⟩,hf⟩:=HO.out k hlt
   have q1:=(hm.out.left k (Nat.le_refl _) hlt b off rfl).trans hz
   have q2:=(hm.out.froz _).trans hf
   have HNX:Hid _:=hm.out.next HO.out hlt
   clear hm hz hf
   have k0':(0:Int)<=(k:Int):=by omega
   have k1:(k:Int)<(n:Int):=by omega
   go_wp2
   go_roundw
   case rel=>exact ⟨k+1,by omega,by go_num,by go_num,HNX⟩
   case measure=>simp [intOf];omega
  ·have e:k=n:=by omega
   subst e
   go_wp2
   go_ret
   exact ⟨rfl,hm.out⟩
theorem heldInt64S_any (po:Option Addr) (n cap:Nat) (k0:Int) (w:World) (hi:Is w po n (fun i=>k0+i)) (hn:n<=1048576) (hk0:0<=k0) (hk1:k0<=1048576) :
  Calls prog 67 #[.slice po n cap,.int .i64 k0] w fun e w'=>e=.returned (.int .i64 (k0+n))/\w'=w:=by
 have HI:Hid (Is w po n (fun i=>k0+i)):=hi
 clear hi
 go_enter func67,ntmps67
 go_wp2
 go_loopw [5,1] (fun i q wr=>∃ k:Nat,k<=n/\i=.int .i64 k/\q=.int .i64 (k0+k)/\wr=w) (fun i _ _=>n-(intOf i).toNat)
 case atStart=>exact ⟨0,Nat.zero_le _,rfl,by simp,rfl⟩
 case round =>
  obtain ⟨k,hk,rfl,rfl,rfl⟩:=hrel
  by_cases hlt:k<n
  ·obtain ⟨b,off,rfl,hb,hz⟩:=HI.out k hlt
   have k0':(0:Int)<=(k:Int):=by omega
   have k1:(k:Int)<(n:Int):=by omega
   go_wp2
   go_roundw
   case rel=>exact ⟨k+1,by omega,by go_num,by go_num,trivial⟩
   case measure=>simp [intOf];omega
  ·have e:k=n:=by omega
   subst e
   go_wp2
   go_ret
   exact ⟨rfl,rfl⟩
theorem open_alloc {w:World} {po:Option Addr} {n:Nat} (h:Open w po n) (o:Obj):Open (w.alloc o) po n:=fun i hi=>by
 obtain ⟨b,off,e,hb,⟨z,hz⟩,hf⟩:=h i hi
 exact ⟨b,off,e,by simp;omega,⟨z,(((Below.refl _ w).alloc (Nat.le_refl _) o).cell (p:=⟨b,_,none⟩) hb).trans hz⟩,by rw [World.frozen?_of_block (a:=⟨b,off+i,none⟩) (alloc_kept _ _ hb)];exact hf⟩
theorem is_alloc {w:World} {po:Option Addr} {n:Nat} {f:Nat->Int} (h:Is w po n f) (o:Obj):Is (w.alloc o) po n f:=fun i hi=>by
 obtain ⟨b,off,e,hb,hz⟩:=h i hi
 exact ⟨b,off,e,by simp;omega,(((Below.refl _ w).alloc (Nat.le_refl _) o).cell (p:=⟨b,_,none⟩) hb).trans hz⟩
theorem markMachine_any (m:M) (po:Option Addr) (cap:Nat) (w:World) (ho:Open w po m.out.length) (hn:m.out.length<=1048576) :
  Calls prog 26 #[.agg (cellsM m po cap),.int .i64 1] w fun e w'=>e=.returned (.int .i64 (1+m.out.length))/\∃ o,Mid (w.alloc o) w' po m.out.length m.out.length 1:=by
 have HO:Hid (Open w po m.out.length):=ho
 obtain ⟨cM,hcM⟩ : ∃ c,c=cellsM m po cap:=⟨_,rfl⟩
 have k0:(w.alloc (.cells cM 30)).cell? ⟨w.heap.size,21,none⟩=some (.slice po m.out.length cap):=by
  rw [hcM];exact celM (heap_alloc_last w _) 21 _ rfl
 rw [<- hcM]
 clear ho hcM
 have c:=fun W h=>markInt64S_any po m.out.length cap 1 W h hn (by decide) (by decide)
 have n0:¬ (1+(m.out.length:Int))<0:=by omega
 go_enter func26,ntmps26
 go_upto_region 1 with fail
 have HO1:Hid (Open (w.alloc (.cells cM 30)) po m.out.length):=open_alloc HO.out _
 go_wp2_with fail
 refine Calls.mono (c _ HO1.out) ?_
 rintro e w1 ⟨rfl,hm⟩
 have HM:Hid _:=hm
 clear hm
 go_wp2
 go_ret
 exact ⟨rfl,_,HM.out⟩
theorem heldMachine_any (m:M) (po:Option Addr) (cap:Nat) (w:World) (ho:Is w po m.out.length (fun i=>1+i)) (hn:m.out.length<=1048576) :
  Calls prog 28 #[.agg (cellsM m po cap),.int .i64 1] w fun e w'=>e=.returned (.int .i64 (1+m.out.length))/\∃ o,w'=w.alloc o:=by
 have HO:Hid (Is w po m.out.length (fun i=>1+i)):=ho
 obtain ⟨cM,hcM⟩ : ∃ c,c=cellsM m po cap:=⟨_,rfl⟩
 have k0:(w.alloc (.cells cM 30)).cell? ⟨w.heap.size,21,none⟩=some (.slice po m.out.length cap):=by
  rw [hcM];exact celM (heap_alloc_last w _) 21 _ rfl
 rw [<- hcM]
 clear ho hcM
 have c:=fun W h=>heldInt64S_any po m.out.length cap 1 W h hn (by decide) (by decide)
 have n0:¬ (1+(m.out.length:Int))<0:=by omega
 go_enter func28,ntmps28
 go_upto_region 1 with fail
 have HO1:Hid (Is (w.alloc (.cells cM 30)) po m.out.length (fun i=>1+i)):=is_alloc HO.out _
 go_wp2_with fail
 refine Calls.mono (c _ HO1.out) ?_
 rintro e w1 ⟨rfl,rfl⟩
 go_wp2
 go_ret
 exact ⟨rfl,_,rfl⟩
end Busm
namespace Stps
open Go.Deep
open Signed (inB sgn ret_int ret_bool)
open Busw Busx Busy Stpp
structure SG where
 (W0:World)
 (X:Nat)
@[irreducible] def cellsW (m:M) (po:Option Addr) (cap:Nat) (full:Bool):Array Value:=(cellsM m po cap).push (.bool full)
theorem cellsW_def (m:M) (po:Option Addr) (cap:Nat) (full:Bool):cellsW m po cap full=#[.int .i64 m.ra,.int .i64 m.rf,.int .i64 m.rB,.int .i64 m.rC,.int .i64 m.rD,.int .i64 m.rE,.int .i64 m.rH,.int .i64 m.rL,.int .i64 m.sp,.int .i64 m.pc,.bool m.ime,.bool m.hal,.string m.rom,.int .i64 m.kind,.int .i64 m.bank,.string m.ram,.int .i64 m.rb,.bool m.on,.int .i64 m.mode,.string m.work,.string m.high,.slice po m.out.length cap,.int .i64 m.cyc,.bool full]:=by unfold cellsW;rw [cells_def];rfl
theorem cellsW_low {m:M} {po:Option Addr} {cap:Nat} {full:Bool} {j:Nat} {v:Value} (h:(cellsM m po cap).toList[j]? = some v):(cellsW m po cap full)[j]? = some v:=by
 unfold cellsW
 have hj:j<(cellsM m po cap).size:=by
  rcases Nat.lt_or_ge j (cellsM m po cap).toList.length with h1|h1
  ·simpa using h1
  ·rw [List.getElem?_eq_none h1] at h;cases h
 rw [Array.getElem?_push,if_neg (by omega)]
 simpa using h
structure SAt (g:SG) (W:World) (m:M) (full:Bool) (po:Option Addr) (cap:Nat):Prop where
 box:W.heap[g.X]? = some (.cells (cellsW m po cap full) 112 (0,0))
 sl:Sl W po m.out cap
 ne:∀ p,po=some p->p.block ≠ g.X
 grown:g.W0.grownBy W (some g.X)
def InS (g:SG) (W:World) (m:M) (full:Bool):Prop:=∃ po cap,SAt g W m full po cap
theorem run_loadVar_part {P:Program} (w:World) (b:Nat) (t ty:TypeId) (cs cs':Array Value) (fr:Nat × Nat) (d:TypeDesc) (hg:w.heap[b]? = some (.cells cs' t fr)) (hp:∀ (j:Nat) (v:Value),cs.toList[j]? = some v->cs'[j]? = some v)
  (hu:P.underlying ty=some d) (hd:(match d with|.struct _|.array _ _=>true|_=>false)=true) (hi:(P.info? ty).map (·.size)=some cs.size) :
  (loadVar ty ⟨b,0,none⟩).run P w=.ok (.agg cs) w:=by
 have hl:(loadCells ⟨b,0,none⟩ cs.toList.length).run P w=.ok cs.toList.toArray w :=
  run_loadCells_list (P:=P) w ⟨b,0,none⟩ cs.toList (fun j v hv=>by
   have hadd:(⟨b,0,none⟩ : Addr).add j=⟨b,j,none⟩:=by unfold Addr.add;split <;> simp_all
   rw [hadd,cell_of_row w b j cs' t fr hg]
   exact hp j v hv)
 cases hq:P.info? ty with
 | none=>simp [hq] at hi
 | some i =>
  have hs:i.size=cs.size:=by simpa [hq] using hi
  have hagg:(isAgg ty).run P w=.ok true w:=by
   unfold isAgg
   rw [Sem.run_bind,run_underlying hu w]
   cases d <;> simp_all
  simp only [Array.length_toList,Array.toArray_toList] at hl
  simp [loadVar,Sem.run_bind,hagg,sizeOf,typeInfo,hq,hs,hl]
theorem wpList_load_any {P:Program} {ops:Array Oper} {rest:List Oper} {o:Oper} {a:Act} {w:World} {Q:Exit->Act->World->Prop} (hgd:o.guard=none) (ty:TypeId) (x:Operand) (ho:o.op=.load ty x)
  (p:Addr) (hx:a.eval x=.pointer (some p)) (v:Value) (hl:(loadVar ty p).run P w=.ok v w) (h:wpList P ops Q rest (a.put o.dst v) w):wpList P ops Q (o :: rest) a w :=
 wpList_plain hgd fun K hK=>by
  unfold Oper.wp execOp
  simp only [ho,hx,Instr.loadAt,Instr.sureAddr,Sem.run_bind,Sem.run_pure,Result.andThen_ok,hl]
  exact hK _ _ h
theorem wpQuiet_load {P:Program} {ops:Array Oper} {rest:List Oper} {o:Oper} {a:Act} {C:World->Prop} {Q:Act->Prop} (hgd:Region.wanted o (yielded ops a.tmps)=true) (ty:TypeId) (x:Operand) (ho:o.op=.load ty x)
  (p:Addr) (hx:a.eval x=.pointer (some p)) (v:Value) (hl:∀ w,C w->(loadVar ty p).run P w=.ok v w) (h:wpQuiet P ops C Q rest (a.put o.dst v)):wpQuiet P ops C Q (o :: rest) a :=
 wpQuiet_step fun K hK=>by
  rw [if_pos hgd]
  refine ⟨v,fun w hw=>?_,hK _ h⟩
  unfold Oper.quietAt execOp
  simp only [ho,hx,Instr.loadAt,Instr.sureAddr,Sem.run_bind,Sem.run_pure,Result.andThen_ok,hl w hw]
  exact ⟨rfl,rfl⟩
theorem run_storeVar_part {P:Program} (w:World) (b:Nat) (t ty:TypeId) (old cells:Array Value) (hg:w.heap[b]? = some (.cells old t (0,0))) (hi:(P.info? ty).map (·.size)=some cells.size)
  (ho:cells.size<=old.size) (h1:cells.all (·.oneCell')=true) :
  (storeVar ty ⟨b,0,none⟩ (.agg cells)).run P w=.ok () (w.setRow b (cells.toList ++ old.toList.drop cells.size).toArray):=by
 have:=run_storeCells_at P b 0 t cells.toList 0 old w hg (by simpa using ho) (fun v hv=>(Array.all_eq_true_iff_forall_mem.1 h1) v (by simpa using hv))
 cases hq:P.info? ty with
 | none=>simp [hq] at hi
 | some i =>
  have hs:cells.size=i.size:=by simp [hq] at hi;omega
  simp [storeVar,sizeOf,typeInfo,hq,Value.cells,hs] at this |-
  rw [<- hs] at this |-
  simpa using this
theorem wpList_store_part {P:Program} {ops:Array Oper} {rest:List Oper} {o:Oper} {a:Act} {w:World} {Q:Exit->Act->World->Prop} (hgd:o.guard=none) (ty:TypeId) (x y:Operand) (ho:o.op=.store ty x y)
  (b:Nat) (cells:Array Value) (hx:a.eval x=.pointer (some ⟨b,0,none⟩)) (hy:a.eval y=.agg cells) (t:TypeId) (old:Array Value) (hg:w.heap[b]? = some (.cells old t (0,0))) (hi:(P.info? ty).map (·.size)=some cells.size)
  (hold:cells.size<=old.size) (h1:cells.all (·.oneCell')=true)
  (h:wpList P ops Q rest (a.put o.dst undef) (w.setRow b (cells.toList ++ old.toList.drop cells.size).toArray)):wpList P ops Q (o :: rest) a w :=
 wpList_plain hgd fun K hK=>by
  unfold Oper.wp execOp
  simp only [ho,hx,hy,Instr.storeAt,Instr.sureAddr,Sem.run_bind,Sem.run_pure,Result.andThen_ok,run_storeVar_part w b t ty old cells hg hi hold h1]
  exact hK _ _ h
theorem part_W (m m':M) (po po':Option Addr) (cap cap':Nat) (full:Bool):((cellsM m' po' cap').toList ++ (cellsW m po cap full).toList.drop (cellsM m' po' cap').size).toArray=cellsW m' po' cap' full:=by
 rw [size_M,cellsW_def,cellsW_def,cells_def];rfl
theorem size_W (m:M) (po:Option Addr) (cap:Nat) (full:Bool):(cellsW m po cap full).size=24:=by rw [cellsW_def];rfl
theorem SAt.load {g:SG} {W W':World} {m:M} {full:Bool} {po:Option Addr} {cap:Nat} (h:SAt g W m full po cap) (hb:W'.heap[g.X]? = W.heap[g.X]?):(loadVar 30 ⟨g.X,0,none⟩).run prog W'=.ok (.agg (cellsM m po cap)) W' :=
 run_loadVar_part W' g.X _ _ _ _ (0,0) _ (hb.trans h.box) (fun j v hv=>cellsW_low hv) underlying30 rfl (infoMs m po cap)
theorem SAt.lt {g:SG} {W:World} {m:M} {full:Bool} {po:Option Addr} {cap:Nat} (h:SAt g W m full po cap):g.X<W.heap.size:=(zLo h.box)
theorem sl_grown {W W':World} {po:Option Addr} {L:List Int} {cap X:Nat} (h:Sl W po L cap) (hne:∀ p,po=some p->p.block ≠ X) (hg:W.grownBy W' (some X)):Sl W' po L cap:=by
 rcases h with h|⟨b,off,rfl,hc⟩
 ·exact .inl h
 ·exact .inr ⟨b,off,rfl,fun i hi=>⟨Nat.lt_of_lt_of_le (hc i hi).1 hg.size,(World.cell?_of_block (a:=⟨b,off+i,none⟩) (hg.block b (hc i hi).1 (fun e=>hne _ rfl (Option.some.inj e)))).trans (hc i hi).2⟩⟩
theorem grown_trans {w w1 w2:World} {X:Nat} (h:w.grownBy w1 (some X)) (h2:w1.grownBy w2 (some X)):w.grownBy w2 (some X) :=
 ⟨h2.os.trans h.os,h2.tape.trans h.tape,h2.output.trans h.output,Nat.le_trans h.size h2.size,fun k hk hne=>(h2.block k (Nat.lt_of_lt_of_le hk h.size) hne).trans (h.block k hk hne)⟩
theorem below_grown {w w':World} {X:Nat} (h:Below w.heap.size w w'):w.grownBy w' (some X):=⟨h.os,h.tape,h.output,h.size,fun k hk _=>h.block k hk⟩
theorem InS.below {g:SG} {W W':World} {m:M} {full:Bool} (h:InS g W m full) (hb:Below W.heap.size W W'):InS g W' m full:=by
 obtain ⟨po,cap,h⟩:=h
 exact ⟨po,cap,(hb.block _ h.lt).trans h.box,h.sl.below hb,h.ne,grown_trans h.grown (below_grown hb)⟩
theorem InS.lt {g:SG} {W:World} {m:M} {full:Bool} (h:InS g W m full):g.X<W.heap.size:=by obtain ⟨po,cap,h⟩:=h;exact h.lt
theorem InS.fro {g:SG} {W:World} {m:M} {full:Bool} (h:InS g W m full) (i:Nat):W.frozen? ⟨g.X,i,none⟩=false:=by
 obtain ⟨po,cap,h⟩:=h
 exact frozen_of_row _ _ _ _ _ h.box
theorem InS.cell {g:SG} {W:World} {m:M} {full:Bool} (h:InS g W m full) (i:Nat) (v:Value) (hv:(#[.int .i64 m.ra,.int .i64 m.rf,.int .i64 m.rB,.int .i64 m.rC,.int .i64 m.rD,.int .i64 m.rE,.int .i64 m.rH,.int .i64 m.rL,.int .i64 m.sp,.int .i64 m.pc,.bool m.ime,.bool m.hal]:Array Value)[i]? = some v):W.cell? ⟨g.X,i,none⟩=some v:=by
 obtain ⟨po,cap,h⟩:=h
 rw [cell_of_row W g.X i _ _ _ h.box,cellsW_def]
 match i,hv with
 | 0,hv=>exact hv
 | 1,hv=>exact hv
 | 2,hv=>exact hv
 | 3,hv=>exact hv
 | 4,hv=>exact hv
 | 5,hv=>exact hv
 | 6,hv=>exact hv
 | 7,hv=>exact hv
 | 8,hv=>exact hv
 | 9,hv=>exact hv
 | 10,hv=>exact hv
 | 11,hv=>exact hv
 | i+12,hv=>simp at hv
theorem InS.cellFull {g:SG} {W:World} {m:M} {full:Bool} (h:InS g W m full):W.cell? ⟨g.X,23,none⟩=some (.bool full):=by
 obtain ⟨po,cap,h⟩:=h
 rw [cell_of_row W g.X 23 _ _ _ h.box,cellsW_def];rfl
theorem InS.cellCyc {g:SG} {W:World} {m:M} {full:Bool} (h:InS g W m full):W.cell? ⟨g.X,22,none⟩=some (.int .i64 m.cyc):=by
 obtain ⟨po,cap,h⟩:=h
 rw [cell_of_row W g.X 22 _ _ _ h.box,cellsW_def];rfl
theorem set_grown1 (w:World) (B i:Nat) (v:Value):w.grownBy (w.setCell ⟨B,i,none⟩ v) (some B) :=
 ⟨rfl,rfl,rfl,by rw [Busw.size_set];exact Nat.le_refl _,fun k _ hk=>Below.heap_setCell _ _ _ _ (fun e=>hk (by rw [e]))⟩
theorem InS.setX {g:SG} {W:World} {m m':M} {full full':Bool} (i:Nat) (v:Value) (h:InS g W m full) (ho:m'.out=m.out) (hbox:∀ po cap,W.heap[g.X]? = some (.cells (cellsW m po cap full) 112 (0,0))->(W.setCell ⟨g.X,i,none⟩ v).heap[g.X]? = some (.cells (cellsW m' po cap full') 112 (0,0))) :
  InS g (W.setCell ⟨g.X,i,none⟩ v) m' full':=by
 obtain ⟨po,cap,h⟩:=h
 have hg:=set_grown1 W g.X i v
 exact ⟨po,cap,hbox po cap h.box,by rw [ho];exact sl_grown h.sl h.ne hg,h.ne,grown_trans h.grown hg⟩
theorem InS.setFull {g:SG} {W:World} {m:M} {full:Bool} (h:InS g W m full) (b:Bool):InS g (W.setCell ⟨g.X,23,none⟩ (.bool b)) m b :=
 h.setX 23 _ rfl (fun po cap hb=>by rw [cellsW_def] at hb |-;exact (heap_setCell_same _ _ _ _ _ _ hb).trans rfl)
theorem InS.s_cyc {g:SG} {W:World} {m:M} {full:Bool} (h:InS g W m full) (v:Int):InS g (W.setCell ⟨g.X,22,none⟩ (.int .i64 v)) { m with cyc:=v } full :=
 h.setX 22 _ rfl (fun po cap hb=>by rw [cellsW_def] at hb |-;exact (heap_setCell_same _ _ _ _ _ _ hb).trans rfl)
theorem InS.s_ra {g:SG} {W:World} {m:M} {full:Bool} (h:InS g W m full) (v:Int):InS g (W.setCell ⟨g.X,0,none⟩ (.int .i64 v)) { m with ra:=v } full :=
 h.setX 0 _ rfl (fun po cap hb=>by rw [cellsW_def] at hb |-;exact (heap_setCell_same _ _ _ _ _ _ hb).trans rfl)
theorem InS.s_rf {g:SG} {W:World} {m:M} {full:Bool} (h:InS g W m full) (v:Int):InS g (W.setCell ⟨g.X,1,none⟩ (.int .i64 v)) { m with rf:=v } full :=
 h.setX 1 _ rfl (fun po cap hb=>by rw [cellsW_def] at hb |-;exact (heap_setCell_same _ _ _ _ _ _ hb).trans rfl)
theorem InS.s_rB {g:SG} {W:World} {m:M} {full:Bool} (h:InS g W m full) (v:Int):InS g (W.setCell ⟨g.X,2,none⟩ (.int .i64 v)) { m with rB:=v } full :=
 h.setX 2 _ rfl (fun po cap hb=>by rw [cellsW_def] at hb |-;exact (heap_setCell_same _ _ _ _ _ _ hb).trans rfl)
theorem InS.s_rC {g:SG} {W:World} {m:M} {full:Bool} (h:InS g W m full) (v:Int):InS g (W.setCell ⟨g.X,3,none⟩ (.int .i64 v)) { m with rC:=v } full :=
 h.setX 3 _ rfl (fun po cap hb=>by rw [cellsW_def] at hb |-;exact (heap_setCell_same _ _ _ _ _ _ hb).trans rfl)
theorem InS.s_rD {g:SG} {W:World} {m:M} {full:Bool} (h:InS g W m full) (v:Int):InS g (W.setCell ⟨g.X,4,none⟩ (.int .i64 v)) { m with rD:=v } full :=
 h.setX 4 _ rfl (fun po cap hb=>by rw [cellsW_def] at hb |-;exact (heap_setCell_same _ _ _ _ _ _ hb).trans rfl)
theorem InS.s_rE {g:SG} {W:World} {m:M} {full:Bool} (h:InS g W m full) (v:Int):InS g (W.setCell ⟨g.X,5,none⟩ (.int .i64 v)) { m with rE:=v } full :=
 h.setX 5 _ rfl (fun po cap hb=>by rw [cellsW_def] at hb |-;exact (heap_setCell_same _ _ _ _ _ _ hb).trans rfl)
theorem InS.s_rH {g:SG} {W:World} {m:M} {full:Bool} (h:InS g W m full) (v:Int):InS g (W.setCell ⟨g.X,6,none⟩ (.int .i64 v)) { m with rH:=v } full :=
 h.setX 6 _ rfl (fun po cap hb=>by rw [cellsW_def] at hb |-;exact (heap_setCell_same _ _ _ _ _ _ hb).trans rfl)
theorem InS.s_rL {g:SG} {W:World} {m:M} {full:Bool} (h:InS g W m full) (v:Int):InS g (W.setCell ⟨g.X,7,none⟩ (.int .i64 v)) { m with rL:=v } full :=
 h.setX 7 _ rfl (fun po cap hb=>by rw [cellsW_def] at hb |-;exact (heap_setCell_same _ _ _ _ _ _ hb).trans rfl)
theorem InS.s_sp {g:SG} {W:World} {m:M} {full:Bool} (h:InS g W m full) (v:Int):InS g (W.setCell ⟨g.X,8,none⟩ (.int .i64 v)) { m with sp:=v } full :=
 h.setX 8 _ rfl (fun po cap hb=>by rw [cellsW_def] at hb |-;exact (heap_setCell_same _ _ _ _ _ _ hb).trans rfl)
theorem InS.s_pc {g:SG} {W:World} {m:M} {full:Bool} (h:InS g W m full) (v:Int):InS g (W.setCell ⟨g.X,9,none⟩ (.int .i64 v)) { m with pc:=v } full :=
 h.setX 9 _ rfl (fun po cap hb=>by rw [cellsW_def] at hb |-;exact (heap_setCell_same _ _ _ _ _ _ hb).trans rfl)
theorem InS.s_ime {g:SG} {W:World} {m:M} {full:Bool} (h:InS g W m full) (v:Bool):InS g (W.setCell ⟨g.X,10,none⟩ (.bool v)) { m with ime:=v } full :=
 h.setX 10 _ rfl (fun po cap hb=>by rw [cellsW_def] at hb |-;exact (heap_setCell_same _ _ _ _ _ _ hb).trans rfl)
theorem InS.s_hal {g:SG} {W:World} {m:M} {full:Bool} (h:InS g W m full) (v:Bool):InS g (W.setCell ⟨g.X,11,none⟩ (.bool v)) { m with hal:=v } full :=
 h.setX 11 _ rfl (fun po cap hb=>by rw [cellsW_def] at hb |-;exact (heap_setCell_same _ _ _ _ _ _ hb).trans rfl)
theorem l6Read_M (m:M) (po:Option Addr) (cap:Nat) (addr:Int) (w:World) (hr:Rt m) (a0:0<=addr):Calls prog 100 #[.agg (cellsM m po cap),.int .i64 addr] w fun e w'=>e=.returned (.int .i64 (rd m addr))/\Below w.heap.size w w':=by
 rw [cells_def]
 exact MachB.l6Read_any m.ra m.rf m.rB m.rC m.rD m.rE m.rH m.rL m.sp m.pc m.ime m.hal m.rom m.kind m.bank m.ram m.rb m.on m.mode m.work m.high po m.out cap m.cyc addr w hr.rom hr.cart hr.work hr.high a0
end Stps
namespace Stpq
open Signed (inB sgn)
open Reck ReckS ReckM ReckD TurnS
open Busw (M wrM Rt)
open Busx (okMM Sm rt_of)
open Stpp
theorem cart_ok (rom:ByteArray) (kind bank:Int) (ram:ByteArray) (rb:Int) (on:Bool) (mode ad v:Int) (h:Carts.okB rom kind bank ram rb on mode=true) (a0:0<=ad) (a1:ad<=65535) (v0:0<=v) (v1:v<=255) :
  Carts.okB rom kind (CartY.wBank kind bank ad v) (CartY.wRam kind ram rb on mode ad v) (CartY.wRb kind rb ad v) (CartY.wOn kind on ad v) (CartY.wMode kind mode ad v)=true/\(CartY.wRam kind ram rb on mode ad v).size=256:=by
 obtain ⟨n,n0,n1,hn,hbk,hm,b0,b1,r0,r1,m0,m1,hk⟩:=CartM.right rom kind bank ram rb on mode h
 have hms:(CartY.wRam kind ram rb on mode ad v).size=256:=by
  unfold CartY.wRam
  repeat' split
  all_goals first|exact hm|(rw [CartP.putB_size];exact hm)
 have hh:Carts.heldB kind bank rb on mode=true/\Carts.romB rom.size=true:=by
  have h':=h
  simp only [Carts.okB,Bool.and_eq_true] at h'
  exact h'.1
 have hok:Carts.okB rom kind (CartY.wBank kind bank ad v) (CartY.wRam kind ram rb on mode ad v) (CartY.wRb kind rb ad v) (CartY.wOn kind on ad v) (CartY.wMode kind mode ad v)=true:=by
  simp only [Carts.okB,Bool.and_eq_true,beq_iff_eq]
  refine ⟨⟨?_,hh.2⟩,hms⟩
  have g:=hh.1
  unfold Carts.heldB at g |-
  rcases hk with ⟨rfl,hon⟩|rfl|⟨rfl,hmode⟩
  ·rw [if_pos rfl] at g |-
   have g:=of_decide_eq_true g
   refine decide_eq_true ⟨?_,?_,?_,?_⟩
   ·unfold CartY.wBank;split
    ·rw [if_neg (by omega),if_neg (by omega)];exact g.1
    ·exact g.1
   ·unfold CartY.wRb;rw [if_neg (by omega)];exact g.2.1
   ·unfold CartY.wMode;rw [if_neg (by omega)];exact g.2.2.1
   ·unfold CartY.wOn;rw [if_neg (by omega)];exact g.2.2.2
  ·rw [if_neg (by omega),if_pos rfl] at g |-
   simp only [Bool.and_eq_true] at g |-
   have g1:=of_decide_eq_true g.1.1
   have g2:=of_decide_eq_true g.1.2
   have g3:=of_decide_eq_true g.2
   refine ⟨⟨decide_eq_true ?_,decide_eq_true ?_⟩,decide_eq_true ?_⟩
   ·unfold CartY.wBank;split
    ·rw [if_pos rfl];unfold CartW.bank1;split <;> omega
    ·exact g1
   ·unfold CartY.wRb;split
    ·omega
    ·exact g2
   ·unfold CartY.wMode;split
    ·omega
    ·exact g3
  ·rw [if_neg (by omega),if_neg (by omega),if_pos rfl] at g |-
   simp only [Bool.and_eq_true,beq_iff_eq] at g |-
   have g1:=of_decide_eq_true g.1.1
   have g2:=of_decide_eq_true g.1.2
   refine ⟨⟨decide_eq_true ?_,decide_eq_true ?_⟩,?_⟩
   ·unfold CartY.wBank;split
    ·rw [if_neg (by omega),if_pos rfl];omega
    ·exact g1
   ·unfold CartY.wRb;split
    ·omega
    ·exact g2
   ·unfold CartY.wMode;rw [if_neg (by omega)];exact g.2
 exact ⟨hok,hms⟩
structure Good (m:M):Prop where
 a:0<=m.ra/\m.ra<=255
 f:0<=m.rf/\m.rf<=255
 b:0<=m.rB/\m.rB<=255
 c:0<=m.rC/\m.rC<=255
 d:0<=m.rD/\m.rD<=255
 e:0<=m.rE/\m.rE<=255
 h:0<=m.rH/\m.rH<=255
 l:0<=m.rL/\m.rL<=255
 f16:m.rf%16=0
 sp:0<=m.sp/\m.sp<=65535
 pc:0<=m.pc/\m.pc<=65535
 rt:Rt m
 outs:MachO.byteL m.out=true
theorem in_bd {n:Int} (h:inB n 0 255=true):0<=n/\n<=255:=of_decide_eq_true h
theorem good_of {m:M} (h:okMM m=true) (hs:Sm m):Good m/\0<=m.cyc/\m.cyc<=1000000000:=by
 have hr:=rt_of h hs
 unfold okMM MachK.okM MachO.cpuB MachO.byteL MachO.regL at h
 simp only [Bool.and_eq_true,decide_eq_true_eq,List.all_cons,List.all_nil,beq_iff_eq] at h
 obtain ⟨⟨⟨⟨⟨⟨⟨⟨⟨⟨⟨ha,hf,hB,hC,hD,hE,hH,hL,_⟩,h16⟩,hsp⟩,hpc⟩,_⟩,_⟩,_⟩,_⟩,ho⟩,c0⟩,c1⟩:=h
 exact ⟨⟨in_bd ha,in_bd hf,in_bd hB,in_bd hC,in_bd hD,in_bd hE,in_bd hH,in_bd hL,h16,of_decide_eq_true hsp,of_decide_eq_true hpc,hr,ho⟩,c0,c1⟩
theorem wrM_good {m m':M} {a v:Int} (h:Good m) (a0:0<=a) (a1:a<=65535) (v0:0<=v) (v1:v<=255) (hw:wrM m a v=some m'):Good m':=by
 have hr:=h.rt
 unfold wrM at hw
 split at hw
 ·cases hw
  exact ⟨h.a,h.f,h.b,h.c,h.d,h.e,h.h,h.l,h.f16,h.sp,h.pc,⟨hr.cart,(CartP.putB_size _ _ _).trans hr.work,hr.high,hr.out,hr.rom,hr.ram⟩,h.outs⟩
 ·split at hw
  ·cases hw
   exact ⟨h.a,h.f,h.b,h.c,h.d,h.e,h.h,h.l,h.f16,h.sp,h.pc,⟨hr.cart,hr.work,(CartP.putB_size _ _ _).trans hr.high,hr.out,hr.rom,hr.ram⟩,h.outs⟩
  ·split at hw
   ·split at hw
    ·cases hw
    ·cases hw
     refine ⟨h.a,h.f,h.b,h.c,h.d,h.e,h.h,h.l,h.f16,h.sp,h.pc,⟨hr.cart,hr.work,hr.high,?_,hr.rom,hr.ram⟩,?_⟩
     ·show (m.out ++ [v]).length<=100
      rw [List.length_append];simp;omega
     ·have ho:=h.outs
      unfold MachO.byteL at ho |-
      show (m.out ++ [v]).all _=true
      rw [List.all_append,ho]
      simp only [List.all_cons,List.all_nil,Bool.and_true,Bool.true_and]
      exact decide_eq_true ⟨v0,v1⟩
   ·cases hw
    have hc:=cart_ok m.rom m.kind m.bank m.ram m.rb m.on m.mode a v hr.cart a0 a1 v0 v1
    exact ⟨h.a,h.f,h.b,h.c,h.d,h.e,h.h,h.l,h.f16,h.sp,h.pc,⟨hc.1,hr.work,hr.high,hr.out,hr.rom,by show (CartY.wRam _ _ _ _ _ _ _).size<=_;rw [hc.2];decide⟩,h.outs⟩
theorem wr_good {s:S} (h:Good s.m) (a v:Int) (v0:0<=v) (v1:v<=255):Good (wr s a v).m:=by
 unfold wr
 split
 ·rename_i m' hw
  exact wrM_good h (by omega) (by omega) v0 v1 hw
 ·exact h
theorem get_bd {m:M} (h:Good m) (n:Int):0<=get m n/\get m n<=255:=by
 unfold Stpp.get
 split
 ·exact rd_bd _ _
 ·unfold reg
  repeat' split
  all_goals first|exact h.b|exact h.c|exact h.d|exact h.e|exact h.h|exact h.l|exact h.a
theorem setR_good {m:M} (h:Good m) (n v:Int) (v0:0<=v) (v1:v<=255):Good (setR m n v):=by
 obtain ⟨ha,hf,hb,hc,hd,he,hh,hl,h16,hsp,hpc,hr,ho⟩:=h
 unfold setR
 repeat' split
 all_goals exact ⟨by first|exact ha|exact ⟨v0,v1⟩,hf,by first|exact hb|exact ⟨v0,v1⟩,by first|exact hc|exact ⟨v0,v1⟩,by first|exact hd|exact ⟨v0,v1⟩,by first|exact he|exact ⟨v0,v1⟩,by first|exact hh|exact ⟨v0,v1⟩,by first|exact hl|exact ⟨v0,v1⟩,h16,hsp,hpc,⟨hr.cart,hr.work,hr.high,hr.out,hr.rom,hr.ram⟩,ho⟩
theorem put_good {s:S} (h:Good s.m) (n v:Int) (v0:0<=v) (v1:v<=255):Good (put s n v).m:=by
 unfold put
 split
 ·exact wr_good h _ v v0 v1
 ·exact setR_good h n v v0 v1
theorem setP_good {m:M} (h:Good m) (p v:Int) (v0:0<=v) (v1:v<=65535):Good (setP m p v):=by
 obtain ⟨ha,hf,hb,hc,hd,he,hh,hl,h16,hsp,hpc,hr,ho⟩:=h
 have q1:0<=v / 256/\v / 256<=255:=by omega
 have q2:0<=v%256/\v%256<=255:=by omega
 unfold setP
 repeat' split
 all_goals exact ⟨ha,hf,by first|exact hb|exact q1,by first|exact hc|exact q2,by first|exact hd|exact q1,by first|exact he|exact q2,by first|exact hh|exact q1,by first|exact hl|exact q2,h16,by first|exact hsp|exact ⟨v0,v1⟩,hpc,⟨hr.cart,hr.work,hr.high,hr.out,hr.rom,hr.ram⟩,ho⟩
theorem hl_bd {m:M} (h:Good m):0<=hl m/\hl m<=65535:=by have:=h.h;have:=h.l;unfold hl;omega
theorem pr_bd {m:M} (h:Good m) (p:Int):0<=pr m p/\pr m p<=65535:=by
 have:=h.b;have:=h.c;have:=h.d;have:=h.e;have:=h.h;have:=h.l;have:=h.sp
 unfold pr
 repeat' split
 all_goals omega
theorem prQ_bd {m:M} (h:Good m) (p:Int):0<=prQ m p/\prQ m p<=65535:=by
 have:=h.a;have:=h.f
 unfold prQ
 split
 ·omega
 ·exact pr_bd h p
theorem good_f {m:M} (h:Good m) (f:Int) (f0:0<=f) (f1:f<=255) (f2:f%16=0):Good { m with rf:=f } :=
 ⟨h.a,⟨f0,f1⟩,h.b,h.c,h.d,h.e,h.h,h.l,f2,h.sp,h.pc,⟨h.rt.cart,h.rt.work,h.rt.high,h.rt.out,h.rt.rom,h.rt.ram⟩,h.outs⟩
theorem good_a {m:M} (h:Good m) (v:Int) (v0:0<=v) (v1:v<=255):Good { m with ra:=v } :=
 ⟨⟨v0,v1⟩,h.f,h.b,h.c,h.d,h.e,h.h,h.l,h.f16,h.sp,h.pc,⟨h.rt.cart,h.rt.work,h.rt.high,h.rt.out,h.rt.rom,h.rt.ram⟩,h.outs⟩
theorem good_sp {m:M} (h:Good m) (v:Int) (v0:0<=v) (v1:v<=65535):Good { m with sp:=v } :=
 ⟨h.a,h.f,h.b,h.c,h.d,h.e,h.h,h.l,h.f16,⟨v0,v1⟩,h.pc,⟨h.rt.cart,h.rt.work,h.rt.high,h.rt.out,h.rt.rom,h.rt.ram⟩,h.outs⟩
theorem good_pc {m:M} (h:Good m) (v:Int) (v0:0<=v) (v1:v<=65535):Good { m with pc:=v } :=
 ⟨h.a,h.f,h.b,h.c,h.d,h.e,h.h,h.l,h.f16,h.sp,⟨v0,v1⟩,⟨h.rt.cart,h.rt.work,h.rt.high,h.rt.out,h.rt.rom,h.rt.ram⟩,h.outs⟩
theorem good_i {m:M} (h:Good m) (i j:Bool) (c:Int):Good { m with ime:=i,hal:=j,cyc:=c } :=
 ⟨h.a,h.f,h.b,h.c,h.d,h.e,h.h,h.l,h.f16,h.sp,h.pc,⟨h.rt.cart,h.rt.work,h.rt.high,h.rt.out,h.rt.rom,h.rt.ram⟩,h.outs⟩
theorem fl_bd (z n h c:Bool):0<=fl z n h c/\fl z n h c<=255/\fl z n h c%16=0:=by cases z <;> cases n <;> cases h <;> cases c <;> decide
theorem fl_good {m:M} (h:Good m) (z n k c:Bool):Good { m with rf:=fl z n k c }:=good_f h _ (fl_bd z n k c).1 (fl_bd z n k c).2.1 (fl_bd z n k c).2.2
theorem af_good {s:S} (h:Good s.m) (p:Int × Int) (a0:0<=p.1) (a1:p.1<=255) (f0:0<=p.2) (f1:p.2<=255) (f2:p.2%16=0):Good (AF s p).m:=good_f (good_a h p.1 a0 a1) p.2 f0 f1 f2
theorem push_good {s:S} (h:Good s.m) (v:Int) (v0:0<=v) (v1:v<=65535):Good (push s v).m:=by
 have hsp:=h.sp
 exact good_sp (wr_good (wr_good h _ _ (by omega) (by omega)) _ _ (by omega) (by omega)) _ (by omega) (by omega)
theorem popV_bd (m:M):0<=popV m/\popV m<=65535:=by
 have h1:=rd_bd m m.sp
 have h2:=rd_bd m ((m.sp+1)%65536)
 unfold popV;omega
theorem popM_good {m:M} (h:Good m):Good (popM m):=good_sp h _ (by omega) (by omega)
theorem setQ_good {m:M} (h:Good m) (p v:Int) (v0:0<=v) (v1:v<=65535):Good (setQ m p v):=by
 unfold setQ
 split
 ·exact good_f (good_a h (v / 256) (by omega) (by omega)) _ (by omega) (by omega) (by omega)
 ·exact setP_good h p v v0 v1
theorem bits_le {a b:Int} (a0:0<=a) (a1:a<=255) (b0:0<=b) (b1:b<=255):(0<=bits .and .i64 a b/\bits .and .i64 a b<=255)/\(0<=bits .or .i64 a b/\bits .or .i64 a b<=255)/\(0<=bits .xor .i64 a b/\bits .xor .i64 a b<=255):=by
 have h1:a.toNat &&& b.toNat<2 ^ 8:=Nat.and_lt_two_pow _ (by omega)
 have h2:a.toNat ||| b.toNat<2 ^ 8:=Nat.or_lt_two_pow (by omega) (by omega)
 have h3:a.toNat ^^^ b.toNat<2 ^ 8:=Nat.xor_lt_two_pow (by omega) (by omega)
 rw [bits_and a0 a1 b0 b1,bits_or a0 a1 b0 b1,bits_xor a0 a1 b0 b1]
 omega
theorem alu_bd {op a b f:Int} (a0:0<=a) (a1:a<=255) (b0:0<=b) (b1:b<=255) (o0:0<=op) (o1:op<=7):0<=(aluR op a b f).1/\(aluR op a b f).1<=255/\0<=(aluR op a b f).2/\(aluR op a b f).2<=255/\(aluR op a b f).2%16=0:=by
 obtain ⟨k1,k2,k3⟩:=bits_le a0 a1 b0 b1
 have ho:op=0 \/ op=1 \/ op=2 \/ op=3 \/ op=4 \/ op=5 \/ op=6 \/ op=7:=by omega
 rcases ho with rfl|rfl|rfl|rfl|rfl|rfl|rfl|rfl
 ·rw [aluR_0];exact ⟨by show 0<=(_:Int)%256;omega,by show (_:Int)%256<=255;omega,fl_bd _ _ _ _⟩
 ·rw [aluR_1];exact ⟨by show 0<=(_:Int)%256;omega,by show (_:Int)%256<=255;omega,fl_bd _ _ _ _⟩
 ·rw [aluR_2];exact ⟨by show 0<=(_:Int)%256;omega,by show (_:Int)%256<=255;omega,fl_bd _ _ _ _⟩
 ·rw [aluR_3];exact ⟨by show 0<=(_:Int)%256;omega,by show (_:Int)%256<=255;omega,fl_bd _ _ _ _⟩
 ·rw [aluR_4];exact ⟨k1.1,k1.2,fl_bd _ _ _ _⟩
 ·rw [aluR_5];exact ⟨k3.1,k3.2,fl_bd _ _ _ _⟩
 ·rw [aluR_6];exact ⟨k2.1,k2.2,fl_bd _ _ _ _⟩
 ·rw [aluR_7,aluR_2];exact ⟨a0,a1,fl_bd _ _ _ _⟩
theorem st8_bd {v f:Int} (d:Bool):0<=(st8R v f d).1/\(st8R v f d).1<=255/\0<=(st8R v f d).2/\(st8R v f d).2<=255/\(st8R v f d).2%16=0:=by
 unfold st8R
 split
 ·exact ⟨by show 0<=(_:Int)%256;omega,by show (_:Int)%256<=255;omega,fl_bd _ _ _ _⟩
 ·exact ⟨by show 0<=(_:Int)%256;omega,by show (_:Int)%256<=255;omega,fl_bd _ _ _ _⟩
theorem aw_bd (a b f:Int):0<=(awR a b f).1/\(awR a b f).1<=65535/\0<=(awR a b f).2/\(awR a b f).2<=255/\(awR a b f).2%16=0:=⟨by show 0<=(_:Int)%65536;omega,by show (_:Int)%65536<=65535;omega,fl_bd _ _ _ _⟩
theorem as_bd (a b:Int):0<=(asR a b).1/\(asR a b).1<=65535/\0<=(asR a b).2/\(asR a b).2<=255/\(asR a b).2%16=0:=⟨by show 0<=(_:Int)%65536;omega,by show (_:Int)%65536<=65535;omega,fl_bd _ _ _ _⟩
theorem daa_bd (a f:Int):0<=(daaR a f).1/\(daaR a f).1<=255/\0<=(daaR a f).2/\(daaR a f).2<=255/\(daaR a f).2%16=0:=⟨by show 0<=(_:Int)%256;omega,by show (_:Int)%256<=255;omega,fl_bd _ _ _ _⟩
theorem trnP_bd {op v c:Int} (v0:0<=v) (v1:v<=255) (c0:0<=c) (c1:c<=1):0<=(trnP op v c).1/\(trnP op v c).1<=255:=by
 unfold trnP
 repeat' split
 all_goals simp only []
 all_goals omega
theorem trn_bd {op v f:Int} (v0:0<=v) (v1:v<=255):0<=(trnR op v f).1/\(trnR op v f).1<=255/\0<=(trnR op v f).2/\(trnR op v f).2<=255/\(trnR op v f).2%16=0:=by
 obtain ⟨c0,c1⟩:=cy_bd f
 have h:=trnP_bd (op:=op) v0 v1 c0 c1
 exact ⟨h.1,h.2,fl_bd _ _ _ _⟩
theorem bitV_cases (y:Int):bitV y=1 \/ bitV y=2 \/ bitV y=4 \/ bitV y=8 \/ bitV y=16 \/ bitV y=32 \/ bitV y=64 \/ bitV y=128:=by
 unfold bitV
 repeat' split
 all_goals decide
theorem andNot_all:∀ (v:Fin 256) (k:Fin 8),0<=bits .andNot .i64 (v.val:Int) (2 ^ k.val:Int)/\bits .andNot .i64 (v.val:Int) (2 ^ k.val:Int)<=255:=by decide +kernel
theorem bitV_pow (y:Int):∃ k:Fin 8,bitV y=2 ^ k.val:=by
 rcases bitV_cases y with h|h|h|h|h|h|h|h
 all_goals first|exact ⟨0,h⟩|exact ⟨1,h⟩|exact ⟨2,h⟩|exact ⟨3,h⟩|exact ⟨4,h⟩|exact ⟨5,h⟩|exact ⟨6,h⟩|exact ⟨7,h⟩
theorem andNot_bd {v:Int} (v0:0<=v) (v1:v<=255) (y:Int):0<=bits .andNot .i64 v (bitV y)/\bits .andNot .i64 v (bitV y)<=255:=by
 obtain ⟨k,hk⟩:=bitV_pow y
 have h:=andNot_all ⟨v.toNat,by omega⟩ k
 rw [hk]
 have e:((v.toNat:Nat):Int)=v:=by omega
 simpa [e] using h
theorem orBit_bd {v:Int} (v0:0<=v) (v1:v<=255) (y:Int):0<=bits .or .i64 v (bitV y)/\bits .or .i64 v (bitV y)<=255:=by
 have h:=bitV_cases y
 exact (bits_le v0 v1 (by omega) (by omega)).2.1
theorem cb_good {s:S} (h:Good s.m) (code:Int):Good (cbE code s).m:=by
 have hg:=get_bd h (code%8)
 unfold cbE
 split
 ·have ht:=trn_bd (op:=code / 8%8) (f:=s.m.rf) hg.1 hg.2
  exact good_f (put_good h _ _ ht.1 ht.2.1) _ ht.2.2.1 ht.2.2.2.1 ht.2.2.2.2
 ·split
  ·exact fl_good h _ _ _ _
  ·split
   ·have ht:=andNot_bd hg.1 hg.2 (code / 8%8)
    exact put_good h _ _ ht.1 ht.2
   ·have ht:=orBit_bd hg.1 hg.2 (code / 8%8)
    exact put_good h _ _ ht.1 ht.2
theorem odd_good {s:S} (h:Good s.m) (y:Int):Good (oddE y s).m:=by
 have ha:=h.a
 unfold oddE
 split
 ·have ht:=daa_bd s.m.ra s.m.rf
  exact af_good h _ ht.1 ht.2.1 ht.2.2.1 ht.2.2.2.1 ht.2.2.2.2
 ·split
  ·have ht:=fl_bd (zB s.m.rf) true true (cB s.m.rf)
   exact af_good h _ (by simp only [];omega) (by simp only [];omega) ht.1 ht.2.1 ht.2.2
  ·split
   ·exact fl_good h _ _ _ _
   ·split
    ·exact fl_good h _ _ _ _
    ·have ht:=trn_bd (op:=y) (f:=s.m.rf) ha.1 ha.2
     have hf:=fl_bd false false false (cB (trnR y s.m.ra s.m.rf).2)
     exact af_good h _ ht.1 ht.2.1 hf.1 hf.2.1 hf.2.2
theorem sgn_bd (b:Int):-128<=sgn b/\sgn b<=127:=ReckM.sgn_bd b
theorem stepHl_good {m:M} (h:Good m) (p:Int):Good (stepHl m p):=by
 unfold stepHl
 split
 ·exact setP_good h 2 _ (by omega) (by omega)
 ·exact h
def ImmOk (code:Int) (cb:Bool) (imm:Int):Prop:=cb=true \/ (0<=imm/\imm<=65535/\((code<64->code%8 ≠ 1->¬ (code%8=0/\code / 8=1)->imm<=255)/\(code=224 \/ code=240 \/ code=232 \/ code=248 \/ (192<=code/\code%8=6)->imm<=255)))
theorem low_good {s:S} (h:Good s.m) (code imm:Int) (c0:0<=code) (c1:code<64) (hi:ImmOk code false imm):Good (lowE code imm s).1.m:=by
 rcases hi with hi|⟨i0,i1,i2,i3⟩
 ·cases hi
 have hsp:=h.sp
 have hpc:=h.pc
 have hs:=sgn_bd imm
 unfold lowE
 split
 ·split
  ·exact wr_good (wr_good h _ _ (by omega) (by omega)) _ _ (by omega) (by omega)
  ·split
   ·exact good_pc h _ (by omega) (by omega)
   ·exact h
 ·split
  ·split
   ·exact setP_good h _ _ i0 i1
   ·have ht:=aw_bd (hl s.m) (pr s.m (code / 8 / 2)) s.m.rf
    exact good_f (setP_good h 2 _ ht.1 ht.2.1) _ ht.2.2.1 ht.2.2.2.1 ht.2.2.2.2
  ·split
   ·split
    ·exact stepHl_good (wr_good h _ _ h.a.1 h.a.2) _
    ·have hr:=rd_bd s.m (placeOf s.m (code / 8 / 2))
     exact stepHl_good (good_a h _ hr.1 hr.2) _
   ·split
    ·exact setP_good h _ _ (by omega) (by omega)
    ·split
     ·have ht:=st8_bd (v:=get s.m (code / 8)) (f:=s.m.rf) false
      exact good_f (put_good h _ _ ht.1 ht.2.1) _ ht.2.2.1 ht.2.2.2.1 ht.2.2.2.2
     ·split
      ·have ht:=st8_bd (v:=get s.m (code / 8)) (f:=s.m.rf) true
       exact good_f (put_good h _ _ ht.1 ht.2.1) _ ht.2.2.1 ht.2.2.2.1 ht.2.2.2.2
      ·split
       ·exact put_good h _ _ i0 (i2 c1 (by omega) (by omega))
       ·exact odd_good h _
theorem call_good {s:S} (h:Good s.m) (v:Int) (v0:0<=v) (v1:v<=65535):Good (callE v s).m:=good_pc (push_good h _ h.pc.1 h.pc.2) _ v0 v1
theorem iteG {c:Prop} [Decidable c] {x y:S × Bool} (h1:c->Good x.1.m) (h2:¬ c->Good y.1.m):Good (if c then x else y).1.m:=by
 by_cases h:c
 ·rw [if_pos h];exact h1 h
 ·rw [if_neg h];exact h2 h
theorem top_good {s:S} (h:Good s.m) (code imm:Int) (c0:192<=code) (c1:code<=255) (hi:ImmOk code false imm):Good (topE code imm s).1.m:=by
 rcases hi with hi|⟨i0,i1,i2,i3⟩
 ·cases hi
 have hv:=popV_bd s.m
 have ht:=as_bd s.m.sp imm
 unfold topE
 refine iteG (fun _=>good_i (good_pc (popM_good h) _ hv.1 hv.2) _ _ _) (fun _=>?_)
 refine iteG (fun _=>wr_good h _ _ h.a.1 h.a.2) (fun _=>?_)
 refine iteG (fun _=>wr_good h _ _ h.a.1 h.a.2) (fun _=>?_)
 refine iteG (fun _=>good_a h _ (rd_bd _ _).1 (rd_bd _ _).2) (fun _=>?_)
 refine iteG (fun _=>good_a h _ (rd_bd _ _).1 (rd_bd _ _).2) (fun _=>?_)
 refine iteG (fun _=>wr_good h _ _ h.a.1 h.a.2) (fun _=>?_)
 refine iteG (fun _=>good_a h _ (rd_bd _ _).1 (rd_bd _ _).2) (fun _=>?_)
 refine iteG (fun _=>good_f (good_sp h _ ht.1 ht.2.1) _ ht.2.2.1 ht.2.2.2.1 ht.2.2.2.2) (fun _=>?_)
 refine iteG (fun _=>good_f (setP_good h 2 _ ht.1 ht.2.1) _ ht.2.2.1 ht.2.2.2.1 ht.2.2.2.2) (fun _=>?_)
 refine iteG (fun _=>good_sp h _ (hl_bd h).1 (hl_bd h).2) (fun _=>?_)
 refine iteG (fun _=>good_pc h _ (hl_bd h).1 (hl_bd h).2) (fun _=>?_)
 refine iteG (fun _=>setQ_good (popM_good h) _ _ hv.1 hv.2) (fun _=>?_)
 refine iteG (fun _=>push_good h _ (prQ_bd h _).1 (prQ_bd h _).2) (fun _=>?_)
 refine iteG (fun _=>good_pc h _ i0 i1) (fun _=>?_)
 refine iteG (fun _=>good_i h _ _ _) (fun _=>?_)
 refine iteG (fun _=>call_good h _ i0 i1) (fun _=>?_)
 refine iteG (fun h6=>?_) (fun _=>?_)
 ·have ht:=alu_bd (op:=code / 8%8) (f:=s.m.rf) h.a.1 h.a.2 i0 (i3 (.inr (.inr (.inr (.inr ⟨c0,h6⟩))))) (by omega) (by omega)
  exact af_good h _ ht.1 ht.2.1 ht.2.2.1 ht.2.2.2.1 ht.2.2.2.2
 refine iteG (fun _=>call_good h _ (by omega) (by omega)) (fun _=>h)
theorem sem_good {s:S} (h:Good s.m) (code:Int) (cb:Bool) (imm:Int) (c0:0<=code) (c1:code<=255) (hi:ImmOk code cb imm):Good (sem code cb imm s).1.m:=by
 unfold sem
 split
 ·exact cb_good h code
 have hcb:cb=false:=by cases cb <;> simp_all
 subst hcb
 split
 ·exact low_good h code imm c0 (by assumption) hi
 split
 ·exact good_i h _ _ _
 split
 ·exact put_good h _ _ (get_bd h _).1 (get_bd h _).2
 split
 ·have ht:=alu_bd (op:=code / 8%8) (f:=s.m.rf) h.a.1 h.a.2 (get_bd h (code%8)).1 (get_bd h (code%8)).2 (by omega) (by omega)
  exact af_good h _ ht.1 ht.2.1 ht.2.2.1 ht.2.2.2.1 ht.2.2.2.2
 ·exact top_good h code imm (by omega) c1 hi
end Stpq
namespace Stpi
open Go.Deep
open Signed (inB sgn ret_int ret_bool)
open Busw Busx Stpp
def stacks:List ByteArray:=[⟨#[98,99]⟩,⟨#[100,101]⟩,⟨#[104,108]⟩,⟨#[97,102]⟩]
def bitTs:List ByteArray:=[⟨#[]⟩,⟨#[98,105,116]⟩,⟨#[114,101,115]⟩,⟨#[115,101,116]⟩]
def TRow (w:World) (g:Nat) (l:List ByteArray):Prop:=∀ i,i<l.length->w.cell? ⟨g,i,none⟩=some (.string (l.getD i ⟨#[]⟩))
structure Tb (w:World):Prop where
 stack:TRow w 1 stacks
 bit:TRow w 2 bitTs
theorem TRow.lt {w:World} {g:Nat} {l:List ByteArray} (h:TRow w g l) (hl:0<l.length):g<w.heap.size:=World.block_lt_of_cell? w ⟨g,0,none⟩ (h 0 hl)
theorem TRow.of {w w':World} {g:Nat} {l:List ByteArray} (h:TRow w g l) (b:w'.heap[g]? = w.heap[g]?):TRow w' g l:=fun i hi=>(World.cell?_of_block (a:=⟨g,i,none⟩) b).trans (h i hi)
theorem Tb.of {w w':World} (h:Tb w) (b:∀ k,k=1 \/ k=2->w'.heap[k]? = w.heap[k]?):Tb w':=⟨h.stack.of (b _ (.inl rfl)),h.bit.of (b _ (.inr rfl))⟩
theorem Tb.below {w w':World} (h:Tb w) (b:Below w.heap.size w w'):Tb w':=⟨h.stack.of (b.block _ (h.stack.lt (by decide))),h.bit.of (b.block _ (h.bit.lt (by decide)))⟩
structure G where
 (W0:World)
 (K B base:Nat)
 (code:Int)
 (cb:Bool)
 (imm x y z p q:Int)
 (po0:Option Addr)
 (n0 cap0:Nat)
 (L0:List Int)
def kc (g:G) (full:Bool):Array Value:=#[.pointer (some ⟨g.B,0,none⟩),.pointer (some ⟨g.B,0,none⟩),.int .i64 g.code,.bool g.cb,.int .i64 g.imm,.int .i64 g.x,.int .i64 g.y,.int .i64 g.z,.int .i64 g.p,.int .i64 g.q,.bool full]
structure At (g:G) (W:World) (m:M) (full:Bool) (po:Option Addr) (cap:Nat):Prop where
 held:Held W g.B g.base m po cap
 k:W.heap[g.K]? = some (.cells (kc g full) 127 (0,0))
 old:W.ownsRow g.base 2 1 (.slice g.po0 g.n0 g.cap0) g.n0 (outC g.L0)
 len:blk g.po0=blk po->g.n0<=m.out.length
 os:W.os=g.W0.os
 tape:W.tape=g.W0.tape
 output:W.output=g.W0.output
 size:g.W0.heap.size<=W.heap.size
 block:∀ k,k<g.W0.heap.size->k ≠ g.B->k ≠ g.K->some k ≠ blk g.po0->W.heap[k]? = g.W0.heap[k]?
 mov:Moved g.W0 g.po0 po
 tab:Tb W
 bB:g.base<=g.B
 bK:g.base<=g.K
 bT:1<g.base/\2<g.base
 low:∀ k,blk g.po0=some k->k<g.W0.heap.size
def In (g:G) (W:World) (m:M) (full:Bool):Prop:=∃ po cap,At g W m full po cap
theorem row_other {w:World} {base n B:Nat} {v:Value} {xs:List Value} {cs:Array Value} {t:TypeId} {fz:Nat × Nat} (ht:t ≠ 2) (h:w.ownsRow base 2 1 v n xs) (hb:w.heap[B]? = some (.cells cs t fz)):v.ownBlock ≠ some B:=by
 intro e
 rcases h.2 with ⟨rfl,_⟩|⟨g,cap,cur,rfl,_,hg,_⟩
 ·cases e
 ·cases e
  rw [hb] at hg
  injection hg with hg
  injection hg with _ h2
  exact ht h2
theorem row_base {w:World} {base n cap k:Nat} {po:Option Addr} {xs:List Value} (h:w.ownsRow base 2 1 (.slice po n cap) n xs) (hk:blk po=some k):base<=k/\k<w.heap.size:=h.lt k (by rw [blk_own];exact hk)
theorem At.neKB {g:G} {W:World} {m:M} {full:Bool} {po:Option Addr} {cap:Nat} (h:At g W m full po cap):g.K ≠ g.B:=fun e=>by
 have h1:=h.k
 rw [e,h.held.box] at h1
 injection h1 with h1
 injection h1 with _ h2
 exact absurd h2 (by decide)
theorem At.turn {g:G} {W W':World} {m m':M} {full full':Bool} {po po':Option Addr} {cap cap':Nat} (h:At g W m full po cap) (e1:W'.os=W.os) (e2:W'.tape=W.tape) (e3:W'.output=W.output) (e4:W.heap.size<=W'.heap.size)
  (hb:∀ k,k<W.heap.size->k ≠ g.B->k ≠ g.K->some k ≠ blk po->W'.heap[k]? = W.heap[k]?) (hh:Held W' g.B g.base m' po' cap') (hk:W'.heap[g.K]? = some (.cells (kc g full') 127 (0,0)))
  (ho:W'.ownsRow g.base 2 1 (.slice g.po0 g.n0 g.cap0) g.n0 (outC g.L0)) (hl:blk g.po0=blk po'->g.n0<=m'.out.length) (hm:Moved W po po'):At g W' m' full' po' cap':=by
 refine ⟨hh,hk,ho,hl,e1.trans h.os,e2.trans h.tape,e3.trans h.output,Nat.le_trans h.size e4,fun k h0 h1 h2 h3=>(hb k (Nat.lt_of_lt_of_le h0 h.size) h1 h2 (fun e=>?_)).trans (h.block k h0 h1 h2 h3),?_,h.tab.of (fun k hkk=>hb k ?_ ?_ ?_ (fun e=>?_)),h.bB,h.bK,h.bT,h.low⟩
 ·rcases h.mov with rfl|⟨p,rfl,hp⟩
  ·exact h3 e
  ·have e5:k=p.block:=Option.some.inj e
   omega
 ·rcases hm with rfl|⟨p,rfl,hp⟩
  ·exact h.mov
  ·exact .inr ⟨p,rfl,Nat.le_trans h.size hp⟩
 ·rcases hkk with rfl|rfl
  ·exact h.tab.stack.lt (by decide)
  ·exact h.tab.bit.lt (by decide)
 ·have h1:=h.bT
  have h2:=h.bB
  rcases hkk with rfl|rfl <;> omega
 ·have h1:=h.bT
  have h2:=h.bK
  rcases hkk with rfl|rfl <;> omega
 ·have h1:=h.bT
  have h2:=(row_base h.held.row e.symm).1
  rcases hkk with rfl|rfl <;> omega
theorem In.below {g:G} {W W':World} {m:M} {full:Bool} (h:In g W m full) (hb:Below W.heap.size W W'):In g W' m full:=by
 obtain ⟨po,cap,h⟩:=h
 have hg:W.grownBy W' none:=⟨hb.os,hb.tape,hb.output,hb.size,fun k hk _=>hb.block k hk⟩
 have kk:∀ {b:Nat} {q:Option Addr} {n c:Nat} {xs:List Value},W.ownsRow b 2 1 (.slice q n c) n xs->W'.ownsRow b 2 1 (.slice q n c) n xs:=fun h=>h.kept hg (by cases hv:(Value.slice _ _ _).ownBlock <;> simp)
 exact ⟨po,cap,h.turn hb.os hb.tape hb.output hb.size (fun k hk _ _ _=>hb.block k hk) ⟨(hb.block _ h.held.lt).trans h.held.box,kk h.held.row,h.held.ne⟩ ((hb.block _ (zLo h.k)).trans h.k) (kk h.old) h.len (.inl rfl)⟩
theorem In.ltB {g:G} {W:World} {m:M} {full:Bool} (h:In g W m full):g.B<W.heap.size:=by obtain ⟨po,cap,h⟩:=h;exact h.held.lt
theorem In.ltK {g:G} {W:World} {m:M} {full:Bool} (h:In g W m full):g.K<W.heap.size:=by obtain ⟨po,cap,h⟩:=h;exact (zLo h.k)
theorem In.base {g:G} {W:World} {m:M} {full:Bool} (h:In g W m full):g.base<=W.heap.size:=by obtain ⟨po,cap,h⟩:=h;have h1:=h.held.lt;have h2:=h.bB;omega
theorem In.tb {g:G} {W:World} {m:M} {full:Bool} (h:In g W m full):Tb W:=by obtain ⟨po,cap,h⟩:=h;exact h.tab
theorem In.kcell {g:G} {W:World} {m:M} {full:Bool} (h:In g W m full) (i:Nat) (v:Value) (hv:(kc g full)[i]? = some v):W.cell? ⟨g.K,i,none⟩=some v:=by
 obtain ⟨po,cap,h⟩:=h
 rw [cell_of_row W g.K i _ _ _ h.k];exact hv
theorem In.kfro {g:G} {W:World} {m:M} {full:Bool} (h:In g W m full) (i:Nat):W.frozen? ⟨g.K,i,none⟩=false:=by
 obtain ⟨po,cap,h⟩:=h
 exact frozen_of_row _ _ _ _ _ h.k
theorem In.fro {g:G} {W:World} {m:M} {full:Bool} (h:In g W m full) (i:Nat):W.frozen? ⟨g.B,i,none⟩=false:=by
 obtain ⟨po,cap,h⟩:=h
 exact frozen_of_row _ _ _ _ _ h.held.box
theorem In.cell {g:G} {W:World} {m:M} {full:Bool} (h:In g W m full) (i:Nat) (v:Value) (hv:(#[.int .i64 m.ra,.int .i64 m.rf,.int .i64 m.rB,.int .i64 m.rC,.int .i64 m.rD,.int .i64 m.rE,.int .i64 m.rH,.int .i64 m.rL,.int .i64 m.sp,.int .i64 m.pc,.bool m.ime,.bool m.hal]:Array Value)[i]? = some v):W.cell? ⟨g.B,i,none⟩=some v:=by
 obtain ⟨po,cap,h⟩:=h
 refine celM h.held.box i v ?_
 match i,hv with
 | 0,hv=>exact hv
 | 1,hv=>exact hv
 | 2,hv=>exact hv
 | 3,hv=>exact hv
 | 4,hv=>exact hv
 | 5,hv=>exact hv
 | 6,hv=>exact hv
 | 7,hv=>exact hv
 | 8,hv=>exact hv
 | 9,hv=>exact hv
 | 10,hv=>exact hv
 | 11,hv=>exact hv
 | i+12,hv=>simp at hv
theorem set_grown1 (w:World) (B i:Nat) (v:Value):w.grownBy (w.setCell ⟨B,i,none⟩ v) (some B) :=
 ⟨rfl,rfl,rfl,by rw [Busw.size_set];exact Nat.le_refl _,fun k _ hk=>Below.heap_setCell _ _ _ _ (fun e=>hk (by rw [e]))⟩
theorem In.setB {g:G} {W:World} {m m':M} {full:Bool} (i:Nat) (v:Value) (h:In g W m full) (ho:m'.out=m.out) (hbox:∀ po cap,W.heap[g.B]? = some (.cells (cellsM m po cap) 30 (0,0))->(W.setCell ⟨g.B,i,none⟩ v).heap[g.B]? = some (.cells (cellsM m' po cap) 30 (0,0))) :
  In g (W.setCell ⟨g.B,i,none⟩ v) m' full:=by
 obtain ⟨po,cap,h⟩:=h
 have hg:=set_grown1 W g.B i v
 refine ⟨po,cap,h.turn hg.os hg.tape hg.output hg.size (fun k hk h1 _ _=>hg.block k hk (fun e=>h1 (Option.some.inj e))) (h.held.turn (hbox po cap h.held.box) ho hg) ((hg.block _ (zLo h.k) (fun e=>h.neKB (Option.some.inj e))).trans h.k) (h.old.kept hg (.inr (row_ne h.old h.held.box))) (fun e=>by rw [ho];exact h.len e) (.inl rfl)⟩
theorem In.setFull {g:G} {W:World} {m:M} {full:Bool} (h:In g W m full):In g (W.setCell ⟨g.K,10,none⟩ (.bool true)) m true:=by
 obtain ⟨po,cap,h⟩:=h
 have hg:=set_grown1 W g.K 10 (.bool true)
 have hr:=row_other (by decide) h.held.row h.k
 refine ⟨po,cap,h.turn hg.os hg.tape hg.output hg.size (fun k hk _ h2 _=>hg.block k hk (fun e=>h2 (Option.some.inj e))) ⟨(hg.block _ h.held.lt (fun e=>h.neKB (Option.some.inj e).symm)).trans h.held.box,h.held.row.kept hg (.inr hr),h.held.ne⟩ ((heap_setCell_same _ _ _ _ _ _ h.k).trans rfl) (h.old.kept hg (.inr (row_other (by decide) h.old h.k))) h.len (.inl rfl)⟩
theorem In.s_ra {g:G} {W:World} {m:M} {full:Bool} (h:In g W m full) (v:Int):In g (W.setCell ⟨g.B,0,none⟩ (.int .i64 v)) { m with ra:=v } full :=
 h.setB 0 _ rfl (fun po cap hb=>by rw [cells_def] at hb |-;exact (heap_setCell_same _ _ _ _ _ _ hb).trans rfl)
theorem In.s_rf {g:G} {W:World} {m:M} {full:Bool} (h:In g W m full) (v:Int):In g (W.setCell ⟨g.B,1,none⟩ (.int .i64 v)) { m with rf:=v } full :=
 h.setB 1 _ rfl (fun po cap hb=>by rw [cells_def] at hb |-;exact (heap_setCell_same _ _ _ _ _ _ hb).trans rfl)
theorem In.s_rB {g:G} {W:World} {m:M} {full:Bool} (h:In g W m full) (v:Int):In g (W.setCell ⟨g.B,2,none⟩ (.int .i64 v)) { m with rB:=v } full :=
 h.setB 2 _ rfl (fun po cap hb=>by rw [cells_def] at hb |-;exact (heap_setCell_same _ _ _ _ _ _ hb).trans rfl)
theorem In.s_rC {g:G} {W:World} {m:M} {full:Bool} (h:In g W m full) (v:Int):In g (W.setCell ⟨g.B,3,none⟩ (.int .i64 v)) { m with rC:=v } full :=
 h.setB 3 _ rfl (fun po cap hb=>by rw [cells_def] at hb |-;exact (heap_setCell_same _ _ _ _ _ _ hb).trans rfl)
theorem In.s_rD {g:G} {W:World} {m:M} {full:Bool} (h:In g W m full) (v:Int):In g (W.setCell ⟨g.B,4,none⟩ (.int .i64 v)) { m with rD:=v } full :=
 h.setB 4 _ rfl (fun po cap hb=>by rw [cells_def] at hb |-;exact (heap_setCell_same _ _ _ _ _ _ hb).trans rfl)
theorem In.s_rE {g:G} {W:World} {m:M} {full:Bool} (h:In g W m full) (v:Int):In g (W.setCell ⟨g.B,5,none⟩ (.int .i64 v)) { m with rE:=v } full :=
 h.setB 5 _ rfl (fun po cap hb=>by rw [cells_def] at hb |-;exact (heap_setCell_same _ _ _ _ _ _ hb).trans rfl)
theorem In.s_rH {g:G} {W:World} {m:M} {full:Bool} (h:In g W m full) (v:Int):In g (W.setCell ⟨g.B,6,none⟩ (.int .i64 v)) { m with rH:=v } full :=
 h.setB 6 _ rfl (fun po cap hb=>by rw [cells_def] at hb |-;exact (heap_setCell_same _ _ _ _ _ _ hb).trans rfl)
theorem In.s_rL {g:G} {W:World} {m:M} {full:Bool} (h:In g W m full) (v:Int):In g (W.setCell ⟨g.B,7,none⟩ (.int .i64 v)) { m with rL:=v } full :=
 h.setB 7 _ rfl (fun po cap hb=>by rw [cells_def] at hb |-;exact (heap_setCell_same _ _ _ _ _ _ hb).trans rfl)
theorem In.s_sp {g:G} {W:World} {m:M} {full:Bool} (h:In g W m full) (v:Int):In g (W.setCell ⟨g.B,8,none⟩ (.int .i64 v)) { m with sp:=v } full :=
 h.setB 8 _ rfl (fun po cap hb=>by rw [cells_def] at hb |-;exact (heap_setCell_same _ _ _ _ _ _ hb).trans rfl)
theorem In.s_pc {g:G} {W:World} {m:M} {full:Bool} (h:In g W m full) (v:Int):In g (W.setCell ⟨g.B,9,none⟩ (.int .i64 v)) { m with pc:=v } full :=
 h.setB 9 _ rfl (fun po cap hb=>by rw [cells_def] at hb |-;exact (heap_setCell_same _ _ _ _ _ _ hb).trans rfl)
theorem In.s_ime {g:G} {W:World} {m:M} {full:Bool} (h:In g W m full) (v:Bool):In g (W.setCell ⟨g.B,10,none⟩ (.bool v)) { m with ime:=v } full :=
 h.setB 10 _ rfl (fun po cap hb=>by rw [cells_def] at hb |-;exact (heap_setCell_same _ _ _ _ _ _ hb).trans rfl)
theorem In.s_hal {g:G} {W:World} {m:M} {full:Bool} (h:In g W m full) (v:Bool):In g (W.setCell ⟨g.B,11,none⟩ (.bool v)) { m with hal:=v } full :=
 h.setB 11 _ rfl (fun po cap hb=>by rw [cells_def] at hb |-;exact (heap_setCell_same _ _ _ _ _ _ hb).trans rfl)
end Stpi
namespace Stpj
open Go.Deep
open Signed (inB sgn ret_int ret_bool)
open Busw Busx Stpp Stpi
theorem and65535 (n:Int):bits .and .i64 n 65535=n%65536:=by
 have h127:(BitVec.ofInt 64 65535).toNat=2 ^ 16-1:=by decide
 have key:(BitVec.ofInt 64 n &&& BitVec.ofInt 64 65535).toNat=(n%((2 ^ 64:Nat):Int)).toNat%2 ^ 16:=by
  rw [BitVec.toNat_and,BitVec.toNat_ofInt,h127,Nat.and_two_pow_sub_one_eq_mod]
 show IntKind.i64.wrap ((BitVec.ofInt 64 n &&& BitVec.ofInt 64 65535).toNat:Nat)=n%65536
 rw [key,IntKind.wrap_i64]
 omega
theorem wrapped_any (n:Int) (w:World) :
  Calls prog 93 #[.int .i64 n] w fun e w'=>e=.returned (.int .i64 (n%65536))/\w'=w:=by
 have h:=and65535 n
 go_enter func93,ntmps93
 go_wp2
 go_ret
 exact ⟨rfl,rfl⟩
theorem word_bd (n:Int):0<=n%65536/\n%65536<=65535:=by omega
theorem read_any (g:G) (m:M) (full:Bool) (addr:Int) (w:World) (h:In g w m full) (hr:Rt m) :
  Calls prog 242 #[.pointer (some ⟨g.K,0,none⟩),.int .i64 addr] w fun e w'=>e=.returned (.int .i64 (rd m (addr%65536)))/\Below w.heap.size w w':=by
 have c1:∀ d os,Calls prog 93 #[.int .i64 addr] (Go.Sort.grow (redrawn w d) os) fun e w''=>e=.returned (.int .i64 (addr%65536))/\∃ p:Regrown,w''=Go.Sort.grow (redrawn w p.d) p.os:=fun d os=>Calls.regrown_of ((wrapped_any addr _).mono fun e w' h=>⟨h.1,by rw [h.2];exact zRf⟩)
 have c2:∀ d os,Calls prog 134 #[.pointer (some ⟨g.B,0,none⟩),.int .i64 (addr%65536)] (Go.Sort.grow (redrawn w d) os) fun e w''=>e=.returned (.int .i64 (rd m (addr%65536)))/\∃ p:Regrown,w''=Go.Sort.grow (redrawn w p.d) p.os:=fun d os=>Calls.regrown_of (by
  obtain ⟨po,cap,h⟩:=h.below (below_regrown w d os)
  have hb:=h.held.box
  rw [cells_def] at hb
  exact MachB.readBus_any m.ra m.rf m.rB m.rC m.rD m.rE m.rH m.rL m.sp m.pc m.ime m.hal m.rom m.kind m.bank m.ram m.rb m.on m.mode m.work m.high po m.out cap m.cyc g.B _ _ hb hr.cart hr.work hr.high (word_bd addr).1)
 have k0:=cell_regrown (h.kcell 0 _ rfl)
 clear h hr
 generalize rd m (addr%65536)=r at *
 generalize hq:addr%65536=q at *
 clear hq
 go_enter func242,ntmps242
 go_wp2_with fail
 refine wp_region_quiet_below (by kernel_rfl) (by kernel_rfl) ?_
 repeat (go_big_quiet_step (first|exact c1 _ _|exact c2 _ _))
 refine wpQuiet_nil ?_
 intro _ hw'
 obtain ⟨⟨dq,osq⟩,hw''⟩:=hw'
 subst hw''
 go_wp2
 go_ret
 exact ⟨rfl,below_regrown _ _ _⟩
theorem in_post {g:G} {w w':World} {m:M} {full:Bool} {po:Option Addr} {cap:Nat} {addr v:Int} {e:Ending} (h:At g w m full po cap) (hp:Post w w' g.B g.base m.out.length (wrM m (addr%65536) v) po e) :
  (e=.returned (.bool true)/\In g w' (wr ⟨m,full⟩ addr v).m full/\(wr ⟨m,full⟩ addr v).full=full) \/ (e=.returned (.bool false)/\In g w' m full/\wr ⟨m,full⟩ addr v=⟨m,true⟩):=by
 obtain ⟨hc,ho,hk⟩:=hp
 have hlen:∀ m',wrM m (addr%65536) v=some m'->m.out.length<=m'.out.length:=fun m' h=>by
  unfold wrM at h
  repeat' split at h
  all_goals cases h
  all_goals simp
 have old:w'.ownsRow g.base 2 1 (.slice g.po0 g.n0 g.cap0) g.n0 (outC g.L0):=hk _ _ _ _ _ h.len h.old
 have hkk:w'.heap[g.K]? = some (.cells (kc g full) 127 (0,0)):=by
  rw [ho.block g.K (zLo h.k) h.neKB (fun p e e2=>row_other (by decide) h.held.row h.k (by subst e;rw [blk_own];show some p.block=_;rw [e2]))]
  exact h.k
 have blocks:∀ k,k<w.heap.size->k ≠ g.B->k ≠ g.K->some k ≠ blk po->w'.heap[k]? = w.heap[k]?:=fun k h0 h1 _ h3=>ho.block k h0 h1 (fun p e e2=>h3 (by subst e;rw [e2];rfl))
 rcases hc with ⟨m',po',cap',hm,rfl,hh,hmv⟩|⟨hm,rfl,rfl⟩
 ·left
  have hw:wr ⟨m,full⟩ addr v=⟨m',full⟩:=by unfold wr;rw [hm]
  rw [hw]
  refine ⟨rfl,⟨po',cap',h.turn ho.os ho.tape ho.output ho.size blocks hh hkk old (fun e=>?_) hmv⟩,rfl⟩
  rcases hmv with rfl|⟨p,rfl,hp⟩
  ·exact Nat.le_trans (h.len e) (hlen m' hm)
  ·have h1:=h.low p.block e
   have h2:=h.size
   omega
 ·right
  exact ⟨rfl,⟨po,cap,h⟩,by unfold wr;rw [hm]⟩
theorem write_any (g:G) (m:M) (full:Bool) (addr v:Int) (w:World) (h:In g w m full) (hr:Rt m) (v0:0<=v) (v1:v<=255) :
  Calls prog 241 #[.pointer (some ⟨g.K,0,none⟩),.int .i64 addr,.int .i64 v] w fun e w'=>e=.returned (.tuple #[])/\In g w' (wr ⟨m,full⟩ addr v).m (wr ⟨m,full⟩ addr v).full:=by
 have k0:=h.kcell 0 _ rfl
 have lk:=h.ltK
 have c1:=fun w=>wrapped_any addr w
 have hq:=word_bd addr
 have c2:∀ W,Below w.heap.size w W->Calls prog 261 #[.pointer (some ⟨g.B,0,none⟩),.int .i64 (addr%65536),.int .i64 v] W fun e w'=>∃ b,e=.returned (.bool b)/\Hid ((b=true/\In g w' (wr ⟨m,full⟩ addr v).m (wr ⟨m,full⟩ addr v).full) \/ (b=false/\In g w' m full/\wr ⟨m,full⟩ addr v=⟨m,true⟩)):=fun W hW=>by
  have h:=h.below hW
  have hb:=h.base
  obtain ⟨po,cap,h⟩:=h
  exact (Busw.write_any m g.B g.base po cap (addr%65536) v W h.held hr (decide_eq_true hq) (decide_eq_true ⟨v0,v1⟩) hb).mono fun e w' hp=>by
   rcases in_post h hp with ⟨rfl,h1,h2⟩|⟨rfl,h1,h2⟩
   ·exact ⟨true,rfl,.inl ⟨rfl,by rw [h2];exact h1⟩⟩
   ·exact ⟨false,rfl,.inr ⟨rfl,h1,h2⟩⟩
 clear h hr hq v0 v1
 obtain ⟨s,hs⟩ : ∃ s,s=wr ⟨m,full⟩ addr v:=⟨_,rfl⟩
 rw [<- hs] at c2 |-
 clear hs
 generalize hq:addr%65536=q at *
 clear hq
 go_enter func241,ntmps241
 go_wp2_with fail
 go_region_with (first|(go_at_call 93;refine (c1 _).mono ?_;rintro e w' ⟨rfl,hw'⟩;have hw':=hw'.symm;subst hw')|(go_at_call 261;refine (c2 _ (by repeat (with_reducible first|exact zRf|refine zGr ?_ _|refine below_drewN ?_ _|refine Below.drew ?_))).mono ?_;rintro e w' ⟨b,rfl,hpost⟩))
 all_goals
  rcases hpost.out with ⟨rfl,hi⟩|⟨rfl,hi,hf⟩
  ·have HI:Hid (In g w' s.m s.full):=hi
   clear hi hpost
   go_wp2
   go_end0
   exact ⟨rfl,HI.out⟩
  ·have HI:Hid (In g (w'.setCell ⟨g.K,10,none⟩ (.bool true)) s.m s.full):=by show In g (w'.setCell ⟨g.K,10,none⟩ (.bool true)) s.m s.full;rw [hf];exact hi.setFull
   have k10:=hi.kcell 10 _ rfl
   have f10:=hi.kfro 10
   clear hi hf hpost
   go_wp2
   go_end0
   exact ⟨rfl,HI.out⟩
end Stpj
end Go.Proofs.YteglcgnhhoenbaaGreatDoor
