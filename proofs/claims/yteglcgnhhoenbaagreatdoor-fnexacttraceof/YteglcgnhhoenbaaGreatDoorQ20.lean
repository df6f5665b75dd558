import Derived.Test.YteglcgnhhoenbaaGreatDoorQ19
set_option linter.all false
set_option maxRecDepth 20000
set_option maxHeartbeats 8000000
open Go.ChangeShapes Go.WideShapes Go.ChangeAt Go.RowKit
open Go.Proofs.Tryz
namespace Go.Proofs.YteglcgnhhoenbaaGreatDoor
namespace Busm
open Go.Deep
open Carts CartK CartL Outs Mach MachT Busw Busx Busy
def Open (w:World) (po:Option Addr) (n:Nat):Prop:=∀ i,i<n->∃ b off,po=some ⟨b,off,none⟩/\b<w.heap.size/\(∃ z,w.cell? ⟨b,off+i,none⟩=some (.int .i64 z))/\w.frozen? ⟨b,off+i,none⟩=false
def Is (w:World) (po:Option Addr) (n:Nat) (f:Nat->Int):Prop:=∀ i,i<n->∃ b off,po=some ⟨b,off,none⟩/\b<w.heap.size/\w.cell? ⟨b,off+i,none⟩=some (.int .i64 (f i))
def aTB (po:Option Addr):Option Nat:=po.map (·.block)
theorem aEV {b off i j:Nat} (h:i ≠ j):(⟨b,off+i,none⟩ : Addr) ≠ ⟨b,off+j,none⟩:=fun e=>by
 injection e with _ e2;omega
structure Mid (w wr:World) (po:Option Addr) (n k:Nat) (k0:Int):Prop where
 grown:w.grownBy wr (aTB po)
 size:wr.heap.size=w.heap.size
 done:Is wr po k (fun i=>k0+i)
 left:∀ i,k<=i->i<n->∀ b off,po=some ⟨b,off,none⟩->wr.cell? ⟨b,off+i,none⟩=w.cell? ⟨b,off+i,none⟩
 froz:∀ a,wr.frozen? a=w.frozen? a
theorem Mid.start (w:World) (po:Option Addr) (n:Nat) (k0:Int):Mid w w po n 0 k0:=⟨⟨rfl,rfl,rfl,Nat.le_refl _,fun _ _ _=>rfl⟩,rfl,fun i h=>absurd h (by omega),fun _ _ _ _ _ _=>rfl,fun _=>rfl⟩
theorem Mid.next {w wr:World} {b off n k:Nat} {k0:Int} (h:Mid w wr (some ⟨b,off,none⟩) n k k0) (ho:Open w (some ⟨b,off,none⟩) n) (hk:k<n):Mid w (wr.setCell ⟨b,off+k,none⟩ (.int .i64 (k0+k))) (some ⟨b,off,none⟩) n (k+1) k0:=by
 have hcur:∃ z,wr.cell? ⟨b,off+k,none⟩=some (.int .i64 z):=by
  obtain ⟨b',off',e,_,⟨z,hz⟩,_⟩:=ho k hk
  cases e
  exact ⟨z,(h.left k (Nat.le_refl _) hk b off rfl).trans hz⟩
 have hb:b<w.heap.size:=by
  obtain ⟨b',off',e,hb,_⟩:=ho k hk
  cases e;exact hb
 obtain ⟨z,hz⟩:=hcur;refine ⟨⟨h.grown.os,h.grown.tape,h.grown.output,by rw [Busw.dB,h.size];exact Nat.le_refl _,fun j hj hne=>?_⟩,by rw [Busw.dB,h.size],fun i hi=>⟨b,off,rfl,by rw [Busw.dB,h.size];exact hb,?_⟩,fun i h1 h2 b' off' e=>?_,fun a=>by rw [World.frozen?_setCell,h.froz]⟩
 ·rw [Below.heap_setCell _ _ _ _ (fun e=>hne (by rw [e];rfl)),h.grown.block j hj hne]
 ·by_cases e:i=k
  ·subst e;exact World.cell?_setCell_same (h:=hz) ..
  ·rw [World.cell?_setCell_other (h:=aEV (b:=b) (off:=off) (i:=k) (j:=i) (fun x=>e x.symm))]
   obtain ⟨b',off',e',_,hc⟩:=h.done i (by omega)
   cases e';exact hc
 ·cases e
  rw [World.cell?_setCell_other (h:=aEV (b:=b) (off:=off) (i:=k) (j:=i) (by omega))];exact h.left i (by omega) h2 b off rfl
theorem rJ (po:Option Addr) (n cap:Nat) (k0:Int) (w:World) (ho:Open w po n) (hn:n<=1048576) (hk0:0<=k0) (hk1:k0<=1048576) :
  Calls prog 66 #[.slice po n cap,.int .i64 k0] w fun e w'=>e=.returned (.int .i64 (k0+n))/\Mid w w' po n n k0:=by
 have HO:Hid (Open w po n):=ho;clear ho
 go_enter func66,ntmps66
 go_wp2
 go_loopw [5,1] (fun i q wr=>∃ k:Nat,k<=n/\i=.int .i64 k/\q=.int .i64 (k0+k)/\Hid (Mid w wr po n k k0)) (fun i _ _=>n-(intOf i).toNat)
 case atStart=>exact ⟨0,Nat.zero_le _,rfl,by simp,Mid.start w po n k0⟩
 case round =>
  obtain ⟨k,hk,rfl,rfl,hm⟩:=hrel
  by_cases hlt:k<n
  ·obtain ⟨b,off,rfl,hb,⟨z,hz⟩,hf⟩:=HO.out k hlt
   have q1:=(hm.out.left k (Nat.le_refl _) hlt b off rfl).trans hz;have q2:=(hm.out.froz _).trans hf;have HNX:Hid _:=hm.out.next HO.out hlt;clear hm hz hf;have k0':(0:Int)<=(k:Int):=by omega
   have k1:(k:Int)<(n:Int):=by omega
   go_wp2
   go_roundw
   case rel=>exact ⟨k+1,by omega,by go_num,by go_num,HNX⟩
   case measure=>simp [intOf];omega
  ·have e:k=n:=by omega
   subst e;go_wp2;go_ret;exact ⟨rfl,hm.out⟩
theorem aCA {w:World} {po:Option Addr} {n:Nat} (h:Open w po n) (o:Obj):Open (w.alloc o) po n:=fun i hi=>by
 obtain ⟨b,off,e,hb,⟨z,hz⟩,hf⟩:=h i hi;exact ⟨b,off,e,by simp;omega,⟨z,(((Below.refl _ w).alloc (Nat.le_refl _) o).cell (p:=⟨b,_,none⟩) hb).trans hz⟩,by rw [World.frozen?_of_block (a:=⟨b,off+i,none⟩) (aM _ _ hb)];exact hf⟩
theorem pW (m:M) (po:Option Addr) (cap:Nat) (w:World) (ho:Open w po m.out.length) (hn:m.out.length<=1048576) :
  Calls prog 26 #[.agg (aA m po cap),.int .i64 1] w fun e w'=>e=.returned (.int .i64 (1+m.out.length))/\∃ o,Mid (w.alloc o) w' po m.out.length m.out.length 1:=by
 have HO:Hid (Open w po m.out.length):=ho;obtain ⟨cM,hcM⟩ : ∃ c,c=aA m po cap:=⟨_,rfl⟩
 have k0:(w.alloc (.cells cM 30)).cell? ⟨w.heap.size,21,none⟩=some (.slice po m.out.length cap):=by
  rw [hcM];exact eM (heap_alloc_last w _) 21 _ rfl
 rw [<- hcM];clear ho hcM;have c:=fun W h=>rJ po m.out.length cap 1 W h hn (by decide) (by decide)
 have n0:¬ (1+(m.out.length:Int))<0:=by omega
 go_enter func26,ntmps26
 go_upto_region 1 with fail
 have HO1:Hid (Open (w.alloc (.cells cM 30)) po m.out.length):=aCA HO.out _
 go_wp2_with fail
 refine Calls.mono (c _ HO1.out) ?_;rintro e w1 ⟨rfl,hm⟩;have HM:Hid _:=hm;clear hm;go_wp2;go_ret;exact ⟨rfl,_,HM.out⟩
end Busm
namespace Stps
open Go.Deep
open Signed (inB sgn aG aB)
open Busw Busx Busy Stpp
structure SG where
 (W0:World)
 (X:Nat)
@[irreducible] def eS (m:M) (po:Option Addr) (cap:Nat) (full:Bool):Array Value:=(aA m po cap).push (.bool full)
theorem bP (m:M) (po:Option Addr) (cap:Nat) (full:Bool):eS m po cap full=#[.int .i64 m.ra,.int .i64 m.rf,.int .i64 m.rB,.int .i64 m.rC,.int .i64 m.rD,.int .i64 m.rE,.int .i64 m.rH,.int .i64 m.rL,.int .i64 m.sp,.int .i64 m.pc,.bool m.ime,.bool m.hal,.string m.rom,.int .i64 m.kind,.int .i64 m.bank,.string m.ram,.int .i64 m.rb,.bool m.on,.int .i64 m.mode,.string m.work,.string m.high,.slice po m.out.length cap,.int .i64 m.cyc,.bool full]:=by unfold eS;rw [aT];rfl
theorem aCB {m:M} {po:Option Addr} {cap:Nat} {full:Bool} {j:Nat} {v:Value} (h:(aA m po cap).toList[j]? = some v):(eS m po cap full)[j]? = some v:=by
 unfold eS;have hj:j<(aA m po cap).size:=by
  rcases Nat.lt_or_ge j (aA m po cap).toList.length with h1|h1
  ·simpa using h1
  ·rw [List.getElem?_eq_none h1] at h;cases h
 rw [Array.getElem?_push,if_neg (by omega)]
 simpa using h
structure SAt (g:SG) (W:World) (m:M) (full:Bool) (po:Option Addr) (cap:Nat):Prop where
 box:W.heap[g.X]? = some (.cells (eS m po cap full) 112 (0,0))
 sl:Sl W po m.out cap
 ne:∀ p,po=some p->p.block ≠ g.X
 grown:g.W0.grownBy W (some g.X)
def InS (g:SG) (W:World) (m:M) (full:Bool):Prop:=∃ po cap,SAt g W m full po cap
theorem oO {P:Program} (w:World) (b:Nat) (t ty:TypeId) (cs cs':Array Value) (fr:Nat × Nat) (d:TypeDesc) (hg:w.heap[b]? = some (.cells cs' t fr)) (hp:∀ (j:Nat) (v:Value),cs.toList[j]? = some v->cs'[j]? = some v)
  (hu:P.underlying ty=some d) (hd:(match d with|.struct _|.array _ _=>true|_=>false)=true) (hi:(P.info? ty).map (·.size)=some cs.size) :
  (loadVar ty ⟨b,0,none⟩).run P w=.ok (.agg cs) w:=by
 have hl:(loadCells ⟨b,0,none⟩ cs.toList.length).run P w=.ok cs.toList.toArray w :=
  run_loadCells_list (P:=P) w ⟨b,0,none⟩ cs.toList (fun j v hv=>by
   have hadd:(⟨b,0,none⟩ : Addr).add j=⟨b,j,none⟩:=by unfold Addr.add;split <;> simp_all
   rw [hadd,cell_of_row w b j cs' t fr hg];exact hp j v hv)
 cases hq:P.info? ty with
 | none=>simp [hq] at hi
 | some i =>
  have hs:i.size=cs.size:=by simpa [hq] using hi
  have hagg:(isAgg ty).run P w=.ok true w:=by
   unfold isAgg;rw [Sem.run_bind,run_underlying hu w]
   cases d <;> simp_all
  simp only [Array.length_toList,Array.toArray_toList] at hl
  simp [loadVar,Sem.run_bind,hagg,sizeOf,typeInfo,hq,hs,hl]
theorem dO {P:Program} {ops:Array Oper} {rest:List Oper} {o:Oper} {a:Act} {w:World} {Q:Exit->Act->World->Prop} (hgd:o.guard=none) (ty:TypeId) (x:Operand) (ho:o.op=.load ty x)
  (p:Addr) (hx:a.eval x=.pointer (some p)) (v:Value) (hl:(loadVar ty p).run P w=.ok v w) (h:wpList P ops Q rest (a.put o.dst v) w):wpList P ops Q (o :: rest) a w :=
 wpList_plain hgd fun K hK=>by
  unfold Oper.wp execOp;simp only [ho,hx,Instr.loadAt,Instr.sureAddr,Sem.run_bind,Sem.run_pure,Result.andThen_ok,hl];exact hK _ _ h
theorem aK {P:Program} {ops:Array Oper} {rest:List Oper} {o:Oper} {a:Act} {C:World->Prop} {Q:Act->Prop} (hgd:Region.wanted o (yielded ops a.tmps)=true) (ty:TypeId) (x:Operand) (ho:o.op=.load ty x)
  (p:Addr) (hx:a.eval x=.pointer (some p)) (v:Value) (hl:∀ w,C w->(loadVar ty p).run P w=.ok v w) (h:wpQuiet P ops C Q rest (a.put o.dst v)):wpQuiet P ops C Q (o :: rest) a :=
 wpQuiet_step fun K hK=>by
  rw [if_pos hgd];refine ⟨v,fun w hw=>?_,hK _ h⟩;unfold Oper.quietAt execOp;simp only [ho,hx,Instr.loadAt,Instr.sureAddr,Sem.run_bind,Sem.run_pure,Result.andThen_ok,hl w hw];exact ⟨rfl,rfl⟩
theorem nG {P:Program} (w:World) (b:Nat) (t ty:TypeId) (old cells:Array Value) (hg:w.heap[b]? = some (.cells old t (0,0))) (hi:(P.info? ty).map (·.size)=some cells.size)
  (ho:cells.size<=old.size) (h1:cells.all (·.oneCell')=true) :
  (storeVar ty ⟨b,0,none⟩ (.agg cells)).run P w=.ok () (w.setRow b (cells.toList ++ old.toList.drop cells.size).toArray):=by
 have:=run_storeCells_at P b 0 t cells.toList 0 old w hg (by simpa using ho) (fun v hv=>(Array.all_eq_true_iff_forall_mem.1 h1) v (by simpa using hv))
 cases hq:P.info? ty with
 | none=>simp [hq] at hi
 | some i =>
  have hs:cells.size=i.size:=by simp [hq] at hi;omega
  simp [storeVar,sizeOf,typeInfo,hq,Value.cells,hs] at this |-
  rw [<- hs] at this |-
  simpa using this
theorem nH {P:Program} {ops:Array Oper} {rest:List Oper} {o:Oper} {a:Act} {w:World} {Q:Exit->Act->World->Prop} (hgd:o.guard=none) (ty:TypeId) (x y:Operand) (ho:o.op=.store ty x y)
  (b:Nat) (cells:Array Value) (hx:a.eval x=.pointer (some ⟨b,0,none⟩)) (hy:a.eval y=.agg cells) (t:TypeId) (old:Array Value) (hg:w.heap[b]? = some (.cells old t (0,0))) (hi:(P.info? ty).map (·.size)=some cells.size)
  (hold:cells.size<=old.size) (h1:cells.all (·.oneCell')=true)
  (h:wpList P ops Q rest (a.put o.dst undef) (w.setRow b (cells.toList ++ old.toList.drop cells.size).toArray)):wpList P ops Q (o :: rest) a w :=
 wpList_plain hgd fun K hK=>by
  unfold Oper.wp execOp;simp only [ho,hx,hy,Instr.storeAt,Instr.sureAddr,Sem.run_bind,Sem.run_pure,Result.andThen_ok,nG w b t ty old cells hg hi hold h1];exact hK _ _ h
theorem bBH (m m':M) (po po':Option Addr) (cap cap':Nat) (full:Bool):((aA m' po' cap').toList ++ (eS m po cap full).toList.drop (aA m' po' cap').size).toArray=eS m' po' cap' full:=by
 rw [aV,bP,bP,aT];rfl
theorem bBI (m:M) (po:Option Addr) (cap:Nat) (full:Bool):(eS m po cap full).size=24:=by rw [bP];rfl
theorem SAt.load {g:SG} {W W':World} {m:M} {full:Bool} {po:Option Addr} {cap:Nat} (h:SAt g W m full po cap) (hb:W'.heap[g.X]? = W.heap[g.X]?):(loadVar 30 ⟨g.X,0,none⟩).run prog W'=.ok (.agg (aA m po cap)) W' :=
 oO W' g.X _ _ _ _ (0,0) _ (hb.trans h.box) (fun j v hv=>aCB hv) underlying30 rfl (aP m po cap)
theorem SAt.lt {g:SG} {W:World} {m:M} {full:Bool} {po:Option Addr} {cap:Nat} (h:SAt g W m full po cap):g.X<W.heap.size:=(zLo h.box)
theorem xY {W W':World} {po:Option Addr} {L:List Int} {cap X:Nat} (h:Sl W po L cap) (hne:∀ p,po=some p->p.block ≠ X) (hg:W.grownBy W' (some X)):Sl W' po L cap:=by
 rcases h with h|⟨b,off,rfl,hc⟩
 ·exact .inl h
 ·exact .inr ⟨b,off,rfl,fun i hi=>⟨Nat.lt_of_lt_of_le (hc i hi).1 hg.size,(World.cell?_of_block (a:=⟨b,off+i,none⟩) (hg.block b (hc i hi).1 (fun e=>hne _ rfl (Option.some.inj e)))).trans (hc i hi).2⟩⟩
theorem gA {w w1 w2:World} {X:Nat} (h:w.grownBy w1 (some X)) (h2:w1.grownBy w2 (some X)):w.grownBy w2 (some X) :=
 ⟨h2.os.trans h.os,h2.tape.trans h.tape,h2.output.trans h.output,Nat.le_trans h.size h2.size,fun k hk hne=>(h2.block k (Nat.lt_of_lt_of_le hk h.size) hne).trans (h.block k hk hne)⟩
theorem below_grown {w w':World} {X:Nat} (h:Below w.heap.size w w'):w.grownBy w' (some X):=⟨h.os,h.tape,h.output,h.size,fun k hk _=>h.block k hk⟩
theorem InS.below {g:SG} {W W':World} {m:M} {full:Bool} (h:InS g W m full) (hb:Below W.heap.size W W'):InS g W' m full:=by
 obtain ⟨po,cap,h⟩:=h;exact ⟨po,cap,(hb.block _ h.lt).trans h.box,h.sl.below hb,h.ne,gA h.grown (below_grown hb)⟩
theorem InS.lt {g:SG} {W:World} {m:M} {full:Bool} (h:InS g W m full):g.X<W.heap.size:=by obtain ⟨po,cap,h⟩:=h;exact h.lt
theorem InS.fro {g:SG} {W:World} {m:M} {full:Bool} (h:InS g W m full) (i:Nat):W.frozen? ⟨g.X,i,none⟩=false:=by
 obtain ⟨po,cap,h⟩:=h;exact frozen_of_row _ _ _ _ _ h.box
theorem InS.cell {g:SG} {W:World} {m:M} {full:Bool} (h:InS g W m full) (i:Nat) (v:Value) (hv:(#[.int .i64 m.ra,.int .i64 m.rf,.int .i64 m.rB,.int .i64 m.rC,.int .i64 m.rD,.int .i64 m.rE,.int .i64 m.rH,.int .i64 m.rL,.int .i64 m.sp,.int .i64 m.pc,.bool m.ime,.bool m.hal]:Array Value)[i]? = some v):W.cell? ⟨g.X,i,none⟩=some v:=by
 obtain ⟨po,cap,h⟩:=h;rw [cell_of_row W g.X i _ _ _ h.box,bP]
 match i,hv with
 | 0,hv=>exact hv
 | 1,hv=>exact hv
 | 2,hv=>exact hv
 | 3,hv=>exact hv
 | 4,hv=>exact hv
 | 5,hv=>exact hv
 | 6,hv=>exact hv
 | 7,hv=>exact hv
 | 8,hv=>exact hv
 | 9,hv=>exact hv
 | 10,hv=>exact hv
 | 11,hv=>exact hv
 | i+12,hv=>simp at hv
theorem InS.cellFull {g:SG} {W:World} {m:M} {full:Bool} (h:InS g W m full):W.cell? ⟨g.X,23,none⟩=some (.bool full):=by
 obtain ⟨po,cap,h⟩:=h;rw [cell_of_row W g.X 23 _ _ _ h.box,bP];rfl
theorem InS.cellCyc {g:SG} {W:World} {m:M} {full:Bool} (h:InS g W m full):W.cell? ⟨g.X,22,none⟩=some (.int .i64 m.cyc):=by
 obtain ⟨po,cap,h⟩:=h;rw [cell_of_row W g.X 22 _ _ _ h.box,bP];rfl
theorem jQ (w:World) (B i:Nat) (v:Value):w.grownBy (w.setCell ⟨B,i,none⟩ v) (some B) :=
 ⟨rfl,rfl,rfl,by rw [Busw.dB];exact Nat.le_refl _,fun k _ hk=>Below.heap_setCell _ _ _ _ (fun e=>hk (by rw [e]))⟩
theorem InS.setX {g:SG} {W:World} {m m':M} {full full':Bool} (i:Nat) (v:Value) (h:InS g W m full) (ho:m'.out=m.out) (hbox:∀ po cap,W.heap[g.X]? = some (.cells (eS m po cap full) 112 (0,0))->(W.setCell ⟨g.X,i,none⟩ v).heap[g.X]? = some (.cells (eS m' po cap full') 112 (0,0))) :
  InS g (W.setCell ⟨g.X,i,none⟩ v) m' full':=by
 obtain ⟨po,cap,h⟩:=h;have hg:=jQ W g.X i v;exact ⟨po,cap,hbox po cap h.box,by rw [ho];exact xY h.sl h.ne hg,h.ne,gA h.grown hg⟩
theorem InS.setFull {g:SG} {W:World} {m:M} {full:Bool} (h:InS g W m full) (b:Bool):InS g (W.setCell ⟨g.X,23,none⟩ (.bool b)) m b :=
 h.setX 23 _ rfl (fun po cap hb=>by rw [bP] at hb |-;exact (heap_setCell_same _ _ _ _ _ _ hb).trans rfl)
theorem InS.s_cyc {g:SG} {W:World} {m:M} {full:Bool} (h:InS g W m full) (v:Int):InS g (W.setCell ⟨g.X,22,none⟩ (.int .i64 v)) { m with cyc:=v } full :=
 h.setX 22 _ rfl (fun po cap hb=>by rw [bP] at hb |-;exact (heap_setCell_same _ _ _ _ _ _ hb).trans rfl)
theorem InS.s_ra {g:SG} {W:World} {m:M} {full:Bool} (h:InS g W m full) (v:Int):InS g (W.setCell ⟨g.X,0,none⟩ (.int .i64 v)) { m with ra:=v } full :=
 h.setX 0 _ rfl (fun po cap hb=>by rw [bP] at hb |-;exact (heap_setCell_same _ _ _ _ _ _ hb).trans rfl)
theorem InS.s_rf {g:SG} {W:World} {m:M} {full:Bool} (h:InS g W m full) (v:Int):InS g (W.setCell ⟨g.X,1,none⟩ (.int .i64 v)) { m with rf:=v } full :=
 h.setX 1 _ rfl (fun po cap hb=>by rw [bP] at hb |-;exact (heap_setCell_same _ _ _ _ _ _ hb).trans rfl)
theorem InS.s_rB {g:SG} {W:World} {m:M} {full:Bool} (h:InS g W m full) (v:Int):InS g (W.setCell ⟨g.X,2,none⟩ (.int .i64 v)) { m with rB:=v } full :=
 h.setX 2 _ rfl (fun po cap hb=>by rw [bP] at hb |-;exact (heap_setCell_same _ _ _ _ _ _ hb).trans rfl)
theorem InS.s_rC {g:SG} {W:World} {m:M} {full:Bool} (h:InS g W m full) (v:Int):InS g (W.setCell ⟨g.X,3,none⟩ (.int .i64 v)) { m with rC:=v } full :=
 h.setX 3 _ rfl (fun po cap hb=>by rw [bP] at hb |-;exact (heap_setCell_same _ _ _ _ _ _ hb).trans rfl)
theorem InS.s_rD {g:SG} {W:World} {m:M} {full:Bool} (h:InS g W m full) (v:Int):InS g (W.setCell ⟨g.X,4,none⟩ (.int .i64 v)) { m with rD:=v } full :=
 h.setX 4 _ rfl (fun po cap hb=>by rw [bP] at hb |-;exact (heap_setCell_same _ _ _ _ _ _ hb).trans rfl)
theorem InS.s_rE {g:SG} {W:World} {m:M} {full:Bool} (h:InS g W m full) (v:Int):InS g (W.setCell ⟨g.X,5,none⟩ (.int .i64 v)) { m with rE:=v } full :=
 h.setX 5 _ rfl (fun po cap hb=>by rw [bP] at hb |-;exact (heap_setCell_same _ _ _ _ _ _ hb).trans rfl)
theorem InS.s_rH {g:SG} {W:World} {m:M} {full:Bool} (h:InS g W m full) (v:Int):InS g (W.setCell ⟨g.X,6,none⟩ (.int .i64 v)) { m with rH:=v } full :=
 h.setX 6 _ rfl (fun po cap hb=>by rw [bP] at hb |-;exact (heap_setCell_same _ _ _ _ _ _ hb).trans rfl)
theorem InS.s_rL {g:SG} {W:World} {m:M} {full:Bool} (h:InS g W m full) (v:Int):InS g (W.setCell ⟨g.X,7,none⟩ (.int .i64 v)) { m with rL:=v } full :=
 h.setX 7 _ rfl (fun po cap hb=>by rw [bP] at hb |-;exact (heap_setCell_same _ _ _ _ _ _ hb).trans rfl)
theorem InS.s_sp {g:SG} {W:World} {m:M} {full:Bool} (h:InS g W m full) (v:Int):InS g (W.setCell ⟨g.X,8,none⟩ (.int .i64 v)) { m with sp:=v } full :=
 h.setX 8 _ rfl (fun po cap hb=>by rw [bP] at hb |-;exact (heap_setCell_same _ _ _ _ _ _ hb).trans rfl)
theorem InS.s_pc {g:SG} {W:World} {m:M} {full:Bool} (h:InS g W m full) (v:Int):InS g (W.setCell ⟨g.X,9,none⟩ (.int .i64 v)) { m with pc:=v } full :=
 h.setX 9 _ rfl (fun po cap hb=>by rw [bP] at hb |-;exact (heap_setCell_same _ _ _ _ _ _ hb).trans rfl)
theorem InS.s_ime {g:SG} {W:World} {m:M} {full:Bool} (h:InS g W m full) (v:Bool):InS g (W.setCell ⟨g.X,10,none⟩ (.bool v)) { m with ime:=v } full :=
 h.setX 10 _ rfl (fun po cap hb=>by rw [bP] at hb |-;exact (heap_setCell_same _ _ _ _ _ _ hb).trans rfl)
theorem InS.s_hal {g:SG} {W:World} {m:M} {full:Bool} (h:InS g W m full) (v:Bool):InS g (W.setCell ⟨g.X,11,none⟩ (.bool v)) { m with hal:=v } full :=
 h.setX 11 _ rfl (fun po cap hb=>by rw [bP] at hb |-;exact (heap_setCell_same _ _ _ _ _ _ hb).trans rfl)
theorem eN (m:M) (po:Option Addr) (cap:Nat) (addr:Int) (w:World) (hr:Rt m) (a0:0<=addr):Calls prog 100 #[.agg (aA m po cap),.int .i64 addr] w fun e w'=>e=.returned (.int .i64 (rd m addr))/\Below w.heap.size w w':=by
 rw [aT];exact MachB.aBP m.ra m.rf m.rB m.rC m.rD m.rE m.rH m.rL m.sp m.pc m.ime m.hal m.rom m.kind m.bank m.ram m.rb m.on m.mode m.work m.high po m.out cap m.cyc addr w hr.rom hr.cart hr.work hr.high a0
end Stps
namespace Stpt
open Signed (inB sgn)
open Reck ReckS ReckM ReckD TurnS
open Busw (M wrM Rt)
open Stpp
def cm (c:Int) (m:M):M:={ m with cyc:=c }
def cy (c:Int) (s:S):S:=⟨cm c s.m,s.full⟩
theorem bBJ (c:Int) (m:M) (a v:Int):wrM (cm c m) a v=(wrM m a v).map (cm c):=by
 unfold wrM
 by_cases h1:inB a 49152 49407=true
 ·rw [if_pos h1,if_pos h1];rfl
 rw [if_neg h1,if_neg h1]
 by_cases h2:inB a 65408 65534=true
 ·rw [if_pos h2,if_pos h2];rfl
 rw [if_neg h2,if_neg h2]
 by_cases h3:a=65281
 ·rw [if_pos h3,if_pos h3]
  by_cases h4:100<=m.out.length
  ·have h5:100<=(cm c m).out.length:=h4
   rw [if_pos h4,if_pos h5];rfl
  ·have h5:¬ 100<=(cm c m).out.length:=h4
   rw [if_neg h4,if_neg h5];rfl
 ·rw [if_neg h3,if_neg h3];rfl
theorem nI (c:Int) (s:S) (a v:Int):wr (cy c s) a v=cy c (wr s a v):=by
 unfold wr;have h:=bBJ c s.m (a%65536) v;rw [show (cy c s).m=cm c s.m from rfl,h]
 cases wrM s.m (a%65536) v <;> rfl
theorem aTC (c:Int) (m:M) (n v:Int):vF (cm c m) n v=cm c (vF m n v):=by
 unfold vF
 repeat' split
 all_goals rfl
theorem lK (c:Int) (m:M) (n v:Int):aN (cm c m) n v=cm c (aN m n v):=by
 unfold aN
 repeat' split
 all_goals rfl
theorem aTD (c:Int) (m:M) (n v:Int):eW (cm c m) n v=cm c (eW m n v):=by
 unfold eW;split
 ·rfl
 ·exact lK c m n v
theorem mD (c:Int) (s:S) (n v:Int):put (cy c s) n v=cy c (put s n v):=by
 unfold put;split
 ·exact nI c s _ v
 ·show (⟨vF (cm c s.m) n v,s.full⟩ : S)=_
  rw [aTC];rfl
theorem aEW (c:Int) (s:S) (v:Int):push (cy c s) v=cy c (push s v):=by
 unfold push;rw [show (cy c s).m.sp=s.m.sp from rfl,nI,nI]
 rfl
theorem aEX (c:Int) (s:S) (v:Int):aR v (cy c s)=cy c (aR v s):=by
 unfold aR;rw [show (cy c s).m.pc=s.m.pc from rfl,aEW]
 rfl
theorem bGZ (c:Int) (code:Int) (s:S):cbE code (cy c s)=cy c (cbE code s):=by
 unfold cbE
 repeat' split
 ·rw [mD];rfl
 ·rfl
 ·exact mD c s _ _
 ·exact mD c s _ _
theorem bBK (c:Int) (y:Int) (s:S):gY y (cy c s)=cy c (gY y s):=by
 unfold gY
 repeat' split
 all_goals rfl
theorem tA (c:Int) (m:M) (p:Int):bZ (cm c m) p=cm c (bZ m p):=by
 unfold bZ;split
 ·exact lK c m _ _
 ·rfl
def cp (c:Int) (r:S × Bool):S × Bool:=(cy c r.1,r.2)
theorem cE {p:Prop} [Decidable p] {c:Int} {a b x y:S × Bool} (h1:a=cp c x) (h2:b=cp c y):(if p then a else b)=cp c (if p then x else y):=by
 split
 ·exact h1
 ·exact h2
theorem bL {c:Int} {a x:S} {b:Bool} (h:a=cy c x):(a,b)=cp c (x,b):=by rw [h];rfl
theorem bBL (c:Int) (code imm:Int) (s:S):bY code imm (cy c s)=cp c (bY code imm s):=by
 unfold bY;refine cE (cE (bL ?_) (cE (bL rfl) (bL rfl))) (cE (cE (bL ?_) (bL ?_)) (cE (cE (bL ?_) (bL ?_)) (cE (bL ?_) (cE (bL ?_) (cE (bL ?_) (cE (bL ?_) (bL ?_)))))))
 ·unfold spE
  rw [show (cy c s).m.sp=s.m.sp from rfl,nI,nI]
 ·show (⟨aN (cm c s.m) _ _,s.full⟩ : S)=_
  rw [lK];rfl
 ·unfold bGY
  show (⟨{ aN (cm c s.m) 2 _ with rf:=_ },s.full⟩ : S)=_;rw [lK];rfl
 ·unfold stE
  rw [show placeOf (cy c s).m (code / 8 / 2)=placeOf s.m (code / 8 / 2) from rfl,show (cy c s).m.ra=s.m.ra from rfl,nI];show (⟨bZ (cm c (wr s _ _).m) _,(wr s _ _).full⟩ : S)=_;rw [tA];rfl
 ·unfold ldE
  show (⟨bZ (cm c { s.m with ra:=_ }) _,s.full⟩ : S)=_;rw [tA];rfl
 ·show (⟨aN (cm c s.m) _ _,s.full⟩ : S)=_
  rw [lK];rfl
 ·rw [mD];rfl
 ·rw [mD];rfl
 ·exact mD c s _ _
 ·exact bBK c _ s
theorem bBM (c:Int) (code imm:Int) (s:S):aW code imm (cy c s)=cp c (aW code imm s):=by
 unfold aW;refine cE (bL rfl) (cE (bL (nI c s _ _)) (cE (bL (nI c s _ _)) (cE (bL rfl) (cE (bL rfl) (cE (bL (nI c s _ _)) (cE (bL rfl) (cE (bL rfl) (cE (bL ?_) (cE (bL rfl) (cE (bL rfl) (cE (bL ?_) (cE (bL (aEW c s _)) (cE (bL rfl) (cE (bL rfl) (cE (bL (aEX c s _)) (cE (bL rfl) (cE (bL (aEX c s _)) (bL rfl))))))))))))))))))
 ·show (⟨{ aN (cm c s.m) 2 _ with rf:=_ },s.full⟩ : S)=_
  rw [lK];rfl
 ·show (⟨eW (cm c (aU s.m)) _ _,s.full⟩ : S)=_
  rw [aTD];rfl
theorem bBN (c:Int) (code:Int) (cb:Bool) (imm:Int) (s:S):sem code cb imm (cy c s)=cp c (sem code cb imm s):=by
 unfold sem;exact cE (bL (bGZ c code s)) (cE (bBL c code imm s) (cE (bL rfl) (cE (bL (mD c s _ _)) (cE (bL rfl) (bBM c code imm s)))))
end Stpt
namespace Stpi
open Go.Deep
open Signed (inB sgn aG aB)
open Busw Busx Stpp
def qI:List ByteArray:=[⟨#[98,99]⟩,⟨#[100,101]⟩,⟨#[104,108]⟩,⟨#[97,102]⟩]
def bHA:List ByteArray:=[⟨#[]⟩,⟨#[98,105,116]⟩,⟨#[114,101,115]⟩,⟨#[115,101,116]⟩]
def TRow (w:World) (g:Nat) (l:List ByteArray):Prop:=∀ i,i<l.length->w.cell? ⟨g,i,none⟩=some (.string (l.getD i ⟨#[]⟩))
structure Tb (w:World):Prop where
 stack:TRow w 1 qI
 bit:TRow w 2 bHA
theorem TRow.lt {w:World} {g:Nat} {l:List ByteArray} (h:TRow w g l) (hl:0<l.length):g<w.heap.size:=World.block_lt_of_cell? w ⟨g,0,none⟩ (h 0 hl)
theorem TRow.of {w w':World} {g:Nat} {l:List ByteArray} (h:TRow w g l) (b:w'.heap[g]? = w.heap[g]?):TRow w' g l:=fun i hi=>(World.cell?_of_block (a:=⟨g,i,none⟩) b).trans (h i hi)
theorem Tb.of {w w':World} (h:Tb w) (b:∀ k,k=1 \/ k=2->w'.heap[k]? = w.heap[k]?):Tb w':=⟨h.stack.of (b _ (.inl rfl)),h.bit.of (b _ (.inr rfl))⟩
theorem Tb.below {w w':World} (h:Tb w) (b:Below w.heap.size w w'):Tb w':=⟨h.stack.of (b.block _ (h.stack.lt (by decide))),h.bit.of (b.block _ (h.bit.lt (by decide)))⟩
structure G where
 (W0:World)
 (K B base:Nat)
 (code:Int)
 (cb:Bool)
 (imm x y z p q:Int)
 (po0:Option Addr)
 (n0 cap0:Nat)
 (L0:List Int)
def kc (g:G) (full:Bool):Array Value:=#[.pointer (some ⟨g.B,0,none⟩),.pointer (some ⟨g.B,0,none⟩),.int .i64 g.code,.bool g.cb,.int .i64 g.imm,.int .i64 g.x,.int .i64 g.y,.int .i64 g.z,.int .i64 g.p,.int .i64 g.q,.bool full]
structure At (g:G) (W:World) (m:M) (full:Bool) (po:Option Addr) (cap:Nat):Prop where
 held:Held W g.B g.base m po cap
 k:W.heap[g.K]? = some (.cells (kc g full) 127 (0,0))
 old:W.ownsRow g.base 2 1 (.slice g.po0 g.n0 g.cap0) g.n0 (dJ g.L0)
 len:blk g.po0=blk po->g.n0<=m.out.length
 os:W.os=g.W0.os
 tape:W.tape=g.W0.tape
 output:W.output=g.W0.output
 size:g.W0.heap.size<=W.heap.size
 block:∀ k,k<g.W0.heap.size->k ≠ g.B->k ≠ g.K->some k ≠ blk g.po0->W.heap[k]? = g.W0.heap[k]?
 mov:nA g.W0 g.po0 po
 tab:Tb W
 bB:g.base<=g.B
 bK:g.base<=g.K
 bT:1<g.base/\2<g.base
 low:∀ k,blk g.po0=some k->k<g.W0.heap.size
def In (g:G) (W:World) (m:M) (full:Bool):Prop:=∃ po cap,At g W m full po cap
theorem oP {w:World} {base n B:Nat} {v:Value} {xs:List Value} {cs:Array Value} {t:TypeId} {fz:Nat × Nat} (ht:t ≠ 2) (h:w.ownsRow base 2 1 v n xs) (hb:w.heap[B]? = some (.cells cs t fz)):v.ownBlock ≠ some B:=by
 intro e;rcases h.2 with ⟨rfl,_⟩|⟨g,cap,cur,rfl,_,hg,_⟩
 ·cases e
 ·cases e
  rw [hb] at hg
  injection hg with hg
  injection hg with _ h2
  exact ht h2
theorem xZ {w:World} {base n cap k:Nat} {po:Option Addr} {xs:List Value} (h:w.ownsRow base 2 1 (.slice po n cap) n xs) (hk:blk po=some k):base<=k/\k<w.heap.size:=h.lt k (by rw [fV];exact hk)
theorem At.neKB {g:G} {W:World} {m:M} {full:Bool} {po:Option Addr} {cap:Nat} (h:At g W m full po cap):g.K ≠ g.B:=fun e=>by
 have h1:=h.k;rw [e,h.held.box] at h1
 injection h1 with h1
 injection h1 with _ h2
 exact absurd h2 (by decide)
theorem At.turn {g:G} {W W':World} {m m':M} {full full':Bool} {po po':Option Addr} {cap cap':Nat} (h:At g W m full po cap) (e1:W'.os=W.os) (e2:W'.tape=W.tape) (e3:W'.output=W.output) (e4:W.heap.size<=W'.heap.size)
  (hb:∀ k,k<W.heap.size->k ≠ g.B->k ≠ g.K->some k ≠ blk po->W'.heap[k]? = W.heap[k]?) (hh:Held W' g.B g.base m' po' cap') (hk:W'.heap[g.K]? = some (.cells (kc g full') 127 (0,0)))
  (ho:W'.ownsRow g.base 2 1 (.slice g.po0 g.n0 g.cap0) g.n0 (dJ g.L0)) (hl:blk g.po0=blk po'->g.n0<=m'.out.length) (hm:nA W po po'):At g W' m' full' po' cap':=by
 refine ⟨hh,hk,ho,hl,e1.trans h.os,e2.trans h.tape,e3.trans h.output,Nat.le_trans h.size e4,fun k h0 h1 h2 h3=>(hb k (Nat.lt_of_lt_of_le h0 h.size) h1 h2 (fun e=>?_)).trans (h.block k h0 h1 h2 h3),?_,h.tab.of (fun k hkk=>hb k ?_ ?_ ?_ (fun e=>?_)),h.bB,h.bK,h.bT,h.low⟩
 ·rcases h.mov with rfl|⟨p,rfl,hp⟩
  ·exact h3 e
  ·have e5:k=p.block:=Option.some.inj e
   omega
 ·rcases hm with rfl|⟨p,rfl,hp⟩
  ·exact h.mov
  ·exact .inr ⟨p,rfl,Nat.le_trans h.size hp⟩
 ·rcases hkk with rfl|rfl
  ·exact h.tab.stack.lt (by decide)
  ·exact h.tab.bit.lt (by decide)
 ·have h1:=h.bT
  have h2:=h.bB;rcases hkk with rfl|rfl <;> omega
 ·have h1:=h.bT
  have h2:=h.bK;rcases hkk with rfl|rfl <;> omega
 ·have h1:=h.bT
  have h2:=(xZ h.held.row e.symm).1;rcases hkk with rfl|rfl <;> omega
theorem In.below {g:G} {W W':World} {m:M} {full:Bool} (h:In g W m full) (hb:Below W.heap.size W W'):In g W' m full:=by
 obtain ⟨po,cap,h⟩:=h;have hg:W.grownBy W' none:=⟨hb.os,hb.tape,hb.output,hb.size,fun k hk _=>hb.block k hk⟩;have kk:∀ {b:Nat} {q:Option Addr} {n c:Nat} {xs:List Value},W.ownsRow b 2 1 (.slice q n c) n xs->W'.ownsRow b 2 1 (.slice q n c) n xs:=fun h=>h.kept hg (by cases hv:(Value.slice _ _ _).ownBlock <;> simp)
 exact ⟨po,cap,h.turn hb.os hb.tape hb.output hb.size (fun k hk _ _ _=>hb.block k hk) ⟨(hb.block _ h.held.lt).trans h.held.box,kk h.held.row,h.held.ne⟩ ((hb.block _ (zLo h.k)).trans h.k) (kk h.old) h.len (.inl rfl)⟩
theorem In.ltB {g:G} {W:World} {m:M} {full:Bool} (h:In g W m full):g.B<W.heap.size:=by obtain ⟨po,cap,h⟩:=h;exact h.held.lt
theorem In.ltK {g:G} {W:World} {m:M} {full:Bool} (h:In g W m full):g.K<W.heap.size:=by obtain ⟨po,cap,h⟩:=h;exact (zLo h.k)
theorem In.base {g:G} {W:World} {m:M} {full:Bool} (h:In g W m full):g.base<=W.heap.size:=by obtain ⟨po,cap,h⟩:=h;have h1:=h.held.lt;have h2:=h.bB;omega
theorem In.tb {g:G} {W:World} {m:M} {full:Bool} (h:In g W m full):Tb W:=by obtain ⟨po,cap,h⟩:=h;exact h.tab
theorem In.kcell {g:G} {W:World} {m:M} {full:Bool} (h:In g W m full) (i:Nat) (v:Value) (hv:(kc g full)[i]? = some v):W.cell? ⟨g.K,i,none⟩=some v:=by
 obtain ⟨po,cap,h⟩:=h;rw [cell_of_row W g.K i _ _ _ h.k];exact hv
theorem In.kfro {g:G} {W:World} {m:M} {full:Bool} (h:In g W m full) (i:Nat):W.frozen? ⟨g.K,i,none⟩=false:=by
 obtain ⟨po,cap,h⟩:=h;exact frozen_of_row _ _ _ _ _ h.k
theorem In.fro {g:G} {W:World} {m:M} {full:Bool} (h:In g W m full) (i:Nat):W.frozen? ⟨g.B,i,none⟩=false:=by
 obtain ⟨po,cap,h⟩:=h;exact frozen_of_row _ _ _ _ _ h.held.box
theorem In.cell {g:G} {W:World} {m:M} {full:Bool} (h:In g W m full) (i:Nat) (v:Value) (hv:(#[.int .i64 m.ra,.int .i64 m.rf,.int .i64 m.rB,.int .i64 m.rC,.int .i64 m.rD,.int .i64 m.rE,.int .i64 m.rH,.int .i64 m.rL,.int .i64 m.sp,.int .i64 m.pc,.bool m.ime,.bool m.hal]:Array Value)[i]? = some v):W.cell? ⟨g.B,i,none⟩=some v:=by
 obtain ⟨po,cap,h⟩:=h;refine eM h.held.box i v ?_
 match i,hv with
 | 0,hv=>exact hv
 | 1,hv=>exact hv
 | 2,hv=>exact hv
 | 3,hv=>exact hv
 | 4,hv=>exact hv
 | 5,hv=>exact hv
 | 6,hv=>exact hv
 | 7,hv=>exact hv
 | 8,hv=>exact hv
 | 9,hv=>exact hv
 | 10,hv=>exact hv
 | 11,hv=>exact hv
 | i+12,hv=>simp at hv
theorem jQ (w:World) (B i:Nat) (v:Value):w.grownBy (w.setCell ⟨B,i,none⟩ v) (some B) :=
 ⟨rfl,rfl,rfl,by rw [Busw.dB];exact Nat.le_refl _,fun k _ hk=>Below.heap_setCell _ _ _ _ (fun e=>hk (by rw [e]))⟩
theorem In.setB {g:G} {W:World} {m m':M} {full:Bool} (i:Nat) (v:Value) (h:In g W m full) (ho:m'.out=m.out) (hbox:∀ po cap,W.heap[g.B]? = some (.cells (aA m po cap) 30 (0,0))->(W.setCell ⟨g.B,i,none⟩ v).heap[g.B]? = some (.cells (aA m' po cap) 30 (0,0))) :
  In g (W.setCell ⟨g.B,i,none⟩ v) m' full:=by
 obtain ⟨po,cap,h⟩:=h;have hg:=jQ W g.B i v;refine ⟨po,cap,h.turn hg.os hg.tape hg.output hg.size (fun k hk h1 _ _=>hg.block k hk (fun e=>h1 (Option.some.inj e))) (h.held.turn (hbox po cap h.held.box) ho hg) ((hg.block _ (zLo h.k) (fun e=>h.neKB (Option.some.inj e))).trans h.k) (h.old.kept hg (.inr (dK h.old h.held.box))) (fun e=>by rw [ho];exact h.len e) (.inl rfl)⟩
theorem In.setFull {g:G} {W:World} {m:M} {full:Bool} (h:In g W m full):In g (W.setCell ⟨g.K,10,none⟩ (.bool true)) m true:=by
 obtain ⟨po,cap,h⟩:=h;have hg:=jQ W g.K 10 (.bool true);have hr:=oP (by decide) h.held.row h.k;refine ⟨po,cap,h.turn hg.os hg.tape hg.output hg.size (fun k hk _ h2 _=>hg.block k hk (fun e=>h2 (Option.some.inj e))) ⟨(hg.block _ h.held.lt (fun e=>h.neKB (Option.some.inj e).symm)).trans h.held.box,h.held.row.kept hg (.inr hr),h.held.ne⟩ ((heap_setCell_same _ _ _ _ _ _ h.k).trans rfl) (h.old.kept hg (.inr (oP (by decide) h.old h.k))) h.len (.inl rfl)⟩
theorem In.s_ra {g:G} {W:World} {m:M} {full:Bool} (h:In g W m full) (v:Int):In g (W.setCell ⟨g.B,0,none⟩ (.int .i64 v)) { m with ra:=v } full :=
 h.setB 0 _ rfl (fun po cap hb=>by rw [aT] at hb |-;exact (heap_setCell_same _ _ _ _ _ _ hb).trans rfl)
theorem In.s_rf {g:G} {W:World} {m:M} {full:Bool} (h:In g W m full) (v:Int):In g (W.setCell ⟨g.B,1,none⟩ (.int .i64 v)) { m with rf:=v } full :=
 h.setB 1 _ rfl (fun po cap hb=>by rw [aT] at hb |-;exact (heap_setCell_same _ _ _ _ _ _ hb).trans rfl)
theorem In.s_rB {g:G} {W:World} {m:M} {full:Bool} (h:In g W m full) (v:Int):In g (W.setCell ⟨g.B,2,none⟩ (.int .i64 v)) { m with rB:=v } full :=
 h.setB 2 _ rfl (fun po cap hb=>by rw [aT] at hb |-;exact (heap_setCell_same _ _ _ _ _ _ hb).trans rfl)
theorem In.s_rC {g:G} {W:World} {m:M} {full:Bool} (h:In g W m full) (v:Int):In g (W.setCell ⟨g.B,3,none⟩ (.int .i64 v)) { m with rC:=v } full :=
 h.setB 3 _ rfl (fun po cap hb=>by rw [aT] at hb |-;exact (heap_setCell_same _ _ _ _ _ _ hb).trans rfl)
theorem In.s_rD {g:G} {W:World} {m:M} {full:Bool} (h:In g W m full) (v:Int):In g (W.setCell ⟨g.B,4,none⟩ (.int .i64 v)) { m with rD:=v } full :=
 h.setB 4 _ rfl (fun po cap hb=>by rw [aT] at hb |-;exact (heap_setCell_same _ _ _ _ _ _ hb).trans rfl)
theorem In.s_rE {g:G} {W:World} {m:M} {full:Bool} (h:In g W m full) (v:Int):In g (W.setCell ⟨g.B,5,none⟩ (.int .i64 v)) { m with rE:=v } full :=
 h.setB 5 _ rfl (fun po cap hb=>by rw [aT] at hb |-;exact (heap_setCell_same _ _ _ _ _ _ hb).trans rfl)
theorem In.s_rH {g:G} {W:World} {m:M} {full:Bool} (h:In g W m full) (v:Int):In g (W.setCell ⟨g.B,6,none⟩ (.int .i64 v)) { m with rH:=v } full :=
 h.setB 6 _ rfl (fun po cap hb=>by rw [aT] at hb |-;exact (heap_setCell_same _ _ _ _ _ _ hb).trans rfl)
theorem In.s_rL {g:G} {W:World} {m:M} {full:Bool} (h:In g W m full) (v:Int):In g (W.setCell ⟨g.B,7,none⟩ (.int .i64 v)) { m with rL:=v } full :=
 h.setB 7 _ rfl (fun po cap hb=>by rw [aT] at hb |-;exact (heap_setCell_same _ _ _ _ _ _ hb).trans rfl)
theorem In.s_sp {g:G} {W:World} {m:M} {full:Bool} (h:In g W m full) (v:Int):In g (W.setCell ⟨g.B,8,none⟩ (.int .i64 v)) { m with sp:=v } full :=
 h.setB 8 _ rfl (fun po cap hb=>by rw [aT] at hb |-;exact (heap_setCell_same _ _ _ _ _ _ hb).trans rfl)
theorem In.s_pc {g:G} {W:World} {m:M} {full:Bool} (h:In g W m full) (v:Int):In g (W.setCell ⟨g.B,9,none⟩ (.int .i64 v)) { m with pc:=v } full :=
 h.setB 9 _ rfl (fun po cap hb=>by rw [aT] at hb |-;exact (heap_setCell_same _ _ _ _ _ _ hb).trans rfl)
theorem In.s_ime {g:G} {W:World} {m:M} {full:Bool} (h:In g W m full) (v:Bool):In g (W.setCell ⟨g.B,10,none⟩ (.bool v)) { m with ime:=v } full :=
 h.setB 10 _ rfl (fun po cap hb=>by rw [aT] at hb |-;exact (heap_setCell_same _ _ _ _ _ _ hb).trans rfl)
theorem In.s_hal {g:G} {W:World} {m:M} {full:Bool} (h:In g W m full) (v:Bool):In g (W.setCell ⟨g.B,11,none⟩ (.bool v)) { m with hal:=v } full :=
 h.setB 11 _ rfl (fun po cap hb=>by rw [aT] at hb |-;exact (heap_setCell_same _ _ _ _ _ _ hb).trans rfl)
end Stpi
namespace Stpj
open Go.Deep
open Signed (inB sgn aG aB)
open Busw Busx Stpp Stpi
theorem aMH (n:Int):bits .and .i64 n 65535=n%65536:=by
 have h127:(BitVec.ofInt 64 65535).toNat=2 ^ 16-1:=by decide
 have key:(BitVec.ofInt 64 n &&& BitVec.ofInt 64 65535).toNat=(n%((2 ^ 64:Nat):Int)).toNat%2 ^ 16:=by
  rw [BitVec.toNat_and,BitVec.toNat_ofInt,h127,Nat.and_two_pow_sub_one_eq_mod]
 show IntKind.i64.wrap ((BitVec.ofInt 64 n &&& BitVec.ofInt 64 65535).toNat:Nat)=n%65536;rw [key,x6];omega
theorem cX (n:Int) (w:World) :
  Calls prog 93 #[.int .i64 n] w fun e w'=>e=.returned (.int .i64 (n%65536))/\w'=w:=by
 have h:=aMH n
 go_enter func93,ntmps93
 go_wp2;go_ret;exact ⟨rfl,rfl⟩
theorem jR (n:Int):0<=n%65536/\n%65536<=65535:=by omega
theorem gT (g:G) (m:M) (full:Bool) (addr:Int) (w:World) (h:In g w m full) (hr:Rt m) :
  Calls prog 242 #[.pointer (some ⟨g.K,0,none⟩),.int .i64 addr] w fun e w'=>e=.returned (.int .i64 (rd m (addr%65536)))/\Below w.heap.size w w':=by
 have c1:∀ d os,Calls prog 93 #[.int .i64 addr] (Go.Sort.grow (redrawn w d) os) fun e w''=>e=.returned (.int .i64 (addr%65536))/\∃ p:Regrown,w''=Go.Sort.grow (redrawn w p.d) p.os:=fun d os=>Calls.regrown_of ((cX addr _).mono fun e w' h=>⟨h.1,by rw [h.2];exact zRf⟩)
 have c2:∀ d os,Calls prog 134 #[.pointer (some ⟨g.B,0,none⟩),.int .i64 (addr%65536)] (Go.Sort.grow (redrawn w d) os) fun e w''=>e=.returned (.int .i64 (rd m (addr%65536)))/\∃ p:Regrown,w''=Go.Sort.grow (redrawn w p.d) p.os:=fun d os=>Calls.regrown_of (by
  obtain ⟨po,cap,h⟩:=h.below (x8 w d os);have hb:=h.held.box;rw [aT] at hb
  exact MachB.pG m.ra m.rf m.rB m.rC m.rD m.rE m.rH m.rL m.sp m.pc m.ime m.hal m.rom m.kind m.bank m.ram m.rb m.on m.mode m.work m.high po m.out cap m.cyc g.B _ _ hb hr.cart hr.work hr.high (jR addr).1)
 have k0:=x7 (h.kcell 0 _ rfl);clear h hr;generalize rd m (addr%65536)=r at *
 generalize hq:addr%65536=q at *
 clear hq
 go_enter func242,ntmps242
 go_wp2_with fail
 refine wp_region_quiet_below (by kernel_rfl) (by kernel_rfl) ?_
 repeat (go_big_quiet_step (first|exact c1 _ _|exact c2 _ _))
 refine wpQuiet_nil ?_;intro _ hw';obtain ⟨⟨dq,osq⟩,hw''⟩:=hw';subst hw'';go_wp2;go_ret;exact ⟨rfl,x8 _ _ _⟩
theorem aTE {g:G} {w w':World} {m:M} {full:Bool} {po:Option Addr} {cap:Nat} {addr v:Int} {e:Ending} (h:At g w m full po cap) (hp:bF w w' g.B g.base m.out.length (wrM m (addr%65536) v) po e) :
  (e=.returned (.bool true)/\In g w' (wr ⟨m,full⟩ addr v).m full/\(wr ⟨m,full⟩ addr v).full=full) \/ (e=.returned (.bool false)/\In g w' m full/\wr ⟨m,full⟩ addr v=⟨m,true⟩):=by
 obtain ⟨hc,ho,hk⟩:=hp;have hlen:∀ m',wrM m (addr%65536) v=some m'->m.out.length<=m'.out.length:=fun m' h=>by
  unfold wrM at h
  repeat' split at h
  all_goals cases h
  all_goals simp
 have old:w'.ownsRow g.base 2 1 (.slice g.po0 g.n0 g.cap0) g.n0 (dJ g.L0):=hk _ _ _ _ _ h.len h.old;have hkk:w'.heap[g.K]? = some (.cells (kc g full) 127 (0,0)):=by
  rw [ho.block g.K (zLo h.k) h.neKB (fun p e e2=>oP (by decide) h.held.row h.k (by subst e;rw [fV];show some p.block=_;rw [e2]))];exact h.k
 have blocks:∀ k,k<w.heap.size->k ≠ g.B->k ≠ g.K->some k ≠ blk po->w'.heap[k]? = w.heap[k]?:=fun k h0 h1 _ h3=>ho.block k h0 h1 (fun p e e2=>h3 (by subst e;rw [e2];rfl))
 rcases hc with ⟨m',po',cap',hm,rfl,hh,hmv⟩|⟨hm,rfl,rfl⟩
 ·left
  have hw:wr ⟨m,full⟩ addr v=⟨m',full⟩:=by unfold wr;rw [hm]
  rw [hw];refine ⟨rfl,⟨po',cap',h.turn ho.os ho.tape ho.output ho.size blocks hh hkk old (fun e=>?_) hmv⟩,rfl⟩;rcases hmv with rfl|⟨p,rfl,hp⟩
  ·exact Nat.le_trans (h.len e) (hlen m' hm)
  ·have h1:=h.low p.block e
   have h2:=h.size;omega
 ·right
  exact ⟨rfl,⟨po,cap,h⟩,by unfold wr;rw [hm]⟩
theorem dV (g:G) (m:M) (full:Bool) (addr v:Int) (w:World) (h:In g w m full) (hr:Rt m) (v0:0<=v) (v1:v<=255) :
  Calls prog 241 #[.pointer (some ⟨g.K,0,none⟩),.int .i64 addr,.int .i64 v] w fun e w'=>e=.returned (.tuple #[])/\In g w' (wr ⟨m,full⟩ addr v).m (wr ⟨m,full⟩ addr v).full:=by
 have k0:=h.kcell 0 _ rfl;have lk:=h.ltK;have c1:=fun w=>cX addr w
 have hq:=jR addr;have c2:∀ W,Below w.heap.size w W->Calls prog 261 #[.pointer (some ⟨g.B,0,none⟩),.int .i64 (addr%65536),.int .i64 v] W fun e w'=>∃ b,e=.returned (.bool b)/\Hid ((b=true/\In g w' (wr ⟨m,full⟩ addr v).m (wr ⟨m,full⟩ addr v).full) \/ (b=false/\In g w' m full/\wr ⟨m,full⟩ addr v=⟨m,true⟩)):=fun W hW=>by
  have h:=h.below hW;have hb:=h.base;obtain ⟨po,cap,h⟩:=h;exact (Busw.dV m g.B g.base po cap (addr%65536) v W h.held hr (x9 hq) (x9 ⟨v0,v1⟩) hb).mono fun e w' hp=>by
   rcases aTE h hp with ⟨rfl,h1,h2⟩|⟨rfl,h1,h2⟩
   ·exact ⟨true,rfl,.inl ⟨rfl,by rw [h2];exact h1⟩⟩
   ·exact ⟨false,rfl,.inr ⟨rfl,h1,h2⟩⟩
 clear h hr hq v0 v1;obtain ⟨s,hs⟩ : ∃ s,s=wr ⟨m,full⟩ addr v:=⟨_,rfl⟩
 rw [<- hs] at c2 |-
 clear hs;generalize hq:addr%65536=q at *
 clear hq
 go_enter func241,ntmps241
 go_wp2_with fail
 go_region_with (first|(go_at_call 93;refine (c1 _).mono ?_;rintro e w' ⟨rfl,hw'⟩;have hw':=hw'.symm;subst hw')|(go_at_call 261;refine (c2 _ (by repeat (with_reducible first|exact zRf|refine zGr ?_ _|refine below_drewN ?_ _|refine Below.drew ?_))).mono ?_;rintro e w' ⟨b,rfl,hpost⟩))
 all_goals
  rcases hpost.out with ⟨rfl,hi⟩|⟨rfl,hi,hf⟩
  ·have HI:Hid (In g w' s.m s.full):=hi
   clear hi hpost;go_wp2
   go_end0
   exact ⟨rfl,HI.out⟩
  ·have HI:Hid (In g (w'.setCell ⟨g.K,10,none⟩ (.bool true)) s.m s.full):=by show In g (w'.setCell ⟨g.K,10,none⟩ (.bool true)) s.m s.full;rw [hf];exact hi.setFull
   have k10:=hi.kcell 10 _ rfl;have f10:=hi.kfro 10;clear hi hf hpost;go_wp2
   go_end0
   exact ⟨rfl,HI.out⟩
end Stpj
end Go.Proofs.YteglcgnhhoenbaaGreatDoor
