import Derived.Test.YtickfkphhngagaaGreatDoorP29
import Derived.Deep.AppendLies
import Derived.Deep.RegionLaw
import Derived.Deep.DeepCutAuto
set_option linter.all false
set_option maxRecDepth 20000
set_option maxHeartbeats 8000000
open Go.ChangeShapes Go.WideShapes Go.ChangeAt Go.RowKit
open Go.Proofs.Tryz
namespace Go.Proofs.YtickfkphhngagaaGreatDoor
namespace Secd
open Go.Deep
open Rown Rowo Rliq Rlip Drob
open Rdr (Rd Post)
abbrev scells (s:Sd):Array Value:=#[.string s.nm,.int .i64 s.k,.int .i64 s.b,.int .i64 s.a,.string s.d,s.pv]
abbrev zcells:Array Value:=#[.string ⟨#[]⟩,.int .i64 0,.int .i64 0,.int .i64 0,.string ⟨#[]⟩,.slice none 0 0]
def Bx (W:World) (b:Nat) (x0 x1 x2 x3 x4 x5:Value):Prop :=
 (W.cell? ⟨b,0,none⟩=some x0/\W.frozen? ⟨b,0,none⟩=false)/\(W.cell? ⟨b,1,none⟩=some x1/\W.frozen? ⟨b,1,none⟩=false)/\(W.cell? ⟨b,2,none⟩=some x2/\W.frozen? ⟨b,2,none⟩=false)/\(W.cell? ⟨b,3,none⟩=some x3/\W.frozen? ⟨b,3,none⟩=false)/\(W.cell? ⟨b,4,none⟩=some x4/\W.frozen? ⟨b,4,none⟩=false)/\(W.cell? ⟨b,5,none⟩=some x5/\W.frozen? ⟨b,5,none⟩=false)
theorem Bx.same {W W':World} {b:Nat} {x0 x1 x2 x3 x4 x5:Value} (h:Bx W b x0 x1 x2 x3 x4 x5) (hb:W'.heap[b]? = W.heap[b]?):Bx W' b x0 x1 x2 x3 x4 x5:=by
 have e:∀ i,W'.cell? ⟨b,i,none⟩=W.cell? ⟨b,i,none⟩/\W'.frozen? ⟨b,i,none⟩=W.frozen? ⟨b,i,none⟩:=fun i=>⟨World.cell?_of_block (a:=⟨b,i,none⟩) hb,World.frozen?_of_block (a:=⟨b,i,none⟩) hb⟩
 unfold Bx;rw [(e 0).1,(e 0).2,(e 1).1,(e 1).2,(e 2).1,(e 2).2,(e 3).1,(e 3).2,(e 4).1,(e 4).2,(e 5).1,(e 5).2];exact h
theorem post_set {a w:World} {rb:Nat} (h:Post a rb w) (b i:Nat) (v:Value) (hb:a.heap.size<=b) (hl:rb<a.heap.size):Post a rb (w.setCell ⟨b,i,none⟩ v):=by
 have hg:=Rdr.grown_set w b i v
 refine ⟨h.1.kept fun k hk=>hg.block k (Nat.lt_of_le_of_lt hk h.1.lt) (fun e=>by have:k=b:=Option.some.inj e;omega),⟨h.2.os,h.2.tape,h.2.output,Nat.le_trans h.2.size hg.size,fun k hk hne=>?_⟩⟩
 exact (hg.block k (Nat.lt_of_lt_of_le hk h.2.size) (fun e=>by have:k=b:=Option.some.inj e;omega)).trans (h.2.block k hk hne)
theorem over {W w2:World} {rb:Nat} (hp:Post W rb w2):(∀ b o,¬ b=rb->b<W.heap.size->w2.cell? ⟨b,o,none⟩=W.cell? ⟨b,o,none⟩)/\(∀ b o,¬ b=rb->b<W.heap.size->w2.frozen? ⟨b,o,none⟩=W.frozen? ⟨b,o,none⟩) :=
 ⟨fun b o hn hl=>World.cell?_of_block (a:=⟨b,o,none⟩) (hp.2.block b hl (fun e=>hn (Option.some.inj e))),fun b o hn hl=>World.frozen?_of_block (a:=⟨b,o,none⟩) (hp.2.block b hl (fun e=>hn (Option.some.inj e)))⟩
theorem Post.re {W W' w2:World} {rb:Nat} (h:Post W rb w2) (e1:W'.heap=W.heap) (e2:W'.os=W.os) (e3:W'.tape=W.tape) (e4:W'.output=W.output):Post W' rb w2 :=
 ⟨h.1,⟨h.2.os.trans e2.symm,h.2.tape.trans e3.symm,h.2.output.trans e4.symm,by rw [e1];exact h.2.size,fun k hk hne=>by rw [e1];exact h.2.block k (by rw [e1] at hk;exact hk) hne⟩⟩
theorem get_prop {P:ByteArray->Prop} {C:List ByteArray} (hP:∀ t ∈ C,P t) {y:Int} (y0:0<=y) (y1:y<C.length):∃ t:ByteArray,P t/\∀ h,(C.map Value.string)[y.toNat]'h=.string t:=by
 have h:y.toNat<C.length:=by omega
 exact ⟨C[y.toNat],hP _ (List.getElem_mem h),fun h=>by simp⟩
def tabN:List ByteArray:=[⟨#[97]⟩,⟨#[98]⟩,⟨#[109,97,105,110]⟩]
theorem tabN_le:∀ t ∈ tabN,t.size<=16:=by unfold tabN;decide
theorem get3 {y:Int} (y0:0<=y) (y1:y<3):∃ t:ByteArray,t.size<=16/\(∀ h,([Value.string ⟨#[97]⟩,.string ⟨#[98]⟩,.string ⟨#[109,97,105,110]⟩]:List Value)[y.toNat]'h=.string t)/\([Value.string ⟨#[97]⟩,.string ⟨#[98]⟩,.string ⟨#[109,97,105,110]⟩]:List Value)[y.toNat]? = some (.string t)/\(#[Value.string ⟨#[97]⟩,.string ⟨#[98]⟩,.string ⟨#[109,97,105,110]⟩]:Array Value)[y.toNat]? = some (.string t):=by
 obtain ⟨t,ht,hg⟩:=get_prop (C:=tabN) tabN_le y0 y1
 have hl:y.toNat<3:=by omega
 have hg':∀ h,([Value.string ⟨#[97]⟩,.string ⟨#[98]⟩,.string ⟨#[109,97,105,110]⟩]:List Value)[y.toNat]'h=.string t:=hg
 have h2:([Value.string ⟨#[97]⟩,.string ⟨#[98]⟩,.string ⟨#[109,97,105,110]⟩]:List Value)[y.toNat]? = some (.string t):=by rw [List.getElem?_eq_getElem (by simpa using hl),hg']
 exact ⟨t,ht,hg',h2,by rw [List.getElem?_toArray];exact h2⟩
structure Ss (w:World) (rb b:Nat) (W:World) (s:Sd):Prop where
 p:Post w rb W
 hb:w.heap.size<b
 lt:b<W.heap.size
 res:W.heap[w.heap.size]? = some (.cells zcells 38 (0,0))
 box:Bx W b (.string s.nm) (.int .i64 s.k) (.int .i64 s.b) (.int .i64 s.a) (.string s.d) s.pv
 own:Sw W (b+1) s
theorem Ss.rb {w W:World} {rb b:Nat} {s:Sd} (h:Ss w rb b W s) (hr:rb<w.heap.size):¬ b=rb:=by have:=h.hb;omega
theorem Ss.post {w W W':World} {rb b:Nat} {s:Sd} (h:Ss w rb b W s) (hr:rb<w.heap.size) (hp:Post W rb W'):Ss w rb b W' s :=
 have hb:=h.hb
 ⟨h.p.trans hp,hb,Nat.lt_of_lt_of_le h.lt hp.2.size,(hp.2.block _ (by have:=h.lt;omega) (fun e=>by have:=Option.some.inj e;omega)).trans h.res,h.box.same (hp.2.block _ h.lt (fun e=>by have:=Option.some.inj e;omega)),h.own.post hp (by omega)⟩
theorem Ss.drew {w W:World} {rb b:Nat} {s:Sd} (h:Ss w rb b W s) (hr:rb<w.heap.size):Ss w rb b W.drew s:=h.post hr (Post.of h.p.1 rfl rfl rfl rfl)
theorem Ss.alloc {w W:World} {rb b:Nat} {s:Sd} (h:Ss w rb b W s) (hr:rb<w.heap.size) (o:Obj):Ss w rb b (W.alloc o) s:=h.post hr ((Post.refl h.p.1).alloc o)
theorem own_at {w:World} {base b:Nat} {e:TypeId} {size:Nat} {v:Value} {n:Nat} {xs:List Value} (h:w.ownsRow base e size v n xs) (hb:b<base):v.ownBlock=none \/ v.ownBlock ≠ some b:=own_post h hb
theorem infoB:(prog.info? 5).map (fun i=>(i.zero,i.size,i.bytes))=some (some (.int .u8 0),1,1):=by kernel_rfl
def Zb (n:Nat):ByteArray:=⟨(List.replicate n (0:UInt8)).toArray⟩
theorem Zb_size (n:Nat):(Zb n).size=n:=by simp [Zb,ByteArray.size]
theorem made (n:Nat) (hn:n<=1000):∃ o:Obj,∀ u:World,(Instr.makeSlice 32 (.int .i64 (n:Int)) (.int .i64 (n:Int))).run prog u=.ok (.slice (some ⟨u.heap.size,0,none⟩) n n) (u.alloc o) /\
  (convert 32 9 (.slice (some ⟨u.heap.size,0,none⟩) n n)).run prog (u.alloc o)=.ok (.string (Zb n)) (u.alloc o):=by
 obtain ⟨i0,hi,hz0,hz1,hz2⟩:=info_parts infoB
 refine ⟨.cells (madeCells #[.int .u8 0] n) 5,fun u=>⟨?_,?_⟩⟩
 ·have h:=run_make (P:=prog) u 32 5 i0 (.int .u8 0) underlying32 hi hz0 .i64 .i64 (n:Int) (n:Int) (by omega) (Int.le_refl _) (by rw [hz2];omega) (by omega)
  simpa [hz1,Value.cells] using h
 ·have h:=run_convert_bytes_back (P:=prog) (u.alloc (.cells (madeCells #[.int .u8 0] n) 5)) 32 9 5 ⟨u.heap.size,0,none⟩ n (List.replicate n 0) underlying32 underlying5 underlying9 (fun j hj=>by
   have hj':j<n:=by simpa using hj
   have ea:(⟨u.heap.size,0,none⟩ : Addr).add j=⟨u.heap.size,j,none⟩:=by unfold Addr.add;split <;> simp_all
   rw [ea,World.cell?_alloc_new,<- Array.getElem?_toList,toList_madeCells_one]
   simp [hj'])
  simpa [Zb] using h
theorem Bx.set {W:World} {b:Nat} {x0 x1 x2 x3 x4 x5:Value} (h:Bx W b x0 x1 x2 x3 x4 x5) (v:Value) :
  Bx (W.setCell ⟨b,1,none⟩ v) b x0 v x2 x3 x4 x5/\Bx (W.setCell ⟨b,2,none⟩ v) b x0 x1 v x3 x4 x5/\Bx (W.setCell ⟨b,3,none⟩ v) b x0 x1 x2 v x4 x5/\Bx (W.setCell ⟨b,4,none⟩ v) b x0 x1 x2 x3 v x5/\Bx (W.setCell ⟨b,5,none⟩ v) b x0 x1 x2 x3 x4 v:=by
 obtain ⟨⟨a0,f0⟩,⟨a1,f1⟩,⟨a2,f2⟩,⟨a3,f3⟩,⟨a4,f4⟩,⟨a5,f5⟩⟩:=h
 have o:∀ (i j:Nat) (u:Value),i ≠ j->W.cell? ⟨b,j,none⟩=some u->(W.setCell ⟨b,i,none⟩ v).cell? ⟨b,j,none⟩=some u:=fun i j u hij hu=>(World.cell?_setCell_other W _ _ _ (fun e=>hij (congrArg Addr.off e))).trans hu
 unfold Bx
 simp only [World.frozen?_setCell]
 exact ⟨⟨⟨o _ _ _ (by decide) a0,f0⟩,⟨World.cell?_setCell_same _ _ _ a1,f1⟩,⟨o _ _ _ (by decide) a2,f2⟩,⟨o _ _ _ (by decide) a3,f3⟩,⟨o _ _ _ (by decide) a4,f4⟩,⟨o _ _ _ (by decide) a5,f5⟩⟩,
  ⟨⟨o _ _ _ (by decide) a0,f0⟩,⟨o _ _ _ (by decide) a1,f1⟩,⟨World.cell?_setCell_same _ _ _ a2,f2⟩,⟨o _ _ _ (by decide) a3,f3⟩,⟨o _ _ _ (by decide) a4,f4⟩,⟨o _ _ _ (by decide) a5,f5⟩⟩,
  ⟨⟨o _ _ _ (by decide) a0,f0⟩,⟨o _ _ _ (by decide) a1,f1⟩,⟨o _ _ _ (by decide) a2,f2⟩,⟨World.cell?_setCell_same _ _ _ a3,f3⟩,⟨o _ _ _ (by decide) a4,f4⟩,⟨o _ _ _ (by decide) a5,f5⟩⟩,
  ⟨⟨o _ _ _ (by decide) a0,f0⟩,⟨o _ _ _ (by decide) a1,f1⟩,⟨o _ _ _ (by decide) a2,f2⟩,⟨o _ _ _ (by decide) a3,f3⟩,⟨World.cell?_setCell_same _ _ _ a4,f4⟩,⟨o _ _ _ (by decide) a5,f5⟩⟩,
  ⟨⟨o _ _ _ (by decide) a0,f0⟩,⟨o _ _ _ (by decide) a1,f1⟩,⟨o _ _ _ (by decide) a2,f2⟩,⟨o _ _ _ (by decide) a3,f3⟩,⟨o _ _ _ (by decide) a4,f4⟩,⟨World.cell?_setCell_same _ _ _ a5,f5⟩⟩⟩
theorem Ss.store {w W:World} {rb b:Nat} {s s':Sd} (h:Ss w rb b W s) (hr:rb<w.heap.size) (i:Nat) (v:Value) (hx:Bx (W.setCell ⟨b,i,none⟩ v) b (.string s'.nm) (.int .i64 s'.k) (.int .i64 s'.b) (.int .i64 s'.a) (.string s'.d) s'.pv) (hv:s'.pv=s.pv) (hs:s'.ps=s.ps):Ss w rb b (W.setCell ⟨b,i,none⟩ v) s':=by
 have hb:=h.hb
 have ho:Sw (W.setCell ⟨b,i,none⟩ v) (b+1) s:=h.own.other (Rdr.grown_set W b i v) fun _ _ _ _ _ _ q=>own_at q (Nat.lt_succ_self b)
 refine ⟨post_set h.p b i v (by omega) hr,hb,by rw [World.size_setCell];exact h.lt,(Below.heap_setCell W _ _ _ (fun e=>by have e:w.heap.size=b:=e;omega)).trans h.res,hx,?_⟩
 obtain ⟨p1,p2⟩:=ho
 exact ⟨by rw [hv,hs];exact p1,by rw [hs];exact p2⟩
theorem Ss.setK {w W:World} {rb b:Nat} {s:Sd} (h:Ss w rb b W s) (hr:rb<w.heap.size) (v:Int):Ss w rb b (W.setCell ⟨b,1,none⟩ (.int .i64 v)) ⟨s.nm,v,s.b,s.a,s.d,s.pv,s.ps⟩:=h.store hr 1 _ (h.box.set _).1 rfl rfl
theorem Ss.setB {w W:World} {rb b:Nat} {s:Sd} (h:Ss w rb b W s) (hr:rb<w.heap.size) (v:Int):Ss w rb b (W.setCell ⟨b,2,none⟩ (.int .i64 v)) ⟨s.nm,s.k,v,s.a,s.d,s.pv,s.ps⟩:=h.store hr 2 _ (h.box.set _).2.1 rfl rfl
theorem Ss.setA {w W:World} {rb b:Nat} {s:Sd} (h:Ss w rb b W s) (hr:rb<w.heap.size) (v:Int):Ss w rb b (W.setCell ⟨b,3,none⟩ (.int .i64 v)) ⟨s.nm,s.k,s.b,v,s.d,s.pv,s.ps⟩:=h.store hr 3 _ (h.box.set _).2.2.1 rfl rfl
theorem Ss.setD {w W:World} {rb b:Nat} {s:Sd} (h:Ss w rb b W s) (hr:rb<w.heap.size) (v:ByteArray):Ss w rb b (W.setCell ⟨b,4,none⟩ (.string v)) ⟨s.nm,s.k,s.b,s.a,v,s.pv,s.ps⟩:=h.store hr 4 _ (h.box.set _).2.2.2.1 rfl rfl
theorem Ss.bel {w W W':World} {rb b:Nat} {s:Sd} (h:Ss w rb b W s) (hr:rb<w.heap.size) (hb:Below W.heap.size W W'):Ss w rb b W' s:=h.post hr (Cmpf.post_below h.p.1 hb)
theorem Ss.add {w W W':World} {rb b:Nat} {s:Sd} (h:Ss w rb b W s) (hr:rb<w.heap.size) (p:Pd) (v':Value) (hx:ExOwn W (b+1) p.e p.l)
  (ho:W'.ownsRow (b+1) 80 3 v' (s.ps.length+1) (s.ps.flatMap Pd.cells ++ p.cells)) (hg:W.grownBy W' s.pv.ownBlock):Ss w rb b (W'.setCell ⟨b,5,none⟩ v') ⟨s.nm,s.k,s.b,s.a,s.d,v',s.ps ++ [p]⟩/\W'.cell? ⟨b,5,none⟩=some s.pv/\W'.frozen? ⟨b,5,none⟩=false:=by
 have hb:=h.hb
 have far:∀ k,k<=b->k<W.heap.size->W'.heap[k]? = W.heap[k]?:=fun k hk hl=>hg.block k hl (fun e=>by
  have:=(h.own.pat.lt k e.symm).1;omega)
 have hbox:=h.box.same (far b (Nat.le_refl _) h.lt)
 have hP:Post w rb W':=by
  refine ⟨h.p.1.kept fun k hk=>far k (by omega) (by have:=h.lt;omega),⟨hg.os.trans h.p.2.os,hg.tape.trans h.p.2.tape,hg.output.trans h.p.2.output,Nat.le_trans h.p.2.size hg.size,fun k hk hne=>?_⟩⟩
  have:=h.lt
  exact (far k (by omega) (by omega)).trans (h.p.2.block k hk hne)
 have hO:Sw W' (b+1) ⟨s.nm,s.k,s.b,s.a,s.d,v',s.ps ++ [p]⟩:=h.own.add p v' hx ho hg
 refine ⟨⟨post_set hP b 5 v' (by omega) hr,hb,by rw [World.size_setCell];exact Nat.lt_of_lt_of_le h.lt hg.size,((Below.heap_setCell W' _ _ _ (fun e=>by have e:w.heap.size=b:=e;omega)).trans (far _ (by omega) (by have:=h.lt;omega))).trans h.res,(hbox.set v').2.2.2.2,?_⟩,hbox.2.2.2.2.2.1,hbox.2.2.2.2.2.2⟩
 exact hO.other (Rdr.grown_set W' b 5 v') fun _ _ _ _ _ _ q=>own_at q (Nat.lt_succ_self b)
theorem Bx.set0 {W:World} {b:Nat} {x0 x1 x2 x3 x4 x5:Value} (h:Bx W b x0 x1 x2 x3 x4 x5) (v:Value):Bx (W.setCell ⟨b,0,none⟩ v) b v x1 x2 x3 x4 x5:=by
 obtain ⟨⟨a0,f0⟩,⟨a1,f1⟩,⟨a2,f2⟩,⟨a3,f3⟩,⟨a4,f4⟩,⟨a5,f5⟩⟩:=h
 have o:∀ (i j:Nat) (u:Value),i ≠ j->W.cell? ⟨b,j,none⟩=some u->(W.setCell ⟨b,i,none⟩ v).cell? ⟨b,j,none⟩=some u:=fun i j u hij hu=>(World.cell?_setCell_other W _ _ _ (fun e=>hij (congrArg Addr.off e))).trans hu
 unfold Bx
 simp only [World.frozen?_setCell]
 exact ⟨⟨World.cell?_setCell_same _ _ _ a0,f0⟩,⟨o _ _ _ (by decide) a1,f1⟩,⟨o _ _ _ (by decide) a2,f2⟩,⟨o _ _ _ (by decide) a3,f3⟩,⟨o _ _ _ (by decide) a4,f4⟩,⟨o _ _ _ (by decide) a5,f5⟩⟩
theorem Bx.stored {W:World} {b:Nat} {y0 y1 y2 y3 y4 y5:Value} (h:Bx W b y0 y1 y2 y3 y4 y5) (x0 x1 x2 x3 x4 x5:Value) :
  Bx ((((((W.setCell ⟨b,0,none⟩ x0).setCell ⟨b,1,none⟩ x1).setCell ⟨b,2,none⟩ x2).setCell ⟨b,3,none⟩ x3).setCell ⟨b,4,none⟩ x4).setCell ⟨b,5,none⟩ x5) b x0 x1 x2 x3 x4 x5 :=
 (((((((h.set0 x0).set x1).1.set x2).2.1.set x3).2.2.1.set x4).2.2.2.1).set x5).2.2.2.2
theorem Bx.new (W:World) (x0 x1 x2 x3 x4 x5:Value) (T:TypeId):Bx (W.alloc (.cells #[x0,x1,x2,x3,x4,x5] T)) W.heap.size x0 x1 x2 x3 x4 x5:=by
 have h:(W.alloc (.cells #[x0,x1,x2,x3,x4,x5] T)).heap[W.heap.size]? = some (.cells #[x0,x1,x2,x3,x4,x5] T (0,0)):=(MapKept.heap_alloc W _).1
 unfold Bx
 refine ⟨⟨?_,frozen_of_row _ _ _ _ _ h⟩,⟨?_,frozen_of_row _ _ _ _ _ h⟩,⟨?_,frozen_of_row _ _ _ _ _ h⟩,⟨?_,frozen_of_row _ _ _ _ _ h⟩,⟨?_,frozen_of_row _ _ _ _ _ h⟩,⟨?_,frozen_of_row _ _ _ _ _ h⟩⟩ <;> (rw [cell_of_row _ _ _ _ _ _ h];rfl)
theorem Bx.alloc {W:World} {b:Nat} {x0 x1 x2 x3 x4 x5:Value} (h:Bx W b x0 x1 x2 x3 x4 x5) (hb:b<W.heap.size) (o:Obj):Bx (W.alloc o) b x0 x1 x2 x3 x4 x5:=h.same (Below.heap_alloc _ _ _ hb)
theorem post_set6 {a w:World} {rb:Nat} (h:Post a rb w) (b:Nat) (x0 x1 x2 x3 x4 x5:Value) (hb:a.heap.size<=b) (hl:rb<a.heap.size) :
  Post a rb ((((((w.setCell ⟨b,0,none⟩ x0).setCell ⟨b,1,none⟩ x1).setCell ⟨b,2,none⟩ x2).setCell ⟨b,3,none⟩ x3).setCell ⟨b,4,none⟩ x4).setCell ⟨b,5,none⟩ x5) :=
 post_set (post_set (post_set (post_set (post_set (post_set h b 0 _ hb hl) b 1 _ hb hl) b 2 _ hb hl) b 3 _ hb hl) b 4 _ hb hl) b 5 _ hb hl
theorem Ss.new {w W0 W:World} {rb b:Nat} {nm:ByteArray} {k:Int} (P0:Post w rb W0) (R0:W0.heap[w.heap.size]? = some (.cells zcells 38 (0,0))) (z0:W0.heap.size=w.heap.size+1) (hr:rb<w.heap.size)
  (hp:Post W0 rb W) (hb:W0.heap.size<=b) (hl:b<W.heap.size) (hx:Bx W b (.string nm) (.int .i64 k) (.int .i64 (-1)) (.int .i64 (-1)) (.string ⟨#[]⟩) (.slice none 0 0)):Ss w rb b W ⟨nm,k,-1,-1,⟨#[]⟩,.slice none 0 0,[]⟩ :=
 ⟨P0.trans hp,by omega,hl,(hp.2.block _ (by omega) (fun e=>by have:=Option.some.inj e;omega)).trans R0,hx,⟨World.ownsRow_nil _ _ _ _,fun p hp=>(by cases hp)⟩⟩
def Zr (cs:Array Value) (T:TypeId) (W:World) (b:Nat):Prop:=W.heap[b]? = some (.cells cs T (0,0))
theorem zr_new (cs:Array Value) (T:TypeId) (W:World):Zr cs T (W.alloc (.cells cs T)) W.heap.size:=(MapKept.heap_alloc W _).1
theorem zr_new2 (cs:Array Value) (T:TypeId) (W:World) (o:Obj):Zr cs T ((W.alloc o).alloc (.cells cs T)) (W.heap.size+1):=by
 have h:=zr_new cs T (W.alloc o)
 have e:(W.alloc o).heap.size=W.heap.size+1:=by simp
 rwa [e] at h
theorem zr_old {cs:Array Value} {T:TypeId} {W:World} {b:Nat} (h:Zr cs T W b) (o:Obj):Zr cs T (W.alloc o) b:=(Below.heap_alloc _ _ _ (zLo h)).trans h
theorem zr_drew {cs:Array Value} {T:TypeId} {W:World} {b:Nat} (h:Zr cs T W b):Zr cs T W.drew b:=h
theorem zr_post {cs:Array Value} {T:TypeId} {W W':World} {b rb:Nat} (h:Zr cs T W b) (hp:Post W rb W') (hn:¬ b=rb):Zr cs T W' b:=(hp.2.block b (zLo h) (fun e=>hn (Option.some.inj e))).trans h
theorem bx_row {W:World} {b:Nat} (h:Zr zcells 38 W b):Bx W b (.string ⟨#[]⟩) (.int .i64 0) (.int .i64 0) (.int .i64 0) (.string ⟨#[]⟩) (.slice none 0 0):=by
 have h:W.heap[b]? = some (.cells zcells 38 (0,0)):=h
 unfold Bx
 refine ⟨⟨?_,frozen_of_row _ _ _ _ _ h⟩,⟨?_,frozen_of_row _ _ _ _ _ h⟩,⟨?_,frozen_of_row _ _ _ _ _ h⟩,⟨?_,frozen_of_row _ _ _ _ _ h⟩,⟨?_,frozen_of_row _ _ _ _ _ h⟩,⟨?_,frozen_of_row _ _ _ _ _ h⟩⟩ <;> (rw [cell_of_row _ _ _ _ _ _ h];rfl)
theorem post_drew {W W':World} {rb:Nat} (h:Post W.drew rb W'):Post W rb W':=Post.re h rfl rfl rfl rfl
theorem infoS6:(prog.info? 38).map (·.size)=some 6:=by kernel_rfl
theorem grow_setRow (W:World) (b:Nat) (cs:Array Value):W.grownBy (W.setRow b cs) (some b):=⟨rfl,rfl,rfl,by simp,fun k _ hk=>setRow_other _ _ _ _ (fun e=>hk (by rw [e]))⟩
def SX (w:World) (rb:Nat) (e:Ending) (w':World):Prop:=(∃ s:Sd,e=.returned (.agg (scells s))/\Sw w' w.heap.size s/\Xn s.x)/\Post w rb w'
theorem Ss.fin {w W:World} {rb b:Nat} {s:Sd} (h:Ss w rb b W s) (hr:rb<w.heap.size) (hx:Xn s.x) (cs:Array Value):SX w rb (.returned (.agg (scells s))) (W.setRow w.heap.size cs):=by
 have hb:=h.hb
 have hg:=grow_setRow W w.heap.size cs
 refine ⟨⟨s,rfl,(h.own.other hg fun _ _ _ _ _ _ q=>own_at q (by omega)).mono (by omega),hx⟩,?_⟩
 refine ⟨h.p.1.kept fun k hk=>hg.block k (Nat.lt_of_le_of_lt hk h.p.1.lt) (fun e=>by have:k=w.heap.size:=Option.some.inj e;omega),⟨hg.os.trans h.p.2.os,hg.tape.trans h.p.2.tape,hg.output.trans h.p.2.output,Nat.le_trans h.p.2.size hg.size,fun k hk hne=>?_⟩⟩
 exact (hg.block k (Nat.lt_of_lt_of_le hk h.p.2.size) (fun e=>by have:k=w.heap.size:=Option.some.inj e;omega)).trans (h.p.2.block k hk hne)
theorem newA (W:World) (cs:List Value) (t:TypeId):∀ j u,cs[j]? = some u->(W.alloc (.cells cs.toArray t)).cell? ((⟨W.heap.size,0,none⟩ : Addr).add j)=some u:=fun j u hu=>by
 have e:(⟨W.heap.size,0,none⟩ : Addr).add j=⟨W.heap.size,j,none⟩:=by unfold Addr.add;split <;> simp_all
 rw [e,World.cell?_alloc_new,List.getElem?_toArray];exact hu
theorem wrap_in {y:Int} (h0:-1000000<=y) (h1:y<=1000000):IntKind.i64.wrap y=y:=by rw [IntKind.wrap_i64];omega
theorem xn_of {nm d:ByteArray} {k b a:Int} {pv:Value} {ps:List Pd} (h1:nm.size<=16) (h2:d.size<=16) (h3:ps.length<=2) (h4:∀ p ∈ ps,p.l.length<=30/\∀ x ∈ p.l,Cmpf.Nice x):Xn (Sd.x ⟨nm,k,b,a,d,pv,ps⟩) :=
 ⟨h1,h2,by show (ps.map Pd.x).length<=2;rw [List.length_map];exact h3,fun p hp=>by
  obtain ⟨q,hq,rfl⟩:=List.mem_map.1 hp
  exact h4 q hq⟩
theorem xn_re {s s':Sd} (h:Xn s.x) (h1:s'.nm=s.nm) (h2:s'.d=s.d) (h3:s'.ps=s.ps):Xn s'.x :=
 ⟨by show s'.nm.size<=16;rw [h1];exact h.nm,by show s'.d.size<=16;rw [h2];exact h.d,by show (s'.ps.map Pd.x).length<=2;rw [h3];exact h.pn,fun p hp=>h.px p (by show p ∈ s.ps.map Pd.x;rw [<- h3];exact hp)⟩
theorem ex_own {w W w5:World} {rb b:Nat} {s:Sd} {ea:Option Addr} {ec nE:Nat} {L:List Stepx.Node} (h:Ss w rb b W s) (hn:nE=L.length) (ho:Nodm.Own w5 W.heap.size (.slice ea L.length ec) L) (hl:L.length<=30) (hx:∀ x ∈ L,Cmpf.Nice x):ExOwn w5 (b+1) (.slice ea nE ec) L/\(L.length<=30/\∀ x ∈ L,Cmpf.Nice x):=by
 subst hn
 exact ⟨⟨own_mono (by have:=h.lt;omega) ho,fun x hm=>Nat.le_trans (hx x hm).1 (by decide)⟩,hl,hx⟩
theorem section_any (rb:Nat) (w:World) (h:Rd w rb):Calls prog 43 #[.pointer (some ⟨rb,0,none⟩)] w (SX w rb):=by
 have hrl:=h.lt
 obtain ⟨W0,hW0⟩ : ∃ W0,W0=w.alloc (.cells zcells 38):=⟨_,rfl⟩
 have P0:Hid (Post w rb W0):=(by rw [hW0];exact (Post.refl h).alloc _)
 have Q1:Hid (Post W0 rb W0):=Post.refl P0.out.1
 have R0:Hid (W0.heap[w.heap.size]? = some (.cells zcells 38 (0,0))):=(by rw [hW0];exact (MapKept.heap_alloc w _).1)
 have z0:W0.heap.size=w.heap.size+1:=by rw [hW0];simp
 clear h
 go_enter func43,ntmps43
 go_upto_region 1 with fail
 rw [<- hW0]
 clear hW0
 have n1:¬ W0.heap.size=rb:=by omega
 have n2:¬ W0.heap.size+1=rb:=by omega
 have hr0:rb<W0.heap.size:=by omega
 have Z0:Hid (W0.heap.size=w.heap.size+1):=z0
 clear z0
 go_cut [3] (fun p wx=>∃ (b:Nat) (nm:ByteArray) (k:Int),p=.pointer (some ⟨b,0,none⟩)/\nm.size<=16/\0<=k/\k<3/\Hid (Ss w rb b wx ⟨nm,k,-1,-1,⟨#[]⟩,.slice none 0 0,[]⟩))
 case first =>
  go_region_with (first
   | (go_at_call 82;refine (Rdr.below_any _ _ _ ?rd (by decide) (by decide)).mono ?_;(case rd=>first|exact H2.out.1|exact (H2.out.alloc _).1|exact ((H2.out.alloc _).alloc _).1|exact H2.out.1.kept (fun _ _=>rfl)|exact (H2.out.alloc _).1.kept (fun _ _=>rfl)|exact ((H2.out.alloc _).alloc _).1.kept (fun _ _=>rfl));rintro e w3 ⟨⟨u,u0,u1,rfl⟩,hp3⟩;obtain ⟨k3,f3⟩:=over hp3;have z3:=hp3.2.size;(try simp at z3);(try simp at k3);(try simp at f3);(try (have z3a:w2.heap.size<w3.heap.size:=by omega));(try (have z3b:w2.heap.size+1<w3.heap.size:=by omega));(try (have z3c:W0.heap.size<w3.heap.size:=by omega));(try (have z3d:W0.heap.size+1<w3.heap.size:=by omega));have n4:¬ w3.heap.size=rb:=(by omega);have H3:Hid (Post _ _ w3):=hp3;clear hp3)
   | (go_at_call 82;refine (Rdr.below_any _ _ _ ?rd (by decide) (by decide)).mono ?_;(case rd=>first|exact Q1.out.1|exact (Q1.out.alloc _).1|exact ((Q1.out.alloc _).alloc _).1|exact Q1.out.1.kept (fun _ _=>rfl)|exact (Q1.out.alloc _).1.kept (fun _ _=>rfl)|exact ((Q1.out.alloc _).alloc _).1.kept (fun _ _=>rfl));rintro e w2 ⟨⟨y,y0,y1,rfl⟩,hp2⟩;obtain ⟨t,ht,hg1,hg2,hg3⟩:=get3 y0 y1;obtain ⟨k2,f2⟩:=over hp2;have z2:=hp2.2.size;(try simp at z2);(try simp at k2);(try simp at f2);(try (have z2a:W0.heap.size<w2.heap.size:=by omega));(try (have z2b:W0.heap.size+1<w2.heap.size:=by omega));have n3:¬ w2.heap.size=rb:=(by omega);have n3b:¬ w2.heap.size+1=rb:=(by omega);have HT:Hid (t.size<=16):=ht;clear ht;have H2:Hid (Post _ _ w2):=hp2;clear hp2)
   | fail)
  all_goals
   have P2h:Post W0 rb w2:=by first|with_reducible exact post_drew H2.out|with_reducible exact (Q1.out.alloc _).trans (post_drew H2.out)|with_reducible exact ((Q1.out.alloc _).alloc _).trans (post_drew H2.out)
   have P2:Hid (Post W0 rb w2):=P2h
   have P3h:Post W0 rb w3:=by first|with_reducible exact P2.out.trans H3.out|with_reducible exact (P2.out.alloc _).trans H3.out|with_reducible exact ((P2.out.alloc _).alloc _).trans H3.out
   have P3:Hid (Post W0 rb w3):=P3h
   clear P2h P3h
   (try clear k2)
   (try clear k3)
   (try clear f2)
   (try clear f3)
   clear hg1 hg2 hg3
   go_wp2_with fail
   go_meet
   have s2:=P2.out.2.size
   have s3:=P3.out.2.size
   refine ⟨_,t,u,rfl,HT.out,u0,u1,Ss.new P0.out R0.out Z0.out hrl ?ps ?ge ?lt ?bx⟩
   case bx =>
    first
     | with_reducible exact Bx.new _ _ _ _ _ _ _ _
     | with_reducible exact (Bx.new _ _ _ _ _ _ _ _).alloc (by simp) _
     | (with_reducible refine Bx.stored (bx_row (zr_post ?_ H3.out (by omega))) _ _ _ _ _ _)
     | (with_reducible refine Bx.alloc (Bx.stored (bx_row (zr_post ?_ H3.out (by omega))) _ _ _ _ _ _) (by simp only [World.size_setCell];omega) _)
     | (have hx:=Bx.new (w3.alloc (.cells #[.string ⟨#[97]⟩,.string ⟨#[98]⟩,.string ⟨#[109,97,105,110]⟩] 9)) (.string t) (.int .i64 u) (.int .i64 (-1)) (.int .i64 (-1)) (.string ⟨#[]⟩) (.slice none 0 0) 38;simpa using hx)
    all_goals
     first
      | with_reducible exact zr_new _ _ _
      | with_reducible exact zr_new2 _ _ _ _
      | with_reducible exact zr_old (zr_new _ _ _) _
      | with_reducible exact zr_post (zr_drew (zr_new _ _ _)) H2.out (by omega)
      | with_reducible exact zr_post (zr_drew (zr_new2 _ _ _ _)) H2.out (by omega)
      | with_reducible exact zr_post (zr_drew (zr_old (zr_new _ _ _) _)) H2.out (by omega)
      | with_reducible exact zr_old (zr_post (zr_drew (zr_new _ _ _)) H2.out (by omega)) _
      | with_reducible exact zr_old (zr_post (zr_drew (zr_new2 _ _ _ _)) H2.out (by omega)) _
      | with_reducible exact zr_old (zr_post (zr_drew (zr_old (zr_new _ _ _) _)) H2.out (by omega)) _
   case ps =>
    first
     | with_reducible exact P3.out.alloc _
     | with_reducible exact (P3.out.alloc _).alloc _
     | with_reducible exact post_set6 P3.out _ _ _ _ _ _ _ (by omega) hr0
     | with_reducible exact post_set6 (P3.out.alloc _) _ _ _ _ _ _ _ (by omega) hr0
     | with_reducible exact (post_set6 P3.out _ _ _ _ _ _ _ (by omega) hr0).alloc _
   case ge=>omega
   case lt=>first|(simp only [World.size_setCell];omega)|(simp;done)|(simp;omega)
 case rest =>
  obtain ⟨b,nm,k,rfl,hnm,hk0,hk1,hS⟩:=hcut
  have S1:Hid (Ss w rb b wc ⟨nm,k,-1,-1,⟨#[]⟩,.slice none 0 0,[]⟩):=hS
  have HNM:Hid (nm.size<=16):=hnm
  clear P0 Q1 R0 Z0 n1 n2 hr0 hS hnm
  go_wp2_with fail
  refine (Rdr.below_any _ _ _ S1.out.p.1 (by decide) (by decide)).mono ?_
  rintro e w2 ⟨⟨x,x0,x1,rfl⟩,hp2⟩
  obtain ⟨n,rfl⟩:=Int.eq_ofNat_of_zero_le x0
  have hn:n<12:=by omega
  have S2:=(show Hid _ from S1.out.post hrl hp2)
  clear hp2 S1 x0 x1
  obtain ⟨⟨a0,f0⟩,⟨a1,f1⟩,⟨a2,f2⟩,⟨a3,f3⟩,⟨a4,f4⟩,⟨a5,f5⟩⟩:=S2.out.box
  go_upto_if 19 with fail
  go_cut [] (fun wx=>∃ s:Sd,Hid (Ss w rb b wx s/\Xn s.x))
  case first =>
   generalize hkq:(k == 2)=kq
   clear hkq
   cases kq with
   | true =>
    obtain ⟨o,hmk⟩:=made n (by omega)
    have m1:∀ u:World,(Instr.makeSlice 32 (.int .i64 (n:Int)) (.int .i64 (n:Int))).run prog u=.ok (.slice (some ⟨u.heap.size,0,none⟩) n n) (u.alloc o):=fun u=>(hmk u).1
    have m2:=fun u=>(hmk u).2
    have S3:=(show Hid _ from (S2.out.alloc hrl o).setD hrl (Zb n))
    have b4:=(S2.out.alloc hrl o).box.2.2.2.2.1
    obtain ⟨b4,b5⟩:=b4
    have zz:=Zb_size n
    have HZ:Hid ((Zb n).size=n):=zz
    generalize Zb n=Z at *
    clear hmk
    go_wp2_with fail
    go_meet
    exact ⟨_,S3.out,⟨HNM.out,by show Z.size<=16;rw [HZ.out];omega,Nat.zero_le _,fun p hp=>(by cases hp)⟩⟩
   | false =>
    have hcv:∀ (u:World) (x:Int),(convert 32 9 (.slice (some ⟨u.heap.size,0,none⟩) 1 1)).run prog (u.alloc (.cells #[.int .u8 x] 5))=.ok (.string (strOfNums [x])) (u.alloc (.cells #[.int .u8 x] 5)):=fun u x =>
     run_convert_bytes_arg _ 32 5 underlying32 underlying5 u.heap.size 0 1 1 [x] rfl (fun i hi=>by
      rw [Nat.zero_add,World.cell?_alloc_new]
      match i,hi with
      | 0,_=>rfl) 9 underlying9
    have hsz:∀ x:Int,(strOfNums [x]).size=1:=fun x=>strOfNums_size _
    clear a0 f0 a1 f1 a2 f2 a3 f3 a4 f4 a5 f5
    go_wp2_with fail
    go_loopw [5] (fun i wr=>∃ (j:Nat) (d:ByteArray),j<=n/\d.size=j/\i=.int .i64 j/\Hid (Ss w rb b wr ⟨nm,k,-1,-1,d,.slice none 0 0,[]⟩)) (fun i _=>n-(intOf i).toNat)
    case atStart=>exact ⟨0,⟨#[]⟩,Nat.zero_le _,rfl,rfl,S2.out⟩
    case round =>
     obtain ⟨j,d,hj,hd,rfl,hs⟩:=hrel
     clear S2
     by_cases hlt:j<n
     ·obtain ⟨a4,f4⟩:=hs.out.box.2.2.2.2.1
      have jn:(j:Int)<(n:Int):=by omega
      go_wp2_with fail
      go_region_with (first
       | (go_at_call 82;refine (Rdr.below_any _ _ _ (hs.out.drew hrl).p.1 (by decide) (by decide)).mono ?_;rintro e w3 ⟨⟨x,x0,x1,rfl⟩,hp3⟩;have S3:=(show Hid _ from (hs.out.drew hrl).post hrl hp3);obtain ⟨a4',f4'⟩:=S3.out.box.2.2.2.2.1;have hl3:=S3.out.lt;clear hp3)
       | fail)
      all_goals go_wp2_with fail
      all_goals
       go_roundw
       case rel =>
        refine ⟨j+1,d ++ strOfNums [x],by omega,by rw [ByteArray.size_append,hd,hsz],by go_num,?_⟩
        first
         | exact (S3.out.setD hrl _).alloc hrl _
         | exact (S3.out.alloc hrl _).setD hrl _
       case measure=>simp [intOf];omega
     ·have hjn:j=n:=by omega
      subst hjn
      have HD:Hid (d.size<=16):=(show d.size<=16 from by omega)
      clear hd hlt hj hcv hsz
      go_wp2_with fail
      refine (Rdr.below_any _ _ _ hs.out.p.1 (by decide) (by decide)).mono ?_
      rintro e w3 ⟨⟨x,x0,x1,rfl⟩,hp3⟩
      obtain ⟨m,rfl⟩:=Int.eq_ofNat_of_zero_le x0
      have hm:m<=2:=by omega
      have S3:=(show Hid _ from hs.out.post hrl hp3)
      clear hp3 hs x0 x1
      go_wp2_with fail
      go_loopw [6] (fun i wr=>∃ (q:Nat) (pa:Option Addr) (len pc:Nat) (ps:List Pd),q+len<=2/\i=.int .i64 q/\Hid (ps.length=len)/\Hid (Ss w rb b wr ⟨nm,k,-1,-1,d,.slice pa len pc,ps⟩)/\Hid (∀ p ∈ ps,p.l.length<=30/\∀ x ∈ p.l,Cmpf.Nice x)) (fun i _=>(intOf i).toNat)
      case atStart=>exact ⟨m,none,0,0,[],by simpa using hm,rfl,rfl,S3.out,fun p hp=>(by cases hp)⟩
      case round =>
       obtain ⟨q,pa,len,pc,ps,hq,rfl,HL,hs,hps⟩:=hrel
       clear S3
       by_cases hq0:0<q
       ·by_cases hj2:2<j
        ·obtain ⟨q',rfl⟩ : ∃ q',q=q'+1:=⟨q-1,by omega⟩
         have g0:(0:Int)<((q'+1:Nat):Int):=by omega
         have j0:(2:Int)<(j:Int):=by omega
         have jw:IntKind.i64.wrap ((j:Int)-1)=(j:Int)-1:=wrap_in (by omega) (by omega)
         obtain ⟨i0,hi,hz0,hz1,hz2⟩:=info_parts Rlsa.infoP
         have OWN:Hid (∀ (W:World) (o:Obj),Ss w rb b W ⟨nm,k,-1,-1,d,.slice pa len pc,ps⟩->(W.alloc o).ownsRow (b+1) 80 3 (.slice pa len pc) len (ps.flatMap Pd.cells)):=fun W o h=>by
          have h:=own_below h.own.pat (zRf.alloc (Nat.le_refl _) o)
          have e:ps.length=len:=HL.out
          rw [<- e] at h |-
          exact h
         have FIN:Hid (∀ (W w6:World) (o:Obj) (g' c':Nat) (m1 m2:Int) (L:List Stepx.Node) (ev:Value),Ss w rb b W ⟨nm,k,-1,-1,d,.slice pa len pc,ps⟩->ExOwn W (b+1) ev L->w6.ownsRow (b+1) 80 3 (.slice (some ⟨g',0,none⟩) (len+1) c') (len+1) (ps.flatMap Pd.cells ++ [.int .i64 m1,.int .i64 m2,ev])->(W.alloc o).grownBy w6 (Value.slice pa len pc).ownBlock ->
           Ss w rb b (w6.setCell ⟨b,5,none⟩ (.slice (some ⟨g',0,none⟩) (len+1) c')) ⟨nm,k,-1,-1,d,.slice (some ⟨g',0,none⟩) (len+1) c',ps ++ [⟨m1,m2,L,ev⟩]⟩/\w6.cell? ⟨b,5,none⟩=some (.slice pa len pc)/\w6.frozen? ⟨b,5,none⟩=false):=fun W w6 o g' c' m1 m2 L ev h hx ho hg =>
          (h.alloc hrl o).add hrl ⟨m1,m2,L,ev⟩ _ ⟨own_below hx.1 (zRf.alloc (Nat.le_refl _) o),hx.2⟩ (by
           show w6.ownsRow (b+1) 80 3 _ (ps.length+1) _
           rw [HL.out];exact ho) hg
         have hl63:len+1<=maxLen:=by unfold maxLen;omega
         obtain ⟨a5,f5⟩:=hs.out.box.2.2.2.2.2
         go_wp2_with fail
         go_region_law (first
          | (refine step_append_lies _ rfl (.tmp 49) (.tmp 60) 36 rfl (b+1) 80 i0 (.agg #[.int .i64 0,.int .i64 0,.slice none 0 0]) 3 40 underlying36 hi hz0 hz1 hz2 rfl (by decide) (.slice pa len pc) len (ps.flatMap Pd.cells) rfl (OWN.out _ _ S5.out) ⟨w5.heap.size,0,none⟩ 1 1 [.int .i64 y1,.int .i64 (1+y2),.slice ea nE ec] rfl rfl (newA w5 [.int .i64 y1,.int .i64 (1+y2),.slice ea nE ec] 80) (by intro u hu;simp at hu;rcases hu with rfl|rfl|rfl <;> rfl) (by decide) hl63 (by omega) (Z5.out _) _ rfl ?_;intro g' c' w6 hown' hgrow hat hlt';obtain ⟨p6,d6,f6⟩:=FIN.out _ _ _ _ _ _ _ _ _ S5.out E5.out.1 hown' hgrow;have S6:=(show Hid _ from p6);clear p6 hown' hgrow hat hlt')
          | (go_simp;go_at_call 83;refine (Cmpf.expr_any _ _ S4.out.p.1).mono ?_;rintro e w5 ⟨⟨ea,ec,L,rfl,ho5,hl5,hn5⟩,hp5⟩;have S5:=(show Hid _ from S4.out.post hrl hp5);obtain ⟨nE,hnE⟩ : ∃ nE,nE=L.length:=⟨_,rfl⟩;have E5:=(show Hid _ from ex_own S4.out hnE ho5 hl5 hn5);rw [<- hnE];clear hnE ho5 hl5 hn5;have Z5:Hid (∀ o,b+1<=(w5.alloc o).heap.size):=(fun o=>by have:=S5.out.lt;simp;omega);obtain ⟨a5c,f5c⟩:=S5.out.box.2.2.2.2.2;have lt5:=S5.out.lt;clear hp5)
          | (go_simp;go_at_call_of 82 (Value.int .i64 3);refine (Rdr.below_any _ _ _ S3.out.p.1 (by decide) (by decide)).mono ?_;rintro e w4 ⟨⟨y2,y20,y21,rfl⟩,hp4⟩;have S4:=(show Hid _ from S3.out.post hrl hp4);have y2w:IntKind.i64.wrap (1+y2)=1+y2:=wrap_in (by omega) (by omega);obtain ⟨a5b,f5b⟩:=S4.out.box.2.2.2.2.2;clear hp4)
          | (go_simp;go_at_call 82;refine (Rdr.below_any _ _ _ (hs.out.drew hrl).p.1 (by omega) (by omega)).mono ?_;rintro e w3 ⟨⟨y1,y10,y11,rfl⟩,hp3⟩;have S3:=(show Hid _ from (hs.out.drew hrl).post hrl hp3);obtain ⟨a5a,f5a⟩:=S3.out.box.2.2.2.2.2;clear hp3)
          | fail)
         all_goals
          go_simp
          go_wp2_with fail
          go_roundw
          case rel=>exact ⟨q',_,len+1,_,_,by omega,by go_num,by show (_ ++ [_]:List Pd).length=len+1;rw [List.length_append,HL.out];rfl,S6.out,fun p hp=>(List.mem_append.1 hp).elim (hps.out p) fun hp=>by rw [List.mem_singleton.1 hp];exact E5.out.2⟩
          case measure=>first|(simp [intOf];done)|(simp [intOf];omega)
        ·go_wp2_with fail
         go_meet
         exact ⟨_,hs.out,xn_of HNM.out HD.out (by have e:ps.length=len:=HL.out;omega) hps.out⟩
       ·go_wp2_with fail
        go_meet
        exact ⟨_,hs.out,xn_of HNM.out HD.out (by have e:ps.length=len:=HL.out;omega) hps.out⟩
  case rest =>
   clear S2 a0 f0 a1 f1 a2 f2 a3 f3 a4 f4 a5 f5 HNM hk0 hk1 hn
   obtain ⟨s,hs⟩:=hcut
   have S1:=(show Hid _ from hs.out.1)
   have HX:=(show Hid _ from hs.out.2)
   clear hs
   go_wp2_with fail
   refine (Rdr.once_any _ _ _ S1.out.p.1 (by decide) (by decide)).mono ?_
   rintro e w3 ⟨⟨q,rfl⟩,hp3⟩
   have S2:=(show Hid _ from S1.out.post hrl hp3)
   clear hp3 S1
   go_upto_if 64 with fail
   go_cut [] (fun wx=>∃ s:Sd,Hid (Ss w rb b wx s/\Xn s.x))
   case first =>
    cases q with
    | false =>
     go_wp2_with fail
     go_meet
     exact ⟨s,S2.out,HX.out⟩
    | true =>
     obtain ⟨a1,f1⟩:=S2.out.box.2.1
     go_wp2_with fail
     refine (Seco.l9Base_any _ _).mono ?_
     rintro e w4 ⟨rfl,rfl⟩
     go_wp2_with fail
     refine (Rdr.below_any _ _ _ S2.out.p.1 (by decide) (by decide)).mono ?_
     rintro e w5 ⟨⟨y,y0,y1,rfl⟩,hp5⟩
     have S5:=(show Hid _ from S2.out.post hrl hp5)
     clear hp5 S2
     obtain ⟨a3,f3⟩:=S5.out.box.2.2.2.1
     go_wp2_with fail
     go_meet
     exact ⟨_,S5.out.setA hrl _,xn_re HX.out rfl rfl rfl⟩
   case rest =>
    clear S2 HX
    obtain ⟨s,hs⟩:=hcut
    have S1:=(show Hid _ from hs.out.1)
    have HX:=(show Hid _ from hs.out.2)
    clear hs
    obtain ⟨a1,f1⟩:=S1.out.box.2.1
    go_upto_region 15 with fail
    go_cut [78] (fun v wx=>∃ (q:Bool),v=.bool q/\Hid (Ss w rb b wx s))
    case first =>
     by_cases hk:s.k=1
     ·have ek:(s.k == 1)=true:=by simp [hk]
      go_wp2_with fail
      refine (Rdr.once_any _ _ _ S1.out.p.1 (by decide) (by decide)).mono ?_
      rintro e w4 ⟨⟨q,rfl⟩,hp4⟩
      have S2:=(show Hid _ from S1.out.post hrl hp4)
      clear hp4 S1
      go_wp2_with fail
      go_meet
      exact ⟨q,rfl,S2.out⟩
     ·have ek:(s.k == 1)=false:=by simp [hk]
      go_wp2_with fail
      go_meet
      exact ⟨false,rfl,S1.out⟩
    case rest =>
     clear S1 a1 f1
     obtain ⟨q,rfl,S1⟩:=hcut
     go_upto_if 78 with fail
     go_cut [] (fun wx=>∃ s:Sd,Hid (Ss w rb b wx s/\Xn s.x))
     case first =>
      cases q with
      | false =>
       go_wp2_with fail
       go_meet
       exact ⟨s,S1.out,HX.out⟩
      | true =>
       go_wp2_with fail
       refine (Rdr.below_any _ _ _ S1.out.p.1 (by decide) (by decide)).mono ?_
       rintro e w5 ⟨⟨y,y0,y1,rfl⟩,hp5⟩
       have S5:=(show Hid _ from S1.out.post hrl hp5)
       clear hp5 S1
       obtain ⟨a2,f2⟩:=S5.out.box.2.2.1
       go_wp2_with fail
       go_meet
       exact ⟨_,S5.out.setB hrl _,xn_re HX.out rfl rfl rfl⟩
     case rest =>
      clear S1 HX
      obtain ⟨s,hs⟩:=hcut
      have S1:=(show Hid _ from hs.out.1)
      have HX:=(show Hid _ from hs.out.2)
      clear hs
      go_wp2_with fail
      refine (Rdr.below_any _ _ _ S1.out.p.1 (by decide) (by decide)).mono ?_
      rintro e w4 ⟨⟨y,y0,y1,rfl⟩,hp4⟩
      have S2:=(show Hid _ from S1.out.post hrl hp4)
      clear hp4 S1
      by_cases h8:y=38
      ·have e8:(y == 38)=true:=by simp [h8]
       go_wp2_with fail
       refine (Rdr.off_any _ _ _ _ S2.out.p.1 (by decide) (by decide) (by decide)).mono ?_
       rintro e w5 ⟨⟨z,hz⟩,hp5⟩
       obtain ⟨_,rfl⟩:=hz
       have S5:=(show Hid _ from S2.out.post hrl hp5)
       clear hp5 S2
       obtain ⟨a3,f3⟩:=S5.out.box.2.2.2.1
       have S6:=(show Hid _ from S5.out.setA hrl z)
       have HX6:Hid (Xn (Sd.x ⟨s.nm,s.k,s.b,z,s.d,s.pv,s.ps⟩)):=xn_re HX.out rfl rfl rfl
       obtain ⟨⟨q0,g0⟩,⟨q1,g1⟩,⟨q2,g2⟩,⟨q3,g3⟩,⟨q4,g4⟩,⟨q5,g5⟩⟩:=S6.out.box
       go_upto_region 22 with fail
       refine wp_region_list ?_
       refine wpList_plain rfl (fun K hK=>?_)
       go_simp
       refine hK _ _ ?_
       have h1c:(scells ⟨s.nm,s.k,s.b,z,s.d,s.pv,s.ps⟩).all (·.oneCell')=true:=by
        obtain ⟨pa,pc,hpv⟩:=own_slice S6.out.own.pat
        have hpv:s.pv=.slice pa s.ps.length pc:=hpv
        simp [Value.oneCell',hpv]
       refine wpList_store_row rfl 38 _ _ rfl w.heap.size (scells ⟨s.nm,s.k,s.b,z,s.d,s.pv,s.ps⟩) rfl rfl _ _ S6.out.res infoS6 rfl h1c ?_
       go_wp2
       exact bodyPost_ret (v:=.agg (scells ⟨s.nm,s.k,s.b,z,s.d,s.pv,s.ps⟩)) (results_cell_row results43 _ _ w.heap.size _ _ (0,0) _ rfl (setRow_heap _ _ _ _ _ _ S6.out.res) underlying38 rfl infoS6) rfl (S6.out.fin hrl HX6.out _)
      ·have e8:(y == 38)=false:=by simp [h8]
       by_cases h9:y=39
       ·have e9:(y == 39)=true:=by simp [h9]
        go_wp2_with fail
        refine (Rdr.off_any _ _ _ _ S2.out.p.1 (by decide) (by decide) (by decide)).mono ?_
        rintro e w5 ⟨⟨z,hz⟩,hp5⟩
        obtain ⟨_,rfl⟩:=hz
        have S5:=(show Hid _ from S2.out.post hrl hp5)
        clear hp5 S2
        obtain ⟨a3,f3⟩:=S5.out.box.2.1
        have S6:=(show Hid _ from S5.out.setK hrl z)
        have HX6:Hid (Xn (Sd.x ⟨s.nm,z,s.b,s.a,s.d,s.pv,s.ps⟩)):=xn_re HX.out rfl rfl rfl
        obtain ⟨⟨q0,g0⟩,⟨q1,g1⟩,⟨q2,g2⟩,⟨q3,g3⟩,⟨q4,g4⟩,⟨q5,g5⟩⟩:=S6.out.box
        go_upto_region 22 with fail
        refine wp_region_list ?_
        refine wpList_plain rfl (fun K hK=>?_)
        go_simp
        refine hK _ _ ?_
        have h1c:(scells ⟨s.nm,z,s.b,s.a,s.d,s.pv,s.ps⟩).all (·.oneCell')=true:=by
         obtain ⟨pa,pc,hpv⟩:=own_slice S6.out.own.pat
         have hpv:s.pv=.slice pa s.ps.length pc:=hpv
         simp [Value.oneCell',hpv]
        refine wpList_store_row rfl 38 _ _ rfl w.heap.size (scells ⟨s.nm,z,s.b,s.a,s.d,s.pv,s.ps⟩) rfl rfl _ _ S6.out.res infoS6 rfl h1c ?_
        go_wp2
        exact bodyPost_ret (v:=.agg (scells ⟨s.nm,z,s.b,s.a,s.d,s.pv,s.ps⟩)) (results_cell_row results43 _ _ w.heap.size _ _ (0,0) _ rfl (setRow_heap _ _ _ _ _ _ S6.out.res) underlying38 rfl infoS6) rfl (S6.out.fin hrl HX6.out _)
       ·have e9:(y == 39)=false:=by simp [h9]
        have S6:=(show Hid _ from S2.out)
        have HX6:Hid (Xn s.x):=HX.out
        obtain ⟨⟨q0,g0⟩,⟨q1,g1⟩,⟨q2,g2⟩,⟨q3,g3⟩,⟨q4,g4⟩,⟨q5,g5⟩⟩:=S6.out.box
        go_upto_region 22 with fail
        refine wp_region_list ?_
        refine wpList_plain rfl (fun K hK=>?_)
        go_simp
        refine hK _ _ ?_
        have h1c:(scells s).all (·.oneCell')=true:=by
         obtain ⟨pa,pc,hpv⟩:=own_slice S6.out.own.pat
         have hpv:s.pv=.slice pa s.ps.length pc:=hpv
         simp [Value.oneCell',hpv]
        refine wpList_store_row rfl 38 _ _ rfl w.heap.size (scells s) rfl rfl _ _ S6.out.res infoS6 rfl h1c ?_
        go_wp2
        exact bodyPost_ret (v:=.agg (scells s)) (results_cell_row results43 _ _ w.heap.size _ _ (0,0) _ rfl (setRow_heap _ _ _ _ _ _ S6.out.res) underlying38 rfl infoS6) rfl (S6.out.fin hrl HX6.out _)
end Secd
end Go.Proofs.YtickfkphhngagaaGreatDoor
