import Derived.Test.YtbofcepdckpkkaaGreatDoorP09
import Derived.Deep.Strs
import Derived.Laws.OwnMore
set_option linter.all false
set_option maxRecDepth 20000
set_option maxHeartbeats 8000000
open Go.ChangeShapes Go.WideShapes Go.ChangeAt Go.RowKit
open Go.Proofs.Tryz
namespace Go.Proofs.YtbofcepdckpkkaaGreatDoor
namespace Mirror
open Go.Deep
open Go.Proofs.YtbofcepdckpkkaaGreatDoor.Stepx (Nodes)
theorem Nodes.below {w w':World} {a:Option Addr} {L:List Stepx.Node} (h:Nodes w a L) (hb:Below w.heap.size w w'):Nodes w' a L:=by
 rcases h with h|⟨b,off,ha,hl,hc⟩
 ·exact .inl h
 ·refine .inr ⟨b,off,ha,Nat.lt_of_lt_of_le hl hb.size,fun i hi=>?_⟩
  obtain ⟨d0,d1,d2,d3⟩:=hc i hi
  exact ⟨(hb.cell (p:=⟨b,_,none⟩) hl).trans d0,(hb.cell (p:=⟨b,_,none⟩) hl).trans d1,(hb.cell (p:=⟨b,_,none⟩) hl).trans d2,d3⟩
def left (m:Int) (s:ByteArray):Int:=if m-s.size<0 then -1 else m-s.size
def Part (W:World) (B len:Nat) (L:List Stepx.Node) (k:Nat):Prop :=
 (∀ i (h:i<L.length),i<k->W.cell? ⟨B,i*3,none⟩=some (.int .i64 L[i].1)/\W.cell? ⟨B,i*3+1,none⟩=some (.int .i64 L[i].2.1)/\W.cell? ⟨B,i*3+2,none⟩=some (.string L[i].2.2)) /\
 (∀ j,j<len*3->∃ u,W.cell? ⟨B,j,none⟩=some u)/\(∀ j,W.frozen? ⟨B,j,none⟩=false)/\B<W.heap.size
theorem Part.kept {W W':World} {B len k:Nat} {L:List Stepx.Node} (h:Part W B len L k) (hb:W'.heap[B]? = W.heap[B]?) (hs:W.heap.size<=W'.heap.size):Part W' B len L k:=by
 have e:∀ o,W'.cell? ⟨B,o,none⟩=W.cell? ⟨B,o,none⟩:=fun o=>World.cell?_of_block (a:=⟨B,o,none⟩) hb
 have f:∀ o,W'.frozen? ⟨B,o,none⟩=W.frozen? ⟨B,o,none⟩:=fun o=>World.frozen?_of_block (a:=⟨B,o,none⟩) hb
 refine ⟨fun i hi hk=>?_,fun j hj=>?_,fun j=>?_,Nat.lt_of_lt_of_le h.2.2.2 hs⟩
 ·rw [e,e,e];exact h.1 i hi hk
 ·rw [e];exact h.2.1 j hj
 ·rw [f];exact h.2.2.1 j
theorem Part.set {W:World} {B len k o:Nat} {L:List Stepx.Node} (h:Part W B len L k) (ho:k*3<=o) (v:Value):Part (W.setCell ⟨B,o,none⟩ v) B len L k:=by
 have ne:∀ i,i ≠ o->(W.setCell ⟨B,o,none⟩ v).cell? ⟨B,i,none⟩=W.cell? ⟨B,i,none⟩:=fun i hi=>World.cell?_setCell_other W _ _ _ (fun e=>hi (by have:=congrArg Addr.off e;exact this.symm))
 refine ⟨fun i hi hk=>?_,fun j hj=>?_,fun j=>?_,?_⟩
 ·rw [ne _ (by omega),ne _ (by omega),ne _ (by omega)];exact h.1 i hi hk
 ·by_cases e:j=o
  ·subst e
   obtain ⟨u,hu⟩:=h.2.1 j hj
   exact ⟨v,World.cell?_setCell_same W _ _ hu⟩
  ·rw [ne j e];exact h.2.1 j hj
 ·rw [World.frozen?_setCell];exact h.2.2.1 j
 ·have:=h.2.2.2;simpa [World.setCell] using this
theorem infoN:(prog.info? 54).map (fun i=>(i.zero,i.size,i.bytes))=some (some (.agg #[.int .i64 0,.int .i64 0,.string ⟨#[]⟩]),3,32):=by kernel_rfl
theorem Part.made (w:World) (len:Nat) (L:List Stepx.Node) (z:Array Value) (t:TypeId):Part (w.alloc (.cells (madeCells z (len*3)) t)) w.heap.size len L 0:=by
 refine ⟨fun i _ h=>absurd h (Nat.not_lt_zero _),fun j hj=>?_,fun j=>?_,by simp⟩
 ·rw [World.cell?_alloc_new]
  exact ⟨_,Array.getElem?_eq_getElem (by rw [size_madeCells];exact hj)⟩
 ·exact World.frozen?_alloc_at _ _ _ _ rfl
theorem below_of_drew {w w':World} (h:Below w.drew.heap.size w.drew w'):Below w.heap.size w w':=⟨h.os,h.tape,h.output,h.size,h.block⟩
end Mirror
namespace Nodm
open Go.Deep
open Go.Proofs.YtbofcepdckpkkaaGreatDoor.Stepx (Nodes)
def cellsOf (L:List Stepx.Node):List Value:=L.flatMap fun x=>[.int .i64 x.1,.int .i64 x.2.1,.string x.2.2]
theorem cells_len (L:List Stepx.Node):(cellsOf L).length=L.length*3:=by
 unfold cellsOf
 induction L with
 | nil=>rfl
 | cons x L ih=>rw [List.flatMap_cons,List.length_append,ih,List.length_cons];simp;omega
theorem cells_snoc (L:List Stepx.Node) (x:Stepx.Node):cellsOf (L ++ [x])=cellsOf L ++ [.int .i64 x.1,.int .i64 x.2.1,.string x.2.2]:=by
 unfold cellsOf;rw [List.flatMap_append];rfl
theorem cells_at:∀ (L:List Stepx.Node) (i:Nat) (h:i<L.length),(cellsOf L)[i*3]? = some (.int .i64 L[i].1)/\(cellsOf L)[i*3+1]? = some (.int .i64 L[i].2.1)/\(cellsOf L)[i*3+2]? = some (.string L[i].2.2)
 | [],i,h=>absurd h (Nat.not_lt_zero _)
 | x :: L,0,_=>⟨rfl,rfl,rfl⟩
 | x :: L,i+1,h=>by
  have ih:=cells_at L i (by simpa using h)
  have e:cellsOf (x :: L)=.int .i64 x.1 :: .int .i64 x.2.1 :: .string x.2.2 :: cellsOf L:=rfl
  rw [e,show (i+1)*3=i*3+1+1+1 by omega]
  simp only [List.getElem?_cons_succ,List.getElem_cons_succ]
  exact ih
abbrev Own (w:World) (base:Nat) (v:Value) (L:List Stepx.Node):Prop:=w.ownsRow base 54 3 v L.length (cellsOf L)
theorem nodes_own {w:World} {base:Nat} {a:Option Addr} {n cap:Nat} {L:List Stepx.Node} (h:Own w base (.slice a n cap) L) (hz:∀ x ∈ L,x.2.2.size<=1048576):Nodes w a L:=by
 rcases h.2 with ⟨hv,h0⟩|⟨g,c,cur,hv,hb,hg,hn,hm,hs,ht⟩
 ·exact .inl (List.length_eq_zero_iff.1 h0)
 ·cases hv
  have hl:=(h.lt g rfl).2
  refine .inr ⟨g,0,rfl,hl,fun i hi=>?_⟩
  have hc:=h.cellAt
  obtain ⟨a1,a2,a3⟩:=cells_at L i hi
  rw [Nat.zero_add]
  refine ⟨(hc (i*3) (by omega)).trans a1,(hc (i*3+1) (by omega)).trans a2,(hc (i*3+2) (by omega)).trans a3,?_⟩
  have:=hz L[i] (List.getElem_mem hi)
  unfold maxLen;omega
theorem own_below {w w1:World} {base:Nat} {v:Value} {L:List Stepx.Node} (h:Own w base v L) (hb:Below w.heap.size w w1):Own w1 base v L :=
 h.kept (row:=none) ⟨hb.os,hb.tape,hb.output,hb.size,fun k hk _=>hb.block k hk⟩ (by cases hv:Value.ownBlock v <;> simp)
theorem one_size (x:Int):(strOfNums [x]).size=1:=strOfNums_size _
theorem cat_size (x:Int) (t:ByteArray):(strOfNums [x] ++ t).size=t.size+1:=by rw [ByteArray.size_append,one_size];omega
theorem grown_set (w:World) (g i:Nat) (u:Value):w.grownBy (w.setCell ⟨g,i,none⟩ u) (some g) :=
 ⟨rfl,rfl,rfl,by simp [World.setCell],fun k _ hk=>Below.heap_setCell _ _ _ _ (fun e=>hk (by rw [e]))⟩
theorem cells_app (P R:List Stepx.Node):cellsOf (P ++ R)=cellsOf P ++ cellsOf R:=by unfold cellsOf;rw [List.flatMap_append]
theorem set3 (P R:List Stepx.Node) (x y:Stepx.Node) (k:Nat) (h:P.length=k):(((cellsOf (P ++ x :: R)).set (k*3) (.int .i64 y.1)).set (k*3+1) (.int .i64 y.2.1)).set (k*3+2) (.string y.2.2)=cellsOf (P ++ y :: R):=by
 have e:∀ z:Stepx.Node,cellsOf (P ++ z :: R)=cellsOf P ++ (.int .i64 z.1 :: .int .i64 z.2.1 :: .string z.2.2 :: cellsOf R):=fun z=>cells_app P (z :: R)
 have hl:(cellsOf P).length=k*3:=by rw [cells_len,h]
 rw [e,e]
 rw [List.set_append_right _ _ (by omega),List.set_append_right _ _ (by omega),List.set_append_right _ _ (by omega),hl]
 rw [show k*3-k*3=0 by omega,show k*3+1-k*3=1 by omega,show k*3+2-k*3=2 by omega]
 rfl
end Nodm
namespace Prsl
open Prsp
theorem word_bd {b:Int} (hb:0<=b):∀ (l:List UInt8) (n m:Int),0<=n->n<=65535->Nums.word b n l=some m->0<=m/\m<=65535
 | [],n,m,h0,h1,h=>by simp [Nums.word] at h;omega
 | c :: l,n,m,h0,h1,h=>by
  unfold Nums.word at h
  split at h
  ·cases h
  ·split at h
   ·cases h
   ·have:=(Nums.digS_bd (c.toNat:Int)).1
    have:=Int.mul_nonneg h0 hb
    exact word_bd hb l _ m (by omega) (by omega) h
theorem num_bd {s:ByteArray} {n:Int} (h:Nums.num s=some n):0<=n/\n<=65535:=by
 have hb:∀ (t:ByteArray) (b:Int),0<=b->Nums.base t b=some n->0<=n/\n<=65535:=fun t b h0 h=>by
  unfold Nums.base at h
  split at h
  ·cases h
  ·exact word_bd h0 _ _ _ (by decide) (by decide) h
 unfold Nums.num at h
 split at h
 ·cases h
 ·split at h
  ·exact hb _ _ (by decide) h
  ·split at h
   ·exact hb _ _ (by decide) h
   ·exact hb _ _ (by decide) h
def Blk (M:List Stepx.Node):Prop:=∀ (v:Int) (R:List Stepx.Node),0<=v->Stepx.run v (M ++ R)=Stepx.run (v+1) R
theorem node_run {x:Stepx.Node} {v:Int} {R:List Stepx.Node} (h1:Steps.nodeB x.1 x.2.1 x.2.2=true) (h2:Stepx.takes x.1<=v):Stepx.run v (x :: R)=Stepx.run (v+(1-Stepx.takes x.1)) R:=by
 show (if _ then _ else _)=_
 rw [if_pos ⟨h1,h2⟩]
theorem blk_leaf {x:Stepx.Node} (h1:Steps.nodeB x.1 x.2.1 x.2.2=true) (h2:Stepx.takes x.1=0):Blk [x]:=fun v R hv=>by
 show Stepx.run v (x :: R)=_
 rw [node_run h1 (by omega),h2];rfl
theorem blk_one {M:List Stepx.Node} {x:Stepx.Node} (h:Blk M) (h1:Steps.nodeB x.1 x.2.1 x.2.2=true) (h2:Stepx.takes x.1=1):Blk (M ++ [x]):=fun v R hv=>by
 rw [List.append_assoc,h v _ hv]
 show Stepx.run (v+1) (x :: R)=_
 rw [node_run h1 (by omega),h2]
 congr 1
 omega
theorem blk_two {M N:List Stepx.Node} {x:Stepx.Node} (h:Blk M) (h':Blk N) (h1:Steps.nodeB x.1 x.2.1 x.2.2=true) (h2:Stepx.takes x.1=2):Blk (M ++ (N ++ [x])):=fun v R hv=>by
 rw [List.append_assoc,h v _ hv,List.append_assoc,h' (v+1) _ (by omega)]
 show Stepx.run (v+1+1) (x :: R)=_
 rw [node_run h1 (by omega),h2]
 congr 1
 omega
theorem node_op (k:Int) (h:4<=k/\k<=17):Steps.nodeB k 0 E0=true:=by
 unfold Steps.nodeB
 rw [if_neg (by omega),if_neg (by omega),if_pos h,Nums.empty_yes rfl]
 rfl
theorem node_num {n:Int} (h:0<=n/\n<=65535):Steps.nodeB 1 n E0=true:=by
 unfold Steps.nodeB
 rw [if_pos rfl]
 have:Steps.inB n 0 65535=true:=by unfold Steps.inB;simp;omega
 rw [this,Nums.empty_yes rfl]
 rfl
theorem node_name {k:Int} {t:ByteArray} (hk:k=2 \/ k=3) (h:Names.nameB t=true):Steps.nodeB k 0 t=true:=by
 unfold Steps.nodeB
 rw [if_neg (by omega),if_pos hk,h]
 rfl
theorem name_size {t:ByteArray} (h:Names.nameB t=true):t.size<=16:=(of_decide_eq_true h).2.1
structure Shp (s s':St):Prop where
 nodes:∃ M,s'.2=s.2 ++ M/\Blk M/\∀ x ∈ M,x.2.2.size<=16
 most:s.2.length<=30->s'.2.length<=30
 rest:s'.1 <:+ s.1
theorem put_some {x:Stepx.Node} {s s':St} (h:put x s=some s'):s.2.length<30/\s'=(s.1,s.2 ++ [x]):=by
 unfold put at h
 split at h
 ·rename_i h';exact ⟨h',by cases h;rfl⟩
 ·cases h
theorem close_some {s s':St} (h:close s=some s'):hd s.1=41/\s'=(s.1.tail,s.2):=by
 unfold close at h
 split at h
 ·rename_i h';exact ⟨h',by cases h;rfl⟩
 ·cases h
theorem put_leaf {x:Stepx.Node} {s s':St} {r:List UInt8} (h:put x (r,s.2)=some s') (hr:r <:+ s.1) (h1:Steps.nodeB x.1 x.2.1 x.2.2=true) (h2:Stepx.takes x.1=0) (h3:x.2.2.size<=16):Shp s s':=by
 obtain ⟨h4,rfl⟩:=put_some h
 exact ⟨⟨[x],rfl,blk_leaf h1 h2,fun y hy=>by rw [List.mem_singleton.1 hy];exact h3⟩,fun _=>by have:s.2.length<30:=h4;simp only [List.length_append,List.length_singleton];omega,hr⟩
theorem close_shp {s s' s'':St} (h:Shp s s') (hc:close s'=some s''):Shp s s'':=by
 obtain ⟨_,rfl⟩:=close_some hc
 exact ⟨h.nodes,h.most,(List.tail_suffix _).trans h.rest⟩
theorem put_one {s s' s'':St} {k:Int} (h:Shp s s') (hk:4<=k/\k<=7) (hp:put (k,0,E0) s'=some s''):Shp s s'':=by
 obtain ⟨h4,rfl⟩:=put_some hp
 obtain ⟨M,hM,hb,hz⟩:=h.nodes
 refine ⟨⟨M ++ [(k,0,E0)],?_,blk_one hb (node_op k (by omega)) ?_,?_⟩,fun _=>by simp only [List.length_append,List.length_singleton];omega,h.rest⟩
 ·show s'.2 ++ _=_;rw [hM,List.append_assoc]
 ·show Stepx.takes k=1;unfold Stepx.takes;rw [if_neg (by omega),if_pos (by omega)]
 ·intro x hx
  rcases List.mem_append.1 hx with h|h
  ·exact hz x h
  ·rw [List.mem_singleton.1 h];exact Nat.zero_le _
theorem leaf_shp {t:ByteArray} {s s':St} {r:List UInt8} (hr:r <:+ s.1) (h:leafF t (r,s.2)=some s'):Shp s s':=by
 unfold leafF at h
 split at h
 ·rename_i n hn
  exact put_leaf h hr (node_num (num_bd hn)) rfl (Nat.zero_le _)
 ·split at h
  ·rename_i hn
   exact put_leaf h hr (node_name (.inl rfl) hn) rfl (name_size hn)
  ·cases h
theorem bind_some {α β:Type} {x:Option α} {f:α->Option β} {y:β} (h:x.bind f=some y):∃ a,x=some a/\f a=some y:=by
 cases x with
 | none=>cases h
 | some a=>exact ⟨a,rfl,h⟩
theorem up {s s':St} {r:List UInt8} (hr:r <:+ s.1) (h:Shp (r,s.2) s'):Shp s s':=⟨h.nodes,h.most,h.rest.trans hr⟩
theorem af_suf (l:List UInt8):af l <:+ l:=List.dropWhile_suffix _
theorem br_shp {l:St->Option St} {s s':St} {r:List UInt8} (hl:∀ s s',l s=some s'->Shp s s') (hr:r <:+ s.1) (h:brF l (r,s.2)=some s'):Shp s s':=by
 obtain ⟨s1,h1,h2⟩:=bind_some h
 exact close_shp (up ((List.tail_suffix _).trans hr) (hl _ _ h1)) h2
theorem word_shp {l:St->Option St} {s s':St} (hl:∀ s s',l s=some s'->Shp s s') (h:wordF l s=some s'):Shp s s':=by
 unfold wordF at h
 split at h
 ·exact leaf_shp ((af_suf _).trans (List.tail_suffix _)) h
 split at h
 ·obtain ⟨s1,h1,h2⟩:=bind_some h
  exact put_one (br_shp hl (af_suf _) h1) (by decide) h2
 split at h
 ·obtain ⟨s1,h1,h2⟩:=bind_some h
  exact put_one (br_shp hl (af_suf _) h1) (by decide) h2
 split at h
 ·unfold bankF at h
  split at h
  ·rename_i hn
   obtain ⟨s1,h1,h2⟩:=bind_some h
   exact close_shp (put_leaf h1 (((af_suf _).trans (List.tail_suffix _)).trans (af_suf _)) (node_name (.inr rfl) hn) rfl (name_size hn)) h2
  ·cases h
 ·exact leaf_shp (af_suf _) h
theorem value_shp {v l:St->Option St} {s s':St} (hv:∀ s s',v s=some s'->Shp s s') (hl:∀ s s',l s=some s'->Shp s s') (h:valueF v l s=some s'):Shp s s':=by
 unfold valueF at h
 split at h
 ·obtain ⟨s1,h1,h2⟩:=bind_some h
  exact put_one (up (List.tail_suffix _) (hv _ _ h1)) (by decide) h2
 split at h
 ·obtain ⟨s1,h1,h2⟩:=bind_some h
  exact put_one (up (List.tail_suffix _) (hv _ _ h1)) (by decide) h2
 split at h
 ·exact br_shp (s:=s) (r:=s.1) hl (List.suffix_refl _) h
 ·exact word_shp hl h
theorem op_bd (l:List UInt8):opK l=0 \/ 8<=opK l/\opK l<=17:=by
 unfold opK
 repeat' split
 all_goals omega
theorem op_ne {l:List UInt8} {least:Int} (hl:1<=least) (h:¬ tgt (opK l)<least):8<=opK l/\opK l<=17:=by
 rcases op_bd l with h0|h0
 ·rw [h0] at h;exact absurd (show tgt 0<least from by show (0:Int)<least;omega) h
 ·exact h0
theorem tight_bd {k:Int} (h:8<=k/\k<=17):1<=tgt k/\tgt k<=6:=by
 unfold tgt
 repeat' split
 all_goals omega
theorem opL_bd (k:Int):1<=opL k/\opL k<=2:=by unfold opL;split <;> omega
theorem step_shp {f:Int->St->Option St} (hf:∀ n s s',1<=n->f n s=some s'->Shp s s') {s0 s s':St} (h0:Shp s0 s) {least:Int} (hl:1<=least) (ht:¬ tgt (opK s.1)<least) (h:stepF f s=some s'):Shp s0 s':=by
 obtain ⟨s1,h1,h2⟩:=bind_some h
 have ho:=op_ne hl ht
 have a:=hf _ _ _ (by have:=tight_bd ho;omega) h1
 obtain ⟨h4,rfl⟩:=put_some h2
 obtain ⟨M,hM,hb,hz⟩:=h0.nodes
 obtain ⟨N,hN,hb',hz'⟩:=a.nodes
 refine ⟨⟨M ++ (N ++ [(opK s.1,0,E0)]),?_,blk_two hb hb' (node_op _ (by omega)) ?_,?_⟩,fun _=>by simp only [List.length_append,List.length_singleton];omega,(a.rest.trans (List.drop_suffix _ _)).trans h0.rest⟩
 ·show s1.2 ++ _=_;rw [hN];show s.2 ++ N ++ _=_;rw [hM];simp
 ·show Stepx.takes (opK s.1)=2;unfold Stepx.takes;rw [if_neg (by omega),if_neg (by omega)]
 ·intro x hx
  rcases List.mem_append.1 hx with h|h
  ·exact hz x h
  ·rcases List.mem_append.1 h with h|h
   ·exact hz' x h
   ·rw [List.mem_singleton.1 h];exact Nat.zero_le _
theorem loop_shp {f:Int->St->Option St} (hf:∀ n s s',1<=n->f n s=some s'->Shp s s') {least:Int} (hl:1<=least) {s0:St}:∀ (n:Nat) (s s':St),s.1.length<=n->Shp s0 s->loopF f least s=some s'->Shp s0 s'
 | n,s,s',hn,h0,h=>by
  by_cases ht:tgt (opK s.1)<least
  ·rw [loop_stop ht] at h;cases h;exact h0
  ·cases hs:stepF f s with
   | none=>rw [loop_none ht hs] at h;cases h
   | some s1 =>
    by_cases hlt:s1.1.length<s.1.length
    ·rw [loop_go ht hs hlt] at h
     match n,hn with
     | 0,hn=>omega
     | n+1,hn=>exact loop_shp hf hl n s1 s' (by omega) (step_shp hf h0 hl ht hs) h
    ·rw [loopF,if_neg ht,hs] at h
     simp only [dif_neg hlt] at h
     cases h
theorem both_shp:∀ k,(∀ s s',val k s=some s'->Shp s s')/\(∀ n s s',1<=n->lev k n s=some s'->Shp s s')
 | 0=>⟨(fun s s' h=>by cases h),(fun n s s' _ h=>by cases h)⟩
 | k+1=>by
  have ih:=both_shp k
  have hv:∀ s s',val (k+1) s=some s'->Shp s s':=fun s s' h=>value_shp ih.1 (fun s s' h=>ih.2 1 s s' (by decide) h) h
  refine ⟨hv,fun n s s' hn h=>?_⟩
  rw [lev_succ] at h
  obtain ⟨s1,h1,h2⟩:=bind_some h
  have hv1:=hv _ _ h1
  clear h
  exact loop_shp ih.2 hn _ s1 s' (Nat.le_refl _) hv1 h2
theorem comp_some {k:Nat} {l:List UInt8} {L:List Stepx.Node} (h:comp k l=some L):lev k 1 (l,[])=some ([],L):=by
 unfold comp at h
 split at h
 ·rename_i L' h';cases h;exact h'
 ·cases h
theorem comp_right {k:Nat} {l:List UInt8} {L:List Stepx.Node} (h:comp k l=some L):Stepx.exprB L=true/\L.length<=30/\∀ x ∈ L,x.2.2.size<=16:=by
 have a:=(both_shp k).2 1 _ _ (by decide) (comp_some h)
 obtain ⟨M,hM,hb,hz⟩:=a.nodes
 have hM:L=M:=hM
 subst hM
 have hl:=a.most (Nat.zero_le _)
 refine ⟨?_,hl,hz⟩
 unfold Stepx.exprB
 have:=hb 0 [] (by decide)
 rw [List.append_nil] at this
 rw [this,decide_eq_true hl]
 rfl
end Prsl
namespace Prsm
open Prsp Prsl
def spc (c:UInt8):Bool:=[45,126,40,42,47,37,43,38,94,124,60,62].contains c
def sp (l:List UInt8):Nat:=l.countP spc
theorem sp_suf {a b:List UInt8} (h:a <:+ b):sp a<=sp b:=h.sublist.countP_le
theorem hd_cons {l:List UInt8} {c:Int} (h:hd l=c) (hc:c ≠ 0):∃ b r,l=b :: r/\(b.toNat:Int)=c:=by
 cases l with
 | nil=>exact absurd h.symm hc
 | cons b r=>exact ⟨b,r,rfl,h⟩
theorem sp_hd {l:List UInt8} {b:UInt8} (h:hd l=(b.toNat:Int)) (hb:b.toNat ≠ 0) (hs:spc b=true):sp l.tail<sp l:=by
 obtain ⟨b',r,rfl,e⟩:=hd_cons h (by omega)
 have:b'=b:=UInt8.toNat_inj.1 (by omega)
 subst this
 show sp r<List.countP spc (b' :: r)
 rw [List.countP_cons_of_pos hs]
 exact Nat.lt_succ_self _
theorem sp_op {l:List UInt8} (h:8<=opK l/\opK l<=17):sp (l.drop (opL (opK l)))<sp l:=by
 have key:sp l.tail<sp l:=by
  unfold opK at h
  split at h
  ·rename_i e
   exact sp_hd (b:=60) (by cases l with|nil=>cases e|cons b r=>cases r <;> simp at e;simp [hd,e]) (by decide) (by decide)
  split at h
  ·rename_i e
   exact sp_hd (b:=62) (by cases l with|nil=>cases e|cons b r=>cases r <;> simp at e;simp [hd,e]) (by decide) (by decide)
  split at h
  ·rename_i e;exact sp_hd (b:=42) e (by decide) (by decide)
  split at h
  ·rename_i e;exact sp_hd (b:=47) e (by decide) (by decide)
  split at h
  ·rename_i e;exact sp_hd (b:=37) e (by decide) (by decide)
  split at h
  ·rename_i e;exact sp_hd (b:=43) e (by decide) (by decide)
  split at h
  ·rename_i e;exact sp_hd (b:=45) e (by decide) (by decide)
  split at h
  ·rename_i e;exact sp_hd (b:=38) e (by decide) (by decide)
  split at h
  ·rename_i e;exact sp_hd (b:=94) e (by decide) (by decide)
  split at h
  ·rename_i e;exact sp_hd (b:=124) e (by decide) (by decide)
  ·omega
 have h1:l.drop (opL (opK l)) <:+ l.tail:=by
  have:=(opL_bd (opK l)).1
  rw [show opL (opK l)=1+(opL (opK l)-1) by omega,<- List.drop_drop,List.drop_one]
  exact List.drop_suffix _ _
 exact Nat.lt_of_le_of_lt (sp_suf h1) key
theorem br_congr {l l':St->Option St} {s:St} {N:Nat} (hl:∀ t,sp t.1<N->l t=l' t) (hs:hd s.1=40) (hN:sp s.1<=N):brF l s=brF l' s:=by
 unfold brF
 rw [hl _ (Nat.lt_of_lt_of_le (sp_hd (b:=40) hs (by decide) (by decide)) hN)]
theorem value_congr {v v' l l':St->Option St} {s:St} (hv:∀ t,sp t.1<sp s.1->v t=v' t) (hl:∀ t,sp t.1<sp s.1->l t=l' t):valueF v l s=valueF v' l' s:=by
 unfold valueF
 split
 ·rename_i e;rw [hv _ (sp_hd (b:=45) e (by decide) (by decide))]
 split
 ·rename_i e;rw [hv _ (sp_hd (b:=126) e (by decide) (by decide))]
 split
 ·rename_i e;exact br_congr hl e (Nat.le_refl _)
 ·unfold wordF
  split
  ·rfl
  split
  ·rename_i e;rw [br_congr (s:=(af s.1,s.2)) hl (of_decide_eq_true e).1 (sp_suf (af_suf _))]
  split
  ·rename_i e;rw [br_congr (s:=(af s.1,s.2)) hl (of_decide_eq_true e).1 (sp_suf (af_suf _))]
  ·rfl
theorem loop_congr {f f':Int->St->Option St} (hf:∀ n s s',1<=n->f n s=some s'->Shp s s') {least:Int} (hl:1<=least) {N:Nat} (h:∀ n t,1<=n->sp t.1<N->f n t=f' n t) :
  ∀ (m:Nat) (s:St),s.1.length<=m->sp s.1<=N->loopF f least s=loopF f' least s
 | m,s,hm,hN=>by
  by_cases ht:tgt (opK s.1)<least
  ·rw [loop_stop ht,loop_stop ht]
  ·have ho:=op_ne hl ht
   have e:stepF f s=stepF f' s:=by
    unfold stepF
    rw [h _ (s.1.drop (opL (opK s.1)),s.2) (by have:=tight_bd ho;omega) (Nat.lt_of_lt_of_le (sp_op ho) hN)]
   cases hs:stepF f s with
   | none =>
    have hs':stepF f' s=none:=e ▸ hs
    rw [loop_none ht hs,loop_none ht hs']
   | some s1 =>
    have hs':stepF f' s=some s1:=e ▸ hs
    by_cases hlt:s1.1.length<s.1.length
    ·rw [loop_go ht hs hlt,loop_go ht hs' hlt]
     match m,hm with
     | 0,hm=>omega
     | m+1,hm =>
      refine loop_congr hf hl h m s1 (by omega) (Nat.le_trans (sp_suf ?_) hN)
      obtain ⟨s2,h1,h2⟩:=bind_some hs
      have a:=hf _ _ _ (by have:=tight_bd ho;omega) h1
      obtain ⟨_,rfl⟩:=put_some h2
      exact a.rest.trans (List.drop_suffix _ _)
    ·rw [loopF,if_neg ht,hs,loopF,if_neg ht,hs']
     simp only [dif_neg hlt]
theorem more:∀ k,(∀ s,sp s.1<k->val k s=val (k+1) s)/\(∀ n s,1<=n->sp s.1<k->lev k n s=lev (k+1) n s)
 | 0=>⟨(fun s h=>absurd h (Nat.not_lt_zero _)),(fun n s _ h=>absurd h (Nat.not_lt_zero _))⟩
 | k+1=>by
  have ih:=more k
  have hv:∀ s,sp s.1<k+1->val (k+1) s=val (k+2) s:=fun s h=>by
   rw [val_succ,val_succ]
   exact value_congr (fun t ht=>ih.1 t (by omega)) (fun t ht=>ih.2 1 t (by decide) (by omega))
  refine ⟨hv,fun n s hn h=>?_⟩
  rw [lev_succ,lev_succ,<- hv s h]
  cases e:val (k+1) s with
  | none=>rfl
  | some s1 =>
   show loopF (lev k) n s1=loopF (lev (k+1)) n s1
   refine loop_congr (both_shp k).2 hn (N:=sp s.1) (fun n t h1 h2=>ih.2 n t h1 (by omega)) _ s1 (Nat.le_refl _) (sp_suf ((both_shp (k+1)).1 _ _ e).rest)
theorem comp_more {k:Nat} {l:List UInt8} (h:sp l<k):comp k l=comp (k+1) l:=by
 unfold comp
 rw [(more k).2 1 (l,[]) (by decide) h]
/- With something behind: nothing, or a closing bracket. -/
def Z (z:List UInt8):Prop:=z=[] \/ z=[41]
def ph (z:List UInt8) (s:St):St:=(s.1 ++ z,s.2)
theorem hd_z {z:List UInt8} (hz:Z z) {l:List UInt8} {c:Int} (h0:c ≠ 0) (h1:c ≠ 41):hd (l ++ z)=c ↔ hd l=c:=by
 cases l with
 | nil =>
  rcases hz with rfl|rfl
  ·exact Iff.rfl
  ·show (41:Int)=c ↔ (0:Int)=c
   constructor <;> intro h <;> omega
 | cons b r=>exact Iff.rfl
theorem tail_z {l z:List UInt8} {c:Int} (h:hd l=c) (h0:c ≠ 0):(l ++ z).tail=l.tail ++ z:=by
 obtain ⟨b,r,rfl,_⟩:=hd_cons h h0
 rfl
theorem wd_z {z:List UInt8} (hz:Z z):∀ l:List UInt8,wd (l ++ z)=wd l/\af (l ++ z)=af l ++ z
 | []=>by
  rcases hz with rfl|rfl
  ·exact ⟨rfl,rfl⟩
  ·exact ⟨by decide,by decide⟩
 | b :: r=>by
  have ih:=wd_z hz r
  unfold wd af at *
  cases hb:isW b with
  | true=>exact ⟨by rw [List.cons_append,List.takeWhile_cons,List.takeWhile_cons,hb];simp [ih.1],by rw [List.cons_append,List.dropWhile_cons,List.dropWhile_cons,hb];simp [ih.2]⟩
  | false=>exact ⟨by rw [List.cons_append,List.takeWhile_cons,List.takeWhile_cons,hb];simp,by rw [List.cons_append,List.dropWhile_cons,List.dropWhile_cons,hb];simp⟩
theorem put_z {z:List UInt8} {x:Stepx.Node} {s s':St} (h:put x s=some s'):put x (ph z s)=some (ph z s'):=by
 obtain ⟨h1,rfl⟩:=put_some h
 unfold put ph
 rw [if_pos h1]
theorem close_z {z:List UInt8} (hz:Z z) {s s':St} (h:close s=some s'):close (ph z s)=some (ph z s'):=by
 obtain ⟨h1,rfl⟩:=close_some h
 obtain ⟨b,r,e,hb⟩:=hd_cons h1 (by decide)
 unfold close ph
 rw [e]
 have:hd (b :: r ++ z)=41:=hb
 rw [if_pos this]
 rfl
theorem bind_z {z:List UInt8} {x y:Option St} {f g:St->Option St} {s':St} (hx:∀ a,x=some a->y=some (ph z a)) (hf:∀ a b,f a=some b->g (ph z a)=some (ph z b)) (h:x.bind f=some s'):y.bind g=some (ph z s'):=by
 obtain ⟨a,h1,h2⟩:=bind_some h
 rw [hx a h1]
 exact hf a s' h2
theorem leaf_z {z:List UInt8} {t:ByteArray} {s s':St} (h:leafF t s=some s'):leafF t (ph z s)=some (ph z s'):=by
 unfold leafF at *
 split at h
 ·exact put_z h
 ·split at h
  ·rename_i hn;rw [if_pos hn];exact put_z h
  ·cases h
theorem signed_z {z:List UInt8} (hz:Z z) (l:List UInt8):signed (l ++ z)=signed l:=by
 unfold signed
 simp only [hd_z hz (show (36:Int) ≠ 0 by decide) (show (36:Int) ≠ 41 by decide),hd_z hz (show (37:Int) ≠ 0 by decide) (show (37:Int) ≠ 41 by decide)]
theorem opens_z {z:List UInt8} (hz:Z z) (l t:List UInt8):opens (l ++ z) t=opens l t:=by
 unfold opens
 rw [(wd_z hz l).1,(wd_z hz l).2]
 simp only [hd_z hz (show (40:Int) ≠ 0 by decide) (show (40:Int) ≠ 41 by decide)]
def Sim (z:List UInt8) (f g:St->Option St):Prop:=∀ s s',f s=some s'->g (ph z s)=some (ph z s')
theorem br_z {z:List UInt8} (hz:Z z) {l l':St->Option St} (hl:Sim z l l') {s s':St} (h40:hd s.1=40) (h:brF l s=some s'):brF l' (ph z s)=some (ph z s'):=by
 unfold brF at *
 refine bind_z (fun a ha=>?_) (fun a b=>close_z hz) h
 have:=hl _ _ ha
 rw [<- this]
 show l' ((s.1 ++ z).tail,s.2)=l' (s.1.tail ++ z,s.2)
 rw [tail_z h40 (by decide)]
theorem word_z {z:List UInt8} (hz:Z z) {l l':St->Option St} (hl:Sim z l l'):Sim z (wordF l) (wordF l'):=by
 intro s s' h
 unfold wordF at h
 split at h
 ·rename_i e
  have e':signed (ph z s).1=true:=(signed_z hz s.1).trans e
  unfold wordF
  rw [if_pos e']
  have hx:=leaf_z (z:=z) h
  obtain ⟨b,r,e2,_⟩ : ∃ b r,s.1=b :: r/\True:=by
   rcases of_decide_eq_true e with h|h
   ·obtain ⟨b,r,e,_⟩:=hd_cons h (by decide);exact ⟨b,r,e,trivial⟩
   ·obtain ⟨b,r,e,_⟩:=hd_cons h (by decide);exact ⟨b,r,e,trivial⟩
  rw [<- hx]
  show leafF (bs ((s.1 ++ z).take 1 ++ wd (s.1 ++ z).tail)) (af (s.1 ++ z).tail,s.2)=_
  rw [e2]
  show leafF (bs ([b] ++ wd (r ++ z))) (af (r ++ z),s.2)=leafF (bs ([b] ++ wd r)) (af r ++ z,s.2)
  rw [(wd_z hz r).1,(wd_z hz r).2]
 ·rename_i e0
  have e0':¬ signed (ph z s).1=true:=by rw [show signed (ph z s).1=signed s.1 from signed_z hz s.1];exact e0
  have ea:(ph z (af s.1,s.2))=(af (s.1 ++ z),s.2):=by unfold ph;rw [(wd_z hz s.1).2]
  split at h
  ·rename_i e
   unfold wordF
   rw [if_neg e0',if_pos (show opens (ph z s).1 high=true from (opens_z hz s.1 high).trans e)]
   refine bind_z (fun a ha=>?_) (fun a b=>put_z) h
   have:=br_z hz hl (s:=(af s.1,s.2)) (of_decide_eq_true e).1 ha
   rwa [ea] at this
  ·rename_i e1
   have e1':¬ opens (ph z s).1 high=true:=by rw [show opens (ph z s).1 high=opens s.1 high from opens_z hz s.1 high];exact e1
   split at h
   ·rename_i e
    unfold wordF
    rw [if_neg e0',if_neg e1',if_pos (show opens (ph z s).1 low=true from (opens_z hz s.1 low).trans e)]
    refine bind_z (fun a ha=>?_) (fun a b=>put_z) h
    have:=br_z hz hl (s:=(af s.1,s.2)) (of_decide_eq_true e).1 ha
    rwa [ea] at this
   ·rename_i e2
    have e2':¬ opens (ph z s).1 low=true:=by rw [show opens (ph z s).1 low=opens s.1 low from opens_z hz s.1 low];exact e2
    split at h
    ·rename_i e
     unfold wordF
     rw [if_neg e0',if_neg e1',if_neg e2',if_pos (show opens (ph z s).1 bank=true from (opens_z hz s.1 bank).trans e)]
     have et:(af (s.1 ++ z)).tail=(af s.1).tail ++ z:=by rw [(wd_z hz s.1).2];exact tail_z (of_decide_eq_true e).1 (by decide)
     show bankF ((af (s.1 ++ z)).tail,s.2)=_
     rw [et]
     unfold bankF at h |-
     simp only [(wd_z hz _).1,(wd_z hz _).2]
     split at h
     ·rename_i hn
      rw [if_pos hn]
      exact bind_z (fun a ha=>put_z (s:=(af (af s.1).tail,s.2)) ha) (fun a b=>close_z hz) h
     ·cases h
    ·rename_i e3
     have e3':¬ opens (ph z s).1 bank=true:=by rw [show opens (ph z s).1 bank=opens s.1 bank from opens_z hz s.1 bank];exact e3
     unfold wordF
     rw [if_neg e0',if_neg e1',if_neg e2',if_neg e3']
     show leafF (bs (wd (s.1 ++ z))) (af (s.1 ++ z),s.2)=_
     rw [(wd_z hz s.1).1,(wd_z hz s.1).2]
     exact leaf_z (s:=(af s.1,s.2)) h
theorem value_z {z:List UInt8} (hz:Z z) {v v' l l':St->Option St} (hv:Sim z v v') (hl:Sim z l l'):Sim z (valueF v l) (valueF v' l'):=by
 intro s s' h
 have t:∀ c:Int,c ≠ 0->c ≠ 41->(hd (ph z s).1=c ↔ hd s.1=c):=fun c h0 h1=>hd_z hz h0 h1
 unfold valueF at h
 split at h
 ·rename_i e
  unfold valueF
  rw [if_pos ((t 45 (by decide) (by decide)).2 e)]
  refine bind_z (fun a ha=>?_) (fun a b=>put_z) h
  rw [<- hv _ _ ha]
  show v' ((s.1 ++ z).tail,s.2)=v' (s.1.tail ++ z,s.2)
  rw [tail_z e (by decide)]
 rename_i e0
 split at h
 ·rename_i e
  unfold valueF
  rw [if_neg (fun h=>e0 ((t 45 (by decide) (by decide)).1 h)),if_pos ((t 126 (by decide) (by decide)).2 e)]
  refine bind_z (fun a ha=>?_) (fun a b=>put_z) h
  rw [<- hv _ _ ha]
  show v' ((s.1 ++ z).tail,s.2)=v' (s.1.tail ++ z,s.2)
  rw [tail_z e (by decide)]
 rename_i e1
 split at h
 ·rename_i e
  unfold valueF
  rw [if_neg (fun h=>e0 ((t 45 (by decide) (by decide)).1 h)),if_neg (fun h=>e1 ((t 126 (by decide) (by decide)).1 h)),if_pos ((t 40 (by decide) (by decide)).2 e)]
  exact br_z hz hl e h
 rename_i e2
 unfold valueF
 rw [if_neg (fun h=>e0 ((t 45 (by decide) (by decide)).1 h)),if_neg (fun h=>e1 ((t 126 (by decide) (by decide)).1 h)),if_neg (fun h=>e2 ((t 40 (by decide) (by decide)).1 h))]
 exact word_z hz hl s s' h
theorem op_z {z:List UInt8} (hz:Z z) (l:List UInt8):opK (l ++ z)=opK l:=by
 have t:∀ c:Int,c ≠ 0->c ≠ 41->(hd (l ++ z)=c ↔ hd l=c):=fun c h0 h1=>hd_z hz h0 h1
 have q:∀ c:UInt8,c ≠ 41->((l ++ z).take 2=[c,c] ↔ l.take 2=[c,c]):=fun c hc=>by
  rcases hz with rfl|rfl
  ·rw [List.append_nil]
  ·match l with
   | []=>simp
   | [a]=>simp;intro _ h;exact hc h.symm
   | a :: b :: r=>simp
 unfold opK
 simp only [q 60 (by decide),q 62 (by decide),t 42 (by decide) (by decide),t 47 (by decide) (by decide),t 37 (by decide) (by decide),t 43 (by decide) (by decide),t 45 (by decide) (by decide),t 38 (by decide) (by decide),t 94 (by decide) (by decide),t 124 (by decide) (by decide)]
theorem op_len {l:List UInt8} (h:8<=opK l):opL (opK l)<=l.length:=by
 have hb:=(opL_bd (opK l)).2
 unfold opK at h |-
 cases l with
 | nil=>simp [hd] at h
 | cons a r =>
  split
  ·rename_i e;cases r with
   | nil=>simp at e
   | cons b r=>simp [opL]
  split
  ·rename_i e;cases r with
   | nil=>simp at e
   | cons b r=>simp [opL]
  repeat' split
  all_goals simp [opL]
theorem step_z {z:List UInt8} (hz:Z z) {f f':Int->St->Option St} (hf:∀ n,1<=n->Sim z (f n) (f' n)) {s s':St} (ho:8<=opK s.1/\opK s.1<=17) (h:stepF f s=some s'):stepF f' (ph z s)=some (ph z s'):=by
 unfold stepF at *
 rw [show opK (ph z s).1=opK s.1 from op_z hz s.1]
 refine bind_z (fun a ha=>?_) (fun a b=>put_z) h
 have:=hf _ (by have:=tight_bd ho;omega) _ _ ha
 rw [<- this]
 show f' _ ((s.1 ++ z).drop _,s.2)=f' _ (s.1.drop _ ++ z,s.2)
 rw [List.drop_append_of_le_length (op_len ho.1)]
theorem loop_z {z:List UInt8} (hz:Z z) {f f':Int->St->Option St} (hf:∀ n,1<=n->Sim z (f n) (f' n)) {least:Int} (hl:1<=least) :
  ∀ (m:Nat) (s s':St),s.1.length<=m->loopF f least s=some s'->loopF f' least (ph z s)=some (ph z s')
 | m,s,s',hm,h=>by
  by_cases ht:tgt (opK s.1)<least
  ·rw [loop_stop ht] at h
   cases h
   rw [loop_stop (by rw [show opK (ph z s).1=opK s.1 from op_z hz s.1];exact ht)]
  ·have ho:=op_ne hl ht
   have ht':¬ tgt (opK (ph z s).1)<least:=by rw [show opK (ph z s).1=opK s.1 from op_z hz s.1];exact ht
   cases hs:stepF f s with
   | none=>rw [loop_none ht hs] at h;cases h
   | some s1 =>
    by_cases hlt:s1.1.length<s.1.length
    ·rw [loop_go ht hs hlt] at h
     rw [loop_go ht' (step_z hz hf ho hs) (show (s1.1 ++ z).length<(s.1 ++ z).length by simp only [List.length_append];omega)]
     match m,hm with
     | 0,hm=>omega
     | m+1,hm=>exact loop_z hz hf hl m s1 s' (by omega) h
    ·rw [loopF,if_neg ht,hs] at h
     simp only [dif_neg hlt] at h
     cases h
theorem grow {z:List UInt8} (hz:Z z):∀ k m,k<=m->Sim z (val k) (val m)/\∀ n,1<=n->Sim z (lev k n) (lev m n)
 | 0,m,_=>⟨(fun s s' h=>by cases h),(fun n _ s s' h=>by cases h)⟩
 | k+1,0,h=>absurd h (by omega)
 | k+1,m+1,h=>by
  have ih:=grow hz k m (by omega)
  have hv:Sim z (val (k+1)) (val (m+1)):=value_z hz ih.1 (ih.2 1 (by decide))
  refine ⟨hv,fun n hn s s' hs=>?_⟩
  rw [lev_succ] at hs |-
  exact bind_z (fun a ha=>hv s a ha) (fun a b hab=>loop_z hz ih.2 hn _ a b (Nat.le_refl _) hab) hs
theorem loop_nil {f:Int->St->Option St} {L:List Stepx.Node}:loopF f 1 ([],L)=some ([],L):=loop_stop (show tgt (opK [])<1 by decide)
end Prsm
end Go.Proofs.YtbofcepdckpkkaaGreatDoor
