import Derived.Test.YtickfkphhngagaaGreatDoorP06
import Derived.Deep.Cut
import Derived.Laws.Rows
import Derived.Laws.Tables
import Derived.Laws.CopyOwn
set_option linter.all false
set_option maxRecDepth 20000
set_option maxHeartbeats 8000000
open Go.ChangeShapes Go.WideShapes Go.ChangeAt Go.RowKit
open Go.Proofs.Tryz
namespace Go.Proofs.YtickfkphhngagaaGreatDoor
namespace Nodm
open Go.Deep
open Go.Proofs.YtickfkphhngagaaGreatDoor.Stepx (Nodes)
def cellsOf (L:List Stepx.Node):List Value:=L.flatMap fun x=>[.int .i64 x.1,.int .i64 x.2.1,.string x.2.2]
theorem cells_len (L:List Stepx.Node):(cellsOf L).length=L.length*3:=by
 unfold cellsOf
 induction L with
 | nil=>rfl
 | cons x L ih=>rw [List.flatMap_cons,List.length_append,ih,List.length_cons];simp;omega
theorem cells_snoc (L:List Stepx.Node) (x:Stepx.Node):cellsOf (L ++ [x])=cellsOf L ++ [.int .i64 x.1,.int .i64 x.2.1,.string x.2.2]:=by
 unfold cellsOf;rw [List.flatMap_append];rfl
theorem cells_at:∀ (L:List Stepx.Node) (i:Nat) (h:i<L.length),(cellsOf L)[i*3]? = some (.int .i64 L[i].1)/\(cellsOf L)[i*3+1]? = some (.int .i64 L[i].2.1)/\(cellsOf L)[i*3+2]? = some (.string L[i].2.2)
 | [],i,h=>absurd h (Nat.not_lt_zero _)
 | x :: L,0,_=>⟨rfl,rfl,rfl⟩
 | x :: L,i+1,h=>by
  have ih:=cells_at L i (by simpa using h)
  have e:cellsOf (x :: L)=.int .i64 x.1 :: .int .i64 x.2.1 :: .string x.2.2 :: cellsOf L:=rfl
  rw [e,show (i+1)*3=i*3+1+1+1 by omega]
  simp only [List.getElem?_cons_succ,List.getElem_cons_succ]
  exact ih
abbrev Own (w:World) (base:Nat) (v:Value) (L:List Stepx.Node):Prop:=w.ownsRow base 122 3 v L.length (cellsOf L)
theorem nodes_own {w:World} {base:Nat} {a:Option Addr} {n cap:Nat} {L:List Stepx.Node} (h:Own w base (.slice a n cap) L) (hz:∀ x ∈ L,x.2.2.size<=1048576):Nodes w a L:=by
 rcases h.2 with ⟨hv,h0⟩|⟨g,c,cur,hv,hb,hg,hn,hm,hs,ht⟩
 ·exact .inl (List.length_eq_zero_iff.1 h0)
 ·cases hv
  have hl:=(h.lt g rfl).2
  refine .inr ⟨g,0,rfl,hl,fun i hi=>?_⟩
  have hc:=h.cellAt
  obtain ⟨a1,a2,a3⟩:=cells_at L i hi
  rw [Nat.zero_add]
  refine ⟨(hc (i*3) (by omega)).trans a1,(hc (i*3+1) (by omega)).trans a2,(hc (i*3+2) (by omega)).trans a3,?_⟩
  have:=hz L[i] (List.getElem_mem hi)
  unfold maxLen;omega
theorem own_below {w w1:World} {base:Nat} {v:Value} {L:List Stepx.Node} (h:Own w base v L) (hb:Below w.heap.size w w1):Own w1 base v L :=
 h.kept (row:=none) ⟨hb.os,hb.tape,hb.output,hb.size,fun k hk _=>hb.block k hk⟩ (by cases hv:Value.ownBlock v <;> simp)
theorem one_size (x:Int):(strOfNums [x]).size=1:=strOfNums_size _
theorem cat_size (x:Int) (t:ByteArray):(strOfNums [x] ++ t).size=t.size+1:=by rw [ByteArray.size_append,one_size];omega
theorem grown_of_below {w w1:World} (hb:Below w.heap.size w w1) (row:Option Nat):w.grownBy w1 row:=⟨hb.os,hb.tape,hb.output,hb.size,fun k hk _=>hb.block k hk⟩
theorem own_belowG {w w1:World} {base:Nat} {e:TypeId} {size:Nat} {v:Value} {n:Nat} {xs:List Value} (h:w.ownsRow base e size v n xs) (hb:Below w.heap.size w w1):w1.ownsRow base e size v n xs :=
 h.kept (grown_of_below hb none) (by cases hv:Value.ownBlock v <;> simp)
theorem grown_set (w:World) (g i:Nat) (u:Value):w.grownBy (w.setCell ⟨g,i,none⟩ u) (some g) :=
 ⟨rfl,rfl,rfl,by simp [World.setCell],fun k _ hk=>Below.heap_setCell _ _ _ _ (fun e=>hk (by rw [e]))⟩
theorem cells_app (P R:List Stepx.Node):cellsOf (P ++ R)=cellsOf P ++ cellsOf R:=by unfold cellsOf;rw [List.flatMap_append]
end Nodm
namespace Nodw
open Go.Deep
open Go.Proofs.YtickfkphhngagaaGreatDoor.Stepx (Nodes)
open Mirror (left)
def Row (N:Nat) (w:World) (a:Option Addr) (L:List Stepx.Node):Prop:=Nodes w a L/\(L=[] \/ ∃ p:Addr,a=some p/\N<=p.block)
theorem Row.kept {N:Nat} {w w':World} {a:Option Addr} {L:List Stepx.Node} (h:Row N w a L) (hk:∀ k,N<=k->k<w.heap.size->w'.heap[k]? = w.heap[k]?) (hs:w.heap.size<=w'.heap.size):Row N w' a L:=by
 rcases h with ⟨h|⟨b,off,rfl,hl,hc⟩,hn|⟨p,hp,hN⟩⟩
 ·exact ⟨.inl h,.inl hn⟩
 ·exact ⟨.inl h,.inl h⟩
 ·exact ⟨.inl hn,.inl hn⟩
 ·cases hp
  refine ⟨.inr ⟨b,off,rfl,Nat.lt_of_lt_of_le hl hs,fun i hi=>?_⟩,.inr ⟨_,rfl,hN⟩⟩
  have e:∀ i,w'.cell? ⟨b,i,none⟩=w.cell? ⟨b,i,none⟩:=fun i=>World.cell?_of_block (a:=⟨b,i,none⟩) (hk b hN hl)
  obtain ⟨d0,d1,d2,d3⟩:=hc i hi
  exact ⟨(e _).trans d0,(e _).trans d1,(e _).trans d2,d3⟩
theorem Row.mono {N N':Nat} {w:World} {a:Option Addr} {L:List Stepx.Node} (h:Row N w a L) (hN:N'<=N):Row N' w a L :=
 ⟨h.1,h.2.imp id fun ⟨p,hp,h2⟩=>⟨p,hp,Nat.le_trans hN h2⟩⟩
theorem Row.below {N:Nat} {w w':World} {a:Option Addr} {L:List Stepx.Node} (h:Row N w a L) (hb:Below w.heap.size w w'):Row N w' a L:=h.kept (fun k _ hk=>hb.block k hk) hb.size
def Small (L:List Stepx.Node):Prop:=L.length<=1048576
end Nodw
namespace Patr
open Go.Deep
structure X where
 f0:Int
 f1:Int
 f2:List Stepx.Node
instance:Inhabited X:=⟨⟨0,0,[]⟩⟩
def Has (N:Nat) (w:World) (x:X) (a2:Option Addr):Prop:=Nodw.Row N w a2 x.f2/\x.f2.length<=maxLen
theorem Has.kept {N:Nat} {w w':World} {x:X} {a2:Option Addr} (h:Has N w x a2) (hk:∀ k,N<=k->k<w.heap.size->w'.heap[k]? = w.heap[k]?) (hs:w.heap.size<=w'.heap.size):Has N w' x a2:=by
 obtain ⟨h2,z2⟩:=h
 exact ⟨h2.kept hk hs,z2⟩
theorem Has.mono {N N':Nat} {w:World} {x:X} {a2:Option Addr} (h:Has N w x a2) (hN:N'<=N):Has N' w x a2:=by
 obtain ⟨h2,z2⟩:=h
 exact ⟨h2.mono hN,z2⟩
theorem Has.below {N:Nat} {w w':World} {x:X} {a2:Option Addr} (h:Has N w x a2) (hb:Below w.heap.size w w'):Has N w' x a2:=h.kept (fun k _ hk=>hb.block k hk) hb.size
def At (N:Nat) (w:World) (b o:Nat) (x:X):Prop:=∃ a2 c2,w.cell? ⟨b,o,none⟩=some (.int .i64 x.f0)/\w.cell? ⟨b,o+1,none⟩=some (.int .i64 x.f1)/\w.cell? ⟨b,o+2,none⟩=some (.slice a2 x.f2.length c2)/\Has N w x a2
theorem At.kept {N:Nat} {w w':World} {b o:Nat} {x:X} (h:At N w b o x) (hb:w'.heap[b]? = w.heap[b]?) (hk:∀ k,N<=k->k<w.heap.size->w'.heap[k]? = w.heap[k]?) (hs:w.heap.size<=w'.heap.size):At N w' b o x:=by
 obtain ⟨a2,c2,d0,d1,d2,hh⟩:=h
 have e:∀ i,w'.cell? ⟨b,i,none⟩=w.cell? ⟨b,i,none⟩:=fun i=>World.cell?_of_block (a:=⟨b,i,none⟩) hb
 exact ⟨a2,c2,(e _).trans d0,(e _).trans d1,(e _).trans d2,hh.kept hk hs⟩
def Row (N:Nat) (w:World) (a:Option Addr) (L:List X):Prop :=
 L=[] \/ ∃ b off,a=some ⟨b,off,none⟩/\N<=b/\b<w.heap.size/\∀ i (h:i<L.length),At N w b (off+i*3) L[i]
theorem Row.kept {N:Nat} {w w':World} {a:Option Addr} {L:List X} (h:Row N w a L) (hk:∀ k,N<=k->k<w.heap.size->w'.heap[k]? = w.heap[k]?) (hs:w.heap.size<=w'.heap.size):Row N w' a L:=by
 rcases h with h|⟨b,off,ha,hN,hl,hc⟩
 ·exact .inl h
 ·exact .inr ⟨b,off,ha,hN,Nat.lt_of_lt_of_le hl hs,fun i hi=>(hc i hi).kept (hk b hN hl) hk hs⟩
theorem Row.mono {N N':Nat} {w:World} {a:Option Addr} {L:List X} (h:Row N w a L) (hN:N'<=N):Row N' w a L:=by
 rcases h with h|⟨b,off,ha,hNb,hl,hc⟩
 ·exact .inl h
 ·exact .inr ⟨b,off,ha,by omega,hl,fun i hi=>by obtain ⟨a2,c2,d0,d1,d2,hh⟩:=hc i hi;exact ⟨a2,c2,d0,d1,d2,hh.mono hN⟩⟩
theorem Row.below {N:Nat} {w w':World} {a:Option Addr} {L:List X} (h:Row N w a L) (hb:Below w.heap.size w w'):Row N w' a L:=h.kept (fun k _ hk=>hb.block k hk) hb.size
def SmallX (x:X):Prop:=Nodw.Small x.f2
def Small (L:List X):Prop:=L.length<=1048576/\∀ i (h:i<L.length),SmallX L[i]
def Part (W:World) (B len:Nat) (L:List X) (k:Nat):Prop :=
 (∀ i (h:i<L.length),i<k->At (B+1) W B (i*3) L[i])/\(∀ j,j<len*3->∃ u,W.cell? ⟨B,j,none⟩=some u)/\(∀ j,W.frozen? ⟨B,j,none⟩=false)/\B<W.heap.size
theorem Part.kept {W W':World} {B len k:Nat} {L:List X} (h:Part W B len L k) (hb:Below W.heap.size W W'):Part W' B len L k:=by
 have hB:=hb.block B h.2.2.2
 refine ⟨fun i hi hk=>(h.1 i hi hk).kept hB (fun j _ hj=>hb.block j hj) hb.size,fun j hj=>?_,fun j=>?_,Nat.lt_of_lt_of_le h.2.2.2 hb.size⟩
 ·rw [World.cell?_of_block (a:=⟨B,j,none⟩) hB];exact h.2.1 j hj
 ·rw [World.frozen?_of_block (a:=⟨B,j,none⟩) hB];exact h.2.2.1 j
theorem Part.set {W:World} {B len k o:Nat} {L:List X} (h:Part W B len L k) (ho:k*3<=o) (v:Value):Part (W.setCell ⟨B,o,none⟩ v) B len L k:=by
 have ne:∀ i,i ≠ o->(W.setCell ⟨B,o,none⟩ v).cell? ⟨B,i,none⟩=W.cell? ⟨B,i,none⟩:=fun i hi=>World.cell?_setCell_other W _ _ _ (fun e=>hi (by have:=congrArg Addr.off e;exact this.symm))
 have hko:∀ j,B+1<=j->j<W.heap.size->(W.setCell ⟨B,o,none⟩ v).heap[j]? = W.heap[j]?:=fun j hj _=>Below.heap_setCell _ _ _ _ (by simp;omega)
 refine ⟨fun i hi hk=>?_,fun j hj=>?_,fun j=>?_,?_⟩
 ·obtain ⟨a2,c2,d0,d1,d2,hh⟩:=h.1 i hi hk
  have hlt:i*3+2<o:=by have:(i+1)*3<=k*3:=Nat.mul_le_mul_right _ hk;omega
  exact ⟨a2,c2,(ne _ (by omega)).trans d0,(ne _ (by omega)).trans d1,(ne _ (by omega)).trans d2,hh.kept hko (by rw [World.size_setCell];exact Nat.le_refl _)⟩
 ·by_cases e:j=o
  ·subst e
   obtain ⟨u,hu⟩:=h.2.1 j hj
   exact ⟨v,World.cell?_setCell_same W _ _ hu⟩
  ·rw [ne j e];exact h.2.1 j hj
 ·rw [World.frozen?_setCell];exact h.2.2.1 j
 ·rw [World.size_setCell];exact h.2.2.2
theorem Part.store {W:World} {B len k:Nat} {L:List X} (h:Part W B len L k) (hk:k<len) (hkL:k<L.length) (a2:Option Addr) (c2:Nat) (hh:Has (B+1) W L[k] a2):Part (((W.setCell ⟨B,k*3,none⟩ (.int .i64 L[k].f0)).setCell ⟨B,k*3+1,none⟩ (.int .i64 L[k].f1)).setCell ⟨B,k*3+2,none⟩ (.slice a2 L[k].f2.length c2)) B len L (k+1):=by
 have h1:=h.set (o:=k*3) (by omega) (.int .i64 L[k].f0)
 have h2:=h1.set (o:=k*3+1) (by omega) (.int .i64 L[k].f1)
 have h3:=h2.set (o:=k*3+2) (by omega) (.slice a2 L[k].f2.length c2)
 refine ⟨fun i hi hik=>?_,h3.2.1,h3.2.2.1,h3.2.2.2⟩
 by_cases e:i=k
 ·subst e
  obtain ⟨u0,hu0⟩:=h.2.1 (i*3) (by omega)
  obtain ⟨u1,hu1⟩:=h1.2.1 (i*3+1) (by omega)
  obtain ⟨u2,hu2⟩:=h2.2.1 (i*3+2) (by omega)
  refine ⟨a2,c2,?_,?_,?_,?_⟩
  ·rw [World.cell?_setCell_other _ _ _ _ (by simp),World.cell?_setCell_other _ _ _ _ (by simp)];exact World.cell?_setCell_same _ _ _ hu0
  ·rw [World.cell?_setCell_other _ _ _ _ (by simp)];exact World.cell?_setCell_same _ _ _ hu1
  ·exact World.cell?_setCell_same _ _ _ hu2
  ·refine hh.kept (fun j hj _=>?_) (by simp only [World.size_setCell];exact Nat.le_refl _)
   rw [Below.heap_setCell _ _ _ _ (by simp;omega),Below.heap_setCell _ _ _ _ (by simp;omega),Below.heap_setCell _ _ _ _ (by simp;omega)]
 ·exact h3.1 i hi (by omega)
theorem Part.made (w:World) (len:Nat) (L:List X) (z:Array Value) (t:TypeId):Part (w.alloc (.cells (madeCells z (len*3)) t)) w.heap.size len L 0:=by
 refine ⟨fun i _ h=>absurd h (Nat.not_lt_zero _),fun j hj=>?_,fun j=>?_,by simp⟩
 ·rw [World.cell?_alloc_new]
  exact ⟨_,Array.getElem?_eq_getElem (by rw [size_madeCells];exact hj)⟩
 ·exact World.frozen?_alloc_at _ _ _ _ rfl
theorem info_parts {P:Program} {t:TypeId} {z:Value} {s b:Nat} (h:(P.info? t).map (fun i=>(i.zero,i.size,i.bytes))=some (some z,s,b)):∃ i,P.info? t=some i/\i.zero=some z/\i.size=s/\i.bytes=b:=by
 cases e:P.info? t with
 | none=>rw [e] at h;cases h
 | some i =>
  rw [e] at h
  simp only [Option.map_some,Option.some.injEq,Prod.mk.injEq] at h
  exact ⟨i,rfl,h.1,h.2.1,h.2.2⟩
end Patr
namespace Secr
open Go.Deep
structure X where
 f0:ByteArray
 f1:Int
 f2:Int
 f3:Int
 f4:ByteArray
 f5:List Patr.X
instance:Inhabited X:=⟨⟨⟨#[]⟩,0,0,0,⟨#[]⟩,[]⟩⟩
def Has (N:Nat) (w:World) (x:X) (a5:Option Addr):Prop:=Patr.Row N w a5 x.f5/\x.f5.length<=maxLen/\x.f0.size<=maxLen/\x.f4.size<=maxLen
theorem Has.kept {N:Nat} {w w':World} {x:X} {a5:Option Addr} (h:Has N w x a5) (hk:∀ k,N<=k->k<w.heap.size->w'.heap[k]? = w.heap[k]?) (hs:w.heap.size<=w'.heap.size):Has N w' x a5:=by
 obtain ⟨h5,z5,z0,z4⟩:=h
 exact ⟨h5.kept hk hs,z5,z0,z4⟩
theorem Has.mono {N N':Nat} {w:World} {x:X} {a5:Option Addr} (h:Has N w x a5) (hN:N'<=N):Has N' w x a5:=by
 obtain ⟨h5,z5,z0,z4⟩:=h
 exact ⟨h5.mono hN,z5,z0,z4⟩
theorem Has.below {N:Nat} {w w':World} {x:X} {a5:Option Addr} (h:Has N w x a5) (hb:Below w.heap.size w w'):Has N w' x a5:=h.kept (fun k _ hk=>hb.block k hk) hb.size
def At (N:Nat) (w:World) (b o:Nat) (x:X):Prop:=∃ a5 c5,w.cell? ⟨b,o,none⟩=some (.string x.f0)/\w.cell? ⟨b,o+1,none⟩=some (.int .i64 x.f1)/\w.cell? ⟨b,o+2,none⟩=some (.int .i64 x.f2)/\w.cell? ⟨b,o+3,none⟩=some (.int .i64 x.f3)/\w.cell? ⟨b,o+4,none⟩=some (.string x.f4)/\w.cell? ⟨b,o+5,none⟩=some (.slice a5 x.f5.length c5)/\Has N w x a5
theorem At.kept {N:Nat} {w w':World} {b o:Nat} {x:X} (h:At N w b o x) (hb:w'.heap[b]? = w.heap[b]?) (hk:∀ k,N<=k->k<w.heap.size->w'.heap[k]? = w.heap[k]?) (hs:w.heap.size<=w'.heap.size):At N w' b o x:=by
 obtain ⟨a5,c5,d0,d1,d2,d3,d4,d5,hh⟩:=h
 have e:∀ i,w'.cell? ⟨b,i,none⟩=w.cell? ⟨b,i,none⟩:=fun i=>World.cell?_of_block (a:=⟨b,i,none⟩) hb
 exact ⟨a5,c5,(e _).trans d0,(e _).trans d1,(e _).trans d2,(e _).trans d3,(e _).trans d4,(e _).trans d5,hh.kept hk hs⟩
def Row (N:Nat) (w:World) (a:Option Addr) (L:List X):Prop :=
 L=[] \/ ∃ b off,a=some ⟨b,off,none⟩/\N<=b/\b<w.heap.size/\∀ i (h:i<L.length),At N w b (off+i*6) L[i]
theorem Row.kept {N:Nat} {w w':World} {a:Option Addr} {L:List X} (h:Row N w a L) (hk:∀ k,N<=k->k<w.heap.size->w'.heap[k]? = w.heap[k]?) (hs:w.heap.size<=w'.heap.size):Row N w' a L:=by
 rcases h with h|⟨b,off,ha,hN,hl,hc⟩
 ·exact .inl h
 ·exact .inr ⟨b,off,ha,hN,Nat.lt_of_lt_of_le hl hs,fun i hi=>(hc i hi).kept (hk b hN hl) hk hs⟩
theorem Row.mono {N N':Nat} {w:World} {a:Option Addr} {L:List X} (h:Row N w a L) (hN:N'<=N):Row N' w a L:=by
 rcases h with h|⟨b,off,ha,hNb,hl,hc⟩
 ·exact .inl h
 ·exact .inr ⟨b,off,ha,by omega,hl,fun i hi=>by obtain ⟨a5,c5,d0,d1,d2,d3,d4,d5,hh⟩:=hc i hi;exact ⟨a5,c5,d0,d1,d2,d3,d4,d5,hh.mono hN⟩⟩
theorem Row.below {N:Nat} {w w':World} {a:Option Addr} {L:List X} (h:Row N w a L) (hb:Below w.heap.size w w'):Row N w' a L:=h.kept (fun k _ hk=>hb.block k hk) hb.size
def SmallX (x:X):Prop:=Patr.Small x.f5/\x.f0.size<=1048576/\x.f4.size<=1048576
def Small (L:List X):Prop:=L.length<=1048576/\∀ i (h:i<L.length),SmallX L[i]
def Part (W:World) (B len:Nat) (L:List X) (k:Nat):Prop :=
 (∀ i (h:i<L.length),i<k->At (B+1) W B (i*6) L[i])/\(∀ j,j<len*6->∃ u,W.cell? ⟨B,j,none⟩=some u)/\(∀ j,W.frozen? ⟨B,j,none⟩=false)/\B<W.heap.size
theorem Part.kept {W W':World} {B len k:Nat} {L:List X} (h:Part W B len L k) (hb:Below W.heap.size W W'):Part W' B len L k:=by
 have hB:=hb.block B h.2.2.2
 refine ⟨fun i hi hk=>(h.1 i hi hk).kept hB (fun j _ hj=>hb.block j hj) hb.size,fun j hj=>?_,fun j=>?_,Nat.lt_of_lt_of_le h.2.2.2 hb.size⟩
 ·rw [World.cell?_of_block (a:=⟨B,j,none⟩) hB];exact h.2.1 j hj
 ·rw [World.frozen?_of_block (a:=⟨B,j,none⟩) hB];exact h.2.2.1 j
theorem Part.set {W:World} {B len k o:Nat} {L:List X} (h:Part W B len L k) (ho:k*6<=o) (v:Value):Part (W.setCell ⟨B,o,none⟩ v) B len L k:=by
 have ne:∀ i,i ≠ o->(W.setCell ⟨B,o,none⟩ v).cell? ⟨B,i,none⟩=W.cell? ⟨B,i,none⟩:=fun i hi=>World.cell?_setCell_other W _ _ _ (fun e=>hi (by have:=congrArg Addr.off e;exact this.symm))
 have hko:∀ j,B+1<=j->j<W.heap.size->(W.setCell ⟨B,o,none⟩ v).heap[j]? = W.heap[j]?:=fun j hj _=>Below.heap_setCell _ _ _ _ (by simp;omega)
 refine ⟨fun i hi hk=>?_,fun j hj=>?_,fun j=>?_,?_⟩
 ·obtain ⟨a5,c5,d0,d1,d2,d3,d4,d5,hh⟩:=h.1 i hi hk
  have hlt:i*6+5<o:=by have:(i+1)*6<=k*6:=Nat.mul_le_mul_right _ hk;omega
  exact ⟨a5,c5,(ne _ (by omega)).trans d0,(ne _ (by omega)).trans d1,(ne _ (by omega)).trans d2,(ne _ (by omega)).trans d3,(ne _ (by omega)).trans d4,(ne _ (by omega)).trans d5,hh.kept hko (by rw [World.size_setCell];exact Nat.le_refl _)⟩
 ·by_cases e:j=o
  ·subst e
   obtain ⟨u,hu⟩:=h.2.1 j hj
   exact ⟨v,World.cell?_setCell_same W _ _ hu⟩
  ·rw [ne j e];exact h.2.1 j hj
 ·rw [World.frozen?_setCell];exact h.2.2.1 j
 ·rw [World.size_setCell];exact h.2.2.2
theorem Part.store {W:World} {B len k:Nat} {L:List X} (h:Part W B len L k) (hk:k<len) (hkL:k<L.length) (a5:Option Addr) (c5:Nat) (hh:Has (B+1) W L[k] a5):Part ((((((W.setCell ⟨B,k*6,none⟩ (.string L[k].f0)).setCell ⟨B,k*6+1,none⟩ (.int .i64 L[k].f1)).setCell ⟨B,k*6+2,none⟩ (.int .i64 L[k].f2)).setCell ⟨B,k*6+3,none⟩ (.int .i64 L[k].f3)).setCell ⟨B,k*6+4,none⟩ (.string L[k].f4)).setCell ⟨B,k*6+5,none⟩ (.slice a5 L[k].f5.length c5)) B len L (k+1):=by
 have h1:=h.set (o:=k*6) (by omega) (.string L[k].f0)
 have h2:=h1.set (o:=k*6+1) (by omega) (.int .i64 L[k].f1)
 have h3:=h2.set (o:=k*6+2) (by omega) (.int .i64 L[k].f2)
 have h4:=h3.set (o:=k*6+3) (by omega) (.int .i64 L[k].f3)
 have h5:=h4.set (o:=k*6+4) (by omega) (.string L[k].f4)
 have h6:=h5.set (o:=k*6+5) (by omega) (.slice a5 L[k].f5.length c5)
 refine ⟨fun i hi hik=>?_,h6.2.1,h6.2.2.1,h6.2.2.2⟩
 by_cases e:i=k
 ·subst e
  obtain ⟨u0,hu0⟩:=h.2.1 (i*6) (by omega)
  obtain ⟨u1,hu1⟩:=h1.2.1 (i*6+1) (by omega)
  obtain ⟨u2,hu2⟩:=h2.2.1 (i*6+2) (by omega)
  obtain ⟨u3,hu3⟩:=h3.2.1 (i*6+3) (by omega)
  obtain ⟨u4,hu4⟩:=h4.2.1 (i*6+4) (by omega)
  obtain ⟨u5,hu5⟩:=h5.2.1 (i*6+5) (by omega)
  refine ⟨a5,c5,?_,?_,?_,?_,?_,?_,?_⟩
  ·rw [World.cell?_setCell_other _ _ _ _ (by simp),World.cell?_setCell_other _ _ _ _ (by simp),World.cell?_setCell_other _ _ _ _ (by simp),World.cell?_setCell_other _ _ _ _ (by simp),World.cell?_setCell_other _ _ _ _ (by simp)];exact World.cell?_setCell_same _ _ _ hu0
  ·rw [World.cell?_setCell_other _ _ _ _ (by simp),World.cell?_setCell_other _ _ _ _ (by simp),World.cell?_setCell_other _ _ _ _ (by simp),World.cell?_setCell_other _ _ _ _ (by simp)];exact World.cell?_setCell_same _ _ _ hu1
  ·rw [World.cell?_setCell_other _ _ _ _ (by simp),World.cell?_setCell_other _ _ _ _ (by simp),World.cell?_setCell_other _ _ _ _ (by simp)];exact World.cell?_setCell_same _ _ _ hu2
  ·rw [World.cell?_setCell_other _ _ _ _ (by simp),World.cell?_setCell_other _ _ _ _ (by simp)];exact World.cell?_setCell_same _ _ _ hu3
  ·rw [World.cell?_setCell_other _ _ _ _ (by simp)];exact World.cell?_setCell_same _ _ _ hu4
  ·exact World.cell?_setCell_same _ _ _ hu5
  ·refine hh.kept (fun j hj _=>?_) (by simp only [World.size_setCell];exact Nat.le_refl _)
   rw [Below.heap_setCell _ _ _ _ (by simp;omega),Below.heap_setCell _ _ _ _ (by simp;omega),Below.heap_setCell _ _ _ _ (by simp;omega),Below.heap_setCell _ _ _ _ (by simp;omega),Below.heap_setCell _ _ _ _ (by simp;omega),Below.heap_setCell _ _ _ _ (by simp;omega)]
 ·exact h6.1 i hi (by omega)
theorem Part.made (w:World) (len:Nat) (L:List X) (z:Array Value) (t:TypeId):Part (w.alloc (.cells (madeCells z (len*6)) t)) w.heap.size len L 0:=by
 refine ⟨fun i _ h=>absurd h (Nat.not_lt_zero _),fun j hj=>?_,fun j=>?_,by simp⟩
 ·rw [World.cell?_alloc_new]
  exact ⟨_,Array.getElem?_eq_getElem (by rw [size_madeCells];exact hj)⟩
 ·exact World.frozen?_alloc_at _ _ _ _ rfl
theorem info_parts {P:Program} {t:TypeId} {z:Value} {s b:Nat} (h:(P.info? t).map (fun i=>(i.zero,i.size,i.bytes))=some (some z,s,b)):∃ i,P.info? t=some i/\i.zero=some z/\i.size=s/\i.bytes=b:=by
 cases e:P.info? t with
 | none=>rw [e] at h;cases h
 | some i =>
  rw [e] at h
  simp only [Option.map_some,Option.some.injEq,Prod.mk.injEq] at h
  exact ⟨i,rfl,h.1,h.2.1,h.2.2⟩
end Secr
namespace Osyr
open Go.Deep
structure X where
 f0:ByteArray
 f1:Int
 f2:Int
 f3:Bool
instance:Inhabited X:=⟨⟨⟨#[]⟩,0,0,false⟩⟩
def Has (N:Nat) (w:World) (x:X):Prop:=x.f0.size<=maxLen
theorem Has.kept {N:Nat} {w w':World} {x:X} (h:Has N w x) (hk:∀ k,N<=k->k<w.heap.size->w'.heap[k]? = w.heap[k]?) (hs:w.heap.size<=w'.heap.size):Has N w' x:=by
 have z0:x.f0.size<=maxLen:=h
 exact z0
theorem Has.mono {N N':Nat} {w:World} {x:X} (h:Has N w x) (hN:N'<=N):Has N' w x:=by
 have z0:x.f0.size<=maxLen:=h
 exact z0
theorem Has.below {N:Nat} {w w':World} {x:X} (h:Has N w x) (hb:Below w.heap.size w w'):Has N w' x:=h.kept (fun k _ hk=>hb.block k hk) hb.size
def At (N:Nat) (w:World) (b o:Nat) (x:X):Prop:=w.cell? ⟨b,o,none⟩=some (.string x.f0)/\w.cell? ⟨b,o+1,none⟩=some (.int .i64 x.f1)/\w.cell? ⟨b,o+2,none⟩=some (.int .i64 x.f2)/\w.cell? ⟨b,o+3,none⟩=some (.bool x.f3)/\Has N w x
theorem At.kept {N:Nat} {w w':World} {b o:Nat} {x:X} (h:At N w b o x) (hb:w'.heap[b]? = w.heap[b]?) (hk:∀ k,N<=k->k<w.heap.size->w'.heap[k]? = w.heap[k]?) (hs:w.heap.size<=w'.heap.size):At N w' b o x:=by
 obtain ⟨d0,d1,d2,d3,hh⟩:=h
 have e:∀ i,w'.cell? ⟨b,i,none⟩=w.cell? ⟨b,i,none⟩:=fun i=>World.cell?_of_block (a:=⟨b,i,none⟩) hb
 exact ⟨(e _).trans d0,(e _).trans d1,(e _).trans d2,(e _).trans d3,hh.kept hk hs⟩
def Row (N:Nat) (w:World) (a:Option Addr) (L:List X):Prop :=
 L=[] \/ ∃ b off,a=some ⟨b,off,none⟩/\N<=b/\b<w.heap.size/\∀ i (h:i<L.length),At N w b (off+i*4) L[i]
theorem Row.kept {N:Nat} {w w':World} {a:Option Addr} {L:List X} (h:Row N w a L) (hk:∀ k,N<=k->k<w.heap.size->w'.heap[k]? = w.heap[k]?) (hs:w.heap.size<=w'.heap.size):Row N w' a L:=by
 rcases h with h|⟨b,off,ha,hN,hl,hc⟩
 ·exact .inl h
 ·exact .inr ⟨b,off,ha,hN,Nat.lt_of_lt_of_le hl hs,fun i hi=>(hc i hi).kept (hk b hN hl) hk hs⟩
theorem Row.mono {N N':Nat} {w:World} {a:Option Addr} {L:List X} (h:Row N w a L) (hN:N'<=N):Row N' w a L:=by
 rcases h with h|⟨b,off,ha,hNb,hl,hc⟩
 ·exact .inl h
 ·exact .inr ⟨b,off,ha,by omega,hl,fun i hi=>by obtain ⟨d0,d1,d2,d3,hh⟩:=hc i hi;exact ⟨d0,d1,d2,d3,hh.mono hN⟩⟩
theorem Row.below {N:Nat} {w w':World} {a:Option Addr} {L:List X} (h:Row N w a L) (hb:Below w.heap.size w w'):Row N w' a L:=h.kept (fun k _ hk=>hb.block k hk) hb.size
def SmallX (x:X):Prop:=x.f0.size<=1048576
def Small (L:List X):Prop:=L.length<=1048576/\∀ i (h:i<L.length),SmallX L[i]
def Part (W:World) (B len:Nat) (L:List X) (k:Nat):Prop :=
 (∀ i (h:i<L.length),i<k->At (B+1) W B (i*4) L[i])/\(∀ j,j<len*4->∃ u,W.cell? ⟨B,j,none⟩=some u)/\(∀ j,W.frozen? ⟨B,j,none⟩=false)/\B<W.heap.size
theorem Part.kept {W W':World} {B len k:Nat} {L:List X} (h:Part W B len L k) (hb:Below W.heap.size W W'):Part W' B len L k:=by
 have hB:=hb.block B h.2.2.2
 refine ⟨fun i hi hk=>(h.1 i hi hk).kept hB (fun j _ hj=>hb.block j hj) hb.size,fun j hj=>?_,fun j=>?_,Nat.lt_of_lt_of_le h.2.2.2 hb.size⟩
 ·rw [World.cell?_of_block (a:=⟨B,j,none⟩) hB];exact h.2.1 j hj
 ·rw [World.frozen?_of_block (a:=⟨B,j,none⟩) hB];exact h.2.2.1 j
theorem Part.set {W:World} {B len k o:Nat} {L:List X} (h:Part W B len L k) (ho:k*4<=o) (v:Value):Part (W.setCell ⟨B,o,none⟩ v) B len L k:=by
 have ne:∀ i,i ≠ o->(W.setCell ⟨B,o,none⟩ v).cell? ⟨B,i,none⟩=W.cell? ⟨B,i,none⟩:=fun i hi=>World.cell?_setCell_other W _ _ _ (fun e=>hi (by have:=congrArg Addr.off e;exact this.symm))
 have hko:∀ j,B+1<=j->j<W.heap.size->(W.setCell ⟨B,o,none⟩ v).heap[j]? = W.heap[j]?:=fun j hj _=>Below.heap_setCell _ _ _ _ (by simp;omega)
 refine ⟨fun i hi hk=>?_,fun j hj=>?_,fun j=>?_,?_⟩
 ·obtain ⟨d0,d1,d2,d3,hh⟩:=h.1 i hi hk
  have hlt:i*4+3<o:=by have:(i+1)*4<=k*4:=Nat.mul_le_mul_right _ hk;omega
  exact ⟨(ne _ (by omega)).trans d0,(ne _ (by omega)).trans d1,(ne _ (by omega)).trans d2,(ne _ (by omega)).trans d3,hh.kept hko (by rw [World.size_setCell];exact Nat.le_refl _)⟩
 ·by_cases e:j=o
  ·subst e
   obtain ⟨u,hu⟩:=h.2.1 j hj
   exact ⟨v,World.cell?_setCell_same W _ _ hu⟩
  ·rw [ne j e];exact h.2.1 j hj
 ·rw [World.frozen?_setCell];exact h.2.2.1 j
 ·rw [World.size_setCell];exact h.2.2.2
theorem Part.store {W:World} {B len k:Nat} {L:List X} (h:Part W B len L k) (hk:k<len) (hkL:k<L.length) (hh:Has (B+1) W L[k]):Part ((((W.setCell ⟨B,k*4,none⟩ (.string L[k].f0)).setCell ⟨B,k*4+1,none⟩ (.int .i64 L[k].f1)).setCell ⟨B,k*4+2,none⟩ (.int .i64 L[k].f2)).setCell ⟨B,k*4+3,none⟩ (.bool L[k].f3)) B len L (k+1):=by
 have h1:=h.set (o:=k*4) (by omega) (.string L[k].f0)
 have h2:=h1.set (o:=k*4+1) (by omega) (.int .i64 L[k].f1)
 have h3:=h2.set (o:=k*4+2) (by omega) (.int .i64 L[k].f2)
 have h4:=h3.set (o:=k*4+3) (by omega) (.bool L[k].f3)
 refine ⟨fun i hi hik=>?_,h4.2.1,h4.2.2.1,h4.2.2.2⟩
 by_cases e:i=k
 ·subst e
  obtain ⟨u0,hu0⟩:=h.2.1 (i*4) (by omega)
  obtain ⟨u1,hu1⟩:=h1.2.1 (i*4+1) (by omega)
  obtain ⟨u2,hu2⟩:=h2.2.1 (i*4+2) (by omega)
  obtain ⟨u3,hu3⟩:=h3.2.1 (i*4+3) (by omega)
  refine ⟨?_,?_,?_,?_,?_⟩
  ·rw [World.cell?_setCell_other _ _ _ _ (by simp),World.cell?_setCell_other _ _ _ _ (by simp),World.cell?_setCell_other _ _ _ _ (by simp)];exact World.cell?_setCell_same _ _ _ hu0
  ·rw [World.cell?_setCell_other _ _ _ _ (by simp),World.cell?_setCell_other _ _ _ _ (by simp)];exact World.cell?_setCell_same _ _ _ hu1
  ·rw [World.cell?_setCell_other _ _ _ _ (by simp)];exact World.cell?_setCell_same _ _ _ hu2
  ·exact World.cell?_setCell_same _ _ _ hu3
  ·refine hh.kept (fun j hj _=>?_) (by simp only [World.size_setCell];exact Nat.le_refl _)
   rw [Below.heap_setCell _ _ _ _ (by simp;omega),Below.heap_setCell _ _ _ _ (by simp;omega),Below.heap_setCell _ _ _ _ (by simp;omega),Below.heap_setCell _ _ _ _ (by simp;omega)]
 ·exact h4.1 i hi (by omega)
theorem Part.made (w:World) (len:Nat) (L:List X) (z:Array Value) (t:TypeId):Part (w.alloc (.cells (madeCells z (len*4)) t)) w.heap.size len L 0:=by
 refine ⟨fun i _ h=>absurd h (Nat.not_lt_zero _),fun j hj=>?_,fun j=>?_,by simp⟩
 ·rw [World.cell?_alloc_new]
  exact ⟨_,Array.getElem?_eq_getElem (by rw [size_madeCells];exact hj)⟩
 ·exact World.frozen?_alloc_at _ _ _ _ rfl
theorem info_parts {P:Program} {t:TypeId} {z:Value} {s b:Nat} (h:(P.info? t).map (fun i=>(i.zero,i.size,i.bytes))=some (some z,s,b)):∃ i,P.info? t=some i/\i.zero=some z/\i.size=s/\i.bytes=b:=by
 cases e:P.info? t with
 | none=>rw [e] at h;cases h
 | some i =>
  rw [e] at h
  simp only [Option.map_some,Option.some.injEq,Prod.mk.injEq] at h
  exact ⟨i,rfl,h.1,h.2.1,h.2.2⟩
end Osyr
namespace Assr
open Go.Deep
structure X where
 f0:List Stepx.Node
instance:Inhabited X:=⟨⟨[]⟩⟩
def Has (N:Nat) (w:World) (x:X) (a0:Option Addr):Prop:=Nodw.Row N w a0 x.f0/\x.f0.length<=maxLen
theorem Has.kept {N:Nat} {w w':World} {x:X} {a0:Option Addr} (h:Has N w x a0) (hk:∀ k,N<=k->k<w.heap.size->w'.heap[k]? = w.heap[k]?) (hs:w.heap.size<=w'.heap.size):Has N w' x a0:=by
 obtain ⟨h0,z0⟩:=h
 exact ⟨h0.kept hk hs,z0⟩
theorem Has.mono {N N':Nat} {w:World} {x:X} {a0:Option Addr} (h:Has N w x a0) (hN:N'<=N):Has N' w x a0:=by
 obtain ⟨h0,z0⟩:=h
 exact ⟨h0.mono hN,z0⟩
theorem Has.below {N:Nat} {w w':World} {x:X} {a0:Option Addr} (h:Has N w x a0) (hb:Below w.heap.size w w'):Has N w' x a0:=h.kept (fun k _ hk=>hb.block k hk) hb.size
def At (N:Nat) (w:World) (b o:Nat) (x:X):Prop:=∃ a0 c0,w.cell? ⟨b,o,none⟩=some (.slice a0 x.f0.length c0)/\Has N w x a0
theorem At.kept {N:Nat} {w w':World} {b o:Nat} {x:X} (h:At N w b o x) (hb:w'.heap[b]? = w.heap[b]?) (hk:∀ k,N<=k->k<w.heap.size->w'.heap[k]? = w.heap[k]?) (hs:w.heap.size<=w'.heap.size):At N w' b o x:=by
 obtain ⟨a0,c0,d0,hh⟩:=h
 have e:∀ i,w'.cell? ⟨b,i,none⟩=w.cell? ⟨b,i,none⟩:=fun i=>World.cell?_of_block (a:=⟨b,i,none⟩) hb
 exact ⟨a0,c0,(e _).trans d0,hh.kept hk hs⟩
def Row (N:Nat) (w:World) (a:Option Addr) (L:List X):Prop :=
 L=[] \/ ∃ b off,a=some ⟨b,off,none⟩/\N<=b/\b<w.heap.size/\∀ i (h:i<L.length),At N w b (off+i) L[i]
theorem Row.kept {N:Nat} {w w':World} {a:Option Addr} {L:List X} (h:Row N w a L) (hk:∀ k,N<=k->k<w.heap.size->w'.heap[k]? = w.heap[k]?) (hs:w.heap.size<=w'.heap.size):Row N w' a L:=by
 rcases h with h|⟨b,off,ha,hN,hl,hc⟩
 ·exact .inl h
 ·exact .inr ⟨b,off,ha,hN,Nat.lt_of_lt_of_le hl hs,fun i hi=>(hc i hi).kept (hk b hN hl) hk hs⟩
theorem Row.mono {N N':Nat} {w:World} {a:Option Addr} {L:List X} (h:Row N w a L) (hN:N'<=N):Row N' w a L:=by
 rcases h with h|⟨b,off,ha,hNb,hl,hc⟩
 ·exact .inl h
 ·exact .inr ⟨b,off,ha,by omega,hl,fun i hi=>by obtain ⟨a0,c0,d0,hh⟩:=hc i hi;exact ⟨a0,c0,d0,hh.mono hN⟩⟩
theorem Row.below {N:Nat} {w w':World} {a:Option Addr} {L:List X} (h:Row N w a L) (hb:Below w.heap.size w w'):Row N w' a L:=h.kept (fun k _ hk=>hb.block k hk) hb.size
def SmallX (x:X):Prop:=Nodw.Small x.f0
def Small (L:List X):Prop:=L.length<=1048576/\∀ i (h:i<L.length),SmallX L[i]
def Part (W:World) (B len:Nat) (L:List X) (k:Nat):Prop :=
 (∀ i (h:i<L.length),i<k->At (B+1) W B (i) L[i])/\(∀ j,j<len->∃ u,W.cell? ⟨B,j,none⟩=some u)/\(∀ j,W.frozen? ⟨B,j,none⟩=false)/\B<W.heap.size
theorem Part.kept {W W':World} {B len k:Nat} {L:List X} (h:Part W B len L k) (hb:Below W.heap.size W W'):Part W' B len L k:=by
 have hB:=hb.block B h.2.2.2
 refine ⟨fun i hi hk=>(h.1 i hi hk).kept hB (fun j _ hj=>hb.block j hj) hb.size,fun j hj=>?_,fun j=>?_,Nat.lt_of_lt_of_le h.2.2.2 hb.size⟩
 ·rw [World.cell?_of_block (a:=⟨B,j,none⟩) hB];exact h.2.1 j hj
 ·rw [World.frozen?_of_block (a:=⟨B,j,none⟩) hB];exact h.2.2.1 j
theorem Part.set {W:World} {B len k o:Nat} {L:List X} (h:Part W B len L k) (ho:k<=o) (v:Value):Part (W.setCell ⟨B,o,none⟩ v) B len L k:=by
 have ne:∀ i,i ≠ o->(W.setCell ⟨B,o,none⟩ v).cell? ⟨B,i,none⟩=W.cell? ⟨B,i,none⟩:=fun i hi=>World.cell?_setCell_other W _ _ _ (fun e=>hi (by have:=congrArg Addr.off e;exact this.symm))
 have hko:∀ j,B+1<=j->j<W.heap.size->(W.setCell ⟨B,o,none⟩ v).heap[j]? = W.heap[j]?:=fun j hj _=>Below.heap_setCell _ _ _ _ (by simp;omega)
 refine ⟨fun i hi hk=>?_,fun j hj=>?_,fun j=>?_,?_⟩
 ·obtain ⟨a0,c0,d0,hh⟩:=h.1 i hi hk
  have hlt:i+0<o:=by have:i+1<=k:=hk;omega
  exact ⟨a0,c0,(ne _ (by omega)).trans d0,hh.kept hko (by rw [World.size_setCell];exact Nat.le_refl _)⟩
 ·by_cases e:j=o
  ·subst e
   obtain ⟨u,hu⟩:=h.2.1 j hj
   exact ⟨v,World.cell?_setCell_same W _ _ hu⟩
  ·rw [ne j e];exact h.2.1 j hj
 ·rw [World.frozen?_setCell];exact h.2.2.1 j
 ·rw [World.size_setCell];exact h.2.2.2
theorem Part.store {W:World} {B len k:Nat} {L:List X} (h:Part W B len L k) (hk:k<len) (hkL:k<L.length) (a0:Option Addr) (c0:Nat) (hh:Has (B+1) W L[k] a0):Part (W.setCell ⟨B,k,none⟩ (.slice a0 L[k].f0.length c0)) B len L (k+1):=by
 have h1:=h.set (o:=k) (by omega) (.slice a0 L[k].f0.length c0)
 refine ⟨fun i hi hik=>?_,h1.2.1,h1.2.2.1,h1.2.2.2⟩
 by_cases e:i=k
 ·subst e
  obtain ⟨u0,hu0⟩:=h.2.1 (i) (by omega)
  refine ⟨a0,c0,?_,?_⟩
  ·exact World.cell?_setCell_same _ _ _ hu0
  ·refine hh.kept (fun j hj _=>?_) (by simp only [World.size_setCell];exact Nat.le_refl _)
   rw [Below.heap_setCell _ _ _ _ (by simp;omega)]
 ·exact h1.1 i hi (by omega)
theorem Part.made (w:World) (len:Nat) (L:List X) (z:Array Value) (t:TypeId):Part (w.alloc (.cells (madeCells z (len)) t)) w.heap.size len L 0:=by
 refine ⟨fun i _ h=>absurd h (Nat.not_lt_zero _),fun j hj=>?_,fun j=>?_,by simp⟩
 ·rw [World.cell?_alloc_new]
  exact ⟨_,Array.getElem?_eq_getElem (by rw [size_madeCells];exact hj)⟩
 ·exact World.frozen?_alloc_at _ _ _ _ rfl
theorem info_parts {P:Program} {t:TypeId} {z:Value} {s b:Nat} (h:(P.info? t).map (fun i=>(i.zero,i.size,i.bytes))=some (some z,s,b)):∃ i,P.info? t=some i/\i.zero=some z/\i.size=s/\i.bytes=b:=by
 cases e:P.info? t with
 | none=>rw [e] at h;cases h
 | some i =>
  rw [e] at h
  simp only [Option.map_some,Option.some.injEq,Prod.mk.injEq] at h
  exact ⟨i,rfl,h.1,h.2.1,h.2.2⟩
end Assr
end Go.Proofs.YtickfkphhngagaaGreatDoor
