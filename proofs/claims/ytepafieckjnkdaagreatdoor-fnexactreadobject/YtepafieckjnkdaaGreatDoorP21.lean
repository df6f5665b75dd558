import Derived.Test.YtepafieckjnkdaaGreatDoorP19
import Derived.Deep.MidRow
set_option linter.all false
set_option maxRecDepth 20000
set_option maxHeartbeats 8000000
open Go.ChangeShapes Go.WideShapes Go.ChangeAt Go.RowKit
open Go.Proofs.Tryz
namespace Go.Proofs.YtepafieckjnkdaaGreatDoor
namespace Rown
open Go.Deep
open Otxa (after)
structure Pd where
 p0:Int
 p1:Int
 l:List Stepx.Node
 e:Value
structure Sd where
 nm:ByteArray
 k:Int
 b:Int
 a:Int
 d:ByteArray
 pv:Value
 ps:List Pd
structure Ad where
 l:List Stepx.Node
 e:Value
def Pd.x (p:Pd):Patr.X:=⟨p.p0,p.p1,p.l⟩
def Sd.x (s:Sd):Secr.X:=⟨s.nm,s.k,s.b,s.a,s.d,s.ps.map Pd.x⟩
def Ad.x (a:Ad):Assr.X:=⟨a.l⟩
def objX (ss:List Sd) (ys:List Osyr.X) (aa:List Ad):Objr.X:=⟨ss.map Sd.x,ys,aa.map Ad.x⟩
def Pd.cells (p:Pd):List Value:=[.int .i64 p.p0,.int .i64 p.p1,p.e]
def Sd.cells (s:Sd):List Value:=[.string s.nm,.int .i64 s.k,.int .i64 s.b,.int .i64 s.a,.string s.d,s.pv]
def yCells (y:Osyr.X):List Value:=[.string y.f0,.int .i64 y.f1,.int .i64 y.f2,.bool y.f3]
def Apart (a b:Value):Prop:=a.ownBlock=none \/ a.ownBlock ≠ b.ownBlock
def ExOwn (w:World) (base:Nat) (e:Value) (L:List Stepx.Node):Prop:=Nodm.Own w base e L/\∀ x ∈ L,x.2.2.size<=1048576
structure Rw (w:World) (base:Nat) (ss:List Sd) (yv:Value) (ys:List Osyr.X) (av:Value) (aa:List Ad):Prop where
 pat:∀ s ∈ ss,w.ownsRow base 72 3 s.pv s.ps.length (s.ps.flatMap Pd.cells)
 pex:∀ s ∈ ss,∀ p ∈ s.ps,ExOwn w base p.e p.l
 pvs:(ss.map (·.pv)).Pairwise Apart
 sym:w.ownsRow base 49 4 yv ys.length (ys.flatMap yCells)
 ass:w.ownsRow base 53 1 av aa.length (aa.map (·.e))
 aex:∀ a ∈ aa,ExOwn w base a.e a.l
 evs:(ss.flatMap (fun s=>s.ps.map (·.e)) ++ aa.map (·.e)).Pairwise Apart
structure Ob (w:World) (base:Nat) (sv:Value) (ss:List Sd) (yv:Value) (ys:List Osyr.X) (av:Value) (aa:List Ad):Prop where
 sec:w.ownsRow base 35 6 sv ss.length (ss.flatMap Sd.cells)
 rw:Rw w base ss yv ys av aa
theorem own_below {w w1:World} {base:Nat} {e:TypeId} {size:Nat} {v:Value} {n:Nat} {xs:List Value} (h:w.ownsRow base e size v n xs) (hb:Below w.heap.size w w1):w1.ownsRow base e size v n xs :=
 h.kept (row:=none) ⟨hb.os,hb.tape,hb.output,hb.size,fun k hk _=>hb.block k hk⟩ (by cases hv:Value.ownBlock v <;> simp)
theorem own_ne {w:World} {base base':Nat} {e e':TypeId} {size size':Nat} {v v':Value} {n n':Nat} {xs xs':List Value} (h:w.ownsRow base e size v n xs) (h':w.ownsRow base' e' size' v' n' xs') (hne:e ≠ e'):Apart v v':=by
 rcases h.2 with ⟨rfl,_⟩|⟨g,cap,cur,rfl,_,hg,_⟩
 ·exact .inl rfl
 ·rcases h'.2 with ⟨rfl,_⟩|⟨g',cap',cur',rfl,_,hg',_⟩
  ·exact .inr (by simp [Value.ownBlock])
  ·refine .inr fun q=>?_
   have q:g=g':=by simpa [Value.ownBlock] using q
   subst q
   rw [hg] at hg'
   have:=Option.some.inj hg'
   cases this
   exact hne rfl
theorem own_ne_block {w:World} {base:Nat} {e T:TypeId} {size:Nat} {v:Value} {n:Nat} {xs:List Value} {g:Nat} {cur:Array Value} {m:Nat × Nat} (h:w.ownsRow base e size v n xs) (hg:w.heap[g]? = some (.cells cur T m)) (hne:e ≠ T):v.ownBlock ≠ some g:=by
 rcases h.2 with ⟨rfl,_⟩|⟨g',cap,cur',rfl,_,hg',_⟩
 ·simp [Value.ownBlock]
 ·intro q
  have q:g'=g:=by simpa [Value.ownBlock] using q
  subst q
  rw [hg] at hg'
  have:=Option.some.inj hg'
  cases this
  exact hne rfl
theorem Rw.below {w w':World} {base:Nat} {ss:List Sd} {yv av:Value} {ys:List Osyr.X} {aa:List Ad} (h:Rw w base ss yv ys av aa) (hb:Below w.heap.size w w'):Rw w' base ss yv ys av aa :=
 ⟨fun s hs=>own_below (h.pat s hs) hb,fun s hs p hp=>⟨own_below (h.pex s hs p hp).1 hb,(h.pex s hs p hp).2⟩,h.pvs,own_below h.sym hb,own_below h.ass hb,fun a ha=>⟨own_below (h.aex a ha).1 hb,(h.aex a ha).2⟩,h.evs⟩
theorem Ob.below {w w':World} {base:Nat} {sv:Value} {ss:List Sd} {yv av:Value} {ys:List Osyr.X} {aa:List Ad} (h:Ob w base sv ss yv ys av aa) (hb:Below w.heap.size w w'):Ob w' base sv ss yv ys av aa:=⟨own_below h.sec hb,h.rw.below hb⟩
theorem Rw.other {w w':World} {base:Nat} {ss:List Sd} {yv av:Value} {ys:List Osyr.X} {aa:List Ad} {row:Option Nat} (h:Rw w base ss yv ys av aa) (hg:w.grownBy w' row)
  (hr:∀ (e:TypeId) (size:Nat) (v:Value) (n:Nat) (xs:List Value),(e=72 \/ e=49 \/ e=53 \/ e=111)->w.ownsRow base e size v n xs->v.ownBlock=none \/ v.ownBlock ≠ row):Rw w' base ss yv ys av aa :=
 ⟨fun s hs=>(h.pat s hs).kept hg (hr _ _ _ _ _ (.inl rfl) (h.pat s hs)),fun s hs p hp=>⟨(h.pex s hs p hp).1.kept hg (hr _ _ _ _ _ (.inr (.inr (.inr rfl))) (h.pex s hs p hp).1),(h.pex s hs p hp).2⟩,h.pvs,h.sym.kept hg (hr _ _ _ _ _ (.inr (.inl rfl)) h.sym),h.ass.kept hg (hr _ _ _ _ _ (.inr (.inr (.inl rfl))) h.ass),fun a ha=>⟨(h.aex a ha).1.kept hg (hr _ _ _ _ _ (.inr (.inr (.inr rfl))) (h.aex a ha).1),(h.aex a ha).2⟩,h.evs⟩
theorem Rw.type {w w':World} {base base':Nat} {ss:List Sd} {yv av:Value} {ys:List Osyr.X} {aa:List Ad} {T:TypeId} {size n:Nat} {v:Value} {xs:List Value} (h:Rw w base ss yv ys av aa) (ho:w.ownsRow base' T size v n xs) (hg:w.grownBy w' v.ownBlock)
  (h1:72 ≠ T) (h2:49 ≠ T) (h3:53 ≠ T) (h4:111 ≠ T):Rw w' base ss yv ys av aa :=
 h.other hg fun e size v n xs he hv=>by
  rcases he with rfl|rfl|rfl|rfl
  ·exact own_ne hv ho h1
  ·exact own_ne hv ho h2
  ·exact own_ne hv ho h3
  ·exact own_ne hv ho h4
theorem Rw.cell {w:World} {base:Nat} {ss:List Sd} {yv av:Value} {ys:List Osyr.X} {aa:List Ad} {T:TypeId} {g i:Nat} {cur:Array Value} {m:Nat × Nat} {u:Value} (h:Rw w base ss yv ys av aa) (ho:w.heap[g]? = some (.cells cur T m))
  (h1:72 ≠ T) (h2:49 ≠ T) (h3:53 ≠ T) (h4:111 ≠ T):Rw (w.setCell ⟨g,i,none⟩ u) base ss yv ys av aa :=
 h.other (Nodm.grown_set _ _ _ _) fun e size v n xs he hv=>.inr (by
  rcases he with rfl|rfl|rfl|rfl
  ·exact own_ne_block hv ho h1
  ·exact own_ne_block hv ho h2
  ·exact own_ne_block hv ho h3
  ·exact own_ne_block hv ho h4)
theorem cells_snoc (ss:List Sd) (s:Sd):(ss ++ [s]).flatMap Sd.cells=ss.flatMap Sd.cells ++ s.cells:=by rw [List.flatMap_append];simp
theorem pcells_snoc (ss:List Pd) (s:Pd):(ss ++ [s]).flatMap Pd.cells=ss.flatMap Pd.cells ++ s.cells:=by rw [List.flatMap_append];simp
theorem ycells_snoc (ss:List Osyr.X) (s:Osyr.X):(ss ++ [s]).flatMap yCells=ss.flatMap yCells ++ yCells s:=by rw [List.flatMap_append];simp
theorem pw_snoc {L:List Value} {v:Value} (h:L.Pairwise Apart) (hv:∀ u ∈ L,Apart u v):(L ++ [v]).Pairwise Apart:=by
 rw [List.pairwise_append]
 exact ⟨h,List.pairwise_singleton _ _,fun a ha b hb=>by rw [List.mem_singleton.1 hb];exact hv a ha⟩
theorem Rw.addS {w:World} {base:Nat} {ss:List Sd} {yv av:Value} {ys:List Osyr.X} {aa:List Ad} (h:Rw w base ss yv ys av aa) (nm d:ByteArray) (k b a:Int):Rw w base (ss ++ [⟨nm,k,b,a,d,.slice none 0 0,[]⟩]) yv ys av aa:=by
 refine ⟨fun s hs=>?_,fun s hs p hp=>?_,?_,h.sym,h.ass,h.aex,?_⟩
 ·rcases List.mem_append.1 hs with hs|hs
  ·exact h.pat s hs
  ·rw [List.mem_singleton.1 hs];exact World.ownsRow_nil _ _ _ _
 ·rcases List.mem_append.1 hs with hs|hs
  ·exact h.pex s hs p hp
  ·rw [List.mem_singleton.1 hs] at hp;cases hp
 ·rw [List.map_append]
  exact pw_snoc h.pvs fun u hu=>by
   by_cases hn:u.ownBlock=none
   ·exact .inl hn
   ·exact .inr hn
 ·have:=h.evs
  simpa using this
theorem Apart.symm {a b:Value} (h:Apart a b) (hb:b.ownBlock ≠ none):Apart b a:=h.elim (fun q=>.inr (fun e=>hb (e.trans q))) (fun q=>.inr (fun e=>q e.symm))
theorem apart_fresh {w:World} {base:Nat} {e:TypeId} {size:Nat} {v v':Value} {n:Nat} {xs:List Value} (h:w.ownsRow base e size v n xs) (hv:v'.ownBlock=some w.heap.size):Apart v v':=by
 cases hb:v.ownBlock with
 | none=>exact .inl hb
 | some g =>
  refine .inr fun q=>?_
  rw [hb,hv] at q
  have:=(h.lt g hb).2
  have:=Option.some.inj q
  omega
theorem apart_same {u v v':Value} (h:Apart u v) (hv:v'.ownBlock=v.ownBlock):Apart u v':=h.imp id (fun q e=>q (e.trans hv))
theorem Rw.addP {w w':World} {base:Nat} {S:List Sd} {s:Sd} {yv av:Value} {ys:List Osyr.X} {aa:List Ad} (h:Rw w base (S ++ [s]) yv ys av aa) (p:Pd) (v':Value) (hx:ExOwn w base p.e p.l)
  (hap:∀ u ∈ (S ++ [s]).flatMap (fun s=>s.ps.map (·.e)) ++ aa.map (·.e),Apart u p.e/\Apart p.e u)
  (ho:w'.ownsRow base 72 3 v' (s.ps.length+1) (s.ps.flatMap Pd.cells ++ p.cells)) (hg:w.grownBy w' s.pv.ownBlock) (hv:v'.ownBlock=s.pv.ownBlock \/ v'.ownBlock=some w.heap.size) :
  Rw w' base (S ++ [⟨s.nm,s.k,s.b,s.a,s.d,v',s.ps ++ [p]⟩]) yv ys av aa:=by
 have hp:=h.pat s (by simp)
 have hpv:=h.pvs
 rw [List.map_append,List.pairwise_append] at hpv
 obtain ⟨d1,_,d2⟩:=hpv
 have dS:∀ t ∈ S,Apart t.pv s.pv:=fun t ht=>d2 _ (List.mem_map_of_mem ht) _ (by simp)
 have keep:∀ {e:TypeId} {size n:Nat} {v:Value} {xs:List Value},w.ownsRow base e size v n xs->e ≠ 72->w'.ownsRow base e size v n xs:=fun {e size n v xs} hh hne=>hh.kept hg (own_ne hh hp hne)
 have keepX:∀ {e:Value} {l:List Stepx.Node},ExOwn w base e l->ExOwn w' base e l:=fun {e l} hh=>⟨keep hh.1 (by decide),hh.2⟩
 refine ⟨fun t ht=>?_,fun t ht q hq=>?_,?_,keep h.sym (by decide),keep h.ass (by decide),fun a ha=>keepX (h.aex a ha),?_⟩
 ·rcases List.mem_append.1 ht with ht|ht
  ·exact (h.pat t (List.mem_append_left _ ht)).kept hg (dS t ht)
  ·rw [List.mem_singleton.1 ht]
   show w'.ownsRow _ _ _ v' (s.ps ++ [p]).length ((s.ps ++ [p]).flatMap Pd.cells)
   rw [pcells_snoc,List.length_append]
   exact ho
 ·rcases List.mem_append.1 ht with ht|ht
  ·exact keepX (h.pex t (List.mem_append_left _ ht) q hq)
  ·rw [List.mem_singleton.1 ht] at hq
   rcases List.mem_append.1 hq with hq|hq
   ·exact keepX (h.pex s (by simp) q hq)
   ·rw [List.mem_singleton.1 hq];exact keepX hx
 ·rw [List.map_append]
  refine pw_snoc d1 fun u hu=>?_
  obtain ⟨t,ht,rfl⟩:=List.mem_map.1 hu
  rcases hv with hv|hv
  ·exact apart_same (dS t ht) hv
  ·exact apart_fresh (h.pat t (List.mem_append_left _ ht)) hv
 ·have he:=h.evs
  rw [List.flatMap_append] at he hap |-
  simp only [List.flatMap_cons,List.flatMap_nil,List.append_nil,List.map_append,List.map_cons,List.map_nil] at he hap |-
  have hA:S.flatMap (fun s=>s.ps.map (·.e)) ++ (s.ps.map (·.e) ++ [p.e]) ++ aa.map (·.e)=(S.flatMap (fun s=>s.ps.map (·.e)) ++ s.ps.map (·.e)) ++ (p.e :: aa.map (·.e)):=by simp
  rw [hA,List.pairwise_append]
  rw [List.pairwise_append] at he
  obtain ⟨e1,e2,e3⟩:=he
  refine ⟨e1,List.pairwise_cons.2 ⟨fun u hu=>(hap u (List.mem_append_right _ hu)).2,e2⟩,fun u hu x hx=>?_⟩
  rcases List.mem_cons.1 hx with rfl|hx
  ·exact (hap u (List.mem_append_left _ hu)).1
  ·exact e3 u hu x hx
theorem Rw.addY {w w':World} {base:Nat} {ss:List Sd} {yv av:Value} {ys:List Osyr.X} {aa:List Ad} (h:Rw w base ss yv ys av aa) (y:Osyr.X) (v':Value)
  (ho:w'.ownsRow base 49 4 v' (ys.length+1) (ys.flatMap yCells ++ yCells y)) (hg:w.grownBy w' yv.ownBlock):Rw w' base ss v' (ys ++ [y]) av aa:=by
 have keep:∀ {e:TypeId} {size n:Nat} {v:Value} {xs:List Value},w.ownsRow base e size v n xs->e ≠ 49->w'.ownsRow base e size v n xs:=fun {e size n v xs} hh hne=>hh.kept hg (own_ne hh h.sym hne)
 exact ⟨fun s hs=>keep (h.pat s hs) (by decide),fun s hs p hp=>⟨keep (h.pex s hs p hp).1 (by decide),(h.pex s hs p hp).2⟩,h.pvs,by rw [ycells_snoc,List.length_append];exact ho,keep h.ass (by decide),fun a ha=>⟨keep (h.aex a ha).1 (by decide),(h.aex a ha).2⟩,h.evs⟩
theorem Rw.addA {w w':World} {base:Nat} {ss:List Sd} {yv av:Value} {ys:List Osyr.X} {aa:List Ad} (h:Rw w base ss yv ys av aa) (x:Ad) (v':Value) (hx:ExOwn w base x.e x.l)
  (hap:∀ u ∈ ss.flatMap (fun s=>s.ps.map (·.e)) ++ aa.map (·.e),Apart u x.e)
  (ho:w'.ownsRow base 53 1 v' (aa.length+1) (aa.map (·.e) ++ [x.e])) (hg:w.grownBy w' av.ownBlock):Rw w' base ss yv ys v' (aa ++ [x]):=by
 have keep:∀ {e:TypeId} {size n:Nat} {v:Value} {xs:List Value},w.ownsRow base e size v n xs->e ≠ 53->w'.ownsRow base e size v n xs:=fun {e size n v xs} hh hne=>hh.kept hg (own_ne hh h.ass hne)
 refine ⟨fun s hs=>keep (h.pat s hs) (by decide),fun s hs p hp=>⟨keep (h.pex s hs p hp).1 (by decide),(h.pex s hs p hp).2⟩,h.pvs,keep h.sym (by decide),by rw [List.map_append,List.length_append];exact ho,fun a ha=>?_,?_⟩
 ·rcases List.mem_append.1 ha with ha|ha
  ·exact ⟨keep (h.aex a ha).1 (by decide),(h.aex a ha).2⟩
  ·rw [List.mem_singleton.1 ha];exact ⟨keep hx.1 (by decide),hx.2⟩
 ·rw [List.map_append,<- List.append_assoc]
  exact pw_snoc h.evs hap
theorem Rw.fresh {w w':World} {base:Nat} {ss:List Sd} {yv av:Value} {ys:List Osyr.X} {aa:List Ad} (h:Rw w base ss yv ys av aa) {e:Value} {L:List Stepx.Node} (he:Nodm.Own w' w.heap.size e L) :
  ∀ u ∈ ss.flatMap (fun s=>s.ps.map (·.e)) ++ aa.map (·.e),Apart u e/\Apart e u:=fun u hu=>by
 have hlt:∀ g,u.ownBlock=some g->g<w.heap.size:=by
  rcases List.mem_append.1 hu with hu|hu
  ·obtain ⟨s,hs,hu⟩:=List.mem_flatMap.1 hu
   obtain ⟨p,hp,rfl⟩:=List.mem_map.1 hu
   exact fun g hg=>((h.pex s hs p hp).1.lt g hg).2
  ·obtain ⟨a,ha,rfl⟩:=List.mem_map.1 hu
   exact fun g hg=>((h.aex a ha).1.lt g hg).2
 have hge:∀ g,e.ownBlock=some g->w.heap.size<=g:=fun g hg=>(he.lt g hg).1
 have ne:∀ g,u.ownBlock=some g->e.ownBlock=some g->False:=fun g h1 h2=>by
  have:=hlt g h1;have:=hge g h2;omega
 constructor
 ·cases hb:u.ownBlock with
  | none=>exact .inl hb
  | some g=>exact .inr fun q=>ne g hb (by rw [<- q,hb])
 ·cases hb:e.ownBlock with
  | none=>exact .inl hb
  | some g=>exact .inr fun q=>ne g (by rw [<- q,hb]) hb
theorem own_mono {w:World} {b b':Nat} {e:TypeId} {size:Nat} {v:Value} {n:Nat} {xs:List Value} (hle:b'<=b) (h:w.ownsRow b e size v n xs):w.ownsRow b' e size v n xs :=
 ⟨h.1,h.2.imp id fun ⟨g,c,cur,hv,hb,rest⟩=>⟨g,c,cur,hv,Nat.le_trans hle hb,rest⟩⟩
theorem Rw.mono {w:World} {b b':Nat} {ss:List Sd} {yv av:Value} {ys:List Osyr.X} {aa:List Ad} (hle:b'<=b) (h:Rw w b ss yv ys av aa):Rw w b' ss yv ys av aa :=
 ⟨fun s hs=>own_mono hle (h.pat s hs),fun s hs p hp=>⟨own_mono hle (h.pex s hs p hp).1,(h.pex s hs p hp).2⟩,h.pvs,own_mono hle h.sym,own_mono hle h.ass,fun a ha=>⟨own_mono hle (h.aex a ha).1,(h.aex a ha).2⟩,h.evs⟩
theorem own_slice {w:World} {base n:Nat} {e:TypeId} {size:Nat} {v:Value} {xs:List Value} (h:w.ownsRow base e size v n xs):∃ po cap,v=.slice po n cap:=by
 rcases h.2 with ⟨hv,hn⟩|⟨g,cap,cur,hv,_⟩
 ·exact ⟨none,0,by rw [hv,hn]⟩
 ·exact ⟨_,_,hv⟩
structure Sm (m:Nat) (x:Objr.X):Prop where
 s:x.f0.length<=m
 y:x.f1.length<=m
 a:x.f2.length<=m
 sx:∀ s ∈ x.f0,s.f0.size<=1048576/\s.f4.size<=1048576/\s.f5.length<=m
 px:∀ s ∈ x.f0,∀ p ∈ s.f5,p.f2.length<=801/\∀ n ∈ p.f2,n.2.2.size<=1048576
 yx:∀ y ∈ x.f1,y.f0.size<=1048576
 ax:∀ a ∈ x.f2,a.f0.length<=801/\∀ n ∈ a.f0,n.2.2.size<=1048576
end Rown
namespace Rowo
open Go.Deep
open Rown Rliq Rlip
theorem flat_at {α:Type} (f:α->List Value) (n:Nat) (hf:∀ x,(f x).length=n):∀ (L:List α) (i:Nat) (h:i<L.length) (j:Nat),j<n->(L.flatMap f)[i*n+j]? = (f L[i])[j]?
 | [],i,h,_,_=>absurd h (Nat.not_lt_zero _)
 | x :: L,0,_,j,hj=>by
  rw [List.flatMap_cons,Nat.zero_mul,Nat.zero_add,List.getElem?_append_left (by rw [hf];exact hj)];rfl
 | x :: L,i+1,h,j,hj=>by
  rw [List.flatMap_cons,List.getElem?_append_right (by rw [hf,Nat.succ_mul];omega),hf]
  have e:(i+1)*n+j-n=i*n+j:=by rw [Nat.succ_mul];omega
  rw [e,flat_at f n hf L i (by simpa using h) j hj]
  rfl
theorem flat_len {α:Type} (f:α->List Value) (n:Nat) (hf:∀ x,(f x).length=n):∀ (L:List α),(L.flatMap f).length=L.length*n
 | []=>by simp
 | x :: L=>by rw [List.flatMap_cons,List.length_append,flat_len f n hf L,hf,List.length_cons,Nat.succ_mul];omega
theorem row_cells {w:World} {base:Nat} {T:TypeId} {size n:Nat} {xs:List Value} {g off cap:Nat} (h:w.ownsRow base T size (.slice (some ⟨g,off,none⟩) n cap) n xs):off=0/\base<=g/\g<w.heap.size/\∀ (j:Nat) (u:Value),xs[j]? = some u->w.cell? ⟨g,j,none⟩=some u:=by
 have hl:=h.lt g rfl
 have hc:=h.cells (g:=g) rfl
 rcases h.2 with ⟨hv,_⟩|⟨g',c,cur,hv,_⟩
 ·cases hv
 ·cases hv
  refine ⟨rfl,hl.1,hl.2,fun j u hu=>?_⟩
  have:=hc j u hu
  have hadd:(⟨g,0,none⟩ : Addr).add j=⟨g,j,none⟩:=by unfold Addr.add;split <;> simp_all
  rwa [hadd] at this
theorem ex_slice {w:World} {base:Nat} {e:Value} {L:List Stepx.Node} (h:ExOwn w base e L):∃ a c,e=.slice a L.length c/\Nodw.Row base w a L:=by
 obtain ⟨a,c,rfl⟩:=own_slice h.1
 refine ⟨a,c,rfl,Nodm.nodes_own h.1 h.2,?_⟩
 rcases h.1.2 with ⟨hv,hn⟩|⟨g,cap,cur,hv,hb,_⟩
 ·exact .inl (List.eq_nil_of_length_eq_zero hn)
 ·cases hv
  exact .inr ⟨_,rfl,hb⟩
theorem pat_row {w:World} {base:Nat} {a:Option Addr} {c:Nat} {P:List Pd} (h:w.ownsRow base 72 3 (.slice a P.length c) P.length (P.flatMap Pd.cells)) (hx:∀ p ∈ P,ExOwn w base p.e p.l) (hl:∀ p ∈ P,p.l.length<=801):Patr.Row base w a (P.map Pd.x):=by
 by_cases h0:P=[]
 ·exact .inl (by rw [h0];rfl)
 match a,h with
 | none,h =>
  rcases h.2 with ⟨_,hn⟩|⟨g,cap,cur,hv,_⟩
  ·exact absurd (List.eq_nil_of_length_eq_zero hn) h0
  ·cases hv
 | some ⟨g,off,sp⟩,h =>
  have hsp:sp=none:=by
   rcases h.2 with ⟨hv,_⟩|⟨g',cap,cur,hv,_⟩
   ·cases hv
   ·cases hv;rfl
  subst hsp
  obtain ⟨rfl,hb,hlt,hc⟩:=row_cells h
  refine .inr ⟨g,0,rfl,hb,hlt,fun i hi=>?_⟩
  have hi':i<P.length:=by simpa using hi
  have hmem:P[i] ∈ P:=List.getElem_mem hi'
  obtain ⟨ea,ec,he,hr⟩:=ex_slice (hx _ hmem)
  have f:=flat_at Pd.cells 3 (fun _=>rfl) P i hi'
  rw [List.getElem_map,Nat.zero_add]
  refine ⟨ea,ec,hc _ _ ((f 0 (by omega)).trans rfl),hc _ _ ((f 1 (by omega)).trans rfl),hc _ _ ((f 2 (by omega)).trans (by show some P[i].e=_;rw [he];rfl)),hr,?_⟩
  have:=hl _ hmem
  show P[i].l.length<=_
  unfold maxLen;omega
theorem sec_row {w:World} {base:Nat} {a:Option Addr} {c:Nat} {ss:List Sd} {yv av:Value} {ys:List Osyr.X} {aa:List Ad} (h:w.ownsRow base 35 6 (.slice a ss.length c) ss.length (ss.flatMap Sd.cells)) (hr:Rw w base ss yv ys av aa) {m:Nat} (hm:m<=1048576) (hs:Sm m (objX ss ys aa)):Secr.Row base w a (ss.map Sd.x):=by
 by_cases h0:ss=[]
 ·exact .inl (by rw [h0];rfl)
 match a,h with
 | none,h =>
  rcases h.2 with ⟨_,hn⟩|⟨g,cap,cur,hv,_⟩
  ·exact absurd (List.eq_nil_of_length_eq_zero hn) h0
  ·cases hv
 | some ⟨g,off,sp⟩,h =>
  have hsp:sp=none:=by
   rcases h.2 with ⟨hv,_⟩|⟨g',cap,cur,hv,_⟩
   ·cases hv
   ·cases hv;rfl
  subst hsp
  obtain ⟨rfl,hb,hlt,hc⟩:=row_cells h
  refine .inr ⟨g,0,rfl,hb,hlt,fun i hi=>?_⟩
  have hi':i<ss.length:=by simpa using hi
  have hmem:ss[i] ∈ ss:=List.getElem_mem hi'
  have hmx:ss[i].x ∈ (objX ss ys aa).f0:=List.mem_map_of_mem hmem
  obtain ⟨z1,z2,z3⟩:=hs.sx _ hmx
  obtain ⟨pa,pc,hpv⟩:=own_slice (hr.pat _ hmem)
  have hrow:=hr.pat _ hmem
  rw [hpv] at hrow
  have hR:=pat_row hrow (hr.pex _ hmem) (fun p hp=>(hs.px _ hmx p.x (List.mem_map_of_mem hp)).1)
  have f:=flat_at Sd.cells 6 (fun _=>rfl) ss i hi'
  rw [List.getElem_map,Nat.zero_add]
  refine ⟨pa,pc,hc _ _ ((f 0 (by omega)).trans rfl),hc _ _ ((f 1 (by omega)).trans rfl),hc _ _ ((f 2 (by omega)).trans rfl),hc _ _ ((f 3 (by omega)).trans rfl),hc _ _ ((f 4 (by omega)).trans rfl),hc _ _ ((f 5 (by omega)).trans (by show some ss[i].pv=_;rw [hpv];show _=some (Value.slice pa (ss[i].ps.map Pd.x).length pc);rw [List.length_map])),hR,?_,?_,?_⟩
  ·unfold maxLen;omega
  ·unfold maxLen;omega
  ·unfold maxLen;omega
theorem sym_row {w:World} {base:Nat} {a:Option Addr} {c:Nat} {ys:List Osyr.X} (h:w.ownsRow base 49 4 (.slice a ys.length c) ys.length (ys.flatMap yCells)) (hz:∀ y ∈ ys,y.f0.size<=1048576):Osyr.Row base w a ys:=by
 by_cases h0:ys=[]
 ·exact .inl h0
 match a,h with
 | none,h =>
  rcases h.2 with ⟨_,hn⟩|⟨g,cap,cur,hv,_⟩
  ·exact absurd (List.eq_nil_of_length_eq_zero hn) h0
  ·cases hv
 | some ⟨g,off,sp⟩,h =>
  have hsp:sp=none:=by
   rcases h.2 with ⟨hv,_⟩|⟨g',cap,cur,hv,_⟩
   ·cases hv
   ·cases hv;rfl
  subst hsp
  obtain ⟨rfl,hb,hlt,hc⟩:=row_cells h
  refine .inr ⟨g,0,rfl,hb,hlt,fun i hi=>?_⟩
  have f:=flat_at yCells 4 (fun _=>rfl) ys i hi
  have:=hz _ (List.getElem_mem hi)
  rw [Nat.zero_add]
  refine ⟨hc _ _ ((f 0 (by omega)).trans rfl),hc _ _ ((f 1 (by omega)).trans rfl),hc _ _ ((f 2 (by omega)).trans rfl),hc _ _ ((f 3 (by omega)).trans rfl),?_⟩
  show ys[i].f0.size<=_
  unfold maxLen;omega
theorem ass_row {w:World} {base:Nat} {a:Option Addr} {c:Nat} {aa:List Ad} (h:w.ownsRow base 53 1 (.slice a aa.length c) aa.length (aa.map (·.e))) (hx:∀ x ∈ aa,ExOwn w base x.e x.l) (hl:∀ x ∈ aa,x.l.length<=801):Assr.Row base w a (aa.map Ad.x):=by
 by_cases h0:aa=[]
 ·exact .inl (by rw [h0];rfl)
 match a,h with
 | none,h =>
  rcases h.2 with ⟨_,hn⟩|⟨g,cap,cur,hv,_⟩
  ·exact absurd (List.eq_nil_of_length_eq_zero hn) h0
  ·cases hv
 | some ⟨g,off,sp⟩,h =>
  have hsp:sp=none:=by
   rcases h.2 with ⟨hv,_⟩|⟨g',cap,cur,hv,_⟩
   ·cases hv
   ·cases hv;rfl
  subst hsp
  obtain ⟨rfl,hb,hlt,hc⟩:=row_cells h
  refine .inr ⟨g,0,rfl,hb,hlt,fun i hi=>?_⟩
  have hi':i<aa.length:=by simpa using hi
  have hmem:aa[i] ∈ aa:=List.getElem_mem hi'
  obtain ⟨ea,ec,he,hr⟩:=ex_slice (hx _ hmem)
  rw [List.getElem_map,Nat.zero_add]
  refine ⟨ea,ec,hc i _ (by rw [List.getElem?_map,List.getElem?_eq_getElem hi'];show some aa[i].e=_;rw [he];rfl),hr,?_⟩
  have:=hl _ hmem
  show aa[i].l.length<=_
  unfold maxLen;omega
theorem has_of {w:World} {base:Nat} {ss:List Sd} {ys:List Osyr.X} {aa:List Ad} {a0 a1 a2:Option Addr} {c0 c1 c2:Nat} (h:Ob w base (.slice a0 ss.length c0) ss (.slice a1 ys.length c1) ys (.slice a2 aa.length c2) aa) {m:Nat} (hm:m<=1048576) (hs:Sm m (objX ss ys aa)):Objr.Has base w (objX ss ys aa) a0 a1 a2:=by
 have z0:=hs.s
 have z1:=hs.y
 have z2:=hs.a
 refine ⟨sec_row h.sec h.rw hm hs,by unfold maxLen;omega,sym_row h.rw.sym hs.yx,by unfold maxLen;omega,ass_row h.rw.ass h.rw.aex (fun x hx=>(hs.ax _ (List.mem_map_of_mem hx)).1),by unfold maxLen;omega⟩
theorem small_of {x:Objr.X} {m:Nat} (hm:m<=1048576) (hs:Sm m x):Objr.SmallX x:=by
 have z0:=hs.s
 have z1:=hs.y
 have z2:=hs.a
 refine ⟨⟨by omega,fun i hi=>?_⟩,⟨by omega,fun i hi=>hs.yx _ (List.getElem_mem hi)⟩,⟨by omega,fun i hi=>?_⟩⟩
 ·have hmem:=List.getElem_mem hi
  obtain ⟨q1,q2,q3⟩:=hs.sx _ hmem
  refine ⟨⟨by omega,fun j hj=>?_⟩,q1,q2⟩
  have:=(hs.px _ hmem _ (List.getElem_mem hj)).1
  show _<=1048576
  omega
 ·have:=(hs.ax _ (List.getElem_mem hi)).1
  show _<=1048576
  omega
theorem Sm.le {m m':Nat} {x:Objr.X} (h:Sm m x) (hle:m<=m'):Sm m' x :=
 ⟨by have:=h.s;omega,by have:=h.y;omega,by have:=h.a;omega,fun s hs=>⟨(h.sx s hs).1,(h.sx s hs).2.1,by have:=(h.sx s hs).2.2;omega⟩,h.px,h.yx,h.ax⟩
theorem sm_addS {m:Nat} {x:Objr.X} (h:Sm m x) (s:Secr.X) (h0:s.f0.size<=1048576) (h4:s.f4.size<=1048576) (h5:s.f5=[]):Sm (m+1) ⟨x.f0 ++ [s],x.f1,x.f2⟩:=by
 have h':=Sm.le h (Nat.le_succ m)
 refine ⟨by have:=h.s;simp;omega,h'.y,h'.a,fun t ht=>?_,fun t ht=>?_,h'.yx,h'.ax⟩
 ·rcases List.mem_append.1 ht with ht|ht
  ·exact h'.sx t ht
  ·rw [List.mem_singleton.1 ht,h5];exact ⟨h0,h4,Nat.zero_le _⟩
 ·rcases List.mem_append.1 ht with ht|ht
  ·exact h'.px t ht
  ·rw [List.mem_singleton.1 ht,h5];intro p hp;cases hp
theorem sm_addP {m:Nat} {x:Objr.X} (h:Sm m x) (p:Patr.X) (hp:p.f2.length<=801/\∀ n ∈ p.f2,n.2.2.size<=1048576):Sm (m+1) ⟨addP x.f0 p,x.f1,x.f2⟩:=by
 have h':=Sm.le h (Nat.le_succ m)
 rcases List.eq_nil_or_concat x.f0 with e|⟨S,s,e⟩
 ·rw [e];refine ⟨Nat.zero_le _,h'.y,h'.a,fun t ht=>?_,fun t ht=>?_,h'.yx,h'.ax⟩ <;> cases ht
 ·rw [List.concat_eq_append] at e
  have hl:=h.s
  have hsx:=h.sx
  have hpx:=h.px
  rw [e] at hl hsx hpx
  rw [e,addP_on]
  have hin:s ∈ S ++ [s]:=by simp
  refine ⟨by simp at hl |-;omega,h'.y,h'.a,fun t ht=>?_,fun t ht=>?_,h'.yx,h'.ax⟩
  ·rcases List.mem_append.1 ht with ht|ht
   ·obtain ⟨q1,q2,q3⟩:=hsx t (List.mem_append_left _ ht)
    exact ⟨q1,q2,by omega⟩
   ·rw [List.mem_singleton.1 ht]
    obtain ⟨q1,q2,q3⟩:=hsx s hin
    exact ⟨q1,q2,by simp;omega⟩
  ·rcases List.mem_append.1 ht with ht|ht
   ·exact hpx t (List.mem_append_left _ ht)
   ·rw [List.mem_singleton.1 ht]
    intro q hq
    rcases List.mem_append.1 hq with hq|hq
    ·exact hpx s hin q hq
    ·rw [List.mem_singleton.1 hq];exact hp
theorem sm_addY {m:Nat} {x:Objr.X} (h:Sm m x) (y:Osyr.X) (hy:y.f0.size<=1048576):Sm (m+1) ⟨x.f0,x.f1 ++ [y],x.f2⟩:=by
 have h':=Sm.le h (Nat.le_succ m)
 refine ⟨h'.s,by have:=h.y;simp;omega,h'.a,h'.sx,h'.px,fun z hz=>?_,h'.ax⟩
 rcases List.mem_append.1 hz with hz|hz
 ·exact h'.yx z hz
 ·rw [List.mem_singleton.1 hz];exact hy
theorem sm_addA {m:Nat} {x:Objr.X} (h:Sm m x) (a:Assr.X) (ha:a.f0.length<=801/\∀ n ∈ a.f0,n.2.2.size<=1048576):Sm (m+1) ⟨x.f0,x.f1,x.f2 ++ [a]⟩:=by
 have h':=Sm.le h (Nat.le_succ m)
 refine ⟨h'.s,h'.y,by have:=h.a;simp;omega,h'.sx,h'.px,h'.yx,fun z hz=>?_⟩
 rcases List.mem_append.1 hz with hz|hz
 ·exact h'.ax z hz
 ·rw [List.mem_singleton.1 hz];exact ha
end Rowo
end Go.Proofs.YtepafieckjnkdaaGreatDoor
