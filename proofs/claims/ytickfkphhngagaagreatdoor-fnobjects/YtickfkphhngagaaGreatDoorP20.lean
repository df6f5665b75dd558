import Derived.Test.YtickfkphhngagaaGreatDoorP19
import Derived.Deep.MidRow
set_option linter.all false
set_option maxRecDepth 20000
set_option maxHeartbeats 8000000
open Go.ChangeShapes Go.WideShapes Go.ChangeAt Go.RowKit
open Go.Proofs.Tryz
namespace Go.Proofs.YtickfkphhngagaaGreatDoor
namespace Rown
open Go.Deep
open Otxa (after)
structure Pd where
 p0:Int
 p1:Int
 l:List Stepx.Node
 e:Value
structure Sd where
 nm:ByteArray
 k:Int
 b:Int
 a:Int
 d:ByteArray
 pv:Value
 ps:List Pd
structure Ad where
 l:List Stepx.Node
 e:Value
def Pd.x (p:Pd):Patr.X:=⟨p.p0,p.p1,p.l⟩
def Sd.x (s:Sd):Secr.X:=⟨s.nm,s.k,s.b,s.a,s.d,s.ps.map Pd.x⟩
def Ad.x (a:Ad):Assr.X:=⟨a.l⟩
def objX (ss:List Sd) (ys:List Osyr.X) (aa:List Ad):Objr.X:=⟨ss.map Sd.x,ys,aa.map Ad.x⟩
def Pd.cells (p:Pd):List Value:=[.int .i64 p.p0,.int .i64 p.p1,p.e]
def Sd.cells (s:Sd):List Value:=[.string s.nm,.int .i64 s.k,.int .i64 s.b,.int .i64 s.a,.string s.d,s.pv]
def yCells (y:Osyr.X):List Value:=[.string y.f0,.int .i64 y.f1,.int .i64 y.f2,.bool y.f3]
def Apart (a b:Value):Prop:=a.ownBlock=none \/ a.ownBlock ≠ b.ownBlock
def ExOwn (w:World) (base:Nat) (e:Value) (L:List Stepx.Node):Prop:=Nodm.Own w base e L/\∀ x ∈ L,x.2.2.size<=1048576
structure Rw (w:World) (base:Nat) (ss:List Sd) (yv:Value) (ys:List Osyr.X) (av:Value) (aa:List Ad):Prop where
 pat:∀ s ∈ ss,w.ownsRow base 80 3 s.pv s.ps.length (s.ps.flatMap Pd.cells)
 pex:∀ s ∈ ss,∀ p ∈ s.ps,ExOwn w base p.e p.l
 pvs:(ss.map (·.pv)).Pairwise Apart
 sym:w.ownsRow base 63 4 yv ys.length (ys.flatMap yCells)
 ass:w.ownsRow base 67 1 av aa.length (aa.map (·.e))
 aex:∀ a ∈ aa,ExOwn w base a.e a.l
 evs:(ss.flatMap (fun s=>s.ps.map (·.e)) ++ aa.map (·.e)).Pairwise Apart
structure Ob (w:World) (base:Nat) (sv:Value) (ss:List Sd) (yv:Value) (ys:List Osyr.X) (av:Value) (aa:List Ad):Prop where
 sec:w.ownsRow base 38 6 sv ss.length (ss.flatMap Sd.cells)
 rw:Rw w base ss yv ys av aa
theorem own_below {w w1:World} {base:Nat} {e:TypeId} {size:Nat} {v:Value} {n:Nat} {xs:List Value} (h:w.ownsRow base e size v n xs) (hb:Below w.heap.size w w1):w1.ownsRow base e size v n xs :=
 h.kept (row:=none) ⟨hb.os,hb.tape,hb.output,hb.size,fun k hk _=>hb.block k hk⟩ (by cases hv:Value.ownBlock v <;> simp)
theorem own_ne {w:World} {base base':Nat} {e e':TypeId} {size size':Nat} {v v':Value} {n n':Nat} {xs xs':List Value} (h:w.ownsRow base e size v n xs) (h':w.ownsRow base' e' size' v' n' xs') (hne:e ≠ e'):Apart v v':=by
 rcases h.2 with ⟨rfl,_⟩|⟨g,cap,cur,rfl,_,hg,_⟩
 ·exact .inl rfl
 ·rcases h'.2 with ⟨rfl,_⟩|⟨g',cap',cur',rfl,_,hg',_⟩
  ·exact .inr (by simp [Value.ownBlock])
  ·refine .inr fun q=>?_
   have q:g=g':=by simpa [Value.ownBlock] using q
   subst q
   rw [hg] at hg'
   have:=Option.some.inj hg'
   cases this
   exact hne rfl
theorem own_ne_block {w:World} {base:Nat} {e T:TypeId} {size:Nat} {v:Value} {n:Nat} {xs:List Value} {g:Nat} {cur:Array Value} {m:Nat × Nat} (h:w.ownsRow base e size v n xs) (hg:w.heap[g]? = some (.cells cur T m)) (hne:e ≠ T):v.ownBlock ≠ some g:=by
 rcases h.2 with ⟨rfl,_⟩|⟨g',cap,cur',rfl,_,hg',_⟩
 ·simp [Value.ownBlock]
 ·intro q
  have q:g'=g:=by simpa [Value.ownBlock] using q
  subst q
  rw [hg] at hg'
  have:=Option.some.inj hg'
  cases this
  exact hne rfl
theorem Rw.below {w w':World} {base:Nat} {ss:List Sd} {yv av:Value} {ys:List Osyr.X} {aa:List Ad} (h:Rw w base ss yv ys av aa) (hb:Below w.heap.size w w'):Rw w' base ss yv ys av aa :=
 ⟨fun s hs=>own_below (h.pat s hs) hb,fun s hs p hp=>⟨own_below (h.pex s hs p hp).1 hb,(h.pex s hs p hp).2⟩,h.pvs,own_below h.sym hb,own_below h.ass hb,fun a ha=>⟨own_below (h.aex a ha).1 hb,(h.aex a ha).2⟩,h.evs⟩
theorem Ob.below {w w':World} {base:Nat} {sv:Value} {ss:List Sd} {yv av:Value} {ys:List Osyr.X} {aa:List Ad} (h:Ob w base sv ss yv ys av aa) (hb:Below w.heap.size w w'):Ob w' base sv ss yv ys av aa:=⟨own_below h.sec hb,h.rw.below hb⟩
theorem Rw.other {w w':World} {base:Nat} {ss:List Sd} {yv av:Value} {ys:List Osyr.X} {aa:List Ad} {row:Option Nat} (h:Rw w base ss yv ys av aa) (hg:w.grownBy w' row)
  (hr:∀ (e:TypeId) (size:Nat) (v:Value) (n:Nat) (xs:List Value),(e=80 \/ e=63 \/ e=67 \/ e=122)->w.ownsRow base e size v n xs->v.ownBlock=none \/ v.ownBlock ≠ row):Rw w' base ss yv ys av aa :=
 ⟨fun s hs=>(h.pat s hs).kept hg (hr _ _ _ _ _ (.inl rfl) (h.pat s hs)),fun s hs p hp=>⟨(h.pex s hs p hp).1.kept hg (hr _ _ _ _ _ (.inr (.inr (.inr rfl))) (h.pex s hs p hp).1),(h.pex s hs p hp).2⟩,h.pvs,h.sym.kept hg (hr _ _ _ _ _ (.inr (.inl rfl)) h.sym),h.ass.kept hg (hr _ _ _ _ _ (.inr (.inr (.inl rfl))) h.ass),fun a ha=>⟨(h.aex a ha).1.kept hg (hr _ _ _ _ _ (.inr (.inr (.inr rfl))) (h.aex a ha).1),(h.aex a ha).2⟩,h.evs⟩
theorem Rw.type {w w':World} {base base':Nat} {ss:List Sd} {yv av:Value} {ys:List Osyr.X} {aa:List Ad} {T:TypeId} {size n:Nat} {v:Value} {xs:List Value} (h:Rw w base ss yv ys av aa) (ho:w.ownsRow base' T size v n xs) (hg:w.grownBy w' v.ownBlock)
  (h1:80 ≠ T) (h2:63 ≠ T) (h3:67 ≠ T) (h4:122 ≠ T):Rw w' base ss yv ys av aa :=
 h.other hg fun e size v n xs he hv=>by
  rcases he with rfl|rfl|rfl|rfl
  ·exact own_ne hv ho h1
  ·exact own_ne hv ho h2
  ·exact own_ne hv ho h3
  ·exact own_ne hv ho h4
theorem Rw.cell {w:World} {base:Nat} {ss:List Sd} {yv av:Value} {ys:List Osyr.X} {aa:List Ad} {T:TypeId} {g i:Nat} {cur:Array Value} {m:Nat × Nat} {u:Value} (h:Rw w base ss yv ys av aa) (ho:w.heap[g]? = some (.cells cur T m))
  (h1:80 ≠ T) (h2:63 ≠ T) (h3:67 ≠ T) (h4:122 ≠ T):Rw (w.setCell ⟨g,i,none⟩ u) base ss yv ys av aa :=
 h.other (Nodm.grown_set _ _ _ _) fun e size v n xs he hv=>.inr (by
  rcases he with rfl|rfl|rfl|rfl
  ·exact own_ne_block hv ho h1
  ·exact own_ne_block hv ho h2
  ·exact own_ne_block hv ho h3
  ·exact own_ne_block hv ho h4)
theorem cells_snoc (ss:List Sd) (s:Sd):(ss ++ [s]).flatMap Sd.cells=ss.flatMap Sd.cells ++ s.cells:=by rw [List.flatMap_append];simp
theorem pcells_snoc (ss:List Pd) (s:Pd):(ss ++ [s]).flatMap Pd.cells=ss.flatMap Pd.cells ++ s.cells:=by rw [List.flatMap_append];simp
theorem ycells_snoc (ss:List Osyr.X) (s:Osyr.X):(ss ++ [s]).flatMap yCells=ss.flatMap yCells ++ yCells s:=by rw [List.flatMap_append];simp
theorem pw_snoc {L:List Value} {v:Value} (h:L.Pairwise Apart) (hv:∀ u ∈ L,Apart u v):(L ++ [v]).Pairwise Apart:=by
 rw [List.pairwise_append]
 exact ⟨h,List.pairwise_singleton _ _,fun a ha b hb=>by rw [List.mem_singleton.1 hb];exact hv a ha⟩
theorem Rw.addS {w:World} {base:Nat} {ss:List Sd} {yv av:Value} {ys:List Osyr.X} {aa:List Ad} (h:Rw w base ss yv ys av aa) (nm d:ByteArray) (k b a:Int):Rw w base (ss ++ [⟨nm,k,b,a,d,.slice none 0 0,[]⟩]) yv ys av aa:=by
 refine ⟨fun s hs=>?_,fun s hs p hp=>?_,?_,h.sym,h.ass,h.aex,?_⟩
 ·rcases List.mem_append.1 hs with hs|hs
  ·exact h.pat s hs
  ·rw [List.mem_singleton.1 hs];exact World.ownsRow_nil _ _ _ _
 ·rcases List.mem_append.1 hs with hs|hs
  ·exact h.pex s hs p hp
  ·rw [List.mem_singleton.1 hs] at hp;cases hp
 ·rw [List.map_append]
  exact pw_snoc h.pvs fun u hu=>by
   by_cases hn:u.ownBlock=none
   ·exact .inl hn
   ·exact .inr hn
 ·have:=h.evs
  simpa using this
theorem Apart.symm {a b:Value} (h:Apart a b) (hb:b.ownBlock ≠ none):Apart b a:=h.elim (fun q=>.inr (fun e=>hb (e.trans q))) (fun q=>.inr (fun e=>q e.symm))
theorem apart_fresh {w:World} {base:Nat} {e:TypeId} {size:Nat} {v v':Value} {n:Nat} {xs:List Value} (h:w.ownsRow base e size v n xs) (hv:v'.ownBlock=some w.heap.size):Apart v v':=by
 cases hb:v.ownBlock with
 | none=>exact .inl hb
 | some g =>
  refine .inr fun q=>?_
  rw [hb,hv] at q
  have:=(h.lt g hb).2
  have:=Option.some.inj q
  omega
theorem apart_same {u v v':Value} (h:Apart u v) (hv:v'.ownBlock=v.ownBlock):Apart u v':=h.imp id (fun q e=>q (e.trans hv))
theorem Rw.addP {w w':World} {base:Nat} {S:List Sd} {s:Sd} {yv av:Value} {ys:List Osyr.X} {aa:List Ad} (h:Rw w base (S ++ [s]) yv ys av aa) (p:Pd) (v':Value) (hx:ExOwn w base p.e p.l)
  (hap:∀ u ∈ (S ++ [s]).flatMap (fun s=>s.ps.map (·.e)) ++ aa.map (·.e),Apart u p.e/\Apart p.e u)
  (ho:w'.ownsRow base 80 3 v' (s.ps.length+1) (s.ps.flatMap Pd.cells ++ p.cells)) (hg:w.grownBy w' s.pv.ownBlock) (hv:v'.ownBlock=s.pv.ownBlock \/ v'.ownBlock=some w.heap.size) :
  Rw w' base (S ++ [⟨s.nm,s.k,s.b,s.a,s.d,v',s.ps ++ [p]⟩]) yv ys av aa:=by
 have hp:=h.pat s (by simp)
 have hpv:=h.pvs
 rw [List.map_append,List.pairwise_append] at hpv
 obtain ⟨d1,_,d2⟩:=hpv
 have dS:∀ t ∈ S,Apart t.pv s.pv:=fun t ht=>d2 _ (List.mem_map_of_mem ht) _ (by simp)
 have keep:∀ {e:TypeId} {size n:Nat} {v:Value} {xs:List Value},w.ownsRow base e size v n xs->e ≠ 80->w'.ownsRow base e size v n xs:=fun {e size n v xs} hh hne=>hh.kept hg (own_ne hh hp hne)
 have keepX:∀ {e:Value} {l:List Stepx.Node},ExOwn w base e l->ExOwn w' base e l:=fun {e l} hh=>⟨keep hh.1 (by decide),hh.2⟩
 refine ⟨fun t ht=>?_,fun t ht q hq=>?_,?_,keep h.sym (by decide),keep h.ass (by decide),fun a ha=>keepX (h.aex a ha),?_⟩
 ·rcases List.mem_append.1 ht with ht|ht
  ·exact (h.pat t (List.mem_append_left _ ht)).kept hg (dS t ht)
  ·rw [List.mem_singleton.1 ht]
   show w'.ownsRow _ _ _ v' (s.ps ++ [p]).length ((s.ps ++ [p]).flatMap Pd.cells)
   rw [pcells_snoc,List.length_append]
   exact ho
 ·rcases List.mem_append.1 ht with ht|ht
  ·exact keepX (h.pex t (List.mem_append_left _ ht) q hq)
  ·rw [List.mem_singleton.1 ht] at hq
   rcases List.mem_append.1 hq with hq|hq
   ·exact keepX (h.pex s (by simp) q hq)
   ·rw [List.mem_singleton.1 hq];exact keepX hx
 ·rw [List.map_append]
  refine pw_snoc d1 fun u hu=>?_
  obtain ⟨t,ht,rfl⟩:=List.mem_map.1 hu
  rcases hv with hv|hv
  ·exact apart_same (dS t ht) hv
  ·exact apart_fresh (h.pat t (List.mem_append_left _ ht)) hv
 ·have he:=h.evs
  rw [List.flatMap_append] at he hap |-
  simp only [List.flatMap_cons,List.flatMap_nil,List.append_nil,List.map_append,List.map_cons,List.map_nil] at he hap |-
  have hA:S.flatMap (fun s=>s.ps.map (·.e)) ++ (s.ps.map (·.e) ++ [p.e]) ++ aa.map (·.e)=(S.flatMap (fun s=>s.ps.map (·.e)) ++ s.ps.map (·.e)) ++ (p.e :: aa.map (·.e)):=by simp
  rw [hA,List.pairwise_append]
  rw [List.pairwise_append] at he
  obtain ⟨e1,e2,e3⟩:=he
  refine ⟨e1,List.pairwise_cons.2 ⟨fun u hu=>(hap u (List.mem_append_right _ hu)).2,e2⟩,fun u hu x hx=>?_⟩
  rcases List.mem_cons.1 hx with rfl|hx
  ·exact (hap u (List.mem_append_left _ hu)).1
  ·exact e3 u hu x hx
theorem Rw.addY {w w':World} {base:Nat} {ss:List Sd} {yv av:Value} {ys:List Osyr.X} {aa:List Ad} (h:Rw w base ss yv ys av aa) (y:Osyr.X) (v':Value)
  (ho:w'.ownsRow base 63 4 v' (ys.length+1) (ys.flatMap yCells ++ yCells y)) (hg:w.grownBy w' yv.ownBlock):Rw w' base ss v' (ys ++ [y]) av aa:=by
 have keep:∀ {e:TypeId} {size n:Nat} {v:Value} {xs:List Value},w.ownsRow base e size v n xs->e ≠ 63->w'.ownsRow base e size v n xs:=fun {e size n v xs} hh hne=>hh.kept hg (own_ne hh h.sym hne)
 exact ⟨fun s hs=>keep (h.pat s hs) (by decide),fun s hs p hp=>⟨keep (h.pex s hs p hp).1 (by decide),(h.pex s hs p hp).2⟩,h.pvs,by rw [ycells_snoc,List.length_append];exact ho,keep h.ass (by decide),fun a ha=>⟨keep (h.aex a ha).1 (by decide),(h.aex a ha).2⟩,h.evs⟩
theorem Rw.addA {w w':World} {base:Nat} {ss:List Sd} {yv av:Value} {ys:List Osyr.X} {aa:List Ad} (h:Rw w base ss yv ys av aa) (x:Ad) (v':Value) (hx:ExOwn w base x.e x.l)
  (hap:∀ u ∈ ss.flatMap (fun s=>s.ps.map (·.e)) ++ aa.map (·.e),Apart u x.e)
  (ho:w'.ownsRow base 67 1 v' (aa.length+1) (aa.map (·.e) ++ [x.e])) (hg:w.grownBy w' av.ownBlock):Rw w' base ss yv ys v' (aa ++ [x]):=by
 have keep:∀ {e:TypeId} {size n:Nat} {v:Value} {xs:List Value},w.ownsRow base e size v n xs->e ≠ 67->w'.ownsRow base e size v n xs:=fun {e size n v xs} hh hne=>hh.kept hg (own_ne hh h.ass hne)
 refine ⟨fun s hs=>keep (h.pat s hs) (by decide),fun s hs p hp=>⟨keep (h.pex s hs p hp).1 (by decide),(h.pex s hs p hp).2⟩,h.pvs,keep h.sym (by decide),by rw [List.map_append,List.length_append];exact ho,fun a ha=>?_,?_⟩
 ·rcases List.mem_append.1 ha with ha|ha
  ·exact ⟨keep (h.aex a ha).1 (by decide),(h.aex a ha).2⟩
  ·rw [List.mem_singleton.1 ha];exact ⟨keep hx.1 (by decide),hx.2⟩
 ·rw [List.map_append,<- List.append_assoc]
  exact pw_snoc h.evs hap
theorem Rw.fresh {w w':World} {base:Nat} {ss:List Sd} {yv av:Value} {ys:List Osyr.X} {aa:List Ad} (h:Rw w base ss yv ys av aa) {e:Value} {L:List Stepx.Node} (he:Nodm.Own w' w.heap.size e L) :
  ∀ u ∈ ss.flatMap (fun s=>s.ps.map (·.e)) ++ aa.map (·.e),Apart u e/\Apart e u:=fun u hu=>by
 have hlt:∀ g,u.ownBlock=some g->g<w.heap.size:=by
  rcases List.mem_append.1 hu with hu|hu
  ·obtain ⟨s,hs,hu⟩:=List.mem_flatMap.1 hu
   obtain ⟨p,hp,rfl⟩:=List.mem_map.1 hu
   exact fun g hg=>((h.pex s hs p hp).1.lt g hg).2
  ·obtain ⟨a,ha,rfl⟩:=List.mem_map.1 hu
   exact fun g hg=>((h.aex a ha).1.lt g hg).2
 have hge:∀ g,e.ownBlock=some g->w.heap.size<=g:=fun g hg=>(he.lt g hg).1
 have ne:∀ g,u.ownBlock=some g->e.ownBlock=some g->False:=fun g h1 h2=>by
  have:=hlt g h1;have:=hge g h2;omega
 constructor
 ·cases hb:u.ownBlock with
  | none=>exact .inl hb
  | some g=>exact .inr fun q=>ne g hb (by rw [<- q,hb])
 ·cases hb:e.ownBlock with
  | none=>exact .inl hb
  | some g=>exact .inr fun q=>ne g (by rw [<- q,hb]) hb
theorem own_mono {w:World} {b b':Nat} {e:TypeId} {size:Nat} {v:Value} {n:Nat} {xs:List Value} (hle:b'<=b) (h:w.ownsRow b e size v n xs):w.ownsRow b' e size v n xs :=
 ⟨h.1,h.2.imp id fun ⟨g,c,cur,hv,hb,rest⟩=>⟨g,c,cur,hv,Nat.le_trans hle hb,rest⟩⟩
theorem Rw.mono {w:World} {b b':Nat} {ss:List Sd} {yv av:Value} {ys:List Osyr.X} {aa:List Ad} (hle:b'<=b) (h:Rw w b ss yv ys av aa):Rw w b' ss yv ys av aa :=
 ⟨fun s hs=>own_mono hle (h.pat s hs),fun s hs p hp=>⟨own_mono hle (h.pex s hs p hp).1,(h.pex s hs p hp).2⟩,h.pvs,own_mono hle h.sym,own_mono hle h.ass,fun a ha=>⟨own_mono hle (h.aex a ha).1,(h.aex a ha).2⟩,h.evs⟩
theorem own_slice {w:World} {base n:Nat} {e:TypeId} {size:Nat} {v:Value} {xs:List Value} (h:w.ownsRow base e size v n xs):∃ po cap,v=.slice po n cap:=by
 rcases h.2 with ⟨hv,hn⟩|⟨g,cap,cur,hv,_⟩
 ·exact ⟨none,0,by rw [hv,hn]⟩
 ·exact ⟨_,_,hv⟩
structure Sm (m:Nat) (x:Objr.X):Prop where
 s:x.f0.length<=m
 y:x.f1.length<=m
 a:x.f2.length<=m
 sx:∀ s ∈ x.f0,s.f0.size<=1048576/\s.f4.size<=1048576/\s.f5.length<=m
 px:∀ s ∈ x.f0,∀ p ∈ s.f5,p.f2.length<=801/\∀ n ∈ p.f2,n.2.2.size<=1048576
 yx:∀ y ∈ x.f1,y.f0.size<=1048576
 ax:∀ a ∈ x.f2,a.f0.length<=801/\∀ n ∈ a.f0,n.2.2.size<=1048576
end Rown
namespace Otxd
open Go.Deep
open Optx (decW Pow OpTab)
open Extx (exprT)
open Lib (byteCells strCells)
open Bld (Holds)
open Otxa Otxb Otxt Otxp Otxq Otxc Seco Obje
open Sta0 (Rg rg)
structure Inv (w:World) (B:Nat) (cs:Array Value) (l:List UInt8) (wr:World):Prop where
 hold:Holds B B (byteCells l) wr
 bel:Below w.heap.size w wr
 box:wr.heap[w.heap.size]? = some (.cells cs 26)
 le:B<=wr.heap.size
theorem Inv.step {w wr w':World} {B:Nat} {cs:Array Value} {l l':List UInt8} (h:Inv w B cs l wr) (hw:w.heap.size<B) (hb:Below B wr w') (hh:Holds B B (byteCells l') w'):Inv w B cs l' w' :=
 ⟨hh,h.bel.trans (hb.mono (Nat.le_of_lt hw)),(hb.block _ hw).trans h.box,Nat.le_trans h.le hb.size⟩
theorem Inv.below {w wr w':World} {B:Nat} {cs:Array Value} {l:List UInt8} (h:Inv w B cs l wr) (hw:w.heap.size<B) (hb:Below wr.heap.size wr w'):Inv w B cs l w':=h.step hw (hb.mono h.le) (Bld.holds_below h.hold hb)
theorem implText_any (x:Objr.X) (a0:Option Addr) (c0:Nat) (a1:Option Addr) (c1:Nat) (a2:Option Addr) (c2:Nat) (w:World) (hh:Objr.Has 0 w x a0 a1 a2) (hsm:Objr.SmallX x) (hT:Tabs w) :
  Calls prog 12 #[.agg (ocells x a0 c0 a1 c1 a2 c2)] w fun e w'=>e=.returned (.string (objV x))/\Below w.heap.size w w':=by
 have HT:Hid (Tabs w):=hT
 obtain ⟨u0,hu0⟩ : ∃ u,u=w.alloc (.cells (ocells x a0 c0 a1 c1 a2 c2) 26):=⟨_,rfl⟩
 have hb0:Below w.heap.size w u0:=by rw [hu0];exact zAl _ _
 have co:=fun W (hb:Below w.heap.size w W)=>implObj_any x a0 c0 a1 c1 a2 c2 W (hh.below hb) hsm
 have HB0:Hid (Below w.heap.size w u0):=hb0
 have hbx:u0.heap[w.heap.size]? = some (.cells (ocells x a0 c0 a1 c1 a2 c2) 26):=by rw [hu0];exact (MapKept.heap_alloc w _).1
 have HBX:Hid (u0.heap[w.heap.size]? = some (.cells (ocells x a0 c0 a1 c1 a2 c2) 26)):=hbx
 have HSZ:Hid (w.heap.size<u0.heap.size):=by show _<_;rw [hu0];simp
 have HHas:Hid (Objr.Has 0 w x a0 a1 a2):=hh
 clear hT hb0 hbx hh hsm
 cases hok:objB x
 ·rw [objV_no hok]
  rw [hok] at co
  clear hok
  go_enter func12,ntmps12
  go_upto_region 1 with fail
  rw [<- hu0]
  clear hu0
  have l0:=cel HBX.out 0 (.slice a0 x.f0.length c0) rfl
  have l1:=cel HBX.out 1 (.slice a1 x.f1.length c1) rfl
  have l2:=cel HBX.out 2 (.slice a2 x.f2.length c2) rfl
  go_wp2_with fail
  refine (co _ HB0.out).mono ?_
  rintro e w1 ⟨rfl,b1⟩
  have B1:Hid (Below w.heap.size w w1):=after HB0.out b1
  clear b1
  go_wp2
  go_ret
  exact ⟨rfl,B1.out⟩
 rw [objV_yes hok]
 have HR:Hid (Right x):=right_of hok
 rw [hok] at co
 clear hok
 go_enter func12,ntmps12
 go_upto_region 1 with fail
 rw [<- hu0]
 clear hu0
 have l0:=cel HBX.out 0 (.slice a0 x.f0.length c0) rfl
 have l1:=cel HBX.out 1 (.slice a1 x.f1.length c1) rfl
 have l2:=cel HBX.out 2 (.slice a2 x.f2.length c2) rfl
 go_wp2_with fail
 refine (co _ HB0.out).mono ?_
 rintro e wb ⟨rfl,b1⟩
 have HBb:Hid (Below w.heap.size w wb):=after HB0.out b1
 have HXb:Hid (wb.heap[w.heap.size]? = some (.cells (ocells x a0 c0 a1 c1 a2 c2) 26)):=(b1.block _ HSZ.out).trans HBX.out
 have HSb:Hid (w.heap.size<wb.heap.size):=Nat.lt_of_lt_of_le HSZ.out b1.size
 clear b1 co l0 l1 l2 HB0 HBX HSZ
 go_upto_region 4 with fail
 obtain ⟨u1,hu1⟩ : ∃ u,u=wb.alloc (.cells #[.pointer none,.slice none 0 0] 59):=⟨_,rfl⟩
 obtain ⟨B,hB⟩ : ∃ n,n=wb.heap.size:=⟨_,rfl⟩
 have HH:Hid (Holds B B (byteCells ([] ++ (x.f0.take 0).flatMap secT)) u1):=(show Holds _ _ _ _ from by rw [hu1,hB];exact Bld.holds_new wb)
 have hbu:Below wb.heap.size wb u1:=by rw [hu1];exact zAl _ _
 have HB1:Hid (Below w.heap.size w u1):=after HBb.out hbu
 have HX1:Hid (u1.heap[w.heap.size]? = some (.cells (ocells x a0 c0 a1 c1 a2 c2) 26)):=(hbu.block _ HSb.out).trans HXb.out
 have HwB:Hid (w.heap.size<B):=by show _<_;rw [hB];exact HSb.out
 have HBu:Hid (B<=u1.heap.size):=by show _<=_;rw [hB];exact hbu.size
 rw [<- hu1,<- hB]
 clear hu1 hbu hB HBb HXb HSb
 have HI:Hid (Inv w B (ocells x a0 c0 a1 c1 a2 c2) ([] ++ (x.f0.take 0).flatMap secT) u1):=⟨HH.out,HB1.out,HX1.out,HBu.out⟩
 clear HH HB1 HX1 HBu
 have hn0:=HR.out.l0
 have hn1:=HR.out.l1
 have hn2:=HR.out.l2
 have HL0:Hid (∀ k,((x.f0.take k).flatMap secT).length<=180000*12):=take_flat secT 180000 12 x.f0 hn0 (fun i hi=>sec_len (sec_b (HR.out.sec i hi)))
 have HL1:Hid (∀ k,((x.f1.take k).flatMap symT).length<=100*200):=take_flat symT 100 200 x.f1 hn1 (fun i hi=>symT_le (sym_b hn0 HR.out.sec (HR.out.sym i hi).sym))
 have HL2:Hid (∀ k,((x.f2.take k).flatMap assT).length<=700*12):=take_flat assT 700 12 x.f2 hn2 (fun i hi=>ass_len)
 obtain ⟨n0,hm0⟩ : ∃ n,n=x.f0.length:=⟨_,rfl⟩
 obtain ⟨n1,hm1⟩ : ∃ n,n=x.f1.length:=⟨_,rfl⟩
 obtain ⟨n2,hm2⟩ : ∃ n,n=x.f2.length:=⟨_,rfl⟩
 have HM:Hid (n0=x.f0.length/\n1=x.f1.length/\n2=x.f2.length):=⟨hm0,hm1,hm2⟩
 rw [<- hm0] at hn0
 rw [<- hm1] at hn1
 rw [<- hm2] at hn2
 have l0:u1.cell? ⟨w.heap.size,0,none⟩=some (.slice a0 n0 c0):=by rw [hm0];exact cel HI.out.box 0 _ rfl
 clear hm0 hm1 hm2
 go_wp2_with fail
 go_loopw [15] (fun i wr=>∃ k:Nat,k<=n0/\i=.int .i64 (k:Int)/\Hid (Inv w B (ocells x a0 c0 a1 c1 a2 c2) ([] ++ (x.f0.take k).flatMap secT) wr)) (fun i _=>n0-(intOf i).toNat)
 case atStart=>exact ⟨0,Nat.zero_le _,rfl,HI.out⟩
 case round =>
  obtain ⟨k,hk,rfl,HIk⟩:=hrel
  clear HI l0
  by_cases hlt:k<n0
  ·have hkx:k<x.f0.length:=by rw [<- HM.out.1];exact hlt
   rcases HHas.out.1 with hnil|⟨sb,so,rfl,_,hsb,hat⟩
   ·exfalso;rw [hnil] at hkx;exact absurd hkx (by simp)
   obtain ⟨a5,c5,kA,kH⟩:=sec_at (hat k hkx) hsb
   have hlk:=HL0.out k
   have ct:=tellSec_any w B B ([] ++ (x.f0.take k).flatMap secT) x.f0[k] a5 c5 sb (so+k*6) wr kA kH (sec_b (HR.out.sec k hkx)) HT.out HIk.out.bel (Nat.le_of_lt HwB.out) HIk.out.hold HIk.out.le (by rw [List.nil_append];omega)
   rw [flat_snoc secT [] x.f0 k hkx] at ct
   have l0:wr.cell? ⟨w.heap.size,0,none⟩=some (.slice (some ⟨sb,so,none⟩) n0 c0):=by rw [HM.out.1];exact cel HIk.out.box 0 _ rfl
   have dl:decide ((k:Int)<(n0:Int))=true:=decide_eq_true (by omega)
   have dk:IntKind.i64.wrap ((k:Int)+1)=((k+1:Nat):Int):=by rw [IntKind.wrap_i64];omega
   have z0:(0:Int)<=(k:Int):=by omega
   have z1:(k:Int)<(n0:Int):=by omega
   clear hat kA kH
   go_wp2_with fail
   refine ct.mono ?_
   rintro e w2 ⟨rfl,h2,b2⟩
   have HI2:Hid (Inv w B (ocells x (some ⟨sb,so,none⟩) c0 a1 c1 a2 c2) ([] ++ (x.f0.take (k+1)).flatMap secT) w2):=HIk.out.step HwB.out b2 h2
   clear ct h2 b2 HIk l0
   go_wp2
   go_roundw
   case rel=>exact ⟨k+1,by omega,by go_num,HI2.out⟩
   case measure=>simp [intOf];omega
  ·have e:k=n0:=by omega
   subst e
   have dl:decide ((k:Int)<(k:Int))=false:=decide_eq_false (by omega)
   have hT0:=HL0.out k
   rw [HM.out.1,flat_all,List.nil_append] at HIk
   rw [HM.out.1,List.take_length] at hT0
   have HT1:Hid (objT x=x.f0.flatMap secT ++ x.f1.flatMap symT ++ x.f2.flatMap assT):=(show _=_ from rfl)
   generalize x.f0.flatMap secT=T0 at HIk hT0 HT1
   have HI:Hid (Inv w B (ocells x a0 c0 a1 c1 a2 c2) (T0 ++ (x.f1.take 0).flatMap symT) wr):=(show Inv _ _ _ _ _ from by rw [List.take_zero,List.flatMap_nil,List.append_nil];exact HIk.out)
   have l1:wr.cell? ⟨w.heap.size,1,none⟩=some (.slice a1 n1 c1):=by rw [HM.out.2.1];exact cel HI.out.box 1 _ rfl
   clear HIk HL0
   go_wp2_with fail
   go_loopw [27] (fun i wq=>∃ q:Nat,q<=n1/\i=.int .i64 (q:Int)/\Hid (Inv w B (ocells x a0 c0 a1 c1 a2 c2) (T0 ++ (x.f1.take q).flatMap symT) wq)) (fun i _=>n1-(intOf i).toNat)
   case atStart=>exact ⟨0,Nat.zero_le _,rfl,HI.out⟩
   case round =>
    obtain ⟨q,hq,rfl,HIq⟩:=hrel
    clear HI l1
    by_cases hlq:q<n1
    ·have hqx:q<x.f1.length:=by rw [<- HM.out.2.1];exact hlq
     rcases HHas.out.2.2.1 with hnil|⟨sb,so,rfl,_,hsb,hat⟩
     ·exfalso;rw [hnil] at hqx;exact absurd hqx (by simp)
     obtain ⟨d0,d1,d2,d3,_⟩:=hat q hqx
     have hsy:=sym_b (by have:=HR.out.l0;exact this) HR.out.sec (HR.out.sym q hqx).sym
     have HFS:Hid ((T0 ++ (x.f1.take q).flatMap symT) ++ symT x.f1[q]=T0 ++ (x.f1.take (q+1)).flatMap symT):=flat_snoc symT T0 x.f1 q hqx
     have HPT:Hid (symT x.f1[q]=line [wSymbol,x.f1[q].f0,decW x.f1[q].f1,decW x.f1[q].f2,decW (outN x.f1[q].f3)]):=(show _=_ from rfl)
     have hptl:=symT_le hsy
     have hpk:=HL1.out q
     have e0:=(HIq.out.bel.cell (p:=⟨sb,_,none⟩) hsb).trans d0
     have e1:=(HIq.out.bel.cell (p:=⟨sb,_,none⟩) hsb).trans d1
     have e2:=(HIq.out.bel.cell (p:=⟨sb,_,none⟩) hsb).trans d2
     have e3:=(HIq.out.bel.cell (p:=⟨sb,_,none⟩) hsb).trans d3
     obtain ⟨_,s0,s1,t0,t1⟩:=hsy
     clear hat d0 d1 d2 d3
     generalize x.f1[q]=P at *
     obtain ⟨u,hu⟩ : ∃ u,u=wr.alloc (.cells #[.string P.f0,.int .i64 P.f1,.int .i64 P.f2,.bool P.f3] 63):=⟨_,rfl⟩
     obtain ⟨bp,hbp⟩ : ∃ n,n=wr.heap.size:=⟨_,rfl⟩
     have q0:u.cell? ⟨bp,0,none⟩=some (.string P.f0):=by rw [hu,hbp];exact World.cell?_alloc_new _ _ _ _
     have q1:u.cell? ⟨bp,1,none⟩=some (.int .i64 P.f1):=by rw [hu,hbp];exact World.cell?_alloc_new _ _ _ _
     have q2:u.cell? ⟨bp,2,none⟩=some (.int .i64 P.f2):=by rw [hu,hbp];exact World.cell?_alloc_new _ _ _ _
     have q3:u.cell? ⟨bp,3,none⟩=some (.bool P.f3):=by rw [hu,hbp];exact World.cell?_alloc_new _ _ _ _
     have hub:Below wr.heap.size wr u:=by rw [hu];exact zAl _ _
     have HIu:=(show Hid _ from HIq.out.below HwB.out hub)
     have k1:Rg 38 #[.int .i64 P.f1] u (.string (decW P.f1)):=rg fun W hb=>decimal_any P.f1 W (HT.out.below (after HIu.out.bel hb)).pow (by omega) (by omega)
     have k2:Rg 38 #[.int .i64 P.f2] u (.string (decW P.f2)):=rg fun W hb=>decimal_any P.f2 W (HT.out.below (after HIu.out.bel hb)).pow (by omega) (by omega)
     have k3:Rg 38 #[.int .i64 (outN P.f3)] u (.string (decW (outN P.f3))):=rg fun W hb=>decimal_any (outN P.f3) W (HT.out.below (after HIu.out.bel hb)).pow (by unfold outN;split <;> omega) (by unfold outN;split <;> omega)
     have k4:Rg 39 #[.bool P.f3,.int .i64 1,.int .i64 0] u (.int .i64 (outN P.f3)):=rg fun W hb=>(chosen_any P.f3 1 0 W).mono fun e w' h=>⟨h.1,by rw [h.2];exact zRf⟩
     have r0:=cell_regrown q0
     have r1:=cell_regrown q1
     have r2:=cell_regrown q2
     have r3:=cell_regrown q3
     have dl:decide ((q:Int)<(n1:Int))=true:=decide_eq_true (by omega)
     have dk:IntKind.i64.wrap ((q:Int)+1)=((q+1:Nat):Int):=by rw [IntKind.wrap_i64];omega
     have z0:(0:Int)<=(q:Int):=by omega
     have z1:(q:Int)<(n1:Int):=by omega
     clear hub
     go_upto_region 12 with fail
     rw [<- hu,<- hbp]
     clear hu hbp e0 e1 e2 e3 q0 q1 q2 q3 HIq
     refine Qtail.tail_below 12 (by kernel_rfl) (by kernel_rfl) ?_
     simp only [List.take_succ_cons,List.take_zero,List.drop_succ_cons,List.drop_zero]
     generalize decW P.f1=D1 at k1 HPT
     generalize decW P.f2=D2 at k2 HPT
     generalize decW (outN P.f3)=D3 at k3 HPT
     generalize outN P.f3=on3 at k3 k4
     repeat (go_big_quiet_step (first|fail|with_reducible exact k1 _ _|with_reducible exact k2 _ _|with_reducible exact k3 _ _|with_reducible exact k4 _ _))
     refine wpQuiet_nil ?_
     intro _ hw'
     obtain ⟨⟨dq,osq⟩,hw''⟩:=hw'
     subst hw''
     have hbr:=below_regrown u dq osq
     generalize Go.Sort.grow (redrawn u dq) osq=W3 at hbr |-
     have HI3:=(show Hid _ from HIu.out.below HwB.out hbr)
     clear hbr r0 r1 r2 r3 k1 k2 k3 k4 HIu
     have HI3':=(show Hid _ from HI3.out.below HwB.out ((Below.refl W3.heap.size W3).alloc (Nat.le_refl _) (.cells #[.string ⟨#[115,121,109,98,111,108]⟩,.string P.f0,.string D1,.string D2,.string D3] 9)))
     go_wp2_with fail
     refine (tell_any B B W3.heap.size 5 _ [wSymbol,P.f0,D1,D2,D3] _ HI3'.out.hold HI3'.out.le (row_lit rfl) (by simp) (Nat.le_refl _) (by simp) (by rw [<- HPT.out,List.length_append];omega)).mono ?_
     rintro e w4 ⟨rfl,h4,b4⟩
     rw [<- HPT.out,HFS.out] at h4
     have HI4:=(show Hid _ from HI3'.out.step HwB.out b4 h4)
     clear h4 b4 HI3 HI3'
     go_wp2
     go_roundw
     case rel=>exact ⟨q+1,by omega,by go_num,HI4.out⟩
     case measure=>simp [intOf];omega
    ·have e:q=n1:=by omega
     subst e
     have dq:decide ((q:Int)<(q:Int))=false:=decide_eq_false (by omega)
     have hT1:=HL1.out q
     rw [HM.out.2.1,flat_all] at HIq
     rw [HM.out.2.1,List.take_length] at hT1
     generalize x.f1.flatMap symT=T1 at HIq hT1 HT1
     have HI:Hid (Inv w B (ocells x a0 c0 a1 c1 a2 c2) ((T0 ++ T1) ++ (x.f2.take 0).flatMap assT) wr):=(show Inv _ _ _ _ _ from by rw [List.take_zero,List.flatMap_nil,List.append_nil];exact HIq.out)
     have l2:wr.cell? ⟨w.heap.size,2,none⟩=some (.slice a2 n2 c2):=by rw [HM.out.2.2];exact cel HI.out.box 2 _ rfl
     have hTT:(T0 ++ T1).length<=180000*12+100*200:=by rw [List.length_append];omega
     generalize T0 ++ T1=T01 at HI HT1 hTT
     clear HIq HL1
     go_wp2_with fail
     go_loopw [49] (fun i wq=>∃ z:Nat,z<=n2/\i=.int .i64 (z:Int)/\Hid (Inv w B (ocells x a0 c0 a1 c1 a2 c2) (T01 ++ (x.f2.take z).flatMap assT) wq)) (fun i _=>n2-(intOf i).toNat)
     case atStart=>exact ⟨0,Nat.zero_le _,rfl,HI.out⟩
     case round =>
      obtain ⟨z,hz,rfl,HIz⟩:=hrel
      clear HI l2
      by_cases hlz:z<n2
      ·have hzx:z<x.f2.length:=by rw [<- HM.out.2.2];exact hlz
       rcases HHas.out.2.2.2.2.1 with hnil|⟨sb,so,rfl,_,hsb,hat⟩
       ·exfalso;rw [hnil] at hzx;exact absurd hzx (by simp)
       obtain ⟨ae,ce,d0,hrow,_⟩:=hat z hzx
       have hel:=expr_le (HR.out.ass z hzx)
       have HFS:Hid ((T01 ++ (x.f2.take z).flatMap assT) ++ assT x.f2[z]=T01 ++ (x.f2.take (z+1)).flatMap assT):=flat_snoc assT T01 x.f2 z hzx
       have HPT:Hid (assT x.f2[z]=line [wAssert,exprT x.f2[z].f0]):=(show _=_ from rfl)
       have hptl:=ass_len (a:=x.f2[z])
       have hpk:=HL2.out z
       have e0:=(HIz.out.bel.cell (p:=⟨sb,_,none⟩) hsb).trans d0
       clear hat d0
       generalize x.f2[z]=P at *
       have cx:=Extx.implText_any ae ce P.f0 wr (hrow.below HIz.out.bel).1 (by omega) (HT.out.below HIz.out.bel).op (HT.out.below HIz.out.bel).pow
       have dl:decide ((z:Int)<(n2:Int))=true:=decide_eq_true (by omega)
       have dk:IntKind.i64.wrap ((z:Int)+1)=((z+1:Nat):Int):=by rw [IntKind.wrap_i64];omega
       have z0:(0:Int)<=(z:Int):=by omega
       have z1:(z:Int)<(n2:Int):=by omega
       generalize exprT P.f0=D1 at cx HPT
       clear hrow
       go_wp2_with fail
       refine cx.mono ?_
       rintro e W3 ⟨rfl,hbr⟩
       have HI3:=(show Hid _ from HIz.out.below HwB.out hbr)
       have HI3':=(show Hid _ from HI3.out.below HwB.out ((Below.refl W3.heap.size W3).alloc (Nat.le_refl _) (.cells #[.string ⟨#[97,115,115,101,114,116]⟩,.string D1] 9)))
       clear hbr cx e0 HIz HI3
       go_wp2_with fail
       refine (tell_any B B W3.heap.size 2 _ [wAssert,D1] _ HI3'.out.hold HI3'.out.le (row_lit rfl) (by simp) (Nat.le_refl _) (by simp) (by rw [<- HPT.out,List.length_append];omega)).mono ?_
       rintro e w4 ⟨rfl,h4,b4⟩
       rw [<- HPT.out,HFS.out] at h4
       have HI4:=(show Hid _ from HI3'.out.step HwB.out b4 h4)
       clear h4 b4 HI3'
       go_wp2
       go_roundw
       case rel=>exact ⟨z+1,by omega,by go_num,HI4.out⟩
       case measure=>simp [intOf];omega
      ·have e:z=n2:=by omega
       subst e
       have dz:decide ((z:Int)<(z:Int))=false:=decide_eq_false (by omega)
       rw [HM.out.2.2,flat_all,<- HT1.out] at HIz
       have cs:=Tryz.Builder_String_any B B (objT x) wr HIz.out.hold HIz.out.le
       have HBW:Hid (Below w.heap.size w wr):=HIz.out.bel
       obtain ⟨R,hR⟩ : ∃ R,R=(⟨(objT x).toArray⟩ : ByteArray):=⟨_,rfl⟩
       rw [<- hR] at cs
       have HRR:Hid ((⟨(objT x).toArray⟩ : ByteArray)=R):=hR.symm
       clear hR
       clear HIz
       go_wp2_with fail
       refine cs.mono ?_
       rintro e w5 ⟨rfl,b5⟩
       have B5:Hid (Below w.heap.size w w5):=HBW.out.trans (b5.mono (Nat.le_of_lt HwB.out))
       clear b5 cs
       go_wp2
       go_ret
       exact ⟨ret_str HRR.out,B5.out⟩
end Otxd
end Go.Proofs.YtickfkphhngagaaGreatDoor
