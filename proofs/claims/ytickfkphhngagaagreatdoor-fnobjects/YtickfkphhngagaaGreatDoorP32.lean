import Derived.Test.YtickfkphhngagaaGreatDoorP31
set_option linter.all false
set_option maxRecDepth 20000
set_option maxHeartbeats 8000000
open Go.ChangeShapes Go.WideShapes Go.ChangeAt Go.RowKit
open Go.Proofs.Tryz
namespace Go.Proofs.YtickfkphhngagaaGreatDoor
namespace Objd
open Go.Deep
open Rown Rowo Rliq Rlip Drob Secd
open Rdr (Rd Post)
theorem section_lit (rb:Nat) (w:World) (h:Rd w rb):Calls prog 43 #[.pointer (some ⟨rb,0,none⟩)] w fun e w'=>(∃ (nm:ByteArray) (k bk ad:Int) (dt:ByteArray) (pa:Option Addr) (n pc:Nat) (ps:List Pd),e=.returned (.agg #[.string nm,.int .i64 k,.int .i64 bk,.int .i64 ad,.string dt,.slice pa n pc])/\Sw w' w.heap.size ⟨nm,k,bk,ad,dt,.slice pa n pc,ps⟩/\Xn (Sd.x ⟨nm,k,bk,ad,dt,.slice pa n pc,ps⟩))/\Post w rb w':=by
 refine (section_any rb w h).mono ?_
 rintro e w' ⟨⟨⟨nm,k,bk,ad,dt,pv,ps⟩,rfl,hs,hx⟩,hp⟩
 obtain ⟨pa,pc,hpv⟩:=own_slice hs.pat
 have hpv:pv=.slice pa ps.length pc:=hpv
 subst hpv
 exact ⟨⟨nm,k,bk,ad,dt,pa,ps.length,pc,ps,rfl,hs,hx⟩,hp⟩
abbrev zO:Array Value:=#[.slice none 0 0,.slice none 0 0,.slice none 0 0]
abbrev nil0:Value:=.slice none 0 0
def Bo (W:World) (b:Nat) (x0 x1 x2:Value):Prop :=
 (W.cell? ⟨b,0,none⟩=some x0/\W.frozen? ⟨b,0,none⟩=false)/\(W.cell? ⟨b,1,none⟩=some x1/\W.frozen? ⟨b,1,none⟩=false)/\(W.cell? ⟨b,2,none⟩=some x2/\W.frozen? ⟨b,2,none⟩=false)
theorem Bo.same {W W':World} {b:Nat} {x0 x1 x2:Value} (h:Bo W b x0 x1 x2) (hb:W'.heap[b]? = W.heap[b]?):Bo W' b x0 x1 x2:=by
 have e:∀ i,W'.cell? ⟨b,i,none⟩=W.cell? ⟨b,i,none⟩/\W'.frozen? ⟨b,i,none⟩=W.frozen? ⟨b,i,none⟩:=fun i=>⟨World.cell?_of_block (a:=⟨b,i,none⟩) hb,World.frozen?_of_block (a:=⟨b,i,none⟩) hb⟩
 unfold Bo;rw [(e 0).1,(e 0).2,(e 1).1,(e 1).2,(e 2).1,(e 2).2];exact h
theorem Bo.set {W:World} {b:Nat} {x0 x1 x2:Value} (h:Bo W b x0 x1 x2) (v:Value):Bo (W.setCell ⟨b,0,none⟩ v) b v x1 x2/\Bo (W.setCell ⟨b,1,none⟩ v) b x0 v x2/\Bo (W.setCell ⟨b,2,none⟩ v) b x0 x1 v:=by
 obtain ⟨⟨a0,f0⟩,⟨a1,f1⟩,⟨a2,f2⟩⟩:=h
 have o:∀ (i j:Nat) (u:Value),i ≠ j->W.cell? ⟨b,j,none⟩=some u->(W.setCell ⟨b,i,none⟩ v).cell? ⟨b,j,none⟩=some u:=fun i j u hij hu=>(World.cell?_setCell_other W _ _ _ (fun e=>hij (congrArg Addr.off e))).trans hu
 unfold Bo
 simp only [World.frozen?_setCell]
 exact ⟨⟨⟨World.cell?_setCell_same _ _ _ a0,f0⟩,⟨o _ _ _ (by decide) a1,f1⟩,⟨o _ _ _ (by decide) a2,f2⟩⟩,
  ⟨⟨o _ _ _ (by decide) a0,f0⟩,⟨World.cell?_setCell_same _ _ _ a1,f1⟩,⟨o _ _ _ (by decide) a2,f2⟩⟩,
  ⟨⟨o _ _ _ (by decide) a0,f0⟩,⟨o _ _ _ (by decide) a1,f1⟩,⟨World.cell?_setCell_same _ _ _ a2,f2⟩⟩⟩
theorem Bo.of {W:World} {b:Nat} {x0 x1 x2:Value} {T:TypeId} (h:W.heap[b]? = some (.cells #[x0,x1,x2] T (0,0))):Bo W b x0 x1 x2:=by
 unfold Bo
 refine ⟨⟨?_,frozen_of_row _ _ _ _ _ h⟩,⟨?_,frozen_of_row _ _ _ _ _ h⟩,⟨?_,frozen_of_row _ _ _ _ _ h⟩⟩ <;> (rw [cell_of_row _ _ _ _ _ _ h];rfl)
def Bq (W:World) (b:Nat) (x0 x1 x2 x3:Value):Prop :=
 (W.cell? ⟨b,0,none⟩=some x0/\W.frozen? ⟨b,0,none⟩=false)/\(W.cell? ⟨b,1,none⟩=some x1/\W.frozen? ⟨b,1,none⟩=false)/\(W.cell? ⟨b,2,none⟩=some x2/\W.frozen? ⟨b,2,none⟩=false)/\(W.cell? ⟨b,3,none⟩=some x3/\W.frozen? ⟨b,3,none⟩=false)
theorem Bq.same {W W':World} {b:Nat} {x0 x1 x2 x3:Value} (h:Bq W b x0 x1 x2 x3) (hb:W'.heap[b]? = W.heap[b]?):Bq W' b x0 x1 x2 x3:=by
 have e:∀ i,W'.cell? ⟨b,i,none⟩=W.cell? ⟨b,i,none⟩/\W'.frozen? ⟨b,i,none⟩=W.frozen? ⟨b,i,none⟩:=fun i=>⟨World.cell?_of_block (a:=⟨b,i,none⟩) hb,World.frozen?_of_block (a:=⟨b,i,none⟩) hb⟩
 unfold Bq;rw [(e 0).1,(e 0).2,(e 1).1,(e 1).2,(e 2).1,(e 2).2,(e 3).1,(e 3).2];exact h
theorem Bq.set {W:World} {b:Nat} {x0 x1 x2 x3:Value} (h:Bq W b x0 x1 x2 x3) (v:Value) :
  Bq (W.setCell ⟨b,0,none⟩ v) b v x1 x2 x3/\Bq (W.setCell ⟨b,1,none⟩ v) b x0 v x2 x3/\Bq (W.setCell ⟨b,2,none⟩ v) b x0 x1 v x3/\Bq (W.setCell ⟨b,3,none⟩ v) b x0 x1 x2 v:=by
 obtain ⟨⟨a0,f0⟩,⟨a1,f1⟩,⟨a2,f2⟩,⟨a3,f3⟩⟩:=h
 have o:∀ (i j:Nat) (u:Value),i ≠ j->W.cell? ⟨b,j,none⟩=some u->(W.setCell ⟨b,i,none⟩ v).cell? ⟨b,j,none⟩=some u:=fun i j u hij hu=>(World.cell?_setCell_other W _ _ _ (fun e=>hij (congrArg Addr.off e))).trans hu
 unfold Bq
 simp only [World.frozen?_setCell]
 exact ⟨⟨⟨World.cell?_setCell_same _ _ _ a0,f0⟩,⟨o _ _ _ (by decide) a1,f1⟩,⟨o _ _ _ (by decide) a2,f2⟩,⟨o _ _ _ (by decide) a3,f3⟩⟩,
  ⟨⟨o _ _ _ (by decide) a0,f0⟩,⟨World.cell?_setCell_same _ _ _ a1,f1⟩,⟨o _ _ _ (by decide) a2,f2⟩,⟨o _ _ _ (by decide) a3,f3⟩⟩,
  ⟨⟨o _ _ _ (by decide) a0,f0⟩,⟨o _ _ _ (by decide) a1,f1⟩,⟨World.cell?_setCell_same _ _ _ a2,f2⟩,⟨o _ _ _ (by decide) a3,f3⟩⟩,
  ⟨⟨o _ _ _ (by decide) a0,f0⟩,⟨o _ _ _ (by decide) a1,f1⟩,⟨o _ _ _ (by decide) a2,f2⟩,⟨World.cell?_setCell_same _ _ _ a3,f3⟩⟩⟩
theorem Bq.stored {W:World} {b:Nat} {y0 y1 y2 y3:Value} (h:Bq W b y0 y1 y2 y3) (x0 x1 x2 x3:Value):Bq ((((W.setCell ⟨b,0,none⟩ x0).setCell ⟨b,1,none⟩ x1).setCell ⟨b,2,none⟩ x2).setCell ⟨b,3,none⟩ x3) b x0 x1 x2 x3 :=
 ((((h.set x0).1.set x1).2.1.set x2).2.2.1.set x3).2.2.2
theorem Bq.new (W:World) (x0 x1 x2 x3:Value) (T:TypeId):Bq (W.alloc (.cells #[x0,x1,x2,x3] T)) W.heap.size x0 x1 x2 x3:=by
 have h:(W.alloc (.cells #[x0,x1,x2,x3] T)).heap[W.heap.size]? = some (.cells #[x0,x1,x2,x3] T (0,0)):=(MapKept.heap_alloc W _).1
 unfold Bq
 refine ⟨⟨?_,frozen_of_row _ _ _ _ _ h⟩,⟨?_,frozen_of_row _ _ _ _ _ h⟩,⟨?_,frozen_of_row _ _ _ _ _ h⟩,⟨?_,frozen_of_row _ _ _ _ _ h⟩⟩ <;> (rw [cell_of_row _ _ _ _ _ _ h];rfl)
theorem Bq.alloc {W:World} {b:Nat} {x0 x1 x2 x3:Value} (h:Bq W b x0 x1 x2 x3) (hb:b<W.heap.size) (o:Obj):Bq (W.alloc o) b x0 x1 x2 x3:=h.same (Below.heap_alloc _ _ _ hb)
theorem Bq.post {W W':World} {rb b:Nat} {x0 x1 x2 x3:Value} (h:Bq W b x0 x1 x2 x3) (hp:Post W rb W') (hb:b<W.heap.size) (hn:b ≠ rb):Bq W' b x0 x1 x2 x3:=h.same (hp.2.block b hb (fun e=>hn (Option.some.inj e)))
theorem post_set4 {a w:World} {rb:Nat} (h:Post a rb w) (b:Nat) (x0 x1 x2 x3:Value) (hb:a.heap.size<=b) (hl:rb<a.heap.size) :
  Post a rb ((((w.setCell ⟨b,0,none⟩ x0).setCell ⟨b,1,none⟩ x1).setCell ⟨b,2,none⟩ x2).setCell ⟨b,3,none⟩ x3) :=
 post_set (post_set (post_set (post_set h b 0 _ hb hl) b 1 _ hb hl) b 2 _ hb hl) b 3 _ hb hl
abbrev names4:Array Value:=#[.string ⟨#[97,49]⟩,.string ⟨#[101,110,100,95]⟩,.string ⟨#[108,111,111,112]⟩,.string ⟨#[120,46,121]⟩]
theorem four_at (k:Nat) (h:k<4):∃ nm:ByteArray,nm.size<=16/\names4[k]? = some (.string nm):=by
 match k,h with
 | 0,_=>exact ⟨_,by decide,rfl⟩
 | 1,_=>exact ⟨_,by decide,rfl⟩
 | 2,_=>exact ⟨_,by decide,rfl⟩
 | 3,_=>exact ⟨_,by decide,rfl⟩
structure Os (w:World) (rb b:Nat) (tb:Option Nat) (W:World) (sv:Value) (ss:List Sd) (yv:Value) (ys:List Osyr.X) (av:Value) (aa:List Ad):Prop where
 p:Post w rb W
 hb:w.heap.size<b
 lt:b<W.heap.size
 res:W.heap[w.heap.size]? = some (.cells zO 26 (0,0))
 box:Bo W b sv yv av
 nm:∀ g,tb=some g->b<g/\W.heap[g]? = some (.cells names4 9 (0,0))
 own:Dw W (b+1) sv ss yv ys av aa
theorem at_lt {W:World} {g:Nat} {o:Obj} (h:W.heap[g]? = some o):g<W.heap.size:=(zLo h)
theorem Os.post {w W W':World} {rb b:Nat} {tb:Option Nat} {sv yv av:Value} {ss:List Sd} {ys:List Osyr.X} {aa:List Ad} (h:Os w rb b tb W sv ss yv ys av aa) (hr:rb<w.heap.size) (hp:Post W rb W'):Os w rb b tb W' sv ss yv ys av aa :=
 have hb:=h.hb
 ⟨h.p.trans hp,hb,Nat.lt_of_lt_of_le h.lt hp.2.size,(hp.2.block _ (by have:=h.lt;omega) (fun e=>by have:=Option.some.inj e;omega)).trans h.res,h.box.same (hp.2.block _ h.lt (fun e=>by have:=Option.some.inj e;omega)),
 fun g hg=>by obtain ⟨n1,n2⟩:=h.nm g hg;exact ⟨n1,(hp.2.block _ (at_lt n2) (fun e=>by have:=Option.some.inj e;omega)).trans n2⟩,h.own.post hp (by omega)⟩
theorem Os.drew {w W:World} {rb b:Nat} {tb:Option Nat} {sv yv av:Value} {ss:List Sd} {ys:List Osyr.X} {aa:List Ad} (h:Os w rb b tb W sv ss yv ys av aa) (hr:rb<w.heap.size):Os w rb b tb W.drew sv ss yv ys av aa:=h.post hr (Post.of h.p.1 rfl rfl rfl rfl)
theorem Os.alloc {w W:World} {rb b:Nat} {tb:Option Nat} {sv yv av:Value} {ss:List Sd} {ys:List Osyr.X} {aa:List Ad} (h:Os w rb b tb W sv ss yv ys av aa) (hr:rb<w.heap.size) (o:Obj):Os w rb b tb (W.alloc o) sv ss yv ys av aa:=h.post hr ((Post.refl h.p.1).alloc o)
theorem Os.grown {w W W':World} {rb b:Nat} {tb:Option Nat} {sv yv av:Value} {ss:List Sd} {ys:List Osyr.X} {aa:List Ad} (h:Os w rb b tb W sv ss yv ys av aa) (hr:rb<w.heap.size) {row:Option Nat} (hrow:∀ g,row=some g->b<g) (hnm:∀ g,tb=some g->row ≠ some g) (hg:W.grownBy W' row) (i:Nat) (v:Value) :
  Post w rb (W'.setCell ⟨b,i,none⟩ v)/\b<(W'.setCell ⟨b,i,none⟩ v).heap.size/\(W'.setCell ⟨b,i,none⟩ v).heap[w.heap.size]? = some (.cells zO 26 (0,0)) /\
   (∀ g,tb=some g->b<g/\(W'.setCell ⟨b,i,none⟩ v).heap[g]? = some (.cells names4 9 (0,0)))/\Bo W' b sv yv av:=by
 have hb:=h.hb
 have hl:=h.lt
 have far:∀ k,k<=b->k<W.heap.size->W'.heap[k]? = W.heap[k]?:=fun k hk hl=>hg.block k hl (fun e=>by have:=hrow k e.symm;omega)
 have hP:Post w rb W':=by
  refine ⟨h.p.1.kept fun k hk=>far k (by omega) (by omega),⟨hg.os.trans h.p.2.os,hg.tape.trans h.p.2.tape,hg.output.trans h.p.2.output,Nat.le_trans h.p.2.size hg.size,fun k hk hne=>?_⟩⟩
  exact (far k (by omega) (by omega)).trans (h.p.2.block k hk hne)
 refine ⟨post_set hP b i v (by omega) hr,by rw [World.size_setCell];exact Nat.lt_of_lt_of_le hl hg.size,((Below.heap_setCell W' _ _ _ (fun e=>by have e:w.heap.size=b:=e;omega)).trans (far _ (by omega) (by omega))).trans h.res,fun g hgt=>?_,h.box.same (far b (Nat.le_refl _) hl)⟩
 obtain ⟨n1,n2⟩:=h.nm g hgt
 exact ⟨n1,((Below.heap_setCell W' _ _ _ (fun e=>by have e:g=b:=e;omega)).trans (hg.block g (at_lt n2) (fun e=>hnm g hgt e.symm))).trans n2⟩
theorem own_gt {W:World} {b:Nat} {e:TypeId} {size n:Nat} {v:Value} {xs:List Value} (h:W.ownsRow (b+1) e size v n xs):∀ g,v.ownBlock=some g->b<g:=fun g hg=>(h.lt g hg).1
theorem Os.addS {w W W':World} {rb b:Nat} {tb:Option Nat} {sv yv av:Value} {ss:List Sd} {ys:List Osyr.X} {aa:List Ad} (h:Os w rb b tb W sv ss yv ys av aa) (hr:rb<w.heap.size) (s:Sd) (v':Value) (hs:Sw W (b+1) s)
  (ho:W'.ownsRow (b+1) 38 6 v' (ss.length+1) (ss.flatMap Sd.cells ++ s.cells)) (hg:W.grownBy W' sv.ownBlock) :
  Os w rb b tb (W'.setCell ⟨b,0,none⟩ v') v' (ss ++ [s]) yv ys av aa/\W'.cell? ⟨b,0,none⟩=some sv/\W'.frozen? ⟨b,0,none⟩=false:=by
 obtain ⟨p,l,r,n,x⟩:=h.grown hr (own_gt h.own.sec) (fun g hg=>own_ne_block h.own.sec (h.nm g hg).2 (by decide)) hg 0 v'
 exact ⟨⟨p,h.hb,l,r,(x.set v').1,n,(h.own.addS s v' hs ho hg).other (Rdr.grown_set W' b 0 v') fun _ _ _ _ _ _ q=>own_post q (Nat.lt_succ_self b)⟩,x.1⟩
theorem Os.addY {w W W':World} {rb b:Nat} {tb:Option Nat} {sv yv av:Value} {ss:List Sd} {ys:List Osyr.X} {aa:List Ad} (h:Os w rb b tb W sv ss yv ys av aa) (hr:rb<w.heap.size) (y:Osyr.X) (v':Value)
  (ho:W'.ownsRow (b+1) 63 4 v' (ys.length+1) (ys.flatMap yCells ++ yCells y)) (hg:W.grownBy W' yv.ownBlock) :
  Os w rb b tb (W'.setCell ⟨b,1,none⟩ v') sv ss v' (ys ++ [y]) av aa/\W'.cell? ⟨b,1,none⟩=some yv/\W'.frozen? ⟨b,1,none⟩=false:=by
 obtain ⟨p,l,r,n,x⟩:=h.grown hr (own_gt h.own.sym) (fun g hg=>own_ne_block h.own.sym (h.nm g hg).2 (by decide)) hg 1 v'
 exact ⟨⟨p,h.hb,l,r,(x.set v').2.1,n,(h.own.addY y v' ho hg).other (Rdr.grown_set W' b 1 v') fun _ _ _ _ _ _ q=>own_post q (Nat.lt_succ_self b)⟩,x.2.1⟩
theorem Os.addA {w W W':World} {rb b:Nat} {tb:Option Nat} {sv yv av:Value} {ss:List Sd} {ys:List Osyr.X} {aa:List Ad} (h:Os w rb b tb W sv ss yv ys av aa) (hr:rb<w.heap.size) (a:Ad) (v':Value) (hx:ExOwn W (b+1) a.e a.l)
  (ho:W'.ownsRow (b+1) 67 1 v' (aa.length+1) (aa.map (·.e) ++ [a.e])) (hg:W.grownBy W' av.ownBlock) :
  Os w rb b tb (W'.setCell ⟨b,2,none⟩ v') sv ss yv ys v' (aa ++ [a])/\W'.cell? ⟨b,2,none⟩=some av/\W'.frozen? ⟨b,2,none⟩=false:=by
 obtain ⟨p,l,r,n,x⟩:=h.grown hr (own_gt h.own.ass) (fun g hg=>own_ne_block h.own.ass (h.nm g hg).2 (by decide)) hg 2 v'
 exact ⟨⟨p,h.hb,l,r,(x.set v').2.2,n,(h.own.addA a v' hx ho hg).other (Rdr.grown_set W' b 2 v') fun _ _ _ _ _ _ q=>own_post q (Nat.lt_succ_self b)⟩,x.2.2⟩
def OX (w:World) (rb:Nat) (e:Ending) (w':World):Prop:=(∃ (ss:List Sd) (ys:List Osyr.X) (aa:List Ad) (a0:Option Addr) (c0:Nat) (a1:Option Addr) (c1:Nat) (a2:Option Addr) (c2:Nat),e=.returned (.agg #[.slice a0 ss.length c0,.slice a1 ys.length c1,.slice a2 aa.length c2]) /\
 Dw w' w.heap.size (.slice a0 ss.length c0) ss (.slice a1 ys.length c1) ys (.slice a2 aa.length c2) aa/\Dn (objX ss ys aa))/\Post w rb w'
theorem dn_of {ss:List Sd} {ys:List Osyr.X} {aa:List Ad} (l0:ss.length<=3) (h0:∀ s ∈ ss,Xn s.x) (l1:ys.length<=4) (h1:∀ y ∈ ys,y.f0.size<=16) (l2:aa.length<=1) (h2:∀ a ∈ aa,a.l.length<=30/\∀ n ∈ a.l,Cmpf.Nice n):Dn (objX ss ys aa) :=
 ⟨by show (ss.map Sd.x).length<=3;rw [List.length_map];exact l0,fun s hs=>by obtain ⟨t,ht,rfl⟩:=List.mem_map.1 hs;exact h0 t ht,l1,h1,by show (aa.map Ad.x).length<=1;rw [List.length_map];exact l2,fun s hs=>by obtain ⟨t,ht,rfl⟩:=List.mem_map.1 hs;exact h2 t ht⟩
theorem Os.fin {w W:World} {rb b:Nat} {tb:Option Nat} {ss:List Sd} {ys:List Osyr.X} {aa:List Ad} {a0 a1 a2:Option Addr} {n0 n1 n2 c0 c1 c2:Nat} (h:Os w rb b tb W (.slice a0 n0 c0) ss (.slice a1 n1 c1) ys (.slice a2 n2 c2) aa) (hr:rb<w.heap.size)
  (e0:ss.length=n0) (e1:ys.length=n1) (e2:aa.length=n2) (hd:Dn (objX ss ys aa)) (cs:Array Value):OX w rb (.returned (.agg #[.slice a0 n0 c0,.slice a1 n1 c1,.slice a2 n2 c2])) (W.setRow w.heap.size cs):=by
 subst e0;subst e1;subst e2
 have hb:=h.hb
 have hg:=grow_setRow W w.heap.size cs
 have hO:=h.own.other hg fun _ _ _ _ _ _ q=>own_post q (by omega)
 refine ⟨⟨ss,ys,aa,a0,c0,a1,c1,a2,c2,rfl,⟨own_mono (by omega) hO.sec,fun s hs=>(hO.secs s hs).mono (by omega),own_mono (by omega) hO.sym,own_mono (by omega) hO.ass,fun a ha=>⟨own_mono (by omega) (hO.aex a ha).1,(hO.aex a ha).2⟩⟩,hd⟩,?_⟩
 refine ⟨h.p.1.kept fun k hk=>hg.block k (Nat.lt_of_le_of_lt hk h.p.1.lt) (fun e=>by have:k=w.heap.size:=Option.some.inj e;omega),⟨hg.os.trans h.p.2.os,hg.tape.trans h.p.2.tape,hg.output.trans h.p.2.output,Nat.le_trans h.p.2.size hg.size,fun k hk hne=>?_⟩⟩
 exact (hg.block k (Nat.lt_of_lt_of_le hk h.p.2.size) (fun e=>by have:k=w.heap.size:=Option.some.inj e;omega)).trans (h.p.2.block k hk hne)
theorem infoO3:(prog.info? 26).map (·.size)=some 3:=by kernel_rfl
theorem bq_row {W:World} {b:Nat} (h:Zr #[.string ⟨#[]⟩,.int .i64 0,.int .i64 0,.bool false] 63 W b):Bq W b (.string ⟨#[]⟩) (.int .i64 0) (.int .i64 0) (.bool false):=by
 have h:W.heap[b]? = some (.cells #[.string ⟨#[]⟩,.int .i64 0,.int .i64 0,.bool false] 63 (0,0)):=h
 unfold Bq
 refine ⟨⟨?_,frozen_of_row _ _ _ _ _ h⟩,⟨?_,frozen_of_row _ _ _ _ _ h⟩,⟨?_,frozen_of_row _ _ _ _ _ h⟩,⟨?_,frozen_of_row _ _ _ _ _ h⟩⟩ <;> (rw [cell_of_row _ _ _ _ _ _ h];rfl)
theorem ex_ownO {W w5:World} {b:Nat} {ea:Option Addr} {ec nE:Nat} {L:List Stepx.Node} (h:b<W.heap.size) (hn:nE=L.length) (ho:Nodm.Own w5 W.heap.size (.slice ea L.length ec) L) (hl:L.length<=30) (hx:∀ x ∈ L,Cmpf.Nice x):ExOwn w5 (b+1) (.slice ea nE ec) L/\(L.length<=30/\∀ x ∈ L,Cmpf.Nice x):=by
 subst hn
 exact ⟨⟨own_mono h ho,fun x hm=>Nat.le_trans (hx x hm).1 (by decide)⟩,hl,hx⟩
theorem sec_at {W:World} {base:Nat} {sa:Option Addr} {sc len z:Nat} {ss:List Sd} (h:W.ownsRow base 38 6 (.slice sa len sc) ss.length (ss.flatMap Sd.cells)) (hl:ss.length=len) (hz:z<len) (hx:∀ s ∈ ss,Xn s.x) :
  ∃ (sg:Nat) (dt:ByteArray),sa=some ⟨sg,0,none⟩/\W.cell? ⟨sg,z*6+4,none⟩=some (.string dt)/\dt.size<=16:=by
 subst hl
 match sa,h with
 | none,h =>
  rcases h.2 with ⟨_,hn⟩|⟨g,cap,cur,hv,_⟩
  ·omega
  ·cases hv
 | some ⟨g,off,sp⟩,h =>
  have hsp:sp=none:=by
   rcases h.2 with ⟨hv,_⟩|⟨g',cap,cur,hv,_⟩
   ·cases hv
   ·cases hv;rfl
  subst hsp
  obtain ⟨rfl,hb,hlt,hc⟩:=row_cells h
  have f:=flat_at Sd.cells 6 (fun _=>rfl) ss z hz
  exact ⟨g,ss[z].d,rfl,by have:=hc _ _ ((f 4 (by omega)).trans rfl);simpa using this,(hx _ (List.getElem_mem hz)).d⟩
theorem object_any (rb:Nat) (w:World) (h:Rd w rb):Calls prog 55 #[.pointer (some ⟨rb,0,none⟩)] w (OX w rb):=by
 have hrl:=h.lt
 obtain ⟨W0,hW0⟩ : ∃ W0,W0=w.alloc (.cells zO 26):=⟨_,rfl⟩
 have P0:Hid (Post w rb W0):=(by rw [hW0];exact (Post.refl h).alloc _)
 have R0:Hid (W0.heap[w.heap.size]? = some (.cells zO 26 (0,0))):=(by rw [hW0];exact (MapKept.heap_alloc w _).1)
 have z0:W0.heap.size=w.heap.size+1:=by rw [hW0];simp
 clear h
 go_enter func55,ntmps55
 go_upto_region 1 with fail
 rw [<- hW0]
 clear hW0
 have Z0:Hid (W0.heap.size=w.heap.size+1):=z0
 clear z0
 go_cut [3] (fun p wx=>∃ (b:Nat),p=.pointer (some ⟨b,0,none⟩)/\Hid (Os w rb b none wx nil0 [] nil0 [] nil0 []))
 case first =>
  go_wp2_with fail
  go_meet
  refine ⟨_,rfl,?_⟩
  obtain ⟨WF,hWF⟩ : ∃ WF,WF=W0.alloc (.cells zO 26):=⟨_,rfl⟩
  have e:(W0.alloc (.cells zO 26)).heap[W0.heap.size]? = some (.cells zO 26 (0,0)):=(MapKept.heap_alloc W0 _).1
  refine ⟨P0.out.alloc _,by rw [Z0.out];exact Nat.lt_succ_self _,by simp,(Below.heap_alloc _ _ _ (by rw [Z0.out];exact Nat.lt_succ_self _)).trans R0.out,Bo.of e,fun g hg=>(by cases hg),dw0 _ _⟩
 case rest =>
  obtain ⟨b,rfl,hS⟩:=hcut
  have S1:=(show Hid _ from hS.out)
  clear P0 R0 Z0 hS
  go_wp2_with fail
  refine (Rdr.below_any _ _ _ S1.out.p.1 (by decide) (by decide)).mono ?_
  rintro e w2 ⟨⟨x,x0,x1,rfl⟩,hp2⟩
  obtain ⟨m,rfl⟩:=Int.eq_ofNat_of_zero_le x0
  have hm:m<=3:=by omega
  have S2:=(show Hid _ from S1.out.post hrl hp2)
  clear hp2 S1 x0 x1
  go_wp2_with fail
  go_loopw [4] (fun i wr=>∃ (q:Nat) (sa:Option Addr) (len sc:Nat) (ss:List Sd),q+len<=3/\i=.int .i64 q/\Hid (ss.length=len)/\Hid (Os w rb b none wr (.slice sa len sc) ss nil0 [] nil0 [])/\Hid (∀ s ∈ ss,Xn s.x)) (fun i _=>(intOf i).toNat)
  case atStart=>exact ⟨m,none,0,0,[],by simpa using hm,rfl,rfl,S2.out,fun p hp=>(by cases hp)⟩
  case round =>
   obtain ⟨q,sa,len,sc,ss,hq,rfl,HL,hs,hxs⟩:=hrel
   clear S2
   by_cases hq0:0<q
   ·obtain ⟨q',rfl⟩ : ∃ q',q=q'+1:=⟨q-1,by omega⟩
    have g0:(0:Int)<((q'+1:Nat):Int):=by omega
    obtain ⟨i0,hi,hz0,hz1,hz2⟩:=info_parts Rlsa.infoS
    have OWN:Hid (∀ (W:World) (o:Obj),Os w rb b none W (.slice sa len sc) ss nil0 [] nil0 []->(W.alloc o).ownsRow (b+1) 38 6 (.slice sa len sc) len (ss.flatMap Sd.cells)):=fun W o h=>by
     have h:=own_below h.own.sec (zRf.alloc (Nat.le_refl _) o)
     have e:ss.length=len:=HL.out
     rw [<- e] at h |-
     exact h
    have FIN:Hid (∀ (W w6:World) (o:Obj) (g' c':Nat) (s:Sd),Os w rb b none W (.slice sa len sc) ss nil0 [] nil0 []->Sw W (b+1) s->w6.ownsRow (b+1) 38 6 (.slice (some ⟨g',0,none⟩) (len+1) c') (len+1) (ss.flatMap Sd.cells ++ s.cells)->(W.alloc o).grownBy w6 (Value.slice sa len sc).ownBlock ->
      Os w rb b none (w6.setCell ⟨b,0,none⟩ (.slice (some ⟨g',0,none⟩) (len+1) c')) (.slice (some ⟨g',0,none⟩) (len+1) c') (ss ++ [s]) nil0 [] nil0 []/\w6.cell? ⟨b,0,none⟩=some (.slice sa len sc)/\w6.frozen? ⟨b,0,none⟩=false):=fun W w6 o g' c' s h hx ho hg =>
     (h.alloc hrl o).addS hrl s _ (hx.below (zRf.alloc (Nat.le_refl _) o)) (by
      show w6.ownsRow (b+1) 38 6 _ (ss.length+1) _
      rw [HL.out];exact ho) hg
    have hl63:len+1<=maxLen:=by unfold maxLen;omega
    obtain ⟨a0,f0⟩:=hs.out.box.1
    go_wp2_with fail
    go_region_law (first
     | (refine step_append_lies _ rfl (.tmp 16) (.tmp 19) 22 rfl (b+1) 38 i0 (.agg #[.string ⟨#[]⟩,.int .i64 0,.int .i64 0,.int .i64 0,.string ⟨#[]⟩,.slice none 0 0]) 6 80 underlying22 hi hz0 hz1 hz2 rfl (by decide) (.slice sa len sc) len (ss.flatMap Sd.cells) rfl (OWN.out _ _ S3.out) ⟨w3.heap.size,0,none⟩ 1 1 [.string nm,.int .i64 k,.int .i64 bk,.int .i64 ad,.string dt,.slice pa n pc] rfl rfl (newA w3 [.string nm,.int .i64 k,.int .i64 bk,.int .i64 ad,.string dt,.slice pa n pc] 38) (by intro u hu;simp at hu;rcases hu with rfl|rfl|rfl|rfl|rfl|rfl <;> rfl) (by decide) hl63 (by omega) (Z3.out _) _ rfl ?_;intro g' c' w6 hown' hgrow hat hlt';obtain ⟨p6,d6,f6⟩:=FIN.out _ _ _ _ _ ⟨nm,k,bk,ad,dt,.slice pa n pc,ps⟩ S3.out X3.out.1 hown' hgrow;have S6:=(show Hid _ from p6);clear p6 hown' hgrow hat hlt')
     | (go_simp;go_at_call 43;refine (section_lit _ _ (hs.out.drew hrl).p.1).mono ?_;rintro e w3 ⟨⟨nm,k,bk,ad,dt,pa,n,pc,ps,rfl,hs3,hx3⟩,hp3⟩;have S3:=(show Hid _ from (hs.out.drew hrl).post hrl hp3);have X3:=(show Hid _ from And.intro (hs3.mono (Nat.succ_le_of_lt (hs.out.drew hrl).lt)) hx3);have Z3:Hid (∀ o,b+1<=(w3.alloc o).heap.size):=(fun o=>by have:=S3.out.lt;simp;omega);obtain ⟨a0a,f0a⟩:=S3.out.box.1;have lt3:=S3.out.lt;clear hp3 hs3 hx3)
     | fail)
    all_goals
     go_simp
     go_wp2_with fail
     go_roundw
     case rel=>exact ⟨q',_,len+1,_,_,by omega,by go_num,by show (_ ++ [_]:List Sd).length=len+1;rw [List.length_append,HL.out];rfl,S6.out,fun p hp=>(List.mem_append.1 hp).elim (hxs.out p) fun hp=>by rw [List.mem_singleton.1 hp];exact X3.out.2⟩
     case measure=>first|(simp [intOf];done)|(simp [intOf];omega)
   ·have hlen:len<=3:=by omega
    clear hq hm
    go_upto_region 7 with fail
    obtain ⟨W4,hW4⟩ : ∃ W4,W4=wr.alloc (.cells names4 9):=⟨_,rfl⟩
    obtain ⟨nb,hnb⟩ : ∃ nb,nb=wr.heap.size:=⟨_,rfl⟩
    have S4:Hid (Os w rb b (some nb) W4 (.slice sa len sc) ss nil0 [] nil0 []):=(by
     show Os _ _ _ _ _ _ _ _ _ _ _
     have h:=hs.out.alloc hrl (.cells names4 9)
     rw [<- hW4] at h
     refine ⟨h.p,h.hb,h.lt,h.res,h.box,fun g hg=>?_,h.own⟩
     have e:nb=g:=Option.some.inj hg
     subst e
     exact ⟨by rw [hnb];exact hs.out.lt,by rw [hW4,hnb];exact (MapKept.heap_alloc wr _).1⟩)
    rw [<- hW4,<- hnb]
    clear hW4 hnb hs
    go_wp2_with fail
    go_loopw [6] (fun i wr=>∃ (j m:Nat) (ya:Option Addr) (yc:Nat) (ys:List Osyr.X),m<=j/\j<=4/\i=.int .i64 j/\Hid (ys.length=m)/\Hid (Os w rb b (some nb) wr (.slice sa len sc) ss (.slice ya m yc) ys nil0 [])/\Hid (∀ y ∈ ys,y.f0.size<=16)) (fun i _=>4-(intOf i).toNat)
    case atStart=>exact ⟨0,0,none,0,[],Nat.le_refl _,by omega,rfl,rfl,S4.out,fun p hp=>(by cases hp)⟩
    case round =>
     obtain ⟨j,m,ya,yc,ys,hmj,hj,rfl,HM,hs,hys⟩:=hrel
     clear S4
     by_cases hlt:j<4
     ·have j4:(j:Int)<4:=by omega
      go_wp2_with fail
      refine (Rdr.once_any _ _ _ hs.out.p.1 (by decide) (by decide)).mono ?_
      rintro e w2 ⟨⟨q,rfl⟩,hp2⟩
      have S2:=(show Hid _ from hs.out.post hrl hp2)
      clear hp2 hs
      cases q with
      | true =>
       go_wp2_with fail
       go_roundw
       case rel=>exact ⟨j+1,m,ya,yc,ys,by omega,by omega,by go_num,HM.out,S2.out,hys.out⟩
       case measure=>first|(simp [intOf];done)|(simp [intOf];omega)
      | false =>
       obtain ⟨nm,hnm,htab⟩:=four_at j hlt
       have HN:Hid (nm.size<=16):=hnm
       have TB:Hid (∀ W',Post w2 rb W'->W'.cell? ⟨nb,j,none⟩=some (.string nm)):=fun W' h=>by
        rw [cell_of_row _ _ _ _ _ _ ((S2.out.post hrl h).nm nb rfl).2];exact htab
       have Q1:Hid (Post w2 rb w2):=Post.refl S2.out.p.1
       have c1:=TB.out _ Q1.out
       have l1:=at_lt (S2.out.nm nb rfl).2
       have hr0:rb<w2.heap.size:=by have:=S2.out.lt;have:=S2.out.hb;omega
       have n0:¬ nb=rb:=by have:=(S2.out.nm nb rfl).1;have:=S2.out.hb;omega
       have n1:¬ w2.heap.size=rb:=by omega
       clear hnm htab
       go_upto_region 11 with fail
       go_cut [7] (fun p wx=>∃ (g:Nat) (v:Int) (u:Bool),p=.pointer (some ⟨g,0,none⟩)/\Hid (w2.heap.size<=g/\g<wx.heap.size/\Post w2 rb wx/\Bq wx g (.string nm) (.int .i64 (-1)) (.int .i64 v) (.bool u)))
       case first =>
        go_region_with (first
         | (go_at_call 82;refine (Rdr.below_any _ _ _ ?rd (by decide) (by decide)).mono ?_;(case rd=>first|exact Q1.out.1|exact (Q1.out.alloc _).1|exact Q1.out.1.kept (fun _ _=>rfl)|exact (Q1.out.alloc _).1.kept (fun _ _=>rfl));rintro e w3 ⟨⟨y,y0,y1,rfl⟩,hp3⟩;obtain ⟨k2,f2⟩:=over hp3;have z2:=hp3.2.size;(try simp at z2);(try simp at k2);(try simp at f2);(try (have z2a:w2.heap.size<w3.heap.size:=by omega));have n3:¬ w3.heap.size=rb:=(by omega);have yw:IntKind.i64.wrap (y-9)=y-9:=wrap_in (by omega) (by omega);have H2:Hid (Post _ _ w3):=hp3;have P2:Hid (Post w2 rb w3):=(by first|exact Post.re H2.out rfl rfl rfl rfl|exact (Q1.out.alloc _).trans (Post.re H2.out rfl rfl rfl rfl));have c2:=TB.out _ P2.out;have l2:nb<w3.heap.size:=(by omega);clear hp3)
         | (go_at_call 56;refine (Rdr.once_any _ _ _ ?rd (by decide) (by decide)).mono ?_;(case rd=>first|exact P2.out.1|exact (P2.out.alloc _).1|exact P2.out.1.kept (fun _ _=>rfl)|exact (P2.out.alloc _).1.kept (fun _ _=>rfl));rintro e w4 ⟨⟨u,rfl⟩,hp4⟩;obtain ⟨k3,f3⟩:=over hp4;have z3:=hp4.2.size;(try simp at z3);(try simp at k3);(try simp at f3);(try (have z3a:w3.heap.size<w4.heap.size:=by omega));(try (have z3c:w2.heap.size<w4.heap.size:=by omega));have n4:¬ w4.heap.size=rb:=(by omega);have H3:Hid (Post _ _ w4):=hp4;have P3:Hid (Post w2 rb w4):=(by first|exact P2.out.trans (Post.re H3.out rfl rfl rfl rfl)|exact (P2.out.alloc _).trans (Post.re H3.out rfl rfl rfl rfl));have c3:=TB.out _ P3.out;have l3:nb<w4.heap.size:=(by omega);clear hp4)
         | fail)
        all_goals
         go_wp2_with fail
         go_meet
         have s2:=P2.out.2.size
         have s3:=P3.out.2.size
         refine ⟨_,y-9,u,rfl,?ge,?lt,?ps,?bx⟩
         case bx =>
          first
           | with_reducible exact Bq.new _ _ _ _ _ _
           | (with_reducible refine Bq.stored (bq_row (zr_post ?_ H3.out (by omega))) _ _ _ _)
          all_goals
           first
            | with_reducible exact zr_new _ _ _
            | with_reducible exact zr_post (zr_drew (zr_new _ _ _)) H2.out (by omega)
         case ps =>
          first
           | with_reducible exact P3.out.alloc _
           | with_reducible exact post_set4 P3.out _ _ _ _ _ (by omega) hr0
           | with_reducible exact post_set4 (P3.out.alloc _) _ _ _ _ _ (by omega) hr0
         case ge=>omega
         case lt=>first|(simp only [World.size_setCell];omega)|(simp;done)|(simp;omega)
       case rest =>
        obtain ⟨g,v,u,rfl,hK⟩:=hcut
        have K:=(show Hid _ from hK.out)
        clear hK c1 l1 n0 n1 TB Q1
        have gn:g ≠ rb:=by have:=K.out.1;omega
        go_upto_region 12 with fail
        go_cut [49] (fun x wx=>∃ q:Bool,x=.bool q/\(q=true->0<len)/\Hid (w2.heap.size<=g/\g<wx.heap.size/\Post w2 rb wx/\Bq wx g (.string nm) (.int .i64 (-1)) (.int .i64 v) (.bool u)))
        case first =>
         obtain ⟨a0,f0⟩:=(S2.out.post hrl K.out.2.2.1).box.1
         by_cases hl:0<len
         ·have hlz:(0:Int)<(len:Int):=by omega
          go_wp2_with fail
          refine (Rdr.once_any _ _ _ K.out.2.2.1.1 (by decide) (by decide)).mono ?_
          rintro e w4 ⟨⟨q,rfl⟩,hp4⟩
          have K2:=(show Hid _ from And.intro K.out.1 (And.intro (Nat.lt_of_lt_of_le K.out.2.1 hp4.2.size) (And.intro (K.out.2.2.1.trans hp4) (K.out.2.2.2.post hp4 K.out.2.1 gn))))
          clear hp4 K a0 f0
          go_wp2_with fail
          go_meet
          exact ⟨!q,rfl,fun _=>hl,K2.out⟩
         ·have hl0:len=0:=by omega
          have dl:decide (0<(len:Int))=false:=decide_eq_false (by omega)
          go_wp2_with fail
          go_meet
          exact ⟨false,rfl,fun h=>(by cases h),K.out⟩
        case rest =>
         clear K
         obtain ⟨q,rfl,hql,K⟩:=hcut
         go_upto_if 49 with fail
         go_cut [] (fun wx=>∃ (st v:Int),Hid (w2.heap.size<=g/\g<wx.heap.size/\Post w2 rb wx/\Bq wx g (.string nm) (.int .i64 st) (.int .i64 v) (.bool u)))
         case first =>
          cases q with
          | false =>
           go_wp2_with fail
           go_meet
           exact ⟨-1,v,K.out⟩
          | true =>
           have hl:=hql rfl
           have hlz:(0:Int)<(len:Int):=by omega
           obtain ⟨a0,f0⟩:=(S2.out.post hrl K.out.2.2.1).box.1
           go_wp2_with fail
           refine (Rdr.below_any _ _ _ K.out.2.2.1.1 (by omega) (by omega)).mono ?_
           rintro e w4 ⟨⟨z,z0,z1,rfl⟩,hp4⟩
           obtain ⟨z,rfl⟩:=Int.eq_ofNat_of_zero_le z0
           have hz:z<len:=by omega
           have K2:=(show Hid _ from And.intro K.out.1 (And.intro (Nat.lt_of_lt_of_le K.out.2.1 hp4.2.size) (And.intro (K.out.2.2.1.trans hp4) (K.out.2.2.2.post hp4 K.out.2.1 gn))))
           clear hp4 K a0 f0
           obtain ⟨b1,g1⟩:=K2.out.2.2.2.2.1
           go_upto_region 14 with fail
           obtain ⟨W5,hW5⟩ : ∃ W5,W5=w4.setCell ⟨g,1,none⟩ (.int .i64 (z:Int)):=⟨_,rfl⟩
           have K3:Hid (w2.heap.size<=g/\g<W5.heap.size/\Post w2 rb W5/\Bq W5 g (.string nm) (.int .i64 (z:Int)) (.int .i64 v) (.bool u)):=(by
            show _/\_/\_/\_
            rw [hW5]
            exact ⟨K2.out.1,by rw [World.size_setCell];exact K2.out.2.1,post_set K2.out.2.2.1 _ _ _ K2.out.1 hr0,(K2.out.2.2.2.set _).2.1⟩)
           rw [<- hW5]
           clear hW5 K2 b1 g1
           have S5:=(show Hid _ from S2.out.post hrl K3.out.2.2.1)
           obtain ⟨a0,f0⟩:=S5.out.box.1
           obtain ⟨b1,g1⟩:=K3.out.2.2.2.2.1
           have hrow:=sec_at S5.out.own.sec HL.out hz
           obtain ⟨sg,dt,rfl,e4,hdt⟩:=hrow hxs.out
           go_wp2_with fail
           refine (Rdr.below_any _ _ _ K3.out.2.2.1.1 (by omega) (by omega)).mono ?_
           rintro e w6 ⟨⟨y,y0,y1,rfl⟩,hp6⟩
           have K4:=(show Hid _ from And.intro K3.out.1 (And.intro (Nat.lt_of_lt_of_le K3.out.2.1 hp6.2.size) (And.intro (K3.out.2.2.1.trans hp6) (K3.out.2.2.2.post hp6 K3.out.2.1 gn))))
           clear hp6 K3 a0 f0 b1 g1 e4 S5
           obtain ⟨b2,g2⟩:=K4.out.2.2.2.2.2.1
           go_wp2_with fail
           go_meet
           exact ⟨_,_,K4.out.1,by rw [World.size_setCell];exact K4.out.2.1,post_set K4.out.2.2.1 _ _ _ K4.out.1 hr0,(K4.out.2.2.2.set _).2.2.1⟩
         case rest =>
          clear K hql
          obtain ⟨st,v,K⟩:=hcut
          have S5:=(show Hid _ from S2.out.post hrl K.out.2.2.1)
          obtain ⟨a1,f1⟩:=S5.out.box.2.1
          obtain ⟨⟨q0,g0⟩,⟨q1,g1⟩,⟨q2,g2⟩,⟨q3,g3⟩⟩:=K.out.2.2.2
          obtain ⟨i0,hi,hz0,hz1,hz2⟩:=info_parts Rlsa.infoYs
          have OWN:Hid (∀ (o:Obj),(wc.alloc o).ownsRow (b+1) 63 4 (.slice ya m yc) m (ys.flatMap yCells)):=fun o=>by
           have h:=own_below S5.out.own.sym (zRf.alloc (Nat.le_refl _) o)
           have e:ys.length=m:=HM.out
           rw [<- e] at h |-
           exact h
          have Z5:Hid (∀ o,b+1<=(wc.alloc o).heap.size):=fun o=>by have:=S5.out.lt;simp;omega
          have hl63:m+1<=maxLen:=by unfold maxLen;omega
          go_wp2_with (at_builtin;refine wpList_append_lies _ rfl (.tmp 69) (.tmp 71) 23 rfl (b+1) 63 i0 (.agg #[.string ⟨#[]⟩,.int .i64 0,.int .i64 0,.bool false]) 4 40 underlying23 hi hz0 hz1 hz2 rfl (by decide) (.slice ya m yc) m (ys.flatMap yCells) rfl (OWN.out _) ⟨wc.heap.size,0,none⟩ 1 1 [.string nm,.int .i64 st,.int .i64 v,.bool u] rfl rfl (newA wc [.string nm,.int .i64 st,.int .i64 v,.bool u] 63) (by intro u hu;simp at hu;rcases hu with rfl|rfl|rfl|rfl <;> rfl) (by decide) hl63 (by omega) (Z5.out _) _ rfl ?_)
          intro g' c' w6 hown' hgrow hat hlt'
          obtain ⟨p6,d6,f6⟩:=(S5.out.alloc hrl _).addY hrl ⟨nm,st,v,u⟩ (.slice (some ⟨g',0,none⟩) (m+1) c') (by
           show w6.ownsRow (b+1) 63 4 _ (ys.length+1) _
           rw [HM.out];exact hown') hgrow
          have S6:=(show Hid _ from p6)
          clear p6 hown' hgrow hat hlt' K S5 S2
          go_wp2_with fail
          go_roundw
          case rel=>exact ⟨j+1,m+1,_,_,_,by omega,by omega,by go_num,by show (_ ++ [_]:List Osyr.X).length=m+1;rw [List.length_append,HM.out];rfl,S6.out,fun p hp=>(List.mem_append.1 hp).elim (hys.out p) fun hp=>by rw [List.mem_singleton.1 hp];exact HN.out⟩
          case measure=>first|(simp [intOf];done)|(simp [intOf];omega)
     ·have hm4:m<=4:=by omega
      go_wp2_with fail
      refine (Rdr.once_any _ _ _ hs.out.p.1 (by decide) (by decide)).mono ?_
      rintro e w2 ⟨⟨q,rfl⟩,hp2⟩
      have S2:=(show Hid _ from hs.out.post hrl hp2)
      clear hp2 hs
      cases q with
      | false =>
       have S6:=(show Hid _ from S2.out)
       have HD:Hid (Dn (objX ss ys [])):=dn_of (by rw [HL.out];exact hlen) hxs.out (by rw [HM.out];exact hm4) hys.out (Nat.zero_le _) (fun a ha=>(by cases ha))
       obtain ⟨⟨r0,t0⟩,⟨r1,t1⟩,⟨r2,t2⟩⟩:=S6.out.box
       go_upto_region 18 with fail
       refine wp_region_list ?_
       refine wpList_plain rfl (fun K hK=>?_)
       go_simp
       refine hK _ _ ?_
       refine wpList_store_row rfl 26 _ _ rfl w.heap.size #[.slice sa len sc,.slice ya m yc,.slice none 0 0] rfl rfl _ _ S6.out.res infoO3 rfl (by simp [Value.oneCell']) ?_
       go_wp2
       exact bodyPost_ret (v:=.agg #[.slice sa len sc,.slice ya m yc,.slice none 0 0]) (results_cell_row results55 _ _ w.heap.size _ _ (0,0) _ rfl (setRow_heap _ _ _ _ _ _ S6.out.res) underlying26 rfl infoO3) rfl (S6.out.fin hrl HL.out HM.out rfl HD.out _)
      | true =>
       obtain ⟨i0,hi,hz0,hz1,hz2⟩:=info_parts Rlsa.infoE
       obtain ⟨a2,f2⟩:=S2.out.box.2.2
       have OWN:Hid (∀ (W:World),W.ownsRow (b+1) 67 1 (.slice none 0 0) 0 []):=fun W=>World.ownsRow_nil _ _ _ _
       go_wp2_with fail
       go_region_law (first
        | (refine step_append_lies _ rfl (.tmp 77) (.tmp 80) 24 rfl (b+1) 67 i0 (.slice none 0 0) 1 24 underlying24 hi hz0 hz1 hz2 rfl (by decide) (.slice none 0 0) 0 [] rfl (OWN.out _) ⟨w5.heap.size,0,none⟩ 1 1 [.slice ea nE ec] rfl rfl (newA w5 [.slice ea nE ec] 67) (by intro u hu;simp at hu;subst hu;rfl) (by decide) (by decide) (by omega) (Z5.out _) _ rfl ?_;intro g' c' w6 hown' hgrow hat hlt';obtain ⟨p6,d6,f6⟩:=(S5.out.alloc hrl _).addA hrl ⟨L,.slice ea nE ec⟩ (.slice (some ⟨g',0,none⟩) 1 c') ⟨own_below E5.out.1.1 (zAl _ _),E5.out.1.2⟩ hown' hgrow;have S6:=(show Hid _ from p6);clear p6 hown' hgrow hat hlt')
        | (go_simp;go_at_call 83;refine (Cmpf.expr_any _ _ (S2.out.drew hrl).p.1).mono ?_;rintro e w5 ⟨⟨ea,ec,L,rfl,ho5,hl5,hn5⟩,hp5⟩;have S5:=(show Hid _ from (S2.out.drew hrl).post hrl hp5);obtain ⟨nE,hnE⟩ : ∃ nE,nE=L.length:=⟨_,rfl⟩;have E5:=(show Hid _ from ex_ownO (S2.out.drew hrl).lt hnE ho5 hl5 hn5);rw [<- hnE];clear hnE ho5 hl5 hn5;have Z5:Hid (∀ o,b+1<=(w5.alloc o).heap.size):=(fun o=>by have:=S5.out.lt;simp;omega);obtain ⟨a2c,f2c⟩:=S5.out.box.2.2;have lt5:=S5.out.lt;clear hp5)
        | fail)
       all_goals
        have HD:Hid (Dn (objX ss ys [⟨L,.slice ea nE ec⟩])):=dn_of (by rw [HL.out];exact hlen) hxs.out (by rw [HM.out];exact hm4) hys.out (Nat.le_refl _) (fun a ha=>by rw [List.mem_singleton.1 ha];exact E5.out.2)
        go_simp
        obtain ⟨⟨r0,t0⟩,⟨r1,t1⟩,⟨r2,t2⟩⟩:=S6.out.box
        go_upto_region 18 with fail
        refine wp_region_list ?_
        refine wpList_plain rfl (fun K hK=>?_)
        go_simp
        refine hK _ _ ?_
        refine wpList_store_row rfl 26 _ _ rfl w.heap.size #[.slice sa len sc,.slice ya m yc,.slice (some ⟨g',0,none⟩) 1 c'] rfl rfl _ _ S6.out.res infoO3 rfl (by simp [Value.oneCell']) ?_
        go_wp2
        exact bodyPost_ret (v:=.agg #[.slice sa len sc,.slice ya m yc,.slice (some ⟨g',0,none⟩) 1 c']) (results_cell_row results55 _ _ w.heap.size _ _ (0,0) _ rfl (setRow_heap _ _ _ _ _ _ S6.out.res) underlying26 rfl infoO3) rfl (S6.out.fin hrl HL.out HM.out rfl HD.out _)
end Objd
end Go.Proofs.YtickfkphhngagaaGreatDoor
