import Derived.Test.YtickfkphhngagaaGreatDoorP27
set_option linter.all false
set_option maxRecDepth 20000
set_option maxHeartbeats 8000000
open Go.ChangeShapes Go.WideShapes Go.ChangeAt Go.RowKit
open Go.Proofs.Tryz
namespace Go.Proofs.YtickfkphhngagaaGreatDoor
namespace Rimg
open Go.Deep
open Rown Rowo Rliq Rlip Rlsa Rima Rimb Rimc
open Otxa (after)
structure Oj (w:World) (yv av:Value) (ss:List Sd) (k:Nat) (a:Option Addr) (c:Nat) (wr:World):Prop where
 b:Below w.heap.size w wr
 z:w.heap.size+1<wr.heap.size
 k1:wr.heap[w.heap.size]? = some (.cells #[.slice none 0 0,.slice none 0 0,.slice none 0 0] 26 (0,0))
 k2:wr.heap[w.heap.size+1]? = some (.cells #[.slice a k c,yv,av] 26 (0,0))
 ow:wr.ownsRow (w.heap.size+2) 38 6 (.slice a k c) k ((ss.take k).flatMap Sd.cells)
theorem Oj.below {w wr u:World} {yv av:Value} {ss:List Sd} {k c:Nat} {a:Option Addr} (h:Oj w yv av ss k a c wr) (hb:Below wr.heap.size wr u):Oj w yv av ss k a c u :=
 ⟨h.b.trans (hb.mono (by have:=h.z;omega)),Nat.lt_of_lt_of_le h.z hb.size,(hb.block _ (by have:=h.z;omega)).trans h.k1,(hb.block _ h.z).trans h.k2,own_below h.ow hb⟩
theorem Oj.next {w u u':World} {yv av:Value} {ss:List Sd} {k c g' c':Nat} {a:Option Addr} (h:Oj w yv av ss k a c u) (hk:k<ss.length) (ho:u'.ownsRow (w.heap.size+2) 38 6 (.slice (some ⟨g',0,none⟩) (k+1) c') (k+1) ((ss.take k).flatMap Sd.cells ++ ss[k].cells)) (hg:u.grownBy u' (Value.slice a k c).ownBlock) :
  Oj w yv av ss (k+1) (some ⟨g',0,none⟩) c' (u'.setCell ⟨w.heap.size+1,0,none⟩ (.slice (some ⟨g',0,none⟩) (k+1) c'))/\u'.cell? ⟨w.heap.size+1,0,none⟩=some (.slice a k c)/\u'.frozen? ⟨w.heap.size+1,0,none⟩=false:=by
 have hr:∀ r,(Value.slice a k c).ownBlock=some r->w.heap.size+2<=r:=fun r hr=>(h.ow.lt r hr).1
 have e1:u'.heap[w.heap.size]? = _:=(hg.block _ (by have:=h.z;omega) (fun e=>by have:=hr _ e.symm;omega)).trans h.k1
 have e2:u'.heap[w.heap.size+1]? = _:=(hg.block _ h.z (fun e=>by have:=hr _ e.symm;omega)).trans h.k2
 refine ⟨⟨(h.b.grown hg (by have:=h.z;omega) (fun r q=>by have:=hr r q;omega)).setCell (p:=⟨w.heap.size+1,0,none⟩) (show w.heap.size<=w.heap.size+1 by omega) _,by rw [World.size_setCell];exact Nat.lt_of_lt_of_le h.z hg.size,?_,heap_setCell_same _ _ _ _ _ _ e2,?_⟩,by rw [cell_of_row _ _ _ _ _ _ e2];rfl,frozen_of_row _ _ _ _ _ e2⟩
 ·rw [Below.heap_setCell _ _ _ _ (by simp)];exact e1
 ·have e:(ss.take (k+1)).flatMap Sd.cells=(ss.take k).flatMap Sd.cells ++ ss[k].cells:=by
   rw [List.take_succ_eq_append_getElem hk,List.flatMap_append];simp
  rw [e]
  exact ho.kept (Nodm.grown_set _ _ _ _) (.inr (own_ne_block ho e2 (by decide)))
theorem object_any (bs db:Nat) (bx:List Nat) (sv:Value) (ss:List Sd) (yv:Value) (ys:List Osyr.X) (av:Value) (aa:List Ad) (w:World) (h:Dr bs db bx sv ss yv ys av aa w) (hbs:bs<=w.heap.size) (hls:ss.length<=100000) :
  Calls prog 25 #[.pointer (some ⟨db,0,none⟩)] w fun e w'=>(∃ a c,e=.returned (.agg #[.slice a ss.length c,yv,av])/\Ob w' bs (.slice a ss.length c) ss yv ys av aa)/\Below w.heap.size w w':=by
 obtain ⟨ay,cy,hyv⟩:=own_slice h.rw.sym
 obtain ⟨nY,hnY⟩ : ∃ n,n=ys.length:=⟨_,rfl⟩
 rw [<- hnY] at hyv
 obtain ⟨aA,cA,hav⟩:=own_slice h.rw.ass
 obtain ⟨nA,hnA⟩ : ∃ n,n=aa.length:=⟨_,rfl⟩
 rw [<- hnA] at hav
 subst hyv hav
 obtain ⟨a0,c0,hsv⟩:=own_slice h.sec
 subst hsv
 have HD:=(show Hid _ from h)
 have HB:Hid (bs<=w.heap.size):=hbs
 obtain ⟨n,hn⟩ : ∃ n,ss.length=n:=⟨_,rfl⟩
 have HN:Hid (ss.length=n):=hn
 rw [hn] at h hls |-
 have ldb:db<w.heap.size:=(zLo h.cd)
 have k0:w.cell? ⟨db,0,none⟩=some (.slice a0 n c0):=by rw [cell_of_row _ _ _ _ _ _ h.cd];rfl
 have k1:∀ o,(w.alloc o).cell? ⟨db,1,none⟩=some (.slice ay nY cy):=fun o=>(((Below.refl w.heap.size w).alloc (Nat.le_refl _) o).cell (p:=⟨db,1,none⟩) ldb).trans (by rw [cell_of_row _ _ _ _ _ _ h.cd];rfl)
 have k2:∀ o,(w.alloc o).cell? ⟨db,2,none⟩=some (.slice aA nA cA):=fun o=>(((Below.refl w.heap.size w).alloc (Nat.le_refl _) o).cell (p:=⟨db,2,none⟩) ldb).trans (by rw [cell_of_row _ _ _ _ _ _ h.cd];rfl)
 have k1b:∀ o o',((w.alloc o).alloc o').cell? ⟨db,1,none⟩=some (.slice ay nY cy):=fun o o'=>((((Below.refl w.heap.size w).alloc (Nat.le_refl _) o).alloc (by simp) o').cell (p:=⟨db,1,none⟩) ldb).trans (by rw [cell_of_row _ _ _ _ _ _ h.cd];rfl)
 have k2b:∀ o o',((w.alloc o).alloc o').cell? ⟨db,2,none⟩=some (.slice aA nA cA):=fun o o'=>((((Below.refl w.heap.size w).alloc (Nat.le_refl _) o).alloc (by simp) o').cell (p:=⟨db,2,none⟩) ldb).trans (by rw [cell_of_row _ _ _ _ _ _ h.cd];rfl)
 have J0:Hid (Oj w (.slice ay nY cy) (.slice aA nA cA) ss 0 none 0 ((w.alloc (.cells #[.slice none 0 0,.slice none 0 0,.slice none 0 0] 26)).alloc (.cells #[.slice none 0 0,.slice ay nY cy,.slice aA nA cA] 26)).drew):=by
  refine ⟨((zAl _ _).alloc (by simp) _).drew,by simp,?_,?_,World.ownsRow_nil _ _ _ _⟩
  ·show ((w.alloc _).alloc _).heap[w.heap.size]? = _
   rw [Below.heap_alloc _ _ _ (by simp)];exact heap_alloc_last w _
  ·have h2:=heap_alloc_last (w.alloc (.cells #[.slice none 0 0,.slice none 0 0,.slice none 0 0] 26)) (.cells #[.slice none 0 0,.slice ay nY cy,.slice aA nA cA] 26)
   rw [World.size_alloc] at h2
   exact h2
 clear h hbs hn hnY hnA
 go_enter func25,ntmps25
 go_upto_region 1 with fail
 go_cut [3] (fun p wx=>p=.pointer (some ⟨w.heap.size+1,0,none⟩)/\Hid (wx=((w.alloc (.cells #[.slice none 0 0,.slice none 0 0,.slice none 0 0] 26)).alloc (.cells #[.slice none 0 0,.slice ay nY cy,.slice aA nA cA] 26)).drew))
 case first =>
  go_region_with (fail)
  all_goals
   go_wp2_with fail
   go_meet
   exact ⟨by simp,rfl⟩
 case rest =>
 obtain ⟨rfl,hwc⟩:=hcut
 have J1:Hid (Oj w (.slice ay nY cy) (.slice aA nA cA) ss 0 none 0 wc):=(show Oj _ _ _ _ _ _ _ _ from by rw [hwc.out];exact J0.out)
 have k0:wc.cell? ⟨db,0,none⟩=some (.slice a0 n c0):=(J1.out.b.cell (p:=⟨db,0,none⟩) ldb).trans k0
 clear hwc J0 k1 k2 k1b k2b
 go_wp2_with fail
 go_loopw [20] (fun i wr=>∃ (k:Nat) (a:Option Addr) (c:Nat),k<=n/\i=.int .i64 (k:Int)/\Hid (Oj w (.slice ay nY cy) (.slice aA nA cA) ss k a c wr)) (fun i _=>n-(intOf i).toNat)
 case atStart=>exact ⟨0,none,0,Nat.zero_le _,rfl,J1.out⟩
 case round =>
  clear J1 k0
  obtain ⟨k,a,c,hk,rfl,J⟩:=hrel
  by_cases hlt:k<n
  ·have dk:decide ((k:Int)<(n:Int))=true:=decide_eq_true (by omega)
   have hks:k<ss.length:=by rw [HN.out];exact hlt
   obtain ⟨g0,c0',hv0,_,_⟩:=World.ownsRow.form HD.out.sec (by omega)
   injection hv0 with ha hb hc'
   subst ha
   clear hb hc'
   have hd:=HD.out.below J.out.b
   have x0:wr.cell? ⟨g0,k,none⟩=some (.pointer (some ⟨bx.getD k 0,0,none⟩)):=by
    have hsec:=hd.sec
    refine (row_cells (n:=ss.length) (xs:=bx.map fun b=>.pointer (some ⟨b,0,none⟩)) (cap:=c0) (off:=0) (g:=g0) (by rw [HN.out] at hsec |-;exact hsec)).2.2.2 k _ ?_
    have hkb:k<bx.length:=by rw [hd.len];exact hks
    rw [List.getElem?_map,List.getElem?_eq_getElem hkb,List.getD_eq_getElem?_getD,List.getElem?_eq_getElem hkb];rfl
   have hbox:=(hd.box k hks).2
   have NX:=(show Hid _ from fun (u:World) (hb:Below wr.heap.size wr u) (u':World) (g' c':Nat)=>(J.out.below hb).next (u':=u') (g':=g') (c':=c') hks)
   have HPV:Hid (∃ pa pc,ss[k].pv=.slice pa ss[k].ps.length pc):=own_slice (HD.out.rw.pat ss[k] (List.getElem_mem hks))
   generalize bx.getD k 0=bk at x0 hbox
   generalize ss[k]=x at NX hbox HPV
   obtain ⟨nm,sk,sb,sa,sd,pv,ps⟩:=x
   obtain ⟨vP,hvP⟩ : ∃ v,v=pv:=⟨_,rfl⟩
   have hbox:wr.heap[bk]? = some (.cells #[.string nm,.int .i64 sk,.int .i64 sb,.int .i64 sa,.string sd,pv] 38 (0,0)):=hbox
   have lbk:bk<wr.heap.size:=(zLo hbox)
   have y0:wr.cell? ⟨bk,0,none⟩=some (.string nm):=by rw [cell_of_row _ _ _ _ _ _ hbox];rfl
   have y1:wr.cell? ⟨bk,1,none⟩=some (.int .i64 sk):=by rw [cell_of_row _ _ _ _ _ _ hbox];rfl
   have y2:wr.cell? ⟨bk,2,none⟩=some (.int .i64 sb):=by rw [cell_of_row _ _ _ _ _ _ hbox];rfl
   have y3:wr.cell? ⟨bk,3,none⟩=some (.int .i64 sa):=by rw [cell_of_row _ _ _ _ _ _ hbox];rfl
   have y4:wr.cell? ⟨bk,4,none⟩=some (.string sd):=by rw [cell_of_row _ _ _ _ _ _ hbox];rfl
   have y5:wr.cell? ⟨bk,5,none⟩=some pv:=by rw [cell_of_row _ _ _ _ _ _ hbox];rfl
   have m0:wr.cell? ⟨w.heap.size+1,0,none⟩=some (.slice a k c):=by rw [cell_of_row _ _ _ _ _ _ J.out.k2];rfl
   have mA:∀ o,(wr.alloc o).cell? ⟨w.heap.size+1,0,none⟩=some (.slice a k c):=fun o=>(((Below.refl wr.heap.size wr).alloc (Nat.le_refl _) o).cell (p:=⟨w.heap.size+1,0,none⟩) J.out.z).trans m0
   obtain ⟨i0,hi,hz0,hz1,hz2⟩:=info_parts infoS
   have GB:Hid (∀ o,Below wr.heap.size wr ((wr.alloc o).drew)):=fun o=>(zAl _ _).drew
   have OWN:Hid (∀ o,((wr.alloc o).drew).ownsRow (w.heap.size+2) 38 6 (.slice a k c) k ((ss.take k).flatMap Sd.cells)):=fun o=>(J.out.below (GB.out o)).ow
   have hbs6:Hid (∀ o,w.heap.size+2<=((wr.alloc o).drew).heap.size):=fun o=>by have:=J.out.z;have:=(GB.out o).size;omega
   have hp1:Hid (pv.oneCell'=true):=by
    obtain ⟨pa,pc,hpv⟩:=HPV.out
    have hpv:pv=.slice pa ps.length pc:=hpv
    show pv.oneCell'=true
    rw [hpv];rfl
   have hl63:k+1<=maxLen:=by unfold maxLen;omega
   have p1:(0:Int)<=(k:Int):=by omega
   have p2:(k:Int)<(n:Int):=by omega
   clear hbox lbk hd hvP hks
   go_wp2_with fail
   go_region_law (first
    | (refine step_append_lies _ rfl (.tmp 25) (.tmp 29) 22 rfl (w.heap.size+2) 38 i0 (.agg #[.string ⟨#[]⟩,.int .i64 0,.int .i64 0,.int .i64 0,.string ⟨#[]⟩,.slice none 0 0]) 6 80 underlying22 hi hz0 hz1 hz2 rfl (by decide) (.slice a k c) k ((ss.take k).flatMap Sd.cells) rfl (OWN.out _) ⟨wr.heap.size,0,none⟩ 1 1 [.string nm,.int .i64 sk,.int .i64 sb,.int .i64 sa,.string sd,pv] rfl rfl (newN wr [.string nm,.int .i64 sk,.int .i64 sb,.int .i64 sa,.string sd,pv] 38) (by intro u hu;simp at hu;rcases hu with rfl|rfl|rfl|rfl|rfl|rfl;rfl;rfl;rfl;rfl;rfl;exact hp1.out) (by decide) hl63 (by omega) (hbs6.out _) _ rfl ?_;intro g' c' w7 hown' hgrow hat hlt';obtain ⟨p7,d0,f0⟩:=NX.out _ (GB.out _) w7 g' c' hown' hgrow;have S7:=(show Hid _ from p7);clear p7 hown' hgrow hat hlt')
    | fail)
   all_goals go_wp2
   all_goals go_roundw
   all_goals first
    | (case rel=>exact ⟨k+1,_,_,by omega,by go_num,S7.out⟩)
    | skip
   all_goals first
    | (case measure=>simp [intOf];omega)
    | skip
  ·have e:k=n:=by omega
   subst e
   have dk:decide ((k:Int)<(k:Int))=false:=decide_eq_false (by omega)
   go_upto_region 7 with fail
   refine wp_region_list ?_
   refine wpList_load_row rfl 26 _ rfl (w.heap.size+1) rfl _ _ (0,0) _ J.out.k2 underlying26 rfl Rlsb.infoO ?_
   refine wpList_store_row rfl 26 _ _ rfl w.heap.size #[.slice a k c,.slice ay nY cy,.slice aA nA cA] rfl rfl _ _ J.out.k1 Rlsb.infoO rfl (by simp [Value.oneCell']) ?_
   go_wp2
   refine bodyPost_ret (v:=.agg #[.slice a k c,.slice ay nY cy,.slice aA nA cA]) (results_cell_row results25 _ _ w.heap.size _ _ (0,0) _ rfl (setRow_heap _ _ _ _ _ _ J.out.k1) underlying26 rfl Rlsb.infoO) rfl ⟨⟨a,c,rfl,?_⟩,below_setRow J.out.b (Nat.le_refl _) _⟩
   have hd:=HD.out.below J.out.b
   have how:=J.out.ow
   rw [<- HN.out,List.take_length] at how
   have hg:wr.grownBy (wr.setRow w.heap.size #[.slice a k c,.slice ay nY cy,.slice aA nA cA]) (some w.heap.size):=⟨rfl,rfl,rfl,by simp,fun j _ hj=>setRow_other _ _ _ _ (fun e=>hj (by rw [e]))⟩
   rw [<- HN.out] at hg |-
   refine ⟨(own_mono (by have:=HB.out;omega) how).kept hg (.inr (own_ne_block how J.out.k1 (by decide))),hd.rw.other hg fun e size v n xs he hv=>.inr ?_⟩
   rcases he with rfl|rfl|rfl|rfl <;> exact own_ne_block hv J.out.k1 (by decide)
end Rimg
namespace Rimh
open Go.Deep
open Rown Rowo Rliq Rlip Rlsa Rlsc Rima Rimb Rimc Rimf Otxp Otxq
open Otxa (after)
theorem sm_lineI {m:Nat} {x x':Objr.X} {l:ByteArray} (h:lineI x l=some x') (hs:Sm m x) (hl:l.size<=1048576):Sm (m+1) x':=by
 have hB:=bB_le 32 l
 have zw:∀ k,(gt (Worr.W (bB 32 l)) k).size<=1048576:=fun k=>by have:=W_sz (bB 32 l) k;omega
 have zn:∀ k,(gt (SN (bB 32 l)) k).size<=1048576:=fun k=>by have:=Rime.SN_sz (bB 32 l) k;omega
 have ze:∀ t e,Wors.outI t=some e->t.size<=1048576->e.length<=801/\∀ n ∈ e,n.2.2.size<=1048576:=fun t e he ht=>by
  unfold Wors.outI at he
  split at he
  ·rename_i hx
   have he:=Option.some.inj he
   subst he
   refine ⟨?_,fun n hn=>?_⟩
   ·have:=(Woru.ok_all hx).1;omega
   ·obtain ⟨y,hy,rfl⟩:=List.mem_map.1 hn
    have:=Wors.nodeI_sz y
    have:=Wors.W_le _ t (Nat.le_refl _) y hy
    omega
  ·cases he
 unfold lineI at h
 split at h
 ·unfold secI at h
  split at h
  ·split at h
   ·rename_i D _ _ _ hD _ _ _
    have h:=Option.some.inj h
    subst h
    refine sm_addS hs _ (zw _) ?_ rfl
    have hl2:=byO_len _ _ _ (Nat.le_refl _) hD
    show (wB _).size<=_
    rw [wB_size]
    have:=zw 4
    rw [<- Otxa.size_list] at this
    omega
   ·cases h
  ·cases h
 split at h
 ·unfold patI at h
  split at h
  ·cases h
  ·split at h
   ·rename_i he _ _
    have h:=Option.some.inj h
    subst h
    exact sm_addP hs _ (ze _ _ he (zn _))
   ·cases h
 split at h
 ·unfold symI at h
  split at h
  ·split at h
   ·have h:=Option.some.inj h
    subst h
    exact sm_addY hs _ (zw _)
   ·cases h
  ·cases h
 split at h
 ·unfold assI at h
  split at h
  ·rename_i he
   have h:=Option.some.inj h
   subst h
   exact sm_addA hs _ (ze _ _ he (by omega))
  ·cases h
 ·cases h
structure Lq (w:World) (bx:List Nat) (sv:Value) (ss:List Sd) (yv:Value) (ys:List Osyr.X) (av:Value) (aa:List Ad) (wr:World):Prop where
 b:Below w.heap.size w wr
 z:w.heap.size+2<=wr.heap.size
 k1:wr.heap[w.heap.size]? = some (.cells #[.slice none 0 0,.slice none 0 0,.slice none 0 0] 26 (0,0))
 dr:Dr (w.heap.size+2) (w.heap.size+1) bx sv ss yv ys av aa wr
theorem lq_start (w:World):Lq w [] (.slice none 0 0) [] (.slice none 0 0) [] (.slice none 0 0) [] ((w.alloc (.cells #[.slice none 0 0,.slice none 0 0,.slice none 0 0] 26)).alloc (.cells #[.slice none 0 0,.slice none 0 0,.slice none 0 0] 48)):=by
 refine ⟨(zAl _ _).alloc (by simp) _,by simp,?_,⟨rfl,World.ownsRow_nil _ _ _ _,fun i hi=>absurd hi (Nat.not_lt_zero _),List.nodup_nil,?_,by omega,(ob_nil _ _).rw⟩⟩
 ·rw [Below.heap_alloc _ _ _ (by simp)];exact heap_alloc_last w _
 ·have h2:=heap_alloc_last (w.alloc (.cells #[.slice none 0 0,.slice none 0 0,.slice none 0 0] 26)) (.cells #[.slice none 0 0,.slice none 0 0,.slice none 0 0] 48)
  rw [World.size_alloc] at h2
  exact h2
theorem Lq.below {w wr u:World} {bx:List Nat} {sv yv av:Value} {ss:List Sd} {ys:List Osyr.X} {aa:List Ad} (h:Lq w bx sv ss yv ys av aa wr) (hb:Below wr.heap.size wr u):Lq w bx sv ss yv ys av aa u :=
 ⟨h.b.trans (hb.mono (by have:=h.z;omega)),Nat.le_trans h.z hb.size,(hb.block _ (by have:=h.z;omega)).trans h.k1,h.dr.below hb⟩
structure Ls (w u:World):Prop where
 b:Below w.heap.size w u
 k1:u.heap[w.heap.size]? = some (.cells #[.slice none 0 0,.slice none 0 0,.slice none 0 0] 26 (0,0))
 z:w.heap.size+2<=u.heap.size
theorem Lq.kb {w wr u:World} {bx:List Nat} {sv yv av:Value} {ss:List Sd} {ys:List Osyr.X} {aa:List Ad} (h:Lq w bx sv ss yv ys av aa wr) (hb:KB (w.heap.size+2) (w.heap.size+1) wr u):Ls w u :=
 ⟨h.b.trans ⟨hb.os,hb.tape,hb.output,Nat.le_trans (by have:=h.z;omega) hb.size |> fun _=>hb.size,fun k hk=>hb.block k (by omega) (by omega)⟩,(hb.block _ (by omega) (by omega)).trans h.k1,Nat.le_trans h.z hb.size⟩
def strSize:Value->Nat
 | .string b=>b.size
 | _=>0
end Rimh
namespace Rimi
open Go.Deep
open Rown Rowo Rliq Rlip Rlsa Rlsc Rima Rimb Rimc Rimf Rimh Otxp Otxq
open Otxa (after)
theorem left_ob {w u:World} {ss:List Sd} {ys:List Osyr.X} {aa:List Ad} {a0 a1 a2:Option Addr} {c0 c1 c2:Nat} {O:Option Objr.X} (hb:Below w.heap.size w u) (hk:u.heap[w.heap.size]? = some (.cells #[.slice none 0 0,.slice none 0 0,.slice none 0 0] 26 (0,0))) (ho:Ob u (w.heap.size+2) (.slice a0 ss.length c0) ss (.slice a1 ys.length c1) ys (.slice a2 aa.length c2) aa) (hs:Sm 60001 (objX ss ys aa)) (hO:O=some (objX ss ys aa)) (cs:Array Value) :
  Left9 w O (.returned (.tuple #[.agg #[.slice a0 ss.length c0,.slice a1 ys.length c1,.slice a2 aa.length c2],.bool true])) (u.setRow w.heap.size cs):=by
 subst hO
 have hg:u.grownBy (u.setRow w.heap.size cs) (some w.heap.size):=⟨rfl,rfl,rfl,by simp,fun k _ hk=>setRow_other _ _ _ _ (fun e=>hk (by rw [e]))⟩
 refine ⟨ss,ys,aa,a0,c0,a1,c1,a2,c2,rfl,Rlsc.Ob.mono (by omega) ⟨ho.sec.kept hg (.inr (own_ne_block ho.sec hk (by decide))),ho.rw.other hg fun e size v n xs he hv=>.inr ?_⟩,hs,rfl,below_setRow hb (Nat.le_refl _) _⟩
 rcases he with rfl|rfl|rfl|rfl <;> exact own_ne_block hv hk (by decide)
theorem implRead_any (s:ByteArray) (w:World) (hs:s.size<=1048576) (hC:Cx w) :
  Calls prog 6 #[.string s] w (Left9 w (outI9 s)):=by
 obtain ⟨O,hO⟩ : ∃ O,O=outI9 s:=⟨_,rfl⟩
 rw [<- hO]
 have L0:=(show Hid _ from lq_start w)
 have HC:=(show Hid _ from hC)
 clear hC
 by_cases h6:60000<s.size
 ·have HN:Hid (O=none):=(show O=none from by rw [hO];unfold outI9 out9;rw [if_pos h6])
  have d6':decide (60000<(s.size:Int))=true:=decide_eq_true (by omega)
  have K1:Hid ((w.alloc (.cells #[.slice none 0 0,.slice none 0 0,.slice none 0 0] 26)).heap[w.heap.size]? = some (.cells #[.slice none 0 0,.slice none 0 0,.slice none 0 0] 26 (0,0))):=heap_alloc_last w _
  have B1:Hid (Below w.heap.size w (w.alloc (.cells #[.slice none 0 0,.slice none 0 0,.slice none 0 0] 26))):=zAl _ _
  clear hO
  go_enter func6,ntmps6
  go_upto_region 2 with fail
  refine wp_region_list ?_
  refine wpList_plain rfl (fun K hK=>?_)
  go_simp
  refine hK _ _ ?_
  refine wpList_store_row rfl 26 _ _ rfl w.heap.size #[.slice none 0 0,.slice none 0 0,.slice none 0 0] rfl rfl _ _ K1.out Rlsb.infoO rfl (by simp [Value.oneCell']) ?_
  go_wp2
  exact bodyPost_ret (v:=.tuple #[.agg #[.slice none 0 0,.slice none 0 0,.slice none 0 0],.bool false]) (Rlsa.results_two results6 _ _ w.heap.size _ _ (0,0) _ _ rfl rfl (setRow_heap _ _ _ _ _ _ K1.out) underlying26 rfl Rlsb.infoO) rfl (left_no HN.out (below_setRow B1.out (Nat.le_refl _) _))
 ·have HO:Hid (O=fin9 s (goL lineI false (s.size+1) s o0)):=(show O=_ from by rw [hO];unfold outI9 out9;rw [if_neg h6])
  have d6':decide (60000<(s.size:Int))=false:=decide_eq_false (by omega)
  clear hO
  go_enter func6,ntmps6
  go_wp2_with fail
  go_loopw [5] (fun y wr=>∃ (r:ByteArray) (n j:Nat) (bx:List Nat) (ss:List Sd) (ys:List Osyr.X) (aa:List Ad) (sv yv av:Value),y=.string r/\r.size<=n/\j+r.size<=s.size/\Hid (Sm j (objX ss ys aa))/\Hid (O=fin9 s (goL lineI false (n+1) r (objX ss ys aa)))/\Hid (Lq w bx sv ss yv ys av aa wr)) (fun y _=>Rimh.strSize y)
  case atStart=>exact ⟨s,s.size,0,[],[],[],[],_,_,_,rfl,Nat.le_refl _,by omega,sm_nil 0,HO.out,L0.out⟩
  case round =>
   clear HO L0
   obtain ⟨r,n,j,bx,ss,ys,aa,sv,yv,av,rfl,hn,hj,HS,HO,HL⟩:=hrel
   by_cases h0:r.size=0
   ·have e0:r.toList.isEmpty=true:=Names.empty_yes h0
    have HO2:Hid (O=fin9 s (some (objX ss ys aa))):=(show O=_ from by rw [HO.out,goL_end h0])
    have hS6:Sm 60001 (objX ss ys aa):=Rowo.Sm.le HS.out (by omega)
    obtain ⟨a1,c1,hyv⟩:=own_slice HL.out.dr.rw.sym
    obtain ⟨a2,c2,hav⟩:=own_slice HL.out.dr.rw.ass
    subst hyv hav
    have lS:ss.length<=100000:=by have:=hS6.s;have e:(objX ss ys aa).f0.length=ss.length:=List.length_map ..;omega
    have co:=Rimg.object_any (w.heap.size+2) (w.heap.size+1) bx sv ss _ ys _ aa wr HL.out.dr HL.out.z lS
    have ct:∀ W a0 c0,Ob W (w.heap.size+2) (.slice a0 ss.length c0) ss (.slice a1 ys.length c1) ys (.slice a2 aa.length c2) aa->Below w.heap.size w W->Calls prog 12 #[.agg #[.slice a0 ss.length c0,.slice a1 ys.length c1,.slice a2 aa.length c2]] W fun e w'=>e=.returned (.string (objV (objX ss ys aa)))/\Below W.heap.size W w':=fun W a0 c0 ho hb=>by
     have hc:=HC.out.below hb
     have h:=Otxd.implText_any (objX ss ys aa) a0 c0 a1 c1 a2 c2 W ((has_of ho (by decide) hS6).mono (Nat.zero_le _)) (small_of (by decide) hS6) ⟨hc.op,hc.pow,hc.hex⟩
     have e1:(objX ss ys aa).f0.length=ss.length:=List.length_map ..
     have e2:(objX ss ys aa).f2.length=aa.length:=List.length_map ..
     unfold Obje.ocells at h
     rw [e1,e2] at h
     exact h
    have HCT:=(show Hid _ from ct)
    have HS6:Hid (Sm 60001 (objX ss ys aa)):=hS6
    clear HO HS h0 ct hS6 hn hj lS
    obtain ⟨V,hV⟩ : ∃ V,V=objV (objX ss ys aa):=⟨_,rfl⟩
    have HV:Hid (V=objV (objX ss ys aa)):=hV
    rw [<- hV] at HCT
    clear hV
    obtain ⟨nS,hnS⟩ : ∃ n,n=ss.length:=⟨_,rfl⟩
    obtain ⟨nY,hnY⟩ : ∃ n,n=ys.length:=⟨_,rfl⟩
    obtain ⟨nA,hnA⟩ : ∃ n,n=aa.length:=⟨_,rfl⟩
    have HN3:Hid (nS=ss.length/\nY=ys.length/\nA=aa.length):=⟨hnS,hnY,hnA⟩
    rw [<- hnS,<- hnY,<- hnA] at HCT co
    clear hnS hnY hnA
    have LS:Hid (∀ u,Below wr.heap.size wr u->Below w.heap.size w u/\u.heap[w.heap.size]? = some (.cells #[.slice none 0 0,.slice none 0 0,.slice none 0 0] 26 (0,0))):=fun u hu=>⟨(HL.out.below hu).b,(HL.out.below hu).k1⟩
    go_wp2_with fail
    refine co.mono ?_
    rintro e w1 ⟨⟨a0,c0,rfl,ho1⟩,b1⟩
    have B1:Hid (Below wr.heap.size wr w1):=b1
    have O1:=(show Hid _ from ho1)
    have GB:Hid (∀ o,Below w1.heap.size w1 (w1.alloc o)):=fun o=>zAl _ _
    have OA:Hid (∀ o,Ob (w1.alloc o) (w.heap.size+2) (.slice a0 nS c0) ss (.slice a1 nY c1) ys (.slice a2 nA c2) aa):=fun o=>ho1.below (GB.out o)
    have BA:Hid (∀ o,Below wr.heap.size wr (w1.alloc o)):=fun o=>b1.trans ((GB.out o).mono b1.size)
    have HX:Hid (∀ o,(w1.alloc o).heap[w1.heap.size]? = some o):=fun o=>heap_alloc_last w1 o
    clear b1 ho1 co
    by_cases hq:V=s
    ·have b1:(V.toList == s.toList)=true:=by rw [hq];simp
     have b2:(V.toList != s.toList)=false:=by rw [bne,b1];rfl
     have HN:Hid (O=some (objX ss ys aa)):=(show O=_ from by rw [HO2.out,fin9_of (HV.out.symm.trans hq)])
     clear hq HO2
     go_upto_region 13 with (go_at_call 12;refine (HCT.out _ _ _ (OA.out _) (LS.out _ (BA.out _)).1).mono ?_;rintro e w2 ⟨rfl,b2'⟩;have B2:Hid (Below wr.heap.size wr w2):=(BA.out _).trans (b2'.mono (BA.out _).size);have O2:=(show Hid _ from (OA.out _).below b2');have K2:Hid (w2.heap[w1.heap.size]? = some (.cells #[.slice a0 nS c0,.slice a1 nY c1,.slice a2 nA c2] 26 (0,0))):=(b2'.block _ (by simp)).trans (HX.out _);clear b2')
     refine wp_region_list ?_
     refine wpList_load_row rfl 26 _ rfl w1.heap.size rfl _ _ (0,0) _ K2.out underlying26 rfl Rlsb.infoO ?_
     refine wpList_store_row rfl 26 _ _ rfl w.heap.size #[.slice a0 nS c0,.slice a1 nY c1,.slice a2 nA c2] rfl rfl _ _ (LS.out _ B2.out).2 Rlsb.infoO rfl (by simp [Value.oneCell']) ?_
     go_wp2
     refine bodyPost_ret (v:=.tuple #[.agg #[.slice a0 nS c0,.slice a1 nY c1,.slice a2 nA c2],.bool true]) (Rlsa.results_two results6 _ _ w.heap.size _ _ (0,0) _ _ rfl rfl (setRow_heap _ _ _ _ _ _ (LS.out _ B2.out).2) underlying26 rfl Rlsb.infoO) rfl ?_
     have hf:=left_ob (LS.out _ B2.out).1 (LS.out _ B2.out).2 (by have h:=O2.out;rw [HN3.out.1,HN3.out.2.1,HN3.out.2.2] at h;exact h) HS6.out HN.out #[.slice a0 nS c0,.slice a1 nY c1,.slice a2 nA c2]
     rw [<- HN3.out.1,<- HN3.out.2.1,<- HN3.out.2.2] at hf
     exact hf
    ·have b1:(V.toList == s.toList)=false:=by
      simp only [beq_eq_false_iff_ne,ne_eq]
      exact fun q=>hq (Rlip.bx (by rw [ByteArray.toList_eq,ByteArray.toList_eq] at q;exact q))
     have b2:(V.toList != s.toList)=true:=by rw [bne,b1];rfl
     have HN:Hid (O=none):=(show O=none from by rw [HO2.out,fin9_no (fun h=>hq (HV.out.trans h))])
     clear hq HO2
     go_upto_region 12 with (go_at_call 12;refine (HCT.out _ _ _ (OA.out _) (LS.out _ (BA.out _)).1).mono ?_;rintro e w2 ⟨rfl,b2'⟩;have B2:Hid (Below wr.heap.size wr w2):=(BA.out _).trans (b2'.mono (BA.out _).size);clear b2')
     refine wp_region_list ?_
     refine wpList_plain rfl (fun K hK=>?_)
     go_simp
     refine hK _ _ ?_
     refine wpList_store_row rfl 26 _ _ rfl w.heap.size #[.slice none 0 0,.slice none 0 0,.slice none 0 0] rfl rfl _ _ (LS.out _ B2.out).2 Rlsb.infoO rfl (by simp [Value.oneCell']) ?_
     go_wp2
     exact bodyPost_ret (v:=.tuple #[.agg #[.slice none 0 0,.slice none 0 0,.slice none 0 0],.bool false]) (Rlsa.results_two results6 _ _ w.heap.size _ _ (0,0) _ _ rfl rfl (setRow_heap _ _ _ _ _ _ (LS.out _ B2.out).2) underlying26 rfl Rlsb.infoO) rfl (left_no HN.out (below_setRow (LS.out _ B2.out).1 (Nat.le_refl _) _))
   ·have e0:r.toList.isEmpty=false:=Names.empty_no h0
    have cc:=Rimf.cut_any r 10 wr (by omega) (HC.out.below HL.out.b).ml
    have hA:=bA_le 10 r
    have hB:=bB_lt (c:=10) h0
    have EA:Hid (∀ n o,lineI o (bA 10 r)=none->goL lineI false (n+1) r o=none):=fun n o h=>goL_bad h0 h
    have EC:Hid (∀ n o o',lineI o (bA 10 r)=some o'->goL lineI false (n+1) r o=goL lineI false n (bB 10 r) o'):=fun n o o' h2=>goL_on h0 (fun h=>(by cases h)) h2
    generalize bA 10 r=X at *
    generalize bB 10 r=Y at *
    generalize bF 10 r=ff at *
    have HCL:Hid (∀ W,Below wr.heap.size wr W->Calls prog 24 #[.pointer (some ⟨w.heap.size+1,0,none⟩),.string X] W (PostI (w.heap.size+2) (w.heap.size+1) W (lineI (objX ss ys aa) X))):=fun W hb=>by
     have h:=HL.out.below hb
     exact read_any (w.heap.size+2) (w.heap.size+1) bx sv ss yv ys av aa X j W h.dr h.z (HC.out.below h.b) (by omega) (by omega) HS.out
    obtain ⟨R,hR⟩ : ∃ R,lineI (objX ss ys aa) X=R:=⟨_,rfl⟩
    have HR:Hid (lineI (objX ss ys aa) X=R):=hR
    rw [hR] at HCL
    clear hR
    go_wp2_with fail
    refine cc.mono ?_
    rintro e w1 ⟨rfl,b1⟩
    have B1:Hid (Below wr.heap.size wr w1):=b1
    clear b1 cc
    go_wp2_with fail
    refine (HCL.out w1 B1.out).mono ?_
    intro e w2 hp
    have he:=post_ret hp
    have hls:=(HL.out.below B1.out).kb hp.1
    have LS:=(show Hid _ from hls)
    cases R with
    | none =>
     have HN:Hid (O=none):=(show O=none from by rw [HO.out,EA.out _ _ HR.out];rfl)
     subst he
     clear EA EC HO hp hls HCL
     go_simp
     go_upto_region 8 with fail
     refine wp_region_list ?_
     refine wpList_plain rfl (fun K hK=>?_)
     go_simp
     refine hK _ _ ?_
     refine wpList_store_row rfl 26 _ _ rfl w.heap.size #[.slice none 0 0,.slice none 0 0,.slice none 0 0] rfl rfl _ _ LS.out.k1 Rlsb.infoO rfl (by simp [Value.oneCell']) ?_
     go_wp2
     exact bodyPost_ret (v:=.tuple #[.agg #[.slice none 0 0,.slice none 0 0,.slice none 0 0],.bool false]) (Rlsa.results_two results6 _ _ w.heap.size _ _ (0,0) _ _ rfl rfl (setRow_heap _ _ _ _ _ _ LS.out.k1) underlying26 rfl Rlsb.infoO) rfl (left_no HN.out (below_setRow LS.out.b (Nat.le_refl _) _))
    | some x =>
     obtain ⟨bx',sv',ss',yv',ys',av',aa',hx,hdr,_⟩:=hp.2
     have HS2:Hid (Sm (j+1) (objX ss' ys' aa')):=(show Sm _ _ from by rw [hx];exact sm_lineI HR.out HS.out (by omega))
     have HL2:Hid (Lq w bx' sv' ss' yv' ys' av' aa' w2):=⟨hls.b,hls.z,hls.k1,hdr⟩
     obtain ⟨n',rfl⟩ : ∃ n',n=n'+1:=⟨n-1,by omega⟩
     have HO2:Hid (O=fin9 s (goL lineI false (n'+1) Y (objX ss' ys' aa'))):=(show O=_ from by rw [HO.out,EC.out _ _ _ HR.out,hx])
     subst he
     clear EA EC HO hp hls HCL hx hdr
     go_wp2_with fail
     go_roundw
     case rel=>exact ⟨Y,n',j+1,bx',ss',ys',aa',sv',yv',av',rfl,by omega,by omega,HS2.out,HO2.out,HL2.out⟩
     case measure=>show Y.size<r.size;exact hB
end Rimi
end Go.Proofs.YtickfkphhngagaaGreatDoor
