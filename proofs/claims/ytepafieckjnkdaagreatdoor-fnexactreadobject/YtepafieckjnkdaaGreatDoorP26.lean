import Derived.Test.YtepafieckjnkdaaGreatDoorP24
set_option linter.all false
set_option maxRecDepth 20000
set_option maxHeartbeats 8000000
open Go.ChangeShapes Go.WideShapes Go.ChangeAt Go.RowKit
open Go.Proofs.Tryz
namespace Go.Proofs.YtepafieckjnkdaaGreatDoor
namespace Rmkd
open Go.Deep
open Nodm (markText_any grown_of_below own_belowG grown_set)
open Rown (yCells)
def cellsOf (L:List Osyr.X):List Value:=L.flatMap yCells
theorem cells_len (L:List Osyr.X):(cellsOf L).length=L.length*4:=by
 induction L with
 | nil=>rfl
 | cons y r ih =>
  have e:cellsOf (y :: r)=.string y.f0 :: .int .i64 y.f1 :: .int .i64 y.f2 :: .bool y.f3 :: cellsOf r:=rfl
  rw [e];simp only [List.length_cons,ih];omega
theorem cells_app (P R:List Osyr.X):cellsOf (P ++ R)=cellsOf P ++ cellsOf R:=by unfold cellsOf;rw [List.flatMap_append]
def markS (q:Int) (i:Nat):Osyr.X:=⟨Nodm.mark (q+4*(i:Int)),q+1+4*(i:Int),q+2+4*(i:Int),decide ((q+3+4*(i:Int))%3=0)⟩
def marks (q:Int) (n:Nat):List Osyr.X:=(List.range n).map (markS q)
theorem marks_len (q:Int) (n:Nat):(marks q n).length=n:=by unfold marks;simp
theorem marks_snoc (q:Int) (n:Nat):marks q (n+1)=marks q n ++ [markS q n]:=by unfold marks;rw [List.range_succ,List.map_append];rfl
theorem set4 (P R:List Osyr.X) (x y:Osyr.X) (k:Nat) (h:P.length=k):((((cellsOf (P ++ x :: R)).set (k*4) (.string y.f0)).set (k*4+1) (.int .i64 y.f1)).set (k*4+2) (.int .i64 y.f2)).set (k*4+3) (.bool y.f3)=cellsOf (P ++ y :: R):=by
 have e:∀ z:Osyr.X,cellsOf (P ++ z :: R)=cellsOf P ++ (.string z.f0 :: .int .i64 z.f1 :: .int .i64 z.f2 :: .bool z.f3 :: cellsOf R):=fun z=>cells_app P (z :: R)
 have hl:(cellsOf P).length=k*4:=by rw [cells_len,h]
 rw [e,e]
 rw [List.set_append_right _ _ (by omega),List.set_append_right _ _ (by omega),List.set_append_right _ _ (by omega),List.set_append_right _ _ (by omega),hl]
 rw [show k*4-k*4=0 by omega,show k*4+1-k*4=1 by omega,show k*4+2-k*4=2 by omega,show k*4+3-k*4=3 by omega]
 rfl
theorem cells_at (L:List Osyr.X) (k:Nat) (h:k<L.length):(cellsOf L)[k*4]? = some (.string L[k].f0)/\(cellsOf L)[k*4+1]? = some (.int .i64 L[k].f1)/\(cellsOf L)[k*4+2]? = some (.int .i64 L[k].f2)/\(cellsOf L)[k*4+3]? = some (.bool L[k].f3):=by
 have e:cellsOf L=cellsOf (L.take k) ++ (.string L[k].f0 :: .int .i64 L[k].f1 :: .int .i64 L[k].f2 :: .bool L[k].f3 :: cellsOf (L.drop (k+1))):=by
  have h1:L=L.take k ++ L[k] :: L.drop (k+1):=by rw [<- List.drop_eq_getElem_cons h,List.take_append_drop]
  have h2:=congrArg cellsOf h1
  rw [cells_app] at h2
  exact h2
 have hl:(cellsOf (L.take k)).length=k*4:=by rw [cells_len,List.length_take];omega
 rw [e]
 refine ⟨?_,?_,?_,?_⟩ <;> rw [List.getElem?_append_right (by omega),hl]
 ·rw [Nat.sub_self];rfl
 ·rw [show k*4+1-k*4=1 by omega];rfl
 ·rw [show k*4+2-k*4=2 by omega];rfl
 ·rw [show k*4+3-k*4=3 by omega];rfl
def mid (q:Int) (k:Nat) (L:List Osyr.X):List Osyr.X:=marks q k ++ L.drop k
theorem mid_step {q:Int} {k:Nat} {L:List Osyr.X} (h:k<L.length):((((cellsOf (mid q k L)).set (k*4) (.string (Nodm.mark (q+4*(k:Int))))).set (k*4+1) (.int .i64 (q+1+4*(k:Int)))).set (k*4+2) (.int .i64 (q+2+4*(k:Int)))).set (k*4+3) (.bool (decide ((q+3+4*(k:Int))%3=0)))=cellsOf (mid q (k+1) L):=by
 unfold mid
 rw [List.drop_eq_getElem_cons h,marks_snoc,List.append_assoc]
 exact set4 (marks q k) (L.drop (k+1)) L[k] (markS q k) k (marks_len q k)
theorem mid_end {q:Int} {L:List Osyr.X}:mid q L.length L=marks q L.length:=by unfold mid;rw [List.drop_length,List.append_nil]
theorem markY_any (q:Int) (hq0:0<q) (hq1:q<=500000000) (v:Value) (n:Nat) (L:List Osyr.X) (base:Nat) (w:World) (hown:w.ownsRow base 49 4 v n (cellsOf L)) (hL:L.length=n) (hn:n<=10000) :
  Calls prog 53 #[v,.int .i64 q] w fun e w'=>e=.returned (.int .i64 (q+4*(n:Int)))/\w'.ownsRow base 49 4 v n (cellsOf (marks q n))/\w.grownBy w' v.ownBlock:=by
 rcases hown.2 with ⟨rfl,rfl⟩|⟨g,cap,cur,rfl,hbg,hg,hnc,hcm,hcs,htake⟩
 ·go_enter func53,ntmps53
  go_wp2
  go_loopw [1,5] (fun k i wr=>k=.int .i64 q/\i=.int .i64 0/\wr=w) (fun _ _ _=>0)
  case atStart=>exact ⟨rfl,rfl,rfl⟩
  case round =>
   obtain ⟨rfl,rfl,rfl⟩:=hrel
   go_wp2
   go_ret
   exact ⟨by simp,World.ownsRow_nil _ _ _ _,World.grownBy.refl _ _⟩
 clear hg hcs htake hcm
 have HO:Hid (w.ownsRow base 49 4 (.slice (some ⟨g,0,none⟩) n cap) n (cellsOf (mid q 0 L))):=hown
 have HL:Hid (L.length=n):=hL
 clear hown hL
 go_enter func53,ntmps53
 go_wp2
 go_loopw [1,5] (fun c i wr=>∃ k:Nat,k<=n/\i=.int .i64 k/\c=.int .i64 (q+4*(k:Int))/\Hid (wr.ownsRow base 49 4 (.slice (some ⟨g,0,none⟩) n cap) n (cellsOf (mid q k L)))/\Hid (w.grownBy wr (some g))) (fun _ i _=>n-(intOf i).toNat)
 case atStart=>exact ⟨0,Nat.zero_le _,rfl,by simp,HO.out,World.grownBy.refl _ _⟩
 case round =>
  obtain ⟨k,hk,rfl,rfl,hown,hgr⟩:=hrel
  clear HO
  by_cases hlt:k<n
  ·have hkL:k<L.length:=by have:=HL.out;omega
   have cm:=fun w=>markText_any (q+4*(k:Int)) w (by omega) (by omega)
   have HS:Hid (((((cellsOf (mid q k L)).set (k*4) (.string (Nodm.mark (q+4*(k:Int))))).set (k*4+1) (.int .i64 (q+1+4*(k:Int)))).set (k*4+2) (.int .i64 (q+2+4*(k:Int)))).set (k*4+3) (.bool (decide ((q+3+4*(k:Int))%3=0)))=cellsOf (mid q (k+1) L)):=mid_step hkL
   generalize Nodm.mark (q+4*(k:Int))=t at cm HS
   go_wp2_with fail
   refine (cm _).mono ?_
   rintro e w1 ⟨rfl,hb1⟩
   have own1:=own_belowG hown.out hb1
   have hlen:(cellsOf (mid q k L)).length=n*4:=own1.1
   have f0:∀ j,w1.frozen? ⟨g,j,none⟩=false:=fun j=>own1.frozenAt j
   obtain ⟨x0,c0⟩ : ∃ x,w1.cell? ⟨g,k*4,none⟩=some x:=⟨_,(own1.cellAt (k*4) (by omega)).trans (List.getElem?_eq_getElem (by omega))⟩
   have h1:=(own1.stored (k*4) (.string t)).1
   obtain ⟨x1,c1⟩ : ∃ x,(w1.setCell ⟨g,k*4,none⟩ (.string t)).cell? ⟨g,k*4+1,none⟩=some x:=⟨_,(h1.cellAt (k*4+1) (by omega)).trans (List.getElem?_eq_getElem (by rw [List.length_set];omega))⟩
   have h2:=(h1.stored (k*4+1) (.int .i64 (q+1+4*(k:Int)))).1
   obtain ⟨x2,c2⟩ : ∃ x,((w1.setCell ⟨g,k*4,none⟩ (.string t)).setCell ⟨g,k*4+1,none⟩ (.int .i64 (q+1+4*(k:Int)))).cell? ⟨g,k*4+2,none⟩=some x:=⟨_,(h2.cellAt (k*4+2) (by omega)).trans (List.getElem?_eq_getElem (by rw [List.length_set,List.length_set];omega))⟩
   have h3:=(h2.stored (k*4+2) (.int .i64 (q+2+4*(k:Int)))).1
   obtain ⟨x3,c3⟩ : ∃ x,(((w1.setCell ⟨g,k*4,none⟩ (.string t)).setCell ⟨g,k*4+1,none⟩ (.int .i64 (q+1+4*(k:Int)))).setCell ⟨g,k*4+2,none⟩ (.int .i64 (q+2+4*(k:Int)))).cell? ⟨g,k*4+3,none⟩=some x:=⟨_,(h3.cellAt (k*4+3) (by omega)).trans (List.getElem?_eq_getElem (by rw [List.length_set,List.length_set,List.length_set];omega))⟩
   have f1:∀ j,(w1.setCell ⟨g,k*4,none⟩ (.string t)).frozen? ⟨g,j,none⟩=false:=fun j=>h1.frozenAt j
   have f2:∀ j,((w1.setCell ⟨g,k*4,none⟩ (.string t)).setCell ⟨g,k*4+1,none⟩ (.int .i64 (q+1+4*(k:Int)))).frozen? ⟨g,j,none⟩=false:=fun j=>h2.frozenAt j
   have f3:∀ j,(((w1.setCell ⟨g,k*4,none⟩ (.string t)).setCell ⟨g,k*4+1,none⟩ (.int .i64 (q+1+4*(k:Int)))).setCell ⟨g,k*4+2,none⟩ (.int .i64 (q+2+4*(k:Int)))).frozen? ⟨g,j,none⟩=false:=fun j=>h3.frozenAt j
   have h4:=(h3.stored (k*4+3) (.bool (decide ((q+3+4*(k:Int))%3=0)))).1
   rw [HS.out] at h4
   have OW:Hid (World.ownsRow _ base 49 4 (.slice (some ⟨g,0,none⟩) n cap) n (cellsOf (mid q (k+1) L))):=h4
   have GR:Hid (w.grownBy ((((w1.setCell ⟨g,k*4,none⟩ (.string t)).setCell ⟨g,k*4+1,none⟩ (.int .i64 (q+1+4*(k:Int)))).setCell ⟨g,k*4+2,none⟩ (.int .i64 (q+2+4*(k:Int)))).setCell ⟨g,k*4+3,none⟩ (.bool (decide ((q+3+4*(k:Int))%3=0)))) (some g)):=hgr.out.trans ((grown_of_below hb1 (some g)).trans ((grown_set _ _ _ _).trans ((grown_set _ _ _ _).trans ((grown_set _ _ _ _).trans (grown_set _ _ _ _)))))
   have k1:q+4*(k:Int)+1=q+1+4*(k:Int):=by omega
   have k2:q+1+4*(k:Int)+1=q+2+4*(k:Int):=by omega
   have k3:q+2+4*(k:Int)+1=q+3+4*(k:Int):=by omega
   clear h1 h2 h3 h4 own1 hown hgr hb1 cm HS hlen
   go_wp2_with fail
   go_roundw
   case rel=>exact ⟨k+1,by omega,by go_num,by congr 1;omega,OW.out,GR.out⟩
   case measure=>simp [intOf];omega
  ·have e:k=n:=by omega
   subst e
   have HM:Hid (mid q k L=marks q k):=by show _=_;rw [<- HL.out];exact mid_end
   go_wp2
   go_ret
   exact ⟨rfl,by rw [<- HM.out];exact hown.out,hgr.out⟩
theorem marks_at (q:Int) (n k:Nat) (h:k<n):(cellsOf (marks q n))[k*4]? = some (.string (Nodm.mark (q+4*(k:Int))))/\(cellsOf (marks q n))[k*4+1]? = some (.int .i64 (q+1+4*(k:Int)))/\(cellsOf (marks q n))[k*4+2]? = some (.int .i64 (q+2+4*(k:Int)))/\(cellsOf (marks q n))[k*4+3]? = some (.bool (decide ((q+3+4*(k:Int))%3=0))):=by
 have h':=cells_at (marks q n) k (by rw [marks_len];exact h)
 have e:(marks q n)[k]'(by rw [marks_len];exact h)=markS q k:=by unfold marks;simp
 rw [e] at h'
 exact h'
theorem heldY_any (q:Int) (hq0:0<q) (hq1:q<=500000000) (v:Value) (n:Nat) (base:Nat) (w:World) (hown:w.ownsRow base 49 4 v n (cellsOf (marks q n))) (hn:n<=10000) :
  Calls prog 56 #[v,.int .i64 q] w fun e w'=>e=.returned (.int .i64 (q+4*(n:Int)))/\Below w.heap.size w w':=by
 rcases hown.2 with ⟨rfl,rfl⟩|⟨g,cap,cur,rfl,hbg,hg,hnc,hcm,hcs,htake⟩
 ·go_enter func56,ntmps56
  go_wp2
  go_loopw [1,5] (fun k i wr=>k=.int .i64 q/\i=.int .i64 0/\wr=w) (fun _ _ _=>0)
  case atStart=>exact ⟨rfl,rfl,rfl⟩
  case round =>
   obtain ⟨rfl,rfl,rfl⟩:=hrel
   go_wp2
   go_ret
   exact ⟨by simp,Below.refl _ _⟩
 have hgl:g<w.heap.size:=(zLo hg)
 clear hg hcs htake hcm
 have HO:Hid (∀ k,k<n->w.cell? ⟨g,k*4,none⟩=some (.string (Nodm.mark (q+4*(k:Int))))/\w.cell? ⟨g,k*4+1,none⟩=some (.int .i64 (q+1+4*(k:Int)))/\w.cell? ⟨g,k*4+2,none⟩=some (.int .i64 (q+2+4*(k:Int)))/\w.cell? ⟨g,k*4+3,none⟩=some (.bool (decide ((q+3+4*(k:Int))%3=0)))):=fun k hk=>by
  obtain ⟨a1,a2,a3,a4⟩:=marks_at q n k hk
  exact ⟨(hown.cellAt _ (by omega)).trans a1,(hown.cellAt _ (by omega)).trans a2,(hown.cellAt _ (by omega)).trans a3,(hown.cellAt _ (by omega)).trans a4⟩
 clear hown
 go_enter func56,ntmps56
 go_wp2
 go_loopw [1,5] (fun c i wr=>∃ k:Nat,k<=n/\i=.int .i64 k/\c=.int .i64 (q+4*(k:Int))/\Hid (Below w.heap.size w wr)) (fun _ i _=>n-(intOf i).toNat)
 case atStart=>exact ⟨0,Nat.zero_le _,rfl,by simp,Below.refl _ _⟩
 case round =>
  obtain ⟨k,hk,rfl,rfl,hbel⟩:=hrel
  by_cases hlt:k<n
  ·have cm:=fun w=>markText_any (q+4*(k:Int)) w (by omega) (by omega)
   have HW:Hid (∀ u,Below w.heap.size w u->u.cell? ⟨g,k*4,none⟩=some (.string (Nodm.mark (q+4*(k:Int))))/\u.cell? ⟨g,k*4+1,none⟩=some (.int .i64 (q+1+4*(k:Int)))/\u.cell? ⟨g,k*4+2,none⟩=some (.int .i64 (q+2+4*(k:Int)))/\u.cell? ⟨g,k*4+3,none⟩=some (.bool (decide ((q+3+4*(k:Int))%3=0)))):=fun u hu=>⟨(hu.cell (p:=⟨g,_,none⟩) hgl).trans (HO.out k hlt).1,(hu.cell (p:=⟨g,_,none⟩) hgl).trans (HO.out k hlt).2.1,(hu.cell (p:=⟨g,_,none⟩) hgl).trans (HO.out k hlt).2.2.1,(hu.cell (p:=⟨g,_,none⟩) hgl).trans (HO.out k hlt).2.2.2⟩
   generalize Nodm.mark (q+4*(k:Int))=t at cm HW
   have c0:=(HW.out wr hbel.out).1
   have k0:(0:Int)<=(k:Int):=by omega
   have k1:(k:Int)<(n:Int):=by omega
   have e1:q+4*(k:Int)+1=q+1+4*(k:Int):=by omega
   have e2:q+1+4*(k:Int)+1=q+2+4*(k:Int):=by omega
   have e3:q+2+4*(k:Int)+1=q+3+4*(k:Int):=by omega
   clear HO
   obtain hz|hz:decide ((q+3+4*(k:Int))%3=0)=true \/ decide ((q+3+4*(k:Int))%3=0)=false:=by cases decide ((q+3+4*(k:Int))%3=0) <;> simp
   ·rw [hz] at HW
    have hb:((q+3+4*(k:Int))%3 == 0)=true:=hz
    clear hz
    go_wp2_with fail
    go_region_with (go_at_call 93;refine (cm _).mono ?_;rintro e w1 ⟨rfl,hb1⟩;have b1:Hid (Below w.heap.size w w1):=hbel.out.trans (Below.mono ⟨hb1.os,hb1.tape,hb1.output,hb1.size,hb1.block⟩ hbel.out.size);obtain ⟨d0,d1,d2,d3⟩:=HW.out w1 b1.out;clear hb1)
    all_goals go_wp2
    all_goals go_roundw
    all_goals first
     | (case rel=>exact ⟨k+1,by omega,by go_num,by congr 1;omega,by first|exact b1.out|exact b1.out.drew|exact below_drewN b1.out _⟩)
     | skip
    all_goals first
     | (case measure=>simp [intOf];omega)
     | skip
   ·rw [hz] at HW
    have hb:((q+3+4*(k:Int))%3 == 0)=false:=hz
    clear hz
    go_wp2_with fail
    go_region_with (go_at_call 93;refine (cm _).mono ?_;rintro e w1 ⟨rfl,hb1⟩;have b1:Hid (Below w.heap.size w w1):=hbel.out.trans (Below.mono ⟨hb1.os,hb1.tape,hb1.output,hb1.size,hb1.block⟩ hbel.out.size);obtain ⟨d0,d1,d2,d3⟩:=HW.out w1 b1.out;clear hb1)
    all_goals go_wp2
    all_goals go_roundw
    all_goals first
     | (case rel=>exact ⟨k+1,by omega,by go_num,by congr 1;omega,by first|exact b1.out|exact b1.out.drew|exact below_drewN b1.out _⟩)
     | skip
    all_goals first
     | (case measure=>simp [intOf];omega)
     | skip
  ·have e:k=n:=by omega
   subst e
   clear HO
   go_wp2
   go_ret
   exact ⟨rfl,hbel.out⟩
end Rmkd
namespace Rimb
open Go.Deep
open Rown Rowo Rliq Rlip
open Otxa (after)
structure KB (bs db:Nat) (w w':World):Prop where
 os:w'.os=w.os
 tape:w'.tape=w.tape
 output:w'.output=w.output
 size:w.heap.size<=w'.heap.size
 block:∀ k,k<bs->k ≠ db->w'.heap[k]? = w.heap[k]?
theorem KB.refl (bs db:Nat) (w:World):KB bs db w w:=⟨rfl,rfl,rfl,Nat.le_refl _,fun _ _ _=>rfl⟩
theorem KB.trans {bs db:Nat} {a b c:World} (h:KB bs db a b) (k:KB bs db b c):KB bs db a c:=⟨k.os.trans h.os,k.tape.trans h.tape,k.output.trans h.output,Nat.le_trans h.size k.size,fun i h1 h2=>(k.block i h1 h2).trans (h.block i h1 h2)⟩
theorem KB.of {bs db:Nat} {w w':World} (hbs:bs<=w.heap.size) (hb:Below w.heap.size w w'):KB bs db w w':=⟨hb.os,hb.tape,hb.output,hb.size,fun k hk _=>hb.block k (by omega)⟩
theorem KB.grown {bs db:Nat} {w w':World} {row:Option Nat} (hbs:bs<=w.heap.size) (hg:w.grownBy w' row) (hr:∀ r,row=some r->bs<=r):KB bs db w w':=⟨hg.os,hg.tape,hg.output,hg.size,fun k hk _=>hg.block k (by omega) (fun e=>by have:=hr k e.symm;omega)⟩
theorem KB.cell {bs db i:Nat} {w:World} {u:Value}:KB bs db w (w.setCell ⟨db,i,none⟩ u):=⟨rfl,rfl,rfl,by simp [World.setCell],fun k _ hk=>Below.heap_setCell _ _ _ _ hk⟩
structure Dr (bs db:Nat) (bx:List Nat) (sv:Value) (ss:List Sd) (yv:Value) (ys:List Osyr.X) (av:Value) (aa:List Ad) (w:World):Prop where
 len:bx.length=ss.length
 sec:w.ownsRow bs 47 1 sv ss.length (bx.map fun b=>.pointer (some ⟨b,0,none⟩))
 box:∀ i,(h:i<ss.length)->bs<=bx.getD i 0/\w.heap[bx.getD i 0]? = some (.cells ss[i].cells.toArray 35 (0,0))
 dis:bx.Nodup
 cd:w.heap[db]? = some (.cells #[sv,yv,av] 58 (0,0))
 lb:db<bs
 rw:Rw w bs ss yv ys av aa
theorem Dr.below {bs db:Nat} {bx:List Nat} {sv yv av:Value} {ss:List Sd} {ys:List Osyr.X} {aa:List Ad} {w w':World} (h:Dr bs db bx sv ss yv ys av aa w) (hb:Below w.heap.size w w'):Dr bs db bx sv ss yv ys av aa w' :=
 ⟨h.len,own_below h.sec hb,fun i hi=>⟨(h.box i hi).1,(hb.block _ ((zLo (h.box i hi).2))).trans (h.box i hi).2⟩,h.dis,(hb.block _ ((zLo h.cd))).trans h.cd,h.lb,h.rw.below hb⟩
theorem getD_mem {l:List Nat} {b:Nat} (h:b ∈ l):∃ i,i<l.length/\l.getD i 0=b:=by
 obtain ⟨i,hi,rfl⟩:=List.getElem_of_mem h
 exact ⟨i,hi,by rw [List.getD_eq_getElem?_getD,List.getElem?_eq_getElem hi];rfl⟩
theorem Dr.lt {bs db:Nat} {bx:List Nat} {sv yv av:Value} {ss:List Sd} {ys:List Osyr.X} {aa:List Ad} {w:World} (h:Dr bs db bx sv ss yv ys av aa w):∀ b ∈ bx,b<w.heap.size:=fun b hb=>by
 obtain ⟨i,hi,rfl⟩:=getD_mem hb
 exact (zLo (h.box i (by rw [<- h.len];exact hi)).2)
theorem snocD (l:List Nat) (b i:Nat):(l ++ [b]).getD i 0=if i<l.length then l.getD i 0 else if i=l.length then b else 0:=by
 rw [List.getD_eq_getElem?_getD,List.getD_eq_getElem?_getD]
 by_cases h:i<l.length
 ·rw [if_pos h,List.getElem?_append_left h]
 ·rw [if_neg h,List.getElem?_append_right (by omega)]
  by_cases h2:i=l.length
  ·subst h2;rw [if_pos rfl];simp
  ·rw [if_neg h2]
   have:([b]:List Nat)[i-l.length]? = none:=List.getElem?_eq_none (by simp;omega)
   rw [this];rfl
theorem T58 {x y:TypeId} {w:World} {g:Nat} {c c':Array Value} {m m':Nat × Nat} (h:w.heap[g]? = some (.cells c x m)) {g':Nat} (h':w.heap[g']? = some (.cells c' y m')) (hne:x ≠ y):g ≠ g':=fun e=>by
 subst e;rw [h] at h';cases (Option.some.inj h');exact hne rfl
theorem Dr.turn {bs db i:Nat} {bx bx':List Nat} {sv yv av sv' yv' av' u:Value} {ss ss':List Sd} {ys ys':List Osyr.X} {aa aa':List Ad} {w w':World} {row:Option Nat} (h:Dr bs db bx sv ss yv ys av aa w) (hg:w.grownBy w' row) (hr:∀ r,row=some r->r ≠ db)
  (hu:(#[sv,yv,av]:Array Value).setIfInBounds i u=#[sv',yv',av']) (h1:bx'.length=ss'.length) (h2:w'.ownsRow bs 47 1 sv' ss'.length (bx'.map fun b=>.pointer (some ⟨b,0,none⟩)))
  (h3:∀ i,(h:i<ss'.length)->bs<=bx'.getD i 0/\w'.heap[bx'.getD i 0]? = some (.cells ss'[i].cells.toArray 35 (0,0))) (h4:bx'.Nodup) (h5:Rw w' bs ss' yv' ys' av' aa') :
  Dr bs db bx' sv' ss' yv' ys' av' aa' (w'.setCell ⟨db,i,none⟩ u)/\w'.heap[db]? = some (.cells #[sv,yv,av] 58 (0,0)):=by
 have e:w'.heap[db]? = some (.cells #[sv,yv,av] 58 (0,0)):=(hg.block _ ((zLo h.cd)) (fun q=>hr _ q.symm rfl)).trans h.cd
 refine ⟨⟨h1,h2.kept (Nodm.grown_set _ _ _ _) (.inr (own_ne_block h2 e (by decide))),fun j hj=>⟨(h3 j hj).1,?_⟩,h4,?_,h.lb,h5.cell e (by decide) (by decide) (by decide) (by decide)⟩,e⟩
 ·rw [Below.heap_setCell _ _ _ _ (T58 (h3 j hj).2 e (by decide))]
  exact (h3 j hj).2
 ·rw [heap_setCell_same _ _ _ _ _ _ e,hu]
theorem Dr.row {bs db:Nat} {bx:List Nat} {sv yv av:Value} {ss:List Sd} {ys:List Osyr.X} {aa:List Ad} {w:World} (h:Dr bs db bx sv ss yv ys av aa w) {T:TypeId} {size n:Nat} {v:Value} {xs:List Value} (ho:w.ownsRow bs T size v n xs) (hne:T ≠ 58):∀ r,v.ownBlock=some r->r ≠ db:=fun r hr e=>own_ne_block ho h.cd hne (hr.trans (by rw [e]))
theorem Dr.boxes {bs db:Nat} {bx:List Nat} {sv yv av:Value} {ss:List Sd} {ys:List Osyr.X} {aa:List Ad} {w w':World} (h:Dr bs db bx sv ss yv ys av aa w) {T:TypeId} {size n:Nat} {v:Value} {xs:List Value} (ho:w.ownsRow bs T size v n xs) (hne:T ≠ 35) (hg:w.grownBy w' v.ownBlock) :
  ∀ i,(h:i<ss.length)->bs<=bx.getD i 0/\w'.heap[bx.getD i 0]? = some (.cells ss[i].cells.toArray 35 (0,0)):=fun i hi=>by
 obtain ⟨a,b⟩:=h.box i hi
 exact ⟨a,(hg.block _ ((zLo b)) (fun q=>own_ne_block ho b hne q.symm)).trans b⟩
theorem Dr.addS {bs db b:Nat} {bx:List Nat} {sv yv av v':Value} {ss:List Sd} {ys:List Osyr.X} {aa:List Ad} {w w':World} (h:Dr bs db bx sv ss yv ys av aa w) (nm d:ByteArray) (k c a:Int)
  (hb:w.heap[b]? = some (.cells #[.string nm,.int .i64 k,.int .i64 c,.int .i64 a,.string d,.slice none 0 0] 35 (0,0))) (hbs:bs<=b) (hn:b ∉ bx)
  (ho:w'.ownsRow bs 47 1 v' (ss.length+1) ((bx.map fun b=>.pointer (some ⟨b,0,none⟩)) ++ [.pointer (some ⟨b,0,none⟩)])) (hg:w.grownBy w' sv.ownBlock) :
  Dr bs db (bx ++ [b]) v' (ss ++ [⟨nm,k,c,a,d,.slice none 0 0,[]⟩]) yv ys av aa (w'.setCell ⟨db,0,none⟩ v')/\w'.heap[db]? = some (.cells #[sv,yv,av] 58 (0,0)):=by
 refine h.turn hg (h.row h.sec (by decide)) rfl (by simp [h.len]) (by rw [List.map_append,List.length_append];exact ho) (fun i hi=>?_) ?_ ((h.rw.type h.sec hg (by decide) (by decide) (by decide) (by decide)).addS nm d k c a)
 ·rw [snocD,h.len]
  by_cases hlt:i<ss.length
  ·rw [if_pos hlt,List.getElem_append_left hlt]
   exact h.boxes h.sec (by decide) hg i hlt
  ·have e:i=ss.length:=by simp at hi;omega
   subst e
   rw [if_neg hlt,if_pos rfl]
   refine ⟨hbs,?_⟩
   rw [List.getElem_append_right (Nat.le_refl _)]
   simp only [Nat.sub_self,List.getElem_cons_zero]
   exact (hg.block _ ((zLo hb)) (fun q=>own_ne_block h.sec hb (by decide) q.symm)).trans hb
 ·rw [List.nodup_append]
  exact ⟨h.dis,by simp,fun x hx y hy e=>hn (by rw [List.mem_singleton.1 hy] at e;rw [<- e];exact hx)⟩
theorem Dr.addY {bs db:Nat} {bx:List Nat} {sv yv av v':Value} {ss:List Sd} {ys:List Osyr.X} {aa:List Ad} {w w':World} (h:Dr bs db bx sv ss yv ys av aa w) (y:Osyr.X)
  (ho:w'.ownsRow bs 49 4 v' (ys.length+1) (ys.flatMap yCells ++ yCells y)) (hg:w.grownBy w' yv.ownBlock) :
  Dr bs db bx sv ss v' (ys ++ [y]) av aa (w'.setCell ⟨db,1,none⟩ v')/\w'.heap[db]? = some (.cells #[sv,yv,av] 58 (0,0)) :=
 h.turn hg (h.row h.rw.sym (by decide)) rfl h.len (h.sec.kept hg (own_ne h.sec h.rw.sym (by decide))) (h.boxes h.rw.sym (by decide) hg) h.dis (h.rw.addY y v' ho hg)
theorem Dr.addA {bs db:Nat} {bx:List Nat} {sv yv av v':Value} {ss:List Sd} {ys:List Osyr.X} {aa:List Ad} {w w':World} (h:Dr bs db bx sv ss yv ys av aa w) (x:Ad) (hx:ExOwn w bs x.e x.l)
  (hap:∀ u ∈ ss.flatMap (fun s=>s.ps.map (·.e)) ++ aa.map (·.e),Apart u x.e)
  (ho:w'.ownsRow bs 53 1 v' (aa.length+1) (aa.map (·.e) ++ [x.e])) (hg:w.grownBy w' av.ownBlock) :
  Dr bs db bx sv ss yv ys v' (aa ++ [x]) (w'.setCell ⟨db,2,none⟩ v')/\w'.heap[db]? = some (.cells #[sv,yv,av] 58 (0,0)) :=
 h.turn hg (h.row h.rw.ass (by decide)) rfl h.len (h.sec.kept hg (own_ne h.sec h.rw.ass (by decide))) (h.boxes h.rw.ass (by decide) hg) h.dis (h.rw.addA x v' hx hap ho hg)
theorem Dr.addP {bs db b0:Nat} {bx:List Nat} {sv yv av v':Value} {S:List Sd} {s:Sd} {ys:List Osyr.X} {aa:List Ad} {w w':World} (h:Dr bs db (bx ++ [b0]) sv (S ++ [s]) yv ys av aa w) (hl:bx.length=S.length) (p:Pd) (hx:ExOwn w bs p.e p.l)
  (hap:∀ u ∈ (S ++ [s]).flatMap (fun s=>s.ps.map (·.e)) ++ aa.map (·.e),Apart u p.e/\Apart p.e u)
  (ho:w'.ownsRow bs 72 3 v' (s.ps.length+1) (s.ps.flatMap Pd.cells ++ p.cells)) (hg:w.grownBy w' s.pv.ownBlock) (hv:v'.ownBlock=s.pv.ownBlock \/ v'.ownBlock=some w.heap.size) :
  Dr bs db (bx ++ [b0]) sv (S ++ [⟨s.nm,s.k,s.b,s.a,s.d,v',s.ps ++ [p]⟩]) yv ys av aa (w'.setCell ⟨b0,5,none⟩ v')/\w'.heap[b0]? = some (.cells s.cells.toArray 35 (0,0)):=by
 have hpat:=h.rw.pat s (by simp)
 have hB:=h.boxes hpat (by decide) hg
 have e0:w'.heap[b0]? = some (.cells s.cells.toArray 35 (0,0)):=by
  have:=(hB S.length (by simp)).2
  rw [snocD,hl,if_neg (Nat.lt_irrefl _),if_pos rfl,List.getElem_append_right (Nat.le_refl _)] at this
  simpa using this
 have hdb:w'.heap[db]? = some (.cells #[sv,yv,av] 58 (0,0)):=(hg.block _ ((zLo h.cd)) (fun q=>h.row hpat (by decide) _ q.symm rfl)).trans h.cd
 have hsec:=h.sec.kept hg (own_ne h.sec hpat (by decide))
 have hrw:=h.rw.addP p v' hx hap ho hg hv
 refine ⟨⟨by simp [hl],?_,fun i hi=>?_,h.dis,?_,h.lb,hrw.cell e0 (by decide) (by decide) (by decide) (by decide)⟩,e0⟩
 ·have hs:=hsec.kept (Nodm.grown_set w' b0 5 v') (.inr (own_ne_block hsec e0 (by decide)))
  rw [List.length_append] at hs |-
  exact hs
 ·have hi':i<(S ++ [s]).length:=by simpa using hi
  obtain ⟨q1,q2⟩:=hB i hi'
  refine ⟨q1,?_⟩
  rw [snocD,hl] at q1 q2 |-
  by_cases hlt:i<S.length
  ·rw [if_pos hlt] at q1 q2 |-
   rw [List.getElem_append_left hlt] at q2 |-
   have hne:bx.getD i 0 ≠ b0:=fun e=>by
    have hd:=h.dis
    rw [List.nodup_append] at hd
    have hm:bx.getD i 0 ∈ bx:=by
     have hib:i<bx.length:=by rw [hl];exact hlt
     rw [List.getD_eq_getElem?_getD,List.getElem?_eq_getElem hib];exact List.getElem_mem hib
    exact hd.2.2 _ hm b0 (by simp) e
   rw [Below.heap_setCell _ _ _ _ hne];exact q2
  ·have e:i=S.length:=by simp at hi;omega
   subst e
   rw [if_neg hlt,if_pos rfl,List.getElem_append_right (Nat.le_refl _)]
   simp only [Nat.sub_self,List.getElem_cons_zero]
   rw [heap_setCell_same _ _ _ _ _ _ e0]
   rfl
 ·rw [Below.heap_setCell _ _ _ _ (T58 hdb e0 (by decide))];exact hdb
def PostI (bs db:Nat) (w:World) (X:Option Objr.X) (e:Ending) (w':World):Prop :=
 KB bs db w w'/\match X with
 | none=>e=.returned (.bool false)
 | some x=>∃ bx sv ss yv ys av aa,objX ss ys aa=x/\Dr bs db bx sv ss yv ys av aa w'/\e=.returned (.bool true)
end Rimb
end Go.Proofs.YtepafieckjnkdaaGreatDoor
