import Derived.Test.YtepafieckjnkdaaGreatDoorP06
import Derived.Deep.Cut
import Derived.Laws.Rows
import Derived.Laws.Tables
import Derived.Laws.CopyOwn
set_option linter.all false
set_option maxRecDepth 20000
set_option maxHeartbeats 8000000
open Go.ChangeShapes Go.WideShapes Go.ChangeAt Go.RowKit
open Go.Proofs.Tryz
namespace Go.Proofs.YtepafieckjnkdaaGreatDoor
namespace Rmka
open Go.Deep
open Nodm (cellsOf cells_len cells_at cells_app set3 markText_any grown_of_below own_belowG grown_set)
def markS (q:Int) (i:Nat):Stepx.Node:=(q+3*(i:Int),q+1+3*(i:Int),Nodm.mark (q+2+3*(i:Int)))
def marks (q:Int) (n:Nat):List Stepx.Node:=(List.range n).map (markS q)
theorem marks_len (q:Int) (n:Nat):(marks q n).length=n:=by unfold marks;simp
theorem marks_snoc (q:Int) (n:Nat):marks q (n+1)=marks q n ++ [markS q n]:=by unfold marks;rw [List.range_succ,List.map_append];rfl
def mid (q:Int) (k:Nat) (L:List Stepx.Node):List Stepx.Node:=marks q k ++ L.drop k
theorem mid_step {q:Int} {k:Nat} {L:List Stepx.Node} (h:k<L.length):(((cellsOf (mid q k L)).set (k*3) (.int .i64 (q+3*(k:Int)))).set (k*3+1) (.int .i64 (q+1+3*(k:Int)))).set (k*3+2) (.string (Nodm.mark (q+2+3*(k:Int))))=cellsOf (mid q (k+1) L):=by
 unfold mid
 rw [List.drop_eq_getElem_cons h,marks_snoc,List.append_assoc]
 exact set3 (marks q k) (L.drop (k+1)) L[k] (markS q k) k (marks_len q k)
theorem mid_end {q:Int} {L:List Stepx.Node}:mid q L.length L=marks q L.length:=by unfold mid;rw [List.drop_length,List.append_nil]
theorem markE_any (q:Int) (hq0:0<q) (hq1:q<=500000000) (v:Value) (n:Nat) (L:List Stepx.Node) (base:Nat) (w:World) (hown:w.ownsRow base 111 3 v n (cellsOf L)) (hL:L.length=n) (hn:n<=10000) :
  Calls prog 95 #[v,.int .i64 q] w fun e w'=>e=.returned (.int .i64 (q+3*(n:Int)))/\w'.ownsRow base 111 3 v n (cellsOf (marks q n))/\w.grownBy w' v.ownBlock:=by
 rcases hown.2 with ⟨rfl,rfl⟩|⟨g,cap,cur,rfl,hbg,hg,hnc,hcm,hcs,htake⟩
 ·go_enter func95,ntmps95
  go_wp2
  go_loopw [1,5] (fun k i wr=>k=.int .i64 q/\i=.int .i64 0/\wr=w) (fun _ _ _=>0)
  case atStart=>exact ⟨rfl,rfl,rfl⟩
  case round =>
   obtain ⟨rfl,rfl,rfl⟩:=hrel
   go_wp2
   go_ret
   exact ⟨by simp,World.ownsRow_nil _ _ _ _,World.grownBy.refl _ _⟩
 clear hg hcs htake hcm
 have HO:Hid (w.ownsRow base 111 3 (.slice (some ⟨g,0,none⟩) n cap) n (cellsOf (mid q 0 L))):=hown
 have HL:Hid (L.length=n):=hL
 clear hown hL
 go_enter func95,ntmps95
 go_wp2
 go_loopw [1,5] (fun c i wr=>∃ k:Nat,k<=n/\i=.int .i64 k/\c=.int .i64 (q+3*(k:Int))/\Hid (wr.ownsRow base 111 3 (.slice (some ⟨g,0,none⟩) n cap) n (cellsOf (mid q k L)))/\Hid (w.grownBy wr (some g))) (fun _ i _=>n-(intOf i).toNat)
 case atStart=>exact ⟨0,Nat.zero_le _,rfl,by simp,HO.out,World.grownBy.refl _ _⟩
 case round =>
  obtain ⟨k,hk,rfl,rfl,hown,hgr⟩:=hrel
  clear HO
  by_cases hlt:k<n
  ·have hkL:k<L.length:=by have:=HL.out;omega
   have cm:=fun w=>markText_any (q+2+3*(k:Int)) w (by omega) (by omega)
   have HS:Hid ((((cellsOf (mid q k L)).set (k*3) (.int .i64 (q+3*(k:Int)))).set (k*3+1) (.int .i64 (q+1+3*(k:Int)))).set (k*3+2) (.string (Nodm.mark (q+2+3*(k:Int))))=cellsOf (mid q (k+1) L)):=mid_step hkL
   generalize Nodm.mark (q+2+3*(k:Int))=t at cm HS
   have own1:=hown.out
   have hlen:(cellsOf (mid q k L)).length=n*3:=own1.1
   have f0:∀ j,wr.frozen? ⟨g,j,none⟩=false:=fun j=>own1.frozenAt j
   obtain ⟨x0,c0⟩ : ∃ x,wr.cell? ⟨g,k*3,none⟩=some x:=⟨_,(own1.cellAt (k*3) (by omega)).trans (List.getElem?_eq_getElem (by omega))⟩
   have h1:=(own1.stored (k*3) (.int .i64 (q+3*(k:Int)))).1
   obtain ⟨x1,c1⟩ : ∃ x,(wr.setCell ⟨g,k*3,none⟩ (.int .i64 (q+3*(k:Int)))).cell? ⟨g,k*3+1,none⟩=some x:=⟨_,(h1.cellAt (k*3+1) (by omega)).trans (List.getElem?_eq_getElem (by rw [List.length_set];omega))⟩
   have h2:=(h1.stored (k*3+1) (.int .i64 (q+1+3*(k:Int)))).1
   have f1:∀ j,(wr.setCell ⟨g,k*3,none⟩ (.int .i64 (q+3*(k:Int)))).frozen? ⟨g,j,none⟩=false:=fun j=>h1.frozenAt j
   have H2:Hid (World.ownsRow ((wr.setCell ⟨g,k*3,none⟩ (.int .i64 (q+3*(k:Int)))).setCell ⟨g,k*3+1,none⟩ (.int .i64 (q+1+3*(k:Int)))) base 111 3 (.slice (some ⟨g,0,none⟩) n cap) n (((cellsOf (mid q k L)).set (k*3) (.int .i64 (q+3*(k:Int)))).set (k*3+1) (.int .i64 (q+1+3*(k:Int))))):=h2
   have G2:Hid (w.grownBy ((wr.setCell ⟨g,k*3,none⟩ (.int .i64 (q+3*(k:Int)))).setCell ⟨g,k*3+1,none⟩ (.int .i64 (q+1+3*(k:Int)))) (some g)):=hgr.out.trans ((grown_set _ _ _ _).trans (grown_set _ _ _ _))
   have k1:q+3*(k:Int)+1=q+1+3*(k:Int):=by omega
   have k2:q+1+3*(k:Int)+1=q+2+3*(k:Int):=by omega
   clear h1 h2 own1 hown hgr hlen
   go_wp2_with fail
   refine (cm _).mono ?_
   rintro e w1 ⟨rfl,hb1⟩
   have own3:=own_belowG H2.out hb1
   have hl3:=own3.1
   have f2:∀ j,w1.frozen? ⟨g,j,none⟩=false:=fun j=>own3.frozenAt j
   obtain ⟨x2,c2⟩ : ∃ x,w1.cell? ⟨g,k*3+2,none⟩=some x:=⟨_,(own3.cellAt (k*3+2) (by omega)).trans (List.getElem?_eq_getElem (by omega))⟩
   have h3:=(own3.stored (k*3+2) (.string t)).1
   rw [HS.out] at h3
   have OW:Hid (World.ownsRow _ base 111 3 (.slice (some ⟨g,0,none⟩) n cap) n (cellsOf (mid q (k+1) L))):=h3
   have GR:Hid (w.grownBy (w1.setCell ⟨g,k*3+2,none⟩ (.string t)) (some g)):=G2.out.trans ((grown_of_below hb1 (some g)).trans (grown_set _ _ _ _))
   clear h3 own3 hb1 cm HS hl3 H2 G2 c0 c1 f0 f1
   go_wp2_with fail
   go_roundw
   case rel=>exact ⟨k+1,by omega,by go_num,by congr 1;omega,OW.out,GR.out⟩
   case measure=>simp [intOf];omega
  ·have e:k=n:=by omega
   subst e
   have HM:Hid (mid q k L=marks q k):=by show _=_;rw [<- HL.out];exact mid_end
   go_wp2
   go_ret
   exact ⟨rfl,by rw [<- HM.out];exact hown.out,hgr.out⟩
theorem marks_at (q:Int) (n k:Nat) (h:k<n):(cellsOf (marks q n))[k*3]? = some (.int .i64 (q+3*(k:Int)))/\(cellsOf (marks q n))[k*3+1]? = some (.int .i64 (q+1+3*(k:Int)))/\(cellsOf (marks q n))[k*3+2]? = some (.string (Nodm.mark (q+2+3*(k:Int)))):=by
 have h':=cells_at (marks q n) k (by rw [marks_len];exact h)
 have e:(marks q n)[k]'(by rw [marks_len];exact h)=markS q k:=by unfold marks;simp
 rw [e] at h'
 exact h'
theorem heldE_any (q:Int) (hq0:0<q) (hq1:q<=500000000) (v:Value) (n:Nat) (base:Nat) (w:World) (hown:w.ownsRow base 111 3 v n (cellsOf (marks q n))) (hn:n<=10000) :
  Calls prog 97 #[v,.int .i64 q] w fun e w'=>e=.returned (.int .i64 (q+3*(n:Int)))/\Below w.heap.size w w':=by
 rcases hown.2 with ⟨rfl,rfl⟩|⟨g,cap,cur,rfl,hbg,hg,hnc,hcm,hcs,htake⟩
 ·go_enter func97,ntmps97
  go_wp2
  go_loopw [1,5] (fun k i wr=>k=.int .i64 q/\i=.int .i64 0/\wr=w) (fun _ _ _=>0)
  case atStart=>exact ⟨rfl,rfl,rfl⟩
  case round =>
   obtain ⟨rfl,rfl,rfl⟩:=hrel
   go_wp2
   go_ret
   exact ⟨by simp,Below.refl _ _⟩
 have hgl:g<w.heap.size:=(zLo hg)
 clear hg hcs htake hcm
 have HO:Hid (∀ k,k<n->w.cell? ⟨g,k*3,none⟩=some (.int .i64 (q+3*(k:Int)))/\w.cell? ⟨g,k*3+1,none⟩=some (.int .i64 (q+1+3*(k:Int)))/\w.cell? ⟨g,k*3+2,none⟩=some (.string (Nodm.mark (q+2+3*(k:Int))))):=fun k hk=>by
  obtain ⟨a1,a2,a3⟩:=marks_at q n k hk
  exact ⟨(hown.cellAt _ (by omega)).trans a1,(hown.cellAt _ (by omega)).trans a2,(hown.cellAt _ (by omega)).trans a3⟩
 clear hown
 go_enter func97,ntmps97
 go_wp2
 go_loopw [1,5] (fun c i wr=>∃ k:Nat,k<=n/\i=.int .i64 k/\c=.int .i64 (q+3*(k:Int))/\Hid (Below w.heap.size w wr)) (fun _ i _=>n-(intOf i).toNat)
 case atStart=>exact ⟨0,Nat.zero_le _,rfl,by simp,Below.refl _ _⟩
 case round =>
  obtain ⟨k,hk,rfl,rfl,hbel⟩:=hrel
  by_cases hlt:k<n
  ·have cm:=fun w=>markText_any (q+2+3*(k:Int)) w (by omega) (by omega)
   have HW:Hid (∀ u,Below w.heap.size w u->u.cell? ⟨g,k*3,none⟩=some (.int .i64 (q+3*(k:Int)))/\u.cell? ⟨g,k*3+1,none⟩=some (.int .i64 (q+1+3*(k:Int)))/\u.cell? ⟨g,k*3+2,none⟩=some (.string (Nodm.mark (q+2+3*(k:Int))))):=fun u hu=>⟨(hu.cell (p:=⟨g,_,none⟩) hgl).trans (HO.out k hlt).1,(hu.cell (p:=⟨g,_,none⟩) hgl).trans (HO.out k hlt).2.1,(hu.cell (p:=⟨g,_,none⟩) hgl).trans (HO.out k hlt).2.2⟩
   generalize Nodm.mark (q+2+3*(k:Int))=t at cm HW
   obtain ⟨c0,c1,c2⟩:=HW.out wr hbel.out
   have k0:(0:Int)<=(k:Int):=by omega
   have k1:(k:Int)<(n:Int):=by omega
   have e1:q+3*(k:Int)+1=q+1+3*(k:Int):=by omega
   have e2:q+1+3*(k:Int)+1=q+2+3*(k:Int):=by omega
   clear HO
   go_wp2_with fail
   go_region_with (go_at_call 93;refine (cm _).mono ?_;rintro e w1 ⟨rfl,hb1⟩;have b1:Hid (Below w.heap.size w w1):=hbel.out.trans (Below.mono ⟨hb1.os,hb1.tape,hb1.output,hb1.size,hb1.block⟩ hbel.out.size);obtain ⟨d0,d1,d2⟩:=HW.out w1 b1.out;clear hb1)
   all_goals go_wp2
   all_goals go_roundw
   all_goals first
    | (case rel=>exact ⟨k+1,by omega,by go_num,by congr 1;omega,by first|exact b1.out|exact b1.out.drew|exact below_drewN b1.out _⟩)
    | skip
   all_goals first
    | (case measure=>simp [intOf];omega)
    | skip
  ·have e:k=n:=by omega
   subst e
   clear HO
   go_wp2
   go_ret
   exact ⟨rfl,hbel.out⟩
end Rmka
namespace Nodi
open Optx Extx Exts
def opAtB (w:ByteArray) (j:Nat):Bool:=(opTab.getD j ⟨#[]⟩).toList == w.toList
def opI (w:ByteArray):Option Nat:=(List.range 14).find? (opAtB w)
theorem op_first {w:ByteArray} {k:Nat} (hk:k<14) (hn:∀ j,j<k->opAtB w j=false) (h:opAtB w k=true):opI w=some k:=by
 unfold opI
 rw [List.find?_eq_some_iff_append]
 refine ⟨h,List.range k,(List.range (14-k-1)).map (·+(k+1)),?_,fun a ha=>by rw [hn a (List.mem_range.1 ha)];rfl⟩
 have:∀ k,k<14->List.range 14=List.range k ++ k :: (List.range (14-k-1)).map (·+(k+1)):=by decide
 exact this k hk
theorem op_none {w:ByteArray} (hn:∀ j,j<14->opAtB w j=false):opI w=none:=by
 unfold opI
 rw [List.find?_eq_none]
 intro a ha
 rw [hn a (List.mem_range.1 ha)];simp
def numI (w:ByteArray):Option Int:=match Nums.num w with
 | some n=>if ((decW n).toList == w.toList)=true then some n else none
 | none=>none
def hash (w:ByteArray):Bool:=decide (0<w.size/\(w.data.getD 0 0).toNat=35)
def nodeI (w:ByteArray):Stepx.Node:=match opI w with
 | some j=>(4+(j:Int),0,⟨#[]⟩)
 | none=>match numI w with
  | some n=>(1,n,⟨#[]⟩)
  | none=>if hash w=true then (3,0,w.extract 1 w.size) else (2,0,w)
def nodeS (w:ByteArray):Stepx.Node:=match opI w with
 | some j=>(4+(j:Int),0,⟨#[]⟩)
 | none=>match Nums.num w with
  | some n=>(1,n,⟨#[]⟩)
  | none=>if hash w=true then (3,0,w.extract 1 w.size) else (2,0,w)
def nodeV (x:Stepx.Node):Value:=.agg #[.int .i64 x.1,.int .i64 x.2.1,.string x.2.2]
def Zero (w:World) (b:Nat):Prop:=w.cell? ⟨b,0,none⟩=some (.int .i64 0)/\w.cell? ⟨b,1,none⟩=some (.int .i64 0)/\w.cell? ⟨b,2,none⟩=some (.string ⟨#[]⟩)/\(∀ i,w.frozen? ⟨b,i,none⟩=false)/\b<w.heap.size
theorem Zero.new (w:World):Zero (w.alloc (.cells #[.int .i64 0,.int .i64 0,.string ⟨#[]⟩] 111)) w.heap.size:=by
 refine ⟨?_,?_,?_,fun i=>World.frozen?_alloc_at _ _ _ _ rfl,by simp⟩
 ·rw [World.cell?_alloc_new];rfl
 ·rw [World.cell?_alloc_new];rfl
 ·rw [World.cell?_alloc_new];rfl
theorem Zero.below {w w':World} {b:Nat} (h:Zero w b) (hb:Below w.heap.size w w'):Zero w' b:=by
 obtain ⟨h0,h1,h2,h3,h4⟩:=h
 exact ⟨(hb.cell (p:=⟨b,_,none⟩) h4).trans h0,(hb.cell (p:=⟨b,_,none⟩) h4).trans h1,(hb.cell (p:=⟨b,_,none⟩) h4).trans h2,fun i=>(World.frozen?_of_block (a:=⟨b,i,none⟩) (hb.block b h4)).trans (h3 i),Nat.lt_of_lt_of_le h4 hb.size⟩
theorem Zero.put {w:World} {B:Nat} (h:Zero w B) (x y z:Value):(((w.setCell ⟨B,0,none⟩ x).setCell ⟨B,1,none⟩ y).setCell ⟨B,2,none⟩ z).cell? ⟨B,0,none⟩=some x/\(((w.setCell ⟨B,0,none⟩ x).setCell ⟨B,1,none⟩ y).setCell ⟨B,2,none⟩ z).cell? ⟨B,1,none⟩=some y/\(((w.setCell ⟨B,0,none⟩ x).setCell ⟨B,1,none⟩ y).setCell ⟨B,2,none⟩ z).cell? ⟨B,2,none⟩=some z:=by
 obtain ⟨h0,h1,h2,h3,h4⟩:=h
 refine ⟨?_,?_,?_⟩
 ·rw [World.cell?_setCell_other _ _ _ _ (by simp),World.cell?_setCell_other _ _ _ _ (by simp)]
  exact World.cell?_setCell_same _ _ _ h0
 ·rw [World.cell?_setCell_other _ _ _ _ (by simp)]
  exact World.cell?_setCell_same _ _ _ ((World.cell?_setCell_other _ _ _ _ (by simp)).trans h1)
 ·exact World.cell?_setCell_same _ _ _ ((World.cell?_setCell_other _ _ _ _ (by simp)).trans ((World.cell?_setCell_other _ _ _ _ (by simp)).trans h2))
theorem set3_below {w W:World} {B:Nat} (h:Below w.heap.size w W) (hB:w.heap.size<=B) (x y z:Value):Below w.heap.size w (((W.setCell ⟨B,0,none⟩ x).setCell ⟨B,1,none⟩ y).setCell ⟨B,2,none⟩ z) :=
 ((h.setCell (p:=⟨B,0,none⟩) hB _).setCell (p:=⟨B,1,none⟩) hB _).setCell (p:=⟨B,2,none⟩) hB _
theorem word_bd:∀ (l:List UInt8) (b n r:Int),0<=n->n<=65535->2<=b->Nums.word b n l=some r->0<=r/\r<=65535
 | [],b,n,r,h0,h1,hb,h=>by cases h;exact ⟨h0,h1⟩
 | c :: l,b,n,r,h0,h1,hb,h=>by
  have h:(if b<=Nums.digS (c.toNat:Int) then none else if 65535<n*b+Nums.digS (c.toNat:Int) then none else Nums.word b (n*b+Nums.digS (c.toNat:Int)) l)=some r:=h
  split at h
  ·cases h
  split at h
  ·cases h
  ·rename_i h2
   have hd:=(Nums.digS_bd (c.toNat:Int)).1
   have hm:0<=n*b:=Int.mul_nonneg h0 (by omega)
   exact word_bd l b _ r (by omega) (by omega) hb h
theorem num_bd {s:ByteArray} {n:Int} (h:Nums.num s=some n):0<=n/\n<=65535:=by
 have base:∀ (x:ByteArray) (b:Int),2<=b->Nums.base x b=some n->0<=n/\n<=65535:=fun x b hb h=>by
  unfold Nums.base at h
  split at h
  ·cases h
  ·exact word_bd _ b 0 n (by omega) (by omega) hb h
 unfold Nums.num at h
 split at h
 ·cases h
 split at h
 ·exact base _ 16 (by omega) h
 split at h
 ·exact base _ 2 (by omega) h
 ·exact base _ 10 (by omega) h
theorem hash_has (s:ByteArray):Lib.hasPrefix s.data.toList [35]=hash s:=by
 unfold hash Lib.hasPrefix
 cases h:s.data.toList with
 | nil =>
  have:s.size=0:=by show s.data.size=0;rw [<- Array.length_toList,h];rfl
  rw [decide_eq_false (by omega)];rfl
 | cons c r =>
  have hsz:0<s.size:=by show 0<s.data.size;rw [<- Array.length_toList,h];exact Nat.succ_pos _
  have hc:s.data.getD 0 0=c:=by
   have:s.data.toList[0]? = some c:=by rw [h];rfl
   rw [Array.getElem?_toList] at this
   rw [Array.getD_eq_getD_getElem?,this];rfl
  rw [hc]
  rw [Bool.eq_iff_iff]
  simp [List.isPrefixOf,hsz]
  constructor
  ·intro e;rw [<- e];rfl
  ·intro e;exact (UInt8.toNat_inj.1 e.symm)
theorem tab_below {w w':World} (h:Nums.Tab w) (hb:Below w.heap.size w w'):Nums.Tab w':=fun i hi=>(hb.cell (p:=⟨0,i,none⟩) (World.block_lt_of_cell? w ⟨0,0,none⟩ (h 0 (by decide)))).trans (h i hi)
theorem nodeOf_any (s:ByteArray) (w:World) (hs:s.size<=1048576) (hT:OpTab w) (hP:Pow w) (hX:Nums.Tab w) :
  Calls prog 138 #[.string s] w fun e w'=>e=.returned (nodeV (nodeI s))/\Below w.heap.size w w':=by
 have B0:Hid (Below w.heap.size w (w.alloc (.cells #[.int .i64 0,.int .i64 0,.string ⟨#[]⟩] 111))):=zAl _ _
 have Z0:Hid (Zero (w.alloc (.cells #[.int .i64 0,.int .i64 0,.string ⟨#[]⟩] 111)) w.heap.size):=Zero.new w
 have HT:Hid (OpTab w/\Pow w/\Nums.Tab w):=⟨hT,hP,hX⟩
 clear hT hP hX
 go_enter func138,ntmps138
 go_wp2_with fail
 generalize w.alloc (.cells #[.int .i64 0,.int .i64 0,.string ⟨#[]⟩] 111)=W0 at B0 Z0 |-
 go_loopw [3] (fun i wr=>∃ k:Nat,k<=14/\i=.int .i64 (4+(k:Int))/\Hid (∀ j,j<k->opAtB s j=false)/\wr=W0) (fun i _=>18-(intOf i).toNat)
 case atStart=>exact ⟨0,Nat.zero_le _,rfl,fun j h=>absurd h (Nat.not_lt_zero _),rfl⟩
 case round =>
  obtain ⟨k,hk,rfl,hno,rfl⟩:=hrel
  by_cases hlt:k<14
  ·have c0:=(HT.out.1.below B0.out) k hlt
   have e4:(4+(k:Int))-4=(k:Int):=by omega
   have k0:(0:Int)<=(k:Int):=by omega
   have k1:(k:Int)<14:=by omega
   have hw4:(4+(k:Int))<=17:=by omega
   cases hb:opAtB s k with
   | true =>
    have HV:Hid (nodeV (nodeI s)=nodeV (4+(k:Int),0,⟨#[]⟩)):=by show _=_;unfold nodeI;rw [op_first hlt hno.out hb]
    have hb':((opTab.getD k ⟨#[]⟩).toList == s.toList)=true:=hb
    generalize opTab.getD k ⟨#[]⟩=T at c0 hb'
    obtain ⟨r0,r1,r2,f0,hrl⟩:=Z0.out
    have ZP:Hid (_/\_/\_):=Z0.out.put (.int .i64 (4+(k:Int))) (.int .i64 0) (.string ⟨#[]⟩)
    have BB:Hid (Below w.heap.size w wr):=B0.out
    clear hno hb Z0
    go_wp2_with fail
    obtain ⟨p0,p1,p2⟩:=ZP.out
    exact bodyPost_ret (v:=.agg #[.int .i64 (4+(k:Int)),.int .i64 0,.string ⟨#[]⟩]) (by simp [results,results138,go_sem,p0,p1,p2]) rfl ⟨(congrArg Ending.returned HV.out).symm,set3_below BB.out (Nat.le_refl _) _ _ _⟩
   | false =>
    have HN2:Hid (∀ j,j<k+1->opAtB s j=false):=fun j hj=>by
     rcases Nat.lt_or_ge j k with h|h
     ·exact hno.out j h
     ·have e:j=k:=by omega
      subst e;exact hb
    have hb':((opTab.getD k ⟨#[]⟩).toList == s.toList)=false:=hb
    generalize opTab.getD k ⟨#[]⟩=T at c0 hb'
    clear hno hb
    go_wp2_with fail
    go_roundw
    case rel=>exact ⟨k+1,by omega,by first|go_num|(congr 1;omega),HN2.out,by first|rfl|trivial⟩
    case measure=>simp [intOf];omega
  ·have e:k=14:=by omega
   subst e
   have HOP:Hid (opI s=none):=op_none hno.out
   have cn:=Nums.implNum_any s wr (tab_below HT.out.2.2 B0.out) (by unfold maxLen;omega)
   have HP0:Hid (Pow wr):=HT.out.2.1.below B0.out
   clear hno
   cases hn:Nums.num s with
   | none =>
    rw [hn] at cn
    simp only [Option.getD_none,Option.isSome_none] at cn
    have HNI:Hid (numI s=none):=by show _=_;unfold numI;rw [hn]
    clear hn
    have ch:=fun W=>Tryz.strings_HasPrefix s ⟨#[35]⟩ W
    rw [show (⟨#[35]⟩ : ByteArray).data.toList=[35] from rfl,hash_has] at ch
    cases hh:hash s with
    | true =>
     rw [hh] at ch
     have HV:Hid (nodeV (nodeI s)=nodeV (3,0,(s.extract 1 s.size))):=by show _=_;unfold nodeI;rw [HOP.out];simp only;rw [HNI.out];simp only;rw [hh];rfl
     have hs1:1<=s.size:=(of_decide_eq_true hh).1
     clear hh
     obtain ⟨r0,r1,r2,f0,hrl⟩:=Z0.out
     have ZP:Hid (_/\_/\_):=(Z0.out).put (.int .i64 3) (.int .i64 0) (.string (s.extract 1 s.size))
     have BB:Hid (Below w.heap.size w wr):=B0.out
     go_wp2_with fail
     refine cn.mono ?_
     rintro e w' ⟨rfl,hw'⟩
     have hw':=hw'.symm
     subst hw'
     go_wp2_with (first|(go_at_call 165;refine (ch _).mono ?_;rintro e w' ⟨rfl,hw'⟩;have hw':=hw'.symm;subst hw')|go_in)
     obtain ⟨p0,p1,p2⟩:=ZP.out
     exact bodyPost_ret (v:=.agg #[.int .i64 3,.int .i64 0,.string (s.extract 1 s.size)]) (by simp [results,results138,go_sem,p0,p1,p2]) rfl ⟨(congrArg Ending.returned HV.out).symm,set3_below BB.out (Nat.le_refl _) _ _ _⟩
    | false =>
     rw [hh] at ch
     have HV:Hid (nodeV (nodeI s)=nodeV (2,0,s)):=by show _=_;unfold nodeI;rw [HOP.out];simp only;rw [HNI.out];simp only;rw [hh];rfl
     clear hh
     obtain ⟨r0,r1,r2,f0,hrl⟩:=Z0.out
     have ZP:Hid (_/\_/\_):=(Z0.out).put (.int .i64 2) (.int .i64 0) (.string s)
     have BB:Hid (Below w.heap.size w wr):=B0.out
     go_wp2_with fail
     refine cn.mono ?_
     rintro e w' ⟨rfl,hw'⟩
     have hw':=hw'.symm
     subst hw'
     go_wp2_with (first|(go_at_call 165;refine (ch _).mono ?_;rintro e w' ⟨rfl,hw'⟩;have hw':=hw'.symm;subst hw')|go_in)
     obtain ⟨p0,p1,p2⟩:=ZP.out
     exact bodyPost_ret (v:=.agg #[.int .i64 2,.int .i64 0,.string s]) (by simp [results,results138,go_sem,p0,p1,p2]) rfl ⟨(congrArg Ending.returned HV.out).symm,set3_below BB.out (Nat.le_refl _) _ _ _⟩
   | some n =>
    rw [hn] at cn
    simp only [Option.getD_some,Option.isSome_some] at cn
    have hbd:=num_bd hn
    have cf:∀ W,Pow W->Calls prog 62 #[.int .i64 n,.int .i64 10] W fun e w'=>e=.returned (.string (decW n))/\Below W.heap.size W w':=fun W h =>
     (Tryz.strconv_FormatInt_10 n (by omega) (by omega) W h).mono (by
      rintro e w' ⟨rfl,k,os,rfl⟩
      exact ⟨rfl,Lib.below_grow _ _ (Nat.le_refl _) k os⟩)
    cases hq:((decW n).toList == s.toList) with
    | true =>
     have HV:Hid (nodeV (nodeI s)=nodeV (1,n,⟨#[]⟩)):=by show _=_;unfold nodeI numI;rw [HOP.out];simp only;rw [hn];simp only;rw [hq];rfl
     clear hn
     generalize decW n=D at cf hq
     go_wp2_with fail
     refine cn.mono ?_
     rintro e w' ⟨rfl,hw'⟩
     have hw':=hw'.symm
     subst hw'
     go_wp2_with fail
     refine (cf _ HP0.out).mono ?_
     rintro e w3 ⟨rfl,b3⟩
     have ZZ:=zHd (Z0.out.below b3)
     have BB:Hid (Below w.heap.size w w3):=B0.out.trans (b3.mono B0.out.size)
     have BB3:Hid (Below w.heap.size w w3):=BB.out
     clear b3 cf
     obtain ⟨r0,r1,r2,f0,hrl⟩:=ZZ.out
     have ZP:Hid (_/\_/\_):=ZZ.out.put (.int .i64 1) (.int .i64 n) (.string ⟨#[]⟩)
     go_wp2_with fail
     obtain ⟨p0,p1,p2⟩:=ZP.out
     exact bodyPost_ret (v:=.agg #[.int .i64 1,.int .i64 n,.string ⟨#[]⟩]) (by simp [results,results138,go_sem,p0,p1,p2]) rfl ⟨(congrArg Ending.returned HV.out).symm,set3_below BB.out (Nat.le_refl _) _ _ _⟩
    | false =>
     have HNI:Hid (numI s=none):=by show _=_;unfold numI;rw [hn];simp only;rw [hq];rfl
     clear hn
     generalize decW n=D at cf hq
     go_wp2_with fail
     refine cn.mono ?_
     rintro e w' ⟨rfl,hw'⟩
     have hw':=hw'.symm
     subst hw'
     go_wp2_with fail
     refine (cf _ HP0.out).mono ?_
     rintro e w3 ⟨rfl,b3⟩
     have ZZ:=zHd (Z0.out.below b3)
     have BB:Hid (Below w.heap.size w w3):=B0.out.trans (b3.mono B0.out.size)
     have BB3:Hid (Below w.heap.size w w3):=BB.out
     clear b3 cf
     have ch:=fun W=>Tryz.strings_HasPrefix s ⟨#[35]⟩ W
     rw [show (⟨#[35]⟩ : ByteArray).data.toList=[35] from rfl,hash_has] at ch
     cases hh:hash s with
     | true =>
      rw [hh] at ch
      have HV:Hid (nodeV (nodeI s)=nodeV (3,0,(s.extract 1 s.size))):=by show _=_;unfold nodeI;rw [HOP.out];simp only;rw [HNI.out];simp only;rw [hh];rfl
      have hs1:1<=s.size:=(of_decide_eq_true hh).1
      clear hh
      obtain ⟨r0,r1,r2,f0,hrl⟩:=ZZ.out
      have ZP:Hid (_/\_/\_):=(ZZ.out).put (.int .i64 3) (.int .i64 0) (.string (s.extract 1 s.size))
      have BB:Hid (Below w.heap.size w w3):=BB3.out
      go_wp2_with (first|(go_at_call 165;refine (ch _).mono ?_;rintro e w' ⟨rfl,hw'⟩;have hw':=hw'.symm;subst hw')|go_in)
      obtain ⟨p0,p1,p2⟩:=ZP.out
      exact bodyPost_ret (v:=.agg #[.int .i64 3,.int .i64 0,.string (s.extract 1 s.size)]) (by simp [results,results138,go_sem,p0,p1,p2]) rfl ⟨(congrArg Ending.returned HV.out).symm,set3_below BB.out (Nat.le_refl _) _ _ _⟩
     | false =>
      rw [hh] at ch
      have HV:Hid (nodeV (nodeI s)=nodeV (2,0,s)):=by show _=_;unfold nodeI;rw [HOP.out];simp only;rw [HNI.out];simp only;rw [hh];rfl
      clear hh
      obtain ⟨r0,r1,r2,f0,hrl⟩:=ZZ.out
      have ZP:Hid (_/\_/\_):=(ZZ.out).put (.int .i64 2) (.int .i64 0) (.string s)
      have BB:Hid (Below w.heap.size w w3):=BB3.out
      go_wp2_with (first|(go_at_call 165;refine (ch _).mono ?_;rintro e w' ⟨rfl,hw'⟩;have hw':=hw'.symm;subst hw')|go_in)
      obtain ⟨p0,p1,p2⟩:=ZP.out
      exact bodyPost_ret (v:=.agg #[.int .i64 2,.int .i64 0,.string s]) (by simp [results,results138,go_sem,p0,p1,p2]) rfl ⟨(congrArg Ending.returned HV.out).symm,set3_below BB.out (Nat.le_refl _) _ _ _⟩
end Nodi
namespace Patr
open Go.Deep
structure X where
 f0:Int
 f1:Int
 f2:List Stepx.Node
instance:Inhabited X:=⟨⟨0,0,[]⟩⟩
def Has (N:Nat) (w:World) (x:X) (a2:Option Addr):Prop:=Nodw.Row N w a2 x.f2/\x.f2.length<=maxLen
theorem Has.kept {N:Nat} {w w':World} {x:X} {a2:Option Addr} (h:Has N w x a2) (hk:∀ k,N<=k->k<w.heap.size->w'.heap[k]? = w.heap[k]?) (hs:w.heap.size<=w'.heap.size):Has N w' x a2:=by
 obtain ⟨h2,z2⟩:=h
 exact ⟨h2.kept hk hs,z2⟩
theorem Has.mono {N N':Nat} {w:World} {x:X} {a2:Option Addr} (h:Has N w x a2) (hN:N'<=N):Has N' w x a2:=by
 obtain ⟨h2,z2⟩:=h
 exact ⟨h2.mono hN,z2⟩
theorem Has.below {N:Nat} {w w':World} {x:X} {a2:Option Addr} (h:Has N w x a2) (hb:Below w.heap.size w w'):Has N w' x a2:=h.kept (fun k _ hk=>hb.block k hk) hb.size
def At (N:Nat) (w:World) (b o:Nat) (x:X):Prop:=∃ a2 c2,w.cell? ⟨b,o,none⟩=some (.int .i64 x.f0)/\w.cell? ⟨b,o+1,none⟩=some (.int .i64 x.f1)/\w.cell? ⟨b,o+2,none⟩=some (.slice a2 x.f2.length c2)/\Has N w x a2
theorem At.kept {N:Nat} {w w':World} {b o:Nat} {x:X} (h:At N w b o x) (hb:w'.heap[b]? = w.heap[b]?) (hk:∀ k,N<=k->k<w.heap.size->w'.heap[k]? = w.heap[k]?) (hs:w.heap.size<=w'.heap.size):At N w' b o x:=by
 obtain ⟨a2,c2,d0,d1,d2,hh⟩:=h
 have e:∀ i,w'.cell? ⟨b,i,none⟩=w.cell? ⟨b,i,none⟩:=fun i=>World.cell?_of_block (a:=⟨b,i,none⟩) hb
 exact ⟨a2,c2,(e _).trans d0,(e _).trans d1,(e _).trans d2,hh.kept hk hs⟩
def Row (N:Nat) (w:World) (a:Option Addr) (L:List X):Prop :=
 L=[] \/ ∃ b off,a=some ⟨b,off,none⟩/\N<=b/\b<w.heap.size/\∀ i (h:i<L.length),At N w b (off+i*3) L[i]
theorem Row.kept {N:Nat} {w w':World} {a:Option Addr} {L:List X} (h:Row N w a L) (hk:∀ k,N<=k->k<w.heap.size->w'.heap[k]? = w.heap[k]?) (hs:w.heap.size<=w'.heap.size):Row N w' a L:=by
 rcases h with h|⟨b,off,ha,hN,hl,hc⟩
 ·exact .inl h
 ·exact .inr ⟨b,off,ha,hN,Nat.lt_of_lt_of_le hl hs,fun i hi=>(hc i hi).kept (hk b hN hl) hk hs⟩
theorem Row.mono {N N':Nat} {w:World} {a:Option Addr} {L:List X} (h:Row N w a L) (hN:N'<=N):Row N' w a L:=by
 rcases h with h|⟨b,off,ha,hNb,hl,hc⟩
 ·exact .inl h
 ·exact .inr ⟨b,off,ha,by omega,hl,fun i hi=>by obtain ⟨a2,c2,d0,d1,d2,hh⟩:=hc i hi;exact ⟨a2,c2,d0,d1,d2,hh.mono hN⟩⟩
theorem Row.below {N:Nat} {w w':World} {a:Option Addr} {L:List X} (h:Row N w a L) (hb:Below w.heap.size w w'):Row N w' a L:=h.kept (fun k _ hk=>hb.block k hk) hb.size
def SmallX (x:X):Prop:=Nodw.Small x.f2
def Small (L:List X):Prop:=L.length<=1048576/\∀ i (h:i<L.length),SmallX L[i]
def Part (W:World) (B len:Nat) (L:List X) (k:Nat):Prop :=
 (∀ i (h:i<L.length),i<k->At (B+1) W B (i*3) L[i])/\(∀ j,j<len*3->∃ u,W.cell? ⟨B,j,none⟩=some u)/\(∀ j,W.frozen? ⟨B,j,none⟩=false)/\B<W.heap.size
theorem Part.kept {W W':World} {B len k:Nat} {L:List X} (h:Part W B len L k) (hb:Below W.heap.size W W'):Part W' B len L k:=by
 have hB:=hb.block B h.2.2.2
 refine ⟨fun i hi hk=>(h.1 i hi hk).kept hB (fun j _ hj=>hb.block j hj) hb.size,fun j hj=>?_,fun j=>?_,Nat.lt_of_lt_of_le h.2.2.2 hb.size⟩
 ·rw [World.cell?_of_block (a:=⟨B,j,none⟩) hB];exact h.2.1 j hj
 ·rw [World.frozen?_of_block (a:=⟨B,j,none⟩) hB];exact h.2.2.1 j
theorem Part.set {W:World} {B len k o:Nat} {L:List X} (h:Part W B len L k) (ho:k*3<=o) (v:Value):Part (W.setCell ⟨B,o,none⟩ v) B len L k:=by
 have ne:∀ i,i ≠ o->(W.setCell ⟨B,o,none⟩ v).cell? ⟨B,i,none⟩=W.cell? ⟨B,i,none⟩:=fun i hi=>World.cell?_setCell_other W _ _ _ (fun e=>hi (by have:=congrArg Addr.off e;exact this.symm))
 have hko:∀ j,B+1<=j->j<W.heap.size->(W.setCell ⟨B,o,none⟩ v).heap[j]? = W.heap[j]?:=fun j hj _=>Below.heap_setCell _ _ _ _ (by simp;omega)
 refine ⟨fun i hi hk=>?_,fun j hj=>?_,fun j=>?_,?_⟩
 ·obtain ⟨a2,c2,d0,d1,d2,hh⟩:=h.1 i hi hk
  have hlt:i*3+2<o:=by have:(i+1)*3<=k*3:=Nat.mul_le_mul_right _ hk;omega
  exact ⟨a2,c2,(ne _ (by omega)).trans d0,(ne _ (by omega)).trans d1,(ne _ (by omega)).trans d2,hh.kept hko (by rw [World.size_setCell];exact Nat.le_refl _)⟩
 ·by_cases e:j=o
  ·subst e
   obtain ⟨u,hu⟩:=h.2.1 j hj
   exact ⟨v,World.cell?_setCell_same W _ _ hu⟩
  ·rw [ne j e];exact h.2.1 j hj
 ·rw [World.frozen?_setCell];exact h.2.2.1 j
 ·rw [World.size_setCell];exact h.2.2.2
theorem Part.store {W:World} {B len k:Nat} {L:List X} (h:Part W B len L k) (hk:k<len) (hkL:k<L.length) (a2:Option Addr) (c2:Nat) (hh:Has (B+1) W L[k] a2):Part (((W.setCell ⟨B,k*3,none⟩ (.int .i64 L[k].f0)).setCell ⟨B,k*3+1,none⟩ (.int .i64 L[k].f1)).setCell ⟨B,k*3+2,none⟩ (.slice a2 L[k].f2.length c2)) B len L (k+1):=by
 have h1:=h.set (o:=k*3) (by omega) (.int .i64 L[k].f0)
 have h2:=h1.set (o:=k*3+1) (by omega) (.int .i64 L[k].f1)
 have h3:=h2.set (o:=k*3+2) (by omega) (.slice a2 L[k].f2.length c2)
 refine ⟨fun i hi hik=>?_,h3.2.1,h3.2.2.1,h3.2.2.2⟩
 by_cases e:i=k
 ·subst e
  obtain ⟨u0,hu0⟩:=h.2.1 (i*3) (by omega)
  obtain ⟨u1,hu1⟩:=h1.2.1 (i*3+1) (by omega)
  obtain ⟨u2,hu2⟩:=h2.2.1 (i*3+2) (by omega)
  refine ⟨a2,c2,?_,?_,?_,?_⟩
  ·rw [World.cell?_setCell_other _ _ _ _ (by simp),World.cell?_setCell_other _ _ _ _ (by simp)];exact World.cell?_setCell_same _ _ _ hu0
  ·rw [World.cell?_setCell_other _ _ _ _ (by simp)];exact World.cell?_setCell_same _ _ _ hu1
  ·exact World.cell?_setCell_same _ _ _ hu2
  ·refine hh.kept (fun j hj _=>?_) (by simp only [World.size_setCell];exact Nat.le_refl _)
   rw [Below.heap_setCell _ _ _ _ (by simp;omega),Below.heap_setCell _ _ _ _ (by simp;omega),Below.heap_setCell _ _ _ _ (by simp;omega)]
 ·exact h3.1 i hi (by omega)
theorem info_parts {P:Program} {t:TypeId} {z:Value} {s b:Nat} (h:(P.info? t).map (fun i=>(i.zero,i.size,i.bytes))=some (some z,s,b)):∃ i,P.info? t=some i/\i.zero=some z/\i.size=s/\i.bytes=b:=by
 cases e:P.info? t with
 | none=>rw [e] at h;cases h
 | some i =>
  rw [e] at h
  simp only [Option.map_some,Option.some.injEq,Prod.mk.injEq] at h
  exact ⟨i,rfl,h.1,h.2.1,h.2.2⟩
theorem eqX_any (x:X) (a2:Option Addr) (c2:Nat) (a2':Option Addr) (c2':Nat) (w:World) (hh:Has 0 w x a2) (hh':Has 0 w x a2') (hsm:SmallX x) :
  Calls prog 150 #[.agg #[.int .i64 x.f0,.int .i64 x.f1,.slice a2 x.f2.length c2],.agg #[.int .i64 x.f0,.int .i64 x.f1,.slice a2' x.f2.length c2']] w fun e w'=>e=.returned (.bool true)/\Below w.heap.size w w':=by
 obtain ⟨h2,z2⟩:=hh
 obtain ⟨h2',z2'⟩:=hh'
 have s2:Nodw.Small x.f2:=hsm
 have cr2:=fun W h h'=>Nodw.eqXS_any a2 a2' c2 c2' x.f2 W h h' s2
 have HH2:Hid (Nodw.Row 0 w a2 x.f2):=h2
 have HH2':Hid (Nodw.Row 0 w a2' x.f2):=h2'
 obtain ⟨n2,hn2⟩ : ∃ n,n=x.f2.length:=⟨_,rfl⟩
 rw [<- hn2]
 simp only [<- hn2] at cr2
 obtain ⟨q0,hq0⟩ : ∃ q,q=x.f0:=⟨_,rfl⟩
 rw [<- hq0]
 obtain ⟨q1,hq1⟩ : ∃ q,q=x.f1:=⟨_,rfl⟩
 rw [<- hq1]
 clear hn2 h2 z2 h2' z2' s2
 clear hq0 hq1
 have WB:Hid (∀ o o':Obj,Below w.heap.size w ((w.alloc o).alloc o')):=fun o o'=>(zAl _ _).alloc (by simp) _
 go_enter func150,ntmps150
 go_wp2_with fail
 obtain ⟨W0,hW0⟩ : ∃ W0,W0=(w.alloc (.cells #[.int .i64 q0,.int .i64 q1,.slice a2 n2 c2] 72)).alloc (.cells #[.int .i64 q0,.int .i64 q1,.slice a2' n2 c2'] 72):=⟨_,rfl⟩
 rw [<- hW0]
 have B0:Hid (Below w.heap.size w W0):=by rw [hW0];exact WB.out _ _
 have Z0:W0.heap.size=w.heap.size+1+1:=by rw [hW0];simp
 have G0:Hid (W0.heap[w.heap.size]? = some (.cells #[.int .i64 q0,.int .i64 q1,.slice a2 n2 c2] 72)):=by
  show W0.heap[w.heap.size]? = _
  rw [hW0,Below.heap_alloc _ _ _ (by simp)];exact (MapKept.heap_alloc w _).1
 have R0:Hid (W0.heap[w.heap.size+1]? = some (.cells #[.int .i64 q0,.int .i64 q1,.slice a2' n2 c2'] 72)):=by
  show W0.heap[w.heap.size+1]? = _
  have:=(MapKept.heap_alloc (w.alloc (.cells #[.int .i64 q0,.int .i64 q1,.slice a2 n2 c2] 72)) (.cells #[.int .i64 q0,.int .i64 q1,.slice a2' n2 c2'] 72)).1
  rw [hW0]
  simpa using this
 clear hW0
 refine (cr2 _ (HH2.out.below B0.out) (HH2'.out.below B0.out)).mono ?_
 rintro e w2 ⟨rfl,hb2⟩
 have B2n:Hid (Below w.heap.size w w2):=B0.out.trans (hb2.mono B0.out.size)
 have V2:w.heap.size+1<w2.heap.size:=by have:=hb2.size;rw [Z0] at this;omega
 have G2n:Hid (w2.heap[w.heap.size]? = some (.cells #[.int .i64 q0,.int .i64 q1,.slice a2 n2 c2] 72)):=(hb2.block _ (by rw [Z0];omega)).trans G0.out
 have R2n:Hid (w2.heap[w.heap.size+1]? = some (.cells #[.int .i64 q0,.int .i64 q1,.slice a2' n2 c2'] 72)):=(hb2.block _ (by rw [Z0];omega)).trans R0.out
 clear hb2
 go_wp2
 go_ret
 exact ⟨rfl,B2n.out⟩
theorem eqXS_any (a a':Option Addr) (cap cap':Nat) (L:List X) (w:World) (hN:Row 0 w a L) (hN':Row 0 w a' L) (hsm:Small L) :
  Calls prog 122 #[.slice a L.length cap,.slice a' L.length cap'] w fun e w'=>e=.returned (.bool true)/\Below w.heap.size w w':=by
 obtain ⟨len,hl⟩ : ∃ len,len=L.length:=⟨_,rfl⟩
 have HL:Hid (len=L.length):=hl
 have hlen:=hsm.1
 have HSM:Hid (Small L):=hsm
 rw [<- hl] at hlen |-
 clear hl hsm
 go_enter func122,ntmps122
 go_wp2
 go_loopw [5] (fun i wr=>∃ k:Nat,k<=len/\i=.int .i64 k/\Hid (Below w.heap.size w wr)) (fun i _=>len-(intOf i).toNat)
 case atStart=>exact ⟨0,Nat.zero_le _,rfl,Below.refl _ _⟩
 case round =>
  obtain ⟨k,hk,rfl,hbel⟩:=hrel
  by_cases hlt:k<len
  ·have hkL:k<L.length:=by have:=HL.out;omega
   rcases hN with hnil|⟨b,off,rfl,_,hb,hc⟩
   ·exfalso;rw [hnil] at hkL;exact absurd hkL (by simp)
   rcases hN' with hnil|⟨b',off',rfl,_,hb',hc'⟩
   ·exfalso;rw [hnil] at hkL;exact absurd hkL (by simp)
   obtain ⟨a2,c2,d0,d1,d2,hh⟩:=(hc k hkL).kept (hbel.out.block b hb) (fun j _ hj=>hbel.out.block j hj) hbel.out.size
   obtain ⟨a2',c2',e0,e1,e2,hh'⟩:=(hc' k hkL).kept (hbel.out.block b' hb') (fun j _ hj=>hbel.out.block j hj) hbel.out.size
   clear hc hc'
   have ce:=fun W (h:Has 0 W L[k] a2) (h':Has 0 W L[k] a2')=>eqX_any L[k] a2 c2 a2' c2' W h h' (HSM.out.2 k hkL)
   have HH:Hid (∀ W,Below wr.heap.size wr W->Has 0 W L[k] a2/\Has 0 W L[k] a2'):=fun W h=>⟨hh.below h,hh'.below h⟩
   clear hh hh'
   generalize L[k]=x at *
   have HC:Hid (∀ W,Below wr.heap.size wr W->Calls prog 150 #[.agg #[.int .i64 x.f0,.int .i64 x.f1,.slice a2 x.f2.length c2],.agg #[.int .i64 x.f0,.int .i64 x.f1,.slice a2' x.f2.length c2']] W fun e w'=>e=.returned (.bool true)/\Below W.heap.size W w'):=fun W h=>ce W (HH.out W h).1 (HH.out W h).2
   clear ce HH
   obtain ⟨n2,hn2⟩ : ∃ n,n=x.f2.length:=⟨_,rfl⟩
   rw [<- hn2] at d2 e2
   simp only [<- hn2] at HC
   clear hn2
   obtain ⟨q0,hq0⟩ : ∃ q,q=x.f0:=⟨_,rfl⟩
   rw [<- hq0] at d0 e0
   simp only [<- hq0] at HC
   clear hq0
   obtain ⟨q1,hq1⟩ : ∃ q,q=x.f1:=⟨_,rfl⟩
   rw [<- hq1] at d1 e1
   simp only [<- hq1] at HC
   clear hq1
   have k0:(0:Int)<=(k:Int):=by omega
   have k1:(k:Int)<(len:Int):=by omega
   go_wp2_with fail
   go_region_with (go_at_call 150;refine (HC.out _ (zRf.drew)).mono ?_;rintro e w1 ⟨rfl,hb1⟩)
   all_goals go_wp2
   all_goals
    go_roundw
    case rel=>exact ⟨k+1,by omega,by go_num,hbel.out.trans ((Mirror.below_of_drew hb1).mono hbel.out.size)⟩
    case measure=>simp [intOf];omega
  ·clear hN hN'
   go_wp2
   go_ret
   exact ⟨rfl,hbel.out⟩
end Patr
end Go.Proofs.YtepafieckjnkdaaGreatDoor
