import Derived.Test.YtbofcepdckpkkaaGreatDoorP10
import Derived.Deep.RegionLaw
import Derived.Sort.Walk0
set_option linter.all false
set_option maxRecDepth 20000
set_option maxHeartbeats 8000000
open Go.ChangeShapes Go.WideShapes Go.ChangeAt Go.RowKit
open Go.Proofs.Tryz
namespace Go.Proofs.YtbofcepdckpkkaaGreatDoor
namespace Xima
open Go.Deep
open Nodm (cellsOf cells_snoc Own)
open Prsp
theorem infoN:(prog.info? 54).map (fun i=>(i.zero,i.size,i.bytes))=some (some (.agg #[.int .i64 0,.int .i64 0,.string ⟨#[]⟩]),3,32):=by kernel_rfl
theorem info_parts {P:Program} {t:TypeId} {z:Value} {s b:Nat} (h:(P.info? t).map (fun i=>(i.zero,i.size,i.bytes))=some (some z,s,b)):∃ i,P.info? t=some i/\i.zero=some z/\i.size=s/\i.bytes=b:=by
 cases e:P.info? t with
 | none=>rw [e] at h;cases h
 | some i =>
  rw [e] at h
  simp at h
  exact ⟨i,rfl,h.1,h.2.1,h.2.2⟩
def PI (w:World) (pb:Nat) (s:ByteArray) (k:Nat) (L:List Stepx.Node):Prop:=∃ (a:Option Addr) (cap:Nat),
 w.cell? ⟨pb,0,none⟩=some (.string s)/\w.cell? ⟨pb,1,none⟩=some (.int .i64 k)/\w.cell? ⟨pb,2,none⟩=some (.slice a L.length cap) /\
 (∀ i,w.frozen? ⟨pb,i,none⟩=false)/\k<=s.size/\s.size<=200/\L.length<=30/\Nodm.Own w (pb+1) (.slice a L.length cap) L
theorem PI.lt {w:World} {pb k:Nat} {s:ByteArray} {L:List Stepx.Node} (h:PI w pb s k L):pb<w.heap.size:=by
 obtain ⟨a,cap,c0,_⟩:=h
 exact World.block_lt_of_cell? w ⟨pb,0,none⟩ c0
theorem PI.sz {w:World} {pb k:Nat} {s:ByteArray} {L:List Stepx.Node} (h:PI w pb s k L):k<=s.size/\s.size<=200:=by
 obtain ⟨a,cap,c0,c1,c2,cf,hk,hs,_⟩:=h
 exact ⟨hk,hs⟩
theorem PI.c0 {w:World} {pb k:Nat} {s:ByteArray} {L:List Stepx.Node} (h:PI w pb s k L):w.cell? ⟨pb,0,none⟩=some (.string s):=by obtain ⟨a,cap,c0,c1,c2,cf,_⟩:=h;exact c0
theorem PI.c1 {w:World} {pb k:Nat} {s:ByteArray} {L:List Stepx.Node} (h:PI w pb s k L):w.cell? ⟨pb,1,none⟩=some (.int .i64 k):=by obtain ⟨a,cap,c0,c1,c2,cf,_⟩:=h;exact c1
theorem PI.fz {w:World} {pb k:Nat} {s:ByteArray} {L:List Stepx.Node} (h:PI w pb s k L) (i:Nat):w.frozen? ⟨pb,i,none⟩=false:=by obtain ⟨a,cap,c0,c1,c2,cf,_⟩:=h;exact cf i
theorem PI.len {w:World} {pb k:Nat} {s:ByteArray} {L:List Stepx.Node} (h:PI w pb s k L):L.length<=30:=by obtain ⟨a,cap,c0,c1,c2,cf,hk,hs,hl,_⟩:=h;exact hl
theorem PI.kept {w w':World} {pb k:Nat} {s:ByteArray} {L:List Stepx.Node} (h:PI w pb s k L) (hb:Below w.heap.size w w'):PI w' pb s k L:=by
 have hl:=h.lt
 obtain ⟨a,cap,c0,c1,c2,cf,hk,hs,hl30,ho⟩:=h
 have e:∀ i,w'.cell? ⟨pb,i,none⟩=w.cell? ⟨pb,i,none⟩:=fun i=>hb.cell (p:=⟨pb,i,none⟩) hl
 exact ⟨a,cap,(e 0).trans c0,(e 1).trans c1,(e 2).trans c2,fun i=>(World.frozen?_of_block (a:=⟨pb,i,none⟩) (hb.block pb hl)).trans (cf i),hk,hs,hl30,Nodm.own_below ho hb⟩
theorem grown_set (w:World) (b i:Nat) (v:Value):w.grownBy (w.setCell ⟨b,i,none⟩ v) (some b) :=
 ⟨rfl,rfl,rfl,by simp [World.setCell],fun k _ hne=>Below.heap_setCell w _ _ k (fun e=>hne (by rw [e]))⟩
theorem own_ne {w:World} {base pb:Nat} {v:Value} {L:List Stepx.Node} (h:Nodm.Own w base v L) (hb:pb<base):v.ownBlock=none \/ v.ownBlock ≠ some pb:=by
 rcases h.2 with ⟨rfl,_⟩|⟨g,c,cur,rfl,hg,_⟩
 ·exact .inl rfl
 ·refine .inr fun e=>?_
  have:g=pb:=by simpa [Value.ownBlock] using e
  omega
theorem below_set {w:World} {pb i:Nat} {v:Value}:Below pb w (w.setCell ⟨pb,i,none⟩ v) :=
 have g:=grown_set w pb i v
 ⟨g.os,g.tape,g.output,g.size,fun k hk=>Below.heap_setCell w _ _ k (fun e=>by have e:k=pb:=e;omega)⟩
def rowB (w:World) (pb:Nat):Option Nat:=(w.cell? ⟨pb,2,none⟩).bind Value.ownBlock
structure BK (pb:Nat) (w w':World):Prop where
 bel:Below pb w w'
 keep:∀ b,b<w.heap.size->b ≠ pb->rowB w pb ≠ some b->w'.heap[b]? = w.heap[b]?
 row:rowB w' pb=rowB w pb \/ ∃ b,rowB w' pb=some b/\w.heap.size<=b
theorem BK.size {pb:Nat} {w w':World} (h:BK pb w w'):w.heap.size<=w'.heap.size:=h.bel.size
theorem BK.refl (pb:Nat) (w:World):BK pb w w:=⟨Below.refl _ _,fun _ _ _ _=>rfl,.inl rfl⟩
theorem BK.trans {pb:Nat} {w w1 w2:World} (h:BK pb w w1) (h':BK pb w1 w2):BK pb w w2:=by
 refine ⟨h.bel.trans h'.bel,fun b hb hne hr=>?_,?_⟩
 ·refine (h'.keep b (Nat.lt_of_lt_of_le hb h.size) hne ?_).trans (h.keep b hb hne hr)
  rcases h.row with e|⟨c,e,hc⟩
  ·rw [e];exact hr
  ·rw [e];intro q;have:=Option.some.inj q;omega
 ·rcases h'.row with e|⟨c,e,hc⟩
  ·rcases h.row with e2|⟨c,e2,hc⟩
   ·exact .inl (e.trans e2)
   ·exact .inr ⟨c,e.trans e2,hc⟩
  ·exact .inr ⟨c,e,Nat.le_trans h.size hc⟩
theorem BK.of {pb:Nat} {w w':World} (hl:pb<w.heap.size) (hb:Below w.heap.size w w'):BK pb w w' :=
 ⟨hb.mono (Nat.le_of_lt hl),fun b h _ _=>hb.block b h,.inl (by unfold rowB;rw [hb.cell (p:=⟨pb,2,none⟩) hl])⟩
theorem bk_set {w:World} {pb i:Nat} {v:Value} (hi:i ≠ 2:=by decide):BK pb w (w.setCell ⟨pb,i,none⟩ v) :=
 ⟨below_set,fun b _ hne _=>Below.heap_setCell w _ _ b (fun e=>hne e),.inl (by
  unfold rowB
  rw [World.cell?_setCell_other w _ _ _ (fun e=>by have:=congrArg Addr.off e;simp at this;omega)])⟩
theorem PI.at_ {w:World} {pb k j:Nat} {s:ByteArray} {L:List Stepx.Node} (h:PI w pb s k L) (hj:j<=s.size) {z:Int} (hz:z=(j:Int)):PI (w.setCell ⟨pb,1,none⟩ (.int .i64 z)) pb s j L:=by
 subst hz
 obtain ⟨a,cap,c0,c1,c2,cf,hk,hs,hl30,ho⟩:=h
 have e:∀ i,i ≠ 1->(w.setCell ⟨pb,1,none⟩ (.int .i64 (j:Int))).cell? ⟨pb,i,none⟩=w.cell? ⟨pb,i,none⟩:=fun i hi=>World.cell?_setCell_other w _ _ _ (fun e=>by have:=congrArg Addr.off e;simp at this;omega)
 exact ⟨a,cap,(e 0 (by decide)).trans c0,World.cell?_setCell_same w _ _ c1,(e 2 (by decide)).trans c2,fun i=>by rw [World.frozen?_setCell];exact cf i,hj,hs,hl30,ho.kept (grown_set w pb 1 _) (own_ne ho (by omega))⟩
theorem PI.c3 {w:World} {pb k i:Nat} {s:ByteArray} {L:List Stepx.Node} (h:PI w pb s k L) (hi:3<=i) (v:Value):PI (w.setCell ⟨pb,i,none⟩ v) pb s k L:=by
 obtain ⟨a,cap,c0,c1,c2,cf,hk,hs,hl30,ho⟩:=h
 have e:∀ j,j ≠ i->(w.setCell ⟨pb,i,none⟩ v).cell? ⟨pb,j,none⟩=w.cell? ⟨pb,j,none⟩:=fun j hj=>World.cell?_setCell_other w _ _ _ (fun e=>by have:=congrArg Addr.off e;simp at this;omega)
 exact ⟨a,cap,(e 0 (by omega)).trans c0,(e 1 (by omega)).trans c1,(e 2 (by omega)).trans c2,fun i=>by rw [World.frozen?_setCell];exact cf i,hk,hs,hl30,ho.kept (grown_set w pb i _) (own_ne ho (by omega))⟩
theorem PI.drewN {w:World} {pb k:Nat} {s:ByteArray} {L:List Stepx.Node} (h:PI w pb s k L) (n:Nat):PI (w.drewN n) pb s k L:=h.kept (below_drewN zRf n)
theorem drewN_refl (w:World):∀ k:Nat,Below w.heap.size w (w.drewN k)
 | 0=>Below.refl _ _
 | k+1=>(drewN_refl w k).drew
theorem PI.out_ {w w3:World} {pb k:Nat} {s:ByteArray} {a:Option Addr} {cap:Nat} {L:List Stepx.Node} {v':Value} {x:Stepx.Node} {o:Obj}
  (c0:w.cell? ⟨pb,0,none⟩=some (.string s)) (c1:w.cell? ⟨pb,1,none⟩=some (.int .i64 k)) (c2:w.cell? ⟨pb,2,none⟩=some (.slice a L.length cap))
  (cf:∀ i,w.frozen? ⟨pb,i,none⟩=false) (hk:k<=s.size) (hs:s.size<=200) (hl:L.length<30) (ho:Nodm.Own w (pb+1) (.slice a L.length cap) L)
  (hown:w3.ownsRow (pb+1) 54 3 v' (L.length+1) (cellsOf L ++ [.int .i64 x.1,.int .i64 x.2.1,.string x.2.2])) (hgr:(w.alloc o).grownBy w3 (Value.slice a L.length cap).ownBlock) (hat:v'.ownBlock=(Value.slice a L.length cap).ownBlock \/ v'.ownBlock=some (w.alloc o).heap.size) :
  PI (w3.setCell ⟨pb,2,none⟩ v') pb s k (L ++ [x])/\BK pb w (w3.setCell ⟨pb,2,none⟩ v')/\(∀ i,w3.cell? ⟨pb,i,none⟩=w.cell? ⟨pb,i,none⟩)/\w3.frozen? ⟨pb,2,none⟩=false:=by
 have hlt:pb<w.heap.size:=World.block_lt_of_cell? w ⟨pb,0,none⟩ c0
 have hne:=own_ne ho (Nat.lt_succ_self pb)
 have hb:w3.heap[pb]? = w.heap[pb]?:=by
  rw [hgr.block pb (by simp;omega) (fun e=>by rcases hne with h|h <;> rw [<- e] at h <;> simp at h)]
  exact Below.heap_alloc w o pb hlt
 have e:∀ i,w3.cell? ⟨pb,i,none⟩=w.cell? ⟨pb,i,none⟩:=fun i=>World.cell?_of_block (a:=⟨pb,i,none⟩) hb
 have fz:∀ i,w3.frozen? ⟨pb,i,none⟩=false:=fun i=>(World.frozen?_of_block (a:=⟨pb,i,none⟩) hb).trans (cf i)
 have e2:∀ i,i ≠ 2->(w3.setCell ⟨pb,2,none⟩ v').cell? ⟨pb,i,none⟩=w.cell? ⟨pb,i,none⟩:=fun i hi=>(World.cell?_setCell_other w3 _ _ _ (fun e=>by have:=congrArg Addr.off e;simp at this;omega)).trans (e i)
 have hL:(L ++ [x]).length=L.length+1:=by simp
 have own':Nodm.Own w3 (pb+1) v' (L ++ [x]):=by show World.ownsRow _ _ _ _ _ _ _;rw [hL,cells_snoc];exact hown
 obtain ⟨a',cap',rfl⟩ : ∃ a' cap',v'=.slice a' (L ++ [x]).length cap':=by
  rcases own'.2 with ⟨rfl,h0⟩|⟨g,c,cur,rfl,_⟩
  ·rw [hL] at h0;omega
  ·exact ⟨_,_,rfl⟩
 refine ⟨⟨a',cap',(e2 0 (by decide)).trans c0,(e2 1 (by decide)).trans c1,World.cell?_setCell_same w3 _ _ ((e 2).trans c2),fun i=>by rw [World.frozen?_setCell];exact fz i,hk,hs,by rw [hL];omega,own'.kept (grown_set w3 pb 2 _) (own_ne own' (Nat.lt_succ_self pb))⟩,⟨⟨?_,?_,?_,?_,fun j hj=>?_⟩,fun b hb hne2 hrb=>?_,?_⟩,e,fz 2⟩
 ·exact hgr.os
 ·exact hgr.tape
 ·exact hgr.output
 ·have:=hgr.size;have h2:(w3.setCell ⟨pb,2,none⟩ (.slice a' (L ++ [x]).length cap')).heap.size=w3.heap.size:=by simp [World.setCell]
  rw [h2];simp at this;omega
 ·rw [Below.heap_setCell w3 _ _ j (fun e=>by have e:j=pb:=e;omega)]
  have hne':=own_ne ho (show j<pb+1 by omega)
  rw [hgr.block j (by simp;omega) (fun e=>by rcases hne' with h|h <;> rw [<- e] at h <;> simp at h)]
  exact Below.heap_alloc w o j (by omega)
 ·have hr2:rowB w pb=(Value.slice a L.length cap).ownBlock:=by unfold rowB;rw [c2];rfl
  rw [Below.heap_setCell w3 _ _ b (fun e=>hne2 e)]
  rw [hgr.block b (by simp;omega) (fun e=>hrb (by rw [hr2];exact e.symm))]
  exact Below.heap_alloc w o b hb
 ·have hr2:rowB w pb=(Value.slice a L.length cap).ownBlock:=by unfold rowB;rw [c2];rfl
  have hr3:rowB (w3.setCell ⟨pb,2,none⟩ (.slice a' (L ++ [x]).length cap')) pb=(Value.slice a' (L ++ [x]).length cap').ownBlock:=by unfold rowB;rw [World.cell?_setCell_same w3 _ _ ((e 2).trans c2)];rfl
  rcases hat with h|h
  ·exact .inl (by rw [hr2,hr3];exact h)
  ·exact .inr ⟨_,by rw [hr3];exact h,by simp⟩
def Pan (pb:Nat) (w:World) (e:Ending) (w':World):Prop:=(∃ (u:TypeId) (pv:Value),e=.panicked [{ v:=.iface u pv,recovered:=false }])/\Below pb w w'
def RI (pb:Nat) (s:ByteArray) (k:Nat) (R:Option St) (w:World) (e:Ending) (w':World):Prop:=match R with
 | none=>Pan pb w e w'
 | some st=>e=.returned (.tuple #[])/\(∃ j,k<=j/\st.1=s.data.toList.drop j/\PI w' pb s j st.2)/\BK pb w w'
@[irreducible] def hdK (s:ByteArray) (k:Nat):Int:=hd (s.data.toList.drop k)
theorem hdK_def (s:ByteArray) (k:Nat):hdK s k=hd (s.data.toList.drop k):=by unfold hdK;rfl
theorem next_any (pb k:Nat) (s:ByteArray) (L:List Stepx.Node) (w:World) (h:PI w pb s k L) :
  Calls prog 117 #[.pointer (some ⟨pb,0,none⟩)] w fun e w'=>e=.returned (.int .u8 (hdK s k))/\PI w' pb s k L/\Below w.heap.size w w':=by
 have H:Hid (PI w pb s k L):=h
 have c0:=h.c0
 have c1:=h.c1
 have hk:=h.sz.1
 clear h
 by_cases hlt:k<s.size
 ·obtain ⟨c,hc⟩ : ∃ c:Int,c=(s[k].toNat:Int):=⟨_,rfl⟩
  have e1:hdK s k=c:=by rw [hdK_def,hd_in s k hlt,hc]
  rw [e1]
  have d0:((k:Int) == (s.size:Int))=false:=by simp;omega
  have d1:decide ((k:Int)=(s.size:Int))=false:=by simp;omega
  have ix:∀ w,(Instr.index 9 (.string s) (.int .i64 (k:Int))).run prog w=.ok (.int .u8 c) w:=fun w=>by
   rw [run_index_string (P:=prog) w 9 s .i64 (k:Int) underlying9,dif_pos ⟨by omega,by omega⟩,hc];rfl
  clear hc e1 hk
  go_enter func117,ntmps117
  go_wp2
  go_quiet (fail)
  go_wp2
  go_quiet (fail)
  go_wp2
  go_ret
  exact ⟨rfl,(H.out.drewN _).drewN _,below_drewN (drewN_refl w _) _⟩
 ·have e1:hdK s k=0:=by rw [hdK_def,hd_end s k (by omega)]
  have e2:k=s.size:=by omega
  rw [e1]
  clear e1
  have d0:((k:Int) == (s.size:Int))=true:=by simp;omega
  have d1:decide ((k:Int)=(s.size:Int))=true:=by simp;omega
  clear hk hlt e2
  go_enter func117,ntmps117
  go_wp2
  go_quiet (fail)
  go_wp2
  go_ret
  exact ⟨rfl,H.out.drewN _,drewN_refl w _⟩
end Xima
namespace Namq
open Go.Deep
open Namp
open Stepx (Nodes exprB)
def cell (x:T):Value:=.string ⟨x.toArray⟩
def cells (l:List T):List Value:=l.map cell
theorem cells_len (l:List T):(cells l).length=l.length:=List.length_map ..
theorem cells_one (l:List T):∀ u ∈ cells l,u.oneCell'=true:=fun u hu=>by
 obtain ⟨x,_,rfl⟩:=List.mem_map.1 hu
 rfl
def Putted (w w':World) (e:Ending) (R:List T):Prop:=∃ g cap,e=.returned (.slice (some ⟨g,0,none⟩) R.length cap)/\g<w'.heap.size/\R.length<=cap/\cap<=maxLen/\(∀ k (h:k<R.length),w'.cell? ⟨g,k,none⟩=some (cell R[k]))/\Below w.heap.size w w'
theorem own_row {w:World} {base n:Nat} {v:Value} {R:List T} (h:w.ownsRow base 9 1 v n (cells R)) (hn:R.length=n) (h0:0<n):∃ g cap,v=.slice (some ⟨g,0,none⟩) R.length cap/\g<w.heap.size/\R.length<=cap/\cap<=maxLen/\∀ k (h:k<R.length),w.cell? ⟨g,k,none⟩=some (cell R[k]):=by
 rcases h.2 with ⟨hv,h0'⟩|⟨g,c,cur,hv,hb,hg,hnc,hm,hs,ht⟩
 ·omega
 ·subst hn
  subst hv
  refine ⟨g,c,rfl,(h.lt g rfl).2,by omega,by omega,fun k hk=>?_⟩
  have hc:=h.cellAt k (by omega)
  rw [hc]
  unfold cells
  rw [List.getElem?_map,List.getElem?_eq_getElem hk];rfl
theorem infoS:(prog.info? 9).map (fun i=>(i.zero,i.size,i.bytes))=some (some (.string ⟨#[]⟩),1,16):=by kernel_rfl
theorem toL (x:T):(⟨x.toArray⟩ : ByteArray).toList=x:=by rw [ByteArray.toList_eq]
theorem l2Put_any (g cap:Nat) (l:List T) (s:T) (w:World) (hl:l.length<=100) (hcap:l.length<=cap) (hc2:cap<=maxLen) (hg:g<w.heap.size) (hc:∀ k (h:k<l.length),w.cell? ⟨g,k,none⟩=some (cell l[k])) :
  Calls prog 83 #[.slice (some ⟨g,0,none⟩) l.length cap,.string ⟨s.toArray⟩] w fun e w'=>Putted w w' e (put l s):=by
 obtain ⟨i0,hi,hz0,hz1,hz2⟩:=info_parts infoS
 have HC:Hid (∀ k (h:k<l.length),w.cell? ⟨g,k,none⟩=some (cell l[k])):=hc
 have OW0:Hid ((w.alloc (.cells #[] 9)).ownsRow w.heap.size 9 1 (.slice (some ⟨w.heap.size,0,none⟩) 0 0) 0 []):=World.ownsRow_lit w #[] 0 (Nat.le_refl _) (Nat.zero_le _) rfl
 have hts:Hid ((⟨s.toArray⟩ : ByteArray).toList=s):=toL s
 generalize hS:(⟨s.toArray⟩ : ByteArray)=S at hts
 have HS:Hid ((⟨s.toArray⟩ : ByteArray)=S):=hS
 clear hS
 clear hc
 go_enter func83,ntmps83
 go_wp2_with fail
 go_loopw [5] (fun x wr=>∃ (k:Nat),k<=l.length/\x=.int .i64 (k:Int)/\Hid (∀ j (h:j<l.length),j<k->l[j]<s)/\wr=w) (fun x _=>l.length-(intOf x).toNat)
 case atStart=>exact ⟨0,Nat.zero_le _,rfl,fun j _ h=>absurd h (Nat.not_lt_zero _),rfl⟩
 case round =>
  obtain ⟨k,hk,rfl,hno,rfl⟩:=hrel
  have k0:(0:Int)<=(k:Int):=by omega
  have TK:Hid (∀ j u,(cells (l.take k))[j]? = some u->(wr.alloc (.cells #[] 9)).cell? ((⟨g,0,none⟩ : Addr).add j)=some u):=fun j u hj=>by
   unfold cells at hj
   rw [List.getElem?_map] at hj
   by_cases hjk:j<(l.take k).length
   ·rw [List.getElem?_eq_getElem hjk,List.getElem_take] at hj
    rw [List.length_take] at hjk
    cases hj
    have h:=((Below.refl wr.heap.size wr).alloc (Nat.le_refl _) (.cells #[] 9)).cell (p:=⟨g,j,none⟩) hg
    have e:(⟨g,0,none⟩ : Addr).add j=⟨g,j,none⟩:=by cases j <;> simp [Addr.add]
    rw [e]
    exact h.trans (HC.out j (by omega))
   ·rw [List.getElem?_eq_none (by omega)] at hj;cases hj
  have TL:Hid (∀ j u,(cells (l.take k))[j]? = some u->wr.cell? ⟨g,j,none⟩=some u):=fun j u hj=>by
   unfold cells at hj
   rw [List.getElem?_map] at hj
   by_cases hjk:j<(l.take k).length
   ·rw [List.getElem?_eq_getElem hjk,List.getElem_take] at hj
    rw [List.length_take] at hjk
    cases hj
    exact HC.out j (by omega)
   ·rw [List.getElem?_eq_none (by omega)] at hj;cases hj
  have DR:Hid (∀ W,Below wr.heap.size wr W->∀ j u,(cells (l.drop k))[j]? = some u->W.cell? ((⟨g,k,none⟩ : Addr).add j)=some u):=fun W hb j u hj=>by
   unfold cells at hj
   rw [List.getElem?_map,List.getElem?_drop] at hj
   by_cases hjk:k+j<l.length
   ·rw [List.getElem?_eq_getElem hjk] at hj
    cases hj
    have e:(⟨g,k,none⟩ : Addr).add j=⟨g,k+j,none⟩:=by cases j <;> simp [Addr.add]
    rw [e]
    exact (hb.cell (p:=⟨g,k+j,none⟩) hg).trans (HC.out (k+j) hjk)
   ·rw [List.getElem?_eq_none (by omega)] at hj;cases hj
  have PA:Hid ((∀ h:k<l.length,¬ l[k]<s)->put l s=if h:k<l.length then (if l[k]=s then l else l.take k ++ s :: l.drop k) else l ++ [s]):=put_at l s k hk hno.out
  by_cases hlt:k<l.length
  ·have c0:wr.cell? ⟨g,k,none⟩=some (.string ⟨l[k].toArray⟩):=HC.out k hlt
   have hx:=toL l[k]
   have k1:(k:Int)<(l.length:Int):=by omega
   have lsX:∀ X:ByteArray,X.toList=l[k]->Op.bytesLess X.toList S.toList=decide (l[k]<s):=fun X h=>by rw [h,hts.out,Go.Proofs.bytesLess_eq]
   have eqX:∀ X:ByteArray,X.toList=l[k]->(X.toList == S.toList)=decide (l[k]=s):=fun X h=>by rw [h,hts.out,Bool.eq_iff_iff];simp
   generalize (⟨l[k].toArray⟩ : ByteArray)=X at c0 hx
   have lsX:=lsX X hx
   have eqX:=eqX X hx
   clear hx
   by_cases h1:l[k]<s
   ·rw [decide_eq_true h1] at lsX
    clear eqX
    have HN:Hid (∀ j (h:j<l.length),j<k+1->l[j]<s):=fun j h hj=>by
     by_cases e:j=k
     ·subst e;exact h1
     ·exact hno.out j h (by omega)
    clear hno TK TL DR PA h1
    go_wp2_with fail
    go_roundw
    case rel=>exact ⟨k+1,by omega,by go_num,HN.out,by first|rfl|trivial⟩
    case measure=>simp [intOf];omega
   ·rw [decide_eq_false h1] at lsX
    by_cases h2:l[k]=s
    ·rw [decide_eq_true h2] at eqX
     have PUT:Hid (put l s=l):=by show _=_;rw [PA.out (fun _=>h1),dif_pos hlt,if_pos h2]
     clear h1 h2 TK TL DR PA
     go_wp2_with fail
     go_ret
     exact ⟨g,cap,by rw [PUT.out];rfl,hg,by rw [PUT.out];exact hcap,hc2,by rw [PUT.out];exact HC.out,Below.refl _ _⟩
    ·rw [decide_eq_false h2] at eqX
     have PUT:Hid (put l s=l.take k ++ s :: l.drop k):=by show _=_;rw [PA.out (fun _=>h1),dif_pos hlt,if_neg h2]
     clear h1 h2 PA hno
     go_wp2_with (at_builtin;refine wpList_append_own _ rfl _ _ 40 rfl wr.heap.size 9 i0 (.string ⟨#[]⟩) 1 16 underlying40 hi hz0 hz1 hz2 rfl (by decide) (.slice (some ⟨wr.heap.size,0,none⟩) 0 0) 0 [] rfl OW0.out ⟨g,0,none⟩ k cap (cells (l.take k)) rfl ?a1 ?a2 ?a3 ?a4 ?a5 ?a6 ?_)
     case a1=>rw [cells_len,List.length_take];omega
     case a2=>first|exact fun j u hj=>TK.out j u hj|exact fun j u hj=>TL.out j u hj
     case a3=>exact cells_one _
     case a4=>unfold maxLen;omega
     case a5=>omega
     all_goals try (case a6=>simp)
     intro v1 w1 own1 grow1 _
     have B1:Hid (Below wr.heap.size wr w1):=(zAl _ _).grown grow1 (by simp) (fun b hb=>(OW0.out.lt b hb).1)
     have O1:Hid (w1.ownsRow wr.heap.size 9 1 v1 k (cells (l.take k))):=own1
     clear own1 grow1
     have own2:Hid (∀ o,(w1.alloc o).ownsRow wr.heap.size 9 1 v1 k (cells (l.take k))):=fun o=>O1.out.alloc o
     go_wp2_with (at_builtin;refine wpList_append_own _ rfl _ _ 40 rfl wr.heap.size 9 i0 (.string ⟨#[]⟩) 1 16 underlying40 hi hz0 hz1 hz2 rfl (by decide) v1 k (cells (l.take k)) rfl (own2.out _) ⟨w1.heap.size,0,none⟩ 1 1 [.string S] rfl ?a1 ?a2 ?a3 ?a4 ?a5 ?a6 ?_)
     case a1=>rfl
     case a2 =>
      intro j u hj
      match j,hj with
      | 0,hj=>simp at hj;subst hj;show World.cell? _ ⟨w1.heap.size,0,none⟩=_;rw [World.cell?_alloc_new];rfl
     case a3=>intro u hu;rw [List.mem_singleton.1 hu];rfl
     case a4=>unfold maxLen;omega
     case a5=>omega
     case a6=>simp;have:=B1.out.size;omega
     intro v2 w2 own3 grow3 _
     have B2:Hid (Below wr.heap.size wr w2):=(B1.out.alloc B1.out.size _).grown grow3 (by have:=B1.out.size;simp;omega) (fun b hb=>(O1.out.lt b hb).1)
     have O2:Hid (w2.ownsRow wr.heap.size 9 1 v2 (k+1) (cells (l.take k) ++ [.string S])):=own3
     clear own3 grow3 own2 O1 B1
     have own4:Hid (w2.ownsRow wr.heap.size 9 1 v2 (k+1) (cells (l.take k) ++ [.string S])):=O2.out
     go_wp2_with (at_builtin;refine wpList_append_own _ rfl _ _ 40 rfl wr.heap.size 9 i0 (.string ⟨#[]⟩) 1 16 underlying40 hi hz0 hz1 hz2 rfl (by decide) v2 (k+1) (cells (l.take k) ++ [.string S]) rfl own4.out ⟨g,k,none⟩ (l.length-k) (cap-k) (cells (l.drop k)) rfl ?a1 ?a2 ?a3 ?a4 ?a5 ?a6 ?_)
     case a1=>rw [cells_len,List.length_drop];omega
     case a2=>exact fun j u hj=>DR.out w2 B2.out j u hj
     case a3=>exact cells_one _
     case a4=>unfold maxLen;omega
     case a5=>omega
     case a6=>exact B2.out.size
     intro v3 w3 own5 grow5 _
     have B3:Hid (Below wr.heap.size wr w3):=B2.out.grown grow5 B2.out.size (fun b hb=>(O2.out.lt b hb).1)
     have O3:Hid (w3.ownsRow wr.heap.size 9 1 v3 (k+1+(l.length-k)) (cells (put l s))):=by
      have h:=own5
      have e:cells (put l s)=cells (l.take k) ++ Value.string S :: cells (l.drop k):=by
       rw [PUT.out,<- HS.out]
       unfold cells
       simp [cell]
      show World.ownsRow _ _ _ _ _ _ _
      rw [e]
      first|exact h|(rw [List.append_assoc] at h;exact h)
     have LN:Hid ((put l s).length=k+1+(l.length-k)):=by
      show _=_
      rw [PUT.out,List.length_append,List.length_cons,List.length_take,List.length_drop];omega
     clear own5 grow5 own4 O2 B2 TK TL DR
     obtain ⟨g3,cap3,rfl,q1,q2,q3,q4⟩:=own_row O3.out LN.out (by omega)
     have Q:Hid (g3<w3.heap.size/\(put l s).length<=cap3/\cap3<=maxLen/\∀ k (h:k<(put l s).length),w3.cell? ⟨g3,k,none⟩=some (cell (put l s)[k])):=⟨q1,q2,q3,q4⟩
     clear q1 q2 q3 q4
     go_wp2_with fail
     go_ret
     exact ⟨g3,cap3,rfl,Q.out.1,Q.out.2.1,Q.out.2.2.1,Q.out.2.2.2,B3.out⟩
  ·have e:k=l.length:=by omega
   subst e
   have PUT:Hid (put l s=l ++ [s]):=by
    show _=_
    rw [PA.out (fun h=>absurd h hlt),dif_neg hlt]
   have TF:Hid (∀ j u,(cells l)[j]? = some u->wr.cell? ⟨g,j,none⟩=some u):=fun j u hj=>TL.out j u (by rw [List.take_length];exact hj)
   have TG:Hid (∀ j u,(cells l)[j]? = some u->(wr.alloc (.cells #[] 9)).cell? ((⟨g,0,none⟩ : Addr).add j)=some u):=fun j u hj=>TK.out j u (by rw [List.take_length];exact hj)
   clear PA hno TK TL DR hlt hk
   go_wp2_with (at_builtin;refine wpList_append_own _ rfl _ _ 40 rfl wr.heap.size 9 i0 (.string ⟨#[]⟩) 1 16 underlying40 hi hz0 hz1 hz2 rfl (by decide) (.slice (some ⟨wr.heap.size,0,none⟩) 0 0) 0 [] rfl OW0.out ⟨g,0,none⟩ l.length cap (cells l) rfl ?a1 ?a2 ?a3 ?a4 ?a5 ?a6 ?_)
   case a1=>rw [cells_len];omega
   case a2=>first|exact fun j u hj=>TG.out j u hj|exact fun j u hj=>TF.out j u hj
   case a3=>exact cells_one _
   case a4=>unfold maxLen;omega
   case a5=>omega
   all_goals try (case a6=>simp)
   intro v1 w1 own1 grow1 _
   have B1:Hid (Below wr.heap.size wr w1):=(zAl _ _).grown grow1 (by simp) (fun b hb=>(OW0.out.lt b hb).1)
   have O1:Hid (w1.ownsRow wr.heap.size 9 1 v1 l.length (cells l)):=own1
   clear own1 grow1
   have own2:Hid (∀ o,(w1.alloc o).ownsRow wr.heap.size 9 1 v1 l.length (cells l)):=fun o=>O1.out.alloc o
   go_wp2_with (at_builtin;refine wpList_append_own _ rfl _ _ 40 rfl wr.heap.size 9 i0 (.string ⟨#[]⟩) 1 16 underlying40 hi hz0 hz1 hz2 rfl (by decide) v1 l.length (cells l) rfl (own2.out _) ⟨w1.heap.size,0,none⟩ 1 1 [.string S] rfl ?a1 ?a2 ?a3 ?a4 ?a5 ?a6 ?_)
   case a1=>rfl
   case a2 =>
    intro j u hj
    match j,hj with
    | 0,hj=>simp at hj;subst hj;show World.cell? _ ⟨w1.heap.size,0,none⟩=_;rw [World.cell?_alloc_new];rfl
   case a3=>intro u hu;rw [List.mem_singleton.1 hu];rfl
   case a4=>unfold maxLen;omega
   case a5=>omega
   case a6=>simp;have:=B1.out.size;omega
   intro v2 w2 own3 grow3 _
   have B2:Hid (Below wr.heap.size wr w2):=(B1.out.alloc B1.out.size _).grown grow3 (by have:=B1.out.size;simp;omega) (fun b hb=>(O1.out.lt b hb).1)
   have O2:Hid (w2.ownsRow wr.heap.size 9 1 v2 (l.length+1) (cells l ++ [.string S])):=own3
   clear own3 grow3 own2 O1 B1
   by_cases hce:cap=l.length
   ·subst hce
    go_wp2_with (at_builtin;refine wpList_append_own _ rfl _ _ 40 rfl wr.heap.size 9 i0 (.string ⟨#[]⟩) 1 16 underlying40 hi hz0 hz1 hz2 rfl (by decide) v2 (l.length+1) (cells l ++ [.string S]) rfl O2.out ⟨g,0,none⟩ 0 0 [] rfl ?a1 ?a2 ?a3 ?a4 ?a5 ?a6 ?_)
    case a1=>rfl
    case a2=>intro j u hj;simp at hj
    case a3=>intro u hu;cases hu
    case a4=>unfold maxLen;omega
    case a5=>omega
    case a6=>exact B2.out.size
    intro v3 w3 own5 grow5 _
    have B3:Hid (Below wr.heap.size wr w3):=B2.out.grown grow5 B2.out.size (fun b hb=>(O2.out.lt b hb).1)
    have O3:Hid (w3.ownsRow wr.heap.size 9 1 v3 (l.length+1) (cells (put l s))):=by
     have h:=own5
     have e:cells (put l s)=cells l ++ [Value.string S]:=by
      rw [PUT.out,<- HS.out]
      unfold cells
      simp [cell]
     show World.ownsRow _ _ _ _ _ _ _
     rw [e]
     first|exact h|(rw [List.append_nil] at h;exact h)
    have LN:Hid ((put l s).length=l.length+1):=by
     show _=_
     rw [PUT.out,List.length_append];rfl
    clear own5 grow5 O2 B2
    obtain ⟨g3,cap3,rfl,q1,q2,q3,q4⟩:=own_row O3.out LN.out (by omega)
    have Q:Hid (g3<w3.heap.size/\(put l s).length<=cap3/\cap3<=maxLen/\∀ k (h:k<(put l s).length),w3.cell? ⟨g3,k,none⟩=some (cell (put l s)[k])):=⟨q1,q2,q3,q4⟩
    clear q1 q2 q3 q4
    go_wp2_with fail
    go_ret
    exact ⟨g3,cap3,rfl,Q.out.1,Q.out.2.1,Q.out.2.2.1,Q.out.2.2.2,B3.out⟩
   ·have hlc:l.length<cap:=by omega
    have hn0:¬ cap-l.length=0:=by omega
    go_wp2_with (at_builtin;refine wpList_append_own _ rfl _ _ 40 rfl wr.heap.size 9 i0 (.string ⟨#[]⟩) 1 16 underlying40 hi hz0 hz1 hz2 rfl (by decide) v2 (l.length+1) (cells l ++ [.string S]) rfl O2.out ⟨g,l.length,none⟩ 0 (cap-l.length) [] rfl ?a1 ?a2 ?a3 ?a4 ?a5 ?a6 ?_)
    case a1=>rfl
    case a2=>intro j u hj;simp at hj
    case a3=>intro u hu;cases hu
    case a4=>unfold maxLen;omega
    case a5=>omega
    case a6=>exact B2.out.size
    intro v3 w3 own5 grow5 _
    have B3:Hid (Below wr.heap.size wr w3):=B2.out.grown grow5 B2.out.size (fun b hb=>(O2.out.lt b hb).1)
    have O3:Hid (w3.ownsRow wr.heap.size 9 1 v3 (l.length+1) (cells (put l s))):=by
     have h:=own5
     have e:cells (put l s)=cells l ++ [Value.string S]:=by
      rw [PUT.out,<- HS.out]
      unfold cells
      simp [cell]
     show World.ownsRow _ _ _ _ _ _ _
     rw [e]
     first|exact h|(rw [List.append_nil] at h;exact h)
    have LN:Hid ((put l s).length=l.length+1):=by
     show _=_
     rw [PUT.out,List.length_append];rfl
    clear own5 grow5 O2 B2
    obtain ⟨g3,cap3,rfl,q1,q2,q3,q4⟩:=own_row O3.out LN.out (by omega)
    have Q:Hid (g3<w3.heap.size/\(put l s).length<=cap3/\cap3<=maxLen/\∀ k (h:k<(put l s).length),w3.cell? ⟨g3,k,none⟩=some (cell (put l s)[k])):=⟨q1,q2,q3,q4⟩
    clear q1 q2 q3 q4
    go_wp2_with fail
    go_ret
    exact ⟨g3,cap3,rfl,Q.out.1,Q.out.2.1,Q.out.2.2.1,Q.out.2.2.2,B3.out⟩
end Namq
namespace Namr
open Go.Deep
open Namp Namq
open Stepx (Nodes exprB)
def namesT (L:List Stepx.Node):List T:=(L.map fun x=>x.2.2.data.toList).filter fun t=>!t.isEmpty
def outN (L:List Stepx.Node):List T:=if exprB L=true then (namesT L).foldl put [] else []
theorem names_step {L:List Stepx.Node} {k:Nat} (h:k<L.length):namesT (L.take (k+1))=namesT (L.take k) ++ (if L[k].2.2.data.toList.isEmpty then [] else [L[k].2.2.data.toList]):=by
 unfold namesT
 rw [List.take_add_one,List.getElem?_eq_getElem h,List.map_append,List.filter_append]
 congr 1
 show List.filter _ [_]=_
 cases h2:L[k].2.2.data.toList.isEmpty <;> simp [List.filter,h2]
theorem put_len (l:List T) (s:T):(put l s).length<=l.length+1:=by
 induction l with
 | nil=>exact Nat.le_refl _
 | cons x l ih =>
  unfold put
  split
  ·rw [List.length_cons,List.length_cons];omega
  split
  ·exact Nat.le_succ _
  ·exact Nat.le_refl _
def foldN (L:List Stepx.Node) (k:Nat):List T:=(namesT (L.take k)).foldl put []
theorem fold_step {L:List Stepx.Node} {k:Nat} (h:k<L.length):foldN L (k+1)=if L[k].2.2.data.toList.isEmpty=true then foldN L k else put (foldN L k) L[k].2.2.data.toList:=by
 unfold foldN
 rw [names_step h,List.foldl_append]
 split <;> rfl
def RowAt (w:World) (g cap:Nat) (R:List T):Prop:=g<w.heap.size/\R.length<=cap/\cap<=maxLen/\∀ k (h:k<R.length),w.cell? ⟨g,k,none⟩=some (cell R[k])
theorem RowAt.below {w w':World} {g cap:Nat} {R:List T} (h:RowAt w g cap R) (hb:Below w.heap.size w w'):RowAt w' g cap R :=
 ⟨Nat.lt_of_lt_of_le h.1 hb.size,h.2.1,h.2.2.1,fun k hk=>(hb.cell (p:=⟨g,k,none⟩) h.1).trans (h.2.2.2 k hk)⟩
theorem put_any (g cap:Nat) (R:List T) (x:ByteArray) (w:World) (h:RowAt w g cap R) (hl:R.length<=100) :
  Calls prog 83 #[.slice (some ⟨g,0,none⟩) R.length cap,.string x] w fun e w'=>Putted w w' e (put R x.data.toList) :=
 l2Put_any g cap R x.data.toList w hl h.2.1 h.2.2.1 h.1 h.2.2.2
theorem specNames_any (a:Option Addr) (cap:Nat) (L:List Stepx.Node) (w:World) (hN:Nodes w a L) (hlen:L.length<=1048576) :
  Calls prog 51 #[.slice a L.length cap] w fun e w'=>Putted w w' e (outN L):=by
 have H:Hid (Nodes w a L):=hN
 clear hN
 have R0:Hid (RowAt (w.alloc (.cells #[] 9)) w.heap.size 0 []):=⟨by simp,Nat.le_refl _,by unfold maxLen;omega,fun k h=>absurd h (Nat.not_lt_zero _)⟩
 go_enter func51,ntmps51
 go_wp2_with fail
 go_loopw [3,4] (fun x y wr=>∃ (k g c:Nat),k<=L.length/\(foldN L k).length<=k/\x=.slice (some ⟨g,0,none⟩) (foldN L k).length c/\y=.int .i64 (k:Int)/\Hid (RowAt wr g c (foldN L k))/\Hid (exprB L=false->k=0)/\Hid (Below w.heap.size w wr)) (fun _ y _=>L.length-(intOf y).toNat)
 case atStart=>exact ⟨0,w.heap.size,0,Nat.zero_le _,Nat.le_refl _,rfl,rfl,R0.out,fun _=>rfl,zAl _ _⟩
 case round =>
  obtain ⟨k,g,c,hk,hfl,rfl,rfl,hrow,hbad,hbel⟩:=hrel
  have cs:=Specx.exprOk_any a cap L wr (Mirror.Nodes.below H.out hbel.out) hlen
  have OUT:Hid (outN L=if exprB L=true then foldN L L.length else []):=by
   show _=_
   unfold outN foldN
   rw [List.take_length]
  clear R0
  cases hx:exprB L with
  | false =>
   have hk0:=hbad.out hx
   subst hk0
   rw [hx] at cs OUT
   have OUT2:Hid (outN L=foldN L 0):=OUT.out
   clear OUT hx
   generalize foldN L 0=R at *
   go_wp2_with (go_at_call 82;refine cs.mono ?_;rintro e w1 ⟨rfl,b1⟩;have B1:Hid (Below wr.heap.size wr w1):=b1;clear b1)
   go_ret
   have r:=hrow.out.below B1.out
   exact ⟨g,c,by rw [OUT2.out];rfl,r.1,by rw [OUT2.out];exact r.2.1,r.2.2.1,by rw [OUT2.out];exact r.2.2.2,hbel.out.trans (B1.out.mono hbel.out.size)⟩
  | true =>
   rw [hx] at cs OUT
   have h30:L.length<=30:=by
    unfold Stepx.exprB at hx
    exact of_decide_eq_true (Bool.and_eq_true_iff.1 hx).1
   clear hx hbad
   by_cases hlt:k<L.length
   ·have k0:(0:Int)<=(k:Int):=by omega
    have k1:(k:Int)<(L.length:Int):=by omega
    have FS:=(show Hid _ from fold_step hlt)
    rcases H.out with he|⟨b,off,rfl,hbl,hcl⟩
    ·rw [he] at hlt;exact absurd hlt (Nat.not_lt_zero _)
    ·obtain ⟨_,_,hc2,_⟩:=hcl k hlt
     have HC:Hid (w.cell? ⟨b,off+k*3+2,none⟩=some (.string L[k].2.2)):=by first|exact hc2|(have h:=hc2;rw [Nat.add_assoc];exact h)
     have HBL:Hid (b<w.heap.size):=hbl
     clear hc2 hcl hbl
     generalize L[k].2.2=X at *
     have put1:=fun W hr=>put_any g c (foldN L k) X W hr (by omega)
     have PL:=put_len (foldN L k) X.data.toList
     by_cases hz:X.size=0
     ·have e0:X.toList.isEmpty=true:=Names.empty_yes hz
      have FE:Hid (foldN L (k+1)=foldN L k):=by show _=_;rw [FS.out,if_pos (by rw [<- ByteArray.toList_eq];exact e0)]
      clear FS put1 PL
      generalize foldN L k=R at *
      go_wp2_with (go_at_call 82;refine cs.mono ?_;rintro e w1 ⟨rfl,b1⟩;have B1:Hid (Below wr.heap.size wr w1):=b1;clear b1;have c0:=((hbel.out.trans (B1.out.mono hbel.out.size)).cell (p:=⟨b,off+k*3+2,none⟩) HBL.out).trans HC.out)
      go_roundw
      case rel=>exact ⟨k+1,g,c,by omega,by rw [FE.out];omega,by rw [FE.out],by go_num,by rw [FE.out];exact hrow.out.below B1.out,(fun h=>by cases h),hbel.out.trans (B1.out.mono hbel.out.size)⟩
      case measure=>simp [intOf];omega
     ·have e0:X.toList.isEmpty=false:=Names.empty_no hz
      have FE:Hid (foldN L (k+1)=put (foldN L k) X.data.toList):=by show _=_;rw [FS.out,if_neg (by rw [<- ByteArray.toList_eq,e0];decide)]
      clear FS
      generalize put (foldN L k) X.data.toList=R2 at *
      generalize foldN L k=R at *
      go_wp2_with (first|(go_at_call 82;refine cs.mono ?_;rintro e w1 ⟨rfl,b1⟩;have B1:Hid (Below wr.heap.size wr w1):=b1;clear b1;have c0:=((hbel.out.trans (B1.out.mono hbel.out.size)).cell (p:=⟨b,off+k*3+2,none⟩) HBL.out).trans HC.out)|(go_at_call 83;refine (put1 _ (hrow.out.below B1.out)).mono ?_;rintro e w2 ⟨g2,c2,rfl,q1,q2,q3,q4,b2⟩;have Q:Hid (RowAt w2 g2 c2 R2/\Below w1.heap.size w1 w2):=⟨⟨q1,q2,q3,q4⟩,b2⟩;clear q1 q2 q3 q4 b2))
      go_roundw
      case rel=>exact ⟨k+1,g2,c2,by omega,by rw [FE.out];omega,by rw [FE.out],by go_num,by rw [FE.out];exact Q.out.1,(fun h=>by cases h),(hbel.out.trans (B1.out.mono hbel.out.size)).trans (Q.out.2.mono (hbel.out.trans (B1.out.mono hbel.out.size)).size)⟩
      case measure=>simp [intOf];omega
   ·have e:k=L.length:=by omega
    subst e
    have OUT2:Hid (outN L=foldN L L.length):=OUT.out
    clear OUT
    generalize foldN L L.length=R at *
    go_wp2_with (go_at_call 82;refine cs.mono ?_;rintro e w1 ⟨rfl,b1⟩;have B1:Hid (Below wr.heap.size wr w1):=b1;clear b1)
    go_ret
    have r:=hrow.out.below B1.out
    exact ⟨g,c,by rw [OUT2.out];rfl,r.1,by rw [OUT2.out];exact r.2.1,r.2.2.1,by rw [OUT2.out];exact r.2.2.2,hbel.out.trans (B1.out.mono hbel.out.size)⟩
end Namr
end Go.Proofs.YtbofcepdckpkkaaGreatDoor
