import Derived.Test.YtbofcepdckpkkaaGreatDoorP15
set_option linter.all false
set_option maxRecDepth 20000
set_option maxHeartbeats 8000000
open Go.ChangeShapes Go.WideShapes Go.ChangeAt Go.RowKit
open Go.Proofs.Tryz
namespace Go.Proofs.YtbofcepdckpkkaaGreatDoor
namespace Cmxa
open Go.Deep
open Nodm (cellsOf cells_snoc Own)
open Prsp Xima
def here (s:ByteArray) (k:Nat) (t:ByteArray):Bool:=decide (k+t.size<=s.size/\s.extract k (k+t.size)=t)
def tHigh:ByteArray:=⟨#[104,105,103,104,40]⟩
def tLow:ByteArray:=⟨#[108,111,119,40]⟩
def tBank:ByteArray:=⟨#[98,97,110,107,40]⟩
def PX (w:World) (pb:Nat) (s:ByteArray) (k:Nat) (X:Option St):Prop:=∃ (a:Option Addr) (cap:Nat) (L:List Stepx.Node),
 w.cell? ⟨pb,0,none⟩=some (.string s)/\w.cell? ⟨pb,1,none⟩=some (.int .i64 k)/\w.cell? ⟨pb,2,none⟩=some (.slice a L.length cap)/\w.cell? ⟨pb,3,none⟩=some (.bool X.isNone) /\
 (∀ i,w.frozen? ⟨pb,i,none⟩=false)/\k<=s.size/\s.size<=200/\L.length<=30/\(∀ st,X=some st->st=(s.data.toList.drop k,L))/\Nodm.Own w (pb+1) (.slice a L.length cap) L
variable {w w':World} {pb k j:Nat} {s:ByteArray} {X:Option St} {L:List Stepx.Node}
theorem PX.lt (h:PX w pb s k X):pb<w.heap.size:=by
 obtain ⟨a,cap,L,c0,_⟩:=h
 exact World.block_lt_of_cell? w ⟨pb,0,none⟩ c0
theorem PX.sz (h:PX w pb s k X):k<=s.size/\s.size<=200:=by
 obtain ⟨a,cap,L,c0,c1,c2,c3,cf,hk,hs,_⟩:=h
 exact ⟨hk,hs⟩
theorem PX.c0 (h:PX w pb s k X):w.cell? ⟨pb,0,none⟩=some (.string s):=by obtain ⟨a,cap,L,c0,c1,c2,c3,cf,_⟩:=h;exact c0
theorem PX.c1 (h:PX w pb s k X):w.cell? ⟨pb,1,none⟩=some (.int .i64 k):=by obtain ⟨a,cap,L,c0,c1,c2,c3,cf,_⟩:=h;exact c1
theorem PX.c3 (h:PX w pb s k X):w.cell? ⟨pb,3,none⟩=some (.bool X.isNone):=by obtain ⟨a,cap,L,c0,c1,c2,c3,cf,_⟩:=h;exact c3
theorem PX.fz (h:PX w pb s k X) (i:Nat):w.frozen? ⟨pb,i,none⟩=false:=by obtain ⟨a,cap,L,c0,c1,c2,c3,cf,_⟩:=h;exact cf i
theorem PX.kept (h:PX w pb s k X) (hb:Below w.heap.size w w'):PX w' pb s k X:=by
 have hl:=h.lt
 obtain ⟨a,cap,L,c0,c1,c2,c3,cf,hk,hs,hl30,hg,ho⟩:=h
 have e:∀ i,w'.cell? ⟨pb,i,none⟩=w.cell? ⟨pb,i,none⟩:=fun i=>hb.cell (p:=⟨pb,i,none⟩) hl
 exact ⟨a,cap,L,(e 0).trans c0,(e 1).trans c1,(e 2).trans c2,(e 3).trans c3,fun i=>(World.frozen?_of_block (a:=⟨pb,i,none⟩) (hb.block pb hl)).trans (cf i),hk,hs,hl30,hg,Nodm.own_below ho hb⟩
theorem PX.at_ (h:PX w pb s k (some (s.data.toList.drop k,L))) (hj:j<=s.size) {z:Int} (hz:z=(j:Int)):PX (w.setCell ⟨pb,1,none⟩ (.int .i64 z)) pb s j (some (s.data.toList.drop j,L)):=by
 subst hz
 obtain ⟨a,cap,L',c0,c1,c2,c3,cf,hk,hs,hl30,hg,ho⟩:=h
 have hL:L=L':=(Prod.mk.inj (hg _ rfl)).2
 have e:∀ i,i ≠ 1->(w.setCell ⟨pb,1,none⟩ (.int .i64 (j:Int))).cell? ⟨pb,i,none⟩=w.cell? ⟨pb,i,none⟩:=fun i hi=>World.cell?_setCell_other w _ _ _ (fun e=>by have:=congrArg Addr.off e;simp at this;omega)
 exact ⟨a,cap,L',(e 0 (by decide)).trans c0,World.cell?_setCell_same w _ _ c1,(e 2 (by decide)).trans c2,(e 3 (by decide)).trans c3,fun i=>by rw [World.frozen?_setCell];exact cf i,hj,hs,hl30,fun st he=>by rw [<- hL];exact (Option.some.inj he).symm,ho.kept (grown_set w pb 1 _) (own_ne ho (by omega))⟩
theorem PX.bad_ (h:PX w pb s k X):PX (w.setCell ⟨pb,3,none⟩ (.bool true)) pb s k none:=by
 obtain ⟨a,cap,L,c0,c1,c2,c3,cf,hk,hs,hl30,hg,ho⟩:=h
 have e:∀ i,i ≠ 3->(w.setCell ⟨pb,3,none⟩ (.bool true)).cell? ⟨pb,i,none⟩=w.cell? ⟨pb,i,none⟩:=fun i hi=>World.cell?_setCell_other w _ _ _ (fun e=>by have:=congrArg Addr.off e;simp at this;omega)
 exact ⟨a,cap,L,(e 0 (by decide)).trans c0,(e 1 (by decide)).trans c1,(e 2 (by decide)).trans c2,World.cell?_setCell_same w _ _ c3,fun i=>by rw [World.frozen?_setCell];exact cf i,hk,hs,hl30,(fun st he=>by cases he),ho.kept (grown_set w pb 3 _) (own_ne ho (by omega))⟩
theorem PX.good_ {st:St} (h:PX w pb s k (some st)):PX (w.setCell ⟨pb,3,none⟩ (.bool false)) pb s k (some st):=by
 obtain ⟨a,cap,L,c0,c1,c2,c3,cf,hk,hs,hl30,hg,ho⟩:=h
 have e:∀ i,i ≠ 3->(w.setCell ⟨pb,3,none⟩ (.bool false)).cell? ⟨pb,i,none⟩=w.cell? ⟨pb,i,none⟩:=fun i hi=>World.cell?_setCell_other w _ _ _ (fun e=>by have:=congrArg Addr.off e;simp at this;omega)
 exact ⟨a,cap,L,(e 0 (by decide)).trans c0,(e 1 (by decide)).trans c1,(e 2 (by decide)).trans c2,World.cell?_setCell_same w _ _ c3,fun i=>by rw [World.frozen?_setCell];exact cf i,hk,hs,hl30,hg,ho.kept (grown_set w pb 3 _) (own_ne ho (by omega))⟩
theorem PX.drewN (h:PX w pb s k X) (n:Nat):PX (w.drewN n) pb s k X:=h.kept (below_drewN zRf n)
theorem PX.st {st:St} (h:PX w pb s k (some st)):st=(s.data.toList.drop k,st.2):=by
 obtain ⟨a,cap,L,c0,c1,c2,c3,cf,hk,hs,hl30,hg,ho⟩:=h
 rw [hg st rfl]
theorem eq_list {a b:ByteArray}:(a.toList == b.toList)=true ↔ a=b:=by
 constructor
 ·intro h
  have h:=eq_of_beq h
  rw [ByteArray.toList_eq,ByteArray.toList_eq] at h
  exact ByteArray.ext (Array.ext' h)
 ·intro h;rw [h];exact beq_self_eq_true _
def nx (s:ByteArray) (k:Nat) (t:ByteArray):Nat:=if here s k t=true then k+t.size else k
theorem is_any (pb k:Nat) (s t:ByteArray) (L:List Stepx.Node) (w:World) (h:PX w pb s k (some (s.data.toList.drop k,L))) (ht:t.size<=10) :
  Calls prog 121 #[.pointer (some ⟨pb,0,none⟩),.string t] w fun e w'=>e=.returned (.bool (here s k t))/\PX w' pb s (nx s k t) (some (s.data.toList.drop (nx s k t),L))/\Below pb w w':=by
 have H:Hid (PX w pb s k (some (s.data.toList.drop k,L))):=h
 obtain ⟨a,cap,L',c0,c1,c2,c3,cf,hk,hs,hl30,hg,ho⟩:=h
 clear ho hg hl30 c2 c3
 have f1:=cf 1
 clear cf
 by_cases h0:(s.size:Int)-(k:Int)<(t.size:Int)
 ·have E:Hid (here s k t=false):=decide_eq_false (fun h=>by omega)
  have d0:decide ((s.size:Int)-(k:Int)<(t.size:Int))=true:=decide_eq_true h0
  have p1:IntKind.i64.wrap ((s.size:Int)-(k:Int))=(s.size:Int)-(k:Int):=by rw [IntKind.wrap_i64];omega
  go_enter func121,ntmps121
  go_wp2
  go_quiet (fail)
  go_wp2
  go_ret
  exact ⟨by rw [E.out];rfl,by unfold nx;rw [E.out];exact H.out.drewN _,below_drewN zRf _⟩
 ·have d0:decide ((s.size:Int)-(k:Int)<(t.size:Int))=false:=decide_eq_false h0
  have p1:IntKind.i64.wrap ((s.size:Int)-(k:Int))=(s.size:Int)-(k:Int):=by rw [IntKind.wrap_i64];omega
  have p2:IntKind.i64.wrap ((k:Int)+(t.size:Int))=(k:Int)+(t.size:Int):=by rw [IntKind.wrap_i64];omega
  have s1:∀ w,(Instr.slice 9 (.string s) (some (.int .i64 (k:Int))) (some (.int .i64 ((k:Int)+(t.size:Int)))) none).run prog w=.ok (.string (s.extract k (k+t.size))) w:=fun w=>by
   have:=run_slice_string (P:=prog) w 9 s .i64 .i64 (k:Int) ((k:Int)+(t.size:Int)) underlying9 (by omega) (by omega) (by omega)
   rwa [show ((k:Int)+(t.size:Int)).toNat=k+t.size by omega,show ((k:Int)).toNat=k by omega] at this
  by_cases h1:s.extract k (k+t.size)=t
  ·have E:Hid (here s k t=true):=decide_eq_true ⟨by omega,h1⟩
   have q1:((s.extract k (k+t.size)).toList == t.toList)=true:=eq_list.2 h1
   have q2:((s.extract k (k+t.size)).toList != t.toList)=false:=by rw [bne,q1];rfl
   clear h1
   go_enter func121,ntmps121
   go_wp2
   go_quiet (fail)
   go_wp2
   go_ret
   have hj:k+t.size<=s.size:=by omega
   exact ⟨by rw [E.out];rfl,by unfold nx;rw [E.out,if_pos rfl];first|exact (H.out.drewN _).at_ hj (by omega)|exact (H.out.at_ hj (by omega)).drewN _,by first|exact (below_drewN zRf _).trans below_set|exact below_drewN below_set _⟩
  ·have E:Hid (here s k t=false):=decide_eq_false (fun h=>h1 h.2)
   have q1:((s.extract k (k+t.size)).toList == t.toList)=false:=by
    cases hb:((s.extract k (k+t.size)).toList == t.toList)
    ·rfl
    ·exact absurd (eq_list.1 hb) h1
   have q2:((s.extract k (k+t.size)).toList != t.toList)=true:=by rw [bne,q1];rfl
   clear h1
   go_enter func121,ntmps121
   go_wp2
   go_quiet (fail)
   go_wp2
   go_ret
   exact ⟨by rw [E.out];rfl,by unfold nx;rw [E.out];exact H.out.drewN _,below_drewN zRf _⟩
theorem bind_none {X:Option St} {x:Stepx.Node} {l:List UInt8} {L:List Stepx.Node} (hg:∀ st,X=some st->st=(l,L)) (h:L.length<30):(X.bind (put x)).isNone=X.isNone:=by
 cases X with
 | none=>rfl
 | some st=>rw [hg st rfl];show (put x (l,L)).isNone=false;unfold put;rw [if_pos h];rfl
theorem bind_put {X:Option St} {x:Stepx.Node} {l:List UInt8} {L:List Stepx.Node} (hg:∀ st,X=some st->st=(l,L)) (h:L.length<30):∀ st,X.bind (put x)=some st->st=(l,L ++ [x]):=by
 intro st hs
 cases X with
 | none=>cases hs
 | some s2 =>
  rw [hg s2 rfl] at hs
  change put x (l,L)=some st at hs
  unfold put at hs
  rw [if_pos h] at hs
  exact (Option.some.inj hs).symm
theorem bind_full {X:Option St} {x:Stepx.Node} {l:List UInt8} {L:List Stepx.Node} (hg:∀ st,X=some st->st=(l,L)) (h:30<=L.length):X.bind (put x)=none:=by
 cases X with
 | none=>rfl
 | some st=>rw [hg st rfl];show put x (l,L)=none;unfold put;rw [if_neg (by show ¬ L.length<30;omega)]
theorem PX.out_ {w w3:World} {pb k:Nat} {s:ByteArray} {X X':Option St} {a:Option Addr} {cap:Nat} {L:List Stepx.Node} {v':Value} {x:Stepx.Node} {o:Obj}
  (c0:w.cell? ⟨pb,0,none⟩=some (.string s)) (c1:w.cell? ⟨pb,1,none⟩=some (.int .i64 k)) (c2:w.cell? ⟨pb,2,none⟩=some (.slice a L.length cap)) (c3:w.cell? ⟨pb,3,none⟩=some (.bool X.isNone)) (hX:X'.isNone=X.isNone) (hX':∀ st,X'=some st->st=(s.data.toList.drop k,L ++ [x]))
  (cf:∀ i,w.frozen? ⟨pb,i,none⟩=false) (hk:k<=s.size) (hs:s.size<=200) (hl:L.length<30) (ho:Nodm.Own w (pb+1) (.slice a L.length cap) L)
  (hown:w3.ownsRow (pb+1) 54 3 v' (L.length+1) (cellsOf L ++ [.int .i64 x.1,.int .i64 x.2.1,.string x.2.2])) (hgr:(w.alloc o).grownBy w3 (Value.slice a L.length cap).ownBlock) :
  PX (w3.setCell ⟨pb,2,none⟩ v') pb s k X'/\Below pb w (w3.setCell ⟨pb,2,none⟩ v')/\w3.cell? ⟨pb,2,none⟩=some (.slice a L.length cap)/\w3.frozen? ⟨pb,2,none⟩=false:=by
 have hlt:pb<w.heap.size:=World.block_lt_of_cell? w ⟨pb,0,none⟩ c0
 have hne:=own_ne ho (Nat.lt_succ_self pb)
 have hb:w3.heap[pb]? = w.heap[pb]?:=by
  rw [hgr.block pb (by simp;omega) (fun e=>by rcases hne with h|h <;> rw [<- e] at h <;> simp at h)]
  exact Below.heap_alloc w o pb hlt
 have e:∀ i,w3.cell? ⟨pb,i,none⟩=w.cell? ⟨pb,i,none⟩:=fun i=>World.cell?_of_block (a:=⟨pb,i,none⟩) hb
 have fz:∀ i,w3.frozen? ⟨pb,i,none⟩=false:=fun i=>(World.frozen?_of_block (a:=⟨pb,i,none⟩) hb).trans (cf i)
 have e2:∀ i,i ≠ 2->(w3.setCell ⟨pb,2,none⟩ v').cell? ⟨pb,i,none⟩=w.cell? ⟨pb,i,none⟩:=fun i hi=>(World.cell?_setCell_other w3 _ _ _ (fun e=>by have:=congrArg Addr.off e;simp at this;omega)).trans (e i)
 have hL:(L ++ [x]).length=L.length+1:=by simp
 have own':Nodm.Own w3 (pb+1) v' (L ++ [x]):=by show World.ownsRow _ _ _ _ _ _ _;rw [hL,cells_snoc];exact hown
 obtain ⟨a',cap',rfl⟩ : ∃ a' cap',v'=.slice a' (L ++ [x]).length cap':=by
  rcases own'.2 with ⟨rfl,h0⟩|⟨g,c,cur,rfl,_⟩
  ·rw [hL] at h0;omega
  ·exact ⟨_,_,rfl⟩
 refine ⟨⟨a',cap',L ++ [x],(e2 0 (by decide)).trans c0,(e2 1 (by decide)).trans c1,World.cell?_setCell_same w3 _ _ ((e 2).trans c2),(e2 3 (by decide)).trans (by rw [hX];exact c3),fun i=>by rw [World.frozen?_setCell];exact fz i,hk,hs,by rw [hL];omega,hX',own'.kept (grown_set w3 pb 2 _) (own_ne own' (Nat.lt_succ_self pb))⟩,⟨?_,?_,?_,?_,fun j hj=>?_⟩,(e 2).trans c2,fz 2⟩
 ·exact hgr.os
 ·exact hgr.tape
 ·exact hgr.output
 ·have:=hgr.size;have h2:(w3.setCell ⟨pb,2,none⟩ (.slice a' (L ++ [x]).length cap')).heap.size=w3.heap.size:=by simp [World.setCell]
  rw [h2];simp at this;omega
 ·rw [Below.heap_setCell w3 _ _ j (fun e=>by have e:j=pb:=e;omega)]
  have hne':=own_ne ho (show j<pb+1 by omega)
  rw [hgr.block j (by simp;omega) (fun e=>by rcases hne' with h|h <;> rw [<- e] at h <;> simp at h)]
  exact Below.heap_alloc w o j (by omega)
theorem put_any (pb k:Nat) (s:ByteArray) (X:Option St) (w:World) (h:PX w pb s k X) (kd n:Int) (t:ByteArray) :
  Calls prog 102 #[.pointer (some ⟨pb,0,none⟩),.int .i64 kd,.int .i64 n,.string t] w fun e w'=>e=.returned (.tuple #[])/\PX w' pb s k (X.bind (put (kd,n,t)))/\Below pb w w':=by
 have H:Hid (PX w pb s k X):=h
 obtain ⟨a,cap,L,c0,c1,c2,c3,cf,hk,hs,hl30,hg,ho⟩:=h
 by_cases h30:L.length<30
 ·obtain ⟨i0,hi,hz0,hz1,hz2⟩:=info_parts infoN
  have FIN:Hid (∀ (w3:World) (v':Value) (o:Obj),w3.ownsRow (pb+1) 54 3 v' (L.length+1) (cellsOf L ++ [.int .i64 kd,.int .i64 n,.string t])->(w.alloc o).grownBy w3 (Value.slice a L.length cap).ownBlock->PX (w3.setCell ⟨pb,2,none⟩ v') pb s k (X.bind (put (kd,n,t)))/\Below pb w (w3.setCell ⟨pb,2,none⟩ v')/\w3.cell? ⟨pb,2,none⟩=some (.slice a L.length cap)/\w3.frozen? ⟨pb,2,none⟩=false):=fun w3 v' o hw hgr=>PX.out_ (x:=(kd,n,t)) (o:=o) c0 c1 c2 c3 (bind_none hg h30) (bind_put hg h30) cf hk hs h30 ho hw hgr
  have OWN:Hid (∀ o,(w.alloc o).ownsRow (pb+1) 54 3 (.slice a L.length cap) L.length (cellsOf L)):=fun o=>ho.alloc o
  have hlt:=H.out.lt
  generalize L.length=len at *
  clear ho hg c0 c1 c3 cf
  go_enter func102,ntmps102
  go_wp2_with (first|(at_builtin;refine wpList_append_own _ rfl _ _ 27 rfl (pb+1) 54 i0 (.agg #[.int .i64 0,.int .i64 0,.string ⟨#[]⟩]) 3 32 underlying27 hi hz0 hz1 hz2 rfl (by decide) (.slice a len cap) len (cellsOf L) rfl (OWN.out _) ⟨w.heap.size,0,none⟩ 1 1 [.int .i64 kd,.int .i64 n,.string t] rfl rfl ?c1 ?c2 ?c3 ?c4 ?c5 ?_)|fail)
  case c1 =>
   intro j u hj
   match j,hj with
   | 0,hj=>simp at hj;subst hj;show World.cell? _ ⟨w.heap.size,0,none⟩=_;rw [World.cell?_alloc_new];rfl
   | 1,hj=>simp at hj;subst hj;show World.cell? _ ⟨w.heap.size,1,none⟩=_;rw [World.cell?_alloc_new];rfl
   | 2,hj=>simp at hj;subst hj;show World.cell? _ ⟨w.heap.size,2,none⟩=_;rw [World.cell?_alloc_new];rfl
  case c2=>intro u hu;simp at hu;rcases hu with rfl|rfl|rfl <;> rfl
  case c3=>unfold maxLen;omega
  case c4=>omega
  case c5=>simp;omega
  intro v' w3 hown' hgrow _
  obtain ⟨a',cap',rfl⟩ : ∃ a' cap',v'=.slice a' (len+1) cap':=by
   rcases hown'.2 with ⟨rfl,h0⟩|⟨g,c,cur,rfl,_⟩
   ·omega
   ·exact ⟨_,_,rfl⟩
  obtain ⟨p3,b3,d2,f2⟩:=FIN.out w3 _ _ hown' hgrow
  have P3:Hid (PX (w3.setCell ⟨pb,2,none⟩ (.slice a' (len+1) cap')) pb s k (X.bind (put (kd,n,t)))/\Below pb w (w3.setCell ⟨pb,2,none⟩ (.slice a' (len+1) cap'))):=⟨p3,b3⟩
  clear p3 b3 hown' hgrow
  go_wp2
  first|go_end0|refine bodyPost_ret (results_none rfl _ _ _) rfl ?_
  exact ⟨rfl,P3.out.1,P3.out.2⟩
 ·have hlt:=H.out.lt
  have f3:=cf 3
  have HN:Hid (X.bind (put (kd,n,t))=none):=bind_full hg (by omega)
  generalize L.length=len at *
  clear ho hg c0 c1 cf
  go_enter func102,ntmps102
  go_wp2
  first|go_end0|refine bodyPost_ret (results_none rfl _ _ _) rfl ?_
  exact ⟨rfl,by rw [HN.out];exact H.out.bad_,below_set⟩
def atOf (w:World) (pb:Nat):Nat:=match w.cell? ⟨pb,1,none⟩ with
 | some (.int _ z)=>z.toNat
 | _=>0
theorem PX.atOf (h:PX w pb s k X):atOf w pb=k:=by
 unfold Cmxa.atOf
 rw [h.c1]
 simp
theorem let_run {c:Int} (h:Names.letB c=true):runB c=true:=by
 have h:=of_decide_eq_true h
 exact decide_eq_true (by omega)
theorem let_no {c:Int} (h:Names.letB c=false) (h':¬ (48<=c/\c<=57)) (h'':¬ (65<=c/\c<=70)):runB c=false:=by
 have h:=of_decide_eq_false h
 exact decide_eq_false (by omega)
theorem word_any (pb k:Nat) (s:ByteArray) (L:List Stepx.Node) (w:World) (h:PX w pb s k (some (s.data.toList.drop k,L))) :
  Calls prog 122 #[.pointer (some ⟨pb,0,none⟩)] w fun e w'=>∃ j,k<=j/\j<=s.size/\e=.returned (.string (s.extract k j))/\af (s.data.toList.drop k)=s.data.toList.drop j/\PX w' pb s j (some (s.data.toList.drop j,L))/\Below pb w w':=by
 have H:Hid (PX w pb s k (some (s.data.toList.drop k,L))):=h
 have c1:=h.c1
 have hk:=h.sz.1
 clear h
 go_enter func122,ntmps122
 go_wp2_with fail
 go_loopw [] (fun wr=>∃ j,k<=j/\j<=s.size/\Hid (PX wr pb s j (some (s.data.toList.drop j,L)))/\Hid (Below pb w wr)/\Hid (af (s.data.toList.drop k)=af (s.data.toList.drop j))) (fun wr=>s.size-Cmxa.atOf wr pb)
 case atStart=>exact ⟨k,Nat.le_refl _,hk,H.out,Below.refl _ _,rfl⟩
 case round =>
  obtain ⟨j,hkj,hj,hps,hbel,haf⟩:=hrel
  clear c1 H
  have hat:=hps.out.atOf
  have c0:=hps.out.c0
  have c1:=hps.out.c1
  have f1:=hps.out.fz 1
  have hs:=hps.out.sz.2
  by_cases hlt:j<s.size
  ·obtain ⟨c,hc⟩ : ∃ c:Int,c=(s[j].toNat:Int):=⟨_,rfl⟩
   have hcb:0<=c/\c<=255:=by have:=s[j].toNat_lt;omega
   have d0:decide ((j:Int)<(s.size:Int))=true:=decide_eq_true (by omega)
   have ix:∀ w,(Instr.index 9 (.string s) (.int .i64 (j:Int))).run prog w=.ok (.int .u8 c) w:=fun w=>by
    rw [run_index_string (P:=prog) w 9 s .i64 (j:Int) underlying9,dif_pos ⟨by omega,by omega⟩,hc];rfl
   have s1:∀ w,(Instr.slice 9 (.string s) (some (.int .i64 (k:Int))) (some (.int .i64 (j:Int))) none).run prog w=.ok (.string (s.extract k j)) w:=fun w=>by
    have:=run_slice_string (P:=prog) w 9 s .i64 .i64 (k:Int) (j:Int) underlying9 (by omega) (by omega) (by omega)
    rwa [show ((j:Int)).toNat=j by omega,show ((k:Int)).toNat=k by omega] at this
   have GO:Hid (runB c=true->af (s.data.toList.drop k)=af (s.data.toList.drop (j+1))):=fun h=>haf.out.trans (af_step s j hlt (by unfold isW;rw [<- hc];exact h))
   have NO:Hid (runB c=false->af (s.data.toList.drop k)=s.data.toList.drop j):=fun h=>haf.out.trans (af_stop s j hlt (by unfold isW;rw [<- hc];exact h))
   clear hc
   by_cases hl:Names.letB c=true
   ·have CLt:∀ w,Calls prog 137 #[.int .u8 c] w fun e w'=>e=.returned (.bool true)/\w'=w:=fun w=>by have:=Names.letter_any c w;rwa [hl] at this
    have HL:Hid (Names.letB c=true):=hl
    clear hl
    have CL:=CLt
    have GX:Hid (af (s.data.toList.drop k)=af (s.data.toList.drop (j+1))):=GO.out (let_run HL.out)
    clear GO NO HL
    go_wp2_with fail
    refine wp_region_quiet_lit (by kernel_rfl) (by kernel_rfl) ?_
    try dsimp only [List.append_eq,List.cons_append,List.nil_append,List.append]
    repeat (go_big_quiet_step (first|(go_at_call 137;exact Calls.quiet_of_same (CL _))|fail))
    refine wpQuiet_nil ?_
    intro _ hw'
    obtain ⟨nq,hw''⟩:=hw'
    subst hw''
    go_wp2
    go_roundw
    case rel=>exact ⟨j+1,by omega,by omega,by first|exact (hps.out.drewN _).at_ (by omega) (by omega)|exact (hps.out.at_ (by omega) (by omega)).drewN _,by first|exact (below_drewN hbel.out _).trans below_set|exact below_drewN (hbel.out.trans below_set) _,GX.out⟩
    case measure=>rw [hat,PX.atOf (k:=j+1) (s:=s) (X:=some (s.data.toList.drop (j+1),L)) (by first|exact (hps.out.drewN _).at_ (by omega) (by omega)|exact (hps.out.at_ (by omega) (by omega)).drewN _)];omega
   have CLf:∀ w,Calls prog 137 #[.int .u8 c] w fun e w'=>e=.returned (.bool false)/\w'=w:=fun w=>by have:=Names.letter_any c w;rwa [Bool.eq_false_iff.2 hl] at this
   have HL:Hid (Names.letB c=false):=Bool.eq_false_iff.2 hl
   clear hl
   by_cases h1:48<=c
   ·by_cases h2:c<=57
    ·have _hk:=0
     have CL:=CLf
     have d1:decide (48<=c)=true:=decide_eq_true (by omega)
     have d2:decide (c<=57)=true:=decide_eq_true (by omega)
     have GX:Hid (af (s.data.toList.drop k)=af (s.data.toList.drop (j+1))):=GO.out (decide_eq_true (by omega))
     clear GO NO HL
     go_wp2_with fail
     refine wp_region_quiet_lit (by kernel_rfl) (by kernel_rfl) ?_
     try dsimp only [List.append_eq,List.cons_append,List.nil_append,List.append]
     repeat (go_big_quiet_step (first|(go_at_call 137;exact Calls.quiet_of_same (CL _))|fail))
     refine wpQuiet_nil ?_
     intro _ hw'
     obtain ⟨nq,hw''⟩:=hw'
     subst hw''
     go_wp2
     go_roundw
     case rel=>exact ⟨j+1,by omega,by omega,by first|exact (hps.out.drewN _).at_ (by omega) (by omega)|exact (hps.out.at_ (by omega) (by omega)).drewN _,by first|exact (below_drewN hbel.out _).trans below_set|exact below_drewN (hbel.out.trans below_set) _,GX.out⟩
     case measure=>rw [hat,PX.atOf (k:=j+1) (s:=s) (X:=some (s.data.toList.drop (j+1),L)) (by first|exact (hps.out.drewN _).at_ (by omega) (by omega)|exact (hps.out.at_ (by omega) (by omega)).drewN _)];omega
    ·by_cases h3:65<=c
     ·by_cases h4:c<=70
      ·have _hk:=0
       have CL:=CLf
       have d1:decide (48<=c)=true:=decide_eq_true (by omega)
       have d2:decide (c<=57)=false:=decide_eq_false (by omega)
       have d3:decide (65<=c)=true:=decide_eq_true (by omega)
       have d4:decide (c<=70)=true:=decide_eq_true (by omega)
       have GX:Hid (af (s.data.toList.drop k)=af (s.data.toList.drop (j+1))):=GO.out (decide_eq_true (by omega))
       clear GO NO HL
       go_wp2_with fail
       refine wp_region_quiet_lit (by kernel_rfl) (by kernel_rfl) ?_
       try dsimp only [List.append_eq,List.cons_append,List.nil_append,List.append]
       repeat (go_big_quiet_step (first|(go_at_call 137;exact Calls.quiet_of_same (CL _))|fail))
       refine wpQuiet_nil ?_
       intro _ hw'
       obtain ⟨nq,hw''⟩:=hw'
       subst hw''
       go_wp2
       go_roundw
       case rel=>exact ⟨j+1,by omega,by omega,by first|exact (hps.out.drewN _).at_ (by omega) (by omega)|exact (hps.out.at_ (by omega) (by omega)).drewN _,by first|exact (below_drewN hbel.out _).trans below_set|exact below_drewN (hbel.out.trans below_set) _,GX.out⟩
       case measure=>rw [hat,PX.atOf (k:=j+1) (s:=s) (X:=some (s.data.toList.drop (j+1),L)) (by first|exact (hps.out.drewN _).at_ (by omega) (by omega)|exact (hps.out.at_ (by omega) (by omega)).drewN _)];omega
      ·have _hk:=0
       have CL:=CLf
       have d1:decide (48<=c)=true:=decide_eq_true (by omega)
       have d2:decide (c<=57)=false:=decide_eq_false (by omega)
       have d3:decide (65<=c)=true:=decide_eq_true (by omega)
       have d4:decide (c<=70)=false:=decide_eq_false (by omega)
       have NX:Hid (af (s.data.toList.drop k)=s.data.toList.drop j):=NO.out (let_no HL.out (by omega) (by omega))
       clear GO NO HL
       go_wp2_with fail
       refine wp_region_quiet_lit (by kernel_rfl) (by kernel_rfl) ?_
       try dsimp only [List.append_eq,List.cons_append,List.nil_append,List.append]
       repeat (go_big_quiet_step (first|(go_at_call 137;exact Calls.quiet_of_same (CL _))|fail))
       refine wpQuiet_nil ?_
       intro _ hw'
       obtain ⟨nq,hw''⟩:=hw'
       subst hw''
       go_wp2
       go_quiet (fail)
       go_wp2
       go_ret
       exact ⟨j,hkj,hj,rfl,NX.out,by first|exact hps.out.drewN _|exact (hps.out.drewN _).drewN _ ,by first|exact below_drewN hbel.out _|exact below_drewN (below_drewN hbel.out _) _⟩
     ·have _hk:=0
      have CL:=CLf
      have d1:decide (48<=c)=true:=decide_eq_true (by omega)
      have d2:decide (c<=57)=false:=decide_eq_false (by omega)
      have d3:decide (65<=c)=false:=decide_eq_false (by omega)
      have NX:Hid (af (s.data.toList.drop k)=s.data.toList.drop j):=NO.out (let_no HL.out (by omega) (by omega))
      clear GO NO HL
      go_wp2_with fail
      refine wp_region_quiet_lit (by kernel_rfl) (by kernel_rfl) ?_
      try dsimp only [List.append_eq,List.cons_append,List.nil_append,List.append]
      repeat (go_big_quiet_step (first|(go_at_call 137;exact Calls.quiet_of_same (CL _))|fail))
      refine wpQuiet_nil ?_
      intro _ hw'
      obtain ⟨nq,hw''⟩:=hw'
      subst hw''
      go_wp2
      go_quiet (fail)
      go_wp2
      go_ret
      exact ⟨j,hkj,hj,rfl,NX.out,by first|exact hps.out.drewN _|exact (hps.out.drewN _).drewN _ ,by first|exact below_drewN hbel.out _|exact below_drewN (below_drewN hbel.out _) _⟩
   ·have h3:¬ 65<=c:=by omega
    have CL:=CLf
    have d1:decide (48<=c)=false:=decide_eq_false (by omega)
    have d3:decide (65<=c)=false:=decide_eq_false (by omega)
    have NX:Hid (af (s.data.toList.drop k)=s.data.toList.drop j):=NO.out (let_no HL.out (by omega) (by omega))
    clear GO NO HL
    go_wp2_with fail
    refine wp_region_quiet_lit (by kernel_rfl) (by kernel_rfl) ?_
    try dsimp only [List.append_eq,List.cons_append,List.nil_append,List.append]
    repeat (go_big_quiet_step (first|(go_at_call 137;exact Calls.quiet_of_same (CL _))|fail))
    refine wpQuiet_nil ?_
    intro _ hw'
    obtain ⟨nq,hw''⟩:=hw'
    subst hw''
    go_wp2
    go_quiet (fail)
    go_wp2
    go_ret
    exact ⟨j,hkj,hj,rfl,NX.out,by first|exact hps.out.drewN _|exact (hps.out.drewN _).drewN _ ,by first|exact below_drewN hbel.out _|exact below_drewN (below_drewN hbel.out _) _⟩
  ·have d0:decide ((j:Int)<(s.size:Int))=false:=decide_eq_false (by omega)
   have d0n:decide (j<s.size)=false:=decide_eq_false hlt
   have NX:Hid (af (s.data.toList.drop k)=s.data.toList.drop j):=haf.out.trans (af_end s j (by omega))
   have e0:j=s.size:=by omega
   clear hlt
   have s1:∀ w,(Instr.slice 9 (.string s) (some (.int .i64 (k:Int))) (some (.int .i64 (j:Int))) none).run prog w=.ok (.string (s.extract k j)) w:=fun w=>by
    have:=run_slice_string (P:=prog) w 9 s .i64 .i64 (k:Int) (j:Int) underlying9 (by omega) (by omega) (by omega)
    rwa [show ((j:Int)).toNat=j by omega,show ((k:Int)).toNat=k by omega] at this
   clear e0
   have CL:=fun w=>Names.letter_any 0 w
   go_wp2_with fail
   refine wp_region_quiet_lit (by kernel_rfl) (by kernel_rfl) ?_
   try dsimp only [List.append_eq,List.cons_append,List.nil_append,List.append]
   repeat (go_big_quiet_step (fail))
   refine wpQuiet_nil ?_
   intro _ hw'
   obtain ⟨nq,hw''⟩:=hw'
   subst hw''
   go_wp2
   go_quiet (fail)
   go_wp2
   go_ret
   exact ⟨j,hkj,hj,rfl,NX.out,by first|exact hps.out.drewN _|exact (hps.out.drewN _).drewN _ ,by first|exact below_drewN hbel.out _|exact below_drewN (below_drewN hbel.out _) _⟩
end Cmxa
end Go.Proofs.YtbofcepdckpkkaaGreatDoor
