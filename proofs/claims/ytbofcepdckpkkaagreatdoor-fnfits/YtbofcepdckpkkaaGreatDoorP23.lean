import Derived.Test.YtbofcepdckpkkaaGreatDoorP22
import Derived.Defers
import Derived.Recover
import Derived.Laws.Pointers
set_option linter.all false
set_option maxRecDepth 20000
set_option maxHeartbeats 8000000
open Go.ChangeShapes Go.WideShapes Go.ChangeAt Go.RowKit
open Go.Proofs.Tryz
namespace Go.Proofs.YtbofcepdckpkkaaGreatDoor
namespace Fitc
open Go.Deep
open Cmxd (outC compV)
open Fita Fitb Namp Namq Namr
open Stepx (Nodes exprB run)
open Go.Proofs.YtbofcepdckpkkaaGreatDoor.Steps (nodeB)
theorem run_nodes:∀ (L:List Stepx.Node) (v r:Int),run v L=some r->∀ x ∈ L,nodeB x.1 x.2.1 x.2.2=true
 | [],v,r,h,x,hx=>by cases hx
 | y :: L,v,r,h,x,hx=>by
  unfold run at h
  split at h
  ·rename_i hy
   rcases List.mem_cons.1 hx with rfl|hm
   ·exact hy.1
   ·exact run_nodes L _ r h x hm
  ·cases h
theorem nodes_of {L:List Stepx.Node} (h:exprB L=true):∀ x ∈ L,nodeB x.1 x.2.1 x.2.2=true:=by
 unfold exprB at h
 exact run_nodes L 0 1 (eq_of_beq (Bool.and_eq_true_iff.1 h).2)
theorem name_or {x:Stepx.Node} (h:nodeB x.1 x.2.1 x.2.2=true):x.2.2.size=0 \/ Names.nameB x.2.2=true:=by
 have e:∀ s:ByteArray,s.toList.isEmpty=true->s.size=0:=fun s h=>by
  rw [ByteArray.toList_eq,List.isEmpty_iff_length_eq_zero,Array.length_toList] at h;exact h
 unfold nodeB at h
 split at h
 ·exact .inl (e _ (Bool.and_eq_true_iff.1 h).2)
 split at h
 ·exact .inr (Bool.and_eq_true_iff.1 h).2
 split at h
 ·exact .inl (e _ (Bool.and_eq_true_iff.1 h).2)
 ·cases h
theorem reg_empty {s:ByteArray} (h:s.size=0):reg s=false:=by
 have e:s.toList=[]:=by rw [ByteArray.toList_eq];exact List.eq_nil_of_length_eq_zero (by rw [Array.length_toList];exact h)
 unfold reg;rw [e];rfl
theorem held_reg (s:ByteArray):held s=(reg s || s.toList == [91,104,108,93]):=by
 have c:∀ l:List UInt8,([97,102] == l || ([97] == l || ([98] == l || ([99] == l || ([100] == l || ([101] == l || ([104] == l || ([108] == l || ([91,104,108,93] == l || ([97] == l || ([98,99] == l || ([100,101] == l || ([104,108] == l || ([115,112] == l || ([110,122] == l || ([122] == l || ([110,99] == l || [99] == l)))))))))))))))))
   = ((l == [97] || (l == [98] || (l == [99] || (l == [100] || (l == [101] || (l == [104] || (l == [108] || (l == [97,102] || (l == [98,99] || (l == [100,101] || (l == [104,108] || (l == [115,112] || (l == [110,122] || (l == [122] || l == [110,99])))))))))))))) || l == [91,104,108,93]):=fun l=>by
  have sw:∀ a:List UInt8,(a == l)=(l == a):=fun a=>Bool.eq_iff_iff.2 ⟨fun h=>by rw [eq_of_beq h];exact beq_self_eq_true _,fun h=>by rw [eq_of_beq h];exact beq_self_eq_true _⟩
  simp only [sw]
  generalize (l == [97])=x0
  generalize (l == [98])=x1
  generalize (l == [99])=x2
  generalize (l == [100])=x3
  generalize (l == [101])=x4
  generalize (l == [104])=x5
  generalize (l == [108])=x6
  generalize (l == [97,102])=x7
  generalize (l == [98,99])=x8
  generalize (l == [100,101])=x9
  generalize (l == [104,108])=y0
  generalize (l == [115,112])=y1
  generalize (l == [110,122])=y2
  generalize (l == [122])=y3
  generalize (l == [110,99])=y4
  generalize (l == [91,104,108,93])=y5
  cases x0 <;> cases x1 <;> cases x2 <;> cases x3 <;> cases x4 <;> cases x5 <;> cases x6 <;> simp
  all_goals
   cases x7 <;> cases x8 <;> cases x9 <;> cases y0 <;> simp
  all_goals
   cases y1 <;> cases y2 <;> cases y3 <;> cases y4 <;> simp
 have tl:∀ l:List UInt8,(⟨l.toArray⟩ : ByteArray).toList=l:=fun l=>by rw [ByteArray.toList_eq]
 unfold held wordsB reg regs
 simp only [List.any_cons,List.any_nil,Bool.or_false]
 rw [show (⟨#[97,102]⟩ : ByteArray).toList=[97,102] from tl _,show (⟨#[97]⟩ : ByteArray).toList=[97] from tl _,show (⟨#[98]⟩ : ByteArray).toList=[98] from tl _,show (⟨#[99]⟩ : ByteArray).toList=[99] from tl _,show (⟨#[100]⟩ : ByteArray).toList=[100] from tl _,show (⟨#[101]⟩ : ByteArray).toList=[101] from tl _,show (⟨#[104]⟩ : ByteArray).toList=[104] from tl _,show (⟨#[108]⟩ : ByteArray).toList=[108] from tl _,show (⟨#[91,104,108,93]⟩ : ByteArray).toList=[91,104,108,93] from tl _,show (⟨#[98,99]⟩ : ByteArray).toList=[98,99] from tl _,show (⟨#[100,101]⟩ : ByteArray).toList=[100,101] from tl _,show (⟨#[104,108]⟩ : ByteArray).toList=[104,108] from tl _,show (⟨#[115,112]⟩ : ByteArray).toList=[115,112] from tl _,show (⟨#[110,122]⟩ : ByteArray).toList=[110,122] from tl _,show (⟨#[122]⟩ : ByteArray).toList=[122] from tl _,show (⟨#[110,99]⟩ : ByteArray).toList=[110,99] from tl _]
 exact c s.toList
theorem name_held {s:ByteArray} (h:Names.nameB s=true):held s=reg s:=by
 rw [held_reg]
 cases hq:s.toList == [91,104,108,93] with
 | false=>rw [Bool.or_false]
 | true =>
  exfalso
  have e:=eq_of_beq hq
  have h:=of_decide_eq_true h
  have e2:s=⟨#[91,104,108,93]⟩:=by
   rw [ByteArray.toList_eq] at e
   exact ByteArray.ext (Array.ext' e)
  subst e2
  have:=h.2.2.2 0 (by decide)
  revert this
  decide
def heldL (R:List T):Bool:=R.any fun t=>held ⟨t.toArray⟩
theorem heldL_out {L:List Stepx.Node} (h:exprB L=true):heldL (outN L)=regL L:=by
 have hn:=nodes_of h
 have m:=(fold_put (namesT L) [] List.Pairwise.nil).2
 rw [Bool.eq_iff_iff]
 unfold heldL regL outN
 rw [if_pos h,List.any_eq_true,List.any_eq_true]
 constructor
 ·rintro ⟨t,ht,hh⟩
  rcases (m t).1 ht with ht|ht
  ·obtain ⟨h1,h2⟩:=List.mem_filter.1 ht
   obtain ⟨x,hx,rfl⟩:=List.mem_map.1 h1
   refine ⟨x,hx,?_⟩
   rcases name_or (hn x hx) with h0|h0
   ·exfalso
    have:x.2.2.data.toList=[]:=List.eq_nil_of_length_eq_zero h0
    rw [this] at h2
    cases h2
   ·rw [<- name_held h0];exact hh
  ·cases ht
 ·rintro ⟨x,hx,hr⟩
  rcases name_or (hn x hx) with h0|h0
  ·rw [reg_empty h0] at hr;cases hr
  ·refine ⟨x.2.2.data.toList,(m _).2 (.inl (List.mem_filter.2 ⟨List.mem_map.2 ⟨x,hx,rfl⟩,?_⟩)),?_⟩
   ·have h1:1<=x.2.2.size:=(of_decide_eq_true h0).1
    cases hl:x.2.2.data.toList with
    | nil=>exact absurd (congrArg List.length hl) (by show ¬ x.2.2.size=0;omega)
    | cons _ _=>rfl
   ·show held x.2.2=true
    rw [name_held h0];exact hr
def hexV (n:Nat) (s:ByteArray):Option (List Stepx.Node):=(compV n s).bind fun L=>if regL L=true then none else some L
theorem l10Expr_any (s:ByteArray) (w:World) (hs:s.size<=1048576):Calls prog 24 #[.string s] w (outC (hexV 30 s) w):=by
 have cc:=Cmxd.compiled_any s w hs
 obtain ⟨X,hX⟩ : ∃ X,X=compV 30 s:=⟨_,rfl⟩
 have HX:Hid (hexV 30 s=X.bind fun L=>if regL L=true then none else some L):=(by show _=_;rw [hX];rfl)
 rw [<- hX] at cc
 clear hX hs
 go_enter func24,ntmps24
 go_wp2_with fail
 refine cc.mono ?_
 cases X with
 | none =>
  rintro e w1 ⟨rfl,b1⟩
  have B1:Hid (Below w.heap.size w w1):=b1
  have HN:Hid (hexV 30 s=none):=HX.out
  clear b1 HX
  go_wp2_with fail
  go_ret2
  rw [HN.out]
  exact ⟨rfl,B1.out⟩
 | some L =>
  rintro e w1 ⟨⟨a,cap,rfl,ho,hl,hx,hz⟩,b1⟩
  have B1:Hid (Below w.heap.size w w1):=b1
  have O1:Hid (Nodm.Own w1 w.heap.size (.slice a L.length cap) L):=ho
  have N1:Hid (Nodes w1 a L):=Nodm.nodes_own ho (fun x hx=>Nat.le_trans (hz x hx) (by decide))
  have HE:Hid (exprB L=true/\∀ x ∈ L,x.2.2.size<=16):=⟨hx,hz⟩
  have HR:Hid (heldL (outN L)=regL L):=heldL_out hx
  have RL:(outN L).length<=30:=by
   unfold outN
   rw [if_pos hx]
   have f:∀ (N M:List T),(N.foldl put M).length<=M.length+N.length:=fun N=>by
    induction N with
    | nil=>intro M;exact Nat.le_refl _
    | cons x N ih =>
     intro M
     have h1:=ih (put M x)
     have h2:=put_len M x
     show (N.foldl put (put M x)).length<=_
     rw [List.length_cons]
     omega
   have h1:=f (namesT L) []
   have h2:(namesT L).length<=L.length:=by
    unfold namesT
    exact Nat.le_trans (List.length_filter_le _ _) (by rw [List.length_map];exact Nat.le_refl _)
   have h3:([]:List T).length=0:=rfl
   omega
  have cn:=fun w h=>specNames_any a cap L w h (by omega)
  obtain ⟨len,hlen⟩ : ∃ n,n=L.length:=⟨_,rfl⟩
  have HLN:Hid (len=L.length):=hlen
  rw [<- hlen] at hl |-
  rw [<- hlen] at cn
  clear b1 ho hx hz cc hlen
  go_wp2_with fail
  refine (cn _ N1.out).mono ?_
  generalize outN L=R at *
  rintro e w2 ⟨g,c,rfl,q1,q2,q3,q4,b2⟩
  have B2:Hid (Below w1.heap.size w1 w2):=b2
  have CE:Hid (∀ W,Below w2.heap.size w2 W->∀ k (h:k<R.length),W.cell? ⟨g,k,none⟩=some (cell R[k])):=fun W hb k h=>(hb.cell (p:=⟨g,k,none⟩) q1).trans (q4 k h)
  obtain ⟨n,hn⟩ : ∃ n,n=R.length:=⟨_,rfl⟩
  have HN:Hid (n=R.length):=hn
  rw [<- hn] at RL q2 |-
  clear q1 q4 b2 cn hn
  go_wp2_with fail
  go_loopw [7] (fun i wr=>∃ k:Nat,k<=n/\i=.int .i64 k/\Hid (heldL (R.take k)=false)/\Hid (Below w2.heap.size w2 wr)) (fun i _=>n-(intOf i).toNat)
  case atStart=>exact ⟨0,Nat.zero_le _,rfl,rfl,Below.refl _ _⟩
  case round =>
   obtain ⟨k,hk,rfl,hno,hbel⟩:=hrel
   have B3:Hid (Below w1.heap.size w1 wr):=B2.out.trans (hbel.out.mono B2.out.size)
   by_cases hlt:k<n
   ·have hkL:k<R.length:=by have:=HN.out;omega
    have d0:=CE.out _ hbel.out k hkL
    have ch:=fun w=>held_any ⟨R[k].toArray⟩ w
    have EX:Hid (heldL (R.take (k+1))=held ⟨R[k].toArray⟩):=(show _=_ from by
     have h:heldL (R.take k)=false:=hno.out
     unfold heldL at h |-
     rw [List.take_add_one,List.getElem?_eq_getElem hkL,List.any_append,h]
     simp)
    have EY:held ⟨R[k].toArray⟩=true->heldL R=true:=fun h=>List.any_eq_true.2 ⟨R[k],List.getElem_mem hkL,h⟩
    have k0:(0:Int)<=(k:Int):=by omega
    have k1:(k:Int)<(n:Int):=by omega
    unfold cell at d0
    generalize (⟨R[k].toArray⟩ : ByteArray)=t at *
    obtain ⟨q,hq⟩ : ∃ q,held t=q:=⟨_,rfl⟩
    rw [hq] at ch EX EY
    clear hq
    cases q with
    | true =>
     have EZ:Hid (hexV 30 s=none):=(show _=_ from by
      have hr:=HR.out
      rw [EY rfl] at hr
      rw [HX.out]
      show (if regL L=true then none else some L)=none
      rw [if_pos hr.symm])
     clear EY
     go_wp2_with fail
     refine (ch _).mono ?_
     rintro e w3 ⟨rfl,b3⟩
     have B4:Hid (Below w.heap.size w w3):=B1.out.trans ((B3.out.trans (b3.mono B3.out.size)).mono B1.out.size)
     clear b3
     go_wp2_with fail
     go_ret2
     rw [EZ.out]
     exact ⟨rfl,B4.out⟩
    | false =>
     clear EY
     go_wp2_with fail
     refine (ch _).mono ?_
     rintro e w3 ⟨rfl,b3⟩
     have B4:Hid (Below w2.heap.size w2 w3):=hbel.out.trans (b3.mono hbel.out.size)
     clear b3
     go_wp2_with fail
     go_roundw
     case rel=>exact ⟨k+1,by omega,by go_num,EX.out,B4.out⟩
     case measure=>simp [intOf];omega
   ·have EZ:Hid (hexV 30 s=some L):=(show _=_ from by
     have h:heldL (R.take k)=false:=hno.out
     rw [List.take_of_length_le (by have:=HN.out;omega)] at h
     have hr:=HR.out
     rw [h] at hr
     rw [HX.out]
     show (if regL L=true then none else some L)=some L
     rw [if_neg (by rw [<- hr];decide)])
    go_wp2_with fail
    go_ret2
    rw [EZ.out]
    have e:len=L.length:=HLN.out
    subst e
    exact ⟨⟨a,cap,rfl,Nodm.own_below O1.out B3.out,hl,HE.out.1,HE.out.2⟩,B1.out.trans (B3.out.mono B1.out.size)⟩
end Fitc
namespace Ximh
open Go.Deep
open Prsp Prsl Xima Ximb Ximc Ximd Ximf Ximg
open Cmxd (outC compV own_low)
open Stepx (exprB)
theorem catch_panicking (p q:Addr) (x y:Value) (u:TypeId) (pv:Value) (older:List PanicEntry) (w:World) (hp:w.cell? p=some x) (fp:w.frozen? p=false) (hq:(w.setCell p (.slice none 0 0)).cell? q=some y) (fq:w.frozen? q=false) :
  CallsD prog 76 #[.pointer (some p),.pointer (some q)] (.panicking ({ v:=.iface u pv,recovered:=false } :: older)) w fun e u' w' =>
   e=.returned (.tuple #[])/\u'=.panicking ({ v:=.iface u pv,recovered:=true } :: older)/\w'=(w.setCell p (.slice none 0 0)).setCell q (.bool false):=by
 refine callsD_of_wpS func76 rfl fun c₀ cs hu=>?_
 apply wpS_seq
 apply wpS_region
 simp [wpOpsS,go_sem,recoverD,hu,ntmps76,Exit.thenS]
 refine wpS_cond (t:=true) (by simp [Act.eval,Array.replicate]) ?_
 simp only [if_true]
 apply wpS_region
 simp [wpOpsS,go_sem,hp,fp,hq,fq,bodyPostS,results,results76]
theorem catch_idle (p q:Addr) (w:World) :
  CallsD prog 76 #[.pointer (some p),.pointer (some q)] .returning w fun e u' w'=>e=.returned (.tuple #[])/\u'=.returning/\w'=w:=by
 refine callsD_of_wpS func76 rfl fun c₀ cs hu=>?_
 apply wpS_seq
 apply wpS_region
 simp [wpOpsS,go_sem,recoverD,hu,ntmps76,Exit.thenS]
 refine wpS_cond (t:=false) (by simp [Act.eval,Array.replicate]) ?_
 simp only [Bool.false_eq_true,if_false]
 refine wpS_of_wp (wp_skip ?_)
 cases c₀
 simp_all [bodyPostS,results,results76]
abbrev pr (b:Nat):Value:=.pointer (some ⟨b,0,none⟩)
theorem leave_panic (s:ByteArray) (w w1:World) (u:TypeId) (pv:Value) (tmps:Array Value) (hN:compV 31 s=none) (hB:Below w.heap.size w w1)
  (c0:w1.cell? ⟨w.heap.size,0,none⟩=some (.slice none 0 0)) (c1:w1.cell? ⟨w.heap.size+1,0,none⟩=some (.bool false)) (f0:w1.frozen? ⟨w.heap.size,0,none⟩=false) (f1:w1.frozen? ⟨w.heap.size+1,0,none⟩=false)
  (h2:tmps.getD 2 undef=pr w.heap.size) (h3:tmps.getD 3 undef=pr (w.heap.size+1)) :
  bodyPostD prog Tryz.f43 (outC (compV 31 s) w) (Exit.panic [{ v:=.iface u pv,recovered:=false }]) { tmps:=tmps,defers:=[{ target:=Target.fn (Fn.func 76) #[pr w.heap.size,pr (w.heap.size+1)],args:=#[] }] } w1:=by
 have g2:tmps[2]?.getD undef=pr w.heap.size:=by rw [<- Array.getD_eq_getD_getElem?];exact h2
 have g3:tmps[3]?.getD undef=pr (w.heap.size+1):=by rw [<- Array.getD_eq_getD_getElem?];exact h3
 rw [hN]
 refine leaves_cons (f:=76) (args:=#[pr w.heap.size,pr (w.heap.size+1)]) (by simp) (by simp [go_sem]) ?_
 have c1':(w1.setCell ⟨w.heap.size,0,none⟩ (.slice none 0 0)).cell? ⟨w.heap.size+1,0,none⟩=some (.bool false):=(World.cell?_setCell_other w1 _ _ _ (fun e=>by have:=congrArg Addr.block e;simp at this)).trans c1
 refine (catch_panicking ⟨w.heap.size,0,none⟩ ⟨w.heap.size+1,0,none⟩ _ _ u pv [] w1 c0 f0 c1' f1).mono ?_
 rintro e u' w'' ⟨rfl,rfl,rfl⟩
 have q1:((w1.setCell ⟨w.heap.size,0,none⟩ (.slice none 0 0)).setCell ⟨w.heap.size+1,0,none⟩ (.bool false)).cell? ⟨w.heap.size+1,0,none⟩=some (.bool false):=World.cell?_setCell_same _ _ _ c1'
 have q0:((w1.setCell ⟨w.heap.size,0,none⟩ (.slice none 0 0)).setCell ⟨w.heap.size+1,0,none⟩ (.bool false)).cell? ⟨w.heap.size,0,none⟩=some (.slice none 0 0):=(World.cell?_setCell_other _ _ _ _ (fun e=>by have:=congrArg Addr.block e;simp at this)).trans (World.cell?_setCell_same _ _ _ c0)
 have hB2:Below w.heap.size w ((w1.setCell ⟨w.heap.size,0,none⟩ (.slice none 0 0)).setCell ⟨w.heap.size+1,0,none⟩ (.bool false)):=(hB.trans below_set).trans (below_set.mono (Nat.le_succ _))
 exact ⟨.tuple #[.slice none 0 0,.bool false],by simp [results,results43,go_sem,g2,g3,q0,q1],outC.no hB2⟩
theorem leave_ok (w w1:World) (L:List Stepx.Node) (a:Option Addr) (cap len:Nat) (tmps:Array Value) (hlen:len=L.length) (hB:Below w.heap.size w w1)
  (hO:Nodm.Own w1 (w.heap.size+2+1) (.slice a L.length cap) L) (hR:exprB L=true/\L.length<=30/\∀ x ∈ L,x.2.2.size<=16)
  (c0:w1.cell? ⟨w.heap.size,0,none⟩=some (.slice none 0 0)) (c1:w1.cell? ⟨w.heap.size+1,0,none⟩=some (.bool false)) (f0:w1.frozen? ⟨w.heap.size,0,none⟩=false) (f1:w1.frozen? ⟨w.heap.size+1,0,none⟩=false)
  (h2:tmps.getD 2 undef=pr w.heap.size) (h3:tmps.getD 3 undef=pr (w.heap.size+1)) :
  bodyPostD prog Tryz.f43 (outC (some L) w) Exit.normal { tmps:=tmps,defers:=[{ target:=Target.fn (Fn.func 76) #[pr w.heap.size,pr (w.heap.size+1)],args:=#[] }] } ((w1.setCell ⟨w.heap.size,0,none⟩ (.slice a len cap)).setCell ⟨w.heap.size+1,0,none⟩ (.bool true)):=by
 have g2:tmps[2]?.getD undef=pr w.heap.size:=by rw [<- Array.getD_eq_getD_getElem?];exact h2
 have g3:tmps[3]?.getD undef=pr (w.heap.size+1):=by rw [<- Array.getD_eq_getD_getElem?];exact h3
 subst hlen
 refine leaves_cons (f:=76) (args:=#[pr w.heap.size,pr (w.heap.size+1)]) (by simp) (by simp [go_sem]) ?_
 refine (catch_idle ⟨w.heap.size,0,none⟩ ⟨w.heap.size+1,0,none⟩ _).mono ?_
 rintro e u' w'' ⟨rfl,rfl,rfl⟩
 have c1':(w1.setCell ⟨w.heap.size,0,none⟩ (.slice a L.length cap)).cell? ⟨w.heap.size+1,0,none⟩=some (.bool false):=(World.cell?_setCell_other w1 _ _ _ (fun e=>by have:=congrArg Addr.block e;simp at this)).trans c1
 have q1:((w1.setCell ⟨w.heap.size,0,none⟩ (.slice a L.length cap)).setCell ⟨w.heap.size+1,0,none⟩ (.bool true)).cell? ⟨w.heap.size+1,0,none⟩=some (.bool true):=World.cell?_setCell_same _ _ _ c1'
 have q0:((w1.setCell ⟨w.heap.size,0,none⟩ (.slice a L.length cap)).setCell ⟨w.heap.size+1,0,none⟩ (.bool true)).cell? ⟨w.heap.size,0,none⟩=some (.slice a L.length cap):=(World.cell?_setCell_other _ _ _ _ (fun e=>by have:=congrArg Addr.block e;simp at this)).trans (World.cell?_setCell_same _ _ _ c0)
 have hB2:Below w.heap.size w ((w1.setCell ⟨w.heap.size,0,none⟩ (.slice a L.length cap)).setCell ⟨w.heap.size+1,0,none⟩ (.bool true)):=(hB.trans below_set).trans (below_set.mono (Nat.le_succ _))
 have o1:Nodm.Own (w1.setCell ⟨w.heap.size,0,none⟩ (.slice a L.length cap)) (w.heap.size+2+1) (.slice a L.length cap) L:=hO.kept (grown_set w1 w.heap.size 0 (.slice a L.length cap)) (own_ne hO (by omega))
 have o2:Nodm.Own _ (w.heap.size+2+1) (.slice a L.length cap) L:=o1.kept (grown_set _ (w.heap.size+1) 0 (.bool true)) (own_ne o1 (by omega))
 exact ⟨.tuple #[.slice a L.length cap,.bool true],by simp [results,results43,go_sem,g2,g3,q0,q1],⟨a,cap,rfl,own_low o2 (by omega),hR.2.1,hR.1,hR.2.2⟩,hB2⟩
theorem leave_no (w:World) (tmps:Array Value) (h2:tmps.getD 2 undef=pr w.heap.size) (h3:tmps.getD 3 undef=pr (w.heap.size+1)) :
  bodyPostD prog Tryz.f43 (outC none w) Exit.ret { tmps:=tmps,defers:=[] } ((w.alloc (.cells #[.slice none 0 0] 27)).alloc (.cells #[.bool false] 4)):=by
 have g2:tmps[2]?.getD undef=pr w.heap.size:=by rw [<- Array.getD_eq_getD_getElem?];exact h2
 have g3:tmps[3]?.getD undef=pr (w.heap.size+1):=by rw [<- Array.getD_eq_getD_getElem?];exact h3
 have q0:((w.alloc (.cells #[.slice none 0 0] 27)).alloc (.cells #[.bool false] 4)).cell? ⟨w.heap.size,0,none⟩=some (.slice none 0 0):=by simp [go_sem]
 have q1:((w.alloc (.cells #[.slice none 0 0] 27)).alloc (.cells #[.bool false] 4)).cell? ⟨w.heap.size+1,0,none⟩=some (.bool false):=by simp [go_sem]
 exact ⟨.tuple #[.slice none 0 0,.bool false],by simp [results,results43,go_sem,g2,g3,q0,q1],outC.no ((zAl _ _).alloc (by simp) _)⟩
theorem compiled_any (s:ByteArray) (w:World) (hT:Nums.Tab w) (hs:s.size<=1048576):Calls prog 43 #[.string s] w (outC (compV 31 s) w):=by
 have hmf:∀ (fn:Fn) (first cap:Array Value) (w:World),(Instr.makeFunc fn first cap).run prog w=.ok (.func fn first cap) w:=fun _ _ _ _=>rfl
 by_cases h2:200<s.size
 ·have HN:Hid (compV 31 s=none):=if_pos h2
  go_enter_defers func43,ntmps43
  go_wp2
  rw [HN.out]
  exact leave_no w _ rfl rfl
 ·obtain ⟨W,hW⟩ : ∃ W,W=((w.alloc (.cells #[.slice none 0 0] 27)).alloc (.cells #[.bool false] 4)).alloc (.cells #[.string s,.int .i64 0,.slice none 0 0] 100):=⟨_,rfl⟩
  have HB:Hid (Below w.heap.size w W):=(show Below _ _ _ from by rw [hW];exact ((zAl _ _).alloc (by simp) _).alloc (by simp;omega) _)
  have P0:Hid (PI W (w.heap.size+2) s 0 []):=by
   rw [hW]
   have e:w.heap.size+2=((w.alloc (.cells #[.slice none 0 0] 27)).alloc (.cells #[.bool false] 4)).heap.size:=by simp
   rw [e]
   refine ⟨none,0,?_,?_,?_,fun i=>?_,Nat.zero_le _,by omega,by decide,World.ownsRow_nil _ _ _ _⟩
   ·rw [World.cell?_alloc_new];rfl
   ·rw [World.cell?_alloc_new];rfl
   ·rw [World.cell?_alloc_new];rfl
   ·exact World.frozen?_alloc_new _ _ _ i
  have hg:8<w.heap.size+2:=Nat.lt_of_lt_of_le (World.block_lt_of_cell? w ⟨8,0,none⟩ (hT 0 (by decide))) (Nat.le_add_right _ _)
  have HT:Hid (Nums.Tab W):=(show Nums.Tab W from fun i hi=>(HB.out.cell (p:=⟨8,i,none⟩) (World.block_lt_of_cell? w ⟨8,0,none⟩ (hT 0 (by decide)))).trans (hT i hi))
  have E0:Hid (W.cell? ⟨w.heap.size,0,none⟩=some (.slice none 0 0)/\W.cell? ⟨w.heap.size+1,0,none⟩=some (.bool false)/\W.frozen? ⟨w.heap.size,0,none⟩=false/\W.frozen? ⟨w.heap.size+1,0,none⟩=false):=by
   rw [hW];refine ⟨?_,?_,?_,?_⟩ <;> simp [go_sem]
  have HV:Hid (compV 31 s=comp 31 s.data.toList):=if_neg h2
  have cl:=expr_any (w.heap.size+2) s hg 1 0 [] W (by decide) (by decide) P0.out HT.out
  obtain ⟨X,hX⟩ : ∃ X,X=lev 31 1 (s.data.toList.drop 0,([]:List Stepx.Node)):=⟨_,rfl⟩
  have HX0:Hid (X=lev 31 1 (s.data.toList,([]:List Stepx.Node))):=(show X=_ from by rw [hX,List.drop_zero])
  rw [<- hX] at cl
  clear hX P0
  rw [hW] at cl
  go_enter_defers func43,ntmps43
  go_wp2_with fail
  refine cl.mono ?_
  rw [<- hW]
  clear cl hW
  intro e w1 h1
  rcases RI.split h1 with ⟨hn,⟨u,pv,rfl⟩,b1⟩|⟨st,j1,hn,rfl,hj1,hst,p1,b1⟩
  ·have c0:w1.cell? ⟨w.heap.size,0,none⟩=some (.slice none 0 0):=(b1.cell (p:=⟨w.heap.size,0,none⟩) (by show w.heap.size<w.heap.size+2;omega)).trans E0.out.1
   have c1:w1.cell? ⟨w.heap.size+1,0,none⟩=some (.bool false):=(b1.cell (p:=⟨w.heap.size+1,0,none⟩) (by show w.heap.size+1<w.heap.size+2;omega)).trans E0.out.2.1
   have f0:w1.frozen? ⟨w.heap.size,0,none⟩=false:=(World.frozen?_of_block (a:=⟨w.heap.size,0,none⟩) (b1.block w.heap.size (by omega))).trans E0.out.2.2.1
   have f1:w1.frozen? ⟨w.heap.size+1,0,none⟩=false:=(World.frozen?_of_block (a:=⟨w.heap.size+1,0,none⟩) (b1.block (w.heap.size+1) (by omega))).trans E0.out.2.2.2
   have HN:Hid (compV 31 s=none):=(show compV 31 s=none from by rw [HV.out];unfold comp;rw [<- HX0.out,hn])
   have BF:Hid (Below w.heap.size w w1):=HB.out.trans (b1.mono (by omega))
   clear b1 h1 hn HX0 HV E0 HT HB hT
   go_wp2
   exact leave_panic s w w1 u pv _ HN.out BF.out c0 c1 f0 f1 rfl rfl
  ·have c0:w1.cell? ⟨w.heap.size,0,none⟩=some (.slice none 0 0):=(b1.bel.cell (p:=⟨w.heap.size,0,none⟩) (by show w.heap.size<w.heap.size+2;omega)).trans E0.out.1
   have c1:w1.cell? ⟨w.heap.size+1,0,none⟩=some (.bool false):=(b1.bel.cell (p:=⟨w.heap.size+1,0,none⟩) (by show w.heap.size+1<w.heap.size+2;omega)).trans E0.out.2.1
   have f0:w1.frozen? ⟨w.heap.size,0,none⟩=false:=(World.frozen?_of_block (a:=⟨w.heap.size,0,none⟩) (b1.bel.block w.heap.size (by omega))).trans E0.out.2.2.1
   have f1:w1.frozen? ⟨w.heap.size+1,0,none⟩=false:=(World.frozen?_of_block (a:=⟨w.heap.size+1,0,none⟩) (b1.bel.block (w.heap.size+1) (by omega))).trans E0.out.2.2.2
   have BF:Hid (Below w.heap.size w w1):=HB.out.trans (b1.bel.mono (by omega))
   have k0:=p1.c0
   have k1:=p1.c1
   have hjs:=p1.sz.1
   obtain ⟨a,cap,_,_,k2,_,_,_,hl30,ho⟩:=p1
   have HL:Hid (lev 31 1 (s.data.toList,[])=some (s.data.toList.drop j1,st.2)):=(show _=_ from by rw [<- HX0.out,hn,<- hst])
   by_cases hjz:(j1:Int)=(s.size:Int)
   ·have d1:((j1:Int) == (s.size:Int))=true:=by simp [hjz]
    have d2:((j1:Int) != (s.size:Int))=false:=by simp [hjz]
    have d3:decide ((j1:Int)=(s.size:Int))=true:=decide_eq_true hjz
    have HC:Hid (compV 31 s=some st.2):=(show compV 31 s=some st.2 from by rw [HV.out];unfold comp;rw [HL.out,Nums.drop_end s j1 (by omega)])
    have HO:Hid (Nodm.Own w1 (w.heap.size+2+1) (.slice a st.2.length cap) st.2):=ho
    have HR:Hid (exprB st.2=true/\st.2.length<=30/\∀ x ∈ st.2,x.2.2.size<=16):=comp_right (HV.out.symm.trans HC.out)
    have e1:w.heap.size+1+1=w.heap.size+2:=rfl
    clear b1 h1 hn HX0 HV E0 HT HB hT ho HL hst hl30 hjz
    generalize st.2=L at *
    obtain ⟨len,hlen⟩ : ∃ len,len=L.length:=⟨_,rfl⟩
    rw [<- hlen] at k2
    have HE:Hid (len=L.length):=hlen
    clear hlen
    go_wp2
    rw [HC.out]
    exact leave_ok w w1 L a cap len _ HE.out BF.out HO.out HR.out c0 c1 f0 f1 rfl rfl
   ·have d1:((j1:Int) == (s.size:Int))=false:=by simp [hjz]
    have d2:((j1:Int) != (s.size:Int))=true:=by simp [hjz]
    have d3:decide ((j1:Int)=(s.size:Int))=false:=decide_eq_false hjz
    have HN:Hid (compV 31 s=none):=(show compV 31 s=none from by rw [HV.out];unfold comp;rw [HL.out,Nums.drop_at s j1 (by omega)])
    clear b1 h1 hn HX0 HV E0 HT HB hT ho HL hst hl30 hjz k2
    go_wp2
    exact leave_panic s w w1 _ _ _ HN.out BF.out c0 c1 f0 f1 rfl rfl
end Ximh
namespace Like
open Signed (inB l1In_any)
open HoleX (n8 n16 e8 holeT holeP)
open HolI LenX InsX Texi Fits
theorem fro {w w':World} {vs:Array Value} {T:TypeId} (h:Below (w.alloc (.cells vs T)).heap.size (w.alloc (.cells vs T)) w') (i:Nat):w'.frozen? ⟨w.heap.size,i,none⟩=false:=by
 rw [h.frozen (p:=⟨w.heap.size,i,none⟩) (by simp)]
 exact World.frozen?_alloc_new w vs T i
def ahead (code:Int) (cb:Bool):ByteArray:=(Tmpl.tmplS code cb).extract 0 (holeP (Tmpl.tmplS code cb)).toNat
def behind (code:Int) (cb:Bool):ByteArray:=(Tmpl.tmplS code cb).extract ((holeP (Tmpl.tmplS code cb)).toNat+(hole code cb).size) (Tmpl.tmplS code cb).size
def valI (s:ByteArray) (code:Int) (cb:Bool):Int:=if (hole code cb).size=0 then 0 else if stands s (ahead code cb) (behind code cb)=true then hv (inner s (ahead code cb) (behind code cb)) else 0
def flagI (s:ByteArray) (code:Int) (cb:Bool):Bool:=if (hole code cb).size=0 then s.toList == (Tmpl.tmplS code cb).toList else stands s (ahead code cb) (behind code cb) && (textV code cb (hv (inner s (ahead code cb) (behind code cb)))).toList == s.toList
theorem inner_le (s A Z:ByteArray) (hs:s.size<=1048576):(inner s A Z).size<=1048576:=by
 unfold inner
 have h1:=Lib.trimSuffix_le (Lib.trimPrefix s.data.toList A.data.toList) Z.data.toList
 have h2:=Lib.trimPrefix_le s.data.toList A.data.toList
 have h3:s.data.toList.length=s.size:=Array.length_toList
 show (Lib.trimSuffix (Lib.trimPrefix s.data.toList A.data.toList) Z.data.toList).toArray.size<=_
 rw [List.size_toArray]
 omega
theorem cut_all:∀ (c:Fin 256) (b:Bool),holeI (Tmpl.tmplS (c.val:Int) b)=hole (c.val:Int) b/\(¬ (hole (c.val:Int) b).size=0->(⟨(Lib.cut (Tmpl.tmplS (c.val:Int) b).data.toList (hole (c.val:Int) b).data.toList).1.toArray⟩ : ByteArray)=ahead (c.val:Int) b/\(⟨(Lib.cut (Tmpl.tmplS (c.val:Int) b).data.toList (hole (c.val:Int) b).data.toList).2.1.toArray⟩ : ByteArray)=behind (c.val:Int) b):=by decide +kernel
theorem cut_at (code:Int) (cb:Bool) (h0:0<=code) (h1:code<=255):holeI (Tmpl.tmplS code cb)=hole code cb/\(¬ (hole code cb).size=0->(⟨(Lib.cut (Tmpl.tmplS code cb).data.toList (hole code cb).data.toList).1.toArray⟩ : ByteArray)=ahead code cb/\(⟨(Lib.cut (Tmpl.tmplS code cb).data.toList (hole code cb).data.toList).2.1.toArray⟩ : ByteArray)=behind code cb):=by
 have:=cut_all ⟨code.toNat,by omega⟩ cb
 rwa [show ((⟨code.toNat,by omega⟩ : Fin 256).val:Int)=code by show ((code.toNat:Nat):Int)=code;omega] at this
end Like
namespace Fitz
open HoleX (n8 n16 e8 holeT holeP)
open HolI LenX InsX Texi Fits
def tailT (T:ByteArray):ByteArray:=T.extract ((holeP T).toNat+(holeT T).size) T.size
def fits (s T:ByteArray):Bool :=
 if holeP T<0 then s.toList == T.toList
 else if (s.size:Int)<=holeP T+((tailT T).size:Int) then false
 else if ((s.extract 0 (holeP T).toNat).toList == (T.extract 0 (holeP T).toNat).toList)=false then false
 else (s.extract (s.size-(tailT T).size) s.size).toList == (tailT T).toList
def fitT (s T:ByteArray):ByteArray:=if holeP T<0 then ⟨#[]⟩ else if fits s T=true then s.extract (holeP T).toNat (s.size-(tailT T).size) else ⟨#[]⟩
theorem fits_any (s T:ByteArray) (w:World) (hs:s.size<=1048576) (ht:T.size<=1000) (hp:0<=holeP T->(holeP T).toNat+(holeT T).size<=T.size) :
  Calls prog 23 #[.string s,.string T] w fun e w'=>e=.returned (.tuple #[.string (fitT s T),.bool (fits s T)])/\Below w.heap.size w w':=by
 have ch:=fun w=>HoleX.hole_any T w ht
 unfold HoleX.ret at ch
 by_cases hn:holeP T<0
 ·have HE:Hid (fitT s T=⟨#[]⟩/\fits s T=(s.toList == T.toList)):=by
   refine ⟨?_,?_⟩
   ·unfold fitT;rw [if_pos hn]
   ·unfold fits;rw [if_pos hn]
  generalize holeP T=P at ch hn
  generalize holeT T=G at ch
  clear hp
  go_enter func23,ntmps23
  go_wp2_with fail
  refine (ch _).mono ?_
  rintro e w1 ⟨rfl,b1⟩
  have B1:Hid (Below _ _ w1):=b1
  clear b1 ch
  go_wp2
  go_ret2
  exact ⟨by rw [HE.out.1,HE.out.2];rfl,by repeat' (with_reducible first|exact B1.out|refine Hole.below_drewN ?_ _)⟩
 ·have h0:0<=holeP T:=by omega
  have h1:=hp h0
  have zt:(tailT T).size<=1000:=by unfold tailT;simp;omega
  have s0:∀ w,(Instr.slice 9 (.string T) (some (.int .i64 (holeP T+((holeT T).size:Int)))) none none).run prog w=.ok (.string (tailT T)) w:=fun w=>by
   have:=run_slice_string_l w (t:=9) (s:=T) underlying9 .i64 (holeP T+((holeT T).size:Int)) (by omega) (by omega)
   rwa [show (holeP T+((holeT T).size:Int)).toNat=(holeP T).toNat+(holeT T).size by omega] at this
  have p1:IntKind.i64.wrap (holeP T+((holeT T).size:Int))=holeP T+((holeT T).size:Int):=by rw [IntKind.wrap_i64];omega
  have p2:wrap64 (holeP T+((holeT T).size:Int))=holeP T+((holeT T).size:Int):=by unfold wrap64;omega
  have p3:IntKind.i64.wrap (holeP T+((tailT T).size:Int))=holeP T+((tailT T).size:Int):=by rw [IntKind.wrap_i64];omega
  have p4:wrap64 (holeP T+((tailT T).size:Int))=holeP T+((tailT T).size:Int):=by unfold wrap64;omega
  have q0:¬ holeP T+((holeT T).size:Int)<0:=by omega
  have q1:0<=holeP T+((holeT T).size:Int):=by omega
  have q2:holeP T+((holeT T).size:Int)<=(T.size:Int):=by omega
  by_cases hl:(s.size:Int)<=holeP T+((tailT T).size:Int)
  ·have hf:fits s T=false:=by unfold fits;rw [if_neg hn,if_pos hl]
   have HE:Hid (fitT s T=⟨#[]⟩/\fits s T=false):=⟨by unfold fitT;rw [if_neg hn,hf];rfl,hf⟩
   clear hf hp h1
   generalize tailT T=Z at *
   generalize holeP T=P at *
   generalize holeT T=G at *
   go_enter func23,ntmps23
   go_wp2_with fail
   refine (ch _).mono ?_
   rintro e w1 ⟨rfl,b1⟩
   have B1:Hid (Below _ _ w1):=b1
   clear b1 ch
   have d1:decide ((s.size:Int)<=P+(Z.size:Int))=true:=decide_eq_true hl
   go_wp2_with fail
   go_quiet (fail)
   all_goals
    go_wp2
    go_ret2
    exact ⟨by rw [HE.out.1,HE.out.2];rfl,by repeat' (with_reducible first|exact B1.out|refine Hole.below_drewN ?_ _)⟩
  ·have s1:∀ w,(Instr.slice 9 (.string s) none (some (.int .i64 (holeP T))) none).run prog w=.ok (.string (s.extract 0 (holeP T).toNat)) w:=fun w=>run_slice_string_h w (t:=9) (s:=s) underlying9 .i64 (holeP T) h0 (by omega)
   have s2:∀ w,(Instr.slice 9 (.string T) none (some (.int .i64 (holeP T))) none).run prog w=.ok (.string (T.extract 0 (holeP T).toNat)) w:=fun w=>run_slice_string_h w (t:=9) (s:=T) underlying9 .i64 (holeP T) h0 (by omega)
   have s3:∀ w,(Instr.slice 9 (.string s) (some (.int .i64 ((s.size:Int)-((tailT T).size:Int)))) none none).run prog w=.ok (.string (s.extract (s.size-(tailT T).size) s.size)) w:=fun w=>by
    have:=run_slice_string_l w (t:=9) (s:=s) underlying9 .i64 ((s.size:Int)-((tailT T).size:Int)) (by omega) (by omega)
    rwa [show ((s.size:Int)-((tailT T).size:Int)).toNat=s.size-(tailT T).size by omega] at this
   have s4:∀ w,(Instr.slice 9 (.string s) (some (.int .i64 (holeP T))) (some (.int .i64 ((s.size:Int)-((tailT T).size:Int)))) none).run prog w=.ok (.string (s.extract (holeP T).toNat (s.size-(tailT T).size))) w:=fun w=>by
    have:=run_slice_string (P:=prog) w 9 s .i64 .i64 (holeP T) ((s.size:Int)-((tailT T).size:Int)) underlying9 (by omega) (by omega) (by omega)
    rwa [show ((s.size:Int)-((tailT T).size:Int)).toNat=s.size-(tailT T).size by omega] at this
   have p5:IntKind.i64.wrap ((s.size:Int)-((tailT T).size:Int))=(s.size:Int)-((tailT T).size:Int):=by rw [IntKind.wrap_i64];omega
   have p6:wrap64 ((s.size:Int)-((tailT T).size:Int))=(s.size:Int)-((tailT T).size:Int):=by unfold wrap64;omega
   have q3:holeP T<=(s.size:Int):=by omega
   have q4:holeP T<=(T.size:Int):=by omega
   have q5:0<=(s.size:Int)-((tailT T).size:Int):=by omega
   have q6:(s.size:Int)-((tailT T).size:Int)<=(s.size:Int):=by omega
   have q7:holeP T<=(s.size:Int)-((tailT T).size:Int):=by omega
   have hf:fits s T=if ((s.extract 0 (holeP T).toNat).toList == (T.extract 0 (holeP T).toNat).toList)=false then false else (s.extract (s.size-(tailT T).size) s.size).toList == (tailT T).toList:=by unfold fits;rw [if_neg hn,if_neg hl]
   have ht:fitT s T=if fits s T=true then s.extract (holeP T).toNat (s.size-(tailT T).size) else ⟨#[]⟩:=by unfold fitT;rw [if_neg hn]
   have HE:Hid (fits s T=(if ((s.extract 0 (holeP T).toNat).toList == (T.extract 0 (holeP T).toNat).toList)=false then false else (s.extract (s.size-(tailT T).size) s.size).toList == (tailT T).toList)/\fitT s T=if fits s T=true then s.extract (holeP T).toNat (s.size-(tailT T).size) else ⟨#[]⟩):=⟨hf,ht⟩
   clear hf ht hp h1
   generalize s.extract (holeP T).toNat (s.size-(tailT T).size)=S4 at *
   generalize s.extract (s.size-(tailT T).size) s.size=S3 at *
   generalize s.extract 0 (holeP T).toNat=S1 at *
   generalize T.extract 0 (holeP T).toNat=S2 at *
   generalize tailT T=Z at *
   generalize holeP T=P at *
   generalize holeT T=G at *
   have hl':P+(Z.size:Int)<(s.size:Int):=by omega
   have d1:decide ((s.size:Int)<=P+(Z.size:Int))=false:=decide_eq_false hl
   rcases Bool.eq_false_or_eq_true (S1.toList == S2.toList) with e1|e1 <;> rcases Bool.eq_false_or_eq_true (S3.toList == Z.toList) with e2|e2
   all_goals
    have e3:(S1.toList != S2.toList) = !(S1.toList == S2.toList):=rfl
    have e4:(S3.toList != Z.toList) = !(S3.toList == Z.toList):=rfl
    rw [e1] at e3
    rw [e2] at e4
    simp only [Bool.not_true,Bool.not_false] at e3 e4
    go_enter func23,ntmps23
    go_wp2_with fail
    refine (ch _).mono ?_
    rintro e w1 ⟨rfl,b1⟩
    have B1:Hid (Below _ _ w1):=b1
    clear b1
    go_wp2_with fail
    go_quiet (fail)
    all_goals
     go_wp2_with fail
     try go_quiet (fail)
     go_wp2
     go_ret2
     obtain ⟨x1,x2⟩:=HE.out
     rw [e1,e2] at x1
     have x1:=x1
     simp only [Bool.true_eq_false,if_true,if_false] at x1
     rw [x1] at x2
     simp only [Bool.false_eq_true,if_true,if_false] at x2
     exact ⟨by rw [x1,x2];rfl,by repeat' (with_reducible first|exact B1.out|refine Hole.below_drewN ?_ _)⟩
end Fitz
end Go.Proofs.YtbofcepdckpkkaaGreatDoor
