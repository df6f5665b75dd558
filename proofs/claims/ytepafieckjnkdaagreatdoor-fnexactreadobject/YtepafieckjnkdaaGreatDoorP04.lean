import Derived.Test.YtepafieckjnkdaaGreatDoorP03
import Derived.WalkMore
import Derived.ScopeJumps
import Derived.Laws.Strings3
set_option linter.all false
set_option maxRecDepth 20000
set_option maxHeartbeats 8000000
open Go.ChangeShapes Go.WideShapes Go.ChangeAt Go.RowKit
open Go.Proofs.Tryz
namespace Go.Proofs.YtepafieckjnkdaaGreatDoor
namespace Stepx
open Names (nameB)
open Go.Proofs.YtepafieckjnkdaaGreatDoor.Steps (nodeB stepV stepOf_any)
abbrev Node:=Int × Int × ByteArray
def Nodes (w:World) (a:Option Addr) (L:List Node):Prop :=
 L=[] \/ ∃ b off,a=some ⟨b,off,none⟩/\b<w.heap.size/\∀ i (h:i<L.length),w.cell? ⟨b,off+i*3,none⟩=some (.int .i64 L[i].1)/\w.cell? ⟨b,off+i*3+1,none⟩=some (.int .i64 L[i].2.1)/\w.cell? ⟨b,off+i*3+2,none⟩=some (.string L[i].2.2)/\L[i].2.2.size<=maxLen
def takes (k:Int):Int:=if k<=3 then 0 else if k<=7 then 1 else 2
def run:Int->List Node->Option Int
 | v,[]=>some v
 | v,x :: r=>if nodeB x.1 x.2.1 x.2.2=true/\takes x.1<=v then run (v+(1-takes x.1)) r else none
def exprB (L:List Node):Bool:=decide (L.length<=30) && (run 0 L == some 1)
def StepsRow (w w':World) (b:Bool) (v:Value) (L:List Node):Prop:=b=true->w'.ownsRow w.heap.size 97 1 v L.length (L.map fun x=>stepV x.1 x.2.1 x.2.2)
theorem info:(prog.info? 97).map (fun i=>(i.zero,i.size,i.bytes))=some (some .nilIface,1,16):=by kernel_rfl
theorem m1 (n:Int) (w:World):(method 334 131 (.agg #[.int .i64 n]) "loop.example/g00460/impl.takes").run prog w=.ok (216,.agg #[.int .i64 n]) w:=by kernel_rfl
theorem m2 (s:ByteArray) (w:World):(method 334 133 (.agg #[.string s]) "loop.example/g00460/impl.takes").run prog w=.ok (217,.agg #[.string s]) w:=by kernel_rfl
theorem m3 (s:ByteArray) (w:World):(method 334 134 (.agg #[.string s]) "loop.example/g00460/impl.takes").run prog w=.ok (218,.agg #[.string s]) w:=by kernel_rfl
theorem m4 (n:Int) (w:World):(method 334 136 (.agg #[.int .i64 n]) "loop.example/g00460/impl.takes").run prog w=.ok (219,.agg #[.int .i64 n]) w:=by kernel_rfl
theorem m5 (n:Int) (w:World):(method 334 138 (.agg #[.int .i64 n]) "loop.example/g00460/impl.takes").run prog w=.ok (220,.agg #[.int .i64 n]) w:=by kernel_rfl
theorem new3 (w:World) (o1 o2:Obj) (v:Value) (t:TypeId):∀ j u,[v][j]? = some u->(((w.alloc o1).alloc o2).alloc (.cells #[v] t)).cell? ((⟨w.heap.size+1+1,0,none⟩ : Addr).add j)=some u:=by
 have h:=cell_one_new ((w.alloc o1).alloc o2) v t
 simpa using h
theorem stepsOf_any (a:Option Addr) (cap:Nat) (L:List Node) (w:World) (hN:Nodes w a L) (hlen:L.length<=1048576) :
  Calls prog 63 #[.slice a L.length cap] w fun e w'=>(∃ v,e=.returned (.tuple #[v,.bool (exprB L)])/\StepsRow w w' (exprB L) v L)/\Below w.heap.size w w':=by
 obtain ⟨i0,hi,hz0,hz1,hz2⟩:=info_parts info
 by_cases h30:30<L.length
 ·have hx:exprB L=false:=by unfold exprB;rw [decide_eq_false (by omega)];rfl
  rw [hx]
  clear hN
  go_enter func63,ntmps63
  go_wp2
  go_ret2
  exact ⟨⟨_,rfl,fun h=>by cases h⟩,Below.refl _ _⟩
 have hx:exprB L=(run 0 L == some 1):=by unfold exprB;rw [decide_eq_true (by omega)];rfl
 rw [hx]
 clear hx
 have m1':=m1
 have m2':=m2
 have m3':=m3
 have m4':=m4
 have m5':=m5
 obtain ⟨r,hr⟩ : ∃ r,r=run 0 L:=⟨_,rfl⟩
 rw [<- hr]
 obtain ⟨len,hl⟩ : ∃ len,len=L.length:=⟨_,rfl⟩
 have HL:Hid (len=L.length):=hl
 rw [<- hl] at h30 hlen |-
 clear hl
 go_enter func63,ntmps63
 go_wp2
 go_loopw [4,5,15] (fun st vs i wr=>∃ (k:Nat) (v:Int),k<=len/\i=.int .i64 k/\vs=.int .i64 v/\0<=v/\v<=k/\Hid (r=run v (L.drop k))/\Hid (wr.ownsRow w.heap.size 97 1 st k ((L.take k).map fun x=>stepV x.1 x.2.1 x.2.2))/\Hid (Below w.heap.size w wr))
  (fun _ _ i _=>len-(intOf i).toNat)
 case atStart=>exact ⟨0,0,Nat.zero_le _,rfl,rfl,by decide,by decide,hr,World.ownsRow_nil _ _ _ _,Below.refl _ _⟩
 case round =>
  clear hr
  obtain ⟨k,v,hk,rfl,rfl,hv0,hv1,hrun,hown,hbel⟩:=hrel
  by_cases hlt:k<len
  ·have hkL:k<L.length:=by have:=HL.out;omega
   rcases hN with hnil|⟨b,off,rfl,hb,hc⟩
   ·exfalso;rw [hnil] at hkL;exact absurd hkL (by simp)
   obtain ⟨c0,c1,c2,hsz⟩ : wr.cell? ⟨b,off+k*3,none⟩=some (.int .i64 L[k].1)/\wr.cell? ⟨b,off+k*3+1,none⟩=some (.int .i64 L[k].2.1)/\wr.cell? ⟨b,off+k*3+2,none⟩=some (.string L[k].2.2)/\L[k].2.2.size<=maxLen:=by
    obtain ⟨d0,d1,d2,d3⟩:=hc k hkL
    exact ⟨(hbel.out.cell (p:=⟨b,_,none⟩) hb).trans d0,(hbel.out.cell (p:=⟨b,_,none⟩) hb).trans d1,(hbel.out.cell (p:=⟨b,_,none⟩) hb).trans d2,d3⟩
   have HD:Hid (r=run v (L[k] :: L.drop (k+1))):=by have:=hrun.out;rw [List.drop_eq_getElem_cons hkL] at this;exact this
   have HTk:Hid ((L.take (k+1)).map (fun x=>stepV x.1 x.2.1 x.2.2)=(L.take k).map (fun x=>stepV x.1 x.2.1 x.2.2) ++ [stepV L[k].1 L[k].2.1 L[k].2.2]):=by
    show _=_
    rw [List.take_succ_eq_append_getElem hkL,List.map_append];rfl
   clear hc hrun
   have hbr:b<wr.heap.size:=Nat.lt_of_lt_of_le hb hbel.out.size
   obtain ⟨kd,n,s,hnode⟩ : ∃ kd n s,L[k]=(kd,n,s):=⟨_,_,_,rfl⟩
   rw [hnode] at c0 c1 c2 hsz HD HTk
   simp only at c0 c1 c2 hsz HTk
   clear hnode
   have HD:Hid (r=if nodeB kd n s=true/\takes kd<=v then run (v+(1-takes kd)) (L.drop (k+1)) else none):=HD
   have cs:=fun W=>stepOf_any kd n s W hsz
   cases hn:nodeB kd n s with
   | false =>
    rw [hn] at cs
    have HR:Hid (r=none):=by have:=HD.out;rw [if_neg (by rw [hn];simp)] at this;exact this
    clear HD HTk hn m1' m2' m3' m4' m5'
    go_wp2_with fail
    refine (cs _).mono ?_
    rintro e w1 ⟨rfl,hb1⟩
    go_wp2
    go_ret2
    exact ⟨⟨_,by rw [HR.out];rfl,fun h=>by rw [HR.out] at h;cases h⟩,(hbel.out.alloc hbel.out.size _).trans (hb1.mono (by have:=hbel.out.size;simp;omega))⟩
   | true =>
    rw [hn] at cs
    have hkk:kd=1 \/ kd=2 \/ kd=3 \/ (4<=kd/\kd<=7) \/ (8<=kd/\kd<=17):=by
     unfold nodeB at hn
     by_cases e1:kd=1
     ·exact .inl e1
     rw [if_neg e1] at hn
     by_cases e2:kd=2 \/ kd=3
     ·omega
     rw [if_neg e2] at hn
     by_cases e3:4<=kd/\kd<=17
     ·omega
     rw [if_neg e3] at hn;cases hn
    rcases hkk with rfl|rfl|rfl|⟨k4,k7⟩|⟨k8,k17⟩
    ·have ht:takes 1=0:=rfl
     have sv:stepV 1 n s=.iface 131 (.agg #[.int .i64 n]):=by unfold stepV;rw [if_pos rfl]
     rw [sv] at cs HTk
     have HR:Hid (r=run (v+1) (L.drop (k+1))):=by have:=HD.out;rw [ht,if_pos ⟨hn,hv0⟩] at this;exact this
     clear HD hn ht sv
     go_wp2_with fail
     refine (cs _).mono ?_
     rintro e w1 ⟨rfl,hb1⟩
     have own1:Hid (w1.ownsRow w.heap.size 97 1 u4 k ((L.take k).map fun x=>stepV x.1 x.2.1 x.2.2)):=(hown.out.alloc _).kept (row:=none) ⟨hb1.os,hb1.tape,hb1.output,hb1.size,fun k hk _=>hb1.block k hk⟩ (by cases hv:Value.ownBlock u4 <;> simp)
     have bel1:Hid (Below w.heap.size w w1):=(hbel.out.alloc hbel.out.size _).trans (hb1.mono (by have:=hbel.out.size;simp;omega))
     clear hown hbel hb1
     go_wp2_with (first|(at_builtin;refine wpList_append_own _ rfl (.tmp 37) (.tmp 39) 93 rfl w.heap.size 97 i0 .nilIface 1 16 underlying93 hi hz0 hz1 hz2 rfl (by decide) _ _ _ rfl (((own1.out.alloc _).alloc _).alloc _) ⟨w1.heap.size+1+1,0,none⟩ 1 1 [.iface 131 (.agg #[.int .i64 n])] rfl rfl (new3 _ _ _ _ _) (by intro u hu;simp at hu;subst hu;rfl) (by unfold maxLen;omega) (by omega) (by have:=bel1.out.size;simp;omega) ?_;intro v' w2 hown' hgrow _)|go_in)
     have hlt2:=own1.out.lt
     go_wp2
     go_roundw
     case rel=>exact ⟨k+1,_,by omega,by go_num,rfl,by omega,by omega,HR,by rw [HTk.out];exact hown',(((bel1.out.alloc bel1.out.size _).alloc (by have:=bel1.out.size;simp;omega) _).alloc (by have:=bel1.out.size;simp;omega) _).grown hgrow (by have:=bel1.out.size;simp;omega) (fun j hj=>(hlt2 j hj).1)⟩
     case measure=>simp [intOf];omega
    ·have ht:takes 2=0:=rfl
     have sv:stepV 2 n s=.iface 133 (.agg #[.string s]):=by unfold stepV;rw [if_neg (by decide),if_pos rfl]
     rw [sv] at cs HTk
     have HR:Hid (r=run (v+1) (L.drop (k+1))):=by have:=HD.out;rw [ht,if_pos ⟨hn,hv0⟩] at this;exact this
     clear HD hn ht sv
     go_wp2_with fail
     refine (cs _).mono ?_
     rintro e w1 ⟨rfl,hb1⟩
     have own1:Hid (w1.ownsRow w.heap.size 97 1 u4 k ((L.take k).map fun x=>stepV x.1 x.2.1 x.2.2)):=(hown.out.alloc _).kept (row:=none) ⟨hb1.os,hb1.tape,hb1.output,hb1.size,fun k hk _=>hb1.block k hk⟩ (by cases hv:Value.ownBlock u4 <;> simp)
     have bel1:Hid (Below w.heap.size w w1):=(hbel.out.alloc hbel.out.size _).trans (hb1.mono (by have:=hbel.out.size;simp;omega))
     clear hown hbel hb1
     go_wp2_with (first|(at_builtin;refine wpList_append_own _ rfl (.tmp 37) (.tmp 39) 93 rfl w.heap.size 97 i0 .nilIface 1 16 underlying93 hi hz0 hz1 hz2 rfl (by decide) _ _ _ rfl (((own1.out.alloc _).alloc _).alloc _) ⟨w1.heap.size+1+1,0,none⟩ 1 1 [.iface 133 (.agg #[.string s])] rfl rfl (new3 _ _ _ _ _) (by intro u hu;simp at hu;subst hu;rfl) (by unfold maxLen;omega) (by omega) (by have:=bel1.out.size;simp;omega) ?_;intro v' w2 hown' hgrow _)|go_in)
     have hlt2:=own1.out.lt
     go_wp2
     go_roundw
     case rel=>exact ⟨k+1,_,by omega,by go_num,rfl,by omega,by omega,HR,by rw [HTk.out];exact hown',(((bel1.out.alloc bel1.out.size _).alloc (by have:=bel1.out.size;simp;omega) _).alloc (by have:=bel1.out.size;simp;omega) _).grown hgrow (by have:=bel1.out.size;simp;omega) (fun j hj=>(hlt2 j hj).1)⟩
     case measure=>simp [intOf];omega
    ·have ht:takes 3=0:=rfl
     have sv:stepV 3 n s=.iface 134 (.agg #[.string s]):=by unfold stepV;rw [if_neg (by decide),if_neg (by decide),if_pos rfl]
     rw [sv] at cs HTk
     have HR:Hid (r=run (v+1) (L.drop (k+1))):=by have:=HD.out;rw [ht,if_pos ⟨hn,hv0⟩] at this;exact this
     clear HD hn ht sv
     go_wp2_with fail
     refine (cs _).mono ?_
     rintro e w1 ⟨rfl,hb1⟩
     have own1:Hid (w1.ownsRow w.heap.size 97 1 u4 k ((L.take k).map fun x=>stepV x.1 x.2.1 x.2.2)):=(hown.out.alloc _).kept (row:=none) ⟨hb1.os,hb1.tape,hb1.output,hb1.size,fun k hk _=>hb1.block k hk⟩ (by cases hv:Value.ownBlock u4 <;> simp)
     have bel1:Hid (Below w.heap.size w w1):=(hbel.out.alloc hbel.out.size _).trans (hb1.mono (by have:=hbel.out.size;simp;omega))
     clear hown hbel hb1
     go_wp2_with (first|(at_builtin;refine wpList_append_own _ rfl (.tmp 37) (.tmp 39) 93 rfl w.heap.size 97 i0 .nilIface 1 16 underlying93 hi hz0 hz1 hz2 rfl (by decide) _ _ _ rfl (((own1.out.alloc _).alloc _).alloc _) ⟨w1.heap.size+1+1,0,none⟩ 1 1 [.iface 134 (.agg #[.string s])] rfl rfl (new3 _ _ _ _ _) (by intro u hu;simp at hu;subst hu;rfl) (by unfold maxLen;omega) (by omega) (by have:=bel1.out.size;simp;omega) ?_;intro v' w2 hown' hgrow _)|go_in)
     have hlt2:=own1.out.lt
     go_wp2
     go_roundw
     case rel=>exact ⟨k+1,_,by omega,by go_num,rfl,by omega,by omega,HR,by rw [HTk.out];exact hown',(((bel1.out.alloc bel1.out.size _).alloc (by have:=bel1.out.size;simp;omega) _).alloc (by have:=bel1.out.size;simp;omega) _).grown hgrow (by have:=bel1.out.size;simp;omega) (fun j hj=>(hlt2 j hj).1)⟩
     case measure=>simp [intOf];omega
    ·have ht:takes kd=1:=by unfold takes;rw [if_neg (by omega),if_pos k7]
     have sv:stepV kd n s=.iface 136 (.agg #[.int .i64 kd]):=by unfold stepV;rw [if_neg (by omega),if_neg (by omega),if_neg (by omega),if_pos ⟨k4,k7⟩]
     rw [sv] at cs HTk
     by_cases hov:v<1
     ·have HR:Hid (r=none):=by have:=HD.out;rw [ht,if_neg (by omega)] at this;exact this
      clear HD hn ht sv HTk
      go_wp2_with fail
      refine (cs _).mono ?_
      rintro e w1 ⟨rfl,hb1⟩
      have own1:Hid (w1.ownsRow w.heap.size 97 1 u4 k ((L.take k).map fun x=>stepV x.1 x.2.1 x.2.2)):=(hown.out.alloc _).kept (row:=none) ⟨hb1.os,hb1.tape,hb1.output,hb1.size,fun k hk _=>hb1.block k hk⟩ (by cases hv:Value.ownBlock u4 <;> simp)
      have bel1:Hid (Below w.heap.size w w1):=(hbel.out.alloc hbel.out.size _).trans (hb1.mono (by have:=hbel.out.size;simp;omega))
      clear hown hbel hb1
      go_wp2
      go_ret2
      exact ⟨⟨_,by rw [HR.out];rfl,fun h=>by rw [HR.out] at h;cases h⟩,bel1.out.alloc bel1.out.size _⟩
     ·have HR:Hid (r=run (v+(1-1)) (L.drop (k+1))):=by have:=HD.out;rw [ht,if_pos ⟨hn,by omega⟩] at this;exact this
      have HR:Hid (r=run v (L.drop (k+1))):=by have:=HR.out;rw [show v+(1-1)=v by omega] at this;exact this
      clear HD hn ht sv
      go_wp2_with fail
      refine (cs _).mono ?_
      rintro e w1 ⟨rfl,hb1⟩
      have own1:Hid (w1.ownsRow w.heap.size 97 1 u4 k ((L.take k).map fun x=>stepV x.1 x.2.1 x.2.2)):=(hown.out.alloc _).kept (row:=none) ⟨hb1.os,hb1.tape,hb1.output,hb1.size,fun k hk _=>hb1.block k hk⟩ (by cases hv:Value.ownBlock u4 <;> simp)
      have bel1:Hid (Below w.heap.size w w1):=(hbel.out.alloc hbel.out.size _).trans (hb1.mono (by have:=hbel.out.size;simp;omega))
      clear hown hbel hb1
      go_wp2_with (first|(at_builtin;refine wpList_append_own _ rfl (.tmp 37) (.tmp 39) 93 rfl w.heap.size 97 i0 .nilIface 1 16 underlying93 hi hz0 hz1 hz2 rfl (by decide) _ _ _ rfl (((own1.out.alloc _).alloc _).alloc _) ⟨w1.heap.size+1+1,0,none⟩ 1 1 [.iface 136 (.agg #[.int .i64 kd])] rfl rfl (new3 _ _ _ _ _) (by intro u hu;simp at hu;subst hu;rfl) (by unfold maxLen;omega) (by omega) (by have:=bel1.out.size;simp;omega) ?_;intro v' w2 hown' hgrow _)|go_in)
      have hlt2:=own1.out.lt
      go_wp2
      go_roundw
      case rel=>exact ⟨k+1,_,by omega,by go_num,rfl,by omega,by omega,HR,by rw [HTk.out];exact hown',(((bel1.out.alloc bel1.out.size _).alloc (by have:=bel1.out.size;simp;omega) _).alloc (by have:=bel1.out.size;simp;omega) _).grown hgrow (by have:=bel1.out.size;simp;omega) (fun j hj=>(hlt2 j hj).1)⟩
      case measure=>simp [intOf];omega
    ·have ht:takes kd=2:=by unfold takes;rw [if_neg (by omega),if_neg (by omega)]
     have sv:stepV kd n s=.iface 138 (.agg #[.int .i64 kd]):=by unfold stepV;rw [if_neg (by omega),if_neg (by omega),if_neg (by omega),if_neg (by omega),if_pos ⟨k8,k17⟩]
     rw [sv] at cs HTk
     by_cases hov:v<2
     ·have HR:Hid (r=none):=by have:=HD.out;rw [ht,if_neg (by omega)] at this;exact this
      clear HD hn ht sv HTk
      go_wp2_with fail
      refine (cs _).mono ?_
      rintro e w1 ⟨rfl,hb1⟩
      have own1:Hid (w1.ownsRow w.heap.size 97 1 u4 k ((L.take k).map fun x=>stepV x.1 x.2.1 x.2.2)):=(hown.out.alloc _).kept (row:=none) ⟨hb1.os,hb1.tape,hb1.output,hb1.size,fun k hk _=>hb1.block k hk⟩ (by cases hv:Value.ownBlock u4 <;> simp)
      have bel1:Hid (Below w.heap.size w w1):=(hbel.out.alloc hbel.out.size _).trans (hb1.mono (by have:=hbel.out.size;simp;omega))
      clear hown hbel hb1
      go_wp2
      go_ret2
      exact ⟨⟨_,by rw [HR.out];rfl,fun h=>by rw [HR.out] at h;cases h⟩,bel1.out.alloc bel1.out.size _⟩
     ·have HR:Hid (r=run (v+(1-2)) (L.drop (k+1))):=by have:=HD.out;rw [ht,if_pos ⟨hn,by omega⟩] at this;exact this
      have HR:Hid (r=run (v+-1) (L.drop (k+1))):=by have:=HR.out;rw [show v+(1-2)=v+-1 by omega] at this;exact this
      clear HD hn ht sv
      go_wp2_with fail
      refine (cs _).mono ?_
      rintro e w1 ⟨rfl,hb1⟩
      have own1:Hid (w1.ownsRow w.heap.size 97 1 u4 k ((L.take k).map fun x=>stepV x.1 x.2.1 x.2.2)):=(hown.out.alloc _).kept (row:=none) ⟨hb1.os,hb1.tape,hb1.output,hb1.size,fun k hk _=>hb1.block k hk⟩ (by cases hv:Value.ownBlock u4 <;> simp)
      have bel1:Hid (Below w.heap.size w w1):=(hbel.out.alloc hbel.out.size _).trans (hb1.mono (by have:=hbel.out.size;simp;omega))
      clear hown hbel hb1
      go_wp2_with (first|(at_builtin;refine wpList_append_own _ rfl (.tmp 37) (.tmp 39) 93 rfl w.heap.size 97 i0 .nilIface 1 16 underlying93 hi hz0 hz1 hz2 rfl (by decide) _ _ _ rfl (((own1.out.alloc _).alloc _).alloc _) ⟨w1.heap.size+1+1,0,none⟩ 1 1 [.iface 138 (.agg #[.int .i64 kd])] rfl rfl (new3 _ _ _ _ _) (by intro u hu;simp at hu;subst hu;rfl) (by unfold maxLen;omega) (by omega) (by have:=bel1.out.size;simp;omega) ?_;intro v' w2 hown' hgrow _)|go_in)
      have hlt2:=own1.out.lt
      go_wp2
      go_roundw
      case rel=>exact ⟨k+1,_,by omega,by go_num,rfl,by omega,by omega,HR,by rw [HTk.out];exact hown',(((bel1.out.alloc bel1.out.size _).alloc (by have:=bel1.out.size;simp;omega) _).alloc (by have:=bel1.out.size;simp;omega) _).grown hgrow (by have:=bel1.out.size;simp;omega) (fun j hj=>(hlt2 j hj).1)⟩
      case measure=>simp [intOf];omega
  ·have HR:Hid (r=some v):=by
    have:=hrun.out
    rw [List.drop_eq_nil_of_le (by have:=HL.out;omega)] at this
    exact this
   have HTL:Hid ((L.take len).map (fun x=>stepV x.1 x.2.1 x.2.2)=L.map fun x=>stepV x.1 x.2.1 x.2.2):=by show _=_;rw [HL.out,List.take_length]
   clear hrun hN
   go_wp2
   go_ret2
   exact ⟨⟨_,by rw [HR.out];rfl,fun _=>by have e:k=len:=(by omega);rw [e] at hown;rw [<- HTL.out,<- HL.out];exact hown.out⟩,hbel.out⟩
end Stepx
namespace Specx
open Names (nameB)
open Go.Proofs.YtepafieckjnkdaaGreatDoor.Steps (nodeB inB)
open Go.Proofs.YtepafieckjnkdaaGreatDoor.Stepx (Nodes takes run exprB)
theorem l1In_any (n low high:Int) (w:World) :
  Calls prog 38 #[.int .i64 n,.int .i64 low,.int .i64 high] w fun e w'=>e=.returned (.bool (inB n low high))/\w'=w:=by
 go_enter func38,ntmps38
 go_wp2
 all_goals go_ret
 all_goals exact ⟨Names.ret_bool (by rw [Bool.eq_iff_iff];simp [inB];try omega),rfl⟩
def takesS (k:Int):Int:=if 1<=k/\k<=3 then 0 else if 4<=k/\k<=7 then 1 else if 8<=k/\k<=17 then 2 else -1
theorem l2Takes_any (k:Int) (w:World) :
  Calls prog 84 #[.int .i64 k] w fun e w'=>e=.returned (.int .i64 (takesS k))/\w'=w:=by
 have hk:(1<=k/\k<=3) \/ (4<=k/\k<=7) \/ (8<=k/\k<=17) \/ (k<1 \/ 17<k):=by omega
 rcases hk with h|h|h|h
 ·have e1:inB k 1 3=true:=by simp [inB];omega
  have ht:Hid (takesS k=0):=by
   show takesS k=_
   unfold takesS
   repeat (first|rw [if_pos (by omega)]|rw [if_neg (by omega)])
  clear h
  go_enter func84,ntmps84
  go_wp2_with (go_at_call 38;refine (l1In_any _ _ _ _).mono ?_;rintro e w' ⟨rfl,rfl⟩)
  go_ret
  exact ⟨by rw [ht.out];rfl,rfl⟩
 ·have e1:inB k 1 3=false:=by simp [inB];omega
  have e2:inB k 4 7=true:=by simp [inB];omega
  have ht:Hid (takesS k=1):=by
   show takesS k=_
   unfold takesS
   repeat (first|rw [if_pos (by omega)]|rw [if_neg (by omega)])
  clear h
  go_enter func84,ntmps84
  go_wp2_with (go_at_call 38;refine (l1In_any _ _ _ _).mono ?_;rintro e w' ⟨rfl,rfl⟩)
  go_ret
  exact ⟨by rw [ht.out];rfl,rfl⟩
 ·have e1:inB k 1 3=false:=by simp [inB];omega
  have e2:inB k 4 7=false:=by simp [inB];omega
  have e3:inB k 8 17=true:=by simp [inB];omega
  have ht:Hid (takesS k=2):=by
   show takesS k=_
   unfold takesS
   repeat (first|rw [if_pos (by omega)]|rw [if_neg (by omega)])
  clear h
  go_enter func84,ntmps84
  go_wp2_with (go_at_call 38;refine (l1In_any _ _ _ _).mono ?_;rintro e w' ⟨rfl,rfl⟩)
  go_ret
  exact ⟨by rw [ht.out];rfl,rfl⟩
 ·have e1:inB k 1 3=false:=by simp [inB];omega
  have e2:inB k 4 7=false:=by simp [inB];omega
  have e3:inB k 8 17=false:=by simp [inB];omega
  have ht:Hid (takesS k = -1):=by
   show takesS k=_
   unfold takesS
   repeat (first|rw [if_pos (by omega)]|rw [if_neg (by omega)])
  clear h
  go_enter func84,ntmps84
  go_wp2_with (go_at_call 38;refine (l1In_any _ _ _ _).mono ?_;rintro e w' ⟨rfl,rfl⟩)
  go_ret
  exact ⟨by rw [ht.out];rfl,rfl⟩
theorem l2Node_any (k n:Int) (s:ByteArray) (w:World) (hs:s.size<=maxLen) :
  Calls prog 83 #[.agg #[.int .i64 k,.int .i64 n,.string s]] w fun e w'=>e=.returned (.bool (nodeB k n s))/\Below w.heap.size w w':=by
 have cN:=fun W=>Names.specName_any s W hs
 have cT:=fun W=>l2Takes_any k W
 clear hs
 have END:∀ o:Obj,Below w.heap.size w (w.alloc o):=fun o=>zAl _ _
 by_cases h1:k=1
 ·subst h1
  have hn:nodeB 1 n s=(inB n 0 65535 && s.toList.isEmpty):=by unfold nodeB;rw [if_pos rfl]
  rw [hn]
  clear hn
  cases hb:inB n 0 65535
  all_goals
   go_enter func83,ntmps83
   go_wp2_with (first|(go_at_call 38;refine (l1In_any _ _ _ _).mono ?_;rintro e w' ⟨rfl,rfl⟩)|(go_at_call 37;refine (cN _).mono ?_;rintro e w' ⟨rfl,rfl⟩)|(go_at_call 84;refine (cT _).mono ?_;rintro e w' ⟨rfl,rfl⟩))
   go_ret
   exact ⟨rfl,END _⟩
 have e1:(k == 1)=false:=by simpa using h1
 by_cases h2:k=2 \/ k=3
 ·have hn:nodeB k n s=((n == 0) && nameB s):=by unfold nodeB;rw [if_neg h1,if_pos h2]
  rw [hn]
  clear hn
  have hz:(n == 0)=true \/ (n == 0)=false:=by cases n == 0 <;> simp
  rcases h2 with rfl|rfl
  all_goals
   rcases hz with hz|hz
   all_goals
    rw [hz]
    go_enter func83,ntmps83
    go_wp2_with (first|(go_at_call 38;refine (l1In_any _ _ _ _).mono ?_;rintro e w' ⟨rfl,rfl⟩)|(go_at_call 37;refine (cN _).mono ?_;rintro e w' ⟨rfl,rfl⟩)|(go_at_call 84;refine (cT _).mono ?_;rintro e w' ⟨rfl,rfl⟩))
    go_ret
    exact ⟨rfl,END _⟩
 have e2:(k == 2)=false:=by simp;omega
 have e3:(k == 3)=false:=by simp;omega
 have hz:(n == 0)=true \/ (n == 0)=false:=by cases n == 0 <;> simp
 have he:s.toList.isEmpty=true \/ s.toList.isEmpty=false:=by cases s.toList.isEmpty <;> simp
 by_cases h4:4<=k/\k<=17
 ·have hn:nodeB k n s=((n == 0) && s.toList.isEmpty):=by unfold nodeB;rw [if_neg h1,if_neg h2,if_pos h4]
  have ht:0<takesS k:=by
   unfold takesS
   rw [if_neg (by omega)]
   by_cases h7:4<=k/\k<=7
   ·rw [if_pos h7];decide
   ·rw [if_neg h7,if_pos (by omega)];decide
  have hd:decide (0<takesS k)=true:=decide_eq_true ht
  rw [hn]
  clear hn h4
  generalize takesS k=tk at cT ht hd
  rcases hz with hz|hz
  all_goals
   rcases he with he|he
   all_goals
    rw [hz,he]
    go_enter func83,ntmps83
    go_wp2_with (first|(go_at_call 38;refine (l1In_any _ _ _ _).mono ?_;rintro e w' ⟨rfl,rfl⟩)|(go_at_call 37;refine (cN _).mono ?_;rintro e w' ⟨rfl,rfl⟩)|(go_at_call 84;refine (cT _).mono ?_;rintro e w' ⟨rfl,rfl⟩))
    go_ret
    exact ⟨rfl,END _⟩
 ·have hn:nodeB k n s=false:=by unfold nodeB;rw [if_neg h1,if_neg h2,if_neg h4]
  have ht:takesS k = -1:=by unfold takesS;rw [if_neg (by omega),if_neg (by omega),if_neg (by omega)]
  rw [hn]
  rw [ht] at cT
  clear hn h4 ht
  rcases hz with hz|hz
  all_goals
   rcases he with he|he
   all_goals
    go_enter func83,ntmps83
    go_wp2_with (first|(go_at_call 38;refine (l1In_any _ _ _ _).mono ?_;rintro e w' ⟨rfl,rfl⟩)|(go_at_call 37;refine (cN _).mono ?_;rintro e w' ⟨rfl,rfl⟩)|(go_at_call 84;refine (cT _).mono ?_;rintro e w' ⟨rfl,rfl⟩))
    go_ret
    exact ⟨rfl,END _⟩
theorem takes_eq {k n:Int} {s:ByteArray} (h:nodeB k n s=true):takesS k=takes k/\0<=takes k/\takes k<=2:=by
 unfold nodeB at h
 unfold takesS takes
 by_cases e1:k=1
 ·subst e1;decide
 rw [if_neg e1] at h
 by_cases e2:k=2 \/ k=3
 ·rcases e2 with rfl|rfl <;> decide
 rw [if_neg e2] at h
 by_cases e3:4<=k/\k<=17
 ·rw [if_neg (by omega),if_neg (show ¬ k<=3 by omega)]
  by_cases e4:k<=7
  ·rw [if_pos (by omega),if_pos e4];decide
  ·rw [if_neg (by omega),if_pos (by omega),if_neg e4];decide
 rw [if_neg e3] at h;cases h
theorem exprOk_any (a:Option Addr) (cap:Nat) (L:List Stepx.Node) (w:World) (hN:Nodes w a L) (hlen:L.length<=1048576) :
  Calls prog 39 #[.slice a L.length cap] w fun e w'=>e=.returned (.bool (exprB L))/\Below w.heap.size w w':=by
 obtain ⟨r,hr⟩ : ∃ r,r=run 0 L:=⟨_,rfl⟩
 have hx:exprB L=(decide (L.length<=30) && (r == some 1)):=by unfold exprB;rw [hr]
 rw [hx]
 clear hx
 obtain ⟨len,hl⟩ : ∃ len,len=L.length:=⟨_,rfl⟩
 have HL:Hid (len=L.length):=hl
 rw [<- hl] at hlen |-
 clear hl
 go_enter func39,ntmps39
 go_wp2
 go_loopw [3,4] (fun vs i wr=>∃ (k:Nat) (v:Int),k<=len/\i=.int .i64 k/\vs=.int .i64 v/\0<=v/\v<=k/\Hid (r=run v (L.drop k))/\Hid (Below w.heap.size w wr)) (fun _ i _=>len-(intOf i).toNat)
 case atStart=>exact ⟨0,0,Nat.zero_le _,rfl,rfl,by decide,by decide,hr,Below.refl _ _⟩
 case round =>
  clear hr
  obtain ⟨k,v,hk,rfl,rfl,hv0,hv1,hrun,hbel⟩:=hrel
  by_cases hlt:k<len
  ·have hkL:k<L.length:=by have:=HL.out;omega
   rcases hN with hnil|⟨b,off,rfl,hb,hc⟩
   ·exfalso;rw [hnil] at hkL;exact absurd hkL (by simp)
   obtain ⟨c0,c1,c2,hsz⟩ : wr.cell? ⟨b,off+k*3,none⟩=some (.int .i64 L[k].1)/\wr.cell? ⟨b,off+k*3+1,none⟩=some (.int .i64 L[k].2.1)/\wr.cell? ⟨b,off+k*3+2,none⟩=some (.string L[k].2.2)/\L[k].2.2.size<=maxLen:=by
    obtain ⟨d0,d1,d2,d3⟩:=hc k hkL
    exact ⟨(hbel.out.cell (p:=⟨b,_,none⟩) hb).trans d0,(hbel.out.cell (p:=⟨b,_,none⟩) hb).trans d1,(hbel.out.cell (p:=⟨b,_,none⟩) hb).trans d2,d3⟩
   have HD:Hid (r=run v (L[k] :: L.drop (k+1))):=by have:=hrun.out;rw [List.drop_eq_getElem_cons hkL] at this;exact this
   clear hc hrun
   have hbr:b<wr.heap.size:=Nat.lt_of_lt_of_le hb hbel.out.size
   obtain ⟨kd,n,s,hnode⟩ : ∃ kd n s,L[k]=(kd,n,s):=⟨_,_,_,rfl⟩
   rw [hnode] at c0 c1 c2 hsz HD
   simp only at c0 c1 c2 hsz
   clear hnode
   have HD:Hid (r=if nodeB kd n s=true/\takes kd<=v then run (v+(1-takes kd)) (L.drop (k+1)) else none):=HD
   have cs:=fun W=>l2Node_any kd n s W hsz
   have ct:=fun W=>l2Takes_any kd W
   cases hn:nodeB kd n s with
   | false =>
    rw [hn] at cs
    have HR:Hid (r=none):=by have:=HD.out;rw [if_neg (by rw [hn];simp)] at this;exact this
    clear HD hn
    go_wp2_with fail
    refine (cs _).mono ?_
    rintro e w1 ⟨rfl,hb1⟩
    go_wp2
    go_ret
    exact ⟨by rw [HR.out];simp,hbel.out.trans (hb1.mono hbel.out.size)⟩
   | true =>
    rw [hn] at cs
    obtain ⟨te,t0,t2⟩:=takes_eq hn
    rw [te] at ct
    have HD:Hid (r=if takes kd<=v then run (v+(1-takes kd)) (L.drop (k+1)) else none):=by
     have:=HD.out
     by_cases h:takes kd<=v
     ·rw [if_pos ⟨hn,h⟩] at this;show r=_;rw [if_pos h];exact this
     ·rw [if_neg (fun x=>h x.2)] at this;show r=_;rw [if_neg h];exact this
    clear hn te
    generalize takes kd=tk at ct HD t0 t2
    by_cases hov:v<tk
    ·have HR:Hid (r=none):=by have:=HD.out;rw [if_neg (by omega)] at this;exact this
     clear HD
     go_wp2_with fail
     refine (cs _).mono ?_
     rintro e w1 ⟨rfl,hb1⟩
     obtain ⟨c0',hz⟩ : w1.cell? ⟨b,off+k*3,none⟩=some (.int .i64 kd)/\b<w1.heap.size:=⟨(hb1.cell (p:=⟨b,_,none⟩) hbr).trans c0,Nat.lt_of_lt_of_le hbr hb1.size⟩
     have bel1:Hid (Below w.heap.size w w1):=hbel.out.trans (hb1.mono hbel.out.size)
     clear hb1 hbel
     go_wp2_with (go_at_call 84;refine (ct _).mono ?_;rintro e w' ⟨rfl,rfl⟩)
     go_ret
     exact ⟨by rw [HR.out];simp,bel1.out⟩
    ·have HR:Hid (r=run (v-tk+1) (L.drop (k+1))):=by have:=HD.out;rw [if_pos (by omega),show v+(1-tk)=v-tk+1 by omega] at this;exact this
     clear HD
     go_wp2_with fail
     refine (cs _).mono ?_
     rintro e w1 ⟨rfl,hb1⟩
     obtain ⟨c0',hz⟩ : w1.cell? ⟨b,off+k*3,none⟩=some (.int .i64 kd)/\b<w1.heap.size:=⟨(hb1.cell (p:=⟨b,_,none⟩) hbr).trans c0,Nat.lt_of_lt_of_le hbr hb1.size⟩
     have bel1:Hid (Below w.heap.size w w1):=hbel.out.trans (hb1.mono hbel.out.size)
     clear hb1 hbel
     go_wp2_with (go_at_call 84;refine (ct _).mono ?_;rintro e w' ⟨rfl,rfl⟩)
     go_roundw
     case rel=>exact ⟨k+1,_,by omega,by go_num,rfl,by omega,by omega,HR,bel1.out⟩
     case measure=>simp [intOf];omega
  ·have HR:Hid (r=some v):=by
    have:=hrun.out
    rw [List.drop_eq_nil_of_le (by have:=HL.out;omega)] at this
    exact this
   clear hrun hN
   by_cases h30:len<=30
   ·have d30:decide (len<=30)=true:=decide_eq_true h30
    go_wp2
    go_ret
    exact ⟨by rw [HR.out];first|rfl|(rw [d30];rfl),hbel.out⟩
   ·have d30:decide (len<=30)=false:=decide_eq_false h30
    go_wp2
    go_ret
    exact ⟨by first|rfl|(rw [d30];rfl),hbel.out⟩
end Specx
namespace Cuts
open Go.Deep
open Txts (Texts)
open Fill (numAt numAt_of)
open Names (ret_bool empty_yes empty_no)
def cutI (s:ByteArray) (c:Int) (k:Nat):Nat:=if k<s.size then (if (numAt s k:Int)=c then k else cutI s c (k+1)) else s.size
termination_by s.size-k
decreasing_by omega
theorem cutI_end {s:ByteArray} {c:Int} {k:Nat} (h:¬ k<s.size):cutI s c k=s.size:=by rw [cutI,if_neg h]
theorem cutI_here {s:ByteArray} {c:Int} {k:Nat} (h:k<s.size) (hc:(s[k].toNat:Int)=c):cutI s c k=k:=by rw [cutI,if_pos h,if_pos (by rw [numAt_of h];exact hc)]
theorem cutI_next {s:ByteArray} {c:Int} {k:Nat} (h:k<s.size) (hc:¬ (s[k].toNat:Int)=c):cutI s c k=cutI s c (k+1):=by rw [cutI,if_pos h,if_neg (by rw [numAt_of h];exact hc)]
theorem cutI_le (s:ByteArray) (c:Int) (k:Nat):cutI s c k<=s.size:=by
 induction hn:s.size-k using Nat.strongRecOn generalizing k with
 | _ n ih =>
  rw [cutI]
  split
  ·split
   ·omega
   ·exact ih _ (by omega) _ rfl
  ·exact Nat.le_refl _
def cutF (s:ByteArray) (c:Int):Bool:=decide (cutI s c 0<s.size)
def cutA (s:ByteArray) (c:Int):ByteArray:=if cutF s c=true then s.extract 0 (cutI s c 0) else s
def cutB (s:ByteArray) (c:Int):ByteArray:=if cutF s c=true then s.extract (cutI s c 0+1) s.size else ⟨#[]⟩
theorem cutA_le (s:ByteArray) (c:Int):(cutA s c).size<=s.size:=by
 unfold cutA;split
 ·rw [ByteArray.size_extract];omega
 ·exact Nat.le_refl _
theorem cutB_lt {s:ByteArray} {c:Int} (h:cutF s c=true):(cutB s c).size<s.size:=by
 have:=of_decide_eq_true (show decide _=true from h)
 unfold cutB;rw [if_pos h,ByteArray.size_extract];omega
theorem cut_tuple {s:ByteArray} {c:Int} {k:Nat} (hlt:k<s.size) (h:cutI s c 0=k):(Value.tuple #[.string (s.extract 0 k),.string (s.extract (k+1) s.size),.bool true])=.tuple #[.string (cutA s c),.string (cutB s c),.bool (cutF s c)]:=by
 have hf:cutF s c=true:=decide_eq_true (by omega)
 unfold cutA cutB;rw [hf,if_pos rfl,if_pos rfl,h]
theorem cut_none {s:ByteArray} {c:Int} (h:cutI s c 0=s.size):(Value.tuple #[.string s,.string ⟨#[]⟩,.bool false])=.tuple #[.string (cutA s c),.string (cutB s c),.bool (cutF s c)]:=by
 have hf:cutF s c=false:=decide_eq_false (by omega)
 unfold cutA cutB;rw [hf];rfl
theorem slice_to (s:ByteArray) (k:Nat) (h:k<s.size) (w:World):(Instr.slice 9 (.string s) none (some (.int .i64 (k:Int))) none).run prog w=.ok (.string (s.extract 0 k)) w:=by
 have:=run_slice_string_h (P:=prog) (w:=w) (t:=9) (s:=s) underlying9 .i64 (k:Int) (by omega) (by omega)
 rw [Int.toNat_natCast] at this
 exact this
theorem slice_from (s:ByteArray) (k:Nat) (h:k<s.size) (w:World):(Instr.slice 9 (.string s) (some (.int .i64 ((k:Int)+1))) none none).run prog w=.ok (.string (s.extract (k+1) s.size)) w:=by
 have:=run_slice_string_l (P:=prog) (w:=w) (t:=9) (s:=s) underlying9 .i64 ((k:Int)+1) (by omega) (by omega)
 rw [show ((k:Int)+1).toNat=k+1 by omega] at this
 exact this
theorem ret3 {v u:Value} (h:v=u):Ending.returned v=.returned u:=by rw [h]
theorem l1Cut_any (s:ByteArray) (c:Int) (w:World) (hs:s.size<=1048576) :
  Calls prog 47 #[.string s,.int .u8 c] w fun e w'=>e=.returned (.tuple #[.string (cutA s c),.string (cutB s c),.bool (cutF s c)])/\∃ n,w'=w.drewN n:=by
 go_enter func47,ntmps47
 go_wp2
 go_loop [7] (fun i=>∃ (k:Nat),k<=s.size/\i=.int .i64 k/\Hid (cutI s c 0=cutI s c k)) (fun i=>s.size-(intOf i).toNat)
 case atStart=>exact ⟨0,Nat.zero_le _,rfl,rfl⟩
 case round =>
  obtain ⟨k,hk,rfl,hr⟩:=hrel
  by_cases hlt:k<s.size
  ·by_cases hc:(s[k].toNat:Int)=c
   ·have HT:=(show Hid _ from cut_tuple hlt (hr.out.trans (cutI_here hlt hc)))
    have s1:=slice_to s k hlt
    have s2:=slice_from s k hlt
    have k0:(0:Int)<=(k:Int):=by omega
    have k1:(k:Int)<=(s.size:Int):=by omega
    have k2:(0:Int)<=(k:Int)+1:=by omega
    have k3:(k:Int)+1<=(s.size:Int):=by omega
    have k4:IntKind.i64.wrap ((k:Int)+1)=(k:Int)+1:=by rw [IntKind.wrap_i64];omega
    have k5:((k:Int)+1).toNat=k+1:=by omega
    clear hr
    subst hc
    go_wp2_with fail
    go_quiet (fail)
    go_wp2
    go_ret3
    exact ⟨ret3 HT.out,_,rfl⟩
   ·have HR:Hid (cutI s c 0=cutI s c (k+1)):=hr.out.trans (cutI_next hlt hc)
    clear hr
    go_wp2
    go_round
    case rel=>exact ⟨k+1,by omega,by go_num,HR.out⟩
    case measure=>simp [intOf];omega
  ·have HT:=(show Hid _ from cut_none (hr.out.trans (cutI_end hlt)))
   clear hr
   go_wp2
   go_ret3
   exact ⟨ret3 HT.out,0,rfl⟩
end Cuts
end Go.Proofs.YtepafieckjnkdaaGreatDoor
