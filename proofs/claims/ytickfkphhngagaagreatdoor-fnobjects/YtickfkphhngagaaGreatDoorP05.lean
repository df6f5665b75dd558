import Derived.Test.YtickfkphhngagaaGreatDoorP04
import Derived.Lib.ItoaLen
import Derived.Lib.AppendIntMem
set_option linter.all false
set_option maxRecDepth 20000
set_option maxHeartbeats 8000000
open Go.ChangeShapes Go.WideShapes Go.ChangeAt Go.RowKit
open Go.Proofs.Tryz
namespace Go.Proofs.YtickfkphhngagaaGreatDoor
namespace Stepx
open Names (nameB)
open Go.Proofs.YtickfkphhngagaaGreatDoor.Steps (nodeB stepV stepOf_any)
abbrev Node:=Int × Int × ByteArray
def Nodes (w:World) (a:Option Addr) (L:List Node):Prop :=
 L=[] \/ ∃ b off,a=some ⟨b,off,none⟩/\b<w.heap.size/\∀ i (h:i<L.length),w.cell? ⟨b,off+i*3,none⟩=some (.int .i64 L[i].1)/\w.cell? ⟨b,off+i*3+1,none⟩=some (.int .i64 L[i].2.1)/\w.cell? ⟨b,off+i*3+2,none⟩=some (.string L[i].2.2)/\L[i].2.2.size<=maxLen
def takes (k:Int):Int:=if k<=3 then 0 else if k<=7 then 1 else 2
def run:Int->List Node->Option Int
 | v,[]=>some v
 | v,x :: r=>if nodeB x.1 x.2.1 x.2.2=true/\takes x.1<=v then run (v+(1-takes x.1)) r else none
def exprB (L:List Node):Bool:=decide (L.length<=30) && (run 0 L == some 1)
def StepsRow (w w':World) (b:Bool) (v:Value) (L:List Node):Prop:=b=true->w'.ownsRow w.heap.size 109 1 v L.length (L.map fun x=>stepV x.1 x.2.1 x.2.2)
theorem info:(prog.info? 109).map (fun i=>(i.zero,i.size,i.bytes))=some (some .nilIface,1,16):=by kernel_rfl
theorem m1 (n:Int) (w:World):(method 334 141 (.agg #[.int .i64 n]) "loop.example/g00460/impl.takes").run prog w=.ok (216,.agg #[.int .i64 n]) w:=by kernel_rfl
theorem m2 (s:ByteArray) (w:World):(method 334 143 (.agg #[.string s]) "loop.example/g00460/impl.takes").run prog w=.ok (217,.agg #[.string s]) w:=by kernel_rfl
theorem m3 (s:ByteArray) (w:World):(method 334 144 (.agg #[.string s]) "loop.example/g00460/impl.takes").run prog w=.ok (218,.agg #[.string s]) w:=by kernel_rfl
theorem m4 (n:Int) (w:World):(method 334 146 (.agg #[.int .i64 n]) "loop.example/g00460/impl.takes").run prog w=.ok (219,.agg #[.int .i64 n]) w:=by kernel_rfl
theorem m5 (n:Int) (w:World):(method 334 148 (.agg #[.int .i64 n]) "loop.example/g00460/impl.takes").run prog w=.ok (220,.agg #[.int .i64 n]) w:=by kernel_rfl
theorem new3 (w:World) (o1 o2:Obj) (v:Value) (t:TypeId):∀ j u,[v][j]? = some u->(((w.alloc o1).alloc o2).alloc (.cells #[v] t)).cell? ((⟨w.heap.size+1+1,0,none⟩ : Addr).add j)=some u:=by
 have h:=cell_one_new ((w.alloc o1).alloc o2) v t
 simpa using h
theorem stepsOf_any (a:Option Addr) (cap:Nat) (L:List Node) (w:World) (hN:Nodes w a L) (hlen:L.length<=1048576) :
  Calls prog 80 #[.slice a L.length cap] w fun e w'=>(∃ v,e=.returned (.tuple #[v,.bool (exprB L)])/\StepsRow w w' (exprB L) v L)/\Below w.heap.size w w':=by
 obtain ⟨i0,hi,hz0,hz1,hz2⟩:=info_parts info
 by_cases h30:30<L.length
 ·have hx:exprB L=false:=by unfold exprB;rw [decide_eq_false (by omega)];rfl
  rw [hx]
  clear hN
  go_enter func80,ntmps80
  go_wp2
  go_ret2
  exact ⟨⟨_,rfl,fun h=>by cases h⟩,Below.refl _ _⟩
 have hx:exprB L=(run 0 L == some 1):=by unfold exprB;rw [decide_eq_true (by omega)];rfl
 rw [hx]
 clear hx
 have m1':=m1
 have m2':=m2
 have m3':=m3
 have m4':=m4
 have m5':=m5
 obtain ⟨r,hr⟩ : ∃ r,r=run 0 L:=⟨_,rfl⟩
 rw [<- hr]
 obtain ⟨len,hl⟩ : ∃ len,len=L.length:=⟨_,rfl⟩
 have HL:Hid (len=L.length):=hl
 rw [<- hl] at h30 hlen |-
 clear hl
 go_enter func80,ntmps80
 go_wp2
 go_loopw [4,5,15] (fun st vs i wr=>∃ (k:Nat) (v:Int),k<=len/\i=.int .i64 k/\vs=.int .i64 v/\0<=v/\v<=k/\Hid (r=run v (L.drop k))/\Hid (wr.ownsRow w.heap.size 109 1 st k ((L.take k).map fun x=>stepV x.1 x.2.1 x.2.2))/\Hid (Below w.heap.size w wr))
  (fun _ _ i _=>len-(intOf i).toNat)
 case atStart=>exact ⟨0,0,Nat.zero_le _,rfl,rfl,by decide,by decide,hr,World.ownsRow_nil _ _ _ _,Below.refl _ _⟩
 case round =>
  clear hr
  obtain ⟨k,v,hk,rfl,rfl,hv0,hv1,hrun,hown,hbel⟩:=hrel
  by_cases hlt:k<len
  ·have hkL:k<L.length:=by have:=HL.out;omega
   rcases hN with hnil|⟨b,off,rfl,hb,hc⟩
   ·exfalso;rw [hnil] at hkL;exact absurd hkL (by simp)
   obtain ⟨c0,c1,c2,hsz⟩ : wr.cell? ⟨b,off+k*3,none⟩=some (.int .i64 L[k].1)/\wr.cell? ⟨b,off+k*3+1,none⟩=some (.int .i64 L[k].2.1)/\wr.cell? ⟨b,off+k*3+2,none⟩=some (.string L[k].2.2)/\L[k].2.2.size<=maxLen:=by
    obtain ⟨d0,d1,d2,d3⟩:=hc k hkL
    exact ⟨(hbel.out.cell (p:=⟨b,_,none⟩) hb).trans d0,(hbel.out.cell (p:=⟨b,_,none⟩) hb).trans d1,(hbel.out.cell (p:=⟨b,_,none⟩) hb).trans d2,d3⟩
   have HD:Hid (r=run v (L[k] :: L.drop (k+1))):=by have:=hrun.out;rw [List.drop_eq_getElem_cons hkL] at this;exact this
   have HTk:Hid ((L.take (k+1)).map (fun x=>stepV x.1 x.2.1 x.2.2)=(L.take k).map (fun x=>stepV x.1 x.2.1 x.2.2) ++ [stepV L[k].1 L[k].2.1 L[k].2.2]):=by
    show _=_
    rw [List.take_succ_eq_append_getElem hkL,List.map_append];rfl
   clear hc hrun
   have hbr:b<wr.heap.size:=Nat.lt_of_lt_of_le hb hbel.out.size
   obtain ⟨kd,n,s,hnode⟩ : ∃ kd n s,L[k]=(kd,n,s):=⟨_,_,_,rfl⟩
   rw [hnode] at c0 c1 c2 hsz HD HTk
   simp only at c0 c1 c2 hsz HTk
   clear hnode
   have HD:Hid (r=if nodeB kd n s=true/\takes kd<=v then run (v+(1-takes kd)) (L.drop (k+1)) else none):=HD
   have cs:=fun W=>stepOf_any kd n s W hsz
   cases hn:nodeB kd n s with
   | false =>
    rw [hn] at cs
    have HR:Hid (r=none):=by have:=HD.out;rw [if_neg (by rw [hn];simp)] at this;exact this
    clear HD HTk hn m1' m2' m3' m4' m5'
    go_wp2_with fail
    refine (cs _).mono ?_
    rintro e w1 ⟨rfl,hb1⟩
    go_wp2
    go_ret2
    exact ⟨⟨_,by rw [HR.out];rfl,fun h=>by rw [HR.out] at h;cases h⟩,(hbel.out.alloc hbel.out.size _).trans (hb1.mono (by have:=hbel.out.size;simp;omega))⟩
   | true =>
    rw [hn] at cs
    have hkk:kd=1 \/ kd=2 \/ kd=3 \/ (4<=kd/\kd<=7) \/ (8<=kd/\kd<=17):=by
     unfold nodeB at hn
     by_cases e1:kd=1
     ·exact .inl e1
     rw [if_neg e1] at hn
     by_cases e2:kd=2 \/ kd=3
     ·omega
     rw [if_neg e2] at hn
     by_cases e3:4<=kd/\kd<=17
     ·omega
     rw [if_neg e3] at hn;cases hn
    rcases hkk with rfl|rfl|rfl|⟨k4,k7⟩|⟨k8,k17⟩
    ·have ht:takes 1=0:=rfl
     have sv:stepV 1 n s=.iface 141 (.agg #[.int .i64 n]):=by unfold stepV;rw [if_pos rfl]
     rw [sv] at cs HTk
     have HR:Hid (r=run (v+1) (L.drop (k+1))):=by have:=HD.out;rw [ht,if_pos ⟨hn,hv0⟩] at this;exact this
     clear HD hn ht sv
     go_wp2_with fail
     refine (cs _).mono ?_
     rintro e w1 ⟨rfl,hb1⟩
     have own1:Hid (w1.ownsRow w.heap.size 109 1 u4 k ((L.take k).map fun x=>stepV x.1 x.2.1 x.2.2)):=(hown.out.alloc _).kept (row:=none) ⟨hb1.os,hb1.tape,hb1.output,hb1.size,fun k hk _=>hb1.block k hk⟩ (by cases hv:Value.ownBlock u4 <;> simp)
     have bel1:Hid (Below w.heap.size w w1):=(hbel.out.alloc hbel.out.size _).trans (hb1.mono (by have:=hbel.out.size;simp;omega))
     clear hown hbel hb1
     go_wp2_with (first|(at_builtin;refine wpList_append_own _ rfl (.tmp 37) (.tmp 39) 105 rfl w.heap.size 109 i0 .nilIface 1 16 underlying105 hi hz0 hz1 hz2 rfl (by decide) _ _ _ rfl (((own1.out.alloc _).alloc _).alloc _) ⟨w1.heap.size+1+1,0,none⟩ 1 1 [.iface 141 (.agg #[.int .i64 n])] rfl rfl (new3 _ _ _ _ _) (by intro u hu;simp at hu;subst hu;rfl) (by unfold maxLen;omega) (by omega) (by have:=bel1.out.size;simp;omega) ?_;intro v' w2 hown' hgrow _)|go_in)
     have hlt2:=own1.out.lt
     go_wp2
     go_roundw
     case rel=>exact ⟨k+1,_,by omega,by go_num,rfl,by omega,by omega,HR,by rw [HTk.out];exact hown',(((bel1.out.alloc bel1.out.size _).alloc (by have:=bel1.out.size;simp;omega) _).alloc (by have:=bel1.out.size;simp;omega) _).grown hgrow (by have:=bel1.out.size;simp;omega) (fun j hj=>(hlt2 j hj).1)⟩
     case measure=>simp [intOf];omega
    ·have ht:takes 2=0:=rfl
     have sv:stepV 2 n s=.iface 143 (.agg #[.string s]):=by unfold stepV;rw [if_neg (by decide),if_pos rfl]
     rw [sv] at cs HTk
     have HR:Hid (r=run (v+1) (L.drop (k+1))):=by have:=HD.out;rw [ht,if_pos ⟨hn,hv0⟩] at this;exact this
     clear HD hn ht sv
     go_wp2_with fail
     refine (cs _).mono ?_
     rintro e w1 ⟨rfl,hb1⟩
     have own1:Hid (w1.ownsRow w.heap.size 109 1 u4 k ((L.take k).map fun x=>stepV x.1 x.2.1 x.2.2)):=(hown.out.alloc _).kept (row:=none) ⟨hb1.os,hb1.tape,hb1.output,hb1.size,fun k hk _=>hb1.block k hk⟩ (by cases hv:Value.ownBlock u4 <;> simp)
     have bel1:Hid (Below w.heap.size w w1):=(hbel.out.alloc hbel.out.size _).trans (hb1.mono (by have:=hbel.out.size;simp;omega))
     clear hown hbel hb1
     go_wp2_with (first|(at_builtin;refine wpList_append_own _ rfl (.tmp 37) (.tmp 39) 105 rfl w.heap.size 109 i0 .nilIface 1 16 underlying105 hi hz0 hz1 hz2 rfl (by decide) _ _ _ rfl (((own1.out.alloc _).alloc _).alloc _) ⟨w1.heap.size+1+1,0,none⟩ 1 1 [.iface 143 (.agg #[.string s])] rfl rfl (new3 _ _ _ _ _) (by intro u hu;simp at hu;subst hu;rfl) (by unfold maxLen;omega) (by omega) (by have:=bel1.out.size;simp;omega) ?_;intro v' w2 hown' hgrow _)|go_in)
     have hlt2:=own1.out.lt
     go_wp2
     go_roundw
     case rel=>exact ⟨k+1,_,by omega,by go_num,rfl,by omega,by omega,HR,by rw [HTk.out];exact hown',(((bel1.out.alloc bel1.out.size _).alloc (by have:=bel1.out.size;simp;omega) _).alloc (by have:=bel1.out.size;simp;omega) _).grown hgrow (by have:=bel1.out.size;simp;omega) (fun j hj=>(hlt2 j hj).1)⟩
     case measure=>simp [intOf];omega
    ·have ht:takes 3=0:=rfl
     have sv:stepV 3 n s=.iface 144 (.agg #[.string s]):=by unfold stepV;rw [if_neg (by decide),if_neg (by decide),if_pos rfl]
     rw [sv] at cs HTk
     have HR:Hid (r=run (v+1) (L.drop (k+1))):=by have:=HD.out;rw [ht,if_pos ⟨hn,hv0⟩] at this;exact this
     clear HD hn ht sv
     go_wp2_with fail
     refine (cs _).mono ?_
     rintro e w1 ⟨rfl,hb1⟩
     have own1:Hid (w1.ownsRow w.heap.size 109 1 u4 k ((L.take k).map fun x=>stepV x.1 x.2.1 x.2.2)):=(hown.out.alloc _).kept (row:=none) ⟨hb1.os,hb1.tape,hb1.output,hb1.size,fun k hk _=>hb1.block k hk⟩ (by cases hv:Value.ownBlock u4 <;> simp)
     have bel1:Hid (Below w.heap.size w w1):=(hbel.out.alloc hbel.out.size _).trans (hb1.mono (by have:=hbel.out.size;simp;omega))
     clear hown hbel hb1
     go_wp2_with (first|(at_builtin;refine wpList_append_own _ rfl (.tmp 37) (.tmp 39) 105 rfl w.heap.size 109 i0 .nilIface 1 16 underlying105 hi hz0 hz1 hz2 rfl (by decide) _ _ _ rfl (((own1.out.alloc _).alloc _).alloc _) ⟨w1.heap.size+1+1,0,none⟩ 1 1 [.iface 144 (.agg #[.string s])] rfl rfl (new3 _ _ _ _ _) (by intro u hu;simp at hu;subst hu;rfl) (by unfold maxLen;omega) (by omega) (by have:=bel1.out.size;simp;omega) ?_;intro v' w2 hown' hgrow _)|go_in)
     have hlt2:=own1.out.lt
     go_wp2
     go_roundw
     case rel=>exact ⟨k+1,_,by omega,by go_num,rfl,by omega,by omega,HR,by rw [HTk.out];exact hown',(((bel1.out.alloc bel1.out.size _).alloc (by have:=bel1.out.size;simp;omega) _).alloc (by have:=bel1.out.size;simp;omega) _).grown hgrow (by have:=bel1.out.size;simp;omega) (fun j hj=>(hlt2 j hj).1)⟩
     case measure=>simp [intOf];omega
    ·have ht:takes kd=1:=by unfold takes;rw [if_neg (by omega),if_pos k7]
     have sv:stepV kd n s=.iface 146 (.agg #[.int .i64 kd]):=by unfold stepV;rw [if_neg (by omega),if_neg (by omega),if_neg (by omega),if_pos ⟨k4,k7⟩]
     rw [sv] at cs HTk
     by_cases hov:v<1
     ·have HR:Hid (r=none):=by have:=HD.out;rw [ht,if_neg (by omega)] at this;exact this
      clear HD hn ht sv HTk
      go_wp2_with fail
      refine (cs _).mono ?_
      rintro e w1 ⟨rfl,hb1⟩
      have own1:Hid (w1.ownsRow w.heap.size 109 1 u4 k ((L.take k).map fun x=>stepV x.1 x.2.1 x.2.2)):=(hown.out.alloc _).kept (row:=none) ⟨hb1.os,hb1.tape,hb1.output,hb1.size,fun k hk _=>hb1.block k hk⟩ (by cases hv:Value.ownBlock u4 <;> simp)
      have bel1:Hid (Below w.heap.size w w1):=(hbel.out.alloc hbel.out.size _).trans (hb1.mono (by have:=hbel.out.size;simp;omega))
      clear hown hbel hb1
      go_wp2
      go_ret2
      exact ⟨⟨_,by rw [HR.out];rfl,fun h=>by rw [HR.out] at h;cases h⟩,bel1.out.alloc bel1.out.size _⟩
     ·have HR:Hid (r=run (v+(1-1)) (L.drop (k+1))):=by have:=HD.out;rw [ht,if_pos ⟨hn,by omega⟩] at this;exact this
      have HR:Hid (r=run v (L.drop (k+1))):=by have:=HR.out;rw [show v+(1-1)=v by omega] at this;exact this
      clear HD hn ht sv
      go_wp2_with fail
      refine (cs _).mono ?_
      rintro e w1 ⟨rfl,hb1⟩
      have own1:Hid (w1.ownsRow w.heap.size 109 1 u4 k ((L.take k).map fun x=>stepV x.1 x.2.1 x.2.2)):=(hown.out.alloc _).kept (row:=none) ⟨hb1.os,hb1.tape,hb1.output,hb1.size,fun k hk _=>hb1.block k hk⟩ (by cases hv:Value.ownBlock u4 <;> simp)
      have bel1:Hid (Below w.heap.size w w1):=(hbel.out.alloc hbel.out.size _).trans (hb1.mono (by have:=hbel.out.size;simp;omega))
      clear hown hbel hb1
      go_wp2_with (first|(at_builtin;refine wpList_append_own _ rfl (.tmp 37) (.tmp 39) 105 rfl w.heap.size 109 i0 .nilIface 1 16 underlying105 hi hz0 hz1 hz2 rfl (by decide) _ _ _ rfl (((own1.out.alloc _).alloc _).alloc _) ⟨w1.heap.size+1+1,0,none⟩ 1 1 [.iface 146 (.agg #[.int .i64 kd])] rfl rfl (new3 _ _ _ _ _) (by intro u hu;simp at hu;subst hu;rfl) (by unfold maxLen;omega) (by omega) (by have:=bel1.out.size;simp;omega) ?_;intro v' w2 hown' hgrow _)|go_in)
      have hlt2:=own1.out.lt
      go_wp2
      go_roundw
      case rel=>exact ⟨k+1,_,by omega,by go_num,rfl,by omega,by omega,HR,by rw [HTk.out];exact hown',(((bel1.out.alloc bel1.out.size _).alloc (by have:=bel1.out.size;simp;omega) _).alloc (by have:=bel1.out.size;simp;omega) _).grown hgrow (by have:=bel1.out.size;simp;omega) (fun j hj=>(hlt2 j hj).1)⟩
      case measure=>simp [intOf];omega
    ·have ht:takes kd=2:=by unfold takes;rw [if_neg (by omega),if_neg (by omega)]
     have sv:stepV kd n s=.iface 148 (.agg #[.int .i64 kd]):=by unfold stepV;rw [if_neg (by omega),if_neg (by omega),if_neg (by omega),if_neg (by omega),if_pos ⟨k8,k17⟩]
     rw [sv] at cs HTk
     by_cases hov:v<2
     ·have HR:Hid (r=none):=by have:=HD.out;rw [ht,if_neg (by omega)] at this;exact this
      clear HD hn ht sv HTk
      go_wp2_with fail
      refine (cs _).mono ?_
      rintro e w1 ⟨rfl,hb1⟩
      have own1:Hid (w1.ownsRow w.heap.size 109 1 u4 k ((L.take k).map fun x=>stepV x.1 x.2.1 x.2.2)):=(hown.out.alloc _).kept (row:=none) ⟨hb1.os,hb1.tape,hb1.output,hb1.size,fun k hk _=>hb1.block k hk⟩ (by cases hv:Value.ownBlock u4 <;> simp)
      have bel1:Hid (Below w.heap.size w w1):=(hbel.out.alloc hbel.out.size _).trans (hb1.mono (by have:=hbel.out.size;simp;omega))
      clear hown hbel hb1
      go_wp2
      go_ret2
      exact ⟨⟨_,by rw [HR.out];rfl,fun h=>by rw [HR.out] at h;cases h⟩,bel1.out.alloc bel1.out.size _⟩
     ·have HR:Hid (r=run (v+(1-2)) (L.drop (k+1))):=by have:=HD.out;rw [ht,if_pos ⟨hn,by omega⟩] at this;exact this
      have HR:Hid (r=run (v+-1) (L.drop (k+1))):=by have:=HR.out;rw [show v+(1-2)=v+-1 by omega] at this;exact this
      clear HD hn ht sv
      go_wp2_with fail
      refine (cs _).mono ?_
      rintro e w1 ⟨rfl,hb1⟩
      have own1:Hid (w1.ownsRow w.heap.size 109 1 u4 k ((L.take k).map fun x=>stepV x.1 x.2.1 x.2.2)):=(hown.out.alloc _).kept (row:=none) ⟨hb1.os,hb1.tape,hb1.output,hb1.size,fun k hk _=>hb1.block k hk⟩ (by cases hv:Value.ownBlock u4 <;> simp)
      have bel1:Hid (Below w.heap.size w w1):=(hbel.out.alloc hbel.out.size _).trans (hb1.mono (by have:=hbel.out.size;simp;omega))
      clear hown hbel hb1
      go_wp2_with (first|(at_builtin;refine wpList_append_own _ rfl (.tmp 37) (.tmp 39) 105 rfl w.heap.size 109 i0 .nilIface 1 16 underlying105 hi hz0 hz1 hz2 rfl (by decide) _ _ _ rfl (((own1.out.alloc _).alloc _).alloc _) ⟨w1.heap.size+1+1,0,none⟩ 1 1 [.iface 148 (.agg #[.int .i64 kd])] rfl rfl (new3 _ _ _ _ _) (by intro u hu;simp at hu;subst hu;rfl) (by unfold maxLen;omega) (by omega) (by have:=bel1.out.size;simp;omega) ?_;intro v' w2 hown' hgrow _)|go_in)
      have hlt2:=own1.out.lt
      go_wp2
      go_roundw
      case rel=>exact ⟨k+1,_,by omega,by go_num,rfl,by omega,by omega,HR,by rw [HTk.out];exact hown',(((bel1.out.alloc bel1.out.size _).alloc (by have:=bel1.out.size;simp;omega) _).alloc (by have:=bel1.out.size;simp;omega) _).grown hgrow (by have:=bel1.out.size;simp;omega) (fun j hj=>(hlt2 j hj).1)⟩
      case measure=>simp [intOf];omega
  ·have HR:Hid (r=some v):=by
    have:=hrun.out
    rw [List.drop_eq_nil_of_le (by have:=HL.out;omega)] at this
    exact this
   have HTL:Hid ((L.take len).map (fun x=>stepV x.1 x.2.1 x.2.2)=L.map fun x=>stepV x.1 x.2.1 x.2.2):=by show _=_;rw [HL.out,List.take_length]
   clear hrun hN
   go_wp2
   go_ret2
   exact ⟨⟨_,by rw [HR.out];rfl,fun _=>by have e:k=len:=(by omega);rw [e] at hown;rw [<- HTL.out,<- HL.out];exact hown.out⟩,hbel.out⟩
end Stepx
namespace Optx
open Go.Proofs.YtickfkphhngagaaGreatDoor.Steps (nodeB stepV)
def opTab:List ByteArray:=[⟨#[110,101,103]⟩,⟨#[110,111,116]⟩,⟨#[104,105,103,104]⟩,⟨#[108,111,119]⟩,⟨#[43]⟩,⟨#[45]⟩,⟨#[42]⟩,⟨#[47]⟩,⟨#[37]⟩,⟨#[38]⟩,⟨#[94]⟩,⟨#[124]⟩,⟨#[60,60]⟩,⟨#[62,62]⟩]
def OpTab (w:World):Prop:=∀ i,i<14->w.cell? ⟨1,i,none⟩=some (.string (opTab.getD i ⟨#[]⟩))
def Pow (w:World):Prop:=Lib.TabIs prog w "internal/strconv.uint64pow10" .u64 Lib.pow10Tab
theorem gPow:prog.globalNamed "internal/strconv.uint64pow10" = some 3:=by kernel_rfl
theorem Pow.below {w w':World} (h:Pow w) (b:Below w.heap.size w w'):Pow w':=by
 unfold Pow Lib.TabIs World.var? at *
 rw [gPow] at h |-
 simp only [Option.bind_some] at h |-
 have hlt:3<w.heap.size:=by
  rcases Nat.lt_or_ge 3 w.heap.size with h'|h'
  ·exact h'
  ·rw [Array.getElem?_eq_none h'] at h;cases h
 rw [b.block _ hlt]
 exact h
theorem OpTab.below {w w':World} (h:OpTab w) (b:Below w.heap.size w w'):OpTab w':=fun i hi =>
 (b.cell (p:=⟨1,i,none⟩) (World.block_lt_of_cell? w ⟨1,0,none⟩ (h 0 (by decide)))).trans (h i hi)
def opW (kd:Int):ByteArray:=opTab.getD (kd-4).toNat ⟨#[]⟩
def decW (n:Int):ByteArray:=⟨(Lib.itoa n).toArray⟩
def wordB (x:Stepx.Node):ByteArray:=if x.1=1 then decW x.2.1 else if x.1=2 then x.2.2 else if x.1=3 then ⟨#[35]⟩ ++ x.2.2 else opW x.1
theorem as00 (n:Int) (w:World):(Instr.typeAssert (.iface 141 (.agg #[.int .i64 n])) 109 141 true).run prog w=.ok (.tuple #[.agg #[.int .i64 n],.bool true]) w:=by kernel_rfl
theorem as10 (s:ByteArray) (w:World):(Instr.typeAssert (.iface 143 (.agg #[.string s])) 109 141 true).run prog w=.ok (.tuple #[.agg #[.int .i64 0],.bool false]) w:=by kernel_rfl
theorem as11 (s:ByteArray) (w:World):(Instr.typeAssert (.iface 143 (.agg #[.string s])) 109 143 true).run prog w=.ok (.tuple #[.agg #[.string s],.bool true]) w:=by kernel_rfl
theorem as20 (s:ByteArray) (w:World):(Instr.typeAssert (.iface 144 (.agg #[.string s])) 109 141 true).run prog w=.ok (.tuple #[.agg #[.int .i64 0],.bool false]) w:=by kernel_rfl
theorem as21 (s:ByteArray) (w:World):(Instr.typeAssert (.iface 144 (.agg #[.string s])) 109 143 true).run prog w=.ok (.tuple #[.agg #[.string ⟨#[]⟩],.bool false]) w:=by kernel_rfl
theorem as22 (s:ByteArray) (w:World):(Instr.typeAssert (.iface 144 (.agg #[.string s])) 109 144 true).run prog w=.ok (.tuple #[.agg #[.string s],.bool true]) w:=by kernel_rfl
theorem as30 (n:Int) (w:World):(Instr.typeAssert (.iface 146 (.agg #[.int .i64 n])) 109 141 true).run prog w=.ok (.tuple #[.agg #[.int .i64 0],.bool false]) w:=by kernel_rfl
theorem as31 (n:Int) (w:World):(Instr.typeAssert (.iface 146 (.agg #[.int .i64 n])) 109 143 true).run prog w=.ok (.tuple #[.agg #[.string ⟨#[]⟩],.bool false]) w:=by kernel_rfl
theorem as32 (n:Int) (w:World):(Instr.typeAssert (.iface 146 (.agg #[.int .i64 n])) 109 144 true).run prog w=.ok (.tuple #[.agg #[.string ⟨#[]⟩],.bool false]) w:=by kernel_rfl
theorem as33 (n:Int) (w:World):(Instr.typeAssert (.iface 146 (.agg #[.int .i64 n])) 109 146 true).run prog w=.ok (.tuple #[.agg #[.int .i64 n],.bool true]) w:=by kernel_rfl
theorem as40 (n:Int) (w:World):(Instr.typeAssert (.iface 148 (.agg #[.int .i64 n])) 109 141 true).run prog w=.ok (.tuple #[.agg #[.int .i64 0],.bool false]) w:=by kernel_rfl
theorem as41 (n:Int) (w:World):(Instr.typeAssert (.iface 148 (.agg #[.int .i64 n])) 109 143 true).run prog w=.ok (.tuple #[.agg #[.string ⟨#[]⟩],.bool false]) w:=by kernel_rfl
theorem as42 (n:Int) (w:World):(Instr.typeAssert (.iface 148 (.agg #[.int .i64 n])) 109 144 true).run prog w=.ok (.tuple #[.agg #[.string ⟨#[]⟩],.bool false]) w:=by kernel_rfl
theorem as43 (n:Int) (w:World):(Instr.typeAssert (.iface 148 (.agg #[.int .i64 n])) 109 146 true).run prog w=.ok (.tuple #[.agg #[.int .i64 0],.bool false]) w:=by kernel_rfl
theorem as44 (n:Int) (w:World):(Instr.typeAssert (.iface 148 (.agg #[.int .i64 n])) 109 148 true).run prog w=.ok (.tuple #[.agg #[.int .i64 n],.bool true]) w:=by kernel_rfl
theorem text1 (n:Int) (w:World) (h0:0<=n) (h1:n<=65535) (hP:Pow w) :
  Calls prog 81 #[.iface 141 (.agg #[.int .i64 n])] w fun e w'=>e=.returned (.string (decW n))/\Below w.heap.size w w':=by
 have HP:Hid (∀ o,Pow (w.alloc o)):=fun o=>hP.below (zAl _ _)
 have c:∀ W,Pow W->Calls prog 79 #[.int .i64 n,.int .i64 10] W fun e w'=>e=.returned (.string (decW n))/\Below W.heap.size W w':=fun W h =>
  (Tryz.strconv_FormatInt_10 n (by omega) (by omega) W h).mono (by
   rintro e w' ⟨rfl,k,os,rfl⟩
   exact ⟨rfl,Lib.below_grow _ _ (Nat.le_refl _) k os⟩)
 clear hP
 have a0:=as00 n
 go_enter func81,ntmps81
 go_wp2_with fail
 refine (c _ (HP.out _)).mono ?_
 rintro e w1 ⟨rfl,b1⟩
 have B1:Hid (Below w.heap.size w w1):=((Below.refl w.heap.size w).alloc (Nat.le_refl _) _).trans (b1.mono (by simp))
 clear b1
 go_wp2
 go_ret
 exact ⟨rfl,B1.out⟩
theorem text2 (s:ByteArray) (w:World) :
  Calls prog 81 #[.iface 143 (.agg #[.string s])] w fun e w'=>e=.returned (.string s)/\Below w.heap.size w w':=by
 have a0:=as10 s
 have a1:=as11 s
 go_enter func81,ntmps81
 go_wp2
 go_ret
 exact ⟨rfl,zAl _ _⟩
theorem text3 (s:ByteArray) (w:World) (hs:s.size<=100) :
  Calls prog 81 #[.iface 144 (.agg #[.string s])] w fun e w'=>e=.returned (.string (⟨#[35]⟩ ++ s))/\Below w.heap.size w w':=by
 have a0:=as20 s
 have a1:=as21 s
 have a2:=as22 s
 go_enter func81,ntmps81
 go_wp2
 go_ret
 exact ⟨rfl,zAl _ _⟩
theorem textOne (n:Int) (w:World) (k0:4<=n) (k1:n<=7) (hT:OpTab w) :
  Calls prog 81 #[.iface 146 (.agg #[.int .i64 n])] w fun e w'=>e=.returned (.string (opW n))/\Below w.heap.size w w':=by
 obtain ⟨j,hj⟩ : ∃ j:Nat,n-4=(j:Int):=⟨(n-4).toNat,by omega⟩
 have hj14:j<14:=by omega
 have hc0:=hT j hj14
 have hc:∀ o,(w.alloc o).cell? ⟨1,j,none⟩=some (.string (opW n)):=fun o=>by
  have e:opW n=opTab.getD j ⟨#[]⟩:=by unfold opW;rw [hj];rfl
  rw [e]
  exact (World.cell?_of_block (a:=⟨1,j,none⟩) (Below.heap_alloc _ _ _ (World.block_lt_of_cell? w ⟨1,j,none⟩ hc0))).trans hc0
 have j0:(0:Int)<=(j:Int):=by omega
 have j1:(j:Int)<14:=by omega
 generalize opW n=R at hc |-
 clear hT hc0
 have a0:=as30 n
 have a1:=as31 n
 have a2:=as32 n
 have a3:=as33 n
 go_enter func81,ntmps81
 go_wp2_with fail
 first
  | (go_ret;exact ⟨rfl,zAl _ _⟩)
  | (go_quiet (fail);go_wp2;go_ret;exact ⟨rfl,⟨rfl,rfl,rfl,by simp,fun k hk=>Below.heap_alloc _ _ k hk⟩⟩)
theorem textTwo (n:Int) (w:World) (k0:8<=n) (k1:n<=17) (hT:OpTab w) :
  Calls prog 81 #[.iface 148 (.agg #[.int .i64 n])] w fun e w'=>e=.returned (.string (opW n))/\Below w.heap.size w w':=by
 obtain ⟨j,hj⟩ : ∃ j:Nat,n-4=(j:Int):=⟨(n-4).toNat,by omega⟩
 have hj14:j<14:=by omega
 have hc0:=hT j hj14
 have hc:∀ o,(w.alloc o).cell? ⟨1,j,none⟩=some (.string (opW n)):=fun o=>by
  have e:opW n=opTab.getD j ⟨#[]⟩:=by unfold opW;rw [hj];rfl
  rw [e]
  exact (World.cell?_of_block (a:=⟨1,j,none⟩) (Below.heap_alloc _ _ _ (World.block_lt_of_cell? w ⟨1,j,none⟩ hc0))).trans hc0
 have j0:(0:Int)<=(j:Int):=by omega
 have j1:(j:Int)<14:=by omega
 generalize opW n=R at hc |-
 clear hT hc0
 have a0:=as40 n
 have a1:=as41 n
 have a2:=as42 n
 have a3:=as43 n
 have a4:=as44 n
 go_enter func81,ntmps81
 go_wp2_with fail
 first
  | (go_ret;exact ⟨rfl,zAl _ _⟩)
  | (go_quiet (fail);go_wp2;go_ret;exact ⟨rfl,⟨rfl,rfl,rfl,by simp,fun k hk=>Below.heap_alloc _ _ k hk⟩⟩)
end Optx
namespace Specx
open Names (nameB)
open Go.Proofs.YtickfkphhngagaaGreatDoor.Steps (nodeB inB)
open Go.Proofs.YtickfkphhngagaaGreatDoor.Stepx (Nodes takes run exprB)
theorem l1In_any (n low high:Int) (w:World) :
  Calls prog 49 #[.int .i64 n,.int .i64 low,.int .i64 high] w fun e w'=>e=.returned (.bool (inB n low high))/\w'=w:=by
 go_enter func49,ntmps49
 go_wp2
 all_goals go_ret
 all_goals exact ⟨Names.ret_bool (by rw [Bool.eq_iff_iff];simp [inB];try omega),rfl⟩
def takesS (k:Int):Int:=if 1<=k/\k<=3 then 0 else if 4<=k/\k<=7 then 1 else if 8<=k/\k<=17 then 2 else -1
theorem l2Takes_any (k:Int) (w:World) :
  Calls prog 96 #[.int .i64 k] w fun e w'=>e=.returned (.int .i64 (takesS k))/\w'=w:=by
 have hk:(1<=k/\k<=3) \/ (4<=k/\k<=7) \/ (8<=k/\k<=17) \/ (k<1 \/ 17<k):=by omega
 rcases hk with h|h|h|h
 ·have e1:inB k 1 3=true:=by simp [inB];omega
  have ht:Hid (takesS k=0):=by
   show takesS k=_
   unfold takesS
   repeat (first|rw [if_pos (by omega)]|rw [if_neg (by omega)])
  clear h
  go_enter func96,ntmps96
  go_wp2_with (go_at_call 49;refine (l1In_any _ _ _ _).mono ?_;rintro e w' ⟨rfl,rfl⟩)
  go_ret
  exact ⟨by rw [ht.out];rfl,rfl⟩
 ·have e1:inB k 1 3=false:=by simp [inB];omega
  have e2:inB k 4 7=true:=by simp [inB];omega
  have ht:Hid (takesS k=1):=by
   show takesS k=_
   unfold takesS
   repeat (first|rw [if_pos (by omega)]|rw [if_neg (by omega)])
  clear h
  go_enter func96,ntmps96
  go_wp2_with (go_at_call 49;refine (l1In_any _ _ _ _).mono ?_;rintro e w' ⟨rfl,rfl⟩)
  go_ret
  exact ⟨by rw [ht.out];rfl,rfl⟩
 ·have e1:inB k 1 3=false:=by simp [inB];omega
  have e2:inB k 4 7=false:=by simp [inB];omega
  have e3:inB k 8 17=true:=by simp [inB];omega
  have ht:Hid (takesS k=2):=by
   show takesS k=_
   unfold takesS
   repeat (first|rw [if_pos (by omega)]|rw [if_neg (by omega)])
  clear h
  go_enter func96,ntmps96
  go_wp2_with (go_at_call 49;refine (l1In_any _ _ _ _).mono ?_;rintro e w' ⟨rfl,rfl⟩)
  go_ret
  exact ⟨by rw [ht.out];rfl,rfl⟩
 ·have e1:inB k 1 3=false:=by simp [inB];omega
  have e2:inB k 4 7=false:=by simp [inB];omega
  have e3:inB k 8 17=false:=by simp [inB];omega
  have ht:Hid (takesS k = -1):=by
   show takesS k=_
   unfold takesS
   repeat (first|rw [if_pos (by omega)]|rw [if_neg (by omega)])
  clear h
  go_enter func96,ntmps96
  go_wp2_with (go_at_call 49;refine (l1In_any _ _ _ _).mono ?_;rintro e w' ⟨rfl,rfl⟩)
  go_ret
  exact ⟨by rw [ht.out];rfl,rfl⟩
theorem l2Node_any (k n:Int) (s:ByteArray) (w:World) (hs:s.size<=maxLen) :
  Calls prog 95 #[.agg #[.int .i64 k,.int .i64 n,.string s]] w fun e w'=>e=.returned (.bool (nodeB k n s))/\Below w.heap.size w w':=by
 have cN:=fun W=>Names.specName_any s W hs
 have cT:=fun W=>l2Takes_any k W
 clear hs
 have END:∀ o:Obj,Below w.heap.size w (w.alloc o):=fun o=>zAl _ _
 by_cases h1:k=1
 ·subst h1
  have hn:nodeB 1 n s=(inB n 0 65535 && s.toList.isEmpty):=by unfold nodeB;rw [if_pos rfl]
  rw [hn]
  clear hn
  cases hb:inB n 0 65535
  all_goals
   go_enter func95,ntmps95
   go_wp2_with (first|(go_at_call 49;refine (l1In_any _ _ _ _).mono ?_;rintro e w' ⟨rfl,rfl⟩)|(go_at_call 48;refine (cN _).mono ?_;rintro e w' ⟨rfl,rfl⟩)|(go_at_call 96;refine (cT _).mono ?_;rintro e w' ⟨rfl,rfl⟩))
   go_ret
   exact ⟨rfl,END _⟩
 have e1:(k == 1)=false:=by simpa using h1
 by_cases h2:k=2 \/ k=3
 ·have hn:nodeB k n s=((n == 0) && nameB s):=by unfold nodeB;rw [if_neg h1,if_pos h2]
  rw [hn]
  clear hn
  have hz:(n == 0)=true \/ (n == 0)=false:=by cases n == 0 <;> simp
  rcases h2 with rfl|rfl
  all_goals
   rcases hz with hz|hz
   all_goals
    rw [hz]
    go_enter func95,ntmps95
    go_wp2_with (first|(go_at_call 49;refine (l1In_any _ _ _ _).mono ?_;rintro e w' ⟨rfl,rfl⟩)|(go_at_call 48;refine (cN _).mono ?_;rintro e w' ⟨rfl,rfl⟩)|(go_at_call 96;refine (cT _).mono ?_;rintro e w' ⟨rfl,rfl⟩))
    go_ret
    exact ⟨rfl,END _⟩
 have e2:(k == 2)=false:=by simp;omega
 have e3:(k == 3)=false:=by simp;omega
 have hz:(n == 0)=true \/ (n == 0)=false:=by cases n == 0 <;> simp
 have he:s.toList.isEmpty=true \/ s.toList.isEmpty=false:=by cases s.toList.isEmpty <;> simp
 by_cases h4:4<=k/\k<=17
 ·have hn:nodeB k n s=((n == 0) && s.toList.isEmpty):=by unfold nodeB;rw [if_neg h1,if_neg h2,if_pos h4]
  have ht:0<takesS k:=by
   unfold takesS
   rw [if_neg (by omega)]
   by_cases h7:4<=k/\k<=7
   ·rw [if_pos h7];decide
   ·rw [if_neg h7,if_pos (by omega)];decide
  have hd:decide (0<takesS k)=true:=decide_eq_true ht
  rw [hn]
  clear hn h4
  generalize takesS k=tk at cT ht hd
  rcases hz with hz|hz
  all_goals
   rcases he with he|he
   all_goals
    rw [hz,he]
    go_enter func95,ntmps95
    go_wp2_with (first|(go_at_call 49;refine (l1In_any _ _ _ _).mono ?_;rintro e w' ⟨rfl,rfl⟩)|(go_at_call 48;refine (cN _).mono ?_;rintro e w' ⟨rfl,rfl⟩)|(go_at_call 96;refine (cT _).mono ?_;rintro e w' ⟨rfl,rfl⟩))
    go_ret
    exact ⟨rfl,END _⟩
 ·have hn:nodeB k n s=false:=by unfold nodeB;rw [if_neg h1,if_neg h2,if_neg h4]
  have ht:takesS k = -1:=by unfold takesS;rw [if_neg (by omega),if_neg (by omega),if_neg (by omega)]
  rw [hn]
  rw [ht] at cT
  clear hn h4 ht
  rcases hz with hz|hz
  all_goals
   rcases he with he|he
   all_goals
    go_enter func95,ntmps95
    go_wp2_with (first|(go_at_call 49;refine (l1In_any _ _ _ _).mono ?_;rintro e w' ⟨rfl,rfl⟩)|(go_at_call 48;refine (cN _).mono ?_;rintro e w' ⟨rfl,rfl⟩)|(go_at_call 96;refine (cT _).mono ?_;rintro e w' ⟨rfl,rfl⟩))
    go_ret
    exact ⟨rfl,END _⟩
theorem takes_eq {k n:Int} {s:ByteArray} (h:nodeB k n s=true):takesS k=takes k/\0<=takes k/\takes k<=2:=by
 unfold nodeB at h
 unfold takesS takes
 by_cases e1:k=1
 ·subst e1;decide
 rw [if_neg e1] at h
 by_cases e2:k=2 \/ k=3
 ·rcases e2 with rfl|rfl <;> decide
 rw [if_neg e2] at h
 by_cases e3:4<=k/\k<=17
 ·rw [if_neg (by omega),if_neg (show ¬ k<=3 by omega)]
  by_cases e4:k<=7
  ·rw [if_pos (by omega),if_pos e4];decide
  ·rw [if_neg (by omega),if_pos (by omega),if_neg e4];decide
 rw [if_neg e3] at h;cases h
theorem exprOk_any (a:Option Addr) (cap:Nat) (L:List Stepx.Node) (w:World) (hN:Nodes w a L) (hlen:L.length<=1048576) :
  Calls prog 50 #[.slice a L.length cap] w fun e w'=>e=.returned (.bool (exprB L))/\Below w.heap.size w w':=by
 obtain ⟨r,hr⟩ : ∃ r,r=run 0 L:=⟨_,rfl⟩
 have hx:exprB L=(decide (L.length<=30) && (r == some 1)):=by unfold exprB;rw [hr]
 rw [hx]
 clear hx
 obtain ⟨len,hl⟩ : ∃ len,len=L.length:=⟨_,rfl⟩
 have HL:Hid (len=L.length):=hl
 rw [<- hl] at hlen |-
 clear hl
 go_enter func50,ntmps50
 go_wp2
 go_loopw [3,4] (fun vs i wr=>∃ (k:Nat) (v:Int),k<=len/\i=.int .i64 k/\vs=.int .i64 v/\0<=v/\v<=k/\Hid (r=run v (L.drop k))/\Hid (Below w.heap.size w wr)) (fun _ i _=>len-(intOf i).toNat)
 case atStart=>exact ⟨0,0,Nat.zero_le _,rfl,rfl,by decide,by decide,hr,Below.refl _ _⟩
 case round =>
  clear hr
  obtain ⟨k,v,hk,rfl,rfl,hv0,hv1,hrun,hbel⟩:=hrel
  by_cases hlt:k<len
  ·have hkL:k<L.length:=by have:=HL.out;omega
   rcases hN with hnil|⟨b,off,rfl,hb,hc⟩
   ·exfalso;rw [hnil] at hkL;exact absurd hkL (by simp)
   obtain ⟨c0,c1,c2,hsz⟩ : wr.cell? ⟨b,off+k*3,none⟩=some (.int .i64 L[k].1)/\wr.cell? ⟨b,off+k*3+1,none⟩=some (.int .i64 L[k].2.1)/\wr.cell? ⟨b,off+k*3+2,none⟩=some (.string L[k].2.2)/\L[k].2.2.size<=maxLen:=by
    obtain ⟨d0,d1,d2,d3⟩:=hc k hkL
    exact ⟨(hbel.out.cell (p:=⟨b,_,none⟩) hb).trans d0,(hbel.out.cell (p:=⟨b,_,none⟩) hb).trans d1,(hbel.out.cell (p:=⟨b,_,none⟩) hb).trans d2,d3⟩
   have HD:Hid (r=run v (L[k] :: L.drop (k+1))):=by have:=hrun.out;rw [List.drop_eq_getElem_cons hkL] at this;exact this
   clear hc hrun
   have hbr:b<wr.heap.size:=Nat.lt_of_lt_of_le hb hbel.out.size
   obtain ⟨kd,n,s,hnode⟩ : ∃ kd n s,L[k]=(kd,n,s):=⟨_,_,_,rfl⟩
   rw [hnode] at c0 c1 c2 hsz HD
   simp only at c0 c1 c2 hsz
   clear hnode
   have HD:Hid (r=if nodeB kd n s=true/\takes kd<=v then run (v+(1-takes kd)) (L.drop (k+1)) else none):=HD
   have cs:=fun W=>l2Node_any kd n s W hsz
   have ct:=fun W=>l2Takes_any kd W
   cases hn:nodeB kd n s with
   | false =>
    rw [hn] at cs
    have HR:Hid (r=none):=by have:=HD.out;rw [if_neg (by rw [hn];simp)] at this;exact this
    clear HD hn
    go_wp2_with fail
    refine (cs _).mono ?_
    rintro e w1 ⟨rfl,hb1⟩
    go_wp2
    go_ret
    exact ⟨by rw [HR.out];simp,hbel.out.trans (hb1.mono hbel.out.size)⟩
   | true =>
    rw [hn] at cs
    obtain ⟨te,t0,t2⟩:=takes_eq hn
    rw [te] at ct
    have HD:Hid (r=if takes kd<=v then run (v+(1-takes kd)) (L.drop (k+1)) else none):=by
     have:=HD.out
     by_cases h:takes kd<=v
     ·rw [if_pos ⟨hn,h⟩] at this;show r=_;rw [if_pos h];exact this
     ·rw [if_neg (fun x=>h x.2)] at this;show r=_;rw [if_neg h];exact this
    clear hn te
    generalize takes kd=tk at ct HD t0 t2
    by_cases hov:v<tk
    ·have HR:Hid (r=none):=by have:=HD.out;rw [if_neg (by omega)] at this;exact this
     clear HD
     go_wp2_with fail
     refine (cs _).mono ?_
     rintro e w1 ⟨rfl,hb1⟩
     obtain ⟨c0',hz⟩ : w1.cell? ⟨b,off+k*3,none⟩=some (.int .i64 kd)/\b<w1.heap.size:=⟨(hb1.cell (p:=⟨b,_,none⟩) hbr).trans c0,Nat.lt_of_lt_of_le hbr hb1.size⟩
     have bel1:Hid (Below w.heap.size w w1):=hbel.out.trans (hb1.mono hbel.out.size)
     clear hb1 hbel
     go_wp2_with (go_at_call 96;refine (ct _).mono ?_;rintro e w' ⟨rfl,rfl⟩)
     go_ret
     exact ⟨by rw [HR.out];simp,bel1.out⟩
    ·have HR:Hid (r=run (v-tk+1) (L.drop (k+1))):=by have:=HD.out;rw [if_pos (by omega),show v+(1-tk)=v-tk+1 by omega] at this;exact this
     clear HD
     go_wp2_with fail
     refine (cs _).mono ?_
     rintro e w1 ⟨rfl,hb1⟩
     obtain ⟨c0',hz⟩ : w1.cell? ⟨b,off+k*3,none⟩=some (.int .i64 kd)/\b<w1.heap.size:=⟨(hb1.cell (p:=⟨b,_,none⟩) hbr).trans c0,Nat.lt_of_lt_of_le hbr hb1.size⟩
     have bel1:Hid (Below w.heap.size w w1):=hbel.out.trans (hb1.mono hbel.out.size)
     clear hb1 hbel
     go_wp2_with (go_at_call 96;refine (ct _).mono ?_;rintro e w' ⟨rfl,rfl⟩)
     go_roundw
     case rel=>exact ⟨k+1,_,by omega,by go_num,rfl,by omega,by omega,HR,bel1.out⟩
     case measure=>simp [intOf];omega
  ·have HR:Hid (r=some v):=by
    have:=hrun.out
    rw [List.drop_eq_nil_of_le (by have:=HL.out;omega)] at this
    exact this
   clear hrun hN
   by_cases h30:len<=30
   ·have d30:decide (len<=30)=true:=decide_eq_true h30
    go_wp2
    go_ret
    exact ⟨by rw [HR.out];first|rfl|(rw [d30];rfl),hbel.out⟩
   ·have d30:decide (len<=30)=false:=decide_eq_false h30
    go_wp2
    go_ret
    exact ⟨by first|rfl|(rw [d30];rfl),hbel.out⟩
end Specx
end Go.Proofs.YtickfkphhngagaaGreatDoor
