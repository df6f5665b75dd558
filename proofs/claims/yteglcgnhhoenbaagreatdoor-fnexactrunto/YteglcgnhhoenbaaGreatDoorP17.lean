import Derived.Test.YteglcgnhhoenbaaGreatDoorP16
import Derived.Test.YteglcgnhhoenbaaGreatDoorP15
import Derived.Deep.Onto
import Derived.Laws.AppendOwnNone
set_option linter.all false
set_option maxRecDepth 20000
set_option maxHeartbeats 8000000
open Go.ChangeShapes Go.WideShapes Go.ChangeAt Go.RowKit
open Go.Proofs.Tryz
namespace Go.Proofs.YteglcgnhhoenbaaGreatDoor
namespace Busx
open Go.Deep
open Signed (inB ret_int ret_bool isByte_any l1In_any)
open Carts CartK CartL CartM CartP CartR CartW CartX CartY Outs Mach MachT MachO MachK MachB Busw
def Sl (w:World) (po:Option Addr) (L:List Int) (cap:Nat):Prop:=(po=none/\L=[]/\cap=0) \/ ∃ b off,po=some ⟨b,off,none⟩/\∀ i (h:i<L.length),b<w.heap.size/\w.cell? ⟨b,off+i,none⟩=some (.int .i64 L[i])
theorem Sl.below {w w':World} {po:Option Addr} {L:List Int} {cap:Nat} (h:Sl w po L cap) (hb:Below w.heap.size w w'):Sl w' po L cap:=by
 rcases h with h|⟨b,off,rfl,hc⟩
 ·exact .inl h
 ·exact .inr ⟨b,off,rfl,fun i hi=>⟨Nat.lt_of_lt_of_le (hc i hi).1 hb.size,(hb.cell (p:=⟨b,_,none⟩) (hc i hi).1).trans (hc i hi).2⟩⟩
theorem Sl.row {w:World} {po:Option Addr} {L:List Int} {cap:Nat} (h:Sl w po L cap):Row w po L:=by
 rcases h with ⟨_,h,_⟩|⟨b,off,h1,h2⟩
 ·exact .inl h
 ·by_cases he:L=[]
  ·exact .inl he
  ·exact .inr ⟨b,off,h1,(h2 0 (List.length_pos_iff.2 he)).1,fun i hi=>(h2 i hi).2⟩
theorem clone_any (po:Option Addr) (L:List Int) (cap:Nat) (w:World) (h:Sl w po L cap) (hlen:L.length<=1048576) :
  Calls prog 38 #[.slice po L.length cap] w fun e w'=>(∃ po' cap',e=.returned (.slice po' L.length cap')/\w'.ownsRow w.heap.size 2 1 (.slice po' L.length cap') L.length (outC L))/\Below w.heap.size w w':=by
 obtain ⟨i0,hi,hz0,hz1,hz2⟩:=Busw.info_parts Busw.info2
 have hnil:=fun (w:World) (a:Option Addr) (n c:Nat)=>Lib.run_eql_slice_nil (P:=prog) w 28 2 a n c 0 0 underlying28
 rcases h with ⟨rfl,rfl,rfl⟩|⟨b,off,rfl,hc⟩
 ·have HR:Hid (w.ownsRow w.heap.size 2 1 (.slice none 0 0) 0 (outC [])):=World.ownsRow_nil _ _ _ _
  go_enter func38,ntmps38
  go_wp2
  go_ret
  exact ⟨⟨none,0,rfl,HR.out⟩,Below.refl _ _⟩
 ·have HC:Hid (∀ (o:Obj) j u,(outC L)[j]? = some u->(w.alloc o).cell? ((⟨b,off,none⟩ : Addr).add j)=some u):=fun o j u hu=>by
   unfold outC at hu
   rw [List.getElem?_map] at hu
   obtain ⟨z,hz,rfl⟩:=Option.map_eq_some_iff.1 hu
   obtain ⟨hj,rfl⟩:=List.getElem?_eq_some_iff.1 hz
   have e:(⟨b,off,none⟩ : Addr).add j=⟨b,off+j,none⟩:=by unfold Addr.add;split <;> simp_all
   rw [e]
   exact (((Below.refl _ w).alloc (Nat.le_refl _) o).cell (p:=⟨b,off+j,none⟩) (hc j hj).1).trans (hc j hj).2
  have H1:Hid (∀ u ∈ outC L,u.oneCell'=true):=fun u hu=>by
   obtain ⟨z,_,rfl⟩:=List.mem_map.1 hu;rfl
  have HL:Hid ((outC L).length=L.length*1):=by show _=_;simp [outC]
  have R0:Hid ((w.alloc (.cells #[] 2)).ownsRow w.heap.size 2 1 (.slice (some ⟨w.heap.size,0,none⟩) 0 0) 0 []):=World.ownsRow_lit w #[] 0 (Nat.le_refl _) (Nat.zero_le _) rfl
  clear hc
  generalize outC L=oc at *
  generalize L.length=n at *
  go_enter func38,ntmps38
  go_wp2_with (at_builtin;refine wpList_append_own _ rfl _ _ 28 rfl w.heap.size 2 i0 (.int .i64 0) 1 8 underlying28 hi hz0 hz1 hz2 rfl (by decide) _ _ _ rfl R0.out ⟨b,off,none⟩ n cap oc rfl HL.out ?c1 ?c2 ?c3 ?c4 ?c5 ?_)
  case c1=>exact HC.out _
  case c2=>exact H1.out
  case c3=>unfold maxLen;omega
  case c4=>omega
  case c5=>simp
  intro v' w6 hown' hgrow _
  have B6:Hid (Below w.heap.size w w6):=((Below.refl _ w).alloc (Nat.le_refl _) _).grown hgrow (by simp) (fun k ek=>by have:=(R0.out.lt k ek).1;omega)
  obtain ⟨po',cap',rfl⟩ : ∃ po' cap',v'=.slice po' n cap':=by
   rcases hown'.2 with ⟨rfl,h0⟩|⟨g,cap',cur,hv,_⟩
   ·exact ⟨none,0,by rw [h0]⟩
   ·exact ⟨_,_,hv⟩
  have R6:Hid (w6.ownsRow w.heap.size 2 1 (.slice po' n cap') n oc):=hown'
  clear hown' hgrow
  go_wp2
  go_ret
  exact ⟨⟨po',cap',rfl,R6.out⟩,B6.out⟩
def Z0:M:=⟨0,0,0,0,0,0,0,0,0,0,false,false,⟨#[]⟩,0,0,⟨#[]⟩,0,false,0,⟨#[]⟩,⟨#[]⟩,[],0⟩
theorem zeroM (w:World):(zeroValue 30).run prog w=.ok (.agg (cellsM Z0 none 0)) w:=by rw [cells_def];kernel_rfl
theorem builtM:(prog.built 30 [])=some (cellsM Z0 none 0):=by rw [cells_def];kernel_rfl
theorem size_M (m:M) (po:Option Addr) (cap:Nat):(cellsM m po cap).size=23:=by rw [cells_def];rfl
theorem one_M (m:M) (po:Option Addr) (cap:Nat):(cellsM m po cap).all (·.oneCell')=true:=by rw [cells_def];simp [Value.oneCell']
theorem infoM:(prog.info? 30).map (·.size)=some 23:=by kernel_rfl
theorem infoMs (m:M) (po:Option Addr) (cap:Nat):(prog.info? 30).map (·.size)=some (cellsM m po cap).size:=by rw [size_M];exact infoM
def okMM (m:M):Bool:=okM m.ra m.rf m.rB m.rC m.rD m.rE m.rH m.rL m.sp m.pc (okB m.rom m.kind m.bank m.ram m.rb m.on m.mode) m.work.size m.high.size m.out m.cyc
structure Sm (m:M):Prop where
 rom:m.rom.size<=maxLen
 ram:m.ram.size<=maxLen
 work:m.work.size<=1048576
 high:m.high.size<=1048576
 out:m.out.length<=1048576
theorem implOk_M (m:M) (po:Option Addr) (cap:Nat) (w:World) (h:Sm m) (hN:Sl w po m.out cap):Calls prog 37 #[.agg (cellsM m po cap)] w fun e w'=>e=.returned (.bool (okMM m))/\Below w.heap.size w w':=by
 rw [cells_def];exact implM_any m.ra m.rf m.rB m.rC m.rD m.rE m.rH m.rL m.sp m.pc m.ime m.hal m.rom m.kind m.bank m.ram m.rb m.on m.mode m.work m.high po m.out cap m.cyc w h.rom h.ram h.work h.high hN.row h.out
theorem specOk_M (m:M) (po:Option Addr) (cap:Nat) (w:World) (h:Sm m) (hN:Sl w po m.out cap):Calls prog 19 #[.agg (cellsM m po cap)] w fun e w'=>e=.returned (.bool (okMM m))/\Below w.heap.size w w':=by
 rw [cells_def];exact specM_any m.ra m.rf m.rB m.rC m.rD m.rE m.rH m.rL m.sp m.pc m.ime m.hal m.rom m.kind m.bank m.ram m.rb m.on m.mode m.work m.high po m.out cap m.cyc w h.rom h.ram h.work h.high hN.row h.out
theorem rt_of {m:M} (h:okMM m=true) (hs:Sm m):Rt m:=by
 have p:=okM_parts h
 refine ⟨p.1,p.2.1,p.2.2,?_,hs.rom,hs.ram⟩
 unfold okMM okM at h
 simp only [Bool.and_eq_true,decide_eq_true_eq] at h
 exact h.1.1.1.2
theorem results_two {P:Program} {fn:Func} {p q:Tmp} {ty:TypeId} (h:fn.results=#[.cell p ty,.tmp q]) (tmps:Array Value) (w:World) (g:Nat) (t:TypeId) (cs:Array Value) (fr:Nat × Nat) (d:TypeDesc) (v:Value)
  (hp:tmps.getD p undef=.pointer (some ⟨g,0,none⟩)) (hq:tmps.getD q undef=v) (hg:w.heap[g]? = some (.cells cs t fr))
  (hu:P.underlying ty=some d) (hd:(match d with|.struct _|.array _ _=>true|_=>false)=true) (hi:(P.info? ty).map (·.size)=some cs.size) :
  (results fn tmps).run P w=.ok (.tuple #[.agg cs,v]) w:=MachN.results_two h tmps w g t cs fr d v hp hq hg hu hd hi
theorem wpList_build0 {P:Program} {ops:Array Oper} {rest:List Oper} {o:Oper} {a:Act} {w:World} {Q:Exit->Act->World->Prop} (hg:o.guard=none) (t:TypeId) (ho:o.op=.build t #[]) (cs:Array Value) (hb:P.built t []=some cs) (h:wpList P ops Q rest (a.put o.dst (.agg cs)) w):wpList P ops Q (o :: rest) a w :=
 wpList_build hg t #[] ho (by simp [hb]) (by simpa [hb] using h)
theorem own_at {w:World} {base n cap:Nat} {po:Option Addr} {xs:List Value} (h:w.ownsRow base 2 1 (.slice po n cap) n xs) (p:Addr) (e:po=some p):base<=p.block:=by
 subst e
 rcases h.2 with ⟨h,_⟩|⟨g,c,cur,hv,hb,_⟩
 ·cases h
 ·cases hv;exact hb
theorem lay {w w1 w2:World} {m:M} {po po':Option Addr} {cap cap':Nat} (HB:Below w.heap.size w w1) (HK:w1.heap[w.heap.size]? = some (.cells (cellsM m po cap) 30 (0,0))) (hb2:Below w1.heap.size w1 w2) (own:w2.ownsRow w1.heap.size 2 1 (.slice po' m.out.length cap') m.out.length (outC m.out)) :
  Held (w2.setCell ⟨w.heap.size,21,none⟩ (.slice po' m.out.length cap')) w.heap.size w.heap.size m po' cap':=by
 have hlt:w.heap.size<w1.heap.size:=(zLo HK)
 have hbox2:w2.heap[w.heap.size]? = some (.cells (cellsM m po cap) 30 (0,0)):=(hb2.block _ hlt).trans HK
 have hne:=row_ne own hbox2
 refine ⟨put_21 hbox2 m.out _ rfl po' cap',?_,hne⟩
 exact (World.ownsRow.mono own HB.size).kept (row:=some w.heap.size) ⟨rfl,rfl,rfl,by rw [Busw.size_set];exact Nat.le_refl _,fun k _ hk=>Below.heap_setCell _ _ _ _ (fun e=>hk (by rw [e]))⟩ (.inr hne)
theorem set_row_grown (w:World) (B:Nat) (cs:Array Value):w.grownBy (w.setRow B cs) (some B) :=
 ⟨rfl,rfl,rfl,by simp [World.setRow],fun k _ hk=>by
  have hne:¬ B=k:=fun e=>hk (by rw [e])
  simp [World.setRow,Array.getElem?_modify,hne]⟩
end Busx
namespace Busy
open Go.Deep
open Signed (inB ret_int ret_bool isByte_any l1In_any)
open Carts CartK CartL CartM CartP CartR CartW CartX CartY Outs Mach MachT MachO MachK MachB Busw Busx
theorem append_sl {ops:Array Oper} {rest:List Oper} {o:Oper} {a:Act} {w:World} {Q:Exit->Act->World->Prop} (hgd:o.guard=none) (s x:Operand) (ho:o.op=.call { callee:=.builtin .append,args:=#[s,x],argTypes:=#[28,28] })
  (base:Nat) (v:Value) (n:Nat) (xs:List Value) (hs:a.eval s=v) (hown:w.ownsRow base 2 1 v n xs) (po:Option Addr) (L:List Int) (cap:Nat) (hx:a.eval x=.slice po L.length cap) (hsl:Sl w po L cap) (hn:n+L.length<=2097152) (hbase:base<=w.heap.size)
  (h:∀ v' w',w'.ownsRow base 2 1 v' (n+L.length) (xs ++ outC L)->w.grownBy w' v.ownBlock->wpList prog ops Q rest (a.put o.dst v') w'):wpList prog ops Q (o :: rest) a w:=by
 obtain ⟨i0,hi,hz0,hz1,hz2⟩:=Busw.info_parts Busw.info2
 rcases hsl with ⟨rfl,rfl,rfl⟩|⟨b,off,rfl,hc⟩
 ·refine wpList_append_own_none hgd s x 28 ho base 2 i0 1 underlying28 hi v n xs hs hown hx (h v w ?_ ⟨rfl,rfl,rfl,Nat.le_refl _,fun _ _ _=>rfl⟩)
  simpa [outC] using hown
 ·refine wpList_append_own _ hgd s x 28 ho base 2 i0 (.int .i64 0) 1 8 underlying28 hi hz0 hz1 hz2 rfl (by decide) v n xs hs hown ⟨b,off,none⟩ L.length cap (outC L) hx (by simp [outC]) ?_ ?_ (by unfold maxLen;omega) (by omega) hbase (fun v' w' h1 h2 _=>h v' w' h1 h2)
  ·intro j u hu
   unfold outC at hu
   rw [List.getElem?_map] at hu
   obtain ⟨z,hz,rfl⟩:=Option.map_eq_some_iff.1 hu
   obtain ⟨hj,rfl⟩:=List.getElem?_eq_some_iff.1 hz
   have e:(⟨b,off,none⟩ : Addr).add j=⟨b,off+j,none⟩:=by unfold Addr.add;split <;> simp_all
   rw [e]
   exact (hc j hj).2
  ·intro u hu
   obtain ⟨z,_,rfl⟩:=List.mem_map.1 hu;rfl
theorem own_slice {w:World} {base n:Nat} {v:Value} {xs:List Value} (h:w.ownsRow base 2 1 v n xs):∃ po cap,v=.slice po n cap:=by
 rcases h.2 with ⟨rfl,h0⟩|⟨g,cap',cur,hv,_⟩
 ·exact ⟨none,0,by rw [h0]⟩
 ·exact ⟨_,_,hv⟩
structure Two (w W:World) (m:M) (po:Option Addr) (cap:Nat) (cZ:Array Value):Prop where
 box:W.heap[w.heap.size]? = some (.cells (cellsM m po cap) 30 (0,0))
 res:W.heap[w.heap.size+1]? = some (.cells cZ 30 (0,0))
 bel:Below w.heap.size w W
theorem Two.lt {w W:World} {m:M} {po:Option Addr} {cap:Nat} {cZ:Array Value} (h:Two w W m po cap cZ):w.heap.size+1<W.heap.size:=(zLo h.res)
theorem two_enter (w:World) (m:M) (po:Option Addr) (cap:Nat) (cM cZ:Array Value) (h:cM=cellsM m po cap):Two w ((w.alloc (.cells cM 30)).alloc (.cells cZ 30)) m po cap cZ:=by
 subst h
 refine ⟨by rw [Below.heap_alloc _ _ _ (by simp)];exact heap_alloc_last w _,?_,by repeat (with_reducible first|exact zRf|refine zGr ?_ _|refine below_drewN ?_ _|refine Below.drew ?_)⟩
 have h2:=heap_alloc_last (w.alloc (.cells (cellsM m po cap) 30)) (.cells cZ 30)
 simp only [World.size_alloc] at h2
 exact h2
theorem Two.step {w W W':World} {m:M} {po:Option Addr} {cap:Nat} {cZ:Array Value} (h:Two w W m po cap cZ) (hb:Below W.heap.size W W'):Two w W' m po cap cZ :=
 ⟨(hb.block _ (by have:=h.lt;omega)).trans h.box,(hb.block _ h.lt).trans h.res,after h.bel hb⟩
theorem Two.cellAt {w W:World} {m:M} {po:Option Addr} {cap:Nat} {cZ:Array Value} (h:Two w W m po cap cZ) (i:Nat) (v:Value) (hv:(#[.int .i64 m.ra,.int .i64 m.rf,.int .i64 m.rB,.int .i64 m.rC,.int .i64 m.rD,.int .i64 m.rE,.int .i64 m.rH,.int .i64 m.rL,.int .i64 m.sp,.int .i64 m.pc,.bool m.ime,.bool m.hal,.string m.rom,.int .i64 m.kind,.int .i64 m.bank,.string m.ram,.int .i64 m.rb,.bool m.on,.int .i64 m.mode,.string m.work,.string m.high,.slice po m.out.length cap,.int .i64 m.cyc]:Array Value)[i]? = some v):W.cell? ⟨w.heap.size,i,none⟩=some v/\W.frozen? ⟨w.heap.size,i,none⟩=false :=
 ⟨celM h.box i v hv,frozen_of_row _ _ _ _ _ h.box⟩
theorem Two.turn {w W W':World} {m m':M} {po po':Option Addr} {cap cap':Nat} {cZ:Array Value} (h:Two w W m po cap cZ) (hg:W.grownBy W' (some w.heap.size)) (hbox:W'.heap[w.heap.size]? = some (.cells (cellsM m' po' cap') 30 (0,0))):Two w W' m' po' cap' cZ :=
 ⟨hbox,(hg.block _ h.lt (by simp)).trans h.res,h.bel.trans ⟨hg.os,hg.tape,hg.output,hg.size,fun k hk=>hg.block k (by have:=h.lt;omega) (by simp;omega)⟩⟩
theorem Two.last {w W:World} {m:M} {po:Option Addr} {cap:Nat} {cZ:Array Value} (h:Two w W m po cap cZ):(W.setRow (w.heap.size+1) (cellsM m po cap)).heap[w.heap.size+1]? = some (.cells (cellsM m po cap) 30)/\Below w.heap.size w (W.setRow (w.heap.size+1) (cellsM m po cap)) :=
 ⟨heap_row h.res,below_row h.bel (by omega)⟩
theorem Two.grown {w W W6:World} {m:M} {po:Option Addr} {cap:Nat} {cZ:Array Value} (h:Two w W m po cap cZ) (o:Obj) (hg:(W.alloc o).grownBy W6 (some W.heap.size)):Two w W6 m po cap cZ :=
 h.step ⟨hg.os,hg.tape,hg.output,by have:=hg.size;simp at this;omega,fun k hk=>(hg.block k (by simp;omega) (by simp;omega)).trans (alloc_kept _ _ hk)⟩
theorem Two.put {w W:World} {m:M} {po:Option Addr} {cap:Nat} {cZ:Array Value} (h:Two w W m po cap cZ) (L:List Int) (n:Nat) (hn:n=L.length) (po':Option Addr) (cap':Nat) {xs:List Value} (hown:W.ownsRow w.heap.size 2 1 (.slice po' n cap') n xs) :
  Two w (W.setCell ⟨w.heap.size,21,none⟩ (.slice po' n cap')) { m with out:=L } po' cap' cZ/\((W.setCell ⟨w.heap.size,21,none⟩ (.slice po' n cap')).setRow (w.heap.size+1) (cellsM { m with out:=L } po' cap')).ownsRow w.heap.size 2 1 (.slice po' n cap') n xs:=by
 have hg:W.grownBy (W.setCell ⟨w.heap.size,21,none⟩ (.slice po' n cap')) (some w.heap.size):=⟨rfl,rfl,rfl,by rw [Busw.size_set];exact Nat.le_refl _,fun k _ hk=>Below.heap_setCell _ _ _ _ (fun e=>hk (by rw [e]))⟩
 have h2:=h.turn hg (put_21 h.box L n hn po' cap')
 have o2:=World.ownsRow.kept (row:=some w.heap.size) hown hg (.inr (row_ne hown h.box))
 exact ⟨h2,World.ownsRow.kept (row:=some (w.heap.size+1)) o2 (set_row_grown _ _ _) (.inr (row_ne o2 h2.res))⟩
theorem copy_any (m:M) (po:Option Addr) (cap:Nat) (w:World) (hlen:m.out.length<=1048576) (hN:Sl w po m.out cap) :
  Calls prog 43 #[.agg (cellsM m po cap)] w fun e w'=>(∃ po' cap',e=.returned (.agg (cellsM m po' cap'))/\w'.ownsRow w.heap.size 2 1 (.slice po' m.out.length cap') m.out.length (outC m.out))/\Below w.heap.size w w':=by
 have hz:=zeroM
 have H0:Hid (∀ W,Below w.heap.size w W->Sl W po m.out cap):=fun W h=>hN.below h
 have HL:Hid (m.out.length<=1048576):=hlen
 clear hN hlen
 obtain ⟨cM,hcM⟩ : ∃ c,c=cellsM m po cap:=⟨_,rfl⟩
 obtain ⟨cZ,hcZ⟩ : ∃ c,c=cellsM Z0 none 0:=⟨_,rfl⟩
 have HM:Hid (cM=cellsM m po cap):=hcM
 have HZ:Hid (cZ=cellsM Z0 none 0):=hcZ
 rw [<- hcM]
 rw [<- hcZ] at hz
 clear hcM hcZ
 go_enter func43,ntmps43
 go_upto_region 1 with fail
 have h2:=two_enter w m po cap cM cZ HM.out
 generalize (w.alloc (.cells cM 30)).alloc (.cells cZ 30)=W0 at *
 have H2:Hid (Two w W0 m po cap cZ):=h2
 obtain ⟨q21,f21⟩:=h2.cellAt 21 (.slice po m.out.length cap) rfl
 have hlt:=h2.lt
 have hlt0:w.heap.size<W0.heap.size:=by omega
 clear h2 hz
 go_wp2_with (at_builtin;refine append_sl rfl _ _ rfl w.heap.size _ 0 [] rfl (World.ownsRow_lit W0 #[] 0 ?c1 (Nat.zero_le _) rfl) po m.out cap rfl ?c2 ?c3 ?c4 ?_)
 case c1=>omega
 case c2=>exact H0.out _ (grow H2.out.bel _)
 case c3=>have:=HL.out;omega
 case c4=>simp;omega
 intro v' W6 hown hgrow
 obtain ⟨po',cap',rfl⟩:=own_slice hown
 have h6:=H2.out.grown _ hgrow
 obtain ⟨q6,f6⟩:=h6.cellAt 21 (.slice po m.out.length cap) rfl
 have H7:Hid _:=h6.put m.out _ rfl po' cap' hown
 clear h6 hown hgrow
 go_upto_region 2 with fail
 refine wp_region_list ?_
 refine wpList_load_row rfl 30 _ rfl w.heap.size rfl _ _ (0,0) _ H7.out.1.box underlying30 rfl (infoMs _ _ _) ?_
 refine wpList_store_row rfl 30 _ _ rfl (w.heap.size+1) _ rfl rfl _ _ H7.out.1.res (infoMs _ _ _) (by rw [HZ.out,size_M,size_M]) (one_M _ _ _) ?_
 go_wp2
 exact bodyPost_ret (v:=.agg (cellsM m po' cap')) (results_cell_row results43 _ _ (w.heap.size+1) _ _ (0,0) _ rfl H7.out.1.last.1 underlying30 rfl (infoMs _ _ _)) rfl ⟨⟨po',cap',rfl,H7.out.2⟩,H7.out.1.last.2⟩
theorem Two.grown2 {w W W6:World} {m:M} {po:Option Addr} {cap n:Nat} {cZ:Array Value} {v:Value} {xs:List Value} (h:Two w W m po cap cZ) (hown:W.ownsRow w.heap.size 2 1 v n xs) (o:Obj) (hg:(W.alloc o).grownBy W6 v.ownBlock):Two w W6 m po cap cZ :=
 ⟨(hg.block _ (by simp;have:=h.lt;omega) (fun e=>row_ne hown h.box e.symm)).trans ((alloc_kept _ _ (by have:=h.lt;omega)).trans h.box),
 (hg.block _ (by simp;have:=h.lt;omega) (fun e=>row_ne hown h.res e.symm)).trans ((alloc_kept _ _ h.lt).trans h.res),
 h.bel.trans ⟨hg.os,hg.tape,hg.output,by have:=hg.size;simp at this;omega,fun k hk=>(hg.block k (by simp;have:=h.lt;omega) (fun e=>by have:=(hown.lt k e.symm).1;omega)).trans (alloc_kept _ _ (by have:=h.lt;omega))⟩⟩
def SPost (w w':World) (m:M) (po:Option Addr) (cap:Nat) (r:Option M) (e:Ending):Prop :=
 ((∃ m' po' cap',r=some m'/\e=.returned (.tuple #[.agg (cellsM m' po' cap'),.bool true])/\Sl w' po' m'.out cap'/\(po'=po \/ ∀ p,po'=some p->w.heap.size<=p.block)) \/ (r=none/\e=.returned (.tuple #[.agg (cellsM m po cap),.bool false])))/\Below w.heap.size w w'
theorem own_sl {w:World} {base n cap:Nat} {po:Option Addr} {L:List Int} (h:w.ownsRow base 2 1 (.slice po n cap) n (outC L)) (hn:n=L.length):Sl w po L cap:=by
 subst hn
 rcases h.2 with ⟨h0,hl⟩|⟨g,c,cur,hv,hb,hg,h1,h2,h3,h4⟩
 ·injection h0 with e1 e2 e3
  exact .inl ⟨e1,List.length_eq_zero_iff.1 hl,e3⟩
 ·cases hv
  refine .inr ⟨g,0,rfl,fun i hi=>⟨(zLo hg),?_⟩⟩
  have hc:cur[i]? = some (.int .i64 L[i]):=by
   have e:(outC L)[i]? = some (.int .i64 L[i]):=by simp [outC,hi]
   rw [<- h4,Nat.mul_one,List.getElem?_take_of_lt hi] at e
   simpa using e
  rw [Nat.zero_add]
  exact cel hg i _ hc
theorem sw_work (m:M) (po:Option Addr) (cap:Nat) (addr v:Int) (w:World) (hr:Rt m) (hN:Sl w po m.out cap) (a0:inB addr 49152 49407=true) (v0:inB v 0 255=true) :
  Calls prog 161 #[.agg (cellsM m po cap),.int .i64 addr,.int .i64 v] w fun e w'=>SPost w w' m po cap (wrM m addr v) e:=by
 have hz:=zeroM
 have H0:Hid (∀ W,Below w.heap.size w W->Sl W po m.out cap):=fun W h=>hN.below h
 obtain ⟨q0,q1⟩:=of_decide_eq_true a0
 obtain ⟨u0,u1⟩:=of_decide_eq_true v0
 have c2:=fun w=>put_spec m.work 256 hr.work (by decide) (addr-49152) v (by omega) (by omega) u0 u1 w
 obtain ⟨r,hrr⟩ : ∃ r,r=wrM m addr v:=⟨_,rfl⟩
 have HRR:Hid (r=wrM m addr v):=hrr
 rw [<- hrr]
 clear hrr
 obtain ⟨cM,hcM⟩ : ∃ c,c=cellsM m po cap:=⟨_,rfl⟩
 obtain ⟨cZ,hcZ⟩ : ∃ c,c=cellsM Z0 none 0:=⟨_,rfl⟩
 have HM:Hid (cM=cellsM m po cap):=hcM
 have HZ:Hid (cZ=cellsM Z0 none 0):=hcZ
 rw [<- hcM]
 rw [<- hcZ] at hz
 clear hcM hcZ hN
 go_enter func161,ntmps161
 go_upto_region 2 with fail
 have h2:=two_enter w m po cap cM cZ HM.out
 generalize (w.alloc (.cells cM 30)).alloc (.cells cZ 30)=W0 at *
 have H2:Hid (Two w W0 m po cap cZ):=h2
 have hlt:=h2.lt
 have hlt0:w.heap.size<W0.heap.size:=by omega
 obtain ⟨q,f⟩:=h2.cellAt 19 (.string m.work) rfl
 obtain ⟨m',HQ0,hout,HE0⟩ : ∃ m',wrM m addr v=some m'/\m'.out=m.out/\∀ o,Two w ((W0.setCell ⟨w.heap.size,19,none⟩ (.string (putB m.work (addr-49152) v))).alloc o).drew m' po cap cZ :=
  ⟨{ m with work:=putB m.work (addr-49152) v },by unfold wrM;rw [if_pos a0],rfl,fun o=>h2.turn (set_grown ..) (by
   show ((W0.setCell ⟨w.heap.size,19,none⟩ _).alloc o).heap[w.heap.size]? = _
   rw [alloc_kept _ _ (by rw [Busw.size_set];exact hlt0)]
   exact put_19 h2.box _)⟩
 have HQ:Hid (r=some m'):=HRR.out.trans HQ0
 have HE:Hid (∀ o,Two w ((W0.setCell ⟨w.heap.size,19,none⟩ (.string (putB m.work (addr-49152) v))).alloc o).drew m' po cap cZ):=HE0
 have HO:Hid (m'.out=m.out):=hout
 clear h2 hz hr v0 HQ0 hout HE0
 generalize putB m.work (addr-49152) v=nw at *
 generalize m.work=ow at *
 go_upto_region 10 with first|(go_at_call 42;refine (l1In_any _ _ _ _).mono ?_;rintro e w' ⟨rfl,hw'⟩;have hw':=hw'.symm;subst hw';rw [a0])|(go_at_call 236;refine (c2 _).mono ?_;rintro e w' ⟨rfl,p1,rfl⟩)
 have HT:=HE
 replace HT:Hid (Two w ((W0.setCell ⟨w.heap.size,19,none⟩ (.string nw)).alloc p1).drew m' po cap cZ):=HE.out p1
 have HSl:Hid (Sl (((W0.setCell ⟨w.heap.size,19,none⟩ (.string nw)).alloc p1).drew.setRow (w.heap.size+1) (cellsM m' po cap)) po m'.out cap):=by show Sl _ _ _ _;rw [HO.out];exact H0.out _ HT.out.last.2
 refine wp_region_list ?_
 refine wpList_load_row rfl 30 _ rfl w.heap.size rfl _ _ (0,0) _ HT.out.box underlying30 rfl (infoMs _ _ _) ?_
 refine wpList_store_row rfl 30 _ _ rfl (w.heap.size+1) _ rfl rfl _ _ HT.out.res (infoMs _ _ _) (by rw [HZ.out,size_M,size_M]) (one_M _ _ _) ?_
 go_wp2
 exact bodyPost_ret (v:=.tuple #[.agg (cellsM m' po cap),.bool true]) (results_two results161 _ _ (w.heap.size+1) _ _ (0,0) _ _ rfl rfl HT.out.last.1 underlying30 rfl (infoMs _ _ _)) rfl ⟨.inl ⟨m',po,cap,HQ.out,rfl,HSl.out,.inl rfl⟩,HT.out.last.2⟩
theorem sw_high (m:M) (po:Option Addr) (cap:Nat) (addr v:Int) (w:World) (hr:Rt m) (hN:Sl w po m.out cap) (b0:inB addr 49152 49407=false) (a0:inB addr 65408 65534=true) (v0:inB v 0 255=true) :
  Calls prog 161 #[.agg (cellsM m po cap),.int .i64 addr,.int .i64 v] w fun e w'=>SPost w w' m po cap (wrM m addr v) e:=by
 have hz:=zeroM
 have H0:Hid (∀ W,Below w.heap.size w W->Sl W po m.out cap):=fun W h=>hN.below h
 obtain ⟨q0,q1⟩:=of_decide_eq_true a0
 obtain ⟨u0,u1⟩:=of_decide_eq_true v0
 have c2:=fun w=>put_spec m.high 127 hr.high (by decide) (addr-65408) v (by omega) (by omega) u0 u1 w
 obtain ⟨r,hrr⟩ : ∃ r,r=wrM m addr v:=⟨_,rfl⟩
 have HRR:Hid (r=wrM m addr v):=hrr
 rw [<- hrr]
 clear hrr
 obtain ⟨cM,hcM⟩ : ∃ c,c=cellsM m po cap:=⟨_,rfl⟩
 obtain ⟨cZ,hcZ⟩ : ∃ c,c=cellsM Z0 none 0:=⟨_,rfl⟩
 have HM:Hid (cM=cellsM m po cap):=hcM
 have HZ:Hid (cZ=cellsM Z0 none 0):=hcZ
 rw [<- hcM]
 rw [<- hcZ] at hz
 clear hcM hcZ hN
 go_enter func161,ntmps161
 go_upto_region 2 with fail
 have h2:=two_enter w m po cap cM cZ HM.out
 generalize (w.alloc (.cells cM 30)).alloc (.cells cZ 30)=W0 at *
 have H2:Hid (Two w W0 m po cap cZ):=h2
 have hlt:=h2.lt
 have hlt0:w.heap.size<W0.heap.size:=by omega
 obtain ⟨q,f⟩:=h2.cellAt 20 (.string m.high) rfl
 obtain ⟨m',HQ0,hout,HE0⟩ : ∃ m',wrM m addr v=some m'/\m'.out=m.out/\∀ o,Two w ((W0.setCell ⟨w.heap.size,20,none⟩ (.string (putB m.high (addr-65408) v))).alloc o).drew m' po cap cZ :=
  ⟨{ m with high:=putB m.high (addr-65408) v },by unfold wrM;rw [if_neg (by rw [b0];decide),if_pos a0],rfl,fun o=>h2.turn (set_grown ..) (by
   show ((W0.setCell ⟨w.heap.size,20,none⟩ _).alloc o).heap[w.heap.size]? = _
   rw [alloc_kept _ _ (by rw [Busw.size_set];exact hlt0)]
   exact put_20 h2.box _)⟩
 have HQ:Hid (r=some m'):=HRR.out.trans HQ0
 have HE:Hid (∀ o,Two w ((W0.setCell ⟨w.heap.size,20,none⟩ (.string (putB m.high (addr-65408) v))).alloc o).drew m' po cap cZ):=HE0
 have HO:Hid (m'.out=m.out):=hout
 clear h2 hz hr v0 HQ0 hout HE0
 generalize putB m.high (addr-65408) v=nw at *
 generalize m.high=ow at *
 go_upto_region 10 with first|(go_at_call 42;refine (l1In_any _ _ _ _).mono ?_;rintro e w' ⟨rfl,hw'⟩;have hw':=hw'.symm;subst hw';first|rw [b0]|rw [a0])|(go_at_call 236;refine (c2 _).mono ?_;rintro e w' ⟨rfl,p1,rfl⟩)
 have HT:=HE
 replace HT:Hid (Two w ((W0.setCell ⟨w.heap.size,20,none⟩ (.string nw)).alloc p1).drew m' po cap cZ):=HE.out p1
 have HSl:Hid (Sl (((W0.setCell ⟨w.heap.size,20,none⟩ (.string nw)).alloc p1).drew.setRow (w.heap.size+1) (cellsM m' po cap)) po m'.out cap):=by show Sl _ _ _ _;rw [HO.out];exact H0.out _ HT.out.last.2
 refine wp_region_list ?_
 refine wpList_load_row rfl 30 _ rfl w.heap.size rfl _ _ (0,0) _ HT.out.box underlying30 rfl (infoMs _ _ _) ?_
 refine wpList_store_row rfl 30 _ _ rfl (w.heap.size+1) _ rfl rfl _ _ HT.out.res (infoMs _ _ _) (by rw [HZ.out,size_M,size_M]) (one_M _ _ _) ?_
 go_wp2
 exact bodyPost_ret (v:=.tuple #[.agg (cellsM m' po cap),.bool true]) (results_two results161 _ _ (w.heap.size+1) _ _ (0,0) _ _ rfl rfl HT.out.last.1 underlying30 rfl (infoMs _ _ _)) rfl ⟨.inl ⟨m',po,cap,HQ.out,rfl,HSl.out,.inl rfl⟩,HT.out.last.2⟩
theorem sw_full (m:M) (po:Option Addr) (cap:Nat) (addr v:Int) (w:World) (hr:Rt m) (hN:Sl w po m.out cap) (ha:addr=65281) (hl:m.out.length=100) :
  Calls prog 161 #[.agg (cellsM m po cap),.int .i64 addr,.int .i64 v] w fun e w'=>SPost w w' m po cap (wrM m addr v) e:=by
 have hz:=zeroM
 have H0:Hid (∀ W,Below w.heap.size w W->Sl W po m.out cap):=fun W h=>hN.below h
 subst ha
 have b0:inB 65281 49152 49407=false:=by decide
 have b1:inB 65281 65408 65534=false:=by decide
 have HQ:Hid (wrM m 65281 v=none):=by show _=_;unfold wrM;rw [if_neg (by decide),if_neg (by decide),if_pos rfl,if_pos (by omega)]
 obtain ⟨r,hrr⟩ : ∃ r,r=wrM m 65281 v:=⟨_,rfl⟩
 have HRR:Hid (r=wrM m 65281 v):=hrr
 rw [<- hrr]
 clear hrr
 obtain ⟨cM,hcM⟩ : ∃ c,c=cellsM m po cap:=⟨_,rfl⟩
 obtain ⟨cZ,hcZ⟩ : ∃ c,c=cellsM Z0 none 0:=⟨_,rfl⟩
 have HM:Hid (cM=cellsM m po cap):=hcM
 have HZ:Hid (cZ=cellsM Z0 none 0):=hcZ
 rw [<- hcM]
 rw [<- hcZ] at hz
 clear hcM hcZ hN
 go_enter func161,ntmps161
 go_upto_region 2 with fail
 have h2:=two_enter w m po cap cM cZ HM.out
 generalize (w.alloc (.cells cM 30)).alloc (.cells cZ 30)=W0 at *
 have H2:Hid (Two w W0 m po cap cZ):=h2
 have hlt:=h2.lt
 have hlt0:w.heap.size<W0.heap.size:=by omega
 obtain ⟨q,f⟩:=h2.cellAt 21 (.slice po m.out.length cap) rfl
 have HT:Hid (Two w W0 m po cap cZ):=h2
 clear h2 hz hr
 rw [hl] at q
 go_upto_region 8 with (go_at_call 42;refine (l1In_any _ _ _ _).mono ?_;rintro e w' ⟨rfl,hw'⟩;have hw':=hw'.symm;subst hw';first|rw [b0]|rw [b1])
 refine wp_region_list ?_
 refine wpList_load_row rfl 30 _ rfl w.heap.size rfl _ _ (0,0) _ HT.out.box underlying30 rfl (infoMs _ _ _) ?_
 refine wpList_store_row rfl 30 _ _ rfl (w.heap.size+1) _ rfl rfl _ _ HT.out.res (infoMs _ _ _) (by rw [HZ.out,size_M,size_M]) (one_M _ _ _) ?_
 go_wp2
 exact bodyPost_ret (v:=.tuple #[.agg (cellsM m po cap),.bool false]) (results_two results161 _ _ (w.heap.size+1) _ _ (0,0) _ _ rfl rfl HT.out.last.1 underlying30 rfl (infoMs _ _ _)) rfl ⟨.inr ⟨HRR.out.trans HQ.out,rfl⟩,HT.out.last.2⟩
theorem sw_out (m:M) (po:Option Addr) (cap:Nat) (addr v:Int) (w:World) (hr:Rt m) (hN:Sl w po m.out cap) (ha:addr=65281) (hl:m.out.length<100) :
  Calls prog 161 #[.agg (cellsM m po cap),.int .i64 addr,.int .i64 v] w fun e w'=>SPost w w' m po cap (wrM m addr v) e:=by
 have hz:=zeroM
 have H0:Hid (∀ W,Below w.heap.size w W->Sl W po m.out cap):=fun W h=>hN.below h
 subst ha
 have b0:inB 65281 49152 49407=false:=by decide
 have b1:inB 65281 65408 65534=false:=by decide
 obtain ⟨m',hm'⟩ : ∃ x,x={ m with out:=m.out ++ [v] }:=⟨_,rfl⟩
 have HQ:Hid (wrM m 65281 v=some m'):=by show _=_;unfold wrM;rw [if_neg (by decide),if_neg (by decide),if_pos rfl,if_neg (by omega),hm']
 obtain ⟨i0,hi,hz0,hz1,hz2⟩:=Busw.info_parts Busw.info2
 obtain ⟨r,hrr⟩ : ∃ r,r=wrM m 65281 v:=⟨_,rfl⟩
 have HRR:Hid (r=wrM m 65281 v):=hrr
 rw [<- hrr]
 clear hrr
 obtain ⟨cM,hcM⟩ : ∃ c,c=cellsM m po cap:=⟨_,rfl⟩
 obtain ⟨cZ,hcZ⟩ : ∃ c,c=cellsM Z0 none 0:=⟨_,rfl⟩
 have HM:Hid (cM=cellsM m po cap):=hcM
 have HZ:Hid (cZ=cellsM Z0 none 0):=hcZ
 rw [<- hcM]
 rw [<- hcZ] at hz
 clear hcM hcZ hN
 go_enter func161,ntmps161
 go_upto_region 2 with fail
 have h2:=two_enter w m po cap cM cZ HM.out
 generalize (w.alloc (.cells cM 30)).alloc (.cells cZ 30)=W0 at *
 have H2:Hid (Two w W0 m po cap cZ):=h2
 have hlt:=h2.lt
 have hlt0:w.heap.size<W0.heap.size:=by omega
 obtain ⟨q,f⟩:=h2.cellAt 21 (.slice po m.out.length cap) rfl
 clear h2 hz hr
 have e1:¬ (m.out.length:Int)=100:=by omega
 have e2:((m.out.length:Int) == 100)=false:=by simpa using e1
 go_wp2_with first|(go_at_call 42;refine (l1In_any _ _ _ _).mono ?_;rintro e w' ⟨rfl,hw'⟩;have hw':=hw'.symm;subst hw';first|rw [b0]|rw [b1])|(at_builtin;refine append_sl rfl _ _ rfl w.heap.size _ 0 [] rfl (World.ownsRow_lit W0 #[] 0 ?c1 (Nat.zero_le _) rfl) po m.out cap rfl ?c2 ?c3 ?c4 ?_)
 case c1=>omega
 case c2=>exact H0.out _ (grow H2.out.bel _)
 case c3=>omega
 case c4=>simp;omega
 intro v' W6 hown hgrow
 have h6:=H2.out.grown _ hgrow
 have HR6:Hid (W6.ownsRow w.heap.size 2 1 v' m.out.length (outC m.out)):=hown
 have H6:Hid (Two w W6 m po cap cZ):=h6
 obtain ⟨q6,f6⟩:=h6.cellAt 21 (.slice po m.out.length cap) rfl
 have hlt6:w.heap.size+1<W6.heap.size:=h6.lt
 have hlt60:w.heap.size<W6.heap.size:=by omega
 clear h6 hown hgrow q f hlt hlt0 H2
 go_wp2_with (at_builtin;refine wpList_append_own _ rfl _ _ 28 rfl w.heap.size 2 i0 (.int .i64 0) 1 8 underlying28 hi hz0 hz1 hz2 rfl (by decide) _ _ _ rfl (HR6.out.alloc _) ⟨W6.heap.size,0,none⟩ 1 1 [.int .i64 v] rfl rfl ?d1 ?d2 ?d3 ?d4 ?d5 ?_)
 case d1 =>
  intro j u hj
  match j,hj with
  | 0,hj=>simp at hj;subst hj;simp [Addr.add]
 case d2=>intro u hu;simp at hu;subst hu;rfl
 case d3=>unfold maxLen;omega
 case d4=>omega
 case d5=>simp;omega
 intro v2 W7 hown7 hgrow7 _
 have h7:=H6.out.grown2 HR6.out _ hgrow7
 obtain ⟨po',cap',rfl⟩:=own_slice hown7
 obtain ⟨q7,f7⟩:=h7.cellAt 21 (.slice po m.out.length cap) rfl
 obtain ⟨h8,h9⟩:=h7.put (m.out ++ [v]) (m.out.length+1) (by simp) po' cap' hown7
 rw [<- hm'] at h8 h9
 have HT:Hid (Two w (W7.setCell ⟨w.heap.size,21,none⟩ (.slice po' (m.out.length+1) cap')) m' po' cap' cZ):=h8
 rw [<- outC_snoc] at h9
 have hmo:m'.out=m.out ++ [v]:=by rw [hm']
 have HSl:Hid (Sl ((W7.setCell ⟨w.heap.size,21,none⟩ (.slice po' (m.out.length+1) cap')).setRow (w.heap.size+1) (cellsM m' po' cap')) po' m'.out cap'):=by show Sl _ _ _ _;rw [hmo];exact own_sl h9 (by simp)
 have HFr:Hid (∀ p,po'=some p->w.heap.size<=p.block):=fun p e=>own_at hown7 p e
 clear h7 h8 h9 hown7 hgrow7 hmo hm'
 go_upto_region 10 with fail
 refine wp_region_list ?_
 refine wpList_load_row rfl 30 _ rfl w.heap.size rfl _ _ (0,0) _ HT.out.box underlying30 rfl (infoMs _ _ _) ?_
 refine wpList_store_row rfl 30 _ _ rfl (w.heap.size+1) _ rfl rfl _ _ HT.out.res (infoMs _ _ _) (by rw [HZ.out,size_M,size_M]) (one_M _ _ _) ?_
 go_wp2
 exact bodyPost_ret (v:=.tuple #[.agg (cellsM m' po' cap'),.bool true]) (results_two results161 _ _ (w.heap.size+1) _ _ (0,0) _ _ rfl rfl HT.out.last.1 underlying30 rfl (infoMs _ _ _)) rfl ⟨.inl ⟨m',po',cap',HRR.out.trans HQ.out,rfl,HSl.out,.inr HFr.out⟩,HT.out.last.2⟩
theorem sw_cart (m:M) (po:Option Addr) (cap:Nat) (addr v:Int) (w:World) (hr:Rt m) (hN:Sl w po m.out cap) (b0:inB addr 49152 49407=false) (b1:inB addr 65408 65534=false) (b2:¬ addr=65281) (a0:inB addr 0 65535=true) (v0:inB v 0 255=true) :
  Calls prog 161 #[.agg (cellsM m po cap),.int .i64 addr,.int .i64 v] w fun e w'=>SPost w w' m po cap (wrM m addr v) e:=by
 have hz:=zeroM
 have H0:Hid (∀ W,Below w.heap.size w W->Sl W po m.out cap):=fun W h=>hN.below h
 have HC:Hid (∀ W,Calls prog 237 #[.agg #[.string m.rom,.int .i64 m.kind,.int .i64 m.bank,.string m.ram,.int .i64 m.rb,.bool m.on,.int .i64 m.mode],.int .i64 addr,.int .i64 v] W fun e w'=>e=.returned (wrote m.rom m.kind m.bank m.ram m.rb m.on m.mode addr v)/\Below W.heap.size W w'):=fun W=>CartU.swrite_right m.rom m.kind m.bank m.ram m.rb m.on m.mode addr v W hr.rom hr.ram hr.cart a0 v0
 have b2':(addr == 65281)=false:=by simpa using b2
 obtain ⟨r,hrr⟩ : ∃ r,r=wrM m addr v:=⟨_,rfl⟩
 have HRR:Hid (r=wrM m addr v):=hrr
 rw [<- hrr]
 clear hrr
 obtain ⟨cM,hcM⟩ : ∃ c,c=cellsM m po cap:=⟨_,rfl⟩
 obtain ⟨cZ,hcZ⟩ : ∃ c,c=cellsM Z0 none 0:=⟨_,rfl⟩
 have HM:Hid (cM=cellsM m po cap):=hcM
 have HZ:Hid (cZ=cellsM Z0 none 0):=hcZ
 rw [<- hcM]
 rw [<- hcZ] at hz
 clear hcM hcZ hN
 go_enter func161,ntmps161
 go_upto_region 2 with fail
 have h2:=two_enter w m po cap cM cZ HM.out
 generalize (w.alloc (.cells cM 30)).alloc (.cells cZ 30)=W0 at *
 have H2:Hid (Two w W0 m po cap cZ):=h2
 have hlt:=h2.lt
 have hlt0:w.heap.size<W0.heap.size:=by omega
 obtain ⟨q12,f12⟩:=h2.cellAt 12 (.string m.rom) rfl
 obtain ⟨q13,f13⟩:=h2.cellAt 13 (.int .i64 m.kind) rfl
 obtain ⟨q14,f14⟩:=h2.cellAt 14 (.int .i64 m.bank) rfl
 obtain ⟨q15,f15⟩:=h2.cellAt 15 (.string m.ram) rfl
 obtain ⟨q16,f16⟩:=h2.cellAt 16 (.int .i64 m.rb) rfl
 obtain ⟨q17,f17⟩:=h2.cellAt 17 (.bool m.on) rfl
 obtain ⟨q18,f18⟩:=h2.cellAt 18 (.int .i64 m.mode) rfl
 obtain ⟨m',HQ0,hout,HE0⟩ : ∃ m',wrM m addr v=some m'/\m'.out=m.out/\∀ w1,Below W0.heap.size W0 w1->Two w (((((((w1.setCell ⟨w.heap.size,12,none⟩ (.string m.rom)).setCell ⟨w.heap.size,13,none⟩ (.int .i64 m.kind)).setCell ⟨w.heap.size,14,none⟩ (.int .i64 (wBank m.kind m.bank addr v))).setCell ⟨w.heap.size,15,none⟩ (.string (wRam m.kind m.ram m.rb m.on m.mode addr v))).setCell ⟨w.heap.size,16,none⟩ (.int .i64 (wRb m.kind m.rb addr v))).setCell ⟨w.heap.size,17,none⟩ (.bool (wOn m.kind m.on addr v))).setCell ⟨w.heap.size,18,none⟩ (.int .i64 (wMode m.kind m.mode addr v))) m' po cap cZ :=
  ⟨{ m with bank:=wBank m.kind m.bank addr v,ram:=wRam m.kind m.ram m.rb m.on m.mode addr v,rb:=wRb m.kind m.rb addr v,on:=wOn m.kind m.on addr v,mode:=wMode m.kind m.mode addr v },by unfold wrM;rw [if_neg (by rw [b0];decide),if_neg (by rw [b1];decide),if_neg b2],rfl,fun w1 hb=>by
   have hg0:w1.grownBy w1 (some w.heap.size):=⟨rfl,rfl,rfl,Nat.le_refl _,fun _ _ _=>rfl⟩
   exact (h2.step hb).turn (set_step (i:=18) (v:=.int .i64 (wMode m.kind m.mode addr v)) (set_step (i:=17) (v:=.bool (wOn m.kind m.on addr v)) (set_step (i:=16) (v:=.int .i64 (wRb m.kind m.rb addr v)) (set_step (i:=15) (v:=.string (wRam m.kind m.ram m.rb m.on m.mode addr v)) (set_step (i:=14) (v:=.int .i64 (wBank m.kind m.bank addr v)) (set_step (i:=13) (v:=.int .i64 m.kind) (set_step (i:=12) (v:=.string m.rom) hg0))))))) (put_cart (h2.step hb).box _ _ _ _ _)⟩
 have HQ:Hid (r=some m'):=HRR.out.trans HQ0
 have HE:Hid (∀ w1,Below W0.heap.size W0 w1->Two w (((((((w1.setCell ⟨w.heap.size,12,none⟩ (.string m.rom)).setCell ⟨w.heap.size,13,none⟩ (.int .i64 m.kind)).setCell ⟨w.heap.size,14,none⟩ (.int .i64 (wBank m.kind m.bank addr v))).setCell ⟨w.heap.size,15,none⟩ (.string (wRam m.kind m.ram m.rb m.on m.mode addr v))).setCell ⟨w.heap.size,16,none⟩ (.int .i64 (wRb m.kind m.rb addr v))).setCell ⟨w.heap.size,17,none⟩ (.bool (wOn m.kind m.on addr v))).setCell ⟨w.heap.size,18,none⟩ (.int .i64 (wMode m.kind m.mode addr v))) m' po cap cZ):=HE0
 have HX:Hid (∀ w1,Below W0.heap.size W0 w1->Two w w1 m po cap cZ):=fun w1 hb=>h2.step hb
 have HO:Hid (m'.out=m.out):=hout
 clear h2 hz hr v0 a0 b2 HQ0 hout HE0
 unfold wrote at HC
 generalize wBank m.kind m.bank addr v=x14 at *
 generalize wRam m.kind m.ram m.rb m.on m.mode addr v=x15 at *
 generalize wRb m.kind m.rb addr v=x16 at *
 generalize wOn m.kind m.on addr v=x17 at *
 generalize wMode m.kind m.mode addr v=x18 at *
 go_upto_region 10 with first|(go_at_call 42;refine (l1In_any _ _ _ _).mono ?_;rintro e w' ⟨rfl,hw'⟩;have hw':=hw'.symm;subst hw';first|rw [b0]|rw [b1])|(go_at_call 237;refine (HC.out _).mono ?_;rintro e w1 ⟨rfl,hb1⟩;obtain ⟨k12,l12⟩:=(HX.out w1 hb1).cellAt 12 (.string m.rom) rfl;obtain ⟨k13,l13⟩:=(HX.out w1 hb1).cellAt 13 (.int .i64 m.kind) rfl;obtain ⟨k14,l14⟩:=(HX.out w1 hb1).cellAt 14 (.int .i64 m.bank) rfl;obtain ⟨k15,l15⟩:=(HX.out w1 hb1).cellAt 15 (.string m.ram) rfl;obtain ⟨k16,l16⟩:=(HX.out w1 hb1).cellAt 16 (.int .i64 m.rb) rfl;obtain ⟨k17,l17⟩:=(HX.out w1 hb1).cellAt 17 (.bool m.on) rfl;obtain ⟨k18,l18⟩:=(HX.out w1 hb1).cellAt 18 (.int .i64 m.mode) rfl;have HB1:Hid (Below W0.heap.size W0 w1):=hb1;clear hb1)
 have HT:Hid (Two w (((((((w1.setCell ⟨w.heap.size,12,none⟩ (.string m.rom)).setCell ⟨w.heap.size,13,none⟩ (.int .i64 m.kind)).setCell ⟨w.heap.size,14,none⟩ (.int .i64 x14)).setCell ⟨w.heap.size,15,none⟩ (.string x15)).setCell ⟨w.heap.size,16,none⟩ (.int .i64 x16)).setCell ⟨w.heap.size,17,none⟩ (.bool x17)).setCell ⟨w.heap.size,18,none⟩ (.int .i64 x18)) m' po cap cZ):=HE.out w1 HB1.out
 have HSl:Hid (Sl ((((((((w1.setCell ⟨w.heap.size,12,none⟩ (.string m.rom)).setCell ⟨w.heap.size,13,none⟩ (.int .i64 m.kind)).setCell ⟨w.heap.size,14,none⟩ (.int .i64 x14)).setCell ⟨w.heap.size,15,none⟩ (.string x15)).setCell ⟨w.heap.size,16,none⟩ (.int .i64 x16)).setCell ⟨w.heap.size,17,none⟩ (.bool x17)).setCell ⟨w.heap.size,18,none⟩ (.int .i64 x18)).setRow (w.heap.size+1) (cellsM m' po cap)) po m'.out cap):=by show Sl _ _ _ _;rw [HO.out];exact H0.out _ HT.out.last.2
 refine wp_region_list ?_
 refine wpList_load_row rfl 30 _ rfl w.heap.size rfl _ _ (0,0) _ HT.out.box underlying30 rfl (infoMs _ _ _) ?_
 refine wpList_store_row rfl 30 _ _ rfl (w.heap.size+1) _ rfl rfl _ _ HT.out.res (infoMs _ _ _) (by rw [HZ.out,size_M,size_M]) (one_M _ _ _) ?_
 go_wp2
 exact bodyPost_ret (v:=.tuple #[.agg (cellsM m' po cap),.bool true]) (results_two results161 _ _ (w.heap.size+1) _ _ (0,0) _ _ rfl rfl HT.out.last.1 underlying30 rfl (infoMs _ _ _)) rfl ⟨.inl ⟨m',po,cap,HQ.out,rfl,HSl.out,.inl rfl⟩,HT.out.last.2⟩
theorem swrite_any (m:M) (po:Option Addr) (cap:Nat) (addr v:Int) (w:World) (hr:Rt m) (hN:Sl w po m.out cap) (a0:inB addr 0 65535=true) (v0:inB v 0 255=true) :
  Calls prog 161 #[.agg (cellsM m po cap),.int .i64 addr,.int .i64 v] w fun e w'=>SPost w w' m po cap (wrM m addr v) e:=by
 cases h1:inB addr 49152 49407 with
 | true=>exact sw_work m po cap addr v w hr hN h1 v0
 | false =>
  cases h2:inB addr 65408 65534 with
  | true=>exact sw_high m po cap addr v w hr hN h1 h2 v0
  | false =>
   by_cases h3:addr=65281
   ·have ho:=hr.out
    by_cases h4:m.out.length=100
    ·exact sw_full m po cap addr v w hr hN h3 h4
    ·exact sw_out m po cap addr v w hr hN h3 (by omega)
   ·exact sw_cart m po cap addr v w hr hN h1 h2 h3 a0 v0
end Busy
namespace Stpp
open Signed (inB sgn)
open Reck ReckS ReckM ReckD TurnS
open Busw (M wrM Rt)
def rd (m:M) (a:Int):Int:=MachB.busV m.rom m.kind m.bank m.ram m.rb m.on m.mode m.work m.high a
theorem rd_bd (m:M) (a:Int):0<=rd m a/\rd m a<=255:=by
 unfold rd MachB.busV
 split
 ·exact CartR.byteAt_bd _ _
 ·split
  ·exact CartR.byteAt_bd _ _
  ·exact CartR.rdV_bd _ _ _ _ _ _
structure S where
 m:M
 full:Bool
def wr (s:S) (a v:Int):S:=match wrM s.m (a%65536) v with|some m'=>⟨m',s.full⟩|none=>⟨s.m,true⟩
def hl (m:M):Int:=256*m.rH+m.rL
def reg (m:M) (n:Int):Int:=if n=0 then m.rB else if n=1 then m.rC else if n=2 then m.rD else if n=3 then m.rE else if n=4 then m.rH else if n=5 then m.rL else m.ra
def setR (m:M) (n v:Int):M:=if n=0 then { m with rB:=v } else if n=1 then { m with rC:=v } else if n=2 then { m with rD:=v } else if n=3 then { m with rE:=v } else if n=4 then { m with rH:=v } else if n=5 then { m with rL:=v } else { m with ra:=v }
def get (m:M) (n:Int):Int:=if n=6 then rd m (hl m) else reg m n
def put (s:S) (n v:Int):S:=if n=6 then wr s (hl s.m) v else ⟨setR s.m n v,s.full⟩
def pr (m:M) (p:Int):Int:=if p=0 then 256*m.rB+m.rC else if p=1 then 256*m.rD+m.rE else if p=2 then 256*m.rH+m.rL else m.sp
def setP (m:M) (p v:Int):M:=if p=0 then { m with rB:=v / 256,rC:=v%256 } else if p=1 then { m with rD:=v / 256,rE:=v%256 } else if p=2 then { m with rH:=v / 256,rL:=v%256 } else { m with sp:=v }
def prQ (m:M) (p:Int):Int:=if p=3 then 256*m.ra+m.rf else pr m p
def setQ (m:M) (p v:Int):M:=if p=3 then { m with ra:=v / 256,rf:=v%256 / 16*16 } else setP m p v
def push (s:S) (v:Int):S:=⟨{ (wr (wr s (s.m.sp+65535) (v / 256)) (s.m.sp+65534) (v%256)).m with sp:=(s.m.sp+65534)%65536 },(wr (wr s (s.m.sp+65535) (v / 256)) (s.m.sp+65534) (v%256)).full⟩
def popV (m:M):Int:=rd m m.sp+256*rd m ((m.sp+1)%65536)
def popM (m:M):M:={ m with sp:=(m.sp+2)%65536 }
def cond (m:M) (k:Int):Bool:=decide (m.rf / (if 1<k then 16 else 128)%2=k%2)
def bitV (y:Int):Int:=if y=0 then 1 else if y=1 then 2 else if y=2 then 4 else if y=3 then 8 else if y=4 then 16 else if y=5 then 32 else if y=6 then 64 else 128
def F (s:S) (f:Int):S:=⟨{ s.m with rf:=f },s.full⟩
def AF (s:S) (p:Int × Int):S:=⟨{ s.m with ra:=p.1,rf:=p.2 },s.full⟩
def cbE (code:Int) (s:S):S :=
 if code / 64=0 then F (put s (code%8) (trnR (code / 8%8) (get s.m (code%8)) s.m.rf).1) (trnR (code / 8%8) (get s.m (code%8)) s.m.rf).2
 else if code / 64=1 then F s (fl (decide (bits .and .i64 (get s.m (code%8)) (bitV (code / 8%8))=0)) false true (cB s.m.rf))
 else if code / 64=2 then put s (code%8) (bits .andNot .i64 (get s.m (code%8)) (bitV (code / 8%8)))
 else put s (code%8) (bits .or .i64 (get s.m (code%8)) (bitV (code / 8%8)))
def oddE (y:Int) (s:S):S :=
 if y=4 then AF s (daaR s.m.ra s.m.rf)
 else if y=5 then AF s (255-s.m.ra,fl (zB s.m.rf) true true (cB s.m.rf))
 else if y=6 then F s (fl (zB s.m.rf) false false true)
 else if y=7 then F s (fl (zB s.m.rf) false false (!cB s.m.rf))
 else AF s ((trnR y s.m.ra s.m.rf).1,fl false false false (cB (trnR y s.m.ra s.m.rf).2))
def spE (imm:Int) (s:S):S:=wr (wr s imm (s.m.sp%256)) (imm+1) (s.m.sp / 256)
def jrE (imm:Int) (s:S):S:=⟨{ s.m with pc:=(s.m.pc+sgn imm+65536)%65536 },s.full⟩
def addE (p:Int) (s:S):S:=⟨{ setP s.m 2 (awR (hl s.m) (pr s.m p) s.m.rf).1 with rf:=(awR (hl s.m) (pr s.m p) s.m.rf).2 },s.full⟩
def placeOf (m:M) (p:Int):Int:=pr m (if p<2 then p else 2)
def stepHl (m:M) (p:Int):M:=if 1<p then setP m 2 ((hl m+(if p=2 then 1 else 65535))%65536) else m
def stE (p:Int) (s:S):S:=⟨stepHl (wr s (placeOf s.m p) s.m.ra).m p,(wr s (placeOf s.m p) s.m.ra).full⟩
def ldE (p:Int) (s:S):S:=⟨stepHl { s.m with ra:=rd s.m (placeOf s.m p) } p,s.full⟩
def lowE (code imm:Int) (s:S):S × Bool :=
 if code%8=0 then (if code / 8=1 then (spE imm s,false) else if code / 8=3 \/ (3<code / 8/\cond s.m (code / 8-4)=true) then (jrE imm s,true) else (s,false))
 else if code%8=1 then (if code / 8%2=0 then (⟨setP s.m (code / 8 / 2) imm,s.full⟩,false) else (addE (code / 8 / 2) s,false))
 else if code%8=2 then (if code / 8%2=0 then (stE (code / 8 / 2) s,false) else (ldE (code / 8 / 2) s,false))
 else if code%8=3 then (⟨setP s.m (code / 8 / 2) ((pr s.m (code / 8 / 2)+(if code / 8%2=0 then 1 else 65535))%65536),s.full⟩,false)
 else if code%8=4 then (F (put s (code / 8) (st8R (get s.m (code / 8)) s.m.rf false).1) (st8R (get s.m (code / 8)) s.m.rf false).2,false)
 else if code%8=5 then (F (put s (code / 8) (st8R (get s.m (code / 8)) s.m.rf true).1) (st8R (get s.m (code / 8)) s.m.rf true).2,false)
 else if code%8=6 then (put s (code / 8) imm,false)
 else (oddE (code / 8) s,false)
def retE (i:Bool) (s:S):S:=⟨{ popM s.m with pc:=popV s.m,ime:=s.m.ime || i },s.full⟩
def A (s:S) (v:Int):S:=⟨{ s.m with ra:=v },s.full⟩
def callE (at_:Int) (s:S):S:=⟨{ (push s s.m.pc).m with pc:=at_ },(push s s.m.pc).full⟩
def topE (code imm:Int) (s:S):S × Bool :=
 if (code%8=0/\code / 8%8<4/\cond s.m (code / 8%8)=true) \/ code=201 \/ code=217 then (retE (decide (code=217)) s,true)
 else if code=224 then (wr s (65280+imm) s.m.ra,false)
 else if code=226 then (wr s (65280+s.m.rC) s.m.ra,false)
 else if code=240 then (A s (rd s.m (65280+imm)),false)
 else if code=242 then (A s (rd s.m (65280+s.m.rC)),false)
 else if code=234 then (wr s imm s.m.ra,false)
 else if code=250 then (A s (rd s.m imm),false)
 else if code=232 then (⟨{ s.m with sp:=(asR s.m.sp imm).1,rf:=(asR s.m.sp imm).2 },s.full⟩,false)
 else if code=248 then (⟨{ setP s.m 2 (asR s.m.sp imm).1 with rf:=(asR s.m.sp imm).2 },s.full⟩,false)
 else if code=249 then (⟨{ s.m with sp:=hl s.m },s.full⟩,false)
 else if code=233 then (⟨{ s.m with pc:=hl s.m },s.full⟩,false)
 else if code%8=1/\code / 8%8%2=0 then (⟨setQ (popM s.m) (code / 8%8 / 2) (popV s.m),s.full⟩,false)
 else if code%8=5/\code / 8%8%2=0 then (push s (prQ s.m (code / 8%8 / 2)),false)
 else if (code%8=2/\code / 8%8<4/\cond s.m (code / 8%8)=true) \/ code=195 then (⟨{ s.m with pc:=imm },s.full⟩,true)
 else if code=243 \/ code=251 then (⟨{ s.m with ime:=decide (code=251) },s.full⟩,false)
 else if (code%8=4/\cond s.m (code / 8%8)=true) \/ code=205 then (callE imm s,true)
 else if code%8=6 then (AF s (aluR (code / 8%8) s.m.ra imm s.m.rf),false)
 else if code%8=7 then (callE (8*(code / 8%8)) s,false)
 else (s,false)
def sem (code:Int) (cb:Bool) (imm:Int) (s:S):S × Bool :=
 if cb=true then (cbE code s,false)
 else if code<64 then lowE code imm s
 else if code=118 then (⟨{ s.m with hal:=true },s.full⟩,false)
 else if code<128 then (put s (code / 8%8) (get s.m (code%8)),false)
 else if code<192 then (AF s (aluR (code / 8%8) s.m.ra (get s.m (code%8)) s.m.rf),false)
 else topE code imm s
def withCpu (m c:M):M:={ m with ra:=c.ra,rf:=c.rf,rB:=c.rB,rC:=c.rC,rD:=c.rD,rE:=c.rE,rH:=c.rH,rL:=c.rL,sp:=c.sp,pc:=c.pc,ime:=c.ime,hal:=c.hal,cyc:=c.cyc }
theorem wrM_cpu (m c:M) (a v:Int):wrM (withCpu m c) a v=(wrM m a v).map (fun m'=>withCpu m' c):=by
 unfold wrM
 by_cases h1:inB a 49152 49407=true
 ·rw [if_pos h1,if_pos h1];rfl
 rw [if_neg h1,if_neg h1]
 by_cases h2:inB a 65408 65534=true
 ·rw [if_pos h2,if_pos h2];rfl
 rw [if_neg h2,if_neg h2]
 by_cases h3:a=65281
 ·rw [if_pos h3,if_pos h3]
  by_cases h4:100<=m.out.length
  ·have h5:100<=(withCpu m c).out.length:=h4
   rw [if_pos h4,if_pos h5];rfl
  ·have h5:¬ 100<=(withCpu m c).out.length:=h4
   rw [if_neg h4,if_neg h5];rfl
 ·rw [if_neg h3,if_neg h3];rfl
theorem withCpu_self (m:M):withCpu m m=m:=rfl
theorem wrM_same {m m':M} {a v:Int} (h:wrM m a v=some m'):withCpu m' m=m':=by
 have h2:=wrM_cpu m m a v
 rw [withCpu_self,h] at h2
 exact (Option.some.inj h2).symm
theorem wr_cpu (m c:M) (f:Bool) (a v:Int):wr ⟨withCpu m c,f⟩ a v=⟨withCpu (wr ⟨m,f⟩ a v).m c,(wr ⟨m,f⟩ a v).full⟩:=by
 unfold wr
 have h:=wrM_cpu m c (a%65536) v
 simp only []
 rw [h]
 cases wrM m (a%65536) v <;> rfl
theorem wr_same (s:S) (a v:Int):withCpu (wr s a v).m s.m=(wr s a v).m:=by
 unfold wr
 cases h:wrM s.m (a%65536) v with
 | none=>rfl
 | some m'=>exact wrM_same h
end Stpp
end Go.Proofs.YteglcgnhhoenbaaGreatDoor
