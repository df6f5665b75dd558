import Derived.Test.YteglcgnhhoenbaaGreatDoorP40
import Derived.OrdersHeld
import Derived.Shelf.Abstract
import Derived.Laws.CopyOwn
set_option linter.all false
set_option maxRecDepth 20000
set_option maxHeartbeats 8000000
open Go.ChangeShapes Go.WideShapes Go.ChangeAt Go.RowKit
open Go.Proofs.Tryz
namespace Go.Proofs.YteglcgnhhoenbaaGreatDoor
namespace Stoc
open Go.Deep
open Plac
theorem index_any (a:Option Addr) (cap:Nat) (L:List (Int × Int)) (x y:Int) (w:World) (hN:Stops w a L) (hl:L.length<=1048576) :
  Calls prog 80 #[.slice a L.length cap,.agg #[.int .i64 x,.int .i64 y]] w fun e w'=>(∃ r:Int,e=.returned (.int .i64 r)/\decide (0<=r)=L.any (fun s=>s == (x,y)))/\Below w.heap.size w w':=by
 have HN:Hid (Stops w a L):=hN
 clear hN
 obtain ⟨sl,hsl⟩ : ∃ n,n=L.length:=⟨_,rfl⟩
 have HSL:Hid (sl=L.length):=hsl
 rw [<- hsl] at hl |-
 clear hsl
 go_enter func80,ntmps80
 go_wp2_with fail
 have B0:Hid (Below w.heap.size w (w.alloc (.cells #[.int .i64 x,.int .i64 y] 40))/\(w.alloc (.cells #[.int .i64 x,.int .i64 y] 40)).heap[w.heap.size]? = some (.cells #[.int .i64 x,.int .i64 y] 40)):=⟨(Below.refl _ w).alloc (Nat.le_refl _) _,heap_alloc_new w _⟩
 go_loopw [8] (fun i wr=>∃ (k:Nat),k<=sl/\i=.int .i64 (k:Int)/\Hid (∀ i (h:i<L.length),i<k->L[i] ≠ (x,y))/\Hid (Below w.heap.size w wr/\wr.heap[w.heap.size]? = some (.cells #[.int .i64 x,.int .i64 y] 40))) (fun i _=>sl-(intOf i).toNat)
 case atStart=>exact ⟨0,Nat.zero_le _,rfl,fun i _ h=>absurd h (Nat.not_lt_zero _),B0.out⟩
 case round =>
  clear B0
  obtain ⟨k,hk,rfl,HNO,HB⟩:=hrel
  by_cases hlt:k<sl
  ·have hkL:k<L.length:=by have:=HSL.out;omega
   rcases HN.out with hnil|⟨b,off,hsa,hb,hc⟩
   ·exfalso;rw [hnil] at hkL;exact absurd hkL (by simp)
   subst hsa
   obtain ⟨c0,c1⟩ : wr.cell? ⟨b,off+k*2,none⟩=some (.int .i64 L[k].1)/\wr.cell? ⟨b,off+k*2+1,none⟩=some (.int .i64 L[k].2):=⟨(HB.out.1.cell (p:=⟨b,_,none⟩) hb).trans (hc k hkL).1,(HB.out.1.cell (p:=⟨b,_,none⟩) hb).trans (hc k hkL).2⟩
   have HBL:Hid (b<wr.heap.size):=Nat.lt_of_lt_of_le hb HB.out.1.size
   have HLP:Hid (L[k]=(x,y) ↔ L[k].1=x/\L[k].2=y):=Prod.ext_iff
   obtain ⟨p,hp⟩ : ∃ z,z=L[k].1:=⟨_,rfl⟩
   obtain ⟨q,hq⟩ : ∃ z,z=L[k].2:=⟨_,rfl⟩
   rw [<- hp] at c0 HLP
   rw [<- hq] at c1 HLP
   clear hp hq hc hb
   have k0:(0:Int)<=(k:Int):=by omega
   have k1:(k:Int)<(sl:Int):=by omega
   have l1:∀ d os,(loadVar 40 ⟨w.heap.size,0,none⟩).run prog (Go.Sort.grow (redrawn wr d) os)=.ok (.agg #[.int .i64 x,.int .i64 y]) (Go.Sort.grow (redrawn wr d) os):=fun d os=>run_loadVar_row _ w.heap.size 40 40 _ (0,0) _ (((below_regrown wr d os).block w.heap.size (zLo HB.out.2)).trans HB.out.2) underlying40 rfl (by kernel_rfl)
   have l0:∀ d os,(loadVar 40 ⟨b,off+k*2,none⟩).run prog (Go.Sort.grow (redrawn wr d) os)=.ok (.agg #[.int .i64 p,.int .i64 q]) (Go.Sort.grow (redrawn wr d) os):=fun d os=>run_loadVar_mid _ b (off+k*2) 40 [.int .i64 p,.int .i64 q] _ (by
    intro j v hv
    have hr:=(below_regrown wr d os)
    match j with
    | 0=>simp at hv;subst hv;exact (hr.cell (p:=⟨b,_,none⟩) HBL.out).trans c0
    | 1=>simp at hv;subst hv;exact (hr.cell (p:=⟨b,_,none⟩) HBL.out).trans c1
    | j+2=>simp at hv) underlying40 rfl (by kernel_rfl)
   by_cases hxp:x=p
   ·by_cases hya:y=q
    ·subst hxp hya
     have HYES:Hid (decide ((0:Int)<=(k:Int))=L.any (fun s=>s == (x,y))):=by
      show _=_
      have:L.any (fun s=>s == (x,y))=true:=by
       rw [List.any_eq_true]
       exact ⟨L[k],List.getElem_mem hkL,by simpa using HLP.out.2 ⟨rfl,rfl⟩⟩
      rw [this];exact decide_eq_true k0
     go_upto_region 4 with fail
     refine wp_region_quiet_below (by kernel_rfl) (by kernel_rfl) ?_
     repeat (first|(go_big_quiet_step (first|fail))|(refine Stps.wpQuiet_load (by rfl) 40 _ rfl ⟨w.heap.size,0,none⟩ rfl _ (fun W hW=>by obtain ⟨⟨d,o⟩,rfl⟩:=hW;exact l1 d o) ?_;simp only [Act.put,List.setIfInBounds_toArray,List.set_cons_succ,List.set_cons_zero])|(refine Stps.wpQuiet_load (by rfl) 40 _ rfl ⟨b,off+k*2,none⟩ rfl _ (fun W hW=>by obtain ⟨⟨d,o⟩,rfl⟩:=hW;exact l0 d o) ?_;simp only [Act.put,List.setIfInBounds_toArray,List.set_cons_succ,List.set_cons_zero]))
     refine wpQuiet_nil ?_
     intro _ hw'
     obtain ⟨⟨dq,osq⟩,hw''⟩:=hw'
     subst hw''
     have hr:=below_regrown wr dq osq
     obtain ⟨wz,hwz⟩ : ∃ z,z=Go.Sort.grow (redrawn wr dq) osq:=⟨_,rfl⟩
     rw [<- hwz] at hr
     rw [<- hwz]
     have HZ:Hid (Below w.heap.size w wz/\wz.heap[w.heap.size]? = some (.cells #[.int .i64 x,.int .i64 y] 40)):=⟨HB.out.1.trans (hr.mono HB.out.1.size),(hr.block _ (zLo HB.out.2)).trans HB.out.2⟩
     clear hwz hr l0 l1
     clear c0 c1
     go_wp2
     go_ret
     exact ⟨⟨_,rfl,HYES.out⟩,HZ.out.1⟩
    ·have e1:(y == q)=false:=by simpa using hya
     have HNE:Hid (L[k] ≠ (x,y)):=fun h=>hya (HLP.out.1 h).2.symm
     subst hxp
     go_upto_region 4 with fail
     refine wp_region_quiet_below (by kernel_rfl) (by kernel_rfl) ?_
     repeat (first|(go_big_quiet_step (first|fail))|(refine Stps.wpQuiet_load (by rfl) 40 _ rfl ⟨w.heap.size,0,none⟩ rfl _ (fun W hW=>by obtain ⟨⟨d,o⟩,rfl⟩:=hW;exact l1 d o) ?_;simp only [Act.put,List.setIfInBounds_toArray,List.set_cons_succ,List.set_cons_zero])|(refine Stps.wpQuiet_load (by rfl) 40 _ rfl ⟨b,off+k*2,none⟩ rfl _ (fun W hW=>by obtain ⟨⟨d,o⟩,rfl⟩:=hW;exact l0 d o) ?_;simp only [Act.put,List.setIfInBounds_toArray,List.set_cons_succ,List.set_cons_zero]))
     refine wpQuiet_nil ?_
     intro _ hw'
     obtain ⟨⟨dq,osq⟩,hw''⟩:=hw'
     subst hw''
     have hr:=below_regrown wr dq osq
     obtain ⟨wz,hwz⟩ : ∃ z,z=Go.Sort.grow (redrawn wr dq) osq:=⟨_,rfl⟩
     rw [<- hwz] at hr
     rw [<- hwz]
     have HZ:Hid (Below w.heap.size w wz/\wz.heap[w.heap.size]? = some (.cells #[.int .i64 x,.int .i64 y] 40)):=⟨HB.out.1.trans (hr.mono HB.out.1.size),(hr.block _ (zLo HB.out.2)).trans HB.out.2⟩
     clear hwz hr l0 l1
     clear c0 c1
     go_wp2_with fail
     go_roundw
     case rel =>
      refine ⟨k+1,by omega,by go_num,fun i hi h=>?_,HZ.out⟩
      by_cases e:i=k
      ·subst e;exact HNE.out
      ·exact HNO.out i hi (by omega)
     case measure=>simp [intOf];omega
   ·have e0:(x == p)=false:=by simpa using hxp
    have HNE:Hid (L[k] ≠ (x,y)):=fun h=>hxp (HLP.out.1 h).1.symm
    go_upto_region 4 with fail
    refine wp_region_quiet_below (by kernel_rfl) (by kernel_rfl) ?_
    repeat (first|(go_big_quiet_step (first|fail))|(refine Stps.wpQuiet_load (by rfl) 40 _ rfl ⟨w.heap.size,0,none⟩ rfl _ (fun W hW=>by obtain ⟨⟨d,o⟩,rfl⟩:=hW;exact l1 d o) ?_;simp only [Act.put,List.setIfInBounds_toArray,List.set_cons_succ,List.set_cons_zero])|(refine Stps.wpQuiet_load (by rfl) 40 _ rfl ⟨b,off+k*2,none⟩ rfl _ (fun W hW=>by obtain ⟨⟨d,o⟩,rfl⟩:=hW;exact l0 d o) ?_;simp only [Act.put,List.setIfInBounds_toArray,List.set_cons_succ,List.set_cons_zero]))
    refine wpQuiet_nil ?_
    intro _ hw'
    obtain ⟨⟨dq,osq⟩,hw''⟩:=hw'
    subst hw''
    have hr:=below_regrown wr dq osq
    obtain ⟨wz,hwz⟩ : ∃ z,z=Go.Sort.grow (redrawn wr dq) osq:=⟨_,rfl⟩
    rw [<- hwz] at hr
    rw [<- hwz]
    have HZ:Hid (Below w.heap.size w wz/\wz.heap[w.heap.size]? = some (.cells #[.int .i64 x,.int .i64 y] 40)):=⟨HB.out.1.trans (hr.mono HB.out.1.size),(hr.block _ (zLo HB.out.2)).trans HB.out.2⟩
    clear hwz hr l0 l1
    clear c0 c1
    go_wp2_with fail
    go_roundw
    case rel =>
     refine ⟨k+1,by omega,by go_num,fun i hi h=>?_,HZ.out⟩
     by_cases e:i=k
     ·subst e;exact HNE.out
     ·exact HNO.out i hi (by omega)
    case measure=>simp [intOf];omega
  ·have HA:Hid (decide ((0:Int)<=-1)=L.any (fun s=>s == (x,y))):=by
    show _=_
    have:L.any (fun s=>s == (x,y))=false:=by
     rw [List.any_eq_false]
     intro s hs
     obtain ⟨i,hi,rfl⟩:=List.getElem_of_mem hs
     simpa using HNO.out i hi (by have:=HSL.out;omega)
    rw [this];rfl
   go_wp2
   go_ret
   exact ⟨⟨_,rfl,HA.out⟩,HB.out.1⟩
theorem contains_any (a:Option Addr) (cap:Nat) (L:List (Int × Int)) (x y:Int) (w:World) (hN:Stops w a L) (hl:L.length<=1048576) :
  Calls prog 40 #[.slice a L.length cap,.agg #[.int .i64 x,.int .i64 y]] w fun e w'=>e=.returned (.bool (L.any (fun s=>s == (x,y))))/\Below w.heap.size w w':=by
 have HN:Hid (∀ W,Below w.heap.size w W->Stops W a L):=fun W h=>hN.below h
 have HI:Hid (∀ W,Stops W a L->Calls prog 80 #[.slice a L.length cap,.agg #[.int .i64 x,.int .i64 y]] W fun e w'=>(∃ r:Int,e=.returned (.int .i64 r)/\decide (0<=r)=L.any (fun s=>s == (x,y)))/\Below W.heap.size W w'):=fun W h=>index_any a cap L x y W h hl
 clear hN
 go_enter func40,ntmps40
 go_wp2_with fail
 refine Calls.mono (HI.out _ (HN.out _ (by repeat (with_reducible first|exact zRf|refine zGr ?_ _|refine below_drewN ?_ _|refine Below.drew ?_)))) ?_
 rintro e w1 ⟨⟨r,rfl,hr⟩,hb⟩
 have HB:Hid (Below w.heap.size w w1):=HolI.after (by repeat (with_reducible first|exact zRf|refine zGr ?_ _|refine below_drewN ?_ _|refine Below.drew ?_)) hb
 have HR:Hid (decide (0<=r)=L.any (fun s=>s == (x,y))):=hr
 clear hb hr
 go_wp2
 go_ret
 exact ⟨by rw [<- HR.out];rfl,HB.out⟩
end Stoc
namespace Rtoa
open Go.Deep
open Busw Busx Stpp Stpq Stpo Runp Runt Plac Stfr
open Rlaw (Free)
open MachT (heap_row heap_row_other below_row cel)
theorem opH {P:Program} {ops:Array Oper} {Q:Exit->Act->World->Prop} {S:World->Prop} {md:Region.Mode} {fuel:Nat} {listed:Array Bool} {a:Act} {w:World} {i:Nat} {o:Oper} (ho:ops[i]? = some o) (hw:Region.wanted o (yielded ops a.tmps)=true)
  (h:∀ K':Act->World->Prop,(∀ a' w',S w'->wpAnyH P md ops Q S fuel (listed.setIfInBounds i true) a' w'->K' a' w')->Oper.wp P o a w K' Q):wpOp P ops Q i (fun a' w'=>S w'/\wpAnyH P md ops Q S fuel (listed.setIfInBounds i true) a' w') a w:=by
 unfold wpOp
 simp only [ho,hw,if_true]
 exact .inl (h _ fun a' w' hs h'=>⟨hs,h'⟩)
theorem load_yields {P:Program} {a:Act} {o:Oper} {w:World} (ty:TypeId) (x:Operand) (ho:o.op=.load ty x) (g:Nat) (hx:a.eval x=.pointer (some ⟨g,0,none⟩)) (t:TypeId) (cs:Array Value) (fr:Nat × Nat) (d:TypeDesc) (hg:w.heap[g]? = some (.cells cs t fr))
  (hu:P.underlying ty=some d) (hd:(match d with|.struct _|.array _ _=>true|_=>false)=true) (hi:(P.info? ty).map (·.size)=some cs.size):(execOp a.eval o).run P w=.ok (.value (.agg cs)) w:=by
 unfold execOp
 simp only [ho,hx,Instr.loadAt,Instr.sureAddr,Sem.run_bind,Sem.run_pure,Result.andThen_ok,run_loadVar_row w g t ty cs fr d hg hu hd hi]
theorem load_one (w:World) (g:Nat) (v:Value) (h:w.cell? ⟨g,0,none⟩=some v):(loadVar 2 ⟨g,0,none⟩).run prog w=.ok v w:=by
 simp [loadVar,isAgg,underlying,underlying2,h,go_sem]
theorem results_cells {P:Program} (l2:∀ (w:World) (g:Nat) (v:Value),w.cell? ⟨g,0,none⟩=some v->(loadVar 2 ⟨g,0,none⟩).run P w=.ok v w) {fn:Func} {p q r:Tmp} {ty:TypeId} (h:fn.results=#[.cell p ty,.cell q 2,.cell r 2]) (tmps:Array Value) (w:World) (g gq gr:Nat) (t:TypeId) (cs:Array Value) (fr:Nat × Nat) (d:TypeDesc) (v x:Value)
  (hp:tmps.getD p undef=.pointer (some ⟨g,0,none⟩)) (hq:tmps.getD q undef=.pointer (some ⟨gq,0,none⟩)) (hr:tmps.getD r undef=.pointer (some ⟨gr,0,none⟩)) (hg:w.heap[g]? = some (.cells cs t fr)) (cq:w.cell? ⟨gq,0,none⟩=some v) (cr:w.cell? ⟨gr,0,none⟩=some x)
  (hu:P.underlying ty=some d) (hd:(match d with|.struct _|.array _ _=>true|_=>false)=true) (hi:(P.info? ty).map (·.size)=some cs.size) :
  (results fn tmps).run P w=.ok (.tuple #[.agg cs,v,x]) w:=by
 have hp':tmps[p]?.getD undef=.pointer (some ⟨g,0,none⟩):=by simpa using hp
 have hq':tmps[q]?.getD undef=.pointer (some ⟨gq,0,none⟩):=by simpa using hq
 have hr':tmps[r]?.getD undef=.pointer (some ⟨gr,0,none⟩):=by simpa using hr
 simp [results,h,hp',hq',hr',asAddr,run_loadVar_row w g t ty cs fr d hg hu hd hi,l2 w gq v cq,l2 w gr x cr]
structure Bx (w:World) (cM:Array Value) (sv:Value) (W:World):Prop where
 m:W.heap[w.heap.size]? = some (.cells cM 30)
 s:W.heap[w.heap.size+1]? = some (.cells #[sv] 31)
 r:W.heap[w.heap.size+1+1]? = some (.cells (cellsM Z0 none 0) 30)
 c:W.heap[w.heap.size+1+1+1]? = some (.cells #[.int .i64 0] 2)
 d:W.heap[w.heap.size+1+1+1+1]? = some (.cells #[.int .i64 0] 2)
 bel:Below w.heap.size w W
theorem Bx.new (w:World) (cM:Array Value) (sv:Value):Bx w cM sv (((((w.alloc (.cells cM 30)).alloc (.cells #[sv] 31)).alloc (.cells (cellsM Z0 none 0) 30)).alloc (.cells #[.int .i64 0] 2)).alloc (.cells #[.int .i64 0] 2)):=by
 have k:∀ (u:World) (o:Obj) (i:Nat),i<u.heap.size->(u.alloc o).heap[i]? = u.heap[i]?:=fun u o i h=>alloc_kept _ _ h
 have l:∀ (u:World) (o:Obj) (i:Nat),i=u.heap.size->(u.alloc o).heap[i]? = some o:=fun u o i h=>by subst h;exact heap_alloc_last u o
 exact ⟨(k _ _ _ (by simp <;> omega)).trans ((k _ _ _ (by simp <;> omega)).trans ((k _ _ _ (by simp <;> omega)).trans ((k _ _ _ (by simp)).trans (l _ _ _ rfl)))),
  (k _ _ _ (by simp <;> omega)).trans ((k _ _ _ (by simp <;> omega)).trans ((k _ _ _ (by simp)).trans (l _ _ _ (by simp)))),(k _ _ _ (by simp <;> omega)).trans ((k _ _ _ (by simp)).trans (l _ _ _ (by simp))),(k _ _ _ (by simp)).trans (l _ _ _ (by simp)),l _ _ _ (by simp),by repeat (with_reducible first|exact zRf|refine zGr ?_ _|refine below_drewN ?_ _|refine Below.drew ?_)⟩
theorem Bx.same {w W W':World} {cM:Array Value} {sv:Value} (h:Bx w cM sv W) (hk:∀ k,k<w.heap.size+5->W'.heap[k]? = W.heap[k]?) (hb:Below w.heap.size w W'):Bx w cM sv W' :=
 ⟨(hk _ (by omega)).trans h.m,(hk _ (by omega)).trans h.s,(hk _ (by omega)).trans h.r,(hk _ (by omega)).trans h.c,(hk _ (by omega)).trans h.d,hb⟩
theorem Bx.lt {w W:World} {cM:Array Value} {sv:Value} (h:Bx w cM sv W):w.heap.size+5<=W.heap.size:=(zLo h.d)
theorem Bx.below {w W W':World} {cM:Array Value} {sv:Value} (h:Bx w cM sv W) (hb:Below W.heap.size W W'):Bx w cM sv W' :=
 h.same (fun k hk=>hb.block k (Nat.lt_of_lt_of_le hk h.lt)) (h.bel.trans (hb.mono h.bel.size))
theorem Bx.put {w W:World} {cM cM':Array Value} {sv:Value} (h:Bx w cM sv W):Bx w cM' sv (W.setRow w.heap.size cM') :=
 ⟨heap_row h.m,(heap_row_other (by omega) _).trans h.s,(heap_row_other (by omega) _).trans h.r,(heap_row_other (by omega) _).trans h.c,(heap_row_other (by omega) _).trans h.d,below_row h.bel (Nat.le_refl _)⟩
theorem Bx.cell {w W:World} {cM:Array Value} {sv v:Value} {D:Nat} (h:Bx w cM sv W) (hD:w.heap.size+5<=D):Bx w cM sv (W.setCell ⟨D,0,none⟩ v) :=
 h.same (fun k hk=>Below.heap_setCell _ _ _ _ (by simp;omega)) (h.bel.setCell (by simp;omega) _)
theorem Bx.put_obj {w W:World} {cM:Array Value} {sv:Value} {k U:Nat} {o o':Obj} (h:Bx w cM sv W) (hU:w.heap.size+5<=U) (hk:U<=k) (ho:W.heap[k]? = some o):Bx w cM sv (W.putObj k o') :=
 h.same (fun j hj=>World.putObj_heap_other (by omega)) (h.bel.grown (grownBy_putObj' W k o') (by have:=(zLo ho);omega) (fun j e=>by cases e;omega))
theorem own_put {W:World} {b n k e sz:Nat} {v:Value} {xs:List Value} {o o':Obj} (h:W.ownsRow b e sz v n xs) (hk:W.heap[k]? = some o) (ho:o.isCells=false):(W.putObj k o').ownsRow b e sz v n xs:=by
 rcases h with ⟨h1,h2|⟨g,c,cur,hv,hb,hg,r⟩⟩
 ·exact ⟨h1,.inl h2⟩
 ·exact ⟨h1,.inr ⟨g,c,cur,hv,hb,(World.putObj_heap_other (fun e=>by subst e;rw [hk] at hg;cases hg;cases ho)).trans hg,r⟩⟩
theorem own_cell {W:World} {b n cap D:Nat} {po:Option Addr} {xs:List Value} (h:W.ownsRow b 2 1 (.slice po n cap) n xs) (hD:∀ p,po=some p->p.block ≠ D) (v:Value):(W.setCell ⟨D,0,none⟩ v).ownsRow b 2 1 (.slice po n cap) n xs :=
 World.ownsRow.kept (row:=some D) h ⟨rfl,rfl,rfl,by rw [Busw.size_set];exact Nat.le_refl _,fun k _ hk=>Below.heap_setCell _ _ _ _ (fun e=>hk (by rw [e]))⟩ (.inr (fun e=>by
  cases po with
  | none=>cases e
  | some p=>exact hD p rfl (Option.some.inj e)))
theorem own_row {W:World} {b n cap B:Nat} {po:Option Addr} {xs:List Value} {cs cs':Array Value} (h:W.ownsRow b 2 1 (.slice po n cap) n xs) (hb:W.heap[B]? = some (.cells cs 30)):(W.setRow B cs').ownsRow b 2 1 (.slice po n cap) n xs :=
 World.ownsRow.kept (row:=some B) h (set_row_grown _ _ _) (.inr (row_ne h hb))
def Hi (U:Nat) (V V':World):Prop:=V.heap.size<=V'.heap.size/\∀ k,U<=k->k<V.heap.size->V'.heap[k]? = V.heap[k]?
theorem Hi.refl (U:Nat) (V:World):Hi U V V:=⟨Nat.le_refl _,fun _ _ _=>rfl⟩
theorem Hi.below {U:Nat} {V W W':World} (h:Hi U V W) (hb:Below W.heap.size W W'):Hi U V W':=⟨Nat.le_trans h.1 hb.size,fun k h1 h2=>(hb.block k (Nat.lt_of_lt_of_le h2 h.1)).trans (h.2 k h1 h2)⟩
theorem Hi.row {U B:Nat} {V W:World} (h:Hi U V W) (hB:B<U) (cs:Array Value):Hi U V (W.setRow B cs):=⟨by rw [MachT.size_row];exact h.1,fun k h1 h2=>(heap_row_other (by omega) _).trans (h.2 k h1 h2)⟩
theorem Hi.cell {U D:Nat} {V W:World} (h:Hi U V W) (hB:D<U) (v:Value):Hi U V (W.setCell ⟨D,0,none⟩ v):=⟨by rw [Busw.size_set];exact h.1,fun k h1 h2=>(Below.heap_setCell _ _ _ _ (by simp <;> omega)).trans (h.2 k h1 h2)⟩
theorem Hi.keeps {U:Nat} {V W:World} (h:Hi U V W):KeepsFrom U V W:=⟨h.1,fun k o h1 h2 _=>(h.2 k h1 (zLo h2)).trans h2⟩
structure St (w:World) (D:Nat) (sv:Value) (cM:Array Value) (j:Nat) (x:Sx) (W:World):Prop where
 bx:Bx w cM sv W
 cnt:W.heap[D]? = some (.cells #[.int .i64 (j:Int)] 2)
 row:RowX w.heap.size x W
theorem St.below {w W W':World} {D j:Nat} {sv:Value} {cM:Array Value} {x:Sx} (h:St w D sv cM j x W) (hb:Below W.heap.size W W'):St w D sv cM j x W' :=
 ⟨h.bx.below hb,(hb.block _ (zLo h.cnt)).trans h.cnt,h.row.kept (row:=none) ⟨hb.os,hb.tape,hb.output,hb.size,fun k hk _=>hb.block k hk⟩ (by cases hv:(Value.slice x.po x.m.out.length x.cap).ownBlock <;> simp)⟩
theorem St.free {w:World} {D j U:Nat} {sv:Value} {cM:Array Value} {x:Sx} (hU:w.heap.size+5<=U) (hD:D<U):Free U (St w D sv cM j x) :=
 fun W k o o' h hk ho hc _=>⟨h.bx.put_obj hU hk ho,(World.putObj_heap_other (by omega)).trans h.cnt,own_put h.row ho hc⟩
def Away (w:World) (D:Nat) (po:Option Addr):Prop:=∀ p,po=some p->w.heap.size+5<=p.block/\p.block ≠ D
theorem Away.moved {w X:World} {D:Nat} {po po':Option Addr} (h:Away w D po) (hm:Moved X po po') (hD:D<X.heap.size) (hw:w.heap.size+5<=X.heap.size):Away w D po':=fun p e=>by
 rcases hm with rfl|⟨q,rfl,hq⟩
 ·exact h p e
 ·cases e;exact ⟨by omega,by omega⟩
def I (w:World) (D N:Nat) (sv:Value) (hit:M->Bool) (m0:M) (s:Sx) (W:World):Prop :=
 St w D sv (cellsM s.m s.po s.cap) s.j s W/\Away w D s.po/\Fine s.m/\s.code=0/\s.j<=N/\toP hit (N-s.j) s.j s.m=toP hit N 0 m0
theorem I.free {w:World} {D N U:Nat} {sv:Value} {hit:M->Bool} {m0:M} {s:Sx} (hU:w.heap.size+5<=U) (hD:D<U):Free U (I w D N sv hit m0 s) :=
 fun W k o o' h hk ho hc hc'=>⟨St.free hU hD W k o o' h.1 hk ho hc hc',h.2⟩
def Ga (w:World) (D N U:Nat) (sv:Value) (s x:Sx) (W V:World):Prop :=
 V.heap[W.heap.size]? = some (.cells (cellsM x.m x.po x.cap) 30)/\D<W.heap.size/\St w D sv (cellsM s.m s.po s.cap) s.j x V/\(Below w.heap.size W V/\∀ k o,W.heap[k]? = some o->U+2<=k->o.isCells=true->V.heap[k]? = some o) /\
 s.code=0/\s.j<N/\x.j=s.j+1/\stepP s.m=(x.m,x.code)/\Away w D x.po
theorem Ga.free {w:World} {D N U:Nat} {sv:Value} {s x:Sx} {W:World} (hU:w.heap.size+5<=U) (hD:D<U):Free U (Ga w D N U sv s x W):=by
 rintro V k o o' ⟨h1,h2,h3,⟨h4,h5⟩,h6⟩ hk ho hc hc'
 have hne:∀ j c,V.heap[j]? = some c->c.isCells=true->j ≠ k:=fun j c e ec e2=>by subst e2;rw [ho] at e;cases e;rw [hc] at ec;cases ec
 refine ⟨(World.putObj_heap_other (hne _ _ h1 rfl)).trans h1,h2,St.free hU hD V k o o' h3 hk ho hc hc',⟨h4.grown (grownBy_putObj' V k o') (by have:=(zLo ho);omega) (fun j e=>by cases e;omega),fun j c e hj ec=>?_⟩,h6⟩
 have h7:=h5 j c e hj ec
 exact (World.putObj_heap_other (hne _ _ h7 ec)).trans h7
theorem kp_free {b B U:Nat} {x:Sx} {W:World} (hb:b<=U):Free U (Kp b B x W):=by
 rintro V k o o' ⟨h1,h2,h3⟩ hk ho hc hc'
 refine ⟨h1.grown (grownBy_putObj' V k o') (by have:=(zLo ho);omega) (fun j e=>by cases e;omega),own_put h2 ho hc,fun j c e hj=>?_⟩
 have h7:=h3 j c e hj
 exact (World.putObj_heap_other (fun e2=>by subst e2;rw [ho] at h7;cases h7;cases hc)).trans h7
def En (b U N:Nat) (s:Sx) (X W:World):Prop:=(s.j=N \/ s.code ≠ 0)/\RowX b s W/\W.os=X.os/\W.tape=X.tape/\W.output=X.output/\X.heap.size<=W.heap.size/\∀ k o,X.heap[k]? = some o->k<U->W.heap[k]? = some o
theorem En.free {b U N:Nat} {s:Sx} {X:World}:Free U (En b U N s X):=by
 rintro V k o o' ⟨h1,h2,h3,h4,h5,h6,h7⟩ hk ho hc _
 exact ⟨h1,own_put h2 ho hc,h3,h4,h5,by rw [World.putObj_size];exact h6,fun j c e hj=>(World.putObj_heap_other (by omega)).trans (h7 j c e hj)⟩
theorem En.of {b U N:Nat} {s:Sx} {X W:World} (h:Stfr.En b (U+2) N s X W):En b U N s X W/\KeepsFrom U X W:=by
 obtain ⟨h1,h2,h3⟩:=h
 exact ⟨⟨h1,h2,h3.os,h3.tape,h3.output,h3.size,fun k o e hk=>h3.block k o e (by intro e2;cases e2) (.inl (by omega))⟩,h3.size,fun k o _ e ho=>h3.block k o e (by intro e2;cases e2) (.inr ho)⟩
theorem still_keeps {w:World} {B U:Nat} {s:Sx} {X W:World} (h:Still B s.po X W) (hr:RowX w.heap.size s X):KeepsFrom U X W :=
 ⟨h.size,fun k o _ e ho=>h.block k o e (fun e2=>by
  have hob:(Value.slice s.po s.m.out.length s.cap).ownBlock=some k:=by rw [blk_own];exact e2.symm
  rcases hr.2 with ⟨h4,_⟩|⟨g,c,cur,hv,_,hg,_⟩
  ·rw [h4] at hob;cases hob
  ·rw [hv] at hob
   cases hob
   rw [e] at hg
   cases hg
   cases ho) (.inr ho)⟩
def Res (w:World) (R:M × Int × Int) (W:World):Prop :=
 ∃ po cap,W.heap[w.heap.size+1+1]? = some (.cells (cellsM R.1 po cap) 30)/\W.heap[w.heap.size+1+1+1]? = some (.cells #[.int .i64 R.2.1] 2)/\W.heap[w.heap.size+1+1+1+1]? = some (.cells #[.int .i64 R.2.2] 2) /\
  W.ownsRow w.heap.size 2 1 (.slice po R.1.out.length cap) R.1.out.length (outC R.1.out)/\Below w.heap.size w W
theorem Res.free {w:World} {R:M × Int × Int} {U:Nat} (hU:w.heap.size+5<=U):Free U (Res w R):=by
 rintro V k o o' ⟨p,c,h1,h2,h3,h4,h5⟩ hk ho hc _
 exact ⟨p,c,(World.putObj_heap_other (by omega)).trans h1,(World.putObj_heap_other (by omega)).trans h2,(World.putObj_heap_other (by omega)).trans h3,own_put h4 ho hc,h5.grown (grownBy_putObj' V k o') (by have:=(zLo ho);omega) (fun j e=>by cases e;omega)⟩
def Out (w:World) (D:Nat) (sv:Value) (R:M × Int × Int) (W:World):Prop :=
 ∃ x:Sx,St w D sv (cellsM x.m x.po x.cap) x.j x W/\Away w D x.po/\R=(x.m,0,(x.j:Int))
theorem Out.free {w:World} {D U:Nat} {sv:Value} {R:M × Int × Int} (hU:w.heap.size+5<=U) (hD:D<U):Free U (Out w D sv R) :=
 fun W k o o' ⟨x,h1,h2⟩ hk ho hc hc'=>⟨x,St.free hU hD W k o o' h1 hk ho hc hc',h2⟩
def Ix (w:World) (D:Nat) (sv:Value) (R:M × Int × Int):Code->World->Prop
 | .ret,W=>Res w R W
 | .exit 0,W=>Out w D sv R W
 | _,_=>False
theorem Ix.free {w:World} {D U:Nat} {sv:Value} {R:M × Int × Int} (hU:w.heap.size+5<=U) (hD:D<U):∀ c,Free U (Ix w D sv R c):=by
 intro c W k o o' h hk ho hc hc'
 unfold Ix at h |-
 split at h
 ·exact Res.free hU W k o o' h hk ho hc hc'
 ·exact Out.free hU hD W k o o' h hk ho hc hc'
 ·exact h.elim
theorem Out.done {w:World} {D U N:Nat} {sv:Value} {hit:M->Bool} {m0:M} {s:Sx} {X W:World} (hi:I w D N sv hit m0 s X) (he:En w.heap.size U N s X W) (hU:w.heap.size+5<=U) (hD:D<U):Out w D sv (toP hit N 0 m0) W:=by
 obtain ⟨h1,h2,h3,h4,h5,h6⟩:=hi
 obtain ⟨e1,e2,e3,e4,e5,e6,e7⟩:=he
 have hb:Below w.heap.size w W:=⟨e3.trans h1.bx.bel.os,e4.trans h1.bx.bel.tape,e5.trans h1.bx.bel.output,Nat.le_trans h1.bx.bel.size e6,fun k hk=>by
  have hl:k<X.heap.size:=Nat.lt_of_lt_of_le hk h1.bx.bel.size
  have:=e7 k _ (Array.getElem?_eq_getElem hl) (by omega)
  rw [this,<- Array.getElem?_eq_getElem hl]
  exact h1.bx.bel.block k hk⟩
 refine ⟨s,⟨h1.bx.same (fun k hk=>?_) hb,e7 _ _ h1.cnt hD,e2⟩,h2,?_⟩
 ·have hl:k<X.heap.size:=Nat.lt_of_lt_of_le hk h1.bx.lt
  have:=e7 k _ (Array.getElem?_eq_getElem hl) (by omega)
  rw [this,<- Array.getElem?_eq_getElem hl]
 ·have hj:s.j=N:=by
   rcases e1 with e1|e1
   ·exact e1
   ·exact absurd h4 e1
  rw [<- h6,hj,Nat.sub_self]
  rfl
theorem kp_below {b:Nat} {w W V V':World} (h1:Below b W V) (h2:Below b w V) (h3:Below b w V') (hs:V.heap.size<=V'.heap.size):Below b W V' :=
 ⟨h3.os.trans (h2.os.symm.trans h1.os),h3.tape.trans (h2.tape.symm.trans h1.tape),h3.output.trans (h2.output.symm.trans h1.output),Nat.le_trans h1.size hs,fun k hk=>(h3.block k hk).trans ((h2.block k hk).symm.trans (h1.block k hk))⟩
theorem three {w V:World} {cM:Array Value} {sv:Value} (h:Bx w cM sv V) (x:Sx) (hr:RowX w.heap.size x V) (ha:∀ p,x.po=some p->w.heap.size+5<=p.block) (c d:Int) (V1 V2 V3:World)
  (e1:V1=V.setRow (w.heap.size+1+1) (cellsM x.m x.po x.cap)) (e2:V2=V1.setCell ⟨w.heap.size+1+1+1,0,none⟩ (.int .i64 c)) (e3:V3=V2.setCell ⟨w.heap.size+1+1+1+1,0,none⟩ (.int .i64 d)) :
  (V1.cell? ⟨w.heap.size+1+1+1,0,none⟩=some (.int .i64 0)/\V1.frozen? ⟨w.heap.size+1+1+1,0,none⟩=false)/\(V2.cell? ⟨w.heap.size+1+1+1+1,0,none⟩=some (.int .i64 0)/\V2.frozen? ⟨w.heap.size+1+1+1+1,0,none⟩=false)/\Res w (x.m,c,d) V3 /\
  (∀ k,k<w.heap.size+1+1 \/ w.heap.size+5<=k->V1.heap[k]? = V.heap[k]?/\V2.heap[k]? = V.heap[k]?/\V3.heap[k]? = V.heap[k]?)/\∀ U,w.heap.size+5<=U->Hi U V V3:=by
 have a1:∀ k,k ≠ w.heap.size+1+1->V1.heap[k]? = V.heap[k]?:=fun k hk=>by rw [e1];exact heap_row_other (Ne.symm hk) _
 have a2:∀ k,k ≠ w.heap.size+1+1+1->V2.heap[k]? = V1.heap[k]?:=fun k hk=>by rw [e2];exact Below.heap_setCell _ _ _ _ hk
 have a3:∀ k,k ≠ w.heap.size+1+1+1+1->V3.heap[k]? = V2.heap[k]?:=fun k hk=>by rw [e3];exact Below.heap_setCell _ _ _ _ hk
 have b1:V1.heap[w.heap.size+1+1]? = some (.cells (cellsM x.m x.po x.cap) 30):=by rw [e1];exact heap_row h.r
 have b2:V1.heap[w.heap.size+1+1+1]? = some (.cells #[.int .i64 0] 2):=(a1 _ (by omega)).trans h.c
 have b3:V2.heap[w.heap.size+1+1+1+1]? = some (.cells #[.int .i64 0] 2):=(a2 _ (by omega)).trans ((a1 _ (by omega)).trans h.d)
 have b4:V2.heap[w.heap.size+1+1+1]? = some (.cells #[.int .i64 c] 2):=by rw [e2];exact (heap_setCell_same _ _ 0 _ _ _ b2).trans rfl
 have b5:V3.heap[w.heap.size+1+1+1+1]? = some (.cells #[.int .i64 d] 2):=by rw [e3];exact (heap_setCell_same _ _ 0 _ _ _ b3).trans rfl
 have o1:V1.ownsRow w.heap.size 2 1 (.slice x.po x.m.out.length x.cap) x.m.out.length (outC x.m.out):=by rw [e1];exact own_row hr h.r
 have o2:V2.ownsRow w.heap.size 2 1 (.slice x.po x.m.out.length x.cap) x.m.out.length (outC x.m.out):=by rw [e2];exact own_cell o1 (fun p e=>by have:=ha p e;omega) _
 have o3:V3.ownsRow w.heap.size 2 1 (.slice x.po x.m.out.length x.cap) x.m.out.length (outC x.m.out):=by rw [e3];exact own_cell o2 (fun p e=>by have:=ha p e;omega) _
 have l1:Below w.heap.size w V1:=by rw [e1];exact below_row h.bel (by omega)
 have l2:Below w.heap.size w V2:=by rw [e2];exact l1.setCell (by dsimp only;omega) _
 have l3:Below w.heap.size w V3:=by rw [e3];exact l2.setCell (by dsimp only;omega) _
 refine ⟨⟨cel b2 0 _ rfl,frozen_of_row _ _ _ _ _ b2⟩,⟨cel b3 0 _ rfl,frozen_of_row _ _ _ _ _ b3⟩,⟨x.po,x.cap,(a3 _ (by omega)).trans ((a2 _ (by omega)).trans b1),(a3 _ (by omega)).trans b4,b5,o3,l3⟩,fun k hk=>?_,fun U hU=>?_⟩
 ·have r1:=a1 k (by omega)
  have r2:=a2 k (by omega)
  have r3:=a3 k (by omega)
  exact ⟨r1,r2.trans r1,r3.trans (r2.trans r1)⟩
 ·rw [e3,e2,e1]
  exact (((Hi.refl U V).row (by omega) _).cell (by omega) _).cell (by omega) _
end Rtoa
namespace Stor
open Go.Deep
structure X where
 f0:Int
 f1:Int
instance:Inhabited X:=⟨⟨0,0⟩⟩
def Has (N:Nat) (w:World) (x:X):Prop:=True
theorem Has.kept {N:Nat} {w w':World} {x:X} (h:Has N w x) (hk:∀ k,N<=k->k<w.heap.size->w'.heap[k]? = w.heap[k]?) (hs:w.heap.size<=w'.heap.size):Has N w' x:=by
 exact trivial
theorem Has.mono {N N':Nat} {w:World} {x:X} (h:Has N w x) (hN:N'<=N):Has N' w x:=by
 exact trivial
theorem Has.below {N:Nat} {w w':World} {x:X} (h:Has N w x) (hb:Below w.heap.size w w'):Has N w' x:=h.kept (fun k _ hk=>hb.block k hk) hb.size
def At (N:Nat) (w:World) (b o:Nat) (x:X):Prop:=w.cell? ⟨b,o,none⟩=some (.int .i64 x.f0)/\w.cell? ⟨b,o+1,none⟩=some (.int .i64 x.f1)/\Has N w x
theorem At.kept {N:Nat} {w w':World} {b o:Nat} {x:X} (h:At N w b o x) (hb:w'.heap[b]? = w.heap[b]?) (hk:∀ k,N<=k->k<w.heap.size->w'.heap[k]? = w.heap[k]?) (hs:w.heap.size<=w'.heap.size):At N w' b o x:=by
 obtain ⟨d0,d1,hh⟩:=h
 have e:∀ i,w'.cell? ⟨b,i,none⟩=w.cell? ⟨b,i,none⟩:=fun i=>World.cell?_of_block (a:=⟨b,i,none⟩) hb
 exact ⟨(e _).trans d0,(e _).trans d1,hh.kept hk hs⟩
def Row (N:Nat) (w:World) (a:Option Addr) (L:List X):Prop :=
 L=[] \/ ∃ b off,a=some ⟨b,off,none⟩/\N<=b/\b<w.heap.size/\∀ i (h:i<L.length),At N w b (off+i*2) L[i]
theorem Row.kept {N:Nat} {w w':World} {a:Option Addr} {L:List X} (h:Row N w a L) (hk:∀ k,N<=k->k<w.heap.size->w'.heap[k]? = w.heap[k]?) (hs:w.heap.size<=w'.heap.size):Row N w' a L:=by
 rcases h with h|⟨b,off,ha,hN,hl,hc⟩
 ·exact .inl h
 ·exact .inr ⟨b,off,ha,hN,Nat.lt_of_lt_of_le hl hs,fun i hi=>(hc i hi).kept (hk b hN hl) hk hs⟩
theorem Row.mono {N N':Nat} {w:World} {a:Option Addr} {L:List X} (h:Row N w a L) (hN:N'<=N):Row N' w a L:=by
 rcases h with h|⟨b,off,ha,hNb,hl,hc⟩
 ·exact .inl h
 ·exact .inr ⟨b,off,ha,by omega,hl,fun i hi=>by obtain ⟨d0,d1,hh⟩:=hc i hi;exact ⟨d0,d1,hh.mono hN⟩⟩
theorem Row.below {N:Nat} {w w':World} {a:Option Addr} {L:List X} (h:Row N w a L) (hb:Below w.heap.size w w'):Row N w' a L:=h.kept (fun k _ hk=>hb.block k hk) hb.size
theorem cellsX:prog.cellsOf 92=2:=by kernel_rfl
theorem cells_0:prog.cellsOf 2=1:=by kernel_rfl
theorem cells_1:prog.cellsOf 2=1:=by kernel_rfl
theorem fieldsX:∃ f0 f1:Field,prog.underlying 92=some (.struct #[f0,f1])/\(f0.type=2/\f0.offset=0)/\(f1.type=2/\f1.offset=1) :=
 ⟨_,_,underlying92,⟨rfl,rfl⟩,⟨rfl,rfl⟩⟩
theorem x_of {H:Type} {enc:TypeId × Value->H} {w:World} {base:Nat} {spare:Nat->Bool} {held:Bool} {fuel:Nat} {cs:List Value} {x:DataW H × List MemPlace}
  (h:DataW.trod enc prog w base spare held fuel 92 cs=some x) :
  ∃ (x:X),cs=[.int .i64 x.f0,.int .i64 x.f1]/\Has 0 w x:=by
 obtain ⟨f0,f1,hf,⟨t0,o0⟩,⟨t1,o1⟩⟩:=fieldsX
 obtain ⟨xs,n,_,_,hl,hlen,g⟩:=DataW.trod_struct hf h
 rw [cellsX] at hl
 match cs,hl,xs,hlen with
 | [v0,v1],_,[y0,y1],_ =>
  have g0:=g 0 f0 rfl
  rw [t0,o0,cells_0] at g0
  have g1:=g 1 f1 rfl
  rw [t1,o1,cells_1] at g1
  obtain ⟨q0,e0,_⟩:=DataW.trod_int underlying2 g0
  obtain ⟨q1,e1,_⟩:=DataW.trod_int underlying2 g1
  simp at e0 e1
  subst e0 e1
  exact ⟨⟨q0,q1⟩,rfl,trivial⟩
theorem row_of {H:Type} {enc:TypeId × Value->H} {w:World} {base:Nat} {spare:Nat->Bool} {held:Bool} {fuel:Nat} {cs:List Value} {x:DataW H × List MemPlace}
  (h:DataW.trod enc prog w base spare held fuel 52 cs=some x):∃ a len cap L,cs=[.slice a len cap]/\L.length=len/\len<=maxLen/\Row 0 w a L:=by
 rcases open_slice underlying52 h with ⟨rfl,_⟩|⟨a,len,cap,m,n,D,Pl,rfl,hb,hl,hm,hmm,rfl,hx⟩
 ·exact ⟨none,0,0,[],rfl,rfl,Nat.zero_le _,.inl rfl⟩
 have hlm:len<=m:=by rw [hmm];split <;> omega
 have each:∀ i,i<len->∃ q:X,w.cell? (a.add (i*2))=some (.int .i64 q.f0)/\w.cell? (a.add (i*2+1))=some (.int .i64 q.f1)/\Has 0 w q:=by
  intro i hi
  obtain ⟨cs',h1,h2⟩:=hx i (by omega)
  rw [cellsX] at h1
  obtain ⟨_,hlen,hcell⟩:=World.cells?_some h1
  obtain ⟨q,rfl,hh⟩:=x_of h2
  have d0:=hcell 0 (by simp)
  have d1:=hcell 1 (by simp)
  rw [add_add] at d0 d1
  exact ⟨q,by simpa using d0,by simpa using d1,hh⟩
 obtain ⟨q,hq⟩:=choose_lt each
 refine ⟨some a,len,cap,(List.range len).map q,rfl,by simp,by omega,?_⟩
 by_cases h0:len=0
 ·subst h0;exact .inl rfl
 obtain ⟨b,off,spot⟩:=a
 obtain ⟨c0',_⟩:=hq 0 (by omega)
 have hspot:spot=none:=by simpa [Addr.add] using World.cell?_spot c0'
 subst hspot
 have e:∀ i,(⟨b,off,none⟩ : Addr).add i=⟨b,off+i,none⟩:=fun i=>by unfold Addr.add;split <;> simp_all
 refine .inr ⟨b,off,rfl,Nat.zero_le _,World.block_lt_of_cell? w ⟨b,off,none⟩ (by simpa [Addr.add] using c0'),fun i hi=>?_⟩
 have hi':i<len:=by simpa using hi
 obtain ⟨d0,d1,hh⟩:=hq i hi'
 rw [e] at d0 d1
 simp only [List.getElem_map,List.getElem_range]
 exact ⟨d0,by rw [Nat.add_assoc];exact d1,hh⟩
def SmallX (x:X):Prop:=True
def Small (L:List X):Prop:=L.length<=1048576/\∀ i (h:i<L.length),SmallX L[i]
theorem toX_any (x:X) (w:World) (hh:Has 0 w x) (hsm:SmallX x) :
  Calls prog 61 #[.agg #[.int .i64 x.f0,.int .i64 x.f1]] w fun e w'=>(e=.returned (.agg #[.int .i64 x.f0,.int .i64 x.f1])/\Has w.heap.size w' x)/\Below w.heap.size w w':=by
 have HH:Hid (Has w.heap.size w x):=trivial
 have HK:Hid (∀ W,Has w.heap.size w x->Has w.heap.size W x):=fun W h=>h
 obtain ⟨q0,hq0⟩ : ∃ q,q=x.f0:=⟨_,rfl⟩
 rw [<- hq0]
 obtain ⟨q1,hq1⟩ : ∃ q,q=x.f1:=⟨_,rfl⟩
 rw [<- hq1]
 clear hq0 hq1
 go_enter func61,ntmps61
 go_wp2
 exact bodyPost_ret (v:=.agg #[.int .i64 q0,.int .i64 q1]) (by simp [results,results61,go_sem]) rfl ⟨⟨rfl,HK.out _ HH.out⟩,((zAl _ _).alloc (by simp) _).alloc (by simp;omega) _⟩
def Part (W:World) (B len:Nat) (L:List X) (k:Nat):Prop :=
 (∀ i (h:i<L.length),i<k->At (B+1) W B (i*2) L[i])/\(∀ j,j<len*2->∃ u,W.cell? ⟨B,j,none⟩=some u)/\(∀ j,W.frozen? ⟨B,j,none⟩=false)/\B<W.heap.size
theorem Part.kept {W W':World} {B len k:Nat} {L:List X} (h:Part W B len L k) (hb:Below W.heap.size W W'):Part W' B len L k:=by
 have hB:=hb.block B h.2.2.2
 refine ⟨fun i hi hk=>(h.1 i hi hk).kept hB (fun j _ hj=>hb.block j hj) hb.size,fun j hj=>?_,fun j=>?_,Nat.lt_of_lt_of_le h.2.2.2 hb.size⟩
 ·rw [World.cell?_of_block (a:=⟨B,j,none⟩) hB];exact h.2.1 j hj
 ·rw [World.frozen?_of_block (a:=⟨B,j,none⟩) hB];exact h.2.2.1 j
theorem Part.set {W:World} {B len k o:Nat} {L:List X} (h:Part W B len L k) (ho:k*2<=o) (v:Value):Part (W.setCell ⟨B,o,none⟩ v) B len L k:=by
 have ne:∀ i,i ≠ o->(W.setCell ⟨B,o,none⟩ v).cell? ⟨B,i,none⟩=W.cell? ⟨B,i,none⟩:=fun i hi=>World.cell?_setCell_other W _ _ _ (fun e=>hi (by have:=congrArg Addr.off e;exact this.symm))
 have hko:∀ j,B+1<=j->j<W.heap.size->(W.setCell ⟨B,o,none⟩ v).heap[j]? = W.heap[j]?:=fun j hj _=>Below.heap_setCell _ _ _ _ (by simp;omega)
 refine ⟨fun i hi hk=>?_,fun j hj=>?_,fun j=>?_,?_⟩
 ·obtain ⟨d0,d1,hh⟩:=h.1 i hi hk
  have hlt:i*2+1<o:=by have:(i+1)*2<=k*2:=Nat.mul_le_mul_right _ hk;omega
  exact ⟨(ne _ (by omega)).trans d0,(ne _ (by omega)).trans d1,hh.kept hko (by rw [World.size_setCell];exact Nat.le_refl _)⟩
 ·by_cases e:j=o
  ·subst e
   obtain ⟨u,hu⟩:=h.2.1 j hj
   exact ⟨v,World.cell?_setCell_same W _ _ hu⟩
  ·rw [ne j e];exact h.2.1 j hj
 ·rw [World.frozen?_setCell];exact h.2.2.1 j
 ·rw [World.size_setCell];exact h.2.2.2
theorem Part.store {W:World} {B len k:Nat} {L:List X} (h:Part W B len L k) (hk:k<len) (hkL:k<L.length) (hh:Has (B+1) W L[k]):Part ((W.setCell ⟨B,k*2,none⟩ (.int .i64 L[k].f0)).setCell ⟨B,k*2+1,none⟩ (.int .i64 L[k].f1)) B len L (k+1):=by
 have h1:=h.set (o:=k*2) (by omega) (.int .i64 L[k].f0)
 have h2:=h1.set (o:=k*2+1) (by omega) (.int .i64 L[k].f1)
 refine ⟨fun i hi hik=>?_,h2.2.1,h2.2.2.1,h2.2.2.2⟩
 by_cases e:i=k
 ·subst e
  obtain ⟨u0,hu0⟩:=h.2.1 (i*2) (by omega)
  obtain ⟨u1,hu1⟩:=h1.2.1 (i*2+1) (by omega)
  refine ⟨?_,?_,?_⟩
  ·rw [World.cell?_setCell_other _ _ _ _ (by simp)];exact World.cell?_setCell_same _ _ _ hu0
  ·exact World.cell?_setCell_same _ _ _ hu1
  ·refine hh.kept (fun j hj _=>?_) (by simp only [World.size_setCell];exact Nat.le_refl _)
   rw [Below.heap_setCell _ _ _ _ (by simp;omega),Below.heap_setCell _ _ _ _ (by simp;omega)]
 ·exact h2.1 i hi (by omega)
theorem infoX:(prog.info? 40).map (fun i=>(i.zero,i.size,i.bytes))=some (some (.agg #[.int .i64 0,.int .i64 0]),2,16):=by kernel_rfl
theorem Part.made (w:World) (len:Nat) (L:List X) (z:Array Value) (t:TypeId):Part (w.alloc (.cells (madeCells z (len*2)) t)) w.heap.size len L 0:=by
 refine ⟨fun i _ h=>absurd h (Nat.not_lt_zero _),fun j hj=>?_,fun j=>?_,by simp⟩
 ·rw [World.cell?_alloc_new]
  exact ⟨_,Array.getElem?_eq_getElem (by rw [size_madeCells];exact hj)⟩
 ·exact World.frozen?_alloc_at _ _ _ _ rfl
theorem info_parts {P:Program} {t:TypeId} {z:Value} {s b:Nat} (h:(P.info? t).map (fun i=>(i.zero,i.size,i.bytes))=some (some z,s,b)):∃ i,P.info? t=some i/\i.zero=some z/\i.size=s/\i.bytes=b:=by
 cases e:P.info? t with
 | none=>rw [e] at h;cases h
 | some i =>
  rw [e] at h
  simp only [Option.map_some,Option.some.injEq,Prod.mk.injEq] at h
  exact ⟨i,rfl,h.1,h.2.1,h.2.2⟩
def Made (N:Nat) (W:World) (a:Option Addr) (L:List X):Prop:=∃ b,a=some ⟨b,0,none⟩/\N<=b/\Part W b L.length L L.length
theorem Made.row {N:Nat} {W:World} {a:Option Addr} {L:List X} (h:Made N W a L):Row N W a L:=by
 obtain ⟨b,rfl,hN,hp⟩:=h
 exact .inr ⟨b,0,rfl,hN,hp.2.2.2,fun i hi=>by
  obtain ⟨d0,d1,hh⟩:=hp.1 i hi hi
  rw [Nat.zero_add]
  exact ⟨d0,d1,hh.mono (by omega)⟩⟩
theorem Made.below {N:Nat} {W W':World} {a:Option Addr} {L:List X} (h:Made N W a L) (hb:Below W.heap.size W W'):Made N W' a L:=by
 obtain ⟨b,rfl,hN,hp⟩:=h
 exact ⟨b,rfl,hN,hp.kept hb⟩
def pairs (L:List X):List (Int × Int):=L.map fun x=>(x.f0,x.f1)
theorem pairs_len (L:List X):(pairs L).length=L.length:=by unfold pairs;simp
theorem Row.stops {N:Nat} {w:World} {a:Option Addr} {L:List X} (h:Row N w a L):Plac.Stops w a (pairs L):=by
 rcases h with h|⟨b,off,ha,hN,hl,hc⟩
 ·subst h;exact .inl rfl
 ·refine .inr ⟨b,off,ha,hl,fun i hi=>?_⟩
  obtain ⟨d0,d1,_⟩:=hc i (by rw [pairs_len] at hi;exact hi)
  have e:(pairs L)[i]=((L[i]'(by rw [pairs_len] at hi;exact hi)).f0,(L[i]'(by rw [pairs_len] at hi;exact hi)).f1):=List.getElem_map _
  rw [e]
  exact ⟨d0,d1⟩
theorem toXS_any (a:Option Addr) (cap:Nat) (L:List X) (w:World) (hN:Row 0 w a L) (hsm:Small L) :
  Calls prog 23 #[.slice a L.length cap] w fun e w'=>(∃ (a':Option Addr) (c':Nat),e=.returned (.slice a' L.length c')/\Made w.heap.size w' a' L)/\Below w.heap.size w w':=by
 obtain ⟨i0,hi,hz0,hz1,hz2⟩:=info_parts infoX
 obtain ⟨len,hl⟩ : ∃ len,len=L.length:=⟨_,rfl⟩
 have HL:Hid (len=L.length):=hl
 have hlen:=hsm.1
 have HSM:Hid (Small L):=hsm
 rw [<- hl] at hlen |-
 clear hl hsm
 have hmk:∀ u:World,(Instr.makeSlice 31 (.int .i64 (len:Int)) (.int .i64 (len:Int))).run prog u =
   .ok (.slice (some ⟨u.heap.size,0,none⟩) len len) (u.alloc (.cells (madeCells #[.int .i64 0,.int .i64 0] (len*2)) 40)):=fun u=>by
  have h:=run_make (P:=prog) u 31 40 i0 (.agg #[.int .i64 0,.int .i64 0]) underlying31 hi hz0 .i64 .i64 (len:Int) (len:Int) (by omega) (Int.le_refl _) (by rw [hz2];omega) (by omega)
  simpa [hz1,Value.cells] using h
 clear hz0 hz1 hz2 hi
 have P0:Hid (∀ o,Part (w.alloc (.cells (madeCells #[.int .i64 0,.int .i64 0] (len*2)) o)) w.heap.size len L 0):=fun o=>Part.made w len L _ o
 go_enter func23,ntmps23
 go_wp2
 go_loopw [4] (fun i wr=>∃ k:Nat,k<=len/\i=.int .i64 k/\Hid (Part wr w.heap.size len L k)/\Hid (Below w.heap.size w wr)) (fun i _=>len-(intOf i).toNat)
 case atStart=>exact ⟨0,Nat.zero_le _,rfl,P0.out _,zAl _ _⟩
 case round =>
  obtain ⟨k,hk,rfl,hpart,hbel⟩:=hrel
  by_cases hlt:k<len
  ·have hkL:k<L.length:=by have:=HL.out;omega
   rcases hN with hnil|⟨b,off,rfl,_,hb,hc⟩
   ·exfalso;rw [hnil] at hkL;exact absurd hkL (by simp)
   obtain ⟨d0,d1,hh⟩:=(hc k hkL).kept (hbel.out.block b hb) (fun j _ hj=>hbel.out.block j hj) hbel.out.size
   clear hc
   have S:Hid (∀ W,Part W w.heap.size len L k->Has (w.heap.size+1) W L[k]->Part ((W.setCell ⟨w.heap.size,k*2,none⟩ (.int .i64 L[k].f0)).setCell ⟨w.heap.size,k*2+1,none⟩ (.int .i64 L[k].f1)) w.heap.size len L (k+1)):=fun W h h2=>h.store hlt hkL h2
   have ct:=fun W (h:Has 0 W L[k])=>toX_any L[k] W h (HSM.out.2 k hkL)
   have HH:Hid (Has 0 wr L[k]):=hh
   clear hh
   generalize L[k]=x at *
   have HI:Hid (∀ N W,Has N W x->Has N W x):=fun N W h=>h
   obtain ⟨HX,hHX⟩ : ∃ HX:Nat->World->Prop,HX=fun N W=>Has N W x:=⟨_,rfl⟩
   have e1:∀ N W,(Has N W x)=HX N W:=fun N W=>by rw [hHX]
   have HM:Hid (∀ N N' W,HX N W->N'<=N->HX N' W):=fun N N' W h hN=>by rw [<- e1] at h |-;exact h.mono hN
   simp only [e1] at S ct HH
   clear HI e1 hHX
   obtain ⟨q0,hq0⟩ : ∃ q,q=x.f0:=⟨_,rfl⟩
   rw [<- hq0] at d0
   simp only [<- hq0] at S ct
   clear hq0
   obtain ⟨q1,hq1⟩ : ∃ q,q=x.f1:=⟨_,rfl⟩
   rw [<- hq1] at d1
   simp only [<- hq1] at S ct
   clear hq1
   go_wp2_with fail
   refine (ct _ HH.out).mono ?_
   rintro e w1 ⟨⟨rfl,hn⟩,hb1⟩
   have hp1:Hid (Part w1 w.heap.size len L k):=hpart.out.kept hb1
   have hN1:Hid (HX (w.heap.size+1) w1):=HM.out _ _ _ hn hpart.out.2.2.2
   have bel1:Hid (Below w.heap.size w w1):=hbel.out.trans (hb1.mono hbel.out.size)
   obtain ⟨u0,x0⟩:=hp1.out.2.1 (k*2) (by omega)
   have g0:=hp1.out.2.2.1 (k*2)
   obtain ⟨u1,x1⟩:=hp1.out.2.1 (k*2+1) (by omega)
   have g1:=hp1.out.2.2.1 (k*2+1)
   clear hb1 hbel hpart hn d0 d1
   go_wp2
   go_roundw
   case rel=>exact ⟨k+1,by omega,by go_num,S.out _ hp1.out hN1.out,((bel1.out.setCell (Nat.le_refl _) _).setCell (Nat.le_refl _) _)⟩
   case measure=>simp [intOf];omega
  ·have HE:Hid (Made w.heap.size wr (some ⟨w.heap.size,0,none⟩) L):=⟨w.heap.size,rfl,Nat.le_refl _,by
    have h:=hpart.out
    have e:k=len:=by omega
    rw [e,HL.out] at h
    exact h⟩
   clear hN
   go_wp2
   go_ret
   exact ⟨⟨_,_,rfl,HE.out⟩,hbel.out⟩
theorem eqX_any (x:X) (w:World) (hh:Has 0 w x) (hh':Has 0 w x) (hsm:SmallX x) :
  Calls prog 65 #[.agg #[.int .i64 x.f0,.int .i64 x.f1],.agg #[.int .i64 x.f0,.int .i64 x.f1]] w fun e w'=>e=.returned (.bool true)/\Below w.heap.size w w':=by
 obtain ⟨q0,hq0⟩ : ∃ q,q=x.f0:=⟨_,rfl⟩
 rw [<- hq0]
 obtain ⟨q1,hq1⟩ : ∃ q,q=x.f1:=⟨_,rfl⟩
 rw [<- hq1]
 clear hq0 hq1
 have WB:Hid (∀ o o':Obj,Below w.heap.size w ((w.alloc o).alloc o')):=fun o o'=>(zAl _ _).alloc (by simp) _
 go_enter func65,ntmps65
 go_wp2
 go_ret
 exact ⟨rfl,WB.out _ _⟩
theorem eqXS_any (a a':Option Addr) (cap cap':Nat) (L:List X) (w:World) (hN:Row 0 w a L) (hN':Row 0 w a' L) (hsm:Small L) :
  Calls prog 25 #[.slice a L.length cap,.slice a' L.length cap'] w fun e w'=>e=.returned (.bool true)/\Below w.heap.size w w':=by
 obtain ⟨len,hl⟩ : ∃ len,len=L.length:=⟨_,rfl⟩
 have HL:Hid (len=L.length):=hl
 have hlen:=hsm.1
 have HSM:Hid (Small L):=hsm
 rw [<- hl] at hlen |-
 clear hl hsm
 go_enter func25,ntmps25
 go_wp2
 go_loopw [5] (fun i wr=>∃ k:Nat,k<=len/\i=.int .i64 k/\Hid (Below w.heap.size w wr)) (fun i _=>len-(intOf i).toNat)
 case atStart=>exact ⟨0,Nat.zero_le _,rfl,Below.refl _ _⟩
 case round =>
  obtain ⟨k,hk,rfl,hbel⟩:=hrel
  by_cases hlt:k<len
  ·have hkL:k<L.length:=by have:=HL.out;omega
   rcases hN with hnil|⟨b,off,rfl,_,hb,hc⟩
   ·exfalso;rw [hnil] at hkL;exact absurd hkL (by simp)
   rcases hN' with hnil|⟨b',off',rfl,_,hb',hc'⟩
   ·exfalso;rw [hnil] at hkL;exact absurd hkL (by simp)
   obtain ⟨d0,d1,hh⟩:=(hc k hkL).kept (hbel.out.block b hb) (fun j _ hj=>hbel.out.block j hj) hbel.out.size
   obtain ⟨e0,e1,hh'⟩:=(hc' k hkL).kept (hbel.out.block b' hb') (fun j _ hj=>hbel.out.block j hj) hbel.out.size
   clear hc hc'
   have ce:=fun W (h:Has 0 W L[k]) (h':Has 0 W L[k])=>eqX_any L[k] W h h' (HSM.out.2 k hkL)
   have HH:Hid (∀ W,Below wr.heap.size wr W->Has 0 W L[k]/\Has 0 W L[k]):=fun W h=>⟨hh.below h,hh'.below h⟩
   clear hh hh'
   generalize L[k]=x at *
   have HC:Hid (∀ W,Below wr.heap.size wr W->Calls prog 65 #[.agg #[.int .i64 x.f0,.int .i64 x.f1],.agg #[.int .i64 x.f0,.int .i64 x.f1]] W fun e w'=>e=.returned (.bool true)/\Below W.heap.size W w'):=fun W h=>ce W (HH.out W h).1 (HH.out W h).2
   clear ce HH
   obtain ⟨q0,hq0⟩ : ∃ q,q=x.f0:=⟨_,rfl⟩
   rw [<- hq0] at d0 e0
   simp only [<- hq0] at HC
   clear hq0
   obtain ⟨q1,hq1⟩ : ∃ q,q=x.f1:=⟨_,rfl⟩
   rw [<- hq1] at d1 e1
   simp only [<- hq1] at HC
   clear hq1
   have k0:(0:Int)<=(k:Int):=by omega
   have k1:(k:Int)<(len:Int):=by omega
   go_wp2_with fail
   go_region_with (go_at_call 65;refine (HC.out _ (zRf.drew)).mono ?_;rintro e w1 ⟨rfl,hb1⟩)
   all_goals go_wp2
   all_goals
    go_roundw
    case rel=>exact ⟨k+1,by omega,by go_num,hbel.out.trans ((Reck.below_of_drew hb1).mono hbel.out.size)⟩
    case measure=>simp [intOf];omega
  ·clear hN hN'
   go_wp2
   go_ret
   exact ⟨rfl,hbel.out⟩
theorem szStopS_any (a:Option Addr) (len cap:Nat) (m:Int) (w:World) (hlen:len<=maxLen) (h0:0<=m) (h1:m<=1048576) :
  Calls prog 21 #[.slice a len cap,.int .i64 m] w fun e w'=>e=.returned (.int .i64 (if m-len<0 then -1 else m-len))/\w'=w:=by
 unfold maxLen at hlen
 by_cases h:m-len<0
 ·rw [if_pos h]
  go_enter func21,ntmps21
  go_wp2
  go_ret
  exact ⟨rfl,rfl⟩
 ·rw [if_neg h]
  go_enter func21,ntmps21
  go_wp2
  go_ret
  exact ⟨rfl,rfl⟩
def OpenS (w:World) (a:Option Addr) (n:Nat):Prop:=∀ i,i<n*2->∃ b,a=some ⟨b,0,none⟩/\b<w.heap.size/\(∃ v,w.cell? ⟨b,i,none⟩=some v)/\w.frozen? ⟨b,i,none⟩=false
theorem OpenS.set {w:World} {b i n:Nat} (h:OpenS w (some ⟨b,0,none⟩) n) (v:Value):OpenS (w.setCell ⟨b,i,none⟩ v) (some ⟨b,0,none⟩) n:=fun j hj=>by
 obtain ⟨b',e,hb,⟨u,hu⟩,hf⟩:=h j hj
 cases e
 refine ⟨b,rfl,by rw [World.size_setCell];exact hb,?_,by rw [World.frozen?_setCell];exact hf⟩
 by_cases e:j=i
 ·subst e;exact ⟨v,World.cell?_setCell_same _ _ _ hu⟩
 ·exact ⟨u,(World.cell?_setCell_other _ _ _ _ (fun e'=>e (by have:=congrArg Addr.off e';exact this.symm))).trans hu⟩
theorem Made.opened {N:Nat} {W:World} {a:Option Addr} {L:List X} (h:Made N W a L):OpenS W a L.length:=fun i hi=>by
 obtain ⟨b,rfl,hN,hp⟩:=h
 exact ⟨b,rfl,hp.2.2.2,hp.2.1 i hi,hp.2.2.1 i⟩
theorem OpenS.same {W W':World} {a:Option Addr} {n:Nat} (h:OpenS W a n) (hk:∀ p,a=some p->W'.heap[p.block]? = W.heap[p.block]?) (hs:W.heap.size<=W'.heap.size):OpenS W' a n:=fun i hi=>by
 obtain ⟨b,rfl,hb,⟨v,hv⟩,hf⟩:=h i hi
 have e:=hk _ rfl
 exact ⟨b,rfl,Nat.lt_of_lt_of_le hb hs,⟨v,(World.cell?_of_block (a:=⟨b,i,none⟩) e).trans hv⟩,(World.frozen?_of_block (a:=⟨b,i,none⟩) e).trans hf⟩
theorem grown_set (w:World) (g i:Nat) (u:Value):w.grownBy (w.setCell ⟨g,i,none⟩ u) (some g) :=
 ⟨rfl,rfl,rfl,by simp [World.setCell],fun k _ hk=>Below.heap_setCell _ _ _ _ (fun e=>hk (by rw [e]))⟩
theorem markStopS_any (a:Option Addr) (n cap:Nat) (k0:Int) (w:World) (ho:OpenS w a n) (hn:n<=1048576) (hk0:0<=k0) (hk1:k0<=2097152) :
  Calls prog 27 #[.slice a n cap,.int .i64 k0] w fun e w'=>e=.returned (.int .i64 (k0+2*n))/\w.grownBy w' (a.map (·.block))/\w'.heap.size=w.heap.size:=by
 have HO:Hid (OpenS w a n):=ho
 clear ho
 go_enter func27,ntmps27
 go_wp2
 go_loopw [5,1] (fun i q wr=>∃ k:Nat,k<=n/\i=.int .i64 k/\q=.int .i64 (k0+2*(k:Int))/\Hid (OpenS wr a n/\w.grownBy wr (a.map (·.block))/\wr.heap.size=w.heap.size)) (fun i _ _=>n-(intOf i).toNat)
 case atStart=>exact ⟨0,Nat.zero_le _,rfl,by simp,HO.out,World.grownBy.refl _ _,rfl⟩
 case round =>
  obtain ⟨k,hk,rfl,rfl,HM⟩:=hrel
  by_cases hlt:k<n
  ·obtain ⟨b,rfl,hb,⟨x0,c0⟩,f0⟩:=HM.out.1 (k*2) (by omega)
   have h1:=HM.out.1.set (i:=k*2) (.int .i64 (k0+2*(k:Int)))
   obtain ⟨_,e1,_,⟨x1,c1⟩,f1⟩:=h1 (k*2+1) (by omega)
   cases e1
   have HN:Hid (∀ v,OpenS ((wr.setCell ⟨b,k*2,none⟩ (.int .i64 (k0+2*(k:Int)))).setCell ⟨b,k*2+1,none⟩ v) (some ⟨b,0,none⟩) n/\w.grownBy ((wr.setCell ⟨b,k*2,none⟩ (.int .i64 (k0+2*(k:Int)))).setCell ⟨b,k*2+1,none⟩ v) (some b)/\((wr.setCell ⟨b,k*2,none⟩ (.int .i64 (k0+2*(k:Int)))).setCell ⟨b,k*2+1,none⟩ v).heap.size=w.heap.size) :=
    fun v=>⟨h1.set v,HM.out.2.1.trans ((grown_set _ _ _ _).trans (grown_set _ _ _ _)),by simp only [World.size_setCell];exact HM.out.2.2⟩
   have k0':(0:Int)<=(k:Int):=by omega
   have k1:(k:Int)<(n:Int):=by omega
   clear HM HO h1
   go_wp2
   go_roundw
   case rel=>exact ⟨k+1,by omega,by go_num,by congr 1;omega,HN.out _⟩
   case measure=>simp [intOf];omega
  ·have e:k=n:=by omega
   subst e
   go_wp2
   go_ret
   exact ⟨rfl,HM.out.2⟩
end Stor
end Go.Proofs.YteglcgnhhoenbaaGreatDoor
