import Derived.OwnWalk
import Derived.Test.YtickfkphhngagaaGreatDoorP02
set_option linter.all false
set_option maxRecDepth 20000
set_option maxHeartbeats 8000000
open Go.ChangeShapes Go.WideShapes Go.ChangeAt Go.RowKit
open Go.Proofs.Tryz
namespace Go.Proofs.YtickfkphhngagaaGreatDoor
namespace Bld
open Go.RowKit
abbrev Holds (B b:Nat) (bs:List Value) (w:World):Prop:=Lib.IsBuilder 59 5 B b bs w
theorem infoB:(prog.info? 59).map (·.size)=some 2:=by kernel_rfl
theorem lies:liesAt prog prog.depth 59 (2 / prog.cellsOf 59) 0 59 1=true:=by kernel_rfl
theorem ext60 (x:Value) (w:World):(callFunc 134 #[x]).run prog w=.ok (.value x) w:=by
 rw [run_callFunc_extern func134 (by kernel_rfl) (by kernel_rfl) (by kernel_rfl) (e:=Extern.AbiNoEscape.same) (by kernel_rfl),Lib.run_noEscape]
 rfl
theorem check_used (b:Nat) (w:World) (h0:w.cell? ⟨b,0,none⟩=some (.pointer (some ⟨b,0,none⟩))) :
  Calls prog 109 #[.pointer (some ⟨b,0,none⟩)] w fun e w'=>e=.returned (.tuple #[])/\w'=w:=by
 obtain ⟨j,hj,_⟩:=Option.map_eq_some_iff.1 infoB
 have hne:=fun w=>Lib.run_neq_ptr_same (P:=prog) w ⟨b,0,none⟩ underlying57 hj
 go_enter func109,ntmps109
 go_wp2
 go_end0
 exact ⟨rfl,rfl⟩
theorem check_fresh (b:Nat) (w:World) (h0:w.cell? ⟨b,0,none⟩=some (.pointer none)) (hsh:w.shape? b=some (59,2)) (hfz:w.frozen? ⟨b,0,none⟩=false) :
  Calls prog 109 #[.pointer (some ⟨b,0,none⟩)] w fun e w'=>e=.returned (.tuple #[])/\w'=w.setCell ⟨b,0,none⟩ (.pointer (some ⟨b,0,none⟩)):=by
 obtain ⟨j,hj,hjs⟩:=Option.map_eq_some_iff.1 infoB
 have q1:(convert 57 162 (.pointer (some ⟨b,0,none⟩))).run prog w=.ok (.pointer (some ⟨b,0,none⟩)) w:=Lib.run_to_unsafe w ⟨b,0,none⟩ underlying57 underlying162 hj (by rw [hjs];decide) hsh (Nat.zero_lt_succ 1)
 have q2:(convert 162 57 (.pointer (some ⟨b,0,none⟩))).run prog w=.ok (.pointer (some ⟨b,0,none⟩)) w:=Lib.run_from_unsafe w ⟨b,0,none⟩ underlying162 underlying57 hj hsh lies
 have q3:=ext60 (.pointer (some ⟨b,0,none⟩)) w
 go_enter func109,ntmps109
 go_wp2
 go_end0
 exact ⟨rfl,rfl⟩
theorem check_any (B b:Nat) (bs:List Value) (w:World) (h:Holds B b bs w) :
  Calls prog 109 #[.pointer (some ⟨b,0,none⟩)] w fun e w'=>e=.returned (.tuple #[])/\(Lib.BuilderAt 59 5 B b (.pointer (some ⟨b,0,none⟩)) bs w'/\Below B w w'):=by
 rcases h with h|h
 ·refine (check_fresh b w h.cell0 h.shape h.frozen0).mono ?_
  rintro e w' ⟨rfl,rfl⟩
  exact ⟨rfl,h.used _,(Below.refl B w).setCell (p:=⟨b,0,none⟩) h.1 _⟩
 ·refine (check_used b w h.cell0).mono ?_
  rintro e w' ⟨rfl,rfl⟩
  exact ⟨rfl,h,Below.refl B _⟩
theorem ne5:59 ≠ 5:=by decide
theorem info5:(prog.info? 5).map (fun i=>(i.zero,i.size,i.bytes))=some (some (.int .u8 0),1,1):=by kernel_rfl
theorem old_lt {w:World} {b:Nat} {o:Obj} (h:w.heap[b]? = some o):b<w.heap.size:=by
 rcases Nat.lt_or_ge b w.heap.size with h'|h'
 ·exact h'
 ·simp [Array.getElem?_eq_none h'] at h
theorem byte_any (B b:Nat) (bs:List Value) (c:Int) (w:World) (h:Holds B b bs w) (hlen:bs.length+1<=140737488355328) (hBw:B<=w.heap.size) :
  Calls prog 78 #[.pointer (some ⟨b,0,none⟩),.int .u8 c] w fun e w'=>e=.returned .nilIface/\(Holds B b (bs ++ [.int .u8 c]) w'/\Below B w w'):=by
 obtain ⟨i0,hi,hz0,hz1,hz2⟩:=info_parts info5
 go_enter func78,ntmps78
 go_wp2_with (go_at_call 109;refine (check_any B b bs _ h).mono ?_)
 rintro e w1 ⟨rfl,h1,hb1⟩
 obtain ⟨hB,v,hbk,hown,hne⟩:=h1
 have c0:w1.cell? ⟨b,0,none⟩=some (.pointer (some ⟨b,0,none⟩)):=by rw [Lib.cell_of_heap hbk];rfl
 have c1:w1.cell? ⟨b,1,none⟩=some v:=by rw [Lib.cell_of_heap hbk];rfl
 have z1:=hb1.size
 go_wp2_with (at_builtin;refine wpList_append_own _ rfl _ _ 32 rfl B 5 i0 (.int .u8 0) 1 1 underlying32 hi hz0 hz1 hz2 rfl (by decide) _ _ _ rfl (hown.alloc _) ⟨w1.heap.size,0,none⟩ 1 1 [.int .u8 c] rfl rfl ?c1 ?c2 ?c3 ?c4 ?c5 ?_)
 case c1 =>
  intro j u hj
  match j,hj with
  | 0,hj=>simp at hj;subst hj;simp [Addr.add]
 case c2=>intro u hu;simp at hu;subst hu;rfl
 case c3=>unfold maxLen;omega
 case c4=>omega
 case c5=>simp;omega
 intro v' w2 hown' hgrow _
 have hlt:=old_lt hbk
 have hb2:w2.heap[b]? = some (.cells #[.pointer (some ⟨b,0,none⟩),v] 59 (0,0)):=by
  rw [hgrow.block b (by simp;omega) (fun e=>hne e.symm),Lib.alloc_old w1 _ b hlt]
  exact hbk
 have d0:w2.cell? ⟨b,0,none⟩=some (.pointer (some ⟨b,0,none⟩)):=by rw [Lib.cell_of_heap hb2];rfl
 have d1:w2.cell? ⟨b,1,none⟩=some v:=by rw [Lib.cell_of_heap hb2];rfl
 have f1:w2.frozen? ⟨b,1,none⟩=false:=Lib.frozen_of_heap hb2 1
 obtain ⟨g,cap,rfl⟩ : ∃ g cap,v'=.slice (some ⟨g,0,none⟩) (bs.length+1) cap:=by
  rcases hown'.2 with ⟨_,h0⟩|⟨g,cap,cur,hv,_⟩
  ·omega
  ·exact ⟨g,cap,hv⟩
 go_wp2
 go_ret
 refine ⟨rfl,.inr ?_,?_⟩
 ·exact Lib.BuilderAt.put (T:=59) (e:=5) hB hb2 (bs':=bs ++ [.int .u8 c]) (by simpa using hown') ne5
 ·exact ((hb1.alloc (by omega) _).grown hgrow (by simp;omega) (fun k hk=>(hown.lt k hk).1)).setCell (p:=⟨b,1,none⟩) hB _
theorem str_any (B b:Nat) (bs:List Value) (s:ByteArray) (w:World) (h:Holds B b bs w) (hlen:bs.length+s.size<=140737488355328) (hBw:B<=w.heap.size) :
  Calls prog 76 #[.pointer (some ⟨b,0,none⟩),.string s] w fun e w'=>e=.returned (.tuple #[.int .i64 s.size,.nilIface])/\(Holds B b (bs ++ Lib.strCells s) w'/\Below B w w'):=by
 obtain ⟨i0,hi,hz0,hz1,hz2⟩:=info_parts info5
 go_enter func76,ntmps76
 go_wp2_with (go_at_call 109;refine (check_any B b bs _ h).mono ?_)
 rintro e w1 ⟨rfl,h1,hb1⟩
 obtain ⟨hB,v,hbk,hown,hne⟩:=h1
 have c0:w1.cell? ⟨b,0,none⟩=some (.pointer (some ⟨b,0,none⟩)):=by rw [Lib.cell_of_heap hbk];rfl
 have c1:w1.cell? ⟨b,1,none⟩=some v:=by rw [Lib.cell_of_heap hbk];rfl
 have z1:=hb1.size
 go_wp2_with (at_builtin;refine Lib.wpList_append_own_string _ rfl _ _ 32 9 rfl B 5 i0 underlying32 underlying9 hi hz0 hz1 hz2 _ _ _ rfl hown s rfl ?c3 ?c4 ?c5 ?_)
 case c3=>unfold maxLen;omega
 case c4=>omega
 case c5=>omega
 intro v' w2 hown' hgrow _
 have hlt:=old_lt hbk
 have hb2:w2.heap[b]? = some (.cells #[.pointer (some ⟨b,0,none⟩),v] 59 (0,0)):=by
  rw [hgrow.block b hlt (fun e=>hne e.symm)]
  exact hbk
 have d0:w2.cell? ⟨b,0,none⟩=some (.pointer (some ⟨b,0,none⟩)):=by rw [Lib.cell_of_heap hb2];rfl
 have d1:w2.cell? ⟨b,1,none⟩=some v:=by rw [Lib.cell_of_heap hb2];rfl
 have f1:w2.frozen? ⟨b,1,none⟩=false:=Lib.frozen_of_heap hb2 1
 obtain ⟨ao,n',cap,rfl⟩ : ∃ ao n' cap,v'=.slice ao n' cap:=by
  rcases hown'.2 with ⟨hv,_⟩|⟨g,cap,cur,hv,_⟩
  ·exact ⟨_,_,_,hv⟩
  ·exact ⟨_,_,_,hv⟩
 go_wp2
 go_ret2
 refine ⟨rfl,.inr ?_,?_⟩
 ·exact Lib.BuilderAt.put (T:=59) (e:=5) hB hb2 (bs':=bs ++ Lib.strCells s) (by simpa [Lib.strCells_length] using hown') ne5
 ·exact (hb1.grown hgrow (by omega) (fun k hk=>(hown.lt k hk).1)).setCell (p:=⟨b,1,none⟩) hB _
theorem holds_below {B b:Nat} {bs:List Value} {w w':World} (h:Holds B b bs w) (hb:Below w.heap.size w w'):Holds B b bs w':=by
 have go:∀ p,Lib.BuilderAt 59 5 B b p bs w->Lib.BuilderAt 59 5 B b p bs w':=fun p hp=>by
  have hl:=hp.lt
  obtain ⟨hB,v,hbk,hown,hne⟩:=hp
  exact ⟨hB,v,(hb.block b hl).trans hbk,hown.kept (row:=none) ⟨hb.os,hb.tape,hb.output,hb.size,fun k hk _=>hb.block k hk⟩ (by cases hv:Value.ownBlock v <;> simp),hne⟩
 exact h.imp (go _) (go _)
theorem holds_new (w:World):Holds w.heap.size w.heap.size [] (w.alloc (.cells #[.pointer none,.slice none 0 0] 59)) :=
 .inl ⟨Nat.le_refl _,_,(MapKept.heap_alloc w _).1,World.ownsRow_nil _ _ _ _,by simp [Value.ownBlock]⟩
end Bld
namespace Qmov
open Go.RowKit
open Qflo
theorem move_wp {P:Program} {ops:Array Oper} {Q:Exit->Act->World->Prop} {i:Nat} {o:Oper} {x:Operand} (hi:ops[i]? = some o) (ho:o.op=.move x) (hg:o.guard=none) {K:Act->World->Prop} {a:Act} {w:World}
  (h:wpOp P ops Q i K a w):∃ v,Yields P ops o v a/\K (a.put o.dst v) w:=by
 have hw:Region.wanted o (yielded ops a.tmps)=true:=by unfold Region.wanted;rw [hg]
 unfold wpOp at h
 simp only [hi,hw,if_true] at h
 have hv:∀ w,(execOp a.eval o).run P w=.ok (.value (a.eval x)) w:=fun w=>by unfold execOp;rw [ho];simp [go_sem]
 rcases h with h|h
 ·refine ⟨_,.inl ⟨hw,hv⟩,?_⟩
  unfold Oper.wp at h
  rw [hv w] at h
  exact h
 ·have h3:=h.1
  unfold Oper.asks at h3
  rw [show execOp a.eval o=(pure (.value (a.eval x)):Sem Next) from by unfold execOp;rw [ho]] at h3
  exact absurd (show noRoomEvent ∈ (#[]:Array _) from h3.1) (by simp)
def followsM (md:Region.Mode) (ops:Array Oper) (k n:Nat):Bool :=
 match ops[k]?,ops[n]? with
 | some ok,some on=>ok.after.all (fun e=>!Region.binds md e || on.after.any (fun d=>Region.binds md d && d.on == e.on)) && (match ok.op with|.move ..=>true|_=>false) && ok.guard.isNone
 | _,_=>false
theorem followsM_spec {md:Region.Mode} {ops:Array Oper} {k n:Nat} (h:followsM md ops k n=true):∃ ok on,ops[k]? = some ok/\ops[n]? = some on/\(∀ e ∈ ok.after,Region.binds md e=true->∃ d ∈ on.after,Region.binds md d=true/\d.on=e.on)/\(∃ x,ok.op=.move x)/\ok.guard=none:=by
 unfold followsM at h
 split at h
 ·rename_i ok on h1 h2
  simp only [Bool.and_eq_true] at h
  refine ⟨ok,on,h1,h2,fun e he hb=>?_,?_,by simpa using h.2⟩
  ·have:=(Array.all_eq_true_iff_forall_mem.1 h.1.1) e he
   simp only [hb,Bool.not_true,Bool.false_or] at this
   obtain ⟨d,hd,hb2⟩:=Array.any_eq_true'.1 this
   simp only [Bool.and_eq_true,beq_iff_eq] at hb2
   exact ⟨d,hd,hb2.1,hb2.2⟩
  ·have:=h.1.2
   split at this
   ·rename_i x hop;exact ⟨x,hop⟩
   ·cases this
 ·cases h
theorem any_move {P:Program} {ops:Array Oper} {md:Region.Mode} {Q:Exit->Act->World->Prop} {k n:Nat} (hsel:Region.noSelect ops=true) (hf:followsM md ops k n=true) (hfree:Region.free md ops (before md ops k) k=true) (hkn:k ≠ n)
  (hQ:∀ (d:Tmp) v c a w,Q (.panic c) (a.put (some d) v) w->Q (.panic c) a w) :
  ∀ (fuel:Nat) (listed:Array Bool) (a:Act) (w:World),listed.size=ops.size->wpAny P md (bound ops k n) Q fuel listed a w->wpAny P md ops Q fuel listed a w:=by
 obtain ⟨ok,on,hk,hn,hdep,⟨x,hop⟩,hg⟩:=followsM_spec hf
 have hlt:k<ops.size:=(Array.getElem?_eq_some_iff.1 hk).1
 have key:∀ (listed:Array Bool),listed.size=ops.size->n ∈ Region.ready md ops listed->¬ listed.getD k false=true->k ∈ Region.ready md ops listed:=fun listed hs hr hl=>by
  obtain ⟨_,o,ho,hall⟩:=mem_ready.1 hr
  rw [hn] at ho
  cases ho
  refine mem_ready.2 ⟨getD_in (by omega) (by simpa using hl),ok,hk,fun e he hb=>?_⟩
  obtain ⟨d,hd,hbd,heq⟩:=hdep e he hb
  rw [<- heq]
  exact hall d hd hbd
 intro fuel
 induction fuel with
 | zero =>
  intro listed a w hs H
  refine ⟨?_,H.2⟩
  cases hr:Region.ready md ops listed with
  | nil=>rfl
  | cons j js =>
   have hj:j ∈ Region.ready md ops listed:=by rw [hr];simp
   by_cases hjn:j=n/\¬ listed.getD k false=true
   ·have h1:=key listed hs (hjn.1 ▸ hj) hjn.2
    have h2:k ∈ Region.ready md (bound ops k n) listed:=ready_bound.2 ⟨h1,fun e=>absurd e hkn⟩
    rw [H.1] at h2
    cases h2
   ·have h2:j ∈ Region.ready md (bound ops k n) listed:=ready_bound.2 ⟨hj,fun e=>Decidable.byContradiction fun h=>hjn ⟨e,h⟩⟩
    rw [H.1] at h2
    cases h2
 | succ fuel ih =>
  intro listed a w hs H
  by_cases hr:k ∈ Region.ready md ops listed
  ·have h1:=H.2 k (ready_bound.2 ⟨hr,fun e=>absurd e hkn⟩)
   obtain ⟨v,hy,h2⟩:=move_wp hk hop hg (wpOp_bound.1 h1)
   have h3:=ih _ _ _ (by simp [hs]) h2
   refine wpAny_first hk (Region.noSelect_spec hsel) (fun c a w=>put_panic hQ _ _ c a w) fuel listed a w (fun j oj hj hne hun hno=>?_) hr hy h3
   refine Region.free_spec hk hfree j oj hj hne ?_ hno
   rw [before_get (Array.getElem?_eq_some_iff.1 hj).1]
   cases hw:Region.waitsFor md ops k j with
   | false=>rfl
   | true =>
    obtain ⟨o2,ho2,e,he,hb,heq⟩:=Region.waitsFor_spec hw
    obtain ⟨_,o3,ho3,hall⟩:=mem_ready.1 hr
    rw [ho2] at ho3
    cases ho3
    have h5:=hall e he hb
    rw [heq,getD_both hun] at h5
    cases h5
  ·have hrr:∀ j,j ∈ Region.ready md ops listed->j ∈ Region.ready md (bound ops k n) listed:=fun j hj=>ready_bound.2 ⟨hj,fun e=>by
    subst e
    exact Decidable.byContradiction fun h=>hr (key listed hs hj h)⟩
   refine ⟨fun h0=>H.1 ?_,fun j hj=>wpOp_mono (fun a w h=>ih _ _ _ (by simp [hs]) h) (wpOp_bound.1 (H.2 j (hrr j hj)))⟩
   cases hb:Region.ready md (bound ops k n) listed with
   | nil=>rfl
   | cons j js =>
    have hj:j ∈ Region.ready md (bound ops k n) listed:=by rw [hb];simp
    have:=(ready_bound.1 hj).1
    rw [h0] at this
    cases this
theorem tail_move {P:Program} {id:Nat} {Q:Exit->Act->World->Prop} {a:Act} {w:World} {l:List Oper} (k n:Nat) (hm:P.follows .mixedOrders=true) (hB:(decide (k ≠ n) && Region.noSelect l.toArray && followsM .any l.toArray k n && Region.free .any l.toArray (before .any l.toArray k) k && Region.lexTailB .any (bound l.toArray k n) n)=true)
  (hQ:∀ (d:Tmp) v c a w,Q (.panic c) (a.put (some d) v) w->Q (.panic c) a w)
  (h:wpQuiet P l.toArray (fun w'=>∃ p:Regrown,w'=Go.Sort.grow (redrawn w p.d) p.os) (fun a'=>∀ w',(∃ p:Regrown,w'=Go.Sort.grow (redrawn w p.d) p.os)->wpList P l.toArray Q (l.drop n) a' w') (l.take n) a):(Code.region id l.toArray true).wp P Q a w:=by
 simp only [Bool.and_eq_true,decide_eq_true_eq] at hB
 obtain ⟨⟨⟨⟨hkn,hsel⟩,hf⟩,hfree⟩,hB⟩:=hB
 have hsz:(bound l.toArray k n).size=l.toArray.size:=by unfold bound;simp
 refine wp_region_any hm (any_move hsel hf hfree hkn hQ _ _ _ _ (by simp) ?_)
 have hnn:n<l.length:=by
  obtain ⟨ok,on,hk,hn,_⟩:=followsM_spec hf
  simpa using (Array.getElem?_eq_some_iff.1 hn).1
 have ht:(bound l.toArray k n).toList.take n=l.take n:=by
  apply List.ext_getElem?
  intro i
  rw [List.getElem?_take,List.getElem?_take]
  split
  ·rw [Array.getElem?_toList,get_bound,if_neg (by omega)];simp
  ·rfl
 have hd:∃ o,l.drop n=o :: l.drop (n+1)/\(bound l.toArray k n).toList.drop n=lay k o :: l.drop (n+1):=by
  refine ⟨l[n],List.drop_eq_getElem_cons hnn,?_⟩
  apply List.ext_getElem?
  intro i
  rw [List.getElem?_drop,Array.getElem?_toList,get_bound]
  cases i with
  | zero=>simp [hnn]
  | succ i=>rw [if_neg (by omega)];simp [Nat.add_assoc,Nat.add_comm 1 i]
 obtain ⟨o,ho1,ho2⟩:=hd
 have H:=region_any (l:=(bound l.toArray k n).toList) (Q:=Q) (a:=a) (w:=w) (C:=fun w'=>∃ p:Regrown,w'=Go.Sort.grow (redrawn w p.d) p.os) n (by rw [Array.toArray_toList];exact hB) ⟨⟨w.drawn+1,#[]⟩,by rw [Go.Sort.grow_empty];rfl⟩ (P:=P) (by
  rw [Array.toArray_toList,ht]
  refine wpQuiet_bound _ ?_
  refine wpQuiet_mono (fun a' h w' hw'=>?_) _ _ h
  rw [ho2]
  have h1:=h w' hw'
  rw [ho1] at h1
  exact wpList_bound _ (wpList_lay h1))
 rw [Array.toArray_toList,hsz] at H
 exact H
end Qmov
namespace Rint
open Go.Deep
open Txts (Texts)
open Pint
def intS (L:List ByteArray) (k:Nat):Option Int:=if k<L.length then numS (L.getD k ⟨#[]⟩).data.toList else none
theorem digS_cons (n:Nat) (c:UInt8) (r:List UInt8):digS n (c :: r)=if 48<=c.toNat/\c.toNat<=57 then digS (10*n+(c.toNat-48)) r else none:=rfl
theorem drop_at (s:ByteArray) (k:Nat) (h:k<s.size):s.data.toList.drop k=s[k] :: s.data.toList.drop (k+1):=by
 rw [List.drop_eq_getElem_cons (show k<s.data.toList.length from h)];rfl
theorem pow_le {i:Nat} (h:i<=11):10 ^ i<=100000000000:=Nat.pow_le_pow_right (by decide) h
theorem l9Int_any (a:Option Addr) (cap:Nat) (L:List ByteArray) (k:Nat) (w:World) (hN:Texts w a L) (hlen:L.length<=1048576) (hk:k<=100) (hz:∀ x ∈ L,x.size<=1048576) :
  Calls prog 59 #[.slice a L.length cap,.int .i64 (k:Int)] w fun e w'=>e=.returned (.tuple #[.int .i64 ((intS L k).getD 0),.bool (intS L k).isSome])/\Below w.heap.size w w':=by
 by_cases hkl:k<L.length
 ·obtain ⟨b,off,rfl,hb,hc⟩ : ∃ b off,a=some ⟨b,off,none⟩/\b<w.heap.size/\∀ i (h:i<L.length),w.cell? ⟨b,off+i,none⟩=some (.string L[i]):=by
   rcases hN with h|h
   ·rw [h] at hkl;exact absurd hkl (Nat.not_lt_zero _)
   ·exact h
  have hcell:=hc k hkl
  have hsz:=hz L[k] (List.getElem_mem hkl)
  have HI:Hid (intS L k=numS L[k].data.toList):=(show _=_ from by unfold intS;rw [if_pos hkl,List.getD_eq_getElem?_getD,List.getElem?_eq_getElem hkl];rfl)
  obtain ⟨o,ho⟩ : ∃ o,o=intS L k:=⟨_,rfl⟩
  rw [<- ho] at HI |-
  clear ho hc hN
  generalize L[k]=s at hcell hsz HI
  generalize L.length=len at *
  have k0:(0:Int)<=(k:Int):=by omega
  have k1:(k:Int)<(len:Int):=by omega
  have d0:decide ((len:Int)<=(k:Int))=false:=decide_eq_false (by omega)
  by_cases h11:11<s.size
  ·have d1:decide (11<(s.size:Int))=true:=decide_eq_true (by omega)
   have HN:Hid (o=none):=(show o=none from by rw [HI.out];unfold numS;rw [if_pos (.inr h11)])
   clear HI hz
   go_enter func59,ntmps59
   go_wp2
   go_ret2
   exact ⟨by rw [HN.out];rfl,Below.refl _ _⟩
  ·have d1:decide (11<(s.size:Int))=false:=decide_eq_false (by omega)
   by_cases h0:s.size=0
   ·have em:s.toList.isEmpty=true:=by rw [ByteArray.toList_eq];have:s.data.toList=[]:=List.eq_nil_of_length_eq_zero h0;rw [this];rfl
    have HN:Hid (o=none):=(show o=none from by rw [HI.out];unfold numS;rw [if_pos (.inl (List.eq_nil_of_length_eq_zero h0))])
    clear HI hz
    go_enter func59,ntmps59
    go_wp2
    go_ret2
    exact ⟨by rw [HN.out];rfl,Below.refl _ _⟩
   ·have hne:s.data.toList ≠ []:=fun h=>h0 (by have:s.data.toList.length=s.size:=rfl;rw [h] at this;exact this.symm)
    have em:s.toList.isEmpty=false:=by rw [ByteArray.toList_eq];simpa using hne
    have hpos:0<s.size:=by omega
    obtain ⟨c0,hc0⟩ : ∃ c:Int,c=(s[0].toNat:Int):=⟨_,rfl⟩
    have ix0:∀ w,(Instr.index 9 (.string s) (.int .i64 0)).run prog w=.ok (.int .u8 c0) w:=fun w=>by
     rw [run_index_string (P:=prog) w 9 s .i64 0 underlying9,dif_pos ⟨by omega,by omega⟩,hc0];rfl
    have hl11:¬ (s.data.toList=[] \/ 11<s.data.toList.length):=fun q=>q.elim hne h11
    have hcons:s.data.toList=s[0] :: s.data.toList.drop 1:=by have:=drop_at s 0 hpos;rwa [List.drop_zero] at this
    by_cases h45:c0=45
    ·have f1:(c0 == 45)=true:=by simpa using h45
     have f2:decide (c0=45)=true:=decide_eq_true h45
     have hb0:s[0]=45:=UInt8.toNat_inj.1 (by rw [h45] at hc0;have:(45:UInt8).toNat=45:=rfl;omega)
     have s1:∀ w,(Instr.slice 9 (.string s) (some (.int .i64 1)) none none).run prog w=.ok (.string (s.extract 1 s.size)) w:=fun w=>by
      rw [run_slice_string_from_if (P:=prog) (w:=w) 9 s .i64 1 underlying9,if_pos ⟨by omega,by omega⟩];rfl
     have htl:(s.extract 1 s.size).data.toList=s.data.toList.drop 1:=by
      rw [ByteArray.data_extract,Array.toList_extract,List.extract_eq_take_drop,List.take_of_length_le (by rw [List.length_drop];exact Nat.le_refl _)]
     have hts:(s.extract 1 s.size).size<=10:=by rw [ByteArray.size_extract];omega
     have HI2:Hid (o=if (s.extract 1 s.size).data.toList=[] then none else (digS 0 (s.extract 1 s.size).data.toList).map fun (n:Nat)=>-(n:Int)):=(show o=_ from by
      rw [HI.out];unfold numS
      rw [if_neg hl11,htl,if_pos (by rw [hcons,hb0];rfl)]
      rw [show s.data.toList.tail=s.data.toList.drop 1 from by rw [List.drop_one]])
     clear HI hc0 hb0 htl hcons hl11 hne hz
     generalize s.extract 1 s.size=t at *
     by_cases ht0:t.size=0
     ·have et:t.toList.isEmpty=true:=by rw [ByteArray.toList_eq];have:t.data.toList=[]:=List.eq_nil_of_length_eq_zero ht0;rw [this];rfl
      have HN:Hid (o=none):=(show o=none from by rw [HI2.out,if_pos (List.eq_nil_of_length_eq_zero ht0)])
      clear HI2
      go_enter func59,ntmps59
      go_wp2
      go_loopw [8,9] (fun v u wr=>v=.int .i64 0/\u=.int .i64 0/\wr=w) (fun _ _ _=>0)
      case atStart=>exact ⟨rfl,rfl,rfl⟩
      case round =>
       obtain ⟨rfl,rfl,rfl⟩:=hrel
       have e0:decide ((0:Int)<(t.size:Int))=false:=decide_eq_false (by omega)
       have e0n:decide (0<t.size)=false:=decide_eq_false (by omega)
       go_wp2
       go_ret2
       exact ⟨by rw [HN.out];rfl,Below.refl _ _⟩
     ·have hte:t.data.toList ≠ []:=fun h=>ht0 (by have:t.data.toList.length=t.size:=rfl;rw [h] at this;exact this.symm)
      have et:t.toList.isEmpty=false:=by rw [ByteArray.toList_eq];simpa using hte
      have HI:Hid (o=(digS 0 t.data.toList).map fun (n:Nat)=>-(n:Int)):=(show o=_ from by rw [HI2.out,if_neg hte])
      clear HI2 hte
      go_enter func59,ntmps59
      go_wp2
      go_loopw [8,9] (fun v u wr=>∃ (n i:Nat),i<=t.size/\n<10 ^ i/\v=.int .i64 (n:Int)/\u=.int .i64 (i:Int)/\wr=w/\Hid (digS 0 t.data.toList=digS n (t.data.toList.drop i))) (fun _ u _=>t.size-(intOf u).toNat)
      case atStart=>exact ⟨0,0,Nat.zero_le _,by decide,rfl,rfl,by first|rfl|trivial,(show digS 0 _=digS 0 _ from by rw [List.drop_zero])⟩
      case round =>
       obtain ⟨n,i,hi,hn,rfl,rfl,rfl,hd⟩:=hrel
       by_cases hlt:i<t.size
       ·have hp:=pow_le (show i+1<=11 by omega)
        have hp2:10 ^ (i+1)=10*10 ^ i:=by rw [Nat.pow_succ];omega
        obtain ⟨c,hcc⟩ : ∃ c:Int,c=(t[i].toNat:Int):=⟨_,rfl⟩
        have hcb:0<=c/\c<=255:=by have:=t[i].toNat_lt;omega
        have e0:decide ((i:Int)<(t.size:Int))=true:=decide_eq_true (by omega)
        have e0n:decide (i<t.size)=true:=decide_eq_true hlt
        have ix:∀ w,(Instr.index 9 (.string t) (.int .i64 (i:Int))).run prog w=.ok (.int .u8 c) w:=fun w=>by
         rw [run_index_string (P:=prog) w 9 t .i64 (i:Int) underlying9,dif_pos ⟨by omega,by omega⟩,hcc];rfl
        have HD:Hid (digS 0 t.data.toList=if 48<=c.toNat/\c.toNat<=57 then digS (10*n+(c.toNat-48)) (t.data.toList.drop (i+1)) else none):=(show _=_ from by
         rw [hd.out,drop_at t i hlt,digS_cons,show t[i].toNat=c.toNat by omega])
        clear hcc hd
        by_cases q1:c<48
        ·have e1:decide (c<48)=true:=decide_eq_true q1
         have HN:Hid (o=none):=(show o=none from by rw [HI.out,HD.out,if_neg (by omega)];rfl)
         clear HI HD hn hp hp2
         go_wp2
         go_ret2
         exact ⟨by rw [HN.out];rfl,Below.refl _ _⟩
        ·have e1:decide (c<48)=false:=decide_eq_false q1
         by_cases q2:57<c
         ·have e2:decide (57<c)=true:=decide_eq_true q2
          have HN:Hid (o=none):=(show o=none from by rw [HI.out,HD.out,if_neg (by omega)];rfl)
          clear HI HD hn hp hp2
          go_wp2
          go_ret2
          exact ⟨by rw [HN.out];rfl,Below.refl _ _⟩
         ·have e2:decide (57<c)=false:=decide_eq_false q2
          have p1:IntKind.i64.wrap (10*(n:Int))=10*(n:Int):=by rw [IntKind.wrap_i64];omega
          have p2:IntKind.u8.wrap (c-48)=c-48:=by rw [IntKind.wrap_u8];omega
          have p3:IntKind.i64.wrap (c-48)=c-48:=by rw [IntKind.wrap_i64];omega
          have p4:IntKind.i64.wrap (10*(n:Int)+(c-48))=10*(n:Int)+(c-48):=by rw [IntKind.wrap_i64];omega
          have HD2:Hid (digS 0 t.data.toList=digS (10*n+(c.toNat-48)) (t.data.toList.drop (i+1))):=(show _=_ from by rw [HD.out,if_pos (by omega)])
          clear HD
          go_wp2
          go_roundw
          case rel=>exact ⟨10*n+(c.toNat-48),i+1,by omega,by omega,by congr 1;omega,by go_num,by first|rfl|trivial,HD2.out⟩
          case measure=>simp [intOf];omega
       ·have e0:decide ((i:Int)<(t.size:Int))=false:=decide_eq_false (by omega)
        have e0n:decide (i<t.size)=false:=decide_eq_false hlt
        have HN:Hid (digS 0 t.data.toList=some n):=(show _=_ from by
         rw [hd.out,List.drop_eq_nil_of_le (show t.data.toList.length<=i by have:t.data.toList.length=t.size:=rfl;omega)];rfl)
        have hp:=pow_le (show i<=11 by omega)
        have hnb:n<100000000000:=by omega
        have pn:IntKind.i64.wrap (-(n:Int)) = -(n:Int):=by rw [IntKind.wrap_i64];omega
        clear hd hn hp
        go_wp2
        go_ret2
        exact ⟨by rw [HI.out,HN.out];rfl,Below.refl _ _⟩
    ·have f1:(c0 == 45)=false:=by simpa using h45
     have f2:decide (c0=45)=false:=decide_eq_false h45
     have HI2:Hid (o=(digS 0 s.data.toList).map fun (n:Nat)=>(n:Int)):=(show o=_ from by
      rw [HI.out];unfold numS
      rw [if_neg hl11,if_neg (by rw [hcons];intro q;have q:=Option.some.inj q;rw [q] at hc0;exact h45 hc0)])
     have HI:Hid (o=(digS 0 s.data.toList).map fun (n:Nat)=>(n:Int)):=HI2.out
     clear HI2 hc0 hcons hl11 hne hz
     go_enter func59,ntmps59
     go_wp2
     go_loopw [8,9] (fun v u wr=>∃ (n i:Nat),i<=s.size/\n<10 ^ i/\v=.int .i64 (n:Int)/\u=.int .i64 (i:Int)/\wr=w/\Hid (digS 0 s.data.toList=digS n (s.data.toList.drop i))) (fun _ u _=>s.size-(intOf u).toNat)
     case atStart=>exact ⟨0,0,Nat.zero_le _,by decide,rfl,rfl,by first|rfl|trivial,(show digS 0 _=digS 0 _ from by rw [List.drop_zero])⟩
     case round =>
      obtain ⟨n,i,hi,hn,rfl,rfl,rfl,hd⟩:=hrel
      by_cases hlt:i<s.size
      ·have hp:=pow_le (show i+1<=11 by omega)
       have hp2:10 ^ (i+1)=10*10 ^ i:=by rw [Nat.pow_succ];omega
       obtain ⟨c,hcc⟩ : ∃ c:Int,c=(s[i].toNat:Int):=⟨_,rfl⟩
       have hcb:0<=c/\c<=255:=by have:=s[i].toNat_lt;omega
       have e0:decide ((i:Int)<(s.size:Int))=true:=decide_eq_true (by omega)
       have e0n:decide (i<s.size)=true:=decide_eq_true hlt
       have ix:∀ w,(Instr.index 9 (.string s) (.int .i64 (i:Int))).run prog w=.ok (.int .u8 c) w:=fun w=>by
        rw [run_index_string (P:=prog) w 9 s .i64 (i:Int) underlying9,dif_pos ⟨by omega,by omega⟩,hcc];rfl
       have HD:Hid (digS 0 s.data.toList=if 48<=c.toNat/\c.toNat<=57 then digS (10*n+(c.toNat-48)) (s.data.toList.drop (i+1)) else none):=(show _=_ from by
        rw [hd.out,drop_at s i hlt,digS_cons,show s[i].toNat=c.toNat by omega])
       clear hcc hd
       by_cases q1:c<48
       ·have e1:decide (c<48)=true:=decide_eq_true q1
        have HN:Hid (o=none):=(show o=none from by rw [HI.out,HD.out,if_neg (by omega)];rfl)
        clear HI HD hn hp hp2
        go_wp2
        go_ret2
        exact ⟨by rw [HN.out];rfl,Below.refl _ _⟩
       ·have e1:decide (c<48)=false:=decide_eq_false q1
        by_cases q2:57<c
        ·have e2:decide (57<c)=true:=decide_eq_true q2
         have HN:Hid (o=none):=(show o=none from by rw [HI.out,HD.out,if_neg (by omega)];rfl)
         clear HI HD hn hp hp2
         go_wp2
         go_ret2
         exact ⟨by rw [HN.out];rfl,Below.refl _ _⟩
        ·have e2:decide (57<c)=false:=decide_eq_false q2
         have p1:IntKind.i64.wrap (10*(n:Int))=10*(n:Int):=by rw [IntKind.wrap_i64];omega
         have p2:IntKind.u8.wrap (c-48)=c-48:=by rw [IntKind.wrap_u8];omega
         have p3:IntKind.i64.wrap (c-48)=c-48:=by rw [IntKind.wrap_i64];omega
         have p4:IntKind.i64.wrap (10*(n:Int)+(c-48))=10*(n:Int)+(c-48):=by rw [IntKind.wrap_i64];omega
         have HD2:Hid (digS 0 s.data.toList=digS (10*n+(c.toNat-48)) (s.data.toList.drop (i+1))):=(show _=_ from by rw [HD.out,if_pos (by omega)])
         clear HD
         go_wp2
         go_roundw
         case rel=>exact ⟨10*n+(c.toNat-48),i+1,by omega,by omega,by congr 1;omega,by go_num,by first|rfl|trivial,HD2.out⟩
         case measure=>simp [intOf];omega
      ·have e0:decide ((i:Int)<(s.size:Int))=false:=decide_eq_false (by omega)
       have e0n:decide (i<s.size)=false:=decide_eq_false hlt
       have HN:Hid (digS 0 s.data.toList=some n):=(show _=_ from by
        rw [hd.out,List.drop_eq_nil_of_le (show s.data.toList.length<=i by have:s.data.toList.length=s.size:=rfl;omega)];rfl)
       have hp:=pow_le (show i<=11 by omega)
       have hnb:n<100000000000:=by omega
       skip
       clear hd hn hp
       go_wp2
       go_ret2
       exact ⟨by rw [HI.out,HN.out];rfl,Below.refl _ _⟩
 ·have d0:decide ((L.length:Int)<=(k:Int))=true:=decide_eq_true (by omega)
  have HN:Hid (intS L k=none):=if_neg hkl
  clear hN hz
  go_enter func59,ntmps59
  go_wp2
  go_ret2
  exact ⟨by rw [HN.out];rfl,Below.refl _ _⟩
end Rint
namespace Draw
open Rdr (Rd Post)
def dec (n:Int) (t:ByteArray):ByteArray:=if n<10 then strOfNums [48+n] ++ t else dec (n / 10) (strOfNums [48+n%10] ++ t)
termination_by n.toNat
decreasing_by omega
theorem dec_small {n:Int} {t:ByteArray} (h:n<10):dec n t=strOfNums [48+n] ++ t:=by rw [dec,if_pos h]
theorem dec_great {n:Int} {t:ByteArray} (h:¬ n<10):dec n t=dec (n / 10) (strOfNums [48+n%10] ++ t):=by rw [dec,if_neg h]
theorem one_size (x:Int):(strOfNums [x]).size=1:=strOfNums_size _
theorem cat_size (x:Int) (t:ByteArray):(strOfNums [x] ++ t).size=t.size+1:=by rw [ByteArray.size_append,one_size];omega
theorem l1Dec_any (n:Int) (w:World) (h0:0<=n) (h1:n<=1000000000) :
  Calls prog 85 #[.int .i64 n] w fun e w'=>e=.returned (.string (dec n ⟨#[]⟩))/\Below w.heap.size w w':=by
 have hcv:∀ (u:World) (x:Int),(convert 32 9 (.slice (some ⟨u.heap.size,0,none⟩) 1 1)).run prog (u.alloc (.cells #[.int .u8 x] 5))=.ok (.string (strOfNums [x])) (u.alloc (.cells #[.int .u8 x] 5)):=fun u x =>
  run_convert_bytes_arg _ 32 5 underlying32 underlying5 u.heap.size 0 1 1 [x] rfl (fun i hi=>by
   rw [Nat.zero_add,World.cell?_alloc_new]
   match i,hi with
   | 0,_=>rfl) 9 underlying9
 have hsz:=one_size
 obtain ⟨r,hr⟩ : ∃ r,r=dec n ⟨#[]⟩:=⟨_,rfl⟩
 rw [<- hr]
 go_enter func85,ntmps85
 go_wp2
 go_loopw [0,3] (fun v t wr=>∃ (m:Int) (s:ByteArray),0<=m/\(s.size:Int)+m<=n/\v=.int .i64 m/\t=.string s/\Hid (r=dec m s)/\Hid (Below w.heap.size w wr)) (fun v _ _=>(intOf v).toNat)
 case atStart=>exact ⟨n,⟨#[]⟩,h0,by show ((0:Nat):Int)+n<=n;omega,rfl,rfl,hr,Below.refl _ _⟩
 case round =>
  clear hr
  obtain ⟨m,s,hm0,hm1,rfl,rfl,hr,hb⟩:=hrel
  by_cases hlt:10<=m
  ·have HR:Hid (r=dec (m / 10) (strOfNums [48+m%10] ++ s)):=by have:=hr.out;rw [dec_great (by omega)] at this;exact this
   clear hr
   go_wp2
   go_roundw
   case rel=>exact ⟨m / 10,strOfNums [48+m%10] ++ s,by omega,by rw [cat_size];omega,rfl,rfl,HR,hb.out.alloc hb.out.size _⟩
   case measure=>simp [intOf];omega
  ·have HR:Hid (r=strOfNums [48+m] ++ s):=by have:=hr.out;rw [dec_small (by omega)] at this;exact this
   clear hr
   go_wp2
   go_ret
   exact ⟨by rw [HR.out];rfl,hb.out.alloc hb.out.size _⟩
theorem row_cell {W w1 w2:World} {rb:Nat} {C:Array Value} {T:TypeId} (hp:Post W rb w2) (hW:W.heap=(w1.alloc (.cells C T)).heap) (hl:rb<w1.heap.size) (i:Nat):w2.cell? ⟨w1.heap.size,i,none⟩=C[i]?:=by
 have e:w2.heap[w1.heap.size]? = (w1.alloc (.cells C T)).heap[w1.heap.size]?:=by
  rw [hp.2.block _ (by rw [hW];simp) (fun e=>by have:w1.heap.size=rb:=Option.some.inj e;omega),hW]
 exact (World.cell?_of_block (a:=⟨w1.heap.size,i,none⟩) e).trans (World.cell?_alloc_new _ _ _ _)
theorem row_text {W w1 w2:World} {rb:Nat} {T:TypeId} {C:List ByteArray} (k:Nat) (hp:Post W rb w2) (hW:W.heap=(w1.alloc (.cells (C.map Value.string).toArray T)).heap) (hl:rb<w1.heap.size) (hk:∀ t ∈ C,t.size<=k) {y:Int} (y0:0<=y) (y1:y<C.length) :
  ∃ t:ByteArray,t.size<=k/\w2.cell? ⟨w1.heap.size,y.toNat,none⟩=some (.string t):=by
 have h:y.toNat<C.length:=by omega
 refine ⟨C[y.toNat],hk _ (List.getElem_mem h),(row_cell hp hW hl y.toNat).trans ?_⟩
 simp [h]
theorem row_get {C:List ByteArray} (k:Nat) (hk:∀ t ∈ C,t.size<=k) {y:Int} (y0:0<=y) (y1:y<C.length):∃ t:ByteArray,t.size<=k/\∀ h,(C.map Value.string)[y.toNat]'h=.string t:=by
 have h:y.toNat<C.length:=by omega
 exact ⟨C[y.toNat],hk _ (List.getElem_mem h),fun h=>by simp⟩
theorem hurt_any (rb:Nat) (s:ByteArray) (w:World) (h:Rd w rb) (hs:s.size<=100000000) :
  Calls prog 57 #[.pointer (some ⟨rb,0,none⟩),.string s] w fun e w'=>(∃ t:ByteArray,t.size<=s.size+1/\e=.returned (.string t))/\Post w rb w':=by
 have H:Hid (Rd w rb):=h
 clear h
 go_enter func57,ntmps57
 go_wp2_with fail
 refine (Rdr.below_any _ _ _ H.out (by decide) (by decide)).mono ?_
 rintro e w1 ⟨⟨x,x0,x1,rfl⟩,hp⟩
 by_cases e1:x=1
 ·subst e1
  go_wp2_with fail
  refine (Rdr.below_any _ _ _ hp.1 (by omega) (by omega)).mono ?_
  rintro e w2 ⟨⟨y,y0,y1,rfl⟩,hp'⟩
  go_wp2
  go_ret
  exact ⟨⟨_,by rw [ByteArray.size_extract];omega,rfl⟩,hp.trans hp'⟩
 by_cases e2:x=2
 ·subst e2
  by_cases hz:0<s.size
  ·go_wp2_with fail
   refine (Rdr.below_any _ _ _ hp.1 (by omega) (by omega)).mono ?_
   rintro e w2 ⟨⟨y,y0,y1,rfl⟩,hp'⟩
   have hl:=hp'.1.lt
   obtain ⟨k,rfl⟩:=Int.eq_ofNat_of_zero_le y0
   have hk:k<s.size:=by omega
   have hk1:k+1<=s.size:=hk
   have hk0:k<=s.size:=Nat.le_of_lt hk
   have hwr:IntKind.i64.wrap ((k:Int)+1)=(k:Int)+1:=by rw [IntKind.wrap_i64];omega
   have hi0:(0:Int)<=(k:Int)+1:=by omega
   have hi1:(k:Int)+1<=(s.size:Int):=by omega
   have hi2:((k:Int)+1).toNat=k+1:=by omega
   have z1:(s.extract 0 k).size=k:=by rw [ByteArray.size_extract];omega
   have z2:(s.extract (k+1) s.size).size=s.size-(k+1):=by rw [ByteArray.size_extract];omega
   clear y0 y1
   go_wp2_with fail
   go_region_with (first
    | (go_at_call 82;refine (Rdr.below_any _ _ (w2.drew) ?rd (by decide) (by decide)).mono ?_;(case rd=>exact hp'.1.kept (fun _ _=>rfl));rintro e w3 ⟨⟨z,z0,z1,rfl⟩,hp3⟩;obtain ⟨t,ht,hc⟩:=row_get (C:=[⟨#[48]⟩,⟨#[97]⟩,⟨#[32]⟩,⟨#[44]⟩,⟨#[36]⟩,⟨#[43]⟩]) 1 (by decide) z0 z1;have hc:∀ h,([Value.string ⟨#[48]⟩,.string ⟨#[97]⟩,.string ⟨#[32]⟩,.string ⟨#[44]⟩,.string ⟨#[36]⟩,.string ⟨#[43]⟩]:List Value)[z.toNat]'h=.string t:=hc;have q1:¬ 9223372036854775807<k+t.size:=(by omega);have q2:¬ 9223372036854775807<k+t.size+(s.size-(k+1)):=(by omega))
    | (go_at_call 82;refine (Rdr.below_any _ _ _ ?rd (by decide) (by decide)).mono ?_;(case rd=>exact (hp'.alloc _).1.kept (fun _ _=>rfl));rintro e w3 ⟨⟨z,z0,z1,rfl⟩,hp3⟩;obtain ⟨t,ht,hc⟩:=row_text (C:=[⟨#[48]⟩,⟨#[97]⟩,⟨#[32]⟩,⟨#[44]⟩,⟨#[36]⟩,⟨#[43]⟩]) 1 hp3 rfl hl (by decide) z0 z1;have q1:¬ 9223372036854775807<k+t.size:=(by omega);have q2:¬ 9223372036854775807<k+t.size+(s.size-(k+1)):=(by omega)))
   all_goals go_wp2
   all_goals go_ret
   ·exact ⟨⟨s.extract 0 k ++ t ++ s.extract (k+1) s.size,by rw [ByteArray.size_append,ByteArray.size_append];omega,rfl⟩,hp.trans ((hp'.alloc _).trans ⟨hp3.1,⟨hp3.2.os,hp3.2.tape,hp3.2.output,hp3.2.size,hp3.2.block⟩⟩)⟩
   ·exact ⟨⟨s.extract 0 k ++ t ++ s.extract (k+1) s.size,by rw [ByteArray.size_append,ByteArray.size_append];omega,rfl⟩,hp.trans (hp'.trans (Post.alloc (w:=w2) ⟨hp3.1,⟨hp3.2.os,hp3.2.tape,hp3.2.output,hp3.2.size,hp3.2.block⟩⟩ _))⟩
  ·go_wp2
   go_ret
   exact ⟨⟨s,by omega,rfl⟩,hp⟩
 by_cases e3:x=3
 ·subst e3
  go_wp2_with fail
  refine (Rdr.below_any _ _ _ (hp.alloc _).1 (by decide) (by decide)).mono ?_
  rintro e w2 ⟨⟨y,y0,y1,rfl⟩,hp'⟩
  obtain ⟨t,ht,hc⟩:=row_text (C:=[⟨#[32]⟩,⟨#[48]⟩,⟨#[120]⟩]) 1 hp' rfl hp.1.lt (by decide) y0 y1
  go_wp2
  go_ret
  exact ⟨⟨s ++ t,by rw [ByteArray.size_append];omega,rfl⟩,(hp.alloc _).trans hp'⟩
 ·have b1:(x == 1)=false:=by simpa using e1
  have b2:(x == 2)=false:=by simpa using e2
  have b3:(x == 3)=false:=by simpa using e3
  go_wp2
  go_ret
  exact ⟨⟨s,by omega,rfl⟩,hp⟩
end Draw
end Go.Proofs.YtickfkphhngagaaGreatDoor
