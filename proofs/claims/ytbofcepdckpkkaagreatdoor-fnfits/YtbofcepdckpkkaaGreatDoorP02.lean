import Derived.Deep.RegionWith
import Derived.LoopN
import Derived.Laws.BytesArg
import Derived.Test.YtbofcepdckpkkaaGreatDoorP01
import Derived.Deep.QuietTactic
import Derived.BigQuiet
set_option linter.all false
set_option maxRecDepth 20000
set_option maxHeartbeats 8000000
open Go.ChangeShapes Go.WideShapes Go.ChangeAt Go.RowKit
open Go.Proofs.Tryz
namespace Go.Proofs.YtbofcepdckpkkaaGreatDoor
namespace Tabs
open Signed (inB l1In_any)
def at8 (l:List ByteArray) (i:Int):ByteArray:=l.getD i.toNat ⟨#[]⟩
theorem cases8 {y:Int} (h0:0<=y) (h1:y<=7):y=0 \/ y=1 \/ y=2 \/ y=3 \/ y=4 \/ y=5 \/ y=6 \/ y=7:=by omega
theorem cases4 {y:Int} (h0:0<=y) (h1:y<=3):y=0 \/ y=1 \/ y=2 \/ y=3:=by omega
theorem ret_str {a b:ByteArray} (h:a=b):Ending.returned (.string a)=.returned (.string b):=by rw [h]
def bitW:List ByteArray:=[⟨#[]⟩,⟨#[98,105,116,32]⟩,⟨#[114,101,115,32]⟩,⟨#[115,101,116,32]⟩]
def decs:List ByteArray:=[⟨#[48]⟩,⟨#[49]⟩,⟨#[50]⟩,⟨#[51]⟩,⟨#[52]⟩,⟨#[53]⟩,⟨#[54]⟩,⟨#[55]⟩]
def regs:List ByteArray:=[⟨#[98]⟩,⟨#[99]⟩,⟨#[100]⟩,⟨#[101]⟩,⟨#[104]⟩,⟨#[108]⟩,⟨#[91,104,108,93]⟩,⟨#[97]⟩]
theorem regs_any (w:World) :
  Calls prog 46 #[] w fun e w'=>e=.returned (.slice (some ⟨w.heap.size,0,none⟩) 8 8)/\w'=w.alloc (.cells #[.string ⟨#[98]⟩,.string ⟨#[99]⟩,.string ⟨#[100]⟩,.string ⟨#[101]⟩,.string ⟨#[104]⟩,.string ⟨#[108]⟩,.string ⟨#[91,104,108,93]⟩,.string ⟨#[97]⟩] 9):=by
 go_enter func46,ntmps46
 go_wp2
 go_ret
 exact ⟨rfl,rfl⟩
def pairs:List ByteArray:=[⟨#[98,99]⟩,⟨#[100,101]⟩,⟨#[104,108]⟩,⟨#[115,112]⟩]
theorem pairs_any (w:World) :
  Calls prog 80 #[] w fun e w'=>e=.returned (.slice (some ⟨w.heap.size,0,none⟩) 4 4)/\w'=w.alloc (.cells #[.string ⟨#[98,99]⟩,.string ⟨#[100,101]⟩,.string ⟨#[104,108]⟩,.string ⟨#[115,112]⟩] 9):=by
 go_enter func80,ntmps80
 go_wp2
 go_ret
 exact ⟨rfl,rfl⟩
def conds:List ByteArray:=[⟨#[110,122]⟩,⟨#[122]⟩,⟨#[110,99]⟩,⟨#[99]⟩]
theorem conds_any (w:World) :
  Calls prog 79 #[] w fun e w'=>e=.returned (.slice (some ⟨w.heap.size,0,none⟩) 4 4)/\w'=w.alloc (.cells #[.string ⟨#[110,122]⟩,.string ⟨#[122]⟩,.string ⟨#[110,99]⟩,.string ⟨#[99]⟩] 9):=by
 go_enter func79,ntmps79
 go_wp2
 go_ret
 exact ⟨rfl,rfl⟩
def alus:List ByteArray:=[⟨#[97,100,100]⟩,⟨#[97,100,99]⟩,⟨#[115,117,98]⟩,⟨#[115,98,99]⟩,⟨#[97,110,100]⟩,⟨#[120,111,114]⟩,⟨#[111,114]⟩,⟨#[99,112]⟩]
theorem alus_any (w:World) :
  Calls prog 48 #[] w fun e w'=>e=.returned (.slice (some ⟨w.heap.size,0,none⟩) 8 8)/\w'=w.alloc (.cells #[.string ⟨#[97,100,100]⟩,.string ⟨#[97,100,99]⟩,.string ⟨#[115,117,98]⟩,.string ⟨#[115,98,99]⟩,.string ⟨#[97,110,100]⟩,.string ⟨#[120,111,114]⟩,.string ⟨#[111,114]⟩,.string ⟨#[99,112]⟩] 9):=by
 go_enter func48,ntmps48
 go_wp2
 go_ret
 exact ⟨rfl,rfl⟩
def turns:List ByteArray:=[⟨#[114,108,99]⟩,⟨#[114,114,99]⟩,⟨#[114,108]⟩,⟨#[114,114]⟩,⟨#[115,108,97]⟩,⟨#[115,114,97]⟩,⟨#[115,119,97,112]⟩,⟨#[115,114,108]⟩]
theorem turns_any (w:World) :
  Calls prog 45 #[] w fun e w'=>e=.returned (.slice (some ⟨w.heap.size,0,none⟩) 8 8)/\w'=w.alloc (.cells #[.string ⟨#[114,108,99]⟩,.string ⟨#[114,114,99]⟩,.string ⟨#[114,108]⟩,.string ⟨#[114,114]⟩,.string ⟨#[115,108,97]⟩,.string ⟨#[115,114,97]⟩,.string ⟨#[115,119,97,112]⟩,.string ⟨#[115,114,108]⟩] 9):=by
 go_enter func45,ntmps45
 go_wp2
 go_ret
 exact ⟨rfl,rfl⟩
theorem regs_get {i:Int} (h0:0<=i) (h1:i<=7):(∀ h,([.string ⟨#[98]⟩,.string ⟨#[99]⟩,.string ⟨#[100]⟩,.string ⟨#[101]⟩,.string ⟨#[104]⟩,.string ⟨#[108]⟩,.string ⟨#[91,104,108,93]⟩,.string ⟨#[97]⟩]:List Value)[i.toNat]'h=.string (at8 regs i))/\(at8 regs i).size<=4:=by
 rcases cases8 h0 h1 with rfl|rfl|rfl|rfl|rfl|rfl|rfl|rfl
 all_goals exact ⟨fun _=>rfl,by decide⟩
theorem alus_get {i:Int} (h0:0<=i) (h1:i<=7):(∀ h,([.string ⟨#[97,100,100]⟩,.string ⟨#[97,100,99]⟩,.string ⟨#[115,117,98]⟩,.string ⟨#[115,98,99]⟩,.string ⟨#[97,110,100]⟩,.string ⟨#[120,111,114]⟩,.string ⟨#[111,114]⟩,.string ⟨#[99,112]⟩]:List Value)[i.toNat]'h=.string (at8 alus i))/\(at8 alus i).size<=4:=by
 rcases cases8 h0 h1 with rfl|rfl|rfl|rfl|rfl|rfl|rfl|rfl
 all_goals exact ⟨fun _=>rfl,by decide⟩
theorem turns_get {i:Int} (h0:0<=i) (h1:i<=7):(∀ h,([.string ⟨#[114,108,99]⟩,.string ⟨#[114,114,99]⟩,.string ⟨#[114,108]⟩,.string ⟨#[114,114]⟩,.string ⟨#[115,108,97]⟩,.string ⟨#[115,114,97]⟩,.string ⟨#[115,119,97,112]⟩,.string ⟨#[115,114,108]⟩]:List Value)[i.toNat]'h=.string (at8 turns i))/\(at8 turns i).size<=4:=by
 rcases cases8 h0 h1 with rfl|rfl|rfl|rfl|rfl|rfl|rfl|rfl
 all_goals exact ⟨fun _=>rfl,by decide⟩
theorem bitW_get {i:Int} (h0:0<=i) (h1:i<=3):(∀ h,([.string ⟨#[]⟩,.string ⟨#[98,105,116,32]⟩,.string ⟨#[114,101,115,32]⟩,.string ⟨#[115,101,116,32]⟩]:List Value)[i.toNat]'h=.string (at8 bitW i))/\(at8 bitW i).size<=4:=by
 rcases cases4 h0 h1 with rfl|rfl|rfl|rfl
 all_goals exact ⟨fun _=>rfl,by decide⟩
set_option maxRecDepth 100000 in
theorem dec_any (y:Int) (w:World) (h0:0<=y) (h1:y<=7) :
  Calls prog 36 #[.int .i64 y] w fun e w'=>e=.returned (.string (at8 decs y))/\w'=w.alloc (.cells #[.int .u8 (48+y)] 5):=by
 have hcv:∀ (u:World) (x:Int),(convert 22 9 (.slice (some ⟨u.heap.size,0,none⟩) 1 1)).run prog (u.alloc (.cells #[.int .u8 x] 5))=.ok (.string (strOfNums [x])) (u.alloc (.cells #[.int .u8 x] 5)):=fun u x =>
  run_convert_bytes_arg _ 22 5 underlying22 underlying5 u.heap.size 0 1 1 [x] rfl (fun i hi=>by
   rw [Nat.zero_add,World.cell?_alloc_new]
   match i,hi with
   | 0,_=>rfl) 9 underlying9
 have hsz:∀ x:Int,(strOfNums [x]).size=1:=fun _=>strOfNums_size _
 rcases cases8 h0 h1 with rfl|rfl|rfl|rfl|rfl|rfl|rfl|rfl
 all_goals
  go_enter func36,ntmps36
  go_wp2
  refine wp_loop_rounds 1 ?_
  rw [rounds_succ]
  go_wp2
  go_ret
  exact ⟨ret_str rfl,rfl⟩
def tab:List Int:=[48,49,50,51,52,53,54,55,56,57,65,66,67,68,69,70]
abbrev hexs:ByteArray:=⟨#[48,49,50,51,52,53,54,55,56,57,65,66,67,68,69,70]⟩
def hex8:List ByteArray:=[⟨#[36,48,48]⟩,⟨#[36,48,56]⟩,⟨#[36,49,48]⟩,⟨#[36,49,56]⟩,⟨#[36,50,48]⟩,⟨#[36,50,56]⟩,⟨#[36,51,48]⟩,⟨#[36,51,56]⟩]
set_option maxRecDepth 100000 in
theorem hex_any (n:Int) (w:World) (h:n=0 \/ n=8 \/ n=16 \/ n=24 \/ n=32 \/ n=40 \/ n=48 \/ n=56) :
  Calls prog 35 #[.int .i64 n,.int .i64 2] w fun e w'=>e=.returned (.string (at8 hex8 (n / 8)))/\w'=w:=by
 have hd:inB 2 1 4=true:=rfl
 rcases h with rfl|rfl|rfl|rfl|rfl|rfl|rfl|rfl
 all_goals
  go_enter func35,ntmps35
  go_wp2_with (go_at_call 33;refine (l1In_any _ _ _ _).mono ?_;rintro e w' ⟨rfl,rfl⟩)
  refine wp_loop_rounds 3 ?_
  rw [rounds_succ]
  go_wp2
  rw [rounds_succ]
  go_wp2
  rw [rounds_succ]
  go_wp2
  go_ret
  exact ⟨ret_str (by kernel_rfl),rfl⟩
end Tabs
namespace Qflo
open Go.RowKit
def lay (k:Nat) (o:Oper):Oper:={ o with after:=o.after.push ⟨k,.data⟩ }
def bound (ops:Array Oper) (k n:Nat):Array Oper:=ops.modify n (lay k)
theorem get_bound (ops:Array Oper) (k n i:Nat):(bound ops k n)[i]? = if n=i then (ops[i]?).map (lay k) else ops[i]?:=by
 unfold bound
 rw [Array.getElem?_modify]
theorem dst_bound (ops:Array Oper) (k n i:Nat):((bound ops k n)[i]?).bind (·.dst)=(ops[i]?).bind (·.dst):=by
 rw [get_bound]
 split
 ·cases ops[i]? <;> rfl
 ·rfl
theorem yielded_bound (ops:Array Oper) (k n:Nat) (t:Array Value):yielded (bound ops k n) t=yielded ops t:=by
 funext j
 unfold yielded
 rw [dst_bound]
theorem wpOp_bound {P:Program} {ops:Array Oper} {Q:Exit->Act->World->Prop} {k n i:Nat} {K:Act->World->Prop} {a:Act} {w:World}:wpOp P (bound ops k n) Q i K a w ↔ wpOp P ops Q i K a w:=by
 unfold wpOp
 rw [get_bound,yielded_bound]
 by_cases hn:n=i
 ·rw [if_pos hn]
  cases ops[i]? with
  | none=>exact Iff.rfl
  | some o=>exact Iff.rfl
 ·rw [if_neg hn]
theorem wpQuiet_bound {P:Program} {ops:Array Oper} {C:World->Prop} {k n:Nat}:∀ (l:List Oper) {Q:Act->Prop} {a:Act},wpQuiet P ops C Q l a->wpQuiet P (bound ops k n) C Q l a
 | [],_,_,h=>h
 | o :: l,Q,a,h=>by
  unfold wpQuiet at h |-
  rw [yielded_bound]
  split
  ·rename_i hw
   rw [if_pos hw] at h
   exact Oper.quiet_mono (fun a h=>wpQuiet_bound l h) h
  ·rename_i hw
   rw [if_neg hw] at h
   exact wpQuiet_bound l h
theorem wpList_bound {P:Program} {ops:Array Oper} {Q:Exit->Act->World->Prop} {k n:Nat}:∀ (l:List Oper) {a:Act} {w:World},wpList P ops Q l a w->wpList P (bound ops k n) Q l a w
 | [],_,_,h=>h
 | o :: l,a,w,h=>by
  unfold wpList at h |-
  rw [yielded_bound]
  split
  ·rename_i hw
   rw [if_pos hw] at h
   exact h.imp (Oper.wp_mono (fun a w h=>wpList_bound l h)) id
  ·rename_i hw
   rw [if_neg hw] at h
   exact wpList_bound l h
theorem wpList_lay {P:Program} {ops:Array Oper} {Q:Exit->Act->World->Prop} {k:Nat} {o:Oper} {l:List Oper} {a:Act} {w:World} (h:wpList P ops Q (o :: l) a w):wpList P ops Q (lay k o :: l) a w:=h
theorem ready_bound {md:Region.Mode} {ops:Array Oper} {listed:Array Bool} {k n j:Nat}:j ∈ Region.ready md (bound ops k n) listed ↔ j ∈ Region.ready md ops listed/\(j=n->listed.getD k false=true):=by
 rw [mem_ready,mem_ready,get_bound]
 constructor
 ·rintro ⟨h0,o,ho,hall⟩
  split at ho
  ·rename_i hn
   subst hn
   cases hq:ops[n]? with
   | none=>rw [hq] at ho;cases ho
   | some o1 =>
    rw [hq] at ho
    cases ho
    refine ⟨⟨h0,o1,rfl,fun e he hb=>hall e (Array.mem_push.2 (.inl he)) hb⟩,fun _=>hall ⟨k,.data⟩ (Array.mem_push.2 (.inr rfl)) rfl⟩
  ·rename_i hn
   exact ⟨⟨h0,o,ho,hall⟩,fun e=>absurd e.symm hn⟩
 ·rintro ⟨⟨h0,o,ho,hall⟩,hk⟩
  by_cases hn:n=j
  ·subst hn
   refine ⟨h0,lay k o,by rw [if_pos rfl,ho];rfl,fun e he hb=>?_⟩
   rcases Array.mem_push.1 he with he|rfl
   ·exact hall e he hb
   ·exact hk rfl
  ·exact ⟨h0,o,by rw [if_neg hn];exact ho,hall⟩
def follows (md:Region.Mode) (ops:Array Oper) (k n:Nat):Bool :=
 match ops[k]?,ops[n]? with
 | some ok,some on=>ok.after.all (fun e=>!Region.binds md e || on.after.any (fun d=>Region.binds md d && d.on == e.on)) && (match ok.op with|.extract ..=>true|_=>false) && ok.guard.isNone
 | _,_=>false
def before (md:Region.Mode) (ops:Array Oper) (k:Nat):Array Bool:=((List.range ops.size).map fun j=>Region.waitsFor md ops k j).toArray
theorem before_get {md:Region.Mode} {ops:Array Oper} {k j:Nat} (hj:j<ops.size):(before md ops k).getD j true=Region.waitsFor md ops k j:=by
 unfold before
 simp [hj]
theorem put_panic {Q:Exit->Act->World->Prop} (hQ:∀ (d:Tmp) v c a w,Q (.panic c) (a.put (some d) v) w->Q (.panic c) a w) (d:Option Tmp) (v:Value) (c) (a:Act) (w:World) (h:Q (.panic c) (a.put d v) w):Q (.panic c) a w:=by
 cases d with
 | none=>exact h
 | some d=>exact hQ d v c a w h
open Qtail in
theorem region_any {P:Program} {C:World->Prop} {Q:Exit->Act->World->Prop} {a:Act} {w:World} {l:List Oper} (n:Nat) (hB:Region.lexTailB .any l.toArray n=true) (hC:C { w with drawn:=w.drawn+1 })
  (h:wpQuiet P l.toArray C (fun a'=>∀ w',C w'->wpList P l.toArray Q (l.drop n) a' w') (l.take n) a):wpAny P .any l.toArray Q l.toArray.size (Array.replicate l.toArray.size false) a { w with drawn:=w.drawn+1 }:=by
 simp only [Region.lexTailB,Bool.and_eq_true,decide_eq_true_eq] at hB
 obtain ⟨⟨⟨⟨hsel,hn⟩,hs⟩,hc⟩,hlex⟩:=hB
 have hn':n<l.length:=by simpa using hn
 have htl:(l.take n).length=n:=by simp;omega
 have hdl:(l.drop n).length=l.toArray.size-n:=by simp
 have inv0:HeadInv .any l.toArray n (Array.replicate l.toArray.size false) :=
  ⟨by simp,fun j oj _ hl=>(by rw [getD_replicate_false] at hl;cases hl),fun t _ ht=>getD_in (by simpa using ht) (getD_replicate_false _ _)⟩
 have H:=anyT_lex (md:=.any) (g:=l.toArray.size-n) hsel hs hc hn (l.take n) 0 _ a (fun j hj=>by
  have hj':j<n:=by rw [htl] at hj;exact hj
  simp [hj']) (by simpa using htl) inv0 (by rw [htl];exact hlex) h
 have:=any_of_head (Q':=Q) (g:=l.toArray.size-n) (fun listed a' w' hw' hL=>by
  have:=wpAny_of_seq (md:=.any) (Q':=Q) (l.drop n) n listed a' w' (fun j=>by simp [List.getElem?_drop]) (by rw [hdl];exact hL.1) (hL.2 w' hw')
  rwa [hdl] at this) _ _ _ { w with drawn:=w.drawn+1 } hC H
 rw [htl,show n+(l.toArray.size-n)=l.toArray.size by omega] at this
 exact this
theorem wpQuiet_mono {P:Program} {ops:Array Oper} {C:World->Prop} {Q Q':Act->Prop} (hq:∀ a,Q a->Q' a):∀ (l:List Oper) (a:Act),wpQuiet P ops C Q l a->wpQuiet P ops C Q' l a
 | [],_,h=>hq _ h
 | o :: l,a,h=>by
  unfold wpQuiet at h |-
  split
  ·rename_i hw
   rw [if_pos hw] at h
   exact Oper.quiet_mono (fun a h=>wpQuiet_mono hq l a h) h
  ·rename_i hw
   rw [if_neg hw] at h
   exact wpQuiet_mono hq l _ h
end Qflo
namespace Qmov
open Go.RowKit
open Qflo
theorem move_wp {P:Program} {ops:Array Oper} {Q:Exit->Act->World->Prop} {i:Nat} {o:Oper} {x:Operand} (hi:ops[i]? = some o) (ho:o.op=.move x) (hg:o.guard=none) {K:Act->World->Prop} {a:Act} {w:World}
  (h:wpOp P ops Q i K a w):∃ v,Yields P ops o v a/\K (a.put o.dst v) w:=by
 have hw:Region.wanted o (yielded ops a.tmps)=true:=by unfold Region.wanted;rw [hg]
 unfold wpOp at h
 simp only [hi,hw,if_true] at h
 have hv:∀ w,(execOp a.eval o).run P w=.ok (.value (a.eval x)) w:=fun w=>by unfold execOp;rw [ho];simp [go_sem]
 rcases h with h|h
 ·refine ⟨_,.inl ⟨hw,hv⟩,?_⟩
  unfold Oper.wp at h
  rw [hv w] at h
  exact h
 ·have h3:=h.1
  unfold Oper.asks at h3
  rw [show execOp a.eval o=(pure (.value (a.eval x)):Sem Next) from by unfold execOp;rw [ho]] at h3
  exact absurd (show noRoomEvent ∈ (#[]:Array _) from h3.1) (by simp)
def followsM (md:Region.Mode) (ops:Array Oper) (k n:Nat):Bool :=
 match ops[k]?,ops[n]? with
 | some ok,some on=>ok.after.all (fun e=>!Region.binds md e || on.after.any (fun d=>Region.binds md d && d.on == e.on)) && (match ok.op with|.move ..=>true|_=>false) && ok.guard.isNone
 | _,_=>false
theorem followsM_spec {md:Region.Mode} {ops:Array Oper} {k n:Nat} (h:followsM md ops k n=true):∃ ok on,ops[k]? = some ok/\ops[n]? = some on/\(∀ e ∈ ok.after,Region.binds md e=true->∃ d ∈ on.after,Region.binds md d=true/\d.on=e.on)/\(∃ x,ok.op=.move x)/\ok.guard=none:=by
 unfold followsM at h
 split at h
 ·rename_i ok on h1 h2
  simp only [Bool.and_eq_true] at h
  refine ⟨ok,on,h1,h2,fun e he hb=>?_,?_,by simpa using h.2⟩
  ·have:=(Array.all_eq_true_iff_forall_mem.1 h.1.1) e he
   simp only [hb,Bool.not_true,Bool.false_or] at this
   obtain ⟨d,hd,hb2⟩:=Array.any_eq_true'.1 this
   simp only [Bool.and_eq_true,beq_iff_eq] at hb2
   exact ⟨d,hd,hb2.1,hb2.2⟩
  ·have:=h.1.2
   split at this
   ·rename_i x hop;exact ⟨x,hop⟩
   ·cases this
 ·cases h
theorem any_move {P:Program} {ops:Array Oper} {md:Region.Mode} {Q:Exit->Act->World->Prop} {k n:Nat} (hsel:Region.noSelect ops=true) (hf:followsM md ops k n=true) (hfree:Region.free md ops (before md ops k) k=true) (hkn:k ≠ n)
  (hQ:∀ (d:Tmp) v c a w,Q (.panic c) (a.put (some d) v) w->Q (.panic c) a w) :
  ∀ (fuel:Nat) (listed:Array Bool) (a:Act) (w:World),listed.size=ops.size->wpAny P md (bound ops k n) Q fuel listed a w->wpAny P md ops Q fuel listed a w:=by
 obtain ⟨ok,on,hk,hn,hdep,⟨x,hop⟩,hg⟩:=followsM_spec hf
 have hlt:k<ops.size:=(Array.getElem?_eq_some_iff.1 hk).1
 have key:∀ (listed:Array Bool),listed.size=ops.size->n ∈ Region.ready md ops listed->¬ listed.getD k false=true->k ∈ Region.ready md ops listed:=fun listed hs hr hl=>by
  obtain ⟨_,o,ho,hall⟩:=mem_ready.1 hr
  rw [hn] at ho
  cases ho
  refine mem_ready.2 ⟨getD_in (by omega) (by simpa using hl),ok,hk,fun e he hb=>?_⟩
  obtain ⟨d,hd,hbd,heq⟩:=hdep e he hb
  rw [<- heq]
  exact hall d hd hbd
 intro fuel
 induction fuel with
 | zero =>
  intro listed a w hs H
  refine ⟨?_,H.2⟩
  cases hr:Region.ready md ops listed with
  | nil=>rfl
  | cons j js =>
   have hj:j ∈ Region.ready md ops listed:=by rw [hr];simp
   by_cases hjn:j=n/\¬ listed.getD k false=true
   ·have h1:=key listed hs (hjn.1 ▸ hj) hjn.2
    have h2:k ∈ Region.ready md (bound ops k n) listed:=ready_bound.2 ⟨h1,fun e=>absurd e hkn⟩
    rw [H.1] at h2
    cases h2
   ·have h2:j ∈ Region.ready md (bound ops k n) listed:=ready_bound.2 ⟨hj,fun e=>Decidable.byContradiction fun h=>hjn ⟨e,h⟩⟩
    rw [H.1] at h2
    cases h2
 | succ fuel ih =>
  intro listed a w hs H
  by_cases hr:k ∈ Region.ready md ops listed
  ·have h1:=H.2 k (ready_bound.2 ⟨hr,fun e=>absurd e hkn⟩)
   obtain ⟨v,hy,h2⟩:=move_wp hk hop hg (wpOp_bound.1 h1)
   have h3:=ih _ _ _ (by simp [hs]) h2
   refine wpAny_first hk (Region.noSelect_spec hsel) (fun c a w=>put_panic hQ _ _ c a w) fuel listed a w (fun j oj hj hne hun hno=>?_) hr hy h3
   refine Region.free_spec hk hfree j oj hj hne ?_ hno
   rw [before_get (Array.getElem?_eq_some_iff.1 hj).1]
   cases hw:Region.waitsFor md ops k j with
   | false=>rfl
   | true =>
    obtain ⟨o2,ho2,e,he,hb,heq⟩:=Region.waitsFor_spec hw
    obtain ⟨_,o3,ho3,hall⟩:=mem_ready.1 hr
    rw [ho2] at ho3
    cases ho3
    have h5:=hall e he hb
    rw [heq,getD_both hun] at h5
    cases h5
  ·have hrr:∀ j,j ∈ Region.ready md ops listed->j ∈ Region.ready md (bound ops k n) listed:=fun j hj=>ready_bound.2 ⟨hj,fun e=>by
    subst e
    exact Decidable.byContradiction fun h=>hr (key listed hs hj h)⟩
   refine ⟨fun h0=>H.1 ?_,fun j hj=>wpOp_mono (fun a w h=>ih _ _ _ (by simp [hs]) h) (wpOp_bound.1 (H.2 j (hrr j hj)))⟩
   cases hb:Region.ready md (bound ops k n) listed with
   | nil=>rfl
   | cons j js =>
    have hj:j ∈ Region.ready md (bound ops k n) listed:=by rw [hb];simp
    have:=(ready_bound.1 hj).1
    rw [h0] at this
    cases this
theorem tail_move {P:Program} {id:Nat} {Q:Exit->Act->World->Prop} {a:Act} {w:World} {l:List Oper} (k n:Nat) (hm:P.follows .mixedOrders=true) (hB:(decide (k ≠ n) && Region.noSelect l.toArray && followsM .any l.toArray k n && Region.free .any l.toArray (before .any l.toArray k) k && Region.lexTailB .any (bound l.toArray k n) n)=true)
  (hQ:∀ (d:Tmp) v c a w,Q (.panic c) (a.put (some d) v) w->Q (.panic c) a w)
  (h:wpQuiet P l.toArray (fun w'=>∃ p:Regrown,w'=Go.Sort.grow (redrawn w p.d) p.os) (fun a'=>∀ w',(∃ p:Regrown,w'=Go.Sort.grow (redrawn w p.d) p.os)->wpList P l.toArray Q (l.drop n) a' w') (l.take n) a):(Code.region id l.toArray true).wp P Q a w:=by
 simp only [Bool.and_eq_true,decide_eq_true_eq] at hB
 obtain ⟨⟨⟨⟨hkn,hsel⟩,hf⟩,hfree⟩,hB⟩:=hB
 have hsz:(bound l.toArray k n).size=l.toArray.size:=by unfold bound;simp
 refine wp_region_any hm (any_move hsel hf hfree hkn hQ _ _ _ _ (by simp) ?_)
 have hnn:n<l.length:=by
  obtain ⟨ok,on,hk,hn,_⟩:=followsM_spec hf
  simpa using (Array.getElem?_eq_some_iff.1 hn).1
 have ht:(bound l.toArray k n).toList.take n=l.take n:=by
  apply List.ext_getElem?
  intro i
  rw [List.getElem?_take,List.getElem?_take]
  split
  ·rw [Array.getElem?_toList,get_bound,if_neg (by omega)];simp
  ·rfl
 have hd:∃ o,l.drop n=o :: l.drop (n+1)/\(bound l.toArray k n).toList.drop n=lay k o :: l.drop (n+1):=by
  refine ⟨l[n],List.drop_eq_getElem_cons hnn,?_⟩
  apply List.ext_getElem?
  intro i
  rw [List.getElem?_drop,Array.getElem?_toList,get_bound]
  cases i with
  | zero=>simp [hnn]
  | succ i=>rw [if_neg (by omega)];simp [Nat.add_assoc,Nat.add_comm 1 i]
 obtain ⟨o,ho1,ho2⟩:=hd
 have H:=region_any (l:=(bound l.toArray k n).toList) (Q:=Q) (a:=a) (w:=w) (C:=fun w'=>∃ p:Regrown,w'=Go.Sort.grow (redrawn w p.d) p.os) n (by rw [Array.toArray_toList];exact hB) ⟨⟨w.drawn+1,#[]⟩,by rw [Go.Sort.grow_empty];rfl⟩ (P:=P) (by
  rw [Array.toArray_toList,ht]
  refine wpQuiet_bound _ ?_
  refine wpQuiet_mono (fun a' h w' hw'=>?_) _ _ h
  rw [ho2]
  have h1:=h w' hw'
  rw [ho1] at h1
  exact wpList_bound _ (wpList_lay h1))
 rw [Array.toArray_toList,hsz] at H
 exact H
end Qmov
namespace Rdr
def Rd (w:World) (rb:Nat):Prop:=∃ (a:Option Addr) (len cap p:Nat),w.cell? ⟨rb,0,none⟩=some (.slice a len cap)/\w.cell? ⟨rb,1,none⟩=some (.int .i64 p)/\p<=len/\len<=maxLen/\w.frozen? ⟨rb,1,none⟩=false /\
 (0<len->∃ b off,a=some ⟨b,off,none⟩/\b<rb/\∀ i,i<len->∃ x:Int,0<=x/\x<=255/\w.cell? ⟨b,off+i,none⟩=some (.int .u8 x))
theorem Rd.kept {w w':World} {rb:Nat} (h:Rd w rb) (hk:∀ k,k<=rb->w'.heap[k]? = w.heap[k]?):Rd w' rb:=by
 obtain ⟨a,len,cap,p,c0,c1,hp,hm,hf,hb⟩:=h
 have e:∀ b o,b<=rb->w'.cell? ⟨b,o,none⟩=w.cell? ⟨b,o,none⟩:=fun b o h=>World.cell?_of_block (a:=⟨b,o,none⟩) (hk b h)
 refine ⟨a,len,cap,p,(e _ _ (Nat.le_refl _)).trans c0,(e _ _ (Nat.le_refl _)).trans c1,hp,hm,(World.frozen?_of_block (a:=⟨rb,1,none⟩) (hk rb (Nat.le_refl _))).trans hf,fun hl=>?_⟩
 obtain ⟨b,off,ha,hbr,hx⟩:=hb hl
 refine ⟨b,off,ha,hbr,fun i hi=>?_⟩
 obtain ⟨x,x0,x1,hx⟩:=hx i hi
 exact ⟨x,x0,x1,(e _ _ (Nat.le_of_lt hbr)).trans hx⟩
theorem Rd.lt {w:World} {rb:Nat} (h:Rd w rb):rb<w.heap.size:=by
 obtain ⟨a,len,cap,p,c0,_⟩:=h
 exact World.block_lt_of_cell? w ⟨rb,0,none⟩ c0
theorem Rd.step {w:World} {rb len cap p:Nat} {a:Option Addr} (c0:w.cell? ⟨rb,0,none⟩=some (.slice a len cap)) (c1:w.cell? ⟨rb,1,none⟩=some (.int .i64 p)) (hp:p<len) (hm:len<=maxLen) (hf:w.frozen? ⟨rb,1,none⟩=false)
  (hb:0<len->∃ b off,a=some ⟨b,off,none⟩/\b<rb/\∀ i,i<len->∃ x:Int,0<=x/\x<=255/\w.cell? ⟨b,off+i,none⟩=some (.int .u8 x)) :
  Rd (w.setCell ⟨rb,1,none⟩ (.int .i64 ((p:Int)+1))) rb:=by
 refine ⟨a,len,cap,p+1,?_,?_,by omega,hm,?_,fun hl=>?_⟩
 ·exact (World.cell?_setCell_other w _ _ _ (by simp)).trans c0
 ·exact (World.cell?_setCell_same w _ _ c1).trans (by simp)
 ·rw [World.frozen?_setCell];exact hf
 ·obtain ⟨b,off,ha,hbr,hx⟩:=hb hl
  refine ⟨b,off,ha,hbr,fun i hi=>?_⟩
  obtain ⟨x,x0,x1,hx⟩:=hx i hi
  have hne:(⟨rb,1,none⟩ : Addr) ≠ ⟨b,off+i,none⟩:=fun e=>by have:=congrArg Addr.block e;simp at this;omega
  exact ⟨x,x0,x1,(World.cell?_setCell_other w _ _ _ hne).trans hx⟩
theorem grown_set (w:World) (b i:Nat) (v:Value):w.grownBy (w.setCell ⟨b,i,none⟩ v) (some b) :=
 ⟨rfl,rfl,rfl,by simp [World.setCell],fun k _ hne=>Below.heap_setCell w _ _ k (fun e=>hne (by rw [e]))⟩
def Post (w:World) (rb:Nat) (w':World):Prop:=Rd w' rb/\w.grownBy w' (some rb)
theorem Post.trans {a b c:World} {rb:Nat} (h:Post a rb b) (k:Post b rb c):Post a rb c :=
 ⟨k.1,⟨k.2.os.trans h.2.os,k.2.tape.trans h.2.tape,k.2.output.trans h.2.output,Nat.le_trans h.2.size k.2.size,fun i hi hne=>(k.2.block i (Nat.lt_of_lt_of_le hi h.2.size) hne).trans (h.2.block i hi hne)⟩⟩
theorem Post.of {w w':World} {rb:Nat} (h:Rd w rb) (hh:w'.heap=w.heap) (ho:w'.os=w.os) (ht:w'.tape=w.tape) (hp:w'.output=w.output):Post w rb w' :=
 ⟨h.kept fun _ _=>by rw [hh],⟨ho,ht,hp,by rw [hh];exact Nat.le_refl _,fun _ _ _=>by rw [hh]⟩⟩
theorem Post.alloc {w w':World} {rb:Nat} (h:Post w rb w') (o:Obj):Post w rb (w'.alloc o) :=
 ⟨h.1.kept fun k hk=>Below.heap_alloc w' o k (Nat.lt_of_le_of_lt hk h.1.lt),⟨h.2.os,h.2.tape,h.2.output,Nat.le_trans h.2.size (by simp),fun k hk hne=>(Below.heap_alloc w' o k (Nat.lt_of_lt_of_le hk h.2.size)).trans (h.2.block k hk hne)⟩⟩
theorem Post.refl {w:World} {rb:Nat} (h:Rd w rb):Post w rb w:=Post.of h rfl rfl rfl rfl
theorem Post.below {w w':World} {rb B:Nat} (h:Post w rb w') (hB:B<=rb) (hr:rb<=w.heap.size):Below B w w' :=
 ⟨h.2.os,h.2.tape,h.2.output,h.2.size,fun k hk=>h.2.block k (by omega) (fun e=>by cases e;omega)⟩
theorem next_any (rb:Nat) (w:World) (h:Rd w rb) :
  Calls prog 34 #[.pointer (some ⟨rb,0,none⟩)] w fun e w'=>(∃ x:Int,0<=x/\x<=255/\e=.returned (.int .i64 x))/\Post w rb w':=by
 have H:Hid (Rd w rb):=h
 obtain ⟨a,len,cap,p,c0,c1,hp,hm,hf,hb⟩:=h
 unfold maxLen at hm
 by_cases hlt:p<len
 ·obtain ⟨b,off,rfl,hbr,hx⟩:=hb (by omega)
  obtain ⟨x,x0,x1,hx⟩:=hx p hlt
  have hne:¬ b=rb:=by omega
  go_enter func34,ntmps34
  go_wp2
  go_quiet (fail)
  go_wp2
  go_quiet (fail)
  go_wp2
  go_ret
  have g:=grown_set w rb 1 (.int .i64 ((p:Int)+1))
  exact ⟨⟨x,x0,x1,rfl⟩,(Rd.step (w:=w) c0 c1 hlt hm hf hb).kept fun _ _=>rfl,⟨g.os,g.tape,g.output,g.size,g.block⟩⟩
 ·clear hb
  go_enter func34,ntmps34
  go_wp2
  go_quiet (fail)
  go_wp2
  go_ret
  exact ⟨⟨0,by decide,by decide,rfl⟩,H.out.kept fun _ _=>rfl,⟨rfl,rfl,rfl,Nat.le_refl _,fun _ _ _=>rfl⟩⟩
theorem wf_small {x:Int} (h0:-1000000001<=x) (h1:x<=1000000001):(Lit.int .i64 x).wf=true:=by
 simp [Lit.wf,IntKind.min,IntKind.max,IntKind.signed,IntKind.bits];omega
theorem mod_bd {x n:Int} (h:0<n):0<=x%n/\x%n<n:=⟨Int.emod_nonneg _ (by omega),Int.emod_lt_of_pos _ h⟩
theorem below_any (rb:Nat) (n:Int) (w:World) (h:Rd w rb) (h1:1<=n) (h2:n<=1000000000) :
  Calls prog 14 #[.pointer (some ⟨rb,0,none⟩),.int .i64 n] w fun e w'=>(∃ x:Int,0<=x/\x<n/\e=.returned (.int .i64 x))/\Post w rb w':=by
 have H:Hid (Rd w rb):=h
 clear h
 by_cases n1:n<=1
 ·go_enter func14,ntmps14
  go_wp2
  go_ret
  exact ⟨⟨0,by decide,by omega,rfl⟩,Post.refl H.out⟩
 by_cases n2:n<=256
 ·go_enter func14,ntmps14
  go_wp2_with (go_at_call 34;refine (next_any _ _ H.out).mono ?_;rintro e w' ⟨⟨x,x0,x1,rfl⟩,hp⟩)
  go_ret
  obtain ⟨a,b⟩:=mod_bd (x:=x) (n:=n) (by omega)
  exact ⟨⟨x%n,a,b,rfl⟩,hp⟩
 ·go_enter func14,ntmps14
  go_wp2_with fail
  refine (next_any _ _ H.out).mono ?_
  rintro e w1 ⟨⟨x,x0,x1,rfl⟩,hp⟩
  go_wp2_with fail
  refine (next_any _ _ hp.1).mono ?_
  rintro e w2 ⟨⟨y,y0,y1,rfl⟩,hp'⟩
  go_wp2
  go_ret
  obtain ⟨a,b⟩:=mod_bd (x:=x*256+y) (n:=n) (by omega)
  exact ⟨⟨(x*256+y)%n,a,b,rfl⟩,hp.trans hp'⟩
theorem once_any (rb:Nat) (n:Int) (w:World) (h:Rd w rb) (h1:1<=n) (h2:n<=1000000000) :
  Calls prog 38 #[.pointer (some ⟨rb,0,none⟩),.int .i64 n] w fun e w'=>(∃ x:Bool,e=.returned (.bool x))/\Post w rb w':=by
 have H:Hid (Rd w rb):=h
 clear h
 go_enter func38,ntmps38
 go_wp2_with (go_at_call 14;refine (below_any _ _ _ H.out h1 h2).mono ?_;rintro e w' ⟨⟨x,x0,x1,rfl⟩,hp⟩)
 go_ret
 exact ⟨⟨_,rfl⟩,hp⟩
theorem wf_zero:(Lit.int .u64 0).wf=true:=rfl
theorem word_any (rb:Nat) (w:World) (h:Rd w rb) :
  Calls prog 91 #[.pointer (some ⟨rb,0,none⟩)] w fun e w'=>(∃ x:Int,(Lit.int .u64 x).wf=true/\e=.returned (.int .u64 x))/\Post w rb w':=by
 have H:Hid (Rd w rb):=h
 clear h
 go_enter func91,ntmps91
 go_wp2
 go_loopw [3,4] (fun t i wr=>∃ (k:Nat) (x:Int),k<=8/\i=.int .i64 k/\t=.int .u64 x/\Hid ((Lit.int .u64 x).wf=true)/\Hid (Post w rb wr)) (fun _ i _=>8-(intOf i).toNat)
 case atStart=>exact ⟨0,0,by decide,rfl,rfl,wf_zero,Post.refl H.out⟩
 case round =>
  obtain ⟨k,x,hk,rfl,rfl,hx,hp⟩:=hrel
  by_cases hlt:k<8
  ·go_wp2_with (go_at_call 34;refine (next_any _ _ hp.out.1).mono ?_;rintro e w1 ⟨⟨y,y0,y1,rfl⟩,hp1⟩)
   go_roundw
   case rel=>exact ⟨k+1,_,by omega,by go_num,rfl,wf_bits _ _ _ _,hp.out.trans hp1⟩
   case measure=>simp [intOf];omega
  ·go_wp2
   go_ret
   exact ⟨⟨x,hx.out,rfl⟩,hp.out⟩
theorem near_any (rb:Nat) (low high:Int) (w:World) (h:Rd w rb) (h1:low<=high) (h2:-1000000000<=low) (h3:high<=1000000000) :
  Calls prog 72 #[.pointer (some ⟨rb,0,none⟩),.int .i64 low,.int .i64 high] w fun e w'=>(∃ x:Int,low<=x/\x<=high/\e=.returned (.int .i64 x))/\Post w rb w':=by
 have H:Hid (Rd w rb):=h
 clear h
 go_enter func72,ntmps72
 go_wp2_with fail
 refine (below_any _ _ _ H.out (by decide) (by decide)).mono ?_
 rintro e w1 ⟨⟨x,x0,x1,rfl⟩,hp⟩
 by_cases hx0:x=0
 ·subst hx0
  go_wp2
  go_ret
  exact ⟨⟨low,by omega,h1,rfl⟩,hp⟩
 by_cases hx1:x=1
 ·subst hx1
  go_wp2
  go_ret
  exact ⟨⟨high,h1,by omega,rfl⟩,hp⟩
 ·have b0:(x == 0)=false:=by simpa using hx0
  have b1:(x == 1)=false:=by simpa using hx1
  go_wp2_with fail
  refine (word_any _ _ hp.1).mono ?_
  rintro e w2 ⟨⟨y,hy,rfl⟩,hp'⟩
  have hy0:0<=y:=(bounds_u64 hy).1
  have HY:Hid ((Lit.int .u64 y).wf=true):=hy
  clear hy
  obtain ⟨m0,m1⟩:=mod_bd (x:=y / 2) (n:=high-low+1) (by omega)
  go_wp2
  go_ret
  exact ⟨⟨low+y / 2%(high-low+1),by omega,by omega,rfl⟩,hp.trans hp'⟩
theorem off_any (rb:Nat) (low high:Int) (w:World) (h:Rd w rb) (h1:low<=high) (h2:-1000000000<=low) (h3:high<=1000000000) :
  Calls prog 40 #[.pointer (some ⟨rb,0,none⟩),.int .i64 low,.int .i64 high] w fun e w'=>(∃ x:Int,(Lit.int .i64 x).wf=true/\e=.returned (.int .i64 x))/\Post w rb w':=by
 have H:Hid (Rd w rb):=h
 clear h
 go_enter func40,ntmps40
 go_wp2_with fail
 refine (once_any _ _ _ H.out (by decide) (by decide)).mono ?_
 rintro e w1 ⟨⟨x,rfl⟩,hp⟩
 cases x with
 | true =>
  go_wp2_with fail
  refine (below_any _ _ _ (hp.alloc _).1 (by decide) (by decide)).mono ?_
  rintro e w2 ⟨⟨y,y0,y1,rfl⟩,hp'⟩
  have hc:∃ z:Int,(Lit.int .i64 z).wf=true/\w2.cell? ⟨w1.heap.size,y.toNat,none⟩=some (.int .i64 z):=by
   have hl:=hp.1.lt
   have e:∀ i:Nat,w2.cell? ⟨w1.heap.size,i,none⟩=#[Value.int .i64 (low-1),.int .i64 (high+1),.int .i64 (-9223372036854775808),.int .i64 9223372036854775807][i]?:=fun i =>
    (World.cell?_of_block (a:=⟨w1.heap.size,i,none⟩) (hp'.2.block _ (by simp) (fun e=>by have:w1.heap.size=rb:=Option.some.inj e;omega))).trans (World.cell?_alloc_new _ _ _ _)
   have hy:y=0 \/ y=1 \/ y=2 \/ y=3:=by omega
   rcases hy with rfl|rfl|rfl|rfl
   ·exact ⟨_,wf_small (by omega) (by omega),e 0⟩
   ·exact ⟨_,wf_small (by omega) (by omega),e 1⟩
   ·exact ⟨_,by decide,e 2⟩
   ·exact ⟨_,by decide,e 3⟩
  obtain ⟨z,hz,hc⟩:=hc
  go_wp2
  go_ret
  exact ⟨⟨z,hz,rfl⟩,(hp.alloc _).trans hp'⟩
 | false =>
  go_wp2_with fail
  refine (near_any _ _ _ _ hp.1 h1 h2 h3).mono ?_
  rintro e w2 ⟨⟨y,y0,y1,rfl⟩,hp'⟩
  go_wp2
  go_ret
  exact ⟨⟨y,wf_small (by omega) (by omega),rfl⟩,hp.trans hp'⟩
theorem byte_any (rb:Nat) (w:World) (h:Rd w rb) :
  Calls prog 39 #[.pointer (some ⟨rb,0,none⟩)] w fun e w'=>(∃ x:Int,0<=x/\x<=255/\e=.returned (.int .i64 x))/\Post w rb w':=by
 have H:Hid (Rd w rb):=h
 clear h
 go_enter func39,ntmps39
 go_wp2_with fail
 refine (once_any _ _ _ H.out (by decide) (by decide)).mono ?_
 rintro e w1 ⟨⟨x,rfl⟩,hp⟩
 cases x with
 | true =>
  go_wp2_with fail
  refine (below_any _ _ _ (hp.alloc _).1 (by decide) (by decide)).mono ?_
  rintro e w2 ⟨⟨y,y0,y1,rfl⟩,hp'⟩
  have hc:∃ z:Int,0<=z/\z<=255/\w2.cell? ⟨w1.heap.size,y.toNat,none⟩=some (.int .i64 z):=by
   have hl:=hp.1.lt
   have e:∀ i:Nat,w2.cell? ⟨w1.heap.size,i,none⟩=#[Value.int .i64 0,.int .i64 1,.int .i64 127,.int .i64 128,.int .i64 255,.int .i64 15,.int .i64 16,.int .i64 240][i]?:=fun i =>
    (World.cell?_of_block (a:=⟨w1.heap.size,i,none⟩) (hp'.2.block _ (by simp) (fun e=>by have:w1.heap.size=rb:=Option.some.inj e;omega))).trans (World.cell?_alloc_new _ _ _ _)
   have hy:y=0 \/ y=1 \/ y=2 \/ y=3 \/ y=4 \/ y=5 \/ y=6 \/ y=7:=by omega
   rcases hy with rfl|rfl|rfl|rfl|rfl|rfl|rfl|rfl
   ·exact ⟨_,by decide,by decide,e 0⟩
   ·exact ⟨_,by decide,by decide,e 1⟩
   ·exact ⟨_,by decide,by decide,e 2⟩
   ·exact ⟨_,by decide,by decide,e 3⟩
   ·exact ⟨_,by decide,by decide,e 4⟩
   ·exact ⟨_,by decide,by decide,e 5⟩
   ·exact ⟨_,by decide,by decide,e 6⟩
   ·exact ⟨_,by decide,by decide,e 7⟩
  obtain ⟨z,z0,z1,hc⟩:=hc
  go_wp2
  go_ret
  exact ⟨⟨z,z0,z1,rfl⟩,(hp.alloc _).trans hp'⟩
 | false =>
  go_wp2_with fail
  refine (below_any _ _ _ hp.1 (by decide) (by decide)).mono ?_
  rintro e w2 ⟨⟨y,y0,y1,rfl⟩,hp'⟩
  go_wp2
  go_ret
  exact ⟨⟨y,y0,by omega,rfl⟩,hp.trans hp'⟩
def IsRow (k:IntKind) (w:World) (a:Option Addr) (len cap:Nat) (zs:List Int):Prop :=
 (a=none/\len=0/\cap=0/\zs=[]) \/
 ∃ x,a=some x/\len<=cap/\cap<=maxLen/\zs.length=cap/\(∀ i,i<zs.length->w.cell? (x.add i)=some (.int k (zs.getD i 0)))/\∀ n ∈ zs,(Lit.int k n).wf=true
theorem IsRow.below {k:IntKind} {w w':World} {a:Option Addr} {len cap:Nat} {zs:List Int} (h:IsRow k w a len cap zs) (hb:Below w.heap.size w w'):IsRow k w' a len cap zs:=by
 rcases h with h|⟨x,hx,hl,hm,hz,hc,hw⟩
 ·exact .inl h
 ·refine .inr ⟨x,hx,hl,hm,hz,fun i hi=>?_,hw⟩
  rw [<- hc i hi]
  exact hb.cell (World.block_lt_of_cell? w _ (hc i hi))
theorem IsRow.len {k:IntKind} {w:World} {a:Option Addr} {len cap:Nat} {zs:List Int} (h:IsRow k w a len cap zs):len<=maxLen:=by
 rcases h with ⟨_,rfl,_⟩|⟨x,_,h1,h2,_⟩
 ·exact Nat.zero_le _
 ·exact Nat.le_trans h1 h2
def bigB (len:Nat):Bool:=decide (1048576<len)
theorem big_any (a:Option Addr) (len cap:Nat) (w:World) (hl:len<=maxLen) :
  Calls prog 4 #[.slice a len cap] w fun e w'=>e=.returned (.bool (bigB len))/\w'=w:=by
 unfold maxLen at hl
 go_enter func4,ntmps4
 go_wp2
 go_ret
 refine ⟨congrArg (fun b=>Ending.returned (.bool b)) ?_,rfl⟩
 rw [Bool.eq_iff_iff];simp [bigB];try omega
theorem Rd.new {w:World} {a:Option Addr} {len cap:Nat} {zs:List Int} (h:IsRow .u8 w a len cap zs) (t:TypeId):Rd (w.alloc (.cells #[.slice a len cap,.int .i64 0] t)) w.heap.size:=by
 refine ⟨a,len,cap,0,?_,?_,Nat.zero_le _,?_,?_,fun hl=>?_⟩
 ·exact World.cell?_alloc_new _ _ _ _
 ·exact World.cell?_alloc_new _ _ _ _
 ·rcases h with ⟨_,rfl,_⟩|⟨x,_,h1,h2,_⟩
  ·exact Nat.zero_le _
  ·exact Nat.le_trans h1 h2
 ·exact World.frozen?_alloc_new _ _ _ _
 ·rcases h with ⟨_,rfl,_⟩|⟨⟨b,off,spot⟩,rfl,h1,h2,h3,hc,hw⟩
  ·exact absurd hl (Nat.lt_irrefl _)
  ·have c0:=hc 0 (by omega)
   have hspot:spot=none:=by simpa [Addr.add] using World.cell?_spot c0
   subst hspot
   have e:∀ i,(⟨b,off,none⟩ : Addr).add i=⟨b,off+i,none⟩:=fun i=>by unfold Addr.add;split <;> simp_all
   have hb:b<w.heap.size:=World.block_lt_of_cell? w ⟨b,off,none⟩ (by simpa [Addr.add] using c0)
   refine ⟨b,off,rfl,hb,fun i hi=>?_⟩
   have hi':i<zs.length:=by omega
   have:=bounds_u8 (hw (zs.getD i 0) (by rw [List.getD_eq_getElem?_getD,List.getElem?_eq_getElem hi'];exact List.getElem_mem hi'))
   refine ⟨zs.getD i 0,this.1,this.2,?_⟩
   rw [World.cell?_alloc_lt _ _ _ hb,<- e i]
   exact hc i hi'
theorem open_any (a:Option Addr) (len cap:Nat) (zs:List Int) (w:World) (h:IsRow .u8 w a len cap zs) :
  Calls prog 13 #[.slice a len cap] w fun e w'=>e=.returned (.pointer (some ⟨w.heap.size,0,none⟩))/\Rd w' w.heap.size/\Below w.heap.size w w':=by
 have H:=Rd.new h
 clear h
 go_enter func13,ntmps13
 go_wp2
 go_ret
 exact ⟨rfl,H _,zAl _ _⟩
end Rdr
end Go.Proofs.YtbofcepdckpkkaaGreatDoor
