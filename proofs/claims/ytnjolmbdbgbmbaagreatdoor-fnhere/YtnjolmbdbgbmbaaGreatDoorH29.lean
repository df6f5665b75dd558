import Derived.Test.YtnjolmbdbgbmbaaGreatDoorH22
set_option linter.all false
set_option maxRecDepth 20000
set_option maxHeartbeats 8000000
open Go.ChangeShapes Go.WideShapes Go.ChangeAt Go.RowKit
open Go.Proofs.Tryz
namespace Go.Proofs.YtnjolmbdbgbmbaaGreatDoor
namespace Stpm
open Go.Deep
open Signed (inB sgn ret_int ret_bool)
open Busw Busx Stpp Stpq Stpi Stpj Stpr Stpk
abbrev Rg (f:FuncId) (args:Array Value) (W:World) (v:Value):Prop:=∀ d os,Calls prog f args (Go.Sort.grow (redrawn W d) os) fun e w''=>e=.returned v/\∃ p:Regrown,w''=Go.Sort.grow (redrawn W p.d) p.os
theorem rg {f:FuncId} {args:Array Value} {W:World} {v:Value} (h:∀ W',Below W.heap.size W W'->Calls prog f args W' fun e w'=>e=.returned v/\Below W'.heap.size W' w'):Rg f args W v:=fun d os=>Calls.regrown_of (h _ (below_regrown W d os))
theorem reg_cell {g:G} {w:World} {m:M} {full:Bool} (h:In g w m full) (n:Int):w.cell? ⟨g.B,regI n,none⟩=some (.int .i64 (reg m n)):=by
 unfold regI reg
 repeat' split
 all_goals first|exact h.cell 2 _ rfl|exact h.cell 3 _ rfl|exact h.cell 4 _ rfl|exact h.cell 5 _ rfl|exact h.cell 6 _ rfl|exact h.cell 7 _ rfl|exact h.cell 0 _ rfl
theorem reg_set {g:G} {w:World} {m:M} {full:Bool} (h:In g w m full) (n v:Int):In g (w.setCell ⟨g.B,regI n,none⟩ (.int .i64 v)) (setR m n v) full:=by
 unfold regI setR
 repeat' split
 all_goals first|exact h.s_rB v|exact h.s_rC v|exact h.s_rD v|exact h.s_rE v|exact h.s_rH v|exact h.s_rL v|exact h.s_ra v
theorem at_hl (g:G) (m:M) (full:Bool) (w:World) (h:In g w m full) (hg:Stpq.Good m):Calls prog 162 #[.agg #[.pointer (some ⟨g.B,6,none⟩),.pointer (some ⟨g.B,7,none⟩)]] w fun e w'=>e=.returned (.int .i64 (hl m))/\Below w.heap.size w w' :=
 word_two ⟨g.B,6,none⟩ ⟨g.B,7,none⟩ m.rH m.rL w (h.cell 6 _ rfl) (h.cell 7 _ rfl) hg.h.1 hg.h.2 hg.l.1 hg.l.2
theorem get_any (g:G) (m:M) (full:Bool) (n:Int) (w:World) (h:In g w m full) (hg:Stpq.Good m) (n0:0<=n) (n1:n<=7) :
  Calls prog 155 #[.pointer (some ⟨g.K,0,none⟩),.int .i64 n] w fun e w'=>e=.returned (.int .i64 (Stpp.get m n))/\Below w.heap.size w w':=by
 have c1:=register_any g m full n w h n0 n1
 by_cases hn:n=6
 ·subst hn
  have HI:Hid (∀ W,Below w.heap.size w W->In g W m full):=fun W hb=>h.below hb
  have c2:=fun W (hb:Below w.heap.size w W)=>hl_any g W ((h.below hb).kcell 1 _ rfl)
  have c3:=fun W (hb:Below w.heap.size w W)=>at_hl g m full W (h.below hb) hg
  have c4:=fun W (hb:Below w.heap.size w W)=>read_any g m full (hl m) W (h.below hb) hg.rt
  have e1:Stpp.get m 6=rd m (hl m%65536):=by
   have:=hl_bd hg
   show rd m (hl m)=_
   rw [show hl m%65536=hl m by omega]
  have e2:regP g 6=.pointer none:=rfl
  rw [e1]
  rw [e2] at c1
  clear h hg e1 e2
  generalize rd m (hl m%65536)=r at *
  generalize hl m=a at *
  go_enter func155,ntmps155
  go_wp2_with first|(go_at_call 218;refine c1.mono ?_;rintro e w1 ⟨rfl,hb1⟩)|(go_at_call 161;refine (c2 _ ‹_›).mono ?_;rintro e w2 ⟨rfl,hb2⟩;have hb2:=CartL.after ‹Below w.heap.size w w1› hb2)|(go_at_call 162;refine (c3 _ ‹Below w.heap.size w w2›).mono ?_;rintro e w3 ⟨rfl,hb3⟩;have hb3:=CartL.after ‹Below w.heap.size w w2› hb3)|(go_at_call 220;refine (c4 _ ‹Below w.heap.size w w3›).mono ?_;rintro e w4 ⟨rfl,hb4⟩;have hb4:=CartL.after ‹Below w.heap.size w w3› hb4)
  go_ret
  exact ⟨rfl,by assumption⟩
 ·have e1:Stpp.get m n=reg m n:=by unfold Stpp.get;rw [if_neg hn]
  have e2:regP g n=.pointer (some ⟨g.B,regI n,none⟩):=by unfold regP;rw [if_neg hn]
  have HI:Hid (∀ W,Below w.heap.size w W->W.cell? ⟨g.B,regI n,none⟩=some (.int .i64 (reg m n))):=fun W hb=>reg_cell (h.below hb) n
  rw [e1]
  rw [e2] at c1
  clear h hg e1 e2
  generalize reg m n=r at *
  generalize regI n=i at *
  go_enter func155,ntmps155
  go_wp2_with (go_at_call 218;refine c1.mono ?_;rintro e w1 ⟨rfl,hb1⟩;have k:=HI.out w1 hb1)
  go_ret
  exact ⟨rfl,by assumption⟩
theorem put_any (g:G) (m:M) (full:Bool) (n v:Int) (w:World) (h:In g w m full) (hg:Stpq.Good m) (n0:0<=n) (n1:n<=7) (v0:0<=v) (v1:v<=255) :
  Calls prog 154 #[.pointer (some ⟨g.K,0,none⟩),.int .i64 n,.int .i64 v] w fun e w'=>e=.returned (.tuple #[])/\In g w' (put ⟨m,full⟩ n v).m (put ⟨m,full⟩ n v).full:=by
 have c1:=register_any g m full n w h n0 n1
 by_cases hn:n=6
 ·subst hn
  have c2:=fun W (hb:Below w.heap.size w W)=>hl_any g W ((h.below hb).kcell 1 _ rfl)
  have c3:=fun W (hb:Below w.heap.size w W)=>at_hl g m full W (h.below hb) hg
  have c4:=fun W (hb:Below w.heap.size w W)=>write_any g m full (hl m) v W (h.below hb) hg.rt v0 v1
  have e2:regP g 6=.pointer none:=rfl
  rw [show put ⟨m,full⟩ 6 v=wr ⟨m,full⟩ (hl m) v from rfl]
  rw [e2] at c1
  clear h hg e2 v0 v1
  generalize wr ⟨m,full⟩ (hl m) v=s at *
  generalize hl m=a at *
  go_enter func154,ntmps154
  go_wp2_with first|(go_at_call 218;refine c1.mono ?_;rintro e w1 ⟨rfl,hb1⟩)|(go_at_call 161;refine (c2 _ ‹_›).mono ?_;rintro e w2 ⟨rfl,hb2⟩;have hb2:=CartL.after ‹Below w.heap.size w w1› hb2)|(go_at_call 162;refine (c3 _ ‹Below w.heap.size w w2›).mono ?_;rintro e w3 ⟨rfl,hb3⟩;have hb3:=CartL.after ‹Below w.heap.size w w2› hb3)|(go_at_call 219;refine (c4 _ ‹Below w.heap.size w w3›).mono ?_;rintro e w4 ⟨rfl,hi4⟩;have HI4:Hid (In g w4 s.m s.full):=hi4;clear hi4)
  go_end0
  exact ⟨rfl,HI4.out⟩
 ·have e2:regP g n=.pointer (some ⟨g.B,regI n,none⟩):=by unfold regP;rw [if_neg hn]
  have HC:Hid (∀ W,Below w.heap.size w W->W.cell? ⟨g.B,regI n,none⟩=some (.int .i64 (reg m n))/\W.frozen? ⟨g.B,regI n,none⟩=false/\In g (W.setCell ⟨g.B,regI n,none⟩ (.int .i64 v)) (put ⟨m,full⟩ n v).m (put ⟨m,full⟩ n v).full):=fun W hb=>⟨reg_cell (h.below hb) n,(h.below hb).fro _,by
   unfold put;rw [if_neg hn];exact reg_set (h.below hb) n v⟩
  rw [e2] at c1
  clear h hg e2 v0 v1
  generalize put ⟨m,full⟩ n v=s at *
  generalize reg m n=r at *
  generalize regI n=i at *
  go_enter func154,ntmps154
  go_wp2_with (go_at_call 218;refine c1.mono ?_;rintro e w1 ⟨rfl,hb1⟩;obtain ⟨k,f,hi⟩:=HC.out w1 hb1;have HI4:Hid (In g (w1.setCell ⟨g.B,i,none⟩ (.int .i64 v)) s.m s.full):=hi;clear hi)
  refine bodyPost_ret (results_none rfl _ _ _) rfl ?_
  exact ⟨rfl,HI4.out⟩
def pv (g:G) (n:Int):Value:=if n=0 then .agg #[.pointer (some ⟨g.B,2,none⟩),.pointer (some ⟨g.B,3,none⟩)] else if n=1 then .agg #[.pointer (some ⟨g.B,4,none⟩),.pointer (some ⟨g.B,5,none⟩)] else if n=2 then .agg #[.pointer (some ⟨g.B,6,none⟩),.pointer (some ⟨g.B,7,none⟩)] else .agg #[.pointer none,.pointer (some ⟨g.B,8,none⟩)]
theorem ixp_0 (B:Nat) (w:World):(Instr.index 186 (.agg #[.pointer (some ⟨B,2,none⟩),.pointer (some ⟨B,3,none⟩),.pointer (some ⟨B,4,none⟩),.pointer (some ⟨B,5,none⟩),.pointer (some ⟨B,6,none⟩),.pointer (some ⟨B,7,none⟩),.pointer none,.pointer (some ⟨B,8,none⟩)]) (.int .i64 0)).run prog w=.ok (.agg #[.pointer (some ⟨B,2,none⟩),.pointer (some ⟨B,3,none⟩)]) w:=by kernel_rfl
theorem pairOf_0 (g:G) (w:World) (k1:w.cell? ⟨g.K,1,none⟩=some (.pointer (some ⟨g.B,0,none⟩))) :
  Calls prog 158 #[.pointer (some ⟨g.K,0,none⟩),.int .i64 0] w fun e w'=>e=.returned (.agg #[.pointer (some ⟨g.B,2,none⟩),.pointer (some ⟨g.B,3,none⟩)])/\Below w.heap.size w w':=by
 have hi:=ixp_0 g.B
 have l1:=World.block_lt_of_cell? w _ k1
 have q1:(w.alloc (.cells #[.pointer none,.pointer none] 173)).cell? ⟨g.K,1,none⟩=some (.pointer (some ⟨g.B,0,none⟩)):=by rw [((Below.refl _ w).alloc (Nat.le_refl _) _).cell (p:=⟨g.K,1,none⟩) l1];exact k1
 have c1:Rg 161 #[.pointer (some ⟨g.K,0,none⟩)] (w.alloc (.cells #[.pointer none,.pointer none] 173)) _:=rg fun W hb=>hl_any g W ((hb.cell (p:=⟨g.K,1,none⟩) (World.block_lt_of_cell? _ _ q1)).trans q1)
 have r1:=cell_regrown q1
 have HB:Hid (∀ d os,Below w.heap.size w (Go.Sort.grow (redrawn (w.alloc (.cells #[.pointer none,.pointer none] 173)) d) os)/\(Go.Sort.grow (redrawn (w.alloc (.cells #[.pointer none,.pointer none] 173)) d) os).heap[w.heap.size]? = some (.cells #[.pointer none,.pointer none] 173)):=fun d os=>⟨CartL.after ((Below.refl _ w).alloc (Nat.le_refl _) _) (below_regrown _ d os),((below_regrown _ d os).block w.heap.size (by simp)).trans (heap_alloc_new w _)⟩
 clear k1 q1
 go_enter func158,ntmps158
 go_wp2_with fail
 refine Qtail.tail_below 38 (by kernel_rfl) (by kernel_rfl) ?_
 simp only [List.take_succ_cons,List.take_zero,List.drop_succ_cons,List.drop_zero]
 repeat (go_big_quiet_step (first|exact c1 _ _))
 refine wpQuiet_nil ?_
 intro _ hw'
 obtain ⟨⟨dq,osq⟩,hw''⟩:=hw'
 subst hw''
 obtain ⟨hb2,hx2⟩:=HB.out dq osq
 generalize Go.Sort.grow (redrawn (w.alloc (.cells #[.pointer none,.pointer none] 173)) dq) osq=W2 at *
 refine wpList_store_row rfl 173 _ _ rfl w.heap.size #[.pointer (some ⟨g.B,2,none⟩),.pointer (some ⟨g.B,3,none⟩)] rfl rfl _ _ hx2 (by kernel_rfl) rfl (by simp [Value.oneCell']) ?_
 refine wpList_nil ?_
 have hx3:(W2.setRow w.heap.size #[.pointer (some ⟨g.B,2,none⟩),.pointer (some ⟨g.B,3,none⟩)]).heap[w.heap.size]? = some (.cells #[.pointer (some ⟨g.B,2,none⟩),.pointer (some ⟨g.B,3,none⟩)] 173):=MachT.heap_row hx2
 have hb3:Below w.heap.size w (W2.setRow w.heap.size #[.pointer (some ⟨g.B,2,none⟩),.pointer (some ⟨g.B,3,none⟩)]):=MachT.below_row hb2 (Nat.le_refl _)
 generalize W2.setRow w.heap.size #[.pointer (some ⟨g.B,2,none⟩),.pointer (some ⟨g.B,3,none⟩)]=W3 at *
 go_wp2
 refine bodyPost_ret (v:=.agg #[.pointer (some ⟨g.B,2,none⟩),.pointer (some ⟨g.B,3,none⟩)]) (results_cell_row results158 _ _ w.heap.size _ _ (0,0) _ rfl hx3 underlying173 rfl (by kernel_rfl)) rfl ⟨rfl,hb3⟩
theorem ixp_1 (B:Nat) (w:World):(Instr.index 186 (.agg #[.pointer (some ⟨B,2,none⟩),.pointer (some ⟨B,3,none⟩),.pointer (some ⟨B,4,none⟩),.pointer (some ⟨B,5,none⟩),.pointer (some ⟨B,6,none⟩),.pointer (some ⟨B,7,none⟩),.pointer none,.pointer (some ⟨B,8,none⟩)]) (.int .i64 1)).run prog w=.ok (.agg #[.pointer (some ⟨B,4,none⟩),.pointer (some ⟨B,5,none⟩)]) w:=by kernel_rfl
theorem pairOf_1 (g:G) (w:World) (k1:w.cell? ⟨g.K,1,none⟩=some (.pointer (some ⟨g.B,0,none⟩))) :
  Calls prog 158 #[.pointer (some ⟨g.K,0,none⟩),.int .i64 1] w fun e w'=>e=.returned (.agg #[.pointer (some ⟨g.B,4,none⟩),.pointer (some ⟨g.B,5,none⟩)])/\Below w.heap.size w w':=by
 have hi:=ixp_1 g.B
 have l1:=World.block_lt_of_cell? w _ k1
 have q1:(w.alloc (.cells #[.pointer none,.pointer none] 173)).cell? ⟨g.K,1,none⟩=some (.pointer (some ⟨g.B,0,none⟩)):=by rw [((Below.refl _ w).alloc (Nat.le_refl _) _).cell (p:=⟨g.K,1,none⟩) l1];exact k1
 have c1:Rg 161 #[.pointer (some ⟨g.K,0,none⟩)] (w.alloc (.cells #[.pointer none,.pointer none] 173)) _:=rg fun W hb=>hl_any g W ((hb.cell (p:=⟨g.K,1,none⟩) (World.block_lt_of_cell? _ _ q1)).trans q1)
 have r1:=cell_regrown q1
 have HB:Hid (∀ d os,Below w.heap.size w (Go.Sort.grow (redrawn (w.alloc (.cells #[.pointer none,.pointer none] 173)) d) os)/\(Go.Sort.grow (redrawn (w.alloc (.cells #[.pointer none,.pointer none] 173)) d) os).heap[w.heap.size]? = some (.cells #[.pointer none,.pointer none] 173)):=fun d os=>⟨CartL.after ((Below.refl _ w).alloc (Nat.le_refl _) _) (below_regrown _ d os),((below_regrown _ d os).block w.heap.size (by simp)).trans (heap_alloc_new w _)⟩
 clear k1 q1
 go_enter func158,ntmps158
 go_wp2_with fail
 refine Qtail.tail_below 38 (by kernel_rfl) (by kernel_rfl) ?_
 simp only [List.take_succ_cons,List.take_zero,List.drop_succ_cons,List.drop_zero]
 repeat (go_big_quiet_step (first|exact c1 _ _))
 refine wpQuiet_nil ?_
 intro _ hw'
 obtain ⟨⟨dq,osq⟩,hw''⟩:=hw'
 subst hw''
 obtain ⟨hb2,hx2⟩:=HB.out dq osq
 generalize Go.Sort.grow (redrawn (w.alloc (.cells #[.pointer none,.pointer none] 173)) dq) osq=W2 at *
 refine wpList_store_row rfl 173 _ _ rfl w.heap.size #[.pointer (some ⟨g.B,4,none⟩),.pointer (some ⟨g.B,5,none⟩)] rfl rfl _ _ hx2 (by kernel_rfl) rfl (by simp [Value.oneCell']) ?_
 refine wpList_nil ?_
 have hx3:(W2.setRow w.heap.size #[.pointer (some ⟨g.B,4,none⟩),.pointer (some ⟨g.B,5,none⟩)]).heap[w.heap.size]? = some (.cells #[.pointer (some ⟨g.B,4,none⟩),.pointer (some ⟨g.B,5,none⟩)] 173):=MachT.heap_row hx2
 have hb3:Below w.heap.size w (W2.setRow w.heap.size #[.pointer (some ⟨g.B,4,none⟩),.pointer (some ⟨g.B,5,none⟩)]):=MachT.below_row hb2 (Nat.le_refl _)
 generalize W2.setRow w.heap.size #[.pointer (some ⟨g.B,4,none⟩),.pointer (some ⟨g.B,5,none⟩)]=W3 at *
 go_wp2
 refine bodyPost_ret (v:=.agg #[.pointer (some ⟨g.B,4,none⟩),.pointer (some ⟨g.B,5,none⟩)]) (results_cell_row results158 _ _ w.heap.size _ _ (0,0) _ rfl hx3 underlying173 rfl (by kernel_rfl)) rfl ⟨rfl,hb3⟩
theorem ixp_2 (B:Nat) (w:World):(Instr.index 186 (.agg #[.pointer (some ⟨B,2,none⟩),.pointer (some ⟨B,3,none⟩),.pointer (some ⟨B,4,none⟩),.pointer (some ⟨B,5,none⟩),.pointer (some ⟨B,6,none⟩),.pointer (some ⟨B,7,none⟩),.pointer none,.pointer (some ⟨B,8,none⟩)]) (.int .i64 2)).run prog w=.ok (.agg #[.pointer (some ⟨B,6,none⟩),.pointer (some ⟨B,7,none⟩)]) w:=by kernel_rfl
theorem pairOf_2 (g:G) (w:World) (k1:w.cell? ⟨g.K,1,none⟩=some (.pointer (some ⟨g.B,0,none⟩))) :
  Calls prog 158 #[.pointer (some ⟨g.K,0,none⟩),.int .i64 2] w fun e w'=>e=.returned (.agg #[.pointer (some ⟨g.B,6,none⟩),.pointer (some ⟨g.B,7,none⟩)])/\Below w.heap.size w w':=by
 have hi:=ixp_2 g.B
 have l1:=World.block_lt_of_cell? w _ k1
 have q1:(w.alloc (.cells #[.pointer none,.pointer none] 173)).cell? ⟨g.K,1,none⟩=some (.pointer (some ⟨g.B,0,none⟩)):=by rw [((Below.refl _ w).alloc (Nat.le_refl _) _).cell (p:=⟨g.K,1,none⟩) l1];exact k1
 have c1:Rg 161 #[.pointer (some ⟨g.K,0,none⟩)] (w.alloc (.cells #[.pointer none,.pointer none] 173)) _:=rg fun W hb=>hl_any g W ((hb.cell (p:=⟨g.K,1,none⟩) (World.block_lt_of_cell? _ _ q1)).trans q1)
 have r1:=cell_regrown q1
 have HB:Hid (∀ d os,Below w.heap.size w (Go.Sort.grow (redrawn (w.alloc (.cells #[.pointer none,.pointer none] 173)) d) os)/\(Go.Sort.grow (redrawn (w.alloc (.cells #[.pointer none,.pointer none] 173)) d) os).heap[w.heap.size]? = some (.cells #[.pointer none,.pointer none] 173)):=fun d os=>⟨CartL.after ((Below.refl _ w).alloc (Nat.le_refl _) _) (below_regrown _ d os),((below_regrown _ d os).block w.heap.size (by simp)).trans (heap_alloc_new w _)⟩
 clear k1 q1
 go_enter func158,ntmps158
 go_wp2_with fail
 refine Qtail.tail_below 38 (by kernel_rfl) (by kernel_rfl) ?_
 simp only [List.take_succ_cons,List.take_zero,List.drop_succ_cons,List.drop_zero]
 repeat (go_big_quiet_step (first|exact c1 _ _))
 refine wpQuiet_nil ?_
 intro _ hw'
 obtain ⟨⟨dq,osq⟩,hw''⟩:=hw'
 subst hw''
 obtain ⟨hb2,hx2⟩:=HB.out dq osq
 generalize Go.Sort.grow (redrawn (w.alloc (.cells #[.pointer none,.pointer none] 173)) dq) osq=W2 at *
 refine wpList_store_row rfl 173 _ _ rfl w.heap.size #[.pointer (some ⟨g.B,6,none⟩),.pointer (some ⟨g.B,7,none⟩)] rfl rfl _ _ hx2 (by kernel_rfl) rfl (by simp [Value.oneCell']) ?_
 refine wpList_nil ?_
 have hx3:(W2.setRow w.heap.size #[.pointer (some ⟨g.B,6,none⟩),.pointer (some ⟨g.B,7,none⟩)]).heap[w.heap.size]? = some (.cells #[.pointer (some ⟨g.B,6,none⟩),.pointer (some ⟨g.B,7,none⟩)] 173):=MachT.heap_row hx2
 have hb3:Below w.heap.size w (W2.setRow w.heap.size #[.pointer (some ⟨g.B,6,none⟩),.pointer (some ⟨g.B,7,none⟩)]):=MachT.below_row hb2 (Nat.le_refl _)
 generalize W2.setRow w.heap.size #[.pointer (some ⟨g.B,6,none⟩),.pointer (some ⟨g.B,7,none⟩)]=W3 at *
 go_wp2
 refine bodyPost_ret (v:=.agg #[.pointer (some ⟨g.B,6,none⟩),.pointer (some ⟨g.B,7,none⟩)]) (results_cell_row results158 _ _ w.heap.size _ _ (0,0) _ rfl hx3 underlying173 rfl (by kernel_rfl)) rfl ⟨rfl,hb3⟩
theorem ixp_3 (B:Nat) (w:World):(Instr.index 186 (.agg #[.pointer (some ⟨B,2,none⟩),.pointer (some ⟨B,3,none⟩),.pointer (some ⟨B,4,none⟩),.pointer (some ⟨B,5,none⟩),.pointer (some ⟨B,6,none⟩),.pointer (some ⟨B,7,none⟩),.pointer none,.pointer (some ⟨B,8,none⟩)]) (.int .i64 3)).run prog w=.ok (.agg #[.pointer none,.pointer (some ⟨B,8,none⟩)]) w:=by kernel_rfl
theorem pairOf_3 (g:G) (w:World) (k1:w.cell? ⟨g.K,1,none⟩=some (.pointer (some ⟨g.B,0,none⟩))) :
  Calls prog 158 #[.pointer (some ⟨g.K,0,none⟩),.int .i64 3] w fun e w'=>e=.returned (.agg #[.pointer none,.pointer (some ⟨g.B,8,none⟩)])/\Below w.heap.size w w':=by
 have hi:=ixp_3 g.B
 have l1:=World.block_lt_of_cell? w _ k1
 have q1:(w.alloc (.cells #[.pointer none,.pointer none] 173)).cell? ⟨g.K,1,none⟩=some (.pointer (some ⟨g.B,0,none⟩)):=by rw [((Below.refl _ w).alloc (Nat.le_refl _) _).cell (p:=⟨g.K,1,none⟩) l1];exact k1
 have c1:Rg 161 #[.pointer (some ⟨g.K,0,none⟩)] (w.alloc (.cells #[.pointer none,.pointer none] 173)) _:=rg fun W hb=>hl_any g W ((hb.cell (p:=⟨g.K,1,none⟩) (World.block_lt_of_cell? _ _ q1)).trans q1)
 have r1:=cell_regrown q1
 have HB:Hid (∀ d os,Below w.heap.size w (Go.Sort.grow (redrawn (w.alloc (.cells #[.pointer none,.pointer none] 173)) d) os)/\(Go.Sort.grow (redrawn (w.alloc (.cells #[.pointer none,.pointer none] 173)) d) os).heap[w.heap.size]? = some (.cells #[.pointer none,.pointer none] 173)):=fun d os=>⟨CartL.after ((Below.refl _ w).alloc (Nat.le_refl _) _) (below_regrown _ d os),((below_regrown _ d os).block w.heap.size (by simp)).trans (heap_alloc_new w _)⟩
 clear k1 q1
 go_enter func158,ntmps158
 go_wp2_with fail
 refine Qtail.tail_below 38 (by kernel_rfl) (by kernel_rfl) ?_
 simp only [List.take_succ_cons,List.take_zero,List.drop_succ_cons,List.drop_zero]
 repeat (go_big_quiet_step (first|exact c1 _ _))
 refine wpQuiet_nil ?_
 intro _ hw'
 obtain ⟨⟨dq,osq⟩,hw''⟩:=hw'
 subst hw''
 obtain ⟨hb2,hx2⟩:=HB.out dq osq
 generalize Go.Sort.grow (redrawn (w.alloc (.cells #[.pointer none,.pointer none] 173)) dq) osq=W2 at *
 refine wpList_store_row rfl 173 _ _ rfl w.heap.size #[.pointer none,.pointer (some ⟨g.B,8,none⟩)] rfl rfl _ _ hx2 (by kernel_rfl) rfl (by simp [Value.oneCell']) ?_
 refine wpList_nil ?_
 have hx3:(W2.setRow w.heap.size #[.pointer none,.pointer (some ⟨g.B,8,none⟩)]).heap[w.heap.size]? = some (.cells #[.pointer none,.pointer (some ⟨g.B,8,none⟩)] 173):=MachT.heap_row hx2
 have hb3:Below w.heap.size w (W2.setRow w.heap.size #[.pointer none,.pointer (some ⟨g.B,8,none⟩)]):=MachT.below_row hb2 (Nat.le_refl _)
 generalize W2.setRow w.heap.size #[.pointer none,.pointer (some ⟨g.B,8,none⟩)]=W3 at *
 go_wp2
 refine bodyPost_ret (v:=.agg #[.pointer none,.pointer (some ⟨g.B,8,none⟩)]) (results_cell_row results158 _ _ w.heap.size _ _ (0,0) _ rfl hx3 underlying173 rfl (by kernel_rfl)) rfl ⟨rfl,hb3⟩
end Stpm
namespace Stpi
open Busw
theorem In.k_cpu {g:G} {W:World} {m:M} {full:Bool} (h:In g W m full):W.cell? ⟨g.K,1,none⟩=some (.pointer (some ⟨g.B,0,none⟩)):=h.kcell 1 _ rfl
theorem In.k_imm {g:G} {W:World} {m:M} {full:Bool} (h:In g W m full):W.cell? ⟨g.K,4,none⟩=some (.int .i64 g.imm):=h.kcell 4 _ rfl
theorem In.k_x {g:G} {W:World} {m:M} {full:Bool} (h:In g W m full):W.cell? ⟨g.K,5,none⟩=some (.int .i64 g.x):=h.kcell 5 _ rfl
theorem In.k_y {g:G} {W:World} {m:M} {full:Bool} (h:In g W m full):W.cell? ⟨g.K,6,none⟩=some (.int .i64 g.y):=h.kcell 6 _ rfl
theorem In.k_z {g:G} {W:World} {m:M} {full:Bool} (h:In g W m full):W.cell? ⟨g.K,7,none⟩=some (.int .i64 g.z):=h.kcell 7 _ rfl
theorem In.k_p {g:G} {W:World} {m:M} {full:Bool} (h:In g W m full):W.cell? ⟨g.K,8,none⟩=some (.int .i64 g.p):=h.kcell 8 _ rfl
theorem In.k_full {g:G} {W:World} {m:M} {full:Bool} (h:In g W m full):W.cell? ⟨g.K,10,none⟩=some (.bool full):=h.kcell 10 _ rfl
theorem In.c_ra {g:G} {W:World} {m:M} {full:Bool} (h:In g W m full):W.cell? ⟨g.B,0,none⟩=some (.int .i64 m.ra):=h.cell 0 _ rfl
theorem In.c_rf {g:G} {W:World} {m:M} {full:Bool} (h:In g W m full):W.cell? ⟨g.B,1,none⟩=some (.int .i64 m.rf):=h.cell 1 _ rfl
theorem In.c_rB {g:G} {W:World} {m:M} {full:Bool} (h:In g W m full):W.cell? ⟨g.B,2,none⟩=some (.int .i64 m.rB):=h.cell 2 _ rfl
theorem In.c_rC {g:G} {W:World} {m:M} {full:Bool} (h:In g W m full):W.cell? ⟨g.B,3,none⟩=some (.int .i64 m.rC):=h.cell 3 _ rfl
theorem In.c_rD {g:G} {W:World} {m:M} {full:Bool} (h:In g W m full):W.cell? ⟨g.B,4,none⟩=some (.int .i64 m.rD):=h.cell 4 _ rfl
theorem In.c_rE {g:G} {W:World} {m:M} {full:Bool} (h:In g W m full):W.cell? ⟨g.B,5,none⟩=some (.int .i64 m.rE):=h.cell 5 _ rfl
theorem In.c_rH {g:G} {W:World} {m:M} {full:Bool} (h:In g W m full):W.cell? ⟨g.B,6,none⟩=some (.int .i64 m.rH):=h.cell 6 _ rfl
theorem In.c_rL {g:G} {W:World} {m:M} {full:Bool} (h:In g W m full):W.cell? ⟨g.B,7,none⟩=some (.int .i64 m.rL):=h.cell 7 _ rfl
theorem In.c_sp {g:G} {W:World} {m:M} {full:Bool} (h:In g W m full):W.cell? ⟨g.B,8,none⟩=some (.int .i64 m.sp):=h.cell 8 _ rfl
theorem In.c_pc {g:G} {W:World} {m:M} {full:Bool} (h:In g W m full):W.cell? ⟨g.B,9,none⟩=some (.int .i64 m.pc):=h.cell 9 _ rfl
theorem In.c_ime {g:G} {W:World} {m:M} {full:Bool} (h:In g W m full):W.cell? ⟨g.B,10,none⟩=some (.bool m.ime):=h.cell 10 _ rfl
theorem In.c_hal {g:G} {W:World} {m:M} {full:Bool} (h:In g W m full):W.cell? ⟨g.B,11,none⟩=some (.bool m.hal):=h.cell 11 _ rfl
end Stpi
namespace Stpn
open Go.Deep
open Signed (inB sgn ret_int ret_bool)
open Busw Busx Stpp Stpq Stpi Stpj Stpr Stpk Stpm
theorem cases4 {n:Int} (n0:0<=n) (n1:n<=3):n=0 \/ n=1 \/ n=2 \/ n=3:=by omega
theorem pairOf_any (g:G) (m:M) (full:Bool) (n:Int) (w:World) (h:In g w m full) (n0:0<=n) (n1:n<=3) :
  Calls prog 158 #[.pointer (some ⟨g.K,0,none⟩),.int .i64 n] w fun e w'=>e=.returned (pv g n)/\Below w.heap.size w w':=by
 have k1:=h.k_cpu
 rcases cases4 n0 n1 with rfl|rfl|rfl|rfl
 ·exact pairOf_0 g w k1
 ·exact pairOf_1 g w k1
 ·exact pairOf_2 g w k1
 ·exact pairOf_3 g w k1
theorem word_any (g:G) (m:M) (full:Bool) (n:Int) (w:World) (h:In g w m full) (hg:Stpq.Good m) (n0:0<=n) (n1:n<=3) :
  Calls prog 162 #[pv g n] w fun e w'=>e=.returned (.int .i64 (pr m n))/\Below w.heap.size w w':=by
 rcases cases4 n0 n1 with rfl|rfl|rfl|rfl
 ·exact word_two _ _ _ _ w (h.c_rB) (h.c_rC) hg.b.1 hg.b.2 hg.c.1 hg.c.2
 ·exact word_two _ _ _ _ w (h.c_rD) (h.c_rE) hg.d.1 hg.d.2 hg.e.1 hg.e.2
 ·exact word_two _ _ _ _ w (h.c_rH) (h.c_rL) hg.h.1 hg.h.2 hg.l.1 hg.l.2
 ·exact word_one _ _ w (h.c_sp)
theorem pput_any (g:G) (m:M) (full:Bool) (n v:Int) (w:World) (h:In g w m full) (n0:0<=n) (n1:n<=3) :
  Calls prog 159 #[pv g n,.int .i64 v] w fun e w'=>e=.returned (.tuple #[])/\In g w' (setP m n (v%65536)) full:=by
 rcases cases4 n0 n1 with rfl|rfl|rfl|rfl
 ·exact pput_bc g m full v w h
 ·exact pput_de g m full v w h
 ·exact pput_hl g m full v w h
 ·exact pput_sp g m full v w h
def qv (g:G) (n:Int):Value:=if n=3 then .agg #[.pointer (some ⟨g.B,0,none⟩),.pointer (some ⟨g.B,1,none⟩)] else pv g n
theorem wordQ_any (g:G) (m:M) (full:Bool) (n:Int) (w:World) (h:In g w m full) (hg:Stpq.Good m) (n0:0<=n) (n1:n<=3) :
  Calls prog 162 #[qv g n] w fun e w'=>e=.returned (.int .i64 (prQ m n))/\Below w.heap.size w w':=by
 by_cases hn:n=3
 ·subst hn
  exact word_two _ _ _ _ w (h.c_ra) (h.c_rf) hg.a.1 hg.a.2 hg.f.1 hg.f.2
 ·unfold qv prQ
  rw [if_neg hn,if_neg hn]
  exact word_any g m full n w h hg n0 n1
def setQ0 (m:M) (p v:Int):M:=if p=3 then { m with ra:=v / 256,rf:=v%256 } else setP m p v
theorem pputQ_any (g:G) (m:M) (full:Bool) (n v:Int) (w:World) (h:In g w m full) (n0:0<=n) (n1:n<=3) :
  Calls prog 159 #[qv g n,.int .i64 v] w fun e w'=>e=.returned (.tuple #[])/\In g w' (setQ0 m n (v%65536)) full:=by
 by_cases hn:n=3
 ·subst hn
  exact pput_af g m full v w h
 ·unfold qv setQ0
  rw [if_neg hn,if_neg hn]
  exact pput_any g m full n v w h n0 n1
theorem stack_0 (g:G) (m:M) (full:Bool) (w:World) (h:In g w m full) :
  Calls prog 173 #[.pointer (some ⟨g.K,0,none⟩),.int .i64 0] w fun e w'=>e=.returned (.agg #[.pointer (some ⟨g.B,2,none⟩),.pointer (some ⟨g.B,3,none⟩)])/\Below w.heap.size w w':=by
 have q:w.cell? ⟨0,0,none⟩=some (.string ⟨#[98,99]⟩):=h.tb.stack 0 (by decide)
 have lq:=World.block_lt_of_cell? w _ q
 have HC:Hid (∀ W,Below w.heap.size w W->Calls prog 158 #[.pointer (some ⟨g.K,0,none⟩),.int .i64 0] W fun e w'=>e=.returned (.agg #[.pointer (some ⟨g.B,2,none⟩),.pointer (some ⟨g.B,3,none⟩)])/\Below W.heap.size W w'):=fun W hb=>pairOf_0 g W ((h.below hb).k_cpu)
 clear h
 go_enter func173,ntmps173
 go_wp2_with (go_at_call 158;refine (HC.out _ (by repeat (with_reducible first|exact zRf|refine zGr ?_ _|refine below_drewN ?_ _|refine Below.drew ?_))).mono ?_;rintro e w1 ⟨rfl,hb1⟩;have hx1:=(hb1.block w.heap.size (by simp)).trans (heap_alloc_new w _);have hb1:=CartL.after ((Below.refl _ w).alloc (Nat.le_refl _) _) hb1;have k0:=cell_of_row w1 w.heap.size 0 _ _ _ hx1;have k1:=cell_of_row w1 w.heap.size 1 _ _ _ hx1;have f0:=frozen_of_row w1 w.heap.size 0 _ _ hx1;have f1:=frozen_of_row w1 w.heap.size 1 _ _ hx1;have HX:Hid (Below w.heap.size w w1):=hb1;have lx:w.heap.size<w1.heap.size:=(zLo hx1);clear hx1 hb1;simp at k0 k1)
 refine bodyPost_ret (v:=.agg #[.pointer (some ⟨g.B,2,none⟩),.pointer (some ⟨g.B,3,none⟩)]) (by simp [results,results173,go_sem,k0,k1,lx]) rfl ⟨rfl,?_⟩
 exact (HX.out.setCell (Nat.le_refl _) _).setCell (Nat.le_refl _) _
theorem stack_1 (g:G) (m:M) (full:Bool) (w:World) (h:In g w m full) :
  Calls prog 173 #[.pointer (some ⟨g.K,0,none⟩),.int .i64 1] w fun e w'=>e=.returned (.agg #[.pointer (some ⟨g.B,4,none⟩),.pointer (some ⟨g.B,5,none⟩)])/\Below w.heap.size w w':=by
 have q:w.cell? ⟨0,1,none⟩=some (.string ⟨#[100,101]⟩):=h.tb.stack 1 (by decide)
 have lq:=World.block_lt_of_cell? w _ q
 have HC:Hid (∀ W,Below w.heap.size w W->Calls prog 158 #[.pointer (some ⟨g.K,0,none⟩),.int .i64 1] W fun e w'=>e=.returned (.agg #[.pointer (some ⟨g.B,4,none⟩),.pointer (some ⟨g.B,5,none⟩)])/\Below W.heap.size W w'):=fun W hb=>pairOf_1 g W ((h.below hb).k_cpu)
 clear h
 go_enter func173,ntmps173
 go_wp2_with (go_at_call 158;refine (HC.out _ (by repeat (with_reducible first|exact zRf|refine zGr ?_ _|refine below_drewN ?_ _|refine Below.drew ?_))).mono ?_;rintro e w1 ⟨rfl,hb1⟩;have hx1:=(hb1.block w.heap.size (by simp)).trans (heap_alloc_new w _);have hb1:=CartL.after ((Below.refl _ w).alloc (Nat.le_refl _) _) hb1;have k0:=cell_of_row w1 w.heap.size 0 _ _ _ hx1;have k1:=cell_of_row w1 w.heap.size 1 _ _ _ hx1;have f0:=frozen_of_row w1 w.heap.size 0 _ _ hx1;have f1:=frozen_of_row w1 w.heap.size 1 _ _ hx1;have HX:Hid (Below w.heap.size w w1):=hb1;have lx:w.heap.size<w1.heap.size:=(zLo hx1);clear hx1 hb1;simp at k0 k1)
 refine bodyPost_ret (v:=.agg #[.pointer (some ⟨g.B,4,none⟩),.pointer (some ⟨g.B,5,none⟩)]) (by simp [results,results173,go_sem,k0,k1,lx]) rfl ⟨rfl,?_⟩
 exact (HX.out.setCell (Nat.le_refl _) _).setCell (Nat.le_refl _) _
theorem stack_2 (g:G) (m:M) (full:Bool) (w:World) (h:In g w m full) :
  Calls prog 173 #[.pointer (some ⟨g.K,0,none⟩),.int .i64 2] w fun e w'=>e=.returned (.agg #[.pointer (some ⟨g.B,6,none⟩),.pointer (some ⟨g.B,7,none⟩)])/\Below w.heap.size w w':=by
 have q:w.cell? ⟨0,2,none⟩=some (.string ⟨#[104,108]⟩):=h.tb.stack 2 (by decide)
 have lq:=World.block_lt_of_cell? w _ q
 have HC:Hid (∀ W,Below w.heap.size w W->Calls prog 158 #[.pointer (some ⟨g.K,0,none⟩),.int .i64 2] W fun e w'=>e=.returned (.agg #[.pointer (some ⟨g.B,6,none⟩),.pointer (some ⟨g.B,7,none⟩)])/\Below W.heap.size W w'):=fun W hb=>pairOf_2 g W ((h.below hb).k_cpu)
 clear h
 go_enter func173,ntmps173
 go_wp2_with (go_at_call 158;refine (HC.out _ (by repeat (with_reducible first|exact zRf|refine zGr ?_ _|refine below_drewN ?_ _|refine Below.drew ?_))).mono ?_;rintro e w1 ⟨rfl,hb1⟩;have hx1:=(hb1.block w.heap.size (by simp)).trans (heap_alloc_new w _);have hb1:=CartL.after ((Below.refl _ w).alloc (Nat.le_refl _) _) hb1;have k0:=cell_of_row w1 w.heap.size 0 _ _ _ hx1;have k1:=cell_of_row w1 w.heap.size 1 _ _ _ hx1;have f0:=frozen_of_row w1 w.heap.size 0 _ _ hx1;have f1:=frozen_of_row w1 w.heap.size 1 _ _ hx1;have HX:Hid (Below w.heap.size w w1):=hb1;have lx:w.heap.size<w1.heap.size:=(zLo hx1);clear hx1 hb1;simp at k0 k1)
 refine bodyPost_ret (v:=.agg #[.pointer (some ⟨g.B,6,none⟩),.pointer (some ⟨g.B,7,none⟩)]) (by simp [results,results173,go_sem,k0,k1,lx]) rfl ⟨rfl,?_⟩
 exact (HX.out.setCell (Nat.le_refl _) _).setCell (Nat.le_refl _) _
theorem stack_3 (g:G) (m:M) (full:Bool) (w:World) (h:In g w m full) :
  Calls prog 173 #[.pointer (some ⟨g.K,0,none⟩),.int .i64 3] w fun e w'=>e=.returned (.agg #[.pointer (some ⟨g.B,0,none⟩),.pointer (some ⟨g.B,1,none⟩)])/\Below w.heap.size w w':=by
 have q:w.cell? ⟨0,3,none⟩=some (.string ⟨#[97,102]⟩):=h.tb.stack 3 (by decide)
 have lq:=World.block_lt_of_cell? w _ q
 have q1:=(h.below ((Below.refl _ w).alloc (Nat.le_refl _) (.cells #[.pointer none,.pointer none] 173))).k_cpu
 have r1:=cell_regrown q1
 have HB:Hid (∀ d os,Below w.heap.size w (Go.Sort.grow (redrawn (w.alloc (.cells #[.pointer none,.pointer none] 173)) d) os)/\(Go.Sort.grow (redrawn (w.alloc (.cells #[.pointer none,.pointer none] 173)) d) os).heap[w.heap.size]? = some (.cells #[.pointer none,.pointer none] 173)):=fun d os=>⟨CartL.after ((Below.refl _ w).alloc (Nat.le_refl _) _) (below_regrown _ d os),((below_regrown _ d os).block w.heap.size (by simp)).trans (heap_alloc_new w _)⟩
 clear h q1
 go_enter func173,ntmps173
 go_wp2_with fail
 refine Qtail.tail_below 13 (by kernel_rfl) (by kernel_rfl) ?_
 simp only [List.take_succ_cons,List.take_zero,List.drop_succ_cons,List.drop_zero]
 repeat (go_big_quiet_step (first|fail))
 refine wpQuiet_nil ?_
 intro _ hw'
 obtain ⟨⟨dq,osq⟩,hw''⟩:=hw'
 subst hw''
 obtain ⟨hb2,hx2⟩:=HB.out dq osq
 generalize Go.Sort.grow (redrawn (w.alloc (.cells #[.pointer none,.pointer none] 173)) dq) osq=W2 at *
 refine wpList_store_row rfl 173 _ _ rfl w.heap.size #[.pointer (some ⟨g.B,0,none⟩),.pointer (some ⟨g.B,1,none⟩)] rfl rfl _ _ hx2 (by kernel_rfl) rfl (by simp [Value.oneCell']) ?_
 refine wpList_nil ?_
 have hx3:(W2.setRow w.heap.size #[.pointer (some ⟨g.B,0,none⟩),.pointer (some ⟨g.B,1,none⟩)]).heap[w.heap.size]? = some (.cells #[.pointer (some ⟨g.B,0,none⟩),.pointer (some ⟨g.B,1,none⟩)] 173):=MachT.heap_row hx2
 have hb3:Below w.heap.size w (W2.setRow w.heap.size #[.pointer (some ⟨g.B,0,none⟩),.pointer (some ⟨g.B,1,none⟩)]):=MachT.below_row hb2 (Nat.le_refl _)
 generalize W2.setRow w.heap.size #[.pointer (some ⟨g.B,0,none⟩),.pointer (some ⟨g.B,1,none⟩)]=W3 at *
 go_wp2
 refine bodyPost_ret (v:=.agg #[.pointer (some ⟨g.B,0,none⟩),.pointer (some ⟨g.B,1,none⟩)]) (results_cell_row results173 _ _ w.heap.size _ _ (0,0) _ rfl hx3 underlying173 rfl (by kernel_rfl)) rfl ⟨rfl,hb3⟩
theorem stack_any (g:G) (m:M) (full:Bool) (n:Int) (w:World) (h:In g w m full) (n0:0<=n) (n1:n<=3) :
  Calls prog 173 #[.pointer (some ⟨g.K,0,none⟩),.int .i64 n] w fun e w'=>e=.returned (qv g n)/\Below w.heap.size w w':=by
 rcases cases4 n0 n1 with rfl|rfl|rfl|rfl
 ·exact stack_0 g m full w h
 ·exact stack_1 g m full w h
 ·exact stack_2 g m full w h
 ·exact stack_3 g m full w h
theorem wr_mod (s:S) (a v:Int):wr s (a%65536) v=wr s a v:=by
 unfold wr
 rw [Int.emod_emod]
theorem wr_sp (s:S) (a v:Int):(wr s a v).m.sp=s.m.sp:=by rw [<- wr_same s a v];rfl
theorem push_eq (m:M) (f:Bool) (v:Int):wr (wr ⟨{ m with sp:=(m.sp-2)%65536 },f⟩ ((m.sp-2)%65536+1) (v / 256)) ((m.sp-2)%65536) (v%256)=push ⟨m,f⟩ v:=by
 have e1:((m.sp-2)%65536+1)%65536=(m.sp+65535)%65536:=by omega
 have e2:(m.sp-2)%65536=(m.sp+65534)%65536:=by omega
 have a1:∀ s u,wr s ((m.sp-2)%65536+1) u=wr s (m.sp+65535) u:=fun s u=>by rw [<- wr_mod s ((m.sp-2)%65536+1),e1,wr_mod]
 have a2:∀ s u,wr s ((m.sp-2)%65536) u=wr s (m.sp+65534) u:=fun s u=>by rw [e2,wr_mod]
 rw [a1,a2,e2]
 have h0:({ m with sp:=(m.sp+65534)%65536 }:M)=withCpu m { m with sp:=(m.sp+65534)%65536 }:=rfl
 rw [h0,wr_cpu,wr_cpu]
 have h1:=wr_same (wr ⟨m,f⟩ (m.sp+65535) (v / 256)) (m.sp+65534) (v%256)
 have h2:=wr_same ⟨m,f⟩ (m.sp+65535) (v / 256)
 unfold push
 simp only []
 have e3:(⟨(wr ⟨m,f⟩ (m.sp+65535) (v / 256)).m,(wr ⟨m,f⟩ (m.sp+65535) (v / 256)).full⟩ : S)=wr ⟨m,f⟩ (m.sp+65535) (v / 256):=rfl
 rw [e3]
 generalize wr ⟨m,f⟩ (m.sp+65535) (v / 256)=s1 at *
 generalize wr s1 (m.sp+65534) (v%256)=s2 at *
 rw [<- h1,<- h2]
 rfl
theorem push_any (g:G) (m:M) (full:Bool) (v:Int) (w:World) (h:In g w m full) (hg:Stpq.Good m) (v0:0<=v) (v1:v<=65535) :
  Calls prog 172 #[.pointer (some ⟨g.K,0,none⟩),.int .i64 v] w fun e w'=>e=.returned (.tuple #[])/\In g w' (push ⟨m,full⟩ v).m (push ⟨m,full⟩ v).full:=by
 obtain ⟨s0,s1⟩:=hg.sp
 rw [<- push_eq]
 obtain ⟨q,hq⟩ : ∃ q,q=(m.sp-2)%65536:=⟨_,rfl⟩
 have q0:0<=q/\q<=65535:=by omega
 have c1:Rg 94 #[.int .i64 (m.sp-2)] w (.int .i64 q):=rg fun W hb=>(wrapped_any (m.sp-2) W).mono fun e w' h=>⟨by rw [hq];exact h.1,by rw [h.2];exact zRf⟩
 have g1:Stpq.Good { m with sp:=q }:=good_sp hg q q0.1 q0.2
 have g2:Stpq.Good (wr ⟨{ m with sp:=q },full⟩ (q+1) (v / 256)).m:=wr_good g1 _ _ (by omega) (by omega)
 have p2:(wr ⟨{ m with sp:=q },full⟩ (q+1) (v / 256)).m.sp=q:=wr_sp _ _ _
 have c2:Hid (∀ W,In g W { m with sp:=q } full->Calls prog 219 #[.pointer (some ⟨g.K,0,none⟩),.int .i64 (q+1),.int .i64 (v / 256)] W fun e w'=>e=.returned (.tuple #[])/\In g w' (wr ⟨{ m with sp:=q },full⟩ (q+1) (v / 256)).m (wr ⟨{ m with sp:=q },full⟩ (q+1) (v / 256)).full):=fun W hi=>write_any g _ full _ _ W hi g1.rt (by omega) (by omega)
 rw [<- hq]
 generalize wr ⟨{ m with sp:=q },full⟩ (q+1) (v / 256)=t1 at *
 have c3:Hid (∀ W,In g W t1.m t1.full->Calls prog 219 #[.pointer (some ⟨g.K,0,none⟩),.int .i64 q,.int .i64 (v%256)] W fun e w'=>e=.returned (.tuple #[])/\In g w' (wr t1 q (v%256)).m (wr t1 q (v%256)).full):=fun W hi=>write_any g _ _ _ _ W hi g2.rt (by omega) (by omega)
 generalize wr t1 q (v%256)=t2 at *
 have k1:=h.k_cpu
 have r1:=cell_regrown k1
 have r8:=cell_regrown (h.c_sp)
 have HI:Hid (In g w m full):=h
 have d1:v.tdiv 256=v / 256:=Int.tdiv_eq_ediv_of_nonneg v0
 have d2:v.tmod 256=v%256:=Int.tmod_eq_emod_of_nonneg v0
 have d3:IntKind.i64.wrap (m.sp-2)=m.sp-2:=by rw [IntKind.wrap_i64];omega
 have HP:Hid (t1.m.sp=q):=p2
 clear h hq hg g1 g2 p2
 go_enter func172,ntmps172
 go_wp2_with fail
 refine Qtail.tail_below 15 (by kernel_rfl) (by kernel_rfl) ?_
 simp only [List.take_succ_cons,List.take_zero,List.drop_succ_cons,List.drop_zero]
 repeat (go_big_quiet_step (first|with_reducible exact c1 _ _))
 refine wpQuiet_nil ?_
 intro _ hw'
 obtain ⟨⟨dq,osq⟩,hw''⟩:=hw'
 subst hw''
 have h2:=HI.out.below (below_regrown w dq osq)
 have e8:=h2.c_sp
 have f8:=h2.fro 8
 have lb:=h2.ltB
 have h3:=h2.s_sp q
 generalize Go.Sort.grow (redrawn w dq) osq=W2 at *
 have kk:=h3.k_cpu
 have k8:=h3.c_sp
 have H3:Hid (In g (W2.setCell ⟨g.B,8,none⟩ (.int .i64 q)) { m with sp:=q } full):=h3
 clear h2 h3 r1 r8 c1 k1
 go_wp2_with fail
 refine Calls.mono (c2.out _ H3.out) ?_
 rintro e w1 ⟨rfl,hi1⟩
 have kk1:=hi1.k_cpu
 have k81:=hi1.c_sp.trans (by rw [HP.out])
 have H4:Hid (In g w1 t1.m t1.full):=hi1
 clear hi1 H3 kk k8 e8 f8
 go_wp2_with fail
 refine Calls.mono (c3.out _ H4.out) ?_
 rintro e w2 ⟨rfl,hi2⟩
 have H5:Hid (In g w2 t2.m t2.full):=hi2
 clear hi2
 go_wp2
 go_end0
 exact ⟨rfl,H5.out⟩
theorem pop_any (g:G) (m:M) (full:Bool) (w:World) (h:In g w m full) (hg:Stpq.Good m) :
  Calls prog 203 #[.pointer (some ⟨g.K,0,none⟩)] w fun e w'=>e=.returned (.int .i64 (popV m))/\In g w' (popM m) full:=by
 obtain ⟨s0,s1⟩:=hg.sp
 have c1:Rg 220 #[.pointer (some ⟨g.K,0,none⟩),.int .i64 m.sp] w (.int .i64 (rd m (m.sp%65536))):=rg fun W hb=>read_any g m full _ W (h.below hb) hg.rt
 have c2:Rg 220 #[.pointer (some ⟨g.K,0,none⟩),.int .i64 (m.sp+1)] w (.int .i64 (rd m ((m.sp+1)%65536))):=rg fun W hb=>read_any g m full _ W (h.below hb) hg.rt
 have b1:=rd_bd m (m.sp%65536)
 have b2:=rd_bd m ((m.sp+1)%65536)
 have e0:popV m=rd m (m.sp%65536)+256*rd m ((m.sp+1)%65536):=by unfold popV;rw [show m.sp%65536=m.sp by omega]
 rw [e0]
 generalize rd m (m.sp%65536)=a at *
 generalize rd m ((m.sp+1)%65536)=b at *
 clear e0
 have r1:=cell_regrown (h.k_cpu)
 have r8:=cell_regrown (h.c_sp)
 have d1:IntKind.i64.wrap (m.sp+1)=m.sp+1:=by rw [IntKind.wrap_i64];omega
 have d2:IntKind.i64.wrap (256*b)=256*b:=by rw [IntKind.wrap_i64];omega
 have d3:IntKind.i64.wrap (a+256*b)=a+256*b:=by rw [IntKind.wrap_i64];omega
 have d4:IntKind.i64.wrap (m.sp+2)=m.sp+2:=by rw [IntKind.wrap_i64];omega
 have HI:Hid (In g w m full):=h
 clear h hg
 go_enter func203,ntmps203
 go_wp2_with fail
 refine wp_region_quiet_below (by kernel_rfl) (by kernel_rfl) ?_
 repeat (go_big_quiet_step (first|with_reducible exact c1 _ _|with_reducible exact c2 _ _))
 refine wpQuiet_nil ?_
 intro _ hw'
 obtain ⟨⟨dq,osq⟩,hw''⟩:=hw'
 subst hw''
 have h2:=HI.out.below (below_regrown w dq osq)
 generalize Go.Sort.grow (redrawn w dq) osq=W2 at *
 have H2:Hid (In g W2 m full):=h2
 clear r1 r8 c1 c2 HI
 have r1:=cell_regrown (h2.k_cpu)
 have r8:=cell_regrown (h2.c_sp)
 have c1:Rg 94 #[.int .i64 (m.sp+2)] W2 (.int .i64 ((m.sp+2)%65536)):=rg fun W hb=>(wrapped_any (m.sp+2) W).mono fun e w' h=>⟨h.1,by rw [h.2];exact zRf⟩
 clear h2
 go_wp2_with fail
 refine Qtail.tail_below 15 (by kernel_rfl) (by kernel_rfl) ?_
 simp only [List.take_succ_cons,List.take_zero,List.drop_succ_cons,List.drop_zero]
 repeat (go_big_quiet_step (first|with_reducible exact c1 _ _))
 refine wpQuiet_nil ?_
 intro _ hw'
 obtain ⟨⟨dr,osr⟩,hw''⟩:=hw'
 subst hw''
 have h3:=H2.out.below (below_regrown W2 dr osr)
 have e8:=h3.c_sp
 have f8:=h3.fro 8
 have h4:=h3.s_sp ((m.sp+2)%65536)
 generalize Go.Sort.grow (redrawn W2 dr) osr=W3 at *
 have H4:Hid (In g (W3.setCell ⟨g.B,8,none⟩ (.int .i64 ((m.sp+2)%65536))) (popM m) full):=h4
 clear h3 h4 r1 r8 c1
 go_wp2
 go_ret
 exact ⟨rfl,H4.out⟩
end Stpn
end Go.Proofs.YtnjolmbdbgbmbaaGreatDoor
