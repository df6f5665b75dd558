import Derived.Test.YtnjolmbdbgbmbaaGreatDoorP16
import Derived.Maps.AppendAt
import Derived.Laws.AppendOwn
import Derived.Test.YtnjolmbdbgbmbaaGreatDoorP15
import Derived.Deep.Onto
set_option linter.all false
set_option maxRecDepth 20000
set_option maxHeartbeats 8000000
open Go.ChangeShapes Go.WideShapes Go.ChangeAt Go.RowKit
open Go.Proofs.Tryz
namespace Go.Proofs.YtnjolmbdbgbmbaaGreatDoor
namespace Busw
open Go.Deep
open Signed (inB ret_int ret_bool isByte_any l1In_any)
open Carts CartK CartL CartM CartN CartP CartR CartW CartX CartY Outs MachT MachO MachK MachB
structure M where
 (ra rf rB rC rD rE rH rL sp pc:Int)
 (ime hal:Bool)
 (rom:ByteArray)
 (kind bank:Int)
 (ram:ByteArray)
 (rb:Int)
 (on:Bool)
 (mode:Int)
 (work high:ByteArray)
 (out:List Int)
 (cyc:Int)
@[irreducible] def cellsM (m:M) (po:Option Addr) (cap:Nat):Array Value:=#[.int .i64 m.ra,.int .i64 m.rf,.int .i64 m.rB,.int .i64 m.rC,.int .i64 m.rD,.int .i64 m.rE,.int .i64 m.rH,.int .i64 m.rL,.int .i64 m.sp,.int .i64 m.pc,.bool m.ime,.bool m.hal,.string m.rom,.int .i64 m.kind,.int .i64 m.bank,.string m.ram,.int .i64 m.rb,.bool m.on,.int .i64 m.mode,.string m.work,.string m.high,.slice po m.out.length cap,.int .i64 m.cyc]
theorem cells_def (m:M) (po:Option Addr) (cap:Nat):cellsM m po cap=#[.int .i64 m.ra,.int .i64 m.rf,.int .i64 m.rB,.int .i64 m.rC,.int .i64 m.rD,.int .i64 m.rE,.int .i64 m.rH,.int .i64 m.rL,.int .i64 m.sp,.int .i64 m.pc,.bool m.ime,.bool m.hal,.string m.rom,.int .i64 m.kind,.int .i64 m.bank,.string m.ram,.int .i64 m.rb,.bool m.on,.int .i64 m.mode,.string m.work,.string m.high,.slice po m.out.length cap,.int .i64 m.cyc]:=by unfold cellsM;rfl
def wrM (m:M) (addr v:Int):Option M :=
 if inB addr 49152 49407=true then some { m with work:=putB m.work (addr-49152) v }
 else if inB addr 65408 65534=true then some { m with high:=putB m.high (addr-65408) v }
 else if addr=65281 then (if 100<=m.out.length then none else some { m with out:=m.out ++ [v] })
 else some { m with bank:=wBank m.kind m.bank addr v,ram:=wRam m.kind m.ram m.rb m.on m.mode addr v,rb:=wRb m.kind m.rb addr v,on:=wOn m.kind m.on addr v,mode:=wMode m.kind m.mode addr v }
structure Rt (m:M):Prop where
 cart:okB m.rom m.kind m.bank m.ram m.rb m.on m.mode=true
 work:m.work.size=256
 high:m.high.size=127
 out:m.out.length<=100
 rom:m.rom.size<=maxLen
 ram:m.ram.size<=maxLen
def outC (L:List Int):List Value:=L.map (fun z=>.int .i64 z)
structure Held (w:World) (B base:Nat) (m:M) (po:Option Addr) (cap:Nat):Prop where
 box:w.heap[B]? = some (.cells (cellsM m po cap) 33 (0,0))
 row:w.ownsRow base 2 1 (.slice po m.out.length cap) m.out.length (outC m.out)
 ne:(Value.slice po m.out.length cap).ownBlock ≠ some B
theorem Held.lt {w:World} {B base:Nat} {m:M} {po:Option Addr} {cap:Nat} (h:Held w B base m po cap):B<w.heap.size:=(zLo h.box)
theorem celM {w:World} {B:Nat} {m:M} {po:Option Addr} {cap:Nat} (h:w.heap[B]? = some (.cells (cellsM m po cap) 33 (0,0))) (i:Nat) (v:Value) (hv:(#[.int .i64 m.ra,.int .i64 m.rf,.int .i64 m.rB,.int .i64 m.rC,.int .i64 m.rD,.int .i64 m.rE,.int .i64 m.rH,.int .i64 m.rL,.int .i64 m.sp,.int .i64 m.pc,.bool m.ime,.bool m.hal,.string m.rom,.int .i64 m.kind,.int .i64 m.bank,.string m.ram,.int .i64 m.rb,.bool m.on,.int .i64 m.mode,.string m.work,.string m.high,.slice po m.out.length cap,.int .i64 m.cyc]:Array Value)[i]? = some v):w.cell? ⟨B,i,none⟩=some v:=by
 rw [cells_def] at h;exact cel h i v hv
theorem put_19 {w:World} {B:Nat} {m:M} {po:Option Addr} {cap:Nat} (h:w.heap[B]? = some (.cells (cellsM m po cap) 33 (0,0))) (s:ByteArray):(w.setCell ⟨B,19,none⟩ (.string s)).heap[B]? = some (.cells (cellsM { m with work:=s } po cap) 33 (0,0)):=by
 rw [cells_def] at h |-;exact (heap_setCell_same _ _ _ _ _ _ h).trans rfl
theorem put_20 {w:World} {B:Nat} {m:M} {po:Option Addr} {cap:Nat} (h:w.heap[B]? = some (.cells (cellsM m po cap) 33 (0,0))) (s:ByteArray):(w.setCell ⟨B,20,none⟩ (.string s)).heap[B]? = some (.cells (cellsM { m with high:=s } po cap) 33 (0,0)):=by
 rw [cells_def] at h |-;exact (heap_setCell_same _ _ _ _ _ _ h).trans rfl
structure Only (w w':World) (B:Nat) (po:Option Addr):Prop where
 os:w'.os=w.os
 tape:w'.tape=w.tape
 output:w'.output=w.output
 size:w.heap.size<=w'.heap.size
 block:∀ k,k<w.heap.size->k ≠ B->(∀ p,po=some p->k ≠ p.block)->w'.heap[k]? = w.heap[k]?
theorem Only.refl (w:World) (B:Nat) (po:Option Addr):Only w w B po:=⟨rfl,rfl,rfl,Nat.le_refl _,fun _ _ _ _=>rfl⟩
theorem Held.turn {w w':World} {B base:Nat} {m m':M} {po:Option Addr} {cap:Nat} (h:Held w B base m po cap) (hbox:w'.heap[B]? = some (.cells (cellsM m' po cap) 33 (0,0))) (hout:m'.out=m.out) (hg:w.grownBy w' (some B)):Held w' B base m' po cap :=
 ⟨hbox,by rw [hout];exact h.row.kept hg (.inr h.ne),by rw [hout];exact h.ne⟩
def Moved (w:World) (po po':Option Addr):Prop:=po'=po \/ ∃ p,po'=some p/\w.heap.size<=p.block
def blk (po:Option Addr):Option Nat:=po.map (·.block)
theorem blk_own (po:Option Addr) (n cap:Nat):(Value.slice po n cap).ownBlock=blk po:=by cases po <;> rfl
def Kept (w w':World) (n:Nat) (po:Option Addr):Prop:=∀ b q n' cap' xs,(blk q=blk po->n'<=n)->w.ownsRow b 2 1 (.slice q n' cap') n' xs->w'.ownsRow b 2 1 (.slice q n' cap') n' xs
def Post (w w':World) (B base n:Nat) (r:Option M) (po:Option Addr) (e:Ending):Prop :=
 ((∃ m' po' cap',r=some m'/\e=.returned (.bool true)/\Held w' B base m' po' cap'/\Moved w po po') \/ (r=none/\e=.returned (.bool false)/\w'=w))/\Only w w' B po/\Kept w w' n po
theorem row_ne {w:World} {base n B:Nat} {v:Value} {xs:List Value} {cs:Array Value} {fz:Nat × Nat} (h:w.ownsRow base 2 1 v n xs) (hb:w.heap[B]? = some (.cells cs 33 fz)):v.ownBlock ≠ some B:=by
 intro e
 rcases h.2 with ⟨rfl,_⟩|⟨g,cap,cur,rfl,_,hg,_⟩
 ·cases e
 ·cases e
  rw [hb] at hg
  cases hg
theorem kept_grown {w w':World} {B n:Nat} {po:Option Addr} {cs:Array Value} {fz:Nat × Nat} (hg:w.grownBy w' (some B)) (hb:w.heap[B]? = some (.cells cs 33 fz)):Kept w w' n po:=fun b q n' cap' xs _ h=>h.kept hg (.inr (row_ne h hb))
theorem kept_refl (w:World) (n:Nat) (po:Option Addr):Kept w w n po:=fun _ _ _ _ _ _ h=>h
theorem run_append_keeps {P:Program} (w:World) (base:Nat) (t ty e:TypeId) (i:TypeInfo) (z:Value) (size bytes:Nat) (ht:P.underlying t=some (.slice e)) (hi:P.info? e=some i) (hz:i.zero=some z)
  (hsize:i.size=size) (hby:i.bytes=bytes) (hzs:z.cells.size=size) (hsz:0<size)
  (v:Value) (n:Nat) (xs:List Value) (hown:w.ownsRow base e size v n xs)
  (a:Addr) (m c:Nat) (news:List Value) (hl:news.length=m*size) (hnews:∀ j u,news[j]? = some u->w.cell? (a.add j)=some u) (h1:∀ u ∈ news,u.oneCell'=true)
  (h63:n+m<=maxLen) (hbytes:(n+m)*bytes<=140737488355328) (hbase:base<=w.heap.size) (hm:0<m) :
  ∃ v' w',(Builtin.append_ #[t,t] ty #[v,.slice (some a) m c]).run P w=.ok v' w'/\w'.ownsRow base e size v' (n+m) (xs ++ news)/\w.grownBy w' v.ownBlock /\
   (v'.ownBlock=v.ownBlock \/ ∃ g,v'.ownBlock=some g/\w.heap.size<=g) /\
   (∀ b q n' cap' xs',((Value.slice q n' cap').ownBlock=v.ownBlock->n'<=n)->w.ownsRow b e size (.slice q n' cap') n' xs'->w'.ownsRow b e size (.slice q n' cap') n' xs'):=by
 obtain ⟨v1,w1,hr1,f1,f2,_⟩:=run_append_own (P:=P) w base t ty e i z size bytes ht hi hz hsize hby hzs hsz v n xs hown a m c news hl hnews h1 h63 hbytes hbase
 refine ⟨v1,w1,hr1,f1,f2,?_⟩
 have other:∀ b q n' cap' xs',(Value.slice q n' cap').ownBlock ≠ v.ownBlock->w.ownsRow b e size (.slice q n' cap') n' xs'->w1.ownsRow b e size (.slice q n' cap') n' xs':=fun b q n' cap' xs' hne h=>h.kept f2 (.inr hne)
 have all:(∀ k,k<w.heap.size->w1.heap[k]? = w.heap[k]?)->∀ b q n' cap' xs',w.ownsRow b e size (.slice q n' cap') n' xs'->w1.ownsRow b e size (.slice q n' cap') n' xs':=fun hk b q n' cap' xs' h=>by
  refine ⟨h.1,?_⟩
  rcases h.2 with h2|⟨g,cp,cur,hv,hb,hg,r⟩
  ·exact .inl h2
  ·exact .inr ⟨g,cp,cur,hv,hb,(hk g (zLo hg)).trans hg,r⟩
 subst hsize
 subst hby
 have hsmall:n+m<=9223372036854775807:=by simp only [maxLen] at h63;omega
 rcases hown.2 with ⟨rfl,rfl⟩|⟨g,cap,cur,rfl,hbg,hg,hnc,hcm,hcs,htake⟩
 ·have hr:=run_append_nil (P:=P) w t ty e i z ht hi hz a m c news hl hnews (by omega) (by omega) (by have hb:=hbytes;simp only [Nat.zero_add] at hb;omega)
  rw [hr] at hr1
  cases hr1
  exact ⟨.inr ⟨w.heap.size,rfl,Nat.le_refl _⟩,fun b q n' cap' xs' _ h=>all (fun k hk=>Below.heap_alloc w.drew _ _ hk) b q n' cap' xs' h⟩
 ·by_cases hroom:n+m<=cap
  ·have hfit:n*i.size+news.length<=cur.size:=by rw [hl,hcs,<- Nat.add_mul];exact Nat.mul_le_mul_right _ hroom
   have hr:=run_append_room (P:=P) w t ty e i ht hi g n cap cur hg a m c news hl hnews h1 hroom hfit
   rw [hr] at hr1
   cases hr1
   refine ⟨.inl rfl,fun b q n' cap' xs' hn h=>?_⟩
   by_cases hq:(Value.slice q n' cap').ownBlock=(Value.slice (some ⟨g,0,none⟩) n cap).ownBlock
   ·refine ⟨h.1,?_⟩
    rcases h.2 with h2|⟨g',cp,cur',hv,hb,hg',r1,r2,r3,r4⟩
    ·exact .inl h2
    ·rw [hv] at hq
     have hgg:g'=g:=Option.some.inj hq
     subst hgg
     rw [hg] at hg'
     cases hg'
     have hle:n'*i.size<=n*i.size:=Nat.mul_le_mul_right _ (hn (by rw [hv];exact hq))
     refine .inr ⟨g',cp,_,hv,hb,setRow_heap w g' cur _ e _ hg,r1,r2,?_,?_⟩
     ·simp only [List.size_toArray,List.length_append,List.length_take,List.length_drop,Array.length_toList]
      omega
     ·have hls:(cur.toList.take (n*i.size)).length=n*i.size:=by simp;omega
      rw [List.append_assoc,List.take_append_of_le_length (by rw [hls];exact hle),List.take_take,Nat.min_eq_left hle]
      exact r4
   ·exact other b q n' cap' xs' hq h
  ·have holds:∀ j u,xs[j]? = some u->w.cell? ((⟨g,0,none⟩ : Addr).add j)=some u:=hown.cells (g:=g) rfl
   have hr:=run_append_grow (P:=P) w t ty e i z ht hi hz ⟨g,0,none⟩ n cap xs hown.1 holds a m c news hl hnews (by omega) (by omega) (growslice_fits (by omega) hbytes)
   rw [hr] at hr1
   cases hr1
   exact ⟨.inr ⟨w.heap.size,rfl,Nat.le_refl _⟩,fun b q n' cap' xs' _ h=>all (fun k hk=>Below.heap_alloc w.drew _ _ hk) b q n' cap' xs' h⟩
theorem wpList_append_keeps {P:Program} {ops:Array Oper} {rest:List Oper} {o:Oper} {ac:Act} {w:World} {Q:Exit->Act->World->Prop} (hgd:o.guard=none) (s x:Operand) (t:TypeId)
  (ho:o.op=.call { callee:=.builtin .append,args:=#[s,x],argTypes:=#[t,t] })
  (base:Nat) (e:TypeId) (i:TypeInfo) (z:Value) (size bytes:Nat) (ht:P.underlying t=some (.slice e)) (hi:P.info? e=some i) (hz:i.zero=some z)
  (hsize:i.size=size) (hby:i.bytes=bytes) (hzs:z.cells.size=size) (hsz:0<size)
  (v:Value) (n:Nat) (xs:List Value) (hs:ac.eval s=v) (hown:w.ownsRow base e size v n xs)
  (ad:Addr) (m c:Nat) (news:List Value) (hx:ac.eval x=.slice (some ad) m c) (hl:news.length=m*size) (hnews:∀ j u,news[j]? = some u->w.cell? (ad.add j)=some u) (h1:∀ u ∈ news,u.oneCell'=true)
  (h63:n+m<=maxLen) (hbytes:(n+m)*bytes<=140737488355328) (hbase:base<=w.heap.size) (hm:0<m)
  (h:∀ v' w',w'.ownsRow base e size v' (n+m) (xs ++ news)->w.grownBy w' v.ownBlock->(v'.ownBlock=v.ownBlock \/ ∃ g,v'.ownBlock=some g/\w.heap.size<=g) ->
   (∀ b q n' cap' xs',((Value.slice q n' cap').ownBlock=v.ownBlock->n'<=n)->w.ownsRow b e size (.slice q n' cap') n' xs'->w'.ownsRow b e size (.slice q n' cap') n' xs')->wpList P ops Q rest (ac.put o.dst v') w'):wpList P ops Q (o :: rest) ac w :=
 wpList_plain hgd fun K hK=>by
  obtain ⟨v',w',hr,h2,h3,h4,h5⟩:=run_append_keeps (P:=P) w base t o.type e i z size bytes ht hi hz hsize hby hzs hsz v n xs hown ad m c news hl hnews h1 h63 hbytes hbase hm
  unfold Oper.wp execOp
  simp only [ho,resolve,invoke,builtin,Sem.run_bind,Sem.run_pure,Result.andThen_ok,List.map_toArray,List.map_cons,List.map_nil,hs,hx,hr]
  exact hK _ _ (h v' w' h2 h3 h4 h5)
theorem alloc_kept (w:World) (o:Obj) {k:Nat} (h:k<w.heap.size):(w.alloc o).heap[k]? = w.heap[k]?:=Below.heap_alloc _ _ _ h
theorem size_set (w:World) (a:Addr) (v:Value):(w.setCell a v).heap.size=w.heap.size:=World.size_setCell ..
theorem set_grown (w:World) (B i:Nat) (v:Value) (o:Obj):w.grownBy ((w.setCell ⟨B,i,none⟩ v).alloc o).drew (some B) :=
 ⟨rfl,rfl,rfl,by show w.heap.size<=((w.setCell ⟨B,i,none⟩ v).alloc o).heap.size;rw [World.size_alloc,size_set];omega,fun k hk hne=>by
  show ((w.setCell ⟨B,i,none⟩ v).alloc o).heap[k]? = _
  rw [alloc_kept _ _ (by rw [size_set];exact hk)]
  exact Below.heap_setCell _ _ _ _ (fun e=>hne (by rw [e]))⟩
theorem grown_only {w w':World} {B:Nat} {po:Option Addr} (h:w.grownBy w' (some B)):Only w w' B po:=⟨h.os,h.tape,h.output,h.size,fun k hk hne _=>h.block k hk (fun e=>hne (Option.some.inj e))⟩
theorem write_work (m:M) (B base:Nat) (po:Option Addr) (cap:Nat) (addr v:Int) (w:World) (hh:Held w B base m po cap) (hr:Rt m) (a0:inB addr 49152 49407=true) (v0:0<=v) (v1:v<=255) :
  Calls prog 238 #[.pointer (some ⟨B,0,none⟩),.int .i64 addr,.int .i64 v] w fun e w'=>Post w w' B base m.out.length (wrM m addr v) po e:=by
 have m19:w.cell? ⟨B,19,none⟩=some (.string m.work):=celM hh.box 19 _ rfl
 have hf:w.frozen? ⟨B,19,none⟩=false:=frozen_of_row _ _ _ _ _ hh.box
 have hlt:=hh.lt
 obtain ⟨q0,q1⟩:=of_decide_eq_true a0
 have c1:=fun w=>inWork_any addr w
 rw [a0] at c1
 have c2:=fun w=>put_impl m.work 256 hr.work (by decide) (addr-49152) v (by omega) (by omega) v0 v1 w
 have HE:Hid (∀ o,Post w ((w.setCell ⟨B,19,none⟩ (.string (putB m.work (addr-49152) v))).alloc o).drew B base m.out.length (wrM m addr v) po (.returned (.bool true))):=fun o=>by
  have hg:=set_grown w B 19 (.string (putB m.work (addr-49152) v)) o
  refine ⟨.inl ⟨{ m with work:=putB m.work (addr-49152) v },po,cap,by unfold wrM;rw [if_pos a0],rfl,hh.turn ?_ rfl hg,.inl rfl⟩,grown_only hg,kept_grown hg hh.box⟩
  show ((w.setCell ⟨B,19,none⟩ _).alloc o).heap[B]? = _
  rw [alloc_kept _ _ (by rw [size_set];exact hlt)]
  exact put_19 hh.box _
 clear hh hr a0
 generalize wrM m addr v=r at *
 generalize putB m.work (addr-49152) v=nw at *
 generalize m.work=ow at *
 go_enter func238,ntmps238
 go_wp2_with first|(go_at_call 109;refine (c1 _).mono ?_;rintro e w' ⟨rfl,hw'⟩;have hw':=hw'.symm;subst hw')|(go_at_call 247;refine (c2 _).mono ?_;rintro e w' ⟨rfl,p1,rfl⟩)
 go_ret
 exact HE.out _
theorem write_high (m:M) (B base:Nat) (po:Option Addr) (cap:Nat) (addr v:Int) (w:World) (hh:Held w B base m po cap) (hr:Rt m) (b0:inB addr 49152 49407=false) (a0:inB addr 65408 65534=true) (v0:0<=v) (v1:v<=255) :
  Calls prog 238 #[.pointer (some ⟨B,0,none⟩),.int .i64 addr,.int .i64 v] w fun e w'=>Post w w' B base m.out.length (wrM m addr v) po e:=by
 have m20:w.cell? ⟨B,20,none⟩=some (.string m.high):=celM hh.box 20 _ rfl
 have hf:w.frozen? ⟨B,20,none⟩=false:=frozen_of_row _ _ _ _ _ hh.box
 have hlt:=hh.lt
 obtain ⟨q0,q1⟩:=of_decide_eq_true a0
 have c1:=fun w=>inWork_any addr w
 have c3:=fun w=>inHigh_any addr w
 rw [b0] at c1
 rw [a0] at c3
 have c2:=fun w=>put_impl m.high 127 hr.high (by decide) (addr-65408) v (by omega) (by omega) v0 v1 w
 have HE:Hid (∀ o,Post w ((w.setCell ⟨B,20,none⟩ (.string (putB m.high (addr-65408) v))).alloc o).drew B base m.out.length (wrM m addr v) po (.returned (.bool true))):=fun o=>by
  have hg:=set_grown w B 20 (.string (putB m.high (addr-65408) v)) o
  refine ⟨.inl ⟨{ m with high:=putB m.high (addr-65408) v },po,cap,by unfold wrM;rw [if_neg (by rw [b0];decide),if_pos a0],rfl,hh.turn ?_ rfl hg,.inl rfl⟩,grown_only hg,kept_grown hg hh.box⟩
  show ((w.setCell ⟨B,20,none⟩ _).alloc o).heap[B]? = _
  rw [alloc_kept _ _ (by rw [size_set];exact hlt)]
  exact put_20 hh.box _
 clear hh hr a0 b0
 generalize wrM m addr v=r at *
 generalize putB m.high (addr-65408) v=nw at *
 generalize m.high=ow at *
 go_enter func238,ntmps238
 go_wp2_with first|(go_at_call 109;refine (c1 _).mono ?_;rintro e w' ⟨rfl,hw'⟩;have hw':=hw'.symm;subst hw')|(go_at_call 110;refine (c3 _).mono ?_;rintro e w' ⟨rfl,hw'⟩;have hw':=hw'.symm;subst hw')|(go_at_call 247;refine (c2 _).mono ?_;rintro e w' ⟨rfl,p1,rfl⟩)
 go_ret
 exact HE.out _
theorem write_full (m:M) (B base:Nat) (po:Option Addr) (cap:Nat) (v:Int) (w:World) (hh:Held w B base m po cap) (hr:Rt m) (hl:100<=m.out.length) :
  Calls prog 238 #[.pointer (some ⟨B,0,none⟩),.int .i64 65281,.int .i64 v] w fun e w'=>Post w w' B base m.out.length (wrM m 65281 v) po e:=by
 have m21:w.cell? ⟨B,21,none⟩=some (.slice po m.out.length cap):=celM hh.box 21 _ rfl
 have c1:=fun w=>inWork_any 65281 w
 have c3:=fun w=>inHigh_any 65281 w
 have HE:Hid (Post w w B base m.out.length (wrM m 65281 v) po (.returned (.bool false))):=⟨.inr ⟨by unfold wrM;rw [if_neg (by decide),if_neg (by decide),if_pos rfl,if_pos hl],rfl,rfl⟩,Only.refl _ _ _,kept_refl _ _ _⟩
 have b0:inB 65281 49152 49407=false:=by decide
 have b1:inB 65281 65408 65534=false:=by decide
 rw [b0] at c1
 rw [b1] at c3
 have ho:=hr.out
 clear hh hr b0 b1
 generalize wrM m 65281 v=r at *
 generalize m.out.length=n at *
 have e1:(100:Int)<=(n:Int):=by omega
 go_enter func238,ntmps238
 go_wp2_with first|(go_at_call 109;refine (c1 _).mono ?_;rintro e w' ⟨rfl,hw'⟩;have hw':=hw'.symm;subst hw')|(go_at_call 110;refine (c3 _).mono ?_;rintro e w' ⟨rfl,hw'⟩;have hw':=hw'.symm;subst hw')
 go_ret
 exact HE.out
theorem put_cart {w:World} {B:Nat} {m:M} {po:Option Addr} {cap:Nat} (h:w.heap[B]? = some (.cells (cellsM m po cap) 33 (0,0))) (bank:Int) (ram:ByteArray) (rb:Int) (on:Bool) (mode:Int) :
  (((((((w.setCell ⟨B,12,none⟩ (.string m.rom)).setCell ⟨B,13,none⟩ (.int .i64 m.kind)).setCell ⟨B,14,none⟩ (.int .i64 bank)).setCell ⟨B,15,none⟩ (.string ram)).setCell ⟨B,16,none⟩ (.int .i64 rb)).setCell ⟨B,17,none⟩ (.bool on)).setCell ⟨B,18,none⟩ (.int .i64 mode)).heap[B]? = some (.cells (cellsM { m with bank:=bank,ram:=ram,rb:=rb,on:=on,mode:=mode } po cap) 33 (0,0)):=by
 rw [cells_def] at h |-
 have h12:(w.setCell ⟨B,12,none⟩ (.string m.rom)).heap[B]? = some (.cells #[.int .i64 m.ra,.int .i64 m.rf,.int .i64 m.rB,.int .i64 m.rC,.int .i64 m.rD,.int .i64 m.rE,.int .i64 m.rH,.int .i64 m.rL,.int .i64 m.sp,.int .i64 m.pc,.bool m.ime,.bool m.hal,.string m.rom,.int .i64 m.kind,.int .i64 m.bank,.string m.ram,.int .i64 m.rb,.bool m.on,.int .i64 m.mode,.string m.work,.string m.high,.slice po m.out.length cap,.int .i64 m.cyc] 33 (0,0)):=(heap_setCell_same _ _ 12 _ _ _ h).trans rfl
 have h13:((w.setCell ⟨B,12,none⟩ (.string m.rom)).setCell ⟨B,13,none⟩ (.int .i64 m.kind)).heap[B]? = some (.cells #[.int .i64 m.ra,.int .i64 m.rf,.int .i64 m.rB,.int .i64 m.rC,.int .i64 m.rD,.int .i64 m.rE,.int .i64 m.rH,.int .i64 m.rL,.int .i64 m.sp,.int .i64 m.pc,.bool m.ime,.bool m.hal,.string m.rom,.int .i64 m.kind,.int .i64 m.bank,.string m.ram,.int .i64 m.rb,.bool m.on,.int .i64 m.mode,.string m.work,.string m.high,.slice po m.out.length cap,.int .i64 m.cyc] 33 (0,0)):=(heap_setCell_same _ _ 13 _ _ _ h12).trans rfl
 have h14:(((w.setCell ⟨B,12,none⟩ (.string m.rom)).setCell ⟨B,13,none⟩ (.int .i64 m.kind)).setCell ⟨B,14,none⟩ (.int .i64 bank)).heap[B]? = some (.cells #[.int .i64 m.ra,.int .i64 m.rf,.int .i64 m.rB,.int .i64 m.rC,.int .i64 m.rD,.int .i64 m.rE,.int .i64 m.rH,.int .i64 m.rL,.int .i64 m.sp,.int .i64 m.pc,.bool m.ime,.bool m.hal,.string m.rom,.int .i64 m.kind,.int .i64 bank,.string m.ram,.int .i64 m.rb,.bool m.on,.int .i64 m.mode,.string m.work,.string m.high,.slice po m.out.length cap,.int .i64 m.cyc] 33 (0,0)):=(heap_setCell_same _ _ 14 _ _ _ h13).trans rfl
 have h15:((((w.setCell ⟨B,12,none⟩ (.string m.rom)).setCell ⟨B,13,none⟩ (.int .i64 m.kind)).setCell ⟨B,14,none⟩ (.int .i64 bank)).setCell ⟨B,15,none⟩ (.string ram)).heap[B]? = some (.cells #[.int .i64 m.ra,.int .i64 m.rf,.int .i64 m.rB,.int .i64 m.rC,.int .i64 m.rD,.int .i64 m.rE,.int .i64 m.rH,.int .i64 m.rL,.int .i64 m.sp,.int .i64 m.pc,.bool m.ime,.bool m.hal,.string m.rom,.int .i64 m.kind,.int .i64 bank,.string ram,.int .i64 m.rb,.bool m.on,.int .i64 m.mode,.string m.work,.string m.high,.slice po m.out.length cap,.int .i64 m.cyc] 33 (0,0)):=(heap_setCell_same _ _ 15 _ _ _ h14).trans rfl
 have h16:(((((w.setCell ⟨B,12,none⟩ (.string m.rom)).setCell ⟨B,13,none⟩ (.int .i64 m.kind)).setCell ⟨B,14,none⟩ (.int .i64 bank)).setCell ⟨B,15,none⟩ (.string ram)).setCell ⟨B,16,none⟩ (.int .i64 rb)).heap[B]? = some (.cells #[.int .i64 m.ra,.int .i64 m.rf,.int .i64 m.rB,.int .i64 m.rC,.int .i64 m.rD,.int .i64 m.rE,.int .i64 m.rH,.int .i64 m.rL,.int .i64 m.sp,.int .i64 m.pc,.bool m.ime,.bool m.hal,.string m.rom,.int .i64 m.kind,.int .i64 bank,.string ram,.int .i64 rb,.bool m.on,.int .i64 m.mode,.string m.work,.string m.high,.slice po m.out.length cap,.int .i64 m.cyc] 33 (0,0)):=(heap_setCell_same _ _ 16 _ _ _ h15).trans rfl
 have h17:((((((w.setCell ⟨B,12,none⟩ (.string m.rom)).setCell ⟨B,13,none⟩ (.int .i64 m.kind)).setCell ⟨B,14,none⟩ (.int .i64 bank)).setCell ⟨B,15,none⟩ (.string ram)).setCell ⟨B,16,none⟩ (.int .i64 rb)).setCell ⟨B,17,none⟩ (.bool on)).heap[B]? = some (.cells #[.int .i64 m.ra,.int .i64 m.rf,.int .i64 m.rB,.int .i64 m.rC,.int .i64 m.rD,.int .i64 m.rE,.int .i64 m.rH,.int .i64 m.rL,.int .i64 m.sp,.int .i64 m.pc,.bool m.ime,.bool m.hal,.string m.rom,.int .i64 m.kind,.int .i64 bank,.string ram,.int .i64 rb,.bool on,.int .i64 m.mode,.string m.work,.string m.high,.slice po m.out.length cap,.int .i64 m.cyc] 33 (0,0)):=(heap_setCell_same _ _ 17 _ _ _ h16).trans rfl
 have h18:(((((((w.setCell ⟨B,12,none⟩ (.string m.rom)).setCell ⟨B,13,none⟩ (.int .i64 m.kind)).setCell ⟨B,14,none⟩ (.int .i64 bank)).setCell ⟨B,15,none⟩ (.string ram)).setCell ⟨B,16,none⟩ (.int .i64 rb)).setCell ⟨B,17,none⟩ (.bool on)).setCell ⟨B,18,none⟩ (.int .i64 mode)).heap[B]? = some (.cells #[.int .i64 m.ra,.int .i64 m.rf,.int .i64 m.rB,.int .i64 m.rC,.int .i64 m.rD,.int .i64 m.rE,.int .i64 m.rH,.int .i64 m.rL,.int .i64 m.sp,.int .i64 m.pc,.bool m.ime,.bool m.hal,.string m.rom,.int .i64 m.kind,.int .i64 bank,.string ram,.int .i64 rb,.bool on,.int .i64 mode,.string m.work,.string m.high,.slice po m.out.length cap,.int .i64 m.cyc] 33 (0,0)):=(heap_setCell_same _ _ 18 _ _ _ h17).trans rfl
 exact h18
theorem set_step {w w':World} {B i:Nat} {v:Value} (h:w.grownBy w' (some B)):w.grownBy (w'.setCell ⟨B,i,none⟩ v) (some B) :=
 ⟨h.os,h.tape,h.output,by rw [size_set];exact h.size,fun k hk hne=>by rw [Below.heap_setCell _ _ _ _ (fun e=>hne (by rw [e])),h.block k hk hne]⟩
theorem write_cart (m:M) (B base:Nat) (po:Option Addr) (cap:Nat) (addr v:Int) (w:World) (hh:Held w B base m po cap) (hr:Rt m) (b0:inB addr 49152 49407=false) (b1:inB addr 65408 65534=false) (b2:¬ addr=65281) (a0:inB addr 0 65535=true) (v0:inB v 0 255=true) :
  Calls prog 238 #[.pointer (some ⟨B,0,none⟩),.int .i64 addr,.int .i64 v] w fun e w'=>Post w w' B base m.out.length (wrM m addr v) po e:=by
 have n12:w.cell? ⟨B,12,none⟩=some (.string m.rom):=celM hh.box 12 _ rfl
 have n13:w.cell? ⟨B,13,none⟩=some (.int .i64 m.kind):=celM hh.box 13 _ rfl
 have n14:w.cell? ⟨B,14,none⟩=some (.int .i64 m.bank):=celM hh.box 14 _ rfl
 have n15:w.cell? ⟨B,15,none⟩=some (.string m.ram):=celM hh.box 15 _ rfl
 have n16:w.cell? ⟨B,16,none⟩=some (.int .i64 m.rb):=celM hh.box 16 _ rfl
 have n17:w.cell? ⟨B,17,none⟩=some (.bool m.on):=celM hh.box 17 _ rfl
 have n18:w.cell? ⟨B,18,none⟩=some (.int .i64 m.mode):=celM hh.box 18 _ rfl
 have c1:=fun w=>inWork_any addr w
 have c3:=fun w=>inHigh_any addr w
 have cw:=CartU.written_right m.rom m.kind m.bank m.ram m.rb m.on m.mode addr v w hr.rom hr.ram hr.cart a0 v0
 have HE:Hid (∀ w1,Below w.heap.size w w1->Post w (((((((w1.setCell ⟨B,12,none⟩ (.string m.rom)).setCell ⟨B,13,none⟩ (.int .i64 m.kind)).setCell ⟨B,14,none⟩ (.int .i64 (wBank m.kind m.bank addr v))).setCell ⟨B,15,none⟩ (.string (wRam m.kind m.ram m.rb m.on m.mode addr v))).setCell ⟨B,16,none⟩ (.int .i64 (wRb m.kind m.rb addr v))).setCell ⟨B,17,none⟩ (.bool (wOn m.kind m.on addr v))).setCell ⟨B,18,none⟩ (.int .i64 (wMode m.kind m.mode addr v))) B base m.out.length (wrM m addr v) po (.returned (.bool true))):=fun w1 hb=>by
  have hg0:w.grownBy w1 (some B):=⟨hb.os,hb.tape,hb.output,hb.size,fun k hk _=>hb.block k hk⟩
  have hg:=set_step (i:=18) (v:=.int .i64 (wMode m.kind m.mode addr v)) (set_step (i:=17) (v:=.bool (wOn m.kind m.on addr v)) (set_step (i:=16) (v:=.int .i64 (wRb m.kind m.rb addr v)) (set_step (i:=15) (v:=.string (wRam m.kind m.ram m.rb m.on m.mode addr v)) (set_step (i:=14) (v:=.int .i64 (wBank m.kind m.bank addr v)) (set_step (i:=13) (v:=.int .i64 m.kind) (set_step (i:=12) (v:=.string m.rom) hg0))))))
  refine ⟨.inl ⟨{ m with bank:=wBank m.kind m.bank addr v,ram:=wRam m.kind m.ram m.rb m.on m.mode addr v,rb:=wRb m.kind m.rb addr v,on:=wOn m.kind m.on addr v,mode:=wMode m.kind m.mode addr v },po,cap,by unfold wrM;rw [if_neg (by rw [b0];decide),if_neg (by rw [b1];decide),if_neg b2],rfl,hh.turn ?_ rfl hg,.inl rfl⟩,grown_only hg,kept_grown hg hh.box⟩
  exact put_cart ((hb.block B hh.lt).trans hh.box) _ _ _ _ _
 have HX:Hid (∀ w1,Below w.heap.size w w1->∀ i,w1.cell? ⟨B,i,none⟩=w.cell? ⟨B,i,none⟩/\w1.frozen? ⟨B,i,none⟩=false):=fun w1 hb i=>⟨hb.cell (p:=⟨B,i,none⟩) hh.lt,by rw [World.frozen?_of_block (a:=⟨B,i,none⟩) (hb.block B hh.lt)];exact frozen_of_row _ _ _ _ _ hh.box⟩
 rw [b0] at c1
 rw [b1] at c3
 have b2':(addr == 65281)=false:=by simpa using b2
 clear hh hr b0 b1 b2 a0 v0
 unfold wrote at cw
 generalize wrM m addr v=r at *
 generalize wBank m.kind m.bank addr v=x14 at *
 generalize wRam m.kind m.ram m.rb m.on m.mode addr v=x15 at *
 generalize wRb m.kind m.rb addr v=x16 at *
 generalize wOn m.kind m.on addr v=x17 at *
 generalize wMode m.kind m.mode addr v=x18 at *
 generalize m.rom=rom at *
 generalize m.kind=kind at *
 generalize m.bank=bank at *
 generalize m.ram=ram at *
 generalize m.rb=rb at *
 generalize m.on=on at *
 generalize m.mode=mode at *
 go_enter func238,ntmps238
 go_wp2_with first|(go_at_call 109;refine (c1 _).mono ?_;rintro e w' ⟨rfl,hw'⟩;have hw':=hw'.symm;subst hw')|(go_at_call 110;refine (c3 _).mono ?_;rintro e w' ⟨rfl,hw'⟩;have hw':=hw'.symm;subst hw')|(go_at_call 248;refine cw.mono ?_;rintro e w1 ⟨rfl,hb1⟩;have HB1:Hid (Below w.heap.size w w1):=hb1;clear hb1;have k12:=(HX.out w1 HB1.out 12).1.trans n12;have k13:=(HX.out w1 HB1.out 13).1.trans n13;have k14:=(HX.out w1 HB1.out 14).1.trans n14;have k15:=(HX.out w1 HB1.out 15).1.trans n15;have k16:=(HX.out w1 HB1.out 16).1.trans n16;have k17:=(HX.out w1 HB1.out 17).1.trans n17;have k18:=(HX.out w1 HB1.out 18).1.trans n18;have l12:=(HX.out w1 HB1.out 12).2;have l13:=(HX.out w1 HB1.out 13).2;have l14:=(HX.out w1 HB1.out 14).2;have l15:=(HX.out w1 HB1.out 15).2;have l16:=(HX.out w1 HB1.out 16).2;have l17:=(HX.out w1 HB1.out 17).2;have l18:=(HX.out w1 HB1.out 18).2)
 go_ret
 exact HE.out _ HB1.out
theorem info2:(prog.info? 2).map (fun i=>(i.zero,i.size,i.bytes))=some (some (.int .i64 0),1,8):=by kernel_rfl
theorem info_parts {P:Program} {t:TypeId} {z:Value} {s b:Nat} (h:(P.info? t).map (fun i=>(i.zero,i.size,i.bytes))=some (some z,s,b)):∃ i,P.info? t=some i/\i.zero=some z/\i.size=s/\i.bytes=b:=by
 cases e:P.info? t with
 | none=>rw [e] at h;cases h
 | some i =>
  rw [e] at h
  simp only [Option.map_some,Option.some.injEq,Prod.mk.injEq] at h
  exact ⟨i,rfl,h.1,h.2.1,h.2.2⟩
theorem put_21 {w:World} {B:Nat} {m:M} {po:Option Addr} {cap:Nat} (h:w.heap[B]? = some (.cells (cellsM m po cap) 33 (0,0))) (L:List Int) (n:Nat) (hn:n=L.length) (po':Option Addr) (cap':Nat):(w.setCell ⟨B,21,none⟩ (.slice po' n cap')).heap[B]? = some (.cells (cellsM { m with out:=L } po' cap') 33 (0,0)):=by
 subst hn
 rw [cells_def] at h |-;exact (heap_setCell_same _ _ _ _ _ _ h).trans rfl
theorem own_succ {w:World} {base n:Nat} {v:Value} {xs:List Value} (h:w.ownsRow base 2 1 v (n+1) xs):∃ g cap,v=.slice (some ⟨g,0,none⟩) (n+1) cap:=by
 rcases h.2 with ⟨_,h0⟩|⟨g,cap,cur,hv,_⟩
 ·omega
 ·exact ⟨g,cap,hv⟩
theorem outC_snoc (L:List Int) (v:Int):outC (L ++ [v])=outC L ++ [.int .i64 v]:=by simp [outC]
theorem write_out (m:M) (B base:Nat) (po:Option Addr) (cap:Nat) (v:Int) (w:World) (hh:Held w B base m po cap) (hr:Rt m) (hl:¬ 100<=m.out.length) (hbase:base<=w.heap.size) :
  Calls prog 238 #[.pointer (some ⟨B,0,none⟩),.int .i64 65281,.int .i64 v] w fun e w'=>Post w w' B base m.out.length (wrM m 65281 v) po e:=by
 have m21:w.cell? ⟨B,21,none⟩=some (.slice po m.out.length cap):=celM hh.box 21 _ rfl
 have hlt:=hh.lt
 have c1:=fun w=>inWork_any 65281 w
 have c3:=fun w=>inHigh_any 65281 w
 obtain ⟨i0,hi,hz0,hz1,hz2⟩:=info_parts info2
 have HR:Hid (w.ownsRow base 2 1 (.slice po m.out.length cap) m.out.length (outC m.out)):=hh.row
 have HE:Hid (∀ (o:Obj) (v':Value) (w6:World),w6.ownsRow base 2 1 v' (m.out.length+1) (outC m.out ++ [.int .i64 v])->(w.alloc o).grownBy w6 (Value.slice po m.out.length cap).ownBlock->(v'.ownBlock=(Value.slice po m.out.length cap).ownBlock \/ ∃ g,v'.ownBlock=some g/\w.heap.size+1<=g) ->
   (∀ b q n' cap' xs',((Value.slice q n' cap').ownBlock=(Value.slice po m.out.length cap).ownBlock->n'<=m.out.length)->(w.alloc o).ownsRow b 2 1 (.slice q n' cap') n' xs'->w6.ownsRow b 2 1 (.slice q n' cap') n' xs') ->
   (w6.cell? ⟨B,21,none⟩=some (.slice po m.out.length cap)/\w6.frozen? ⟨B,21,none⟩=false)/\∀ po' cap',v'=.slice po' (m.out.length+1) cap'->Post w (w6.setCell ⟨B,21,none⟩ (.slice po' (m.out.length+1) cap')) B base m.out.length (wrM m 65281 v) po (.returned (.bool true))):=fun o v' w6 hown hg hmv hkp=>by
  have hbox:w6.heap[B]? = some (.cells (cellsM m po cap) 33 (0,0)):=by
   rw [hg.block B (by simp;omega) (fun e=>hh.ne e.symm),alloc_kept _ _ hlt];exact hh.box
  refine ⟨⟨celM hbox 21 _ rfl,frozen_of_row _ _ _ _ _ hbox⟩,fun po' cap' hv=>?_⟩
  subst hv
  have hne:=row_ne hown hbox
  have hl1:m.out.length+1=(m.out ++ [v]).length:=by simp
  refine ⟨.inl ⟨{ m with out:=m.out ++ [v] },po',cap',by unfold wrM;rw [if_neg (by decide),if_neg (by decide),if_pos rfl,if_neg hl],rfl,⟨put_21 hbox (m.out ++ [v]) _ hl1 po' cap',?_,?_⟩,?_⟩,?_,?_⟩
  ·show (w6.setCell _ _).ownsRow base 2 1 (.slice po' (m.out ++ [v]).length cap') (m.out ++ [v]).length (outC (m.out ++ [v]))
   rw [<- hl1,outC_snoc]
   exact hown.kept (row:=some B) ⟨rfl,rfl,rfl,by rw [size_set];exact Nat.le_refl _,fun k _ hk=>Below.heap_setCell _ _ _ _ (fun e=>hk (by rw [e]))⟩ (.inr hne)
  ·show (Value.slice po' (m.out ++ [v]).length cap').ownBlock ≠ some B
   rw [<- hl1];exact hne
  ·cases po' with
   | none=>exact absurd hown.2 (by rintro (⟨_,h0⟩|⟨_,_,_,h0,_⟩);omega;cases h0)
   | some p =>
    rcases hmv with h0|⟨g,h0,h1⟩
    ·left
     cases po with
     | none=>cases h0
     | some q =>
      have hb0:p.block=q.block:=Option.some.inj h0
      rcases hown.2 with ⟨hz,_⟩|⟨g1,_,_,hv1,_⟩
      ·cases hz
      ·rcases hh.row.2 with ⟨hz,_⟩|⟨g2,_,_,hv2,_⟩
       ·cases hz
       ·injection hv1 with e1;injection hv2 with e2
        cases e1;cases e2
        have e3:g1=g2:=hb0
        rw [e3]
    ·right
     have hb0:p.block=g:=Option.some.inj h0
     exact ⟨p,rfl,by rw [hb0];omega⟩
  rotate_left
  ·intro b q n' cap'' xs hn h
   have h2:=hkp b q n' cap'' xs (fun e=>hn (by rw [blk_own,blk_own] at e;exact e)) (h.alloc o)
   exact h2.kept (row:=some B) ⟨rfl,rfl,rfl,by rw [size_set];exact Nat.le_refl _,fun k _ hk=>Below.heap_setCell _ _ _ _ (fun e=>hk (by rw [e]))⟩ (.inr (row_ne h2 hbox))
  ·have hs:=hg.size
   simp at hs
   refine ⟨hg.os,hg.tape,hg.output,by rw [size_set];omega,fun k hk h1 h2=>?_⟩
   rw [Below.heap_setCell _ _ _ _ h1,hg.block k (by simp;omega) (fun e=>?_),alloc_kept _ _ hk]
   cases po with
   | none=>cases e
   | some p=>exact h2 p rfl (Option.some.inj e)
 have b0:inB 65281 49152 49407=false:=by decide
 have b1:inB 65281 65408 65534=false:=by decide
 rw [b0] at c1
 rw [b1] at c3
 clear hh hr b0 b1
 generalize wrM m 65281 v=r at *
 generalize outC m.out=oc at *
 generalize m.out.length=n at *
 have e1:¬ (100:Int)<=(n:Int):=by omega
 go_enter func238,ntmps238
 go_wp2_with first|(go_at_call 109;refine (c1 _).mono ?_;rintro e w' ⟨rfl,hw'⟩;have hw':=hw'.symm;subst hw')|(go_at_call 110;refine (c3 _).mono ?_;rintro e w' ⟨rfl,hw'⟩;have hw':=hw'.symm;subst hw')|(at_builtin;refine wpList_append_keeps rfl _ _ 26 rfl base 2 i0 (.int .i64 0) 1 8 underlying26 hi hz0 hz1 hz2 rfl (by decide) _ _ _ rfl (HR.out.alloc _) ⟨w.heap.size,0,none⟩ 1 1 [.int .i64 v] rfl rfl ?c1 ?c2 ?c3 ?c4 ?c5 (by decide) ?_)
 case c1 =>
  intro j u hj
  match j,hj with
  | 0,hj=>simp at hj;subst hj;simp [Addr.add]
 case c2=>intro u hu;simp at hu;subst hu;rfl
 case c3=>unfold maxLen;omega
 case c4=>omega
 case c5=>simp;omega
 intro v' w6 hown' hgrow hmv' hkp'
 obtain ⟨⟨k1,k2⟩,HF⟩:=HE.out _ v' w6 hown' hgrow hmv' hkp'
 obtain ⟨g',cap',rfl⟩:=own_succ hown'
 have HF:Hid (Post w (w6.setCell ⟨B,21,none⟩ (.slice (some ⟨g',0,none⟩) (n+1) cap')) B base n r po (.returned (.bool true))):=HF _ _ rfl
 clear HE hown' hgrow hmv' hkp'
 go_wp2
 go_ret
 exact HF.out
theorem write_any (m:M) (B base:Nat) (po:Option Addr) (cap:Nat) (addr v:Int) (w:World) (hh:Held w B base m po cap) (hr:Rt m) (a0:inB addr 0 65535=true) (v0:inB v 0 255=true) (hbase:base<=w.heap.size) :
  Calls prog 238 #[.pointer (some ⟨B,0,none⟩),.int .i64 addr,.int .i64 v] w fun e w'=>Post w w' B base m.out.length (wrM m addr v) po e:=by
 obtain ⟨u0,u1⟩:=of_decide_eq_true v0
 cases h1:inB addr 49152 49407 with
 | true=>exact write_work m B base po cap addr v w hh hr h1 u0 u1
 | false =>
  cases h2:inB addr 65408 65534 with
  | true=>exact write_high m B base po cap addr v w hh hr h1 h2 u0 u1
  | false =>
   by_cases h3:addr=65281
   ·subst h3
    by_cases h4:100<=m.out.length
    ·exact write_full m B base po cap v w hh hr h4
    ·exact write_out m B base po cap v w hh hr h4 hbase
   ·exact write_cart m B base po cap addr v w hh hr h1 h2 h3 a0 v0
end Busw
namespace Busx
open Go.Deep
open Signed (inB ret_int ret_bool isByte_any l1In_any)
open Carts CartK CartL CartM CartN CartP CartR CartW CartX CartY Outs MachT MachO MachK MachB Busw
def Sl (w:World) (po:Option Addr) (L:List Int) (cap:Nat):Prop:=(po=none/\L=[]/\cap=0) \/ ∃ b off,po=some ⟨b,off,none⟩/\∀ i (h:i<L.length),b<w.heap.size/\w.cell? ⟨b,off+i,none⟩=some (.int .i64 L[i])
theorem Sl.below {w w':World} {po:Option Addr} {L:List Int} {cap:Nat} (h:Sl w po L cap) (hb:Below w.heap.size w w'):Sl w' po L cap:=by
 rcases h with h|⟨b,off,rfl,hc⟩
 ·exact .inl h
 ·exact .inr ⟨b,off,rfl,fun i hi=>⟨Nat.lt_of_lt_of_le (hc i hi).1 hb.size,(hb.cell (p:=⟨b,_,none⟩) (hc i hi).1).trans (hc i hi).2⟩⟩
theorem Sl.row {w:World} {po:Option Addr} {L:List Int} {cap:Nat} (h:Sl w po L cap):Row w po L:=by
 rcases h with ⟨_,h,_⟩|⟨b,off,h1,h2⟩
 ·exact .inl h
 ·by_cases he:L=[]
  ·exact .inl he
  ·exact .inr ⟨b,off,h1,(h2 0 (List.length_pos_iff.2 he)).1,fun i hi=>(h2 i hi).2⟩
theorem clone_any (po:Option Addr) (L:List Int) (cap:Nat) (w:World) (h:Sl w po L cap) (hlen:L.length<=1048576) :
  Calls prog 49 #[.slice po L.length cap] w fun e w'=>(∃ po' cap',e=.returned (.slice po' L.length cap')/\w'.ownsRow w.heap.size 2 1 (.slice po' L.length cap') L.length (outC L))/\Below w.heap.size w w':=by
 obtain ⟨i0,hi,hz0,hz1,hz2⟩:=Busw.info_parts Busw.info2
 have hnil:=fun (w:World) (a:Option Addr) (n c:Nat)=>Lib.run_eql_slice_nil (P:=prog) w 26 2 a n c 0 0 underlying26
 rcases h with ⟨rfl,rfl,rfl⟩|⟨b,off,rfl,hc⟩
 ·have HR:Hid (w.ownsRow w.heap.size 2 1 (.slice none 0 0) 0 (outC [])):=World.ownsRow_nil _ _ _ _
  go_enter func49,ntmps49
  go_wp2
  go_ret
  exact ⟨⟨none,0,rfl,HR.out⟩,Below.refl _ _⟩
 ·have HC:Hid (∀ (o:Obj) j u,(outC L)[j]? = some u->(w.alloc o).cell? ((⟨b,off,none⟩ : Addr).add j)=some u):=fun o j u hu=>by
   unfold outC at hu
   rw [List.getElem?_map] at hu
   obtain ⟨z,hz,rfl⟩:=Option.map_eq_some_iff.1 hu
   obtain ⟨hj,rfl⟩:=List.getElem?_eq_some_iff.1 hz
   have e:(⟨b,off,none⟩ : Addr).add j=⟨b,off+j,none⟩:=by unfold Addr.add;split <;> simp_all
   rw [e]
   exact (((Below.refl _ w).alloc (Nat.le_refl _) o).cell (p:=⟨b,off+j,none⟩) (hc j hj).1).trans (hc j hj).2
  have H1:Hid (∀ u ∈ outC L,u.oneCell'=true):=fun u hu=>by
   obtain ⟨z,_,rfl⟩:=List.mem_map.1 hu;rfl
  have HL:Hid ((outC L).length=L.length*1):=by show _=_;simp [outC]
  have R0:Hid ((w.alloc (.cells #[] 2)).ownsRow w.heap.size 2 1 (.slice (some ⟨w.heap.size,0,none⟩) 0 0) 0 []):=World.ownsRow_lit w #[] 0 (Nat.le_refl _) (Nat.zero_le _) rfl
  clear hc
  generalize outC L=oc at *
  generalize L.length=n at *
  go_enter func49,ntmps49
  go_wp2_with (at_builtin;refine wpList_append_own _ rfl _ _ 26 rfl w.heap.size 2 i0 (.int .i64 0) 1 8 underlying26 hi hz0 hz1 hz2 rfl (by decide) _ _ _ rfl R0.out ⟨b,off,none⟩ n cap oc rfl HL.out ?c1 ?c2 ?c3 ?c4 ?c5 ?_)
  case c1=>exact HC.out _
  case c2=>exact H1.out
  case c3=>unfold maxLen;omega
  case c4=>omega
  case c5=>simp
  intro v' w6 hown' hgrow _
  have B6:Hid (Below w.heap.size w w6):=((Below.refl _ w).alloc (Nat.le_refl _) _).grown hgrow (by simp) (fun k ek=>by have:=(R0.out.lt k ek).1;omega)
  obtain ⟨po',cap',rfl⟩ : ∃ po' cap',v'=.slice po' n cap':=by
   rcases hown'.2 with ⟨rfl,h0⟩|⟨g,cap',cur,hv,_⟩
   ·exact ⟨none,0,by rw [h0]⟩
   ·exact ⟨_,_,hv⟩
  have R6:Hid (w6.ownsRow w.heap.size 2 1 (.slice po' n cap') n oc):=hown'
  clear hown' hgrow
  go_wp2
  go_ret
  exact ⟨⟨po',cap',rfl,R6.out⟩,B6.out⟩
def Z0:M:=⟨0,0,0,0,0,0,0,0,0,0,false,false,⟨#[]⟩,0,0,⟨#[]⟩,0,false,0,⟨#[]⟩,⟨#[]⟩,[],0⟩
theorem zeroM (w:World):(zeroValue 33).run prog w=.ok (.agg (cellsM Z0 none 0)) w:=by rw [cells_def];kernel_rfl
theorem builtM:(prog.built 33 [])=some (cellsM Z0 none 0):=by rw [cells_def];kernel_rfl
theorem size_M (m:M) (po:Option Addr) (cap:Nat):(cellsM m po cap).size=23:=by rw [cells_def];rfl
theorem one_M (m:M) (po:Option Addr) (cap:Nat):(cellsM m po cap).all (·.oneCell')=true:=by rw [cells_def];simp [Value.oneCell']
theorem infoM:(prog.info? 33).map (·.size)=some 23:=by kernel_rfl
theorem infoMs (m:M) (po:Option Addr) (cap:Nat):(prog.info? 33).map (·.size)=some (cellsM m po cap).size:=by rw [size_M];exact infoM
def okMM (m:M):Bool:=okM m.ra m.rf m.rB m.rC m.rD m.rE m.rH m.rL m.sp m.pc (okB m.rom m.kind m.bank m.ram m.rb m.on m.mode) m.work.size m.high.size m.out m.cyc
structure Sm (m:M):Prop where
 rom:m.rom.size<=maxLen
 ram:m.ram.size<=maxLen
 work:m.work.size<=1048576
 high:m.high.size<=1048576
 out:m.out.length<=1048576
theorem implOk_M (m:M) (po:Option Addr) (cap:Nat) (w:World) (h:Sm m) (hN:Sl w po m.out cap):Calls prog 33 #[.agg (cellsM m po cap)] w fun e w'=>e=.returned (.bool (okMM m))/\Below w.heap.size w w':=by
 rw [cells_def];exact implM_any m.ra m.rf m.rB m.rC m.rD m.rE m.rH m.rL m.sp m.pc m.ime m.hal m.rom m.kind m.bank m.ram m.rb m.on m.mode m.work m.high po m.out cap m.cyc w h.rom h.ram h.work h.high hN.row h.out
theorem specOk_M (m:M) (po:Option Addr) (cap:Nat) (w:World) (h:Sm m) (hN:Sl w po m.out cap):Calls prog 34 #[.agg (cellsM m po cap)] w fun e w'=>e=.returned (.bool (okMM m))/\Below w.heap.size w w':=by
 rw [cells_def];exact specM_any m.ra m.rf m.rB m.rC m.rD m.rE m.rH m.rL m.sp m.pc m.ime m.hal m.rom m.kind m.bank m.ram m.rb m.on m.mode m.work m.high po m.out cap m.cyc w h.rom h.ram h.work h.high hN.row h.out
theorem rt_of {m:M} (h:okMM m=true) (hs:Sm m):Rt m:=by
 have p:=okM_parts h
 refine ⟨p.1,p.2.1,p.2.2,?_,hs.rom,hs.ram⟩
 unfold okMM okM at h
 simp only [Bool.and_eq_true,decide_eq_true_eq] at h
 exact h.1.1.1.2
theorem results_two {P:Program} {fn:Func} {p q:Tmp} {ty:TypeId} (h:fn.results=#[.cell p ty,.tmp q]) (tmps:Array Value) (w:World) (g:Nat) (t:TypeId) (cs:Array Value) (fr:Nat × Nat) (d:TypeDesc) (v:Value)
  (hp:tmps.getD p undef=.pointer (some ⟨g,0,none⟩)) (hq:tmps.getD q undef=v) (hg:w.heap[g]? = some (.cells cs t fr))
  (hu:P.underlying ty=some d) (hd:(match d with|.struct _|.array _ _=>true|_=>false)=true) (hi:(P.info? ty).map (·.size)=some cs.size) :
  (results fn tmps).run P w=.ok (.tuple #[.agg cs,v]) w:=MachN.results_two h tmps w g t cs fr d v hp hq hg hu hd hi
theorem wpList_build0 {P:Program} {ops:Array Oper} {rest:List Oper} {o:Oper} {a:Act} {w:World} {Q:Exit->Act->World->Prop} (hg:o.guard=none) (t:TypeId) (ho:o.op=.build t #[]) (cs:Array Value) (hb:P.built t []=some cs) (h:wpList P ops Q rest (a.put o.dst (.agg cs)) w):wpList P ops Q (o :: rest) a w :=
 wpList_build hg t #[] ho (by simp [hb]) (by simpa [hb] using h)
theorem own_at {w:World} {base n cap:Nat} {po:Option Addr} {xs:List Value} (h:w.ownsRow base 2 1 (.slice po n cap) n xs) (p:Addr) (e:po=some p):base<=p.block:=by
 subst e
 rcases h.2 with ⟨h,_⟩|⟨g,c,cur,hv,hb,_⟩
 ·cases h
 ·cases hv;exact hb
theorem lay {w w1 w2:World} {m:M} {po po':Option Addr} {cap cap':Nat} (HB:Below w.heap.size w w1) (HK:w1.heap[w.heap.size]? = some (.cells (cellsM m po cap) 33 (0,0))) (hb2:Below w1.heap.size w1 w2) (own:w2.ownsRow w1.heap.size 2 1 (.slice po' m.out.length cap') m.out.length (outC m.out)) :
  Held (w2.setCell ⟨w.heap.size,21,none⟩ (.slice po' m.out.length cap')) w.heap.size w.heap.size m po' cap':=by
 have hlt:w.heap.size<w1.heap.size:=(zLo HK)
 have hbox2:w2.heap[w.heap.size]? = some (.cells (cellsM m po cap) 33 (0,0)):=(hb2.block _ hlt).trans HK
 have hne:=row_ne own hbox2
 refine ⟨put_21 hbox2 m.out _ rfl po' cap',?_,hne⟩
 exact (World.ownsRow.mono own HB.size).kept (row:=some w.heap.size) ⟨rfl,rfl,rfl,by rw [Busw.size_set];exact Nat.le_refl _,fun k _ hk=>Below.heap_setCell _ _ _ _ (fun e=>hk (by rw [e]))⟩ (.inr hne)
theorem set_row_grown (w:World) (B:Nat) (cs:Array Value):w.grownBy (w.setRow B cs) (some B) :=
 ⟨rfl,rfl,rfl,by simp [World.setRow],fun k _ hk=>by
  have hne:¬ B=k:=fun e=>hk (by rw [e])
  simp [World.setRow,Array.getElem?_modify,hne]⟩
end Busx
namespace Stpp
open Signed (inB sgn)
open Reck ReckS ReckM ReckD TurnS
open Busw (M wrM Rt)
def rd (m:M) (a:Int):Int:=MachB.busV m.rom m.kind m.bank m.ram m.rb m.on m.mode m.work m.high a
theorem rd_bd (m:M) (a:Int):0<=rd m a/\rd m a<=255:=by
 unfold rd MachB.busV
 split
 ·exact CartR.byteAt_bd _ _
 ·split
  ·exact CartR.byteAt_bd _ _
  ·exact CartR.rdV_bd _ _ _ _ _ _
structure S where
 m:M
 full:Bool
def wr (s:S) (a v:Int):S:=match wrM s.m (a%65536) v with|some m'=>⟨m',s.full⟩|none=>⟨s.m,true⟩
def hl (m:M):Int:=256*m.rH+m.rL
def reg (m:M) (n:Int):Int:=if n=0 then m.rB else if n=1 then m.rC else if n=2 then m.rD else if n=3 then m.rE else if n=4 then m.rH else if n=5 then m.rL else m.ra
def setR (m:M) (n v:Int):M:=if n=0 then { m with rB:=v } else if n=1 then { m with rC:=v } else if n=2 then { m with rD:=v } else if n=3 then { m with rE:=v } else if n=4 then { m with rH:=v } else if n=5 then { m with rL:=v } else { m with ra:=v }
def get (m:M) (n:Int):Int:=if n=6 then rd m (hl m) else reg m n
def put (s:S) (n v:Int):S:=if n=6 then wr s (hl s.m) v else ⟨setR s.m n v,s.full⟩
def pr (m:M) (p:Int):Int:=if p=0 then 256*m.rB+m.rC else if p=1 then 256*m.rD+m.rE else if p=2 then 256*m.rH+m.rL else m.sp
def setP (m:M) (p v:Int):M:=if p=0 then { m with rB:=v / 256,rC:=v%256 } else if p=1 then { m with rD:=v / 256,rE:=v%256 } else if p=2 then { m with rH:=v / 256,rL:=v%256 } else { m with sp:=v }
def prQ (m:M) (p:Int):Int:=if p=3 then 256*m.ra+m.rf else pr m p
def setQ (m:M) (p v:Int):M:=if p=3 then { m with ra:=v / 256,rf:=v%256 / 16*16 } else setP m p v
def push (s:S) (v:Int):S:=⟨{ (wr (wr s (s.m.sp+65535) (v / 256)) (s.m.sp+65534) (v%256)).m with sp:=(s.m.sp+65534)%65536 },(wr (wr s (s.m.sp+65535) (v / 256)) (s.m.sp+65534) (v%256)).full⟩
def popV (m:M):Int:=rd m m.sp+256*rd m ((m.sp+1)%65536)
def popM (m:M):M:={ m with sp:=(m.sp+2)%65536 }
def cond (m:M) (k:Int):Bool:=decide (m.rf / (if 1<k then 16 else 128)%2=k%2)
def bitV (y:Int):Int:=if y=0 then 1 else if y=1 then 2 else if y=2 then 4 else if y=3 then 8 else if y=4 then 16 else if y=5 then 32 else if y=6 then 64 else 128
def F (s:S) (f:Int):S:=⟨{ s.m with rf:=f },s.full⟩
def AF (s:S) (p:Int × Int):S:=⟨{ s.m with ra:=p.1,rf:=p.2 },s.full⟩
def cbE (code:Int) (s:S):S :=
 if code / 64=0 then F (put s (code%8) (trnR (code / 8%8) (get s.m (code%8)) s.m.rf).1) (trnR (code / 8%8) (get s.m (code%8)) s.m.rf).2
 else if code / 64=1 then F s (fl (decide (bits .and .i64 (get s.m (code%8)) (bitV (code / 8%8))=0)) false true (cB s.m.rf))
 else if code / 64=2 then put s (code%8) (bits .andNot .i64 (get s.m (code%8)) (bitV (code / 8%8)))
 else put s (code%8) (bits .or .i64 (get s.m (code%8)) (bitV (code / 8%8)))
def oddE (y:Int) (s:S):S :=
 if y=4 then AF s (daaR s.m.ra s.m.rf)
 else if y=5 then AF s (255-s.m.ra,fl (zB s.m.rf) true true (cB s.m.rf))
 else if y=6 then F s (fl (zB s.m.rf) false false true)
 else if y=7 then F s (fl (zB s.m.rf) false false (!cB s.m.rf))
 else AF s ((trnR y s.m.ra s.m.rf).1,fl false false false (cB (trnR y s.m.ra s.m.rf).2))
def spE (imm:Int) (s:S):S:=wr (wr s imm (s.m.sp%256)) (imm+1) (s.m.sp / 256)
def jrE (imm:Int) (s:S):S:=⟨{ s.m with pc:=(s.m.pc+sgn imm+65536)%65536 },s.full⟩
def addE (p:Int) (s:S):S:=⟨{ setP s.m 2 (awR (hl s.m) (pr s.m p) s.m.rf).1 with rf:=(awR (hl s.m) (pr s.m p) s.m.rf).2 },s.full⟩
def placeOf (m:M) (p:Int):Int:=pr m (if p<2 then p else 2)
def stepHl (m:M) (p:Int):M:=if 1<p then setP m 2 ((hl m+(if p=2 then 1 else 65535))%65536) else m
def stE (p:Int) (s:S):S:=⟨stepHl (wr s (placeOf s.m p) s.m.ra).m p,(wr s (placeOf s.m p) s.m.ra).full⟩
def ldE (p:Int) (s:S):S:=⟨stepHl { s.m with ra:=rd s.m (placeOf s.m p) } p,s.full⟩
def lowE (code imm:Int) (s:S):S × Bool :=
 if code%8=0 then (if code / 8=1 then (spE imm s,false) else if code / 8=3 \/ (3<code / 8/\cond s.m (code / 8-4)=true) then (jrE imm s,true) else (s,false))
 else if code%8=1 then (if code / 8%2=0 then (⟨setP s.m (code / 8 / 2) imm,s.full⟩,false) else (addE (code / 8 / 2) s,false))
 else if code%8=2 then (if code / 8%2=0 then (stE (code / 8 / 2) s,false) else (ldE (code / 8 / 2) s,false))
 else if code%8=3 then (⟨setP s.m (code / 8 / 2) ((pr s.m (code / 8 / 2)+(if code / 8%2=0 then 1 else 65535))%65536),s.full⟩,false)
 else if code%8=4 then (F (put s (code / 8) (st8R (get s.m (code / 8)) s.m.rf false).1) (st8R (get s.m (code / 8)) s.m.rf false).2,false)
 else if code%8=5 then (F (put s (code / 8) (st8R (get s.m (code / 8)) s.m.rf true).1) (st8R (get s.m (code / 8)) s.m.rf true).2,false)
 else if code%8=6 then (put s (code / 8) imm,false)
 else (oddE (code / 8) s,false)
def retE (i:Bool) (s:S):S:=⟨{ popM s.m with pc:=popV s.m,ime:=s.m.ime || i },s.full⟩
def A (s:S) (v:Int):S:=⟨{ s.m with ra:=v },s.full⟩
def callE (at_:Int) (s:S):S:=⟨{ (push s s.m.pc).m with pc:=at_ },(push s s.m.pc).full⟩
def topE (code imm:Int) (s:S):S × Bool :=
 if (code%8=0/\code / 8%8<4/\cond s.m (code / 8%8)=true) \/ code=201 \/ code=217 then (retE (decide (code=217)) s,true)
 else if code=224 then (wr s (65280+imm) s.m.ra,false)
 else if code=226 then (wr s (65280+s.m.rC) s.m.ra,false)
 else if code=240 then (A s (rd s.m (65280+imm)),false)
 else if code=242 then (A s (rd s.m (65280+s.m.rC)),false)
 else if code=234 then (wr s imm s.m.ra,false)
 else if code=250 then (A s (rd s.m imm),false)
 else if code=232 then (⟨{ s.m with sp:=(asR s.m.sp imm).1,rf:=(asR s.m.sp imm).2 },s.full⟩,false)
 else if code=248 then (⟨{ setP s.m 2 (asR s.m.sp imm).1 with rf:=(asR s.m.sp imm).2 },s.full⟩,false)
 else if code=249 then (⟨{ s.m with sp:=hl s.m },s.full⟩,false)
 else if code=233 then (⟨{ s.m with pc:=hl s.m },s.full⟩,false)
 else if code%8=1/\code / 8%8%2=0 then (⟨setQ (popM s.m) (code / 8%8 / 2) (popV s.m),s.full⟩,false)
 else if code%8=5/\code / 8%8%2=0 then (push s (prQ s.m (code / 8%8 / 2)),false)
 else if (code%8=2/\code / 8%8<4/\cond s.m (code / 8%8)=true) \/ code=195 then (⟨{ s.m with pc:=imm },s.full⟩,true)
 else if code=243 \/ code=251 then (⟨{ s.m with ime:=decide (code=251) },s.full⟩,false)
 else if (code%8=4/\cond s.m (code / 8%8)=true) \/ code=205 then (callE imm s,true)
 else if code%8=6 then (AF s (aluR (code / 8%8) s.m.ra imm s.m.rf),false)
 else if code%8=7 then (callE (8*(code / 8%8)) s,false)
 else (s,false)
def sem (code:Int) (cb:Bool) (imm:Int) (s:S):S × Bool :=
 if cb=true then (cbE code s,false)
 else if code<64 then lowE code imm s
 else if code=118 then (⟨{ s.m with hal:=true },s.full⟩,false)
 else if code<128 then (put s (code / 8%8) (get s.m (code%8)),false)
 else if code<192 then (AF s (aluR (code / 8%8) s.m.ra (get s.m (code%8)) s.m.rf),false)
 else topE code imm s
def withCpu (m c:M):M:={ m with ra:=c.ra,rf:=c.rf,rB:=c.rB,rC:=c.rC,rD:=c.rD,rE:=c.rE,rH:=c.rH,rL:=c.rL,sp:=c.sp,pc:=c.pc,ime:=c.ime,hal:=c.hal,cyc:=c.cyc }
theorem wrM_cpu (m c:M) (a v:Int):wrM (withCpu m c) a v=(wrM m a v).map (fun m'=>withCpu m' c):=by
 unfold wrM
 by_cases h1:inB a 49152 49407=true
 ·rw [if_pos h1,if_pos h1];rfl
 rw [if_neg h1,if_neg h1]
 by_cases h2:inB a 65408 65534=true
 ·rw [if_pos h2,if_pos h2];rfl
 rw [if_neg h2,if_neg h2]
 by_cases h3:a=65281
 ·rw [if_pos h3,if_pos h3]
  by_cases h4:100<=m.out.length
  ·have h5:100<=(withCpu m c).out.length:=h4
   rw [if_pos h4,if_pos h5];rfl
  ·have h5:¬ 100<=(withCpu m c).out.length:=h4
   rw [if_neg h4,if_neg h5];rfl
 ·rw [if_neg h3,if_neg h3];rfl
theorem withCpu_self (m:M):withCpu m m=m:=rfl
theorem wrM_same {m m':M} {a v:Int} (h:wrM m a v=some m'):withCpu m' m=m':=by
 have h2:=wrM_cpu m m a v
 rw [withCpu_self,h] at h2
 exact (Option.some.inj h2).symm
theorem wr_cpu (m c:M) (f:Bool) (a v:Int):wr ⟨withCpu m c,f⟩ a v=⟨withCpu (wr ⟨m,f⟩ a v).m c,(wr ⟨m,f⟩ a v).full⟩:=by
 unfold wr
 have h:=wrM_cpu m c (a%65536) v
 simp only []
 rw [h]
 cases wrM m (a%65536) v <;> rfl
theorem wr_same (s:S) (a v:Int):withCpu (wr s a v).m s.m=(wr s a v).m:=by
 unfold wr
 cases h:wrM s.m (a%65536) v with
 | none=>rfl
 | some m'=>exact wrM_same h
end Stpp
end Go.Proofs.YtnjolmbdbgbmbaaGreatDoor
