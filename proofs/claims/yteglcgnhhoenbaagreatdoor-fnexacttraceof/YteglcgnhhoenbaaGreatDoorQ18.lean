import Derived.Test.YteglcgnhhoenbaaGreatDoorQ17
import Derived.Laws.AppendOwn
import Derived.Test.YteglcgnhhoenbaaGreatDoorQ16
import Derived.Deep.Onto
set_option linter.all false
set_option maxRecDepth 20000
set_option maxHeartbeats 8000000
open Go.ChangeShapes Go.WideShapes Go.ChangeAt Go.RowKit
open Go.Proofs.Tryz
namespace Go.Proofs.YteglcgnhhoenbaaGreatDoor
namespace Busw
open Go.Deep
open Signed (inB aG aB aC aE)
open Carts CartK CartL CartM CartP CartR CartW CartX CartY Outs Mach MachT MachO MachK MachB
structure M where
 (ra rf rB rC rD rE rH rL sp pc:Int)
 (ime hal:Bool)
 (rom:ByteArray)
 (kind bank:Int)
 (ram:ByteArray)
 (rb:Int)
 (on:Bool)
 (mode:Int)
 (work high:ByteArray)
 (out:List Int)
 (cyc:Int)
@[irreducible] def aA (m:M) (po:Option Addr) (cap:Nat):Array Value:=#[.int .i64 m.ra,.int .i64 m.rf,.int .i64 m.rB,.int .i64 m.rC,.int .i64 m.rD,.int .i64 m.rE,.int .i64 m.rH,.int .i64 m.rL,.int .i64 m.sp,.int .i64 m.pc,.bool m.ime,.bool m.hal,.string m.rom,.int .i64 m.kind,.int .i64 m.bank,.string m.ram,.int .i64 m.rb,.bool m.on,.int .i64 m.mode,.string m.work,.string m.high,.slice po m.out.length cap,.int .i64 m.cyc]
theorem aT (m:M) (po:Option Addr) (cap:Nat):aA m po cap=#[.int .i64 m.ra,.int .i64 m.rf,.int .i64 m.rB,.int .i64 m.rC,.int .i64 m.rD,.int .i64 m.rE,.int .i64 m.rH,.int .i64 m.rL,.int .i64 m.sp,.int .i64 m.pc,.bool m.ime,.bool m.hal,.string m.rom,.int .i64 m.kind,.int .i64 m.bank,.string m.ram,.int .i64 m.rb,.bool m.on,.int .i64 m.mode,.string m.work,.string m.high,.slice po m.out.length cap,.int .i64 m.cyc]:=by unfold aA;rfl
def wrM (m:M) (addr v:Int):Option M :=
 if inB addr 49152 49407=true then some { m with work:=fK m.work (addr-49152) v }
 else if inB addr 65408 65534=true then some { m with high:=fK m.high (addr-65408) v }
 else if addr=65281 then (if 100<=m.out.length then none else some { m with out:=m.out ++ [v] })
 else some { m with bank:=cN m.kind m.bank addr v,ram:=dU m.kind m.ram m.rb m.on m.mode addr v,rb:=wRb m.kind m.rb addr v,on:=wOn m.kind m.on addr v,mode:=cO m.kind m.mode addr v }
structure Rt (m:M):Prop where
 cart:okB m.rom m.kind m.bank m.ram m.rb m.on m.mode=true
 work:m.work.size=256
 high:m.high.size=127
 out:m.out.length<=100
 rom:m.rom.size<=maxLen
 ram:m.ram.size<=maxLen
def dJ (L:List Int):List Value:=L.map (fun z=>.int .i64 z)
structure Held (w:World) (B base:Nat) (m:M) (po:Option Addr) (cap:Nat):Prop where
 box:w.heap[B]? = some (.cells (aA m po cap) 30 (0,0))
 row:w.ownsRow base 2 1 (.slice po m.out.length cap) m.out.length (dJ m.out)
 ne:(Value.slice po m.out.length cap).ownBlock ≠ some B
theorem Held.lt {w:World} {B base:Nat} {m:M} {po:Option Addr} {cap:Nat} (h:Held w B base m po cap):B<w.heap.size:=(zLo h.box)
theorem eM {w:World} {B:Nat} {m:M} {po:Option Addr} {cap:Nat} (h:w.heap[B]? = some (.cells (aA m po cap) 30 (0,0))) (i:Nat) (v:Value) (hv:(#[.int .i64 m.ra,.int .i64 m.rf,.int .i64 m.rB,.int .i64 m.rC,.int .i64 m.rD,.int .i64 m.rE,.int .i64 m.rH,.int .i64 m.rL,.int .i64 m.sp,.int .i64 m.pc,.bool m.ime,.bool m.hal,.string m.rom,.int .i64 m.kind,.int .i64 m.bank,.string m.ram,.int .i64 m.rb,.bool m.on,.int .i64 m.mode,.string m.work,.string m.high,.slice po m.out.length cap,.int .i64 m.cyc]:Array Value)[i]? = some v):w.cell? ⟨B,i,none⟩=some v:=by
 rw [aT] at h;exact cel h i v hv
theorem aLW {w:World} {B:Nat} {m:M} {po:Option Addr} {cap:Nat} (h:w.heap[B]? = some (.cells (aA m po cap) 30 (0,0))) (s:ByteArray):(w.setCell ⟨B,19,none⟩ (.string s)).heap[B]? = some (.cells (aA { m with work:=s } po cap) 30 (0,0)):=by
 rw [aT] at h |-;exact (heap_setCell_same _ _ _ _ _ _ h).trans rfl
theorem aLX {w:World} {B:Nat} {m:M} {po:Option Addr} {cap:Nat} (h:w.heap[B]? = some (.cells (aA m po cap) 30 (0,0))) (s:ByteArray):(w.setCell ⟨B,20,none⟩ (.string s)).heap[B]? = some (.cells (aA { m with high:=s } po cap) 30 (0,0)):=by
 rw [aT] at h |-;exact (heap_setCell_same _ _ _ _ _ _ h).trans rfl
structure Only (w w':World) (B:Nat) (po:Option Addr):Prop where
 os:w'.os=w.os
 tape:w'.tape=w.tape
 output:w'.output=w.output
 size:w.heap.size<=w'.heap.size
 block:∀ k,k<w.heap.size->k ≠ B->(∀ p,po=some p->k ≠ p.block)->w'.heap[k]? = w.heap[k]?
theorem Only.refl (w:World) (B:Nat) (po:Option Addr):Only w w B po:=⟨rfl,rfl,rfl,Nat.le_refl _,fun _ _ _ _=>rfl⟩
theorem Held.turn {w w':World} {B base:Nat} {m m':M} {po:Option Addr} {cap:Nat} (h:Held w B base m po cap) (hbox:w'.heap[B]? = some (.cells (aA m' po cap) 30 (0,0))) (hout:m'.out=m.out) (hg:w.grownBy w' (some B)):Held w' B base m' po cap :=
 ⟨hbox,by rw [hout];exact h.row.kept hg (.inr h.ne),by rw [hout];exact h.ne⟩
def nA (w:World) (po po':Option Addr):Prop:=po'=po \/ ∃ p,po'=some p/\w.heap.size<=p.block
def blk (po:Option Addr):Option Nat:=po.map (·.block)
theorem fV (po:Option Addr) (n cap:Nat):(Value.slice po n cap).ownBlock=blk po:=by cases po <;> rfl
def Kept (w w':World) (n:Nat) (po:Option Addr):Prop:=∀ b q n' cap' xs,(blk q=blk po->n'<=n)->w.ownsRow b 2 1 (.slice q n' cap') n' xs->w'.ownsRow b 2 1 (.slice q n' cap') n' xs
def bF (w w':World) (B base n:Nat) (r:Option M) (po:Option Addr) (e:Ending):Prop :=
 ((∃ m' po' cap',r=some m'/\e=.returned (.bool true)/\Held w' B base m' po' cap'/\nA w po po') \/ (r=none/\e=.returned (.bool false)/\w'=w))/\Only w w' B po/\Kept w w' n po
theorem dK {w:World} {base n B:Nat} {v:Value} {xs:List Value} {cs:Array Value} {fz:Nat × Nat} (h:w.ownsRow base 2 1 v n xs) (hb:w.heap[B]? = some (.cells cs 30 fz)):v.ownBlock ≠ some B:=by
 intro e;rcases h.2 with ⟨rfl,_⟩|⟨g,cap,cur,rfl,_,hg,_⟩
 ·cases e
 ·cases e
  rw [hb] at hg
  cases hg
theorem mA {w w':World} {B n:Nat} {po:Option Addr} {cs:Array Value} {fz:Nat × Nat} (hg:w.grownBy w' (some B)) (hb:w.heap[B]? = some (.cells cs 30 fz)):Kept w w' n po:=fun b q n' cap' xs _ h=>h.kept hg (.inr (dK h hb))
theorem kept_refl (w:World) (n:Nat) (po:Option Addr):Kept w w n po:=fun _ _ _ _ _ _ h=>h
theorem oM {P:Program} (w:World) (base:Nat) (t ty e:TypeId) (i:TypeInfo) (z:Value) (size bytes:Nat) (ht:P.underlying t=some (.slice e)) (hi:P.info? e=some i) (hz:i.zero=some z)
  (hsize:i.size=size) (hby:i.bytes=bytes) (hzs:z.cells.size=size) (hsz:0<size)
  (v:Value) (n:Nat) (xs:List Value) (hown:w.ownsRow base e size v n xs)
  (a:Addr) (m c:Nat) (news:List Value) (hl:news.length=m*size) (hnews:∀ j u,news[j]? = some u->w.cell? (a.add j)=some u) (h1:∀ u ∈ news,u.oneCell'=true)
  (h63:n+m<=maxLen) (hbytes:(n+m)*bytes<=140737488355328) (hbase:base<=w.heap.size) (hm:0<m) :
  ∃ v' w',(Builtin.append_ #[t,t] ty #[v,.slice (some a) m c]).run P w=.ok v' w'/\w'.ownsRow base e size v' (n+m) (xs ++ news)/\w.grownBy w' v.ownBlock /\
   (v'.ownBlock=v.ownBlock \/ ∃ g,v'.ownBlock=some g/\w.heap.size<=g) /\
   (∀ b q n' cap' xs',((Value.slice q n' cap').ownBlock=v.ownBlock->n'<=n)->w.ownsRow b e size (.slice q n' cap') n' xs'->w'.ownsRow b e size (.slice q n' cap') n' xs'):=by
 obtain ⟨v1,w1,hr1,f1,f2,_⟩:=run_append_own (P:=P) w base t ty e i z size bytes ht hi hz hsize hby hzs hsz v n xs hown a m c news hl hnews h1 h63 hbytes hbase;refine ⟨v1,w1,hr1,f1,f2,?_⟩;have other:∀ b q n' cap' xs',(Value.slice q n' cap').ownBlock ≠ v.ownBlock->w.ownsRow b e size (.slice q n' cap') n' xs'->w1.ownsRow b e size (.slice q n' cap') n' xs':=fun b q n' cap' xs' hne h=>h.kept f2 (.inr hne)
 have all:(∀ k,k<w.heap.size->w1.heap[k]? = w.heap[k]?)->∀ b q n' cap' xs',w.ownsRow b e size (.slice q n' cap') n' xs'->w1.ownsRow b e size (.slice q n' cap') n' xs':=fun hk b q n' cap' xs' h=>by
  refine ⟨h.1,?_⟩;rcases h.2 with h2|⟨g,cp,cur,hv,hb,hg,r⟩
  ·exact .inl h2
  ·exact .inr ⟨g,cp,cur,hv,hb,(hk g (zLo hg)).trans hg,r⟩
 subst hsize;subst hby;have hsmall:n+m<=9223372036854775807:=by simp only [maxLen] at h63;omega
 rcases hown.2 with ⟨rfl,rfl⟩|⟨g,cap,cur,rfl,hbg,hg,hnc,hcm,hcs,htake⟩
 ·have hr:=run_append_nil (P:=P) w t ty e i z ht hi hz a m c news hl hnews (by omega) (by omega) (by have hb:=hbytes;simp only [Nat.zero_add] at hb;omega)
  rw [hr] at hr1
  cases hr1
  exact ⟨.inr ⟨w.heap.size,rfl,Nat.le_refl _⟩,fun b q n' cap' xs' _ h=>all (fun k hk=>Below.heap_alloc w.drew _ _ hk) b q n' cap' xs' h⟩
 ·by_cases hroom:n+m<=cap
  ·have hfit:n*i.size+news.length<=cur.size:=by rw [hl,hcs,<- Nat.add_mul];exact Nat.mul_le_mul_right _ hroom
   have hr:=run_append_room (P:=P) w t ty e i ht hi g n cap cur hg a m c news hl hnews h1 hroom hfit;rw [hr] at hr1
   cases hr1
   refine ⟨.inl rfl,fun b q n' cap' xs' hn h=>?_⟩
   by_cases hq:(Value.slice q n' cap').ownBlock=(Value.slice (some ⟨g,0,none⟩) n cap).ownBlock
   ·refine ⟨h.1,?_⟩
    rcases h.2 with h2|⟨g',cp,cur',hv,hb,hg',r1,r2,r3,r4⟩
    ·exact .inl h2
    ·rw [hv] at hq
     have hgg:g'=g:=Option.some.inj hq;subst hgg;rw [hg] at hg'
     cases hg'
     have hle:n'*i.size<=n*i.size:=Nat.mul_le_mul_right _ (hn (by rw [hv];exact hq));refine .inr ⟨g',cp,_,hv,hb,setRow_heap w g' cur _ e _ hg,r1,r2,?_,?_⟩
     ·simp only [List.size_toArray,List.length_append,List.length_take,List.length_drop,Array.length_toList]
      omega
     ·have hls:(cur.toList.take (n*i.size)).length=n*i.size:=by simp;omega
      rw [List.append_assoc,List.take_append_of_le_length (by rw [hls];exact hle),List.take_take,Nat.min_eq_left hle];exact r4
   ·exact other b q n' cap' xs' hq h
  ·have holds:∀ j u,xs[j]? = some u->w.cell? ((⟨g,0,none⟩ : Addr).add j)=some u:=hown.cells (g:=g) rfl
   have hr:=run_append_grow (P:=P) w t ty e i z ht hi hz ⟨g,0,none⟩ n cap xs hown.1 holds a m c news hl hnews (by omega) (by omega) (growslice_fits (by omega) hbytes);rw [hr] at hr1
   cases hr1
   exact ⟨.inr ⟨w.heap.size,rfl,Nat.le_refl _⟩,fun b q n' cap' xs' _ h=>all (fun k hk=>Below.heap_alloc w.drew _ _ hk) b q n' cap' xs' h⟩
theorem lS {P:Program} {ops:Array Oper} {rest:List Oper} {o:Oper} {ac:Act} {w:World} {Q:Exit->Act->World->Prop} (hgd:o.guard=none) (s x:Operand) (t:TypeId)
  (ho:o.op=.call { callee:=.builtin .append,args:=#[s,x],argTypes:=#[t,t] })
  (base:Nat) (e:TypeId) (i:TypeInfo) (z:Value) (size bytes:Nat) (ht:P.underlying t=some (.slice e)) (hi:P.info? e=some i) (hz:i.zero=some z)
  (hsize:i.size=size) (hby:i.bytes=bytes) (hzs:z.cells.size=size) (hsz:0<size)
  (v:Value) (n:Nat) (xs:List Value) (hs:ac.eval s=v) (hown:w.ownsRow base e size v n xs)
  (ad:Addr) (m c:Nat) (news:List Value) (hx:ac.eval x=.slice (some ad) m c) (hl:news.length=m*size) (hnews:∀ j u,news[j]? = some u->w.cell? (ad.add j)=some u) (h1:∀ u ∈ news,u.oneCell'=true)
  (h63:n+m<=maxLen) (hbytes:(n+m)*bytes<=140737488355328) (hbase:base<=w.heap.size) (hm:0<m)
  (h:∀ v' w',w'.ownsRow base e size v' (n+m) (xs ++ news)->w.grownBy w' v.ownBlock->(v'.ownBlock=v.ownBlock \/ ∃ g,v'.ownBlock=some g/\w.heap.size<=g) ->
   (∀ b q n' cap' xs',((Value.slice q n' cap').ownBlock=v.ownBlock->n'<=n)->w.ownsRow b e size (.slice q n' cap') n' xs'->w'.ownsRow b e size (.slice q n' cap') n' xs')->wpList P ops Q rest (ac.put o.dst v') w'):wpList P ops Q (o :: rest) ac w :=
 wpList_plain hgd fun K hK=>by
  obtain ⟨v',w',hr,h2,h3,h4,h5⟩:=oM (P:=P) w base t o.type e i z size bytes ht hi hz hsize hby hzs hsz v n xs hown ad m c news hl hnews h1 h63 hbytes hbase hm;unfold Oper.wp execOp;simp only [ho,resolve,invoke,builtin,Sem.run_bind,Sem.run_pure,Result.andThen_ok,List.map_toArray,List.map_cons,List.map_nil,hs,hx,hr];exact hK _ _ (h v' w' h2 h3 h4 h5)
theorem aM (w:World) (o:Obj) {k:Nat} (h:k<w.heap.size):(w.alloc o).heap[k]? = w.heap[k]?:=Below.heap_alloc _ _ _ h
theorem dB (w:World) (a:Addr) (v:Value):(w.setCell a v).heap.size=w.heap.size:=World.size_setCell ..
theorem lG (w:World) (B i:Nat) (v:Value) (o:Obj):w.grownBy ((w.setCell ⟨B,i,none⟩ v).alloc o).drew (some B) :=
 ⟨rfl,rfl,rfl,by show w.heap.size<=((w.setCell ⟨B,i,none⟩ v).alloc o).heap.size;rw [World.size_alloc,dB];omega,fun k hk hne=>by
  show ((w.setCell ⟨B,i,none⟩ v).alloc o).heap[k]? = _;rw [aM _ _ (by rw [dB];exact hk)];exact Below.heap_setCell _ _ _ _ (fun e=>hne (by rw [e]))⟩
theorem mB {w w':World} {B:Nat} {po:Option Addr} (h:w.grownBy w' (some B)):Only w w' B po:=⟨h.os,h.tape,h.output,h.size,fun k hk hne _=>h.block k hk (fun e=>hne (Option.some.inj e))⟩
theorem aBQ (m:M) (B base:Nat) (po:Option Addr) (cap:Nat) (addr v:Int) (w:World) (hh:Held w B base m po cap) (hr:Rt m) (a0:inB addr 49152 49407=true) (v0:0<=v) (v1:v<=255) :
  Calls prog 261 #[.pointer (some ⟨B,0,none⟩),.int .i64 addr,.int .i64 v] w fun e w'=>bF w w' B base m.out.length (wrM m addr v) po e:=by
 have m19:w.cell? ⟨B,19,none⟩=some (.string m.work):=eM hh.box 19 _ rfl;have hf:w.frozen? ⟨B,19,none⟩=false:=frozen_of_row _ _ _ _ _ hh.box;have hlt:=hh.lt;obtain ⟨q0,q1⟩:=u7 a0;have c1:=fun w=>fS addr w
 rw [a0] at c1
 have c2:=fun w=>qO m.work 256 hr.work (by decide) (addr-49152) v (by omega) (by omega) v0 v1 w
 have HE:Hid (∀ o,bF w ((w.setCell ⟨B,19,none⟩ (.string (fK m.work (addr-49152) v))).alloc o).drew B base m.out.length (wrM m addr v) po (.returned (.bool true))):=fun o=>by
  have hg:=lG w B 19 (.string (fK m.work (addr-49152) v)) o;refine ⟨.inl ⟨{ m with work:=fK m.work (addr-49152) v },po,cap,by unfold wrM;rw [if_pos a0],rfl,hh.turn ?_ rfl hg,.inl rfl⟩,mB hg,mA hg hh.box⟩;show ((w.setCell ⟨B,19,none⟩ _).alloc o).heap[B]? = _;rw [aM _ _ (by rw [dB];exact hlt)];exact aLW hh.box _
 clear hh hr a0;generalize wrM m addr v=r at *
 generalize fK m.work (addr-49152) v=nw at *
 generalize m.work=ow at *
 go_enter func261,ntmps261
 go_wp2_with first|(go_at_call 163;refine (c1 _).mono ?_;rintro e w' ⟨rfl,hw'⟩;have hw':=hw'.symm;subst hw')|(go_at_call 273;refine (c2 _).mono ?_;rintro e w' ⟨rfl,p1,rfl⟩)
 go_ret;exact HE.out _
theorem aBR (m:M) (B base:Nat) (po:Option Addr) (cap:Nat) (addr v:Int) (w:World) (hh:Held w B base m po cap) (hr:Rt m) (b0:inB addr 49152 49407=false) (a0:inB addr 65408 65534=true) (v0:0<=v) (v1:v<=255) :
  Calls prog 261 #[.pointer (some ⟨B,0,none⟩),.int .i64 addr,.int .i64 v] w fun e w'=>bF w w' B base m.out.length (wrM m addr v) po e:=by
 have m20:w.cell? ⟨B,20,none⟩=some (.string m.high):=eM hh.box 20 _ rfl;have hf:w.frozen? ⟨B,20,none⟩=false:=frozen_of_row _ _ _ _ _ hh.box;have hlt:=hh.lt;obtain ⟨q0,q1⟩:=u7 a0;have c1:=fun w=>fS addr w
 have c3:=fun w=>gR addr w
 rw [b0] at c1
 rw [a0] at c3
 have c2:=fun w=>qO m.high 127 hr.high (by decide) (addr-65408) v (by omega) (by omega) v0 v1 w
 have HE:Hid (∀ o,bF w ((w.setCell ⟨B,20,none⟩ (.string (fK m.high (addr-65408) v))).alloc o).drew B base m.out.length (wrM m addr v) po (.returned (.bool true))):=fun o=>by
  have hg:=lG w B 20 (.string (fK m.high (addr-65408) v)) o;refine ⟨.inl ⟨{ m with high:=fK m.high (addr-65408) v },po,cap,by unfold wrM;rw [if_neg (by rw [b0];decide),if_pos a0],rfl,hh.turn ?_ rfl hg,.inl rfl⟩,mB hg,mA hg hh.box⟩;show ((w.setCell ⟨B,20,none⟩ _).alloc o).heap[B]? = _;rw [aM _ _ (by rw [dB];exact hlt)];exact aLX hh.box _
 clear hh hr a0 b0;generalize wrM m addr v=r at *
 generalize fK m.high (addr-65408) v=nw at *
 generalize m.high=ow at *
 go_enter func261,ntmps261
 go_wp2_with first|(go_at_call 163;refine (c1 _).mono ?_;rintro e w' ⟨rfl,hw'⟩;have hw':=hw'.symm;subst hw')|(go_at_call 164;refine (c3 _).mono ?_;rintro e w' ⟨rfl,hw'⟩;have hw':=hw'.symm;subst hw')|(go_at_call 273;refine (c2 _).mono ?_;rintro e w' ⟨rfl,p1,rfl⟩)
 go_ret;exact HE.out _
theorem aBS (m:M) (B base:Nat) (po:Option Addr) (cap:Nat) (v:Int) (w:World) (hh:Held w B base m po cap) (hr:Rt m) (hl:100<=m.out.length) :
  Calls prog 261 #[.pointer (some ⟨B,0,none⟩),.int .i64 65281,.int .i64 v] w fun e w'=>bF w w' B base m.out.length (wrM m 65281 v) po e:=by
 have m21:w.cell? ⟨B,21,none⟩=some (.slice po m.out.length cap):=eM hh.box 21 _ rfl;have c1:=fun w=>fS 65281 w
 have c3:=fun w=>gR 65281 w
 have HE:Hid (bF w w B base m.out.length (wrM m 65281 v) po (.returned (.bool false))):=⟨.inr ⟨by unfold wrM;rw [if_neg (by decide),if_neg (by decide),if_pos rfl,if_pos hl],rfl,rfl⟩,Only.refl _ _ _,kept_refl _ _ _⟩;have b0:inB 65281 49152 49407=false:=by decide
 have b1:inB 65281 65408 65534=false:=by decide
 rw [b0] at c1
 rw [b1] at c3
 have ho:=hr.out;clear hh hr b0 b1;generalize wrM m 65281 v=r at *
 generalize m.out.length=n at *
 have e1:(100:Int)<=(n:Int):=by omega
 go_enter func261,ntmps261
 go_wp2_with first|(go_at_call 163;refine (c1 _).mono ?_;rintro e w' ⟨rfl,hw'⟩;have hw':=hw'.symm;subst hw')|(go_at_call 164;refine (c3 _).mono ?_;rintro e w' ⟨rfl,hw'⟩;have hw':=hw'.symm;subst hw')
 go_ret;exact HE.out
theorem xT {w:World} {B:Nat} {m:M} {po:Option Addr} {cap:Nat} (h:w.heap[B]? = some (.cells (aA m po cap) 30 (0,0))) (bank:Int) (ram:ByteArray) (rb:Int) (on:Bool) (mode:Int) :
  (((((((w.setCell ⟨B,12,none⟩ (.string m.rom)).setCell ⟨B,13,none⟩ (.int .i64 m.kind)).setCell ⟨B,14,none⟩ (.int .i64 bank)).setCell ⟨B,15,none⟩ (.string ram)).setCell ⟨B,16,none⟩ (.int .i64 rb)).setCell ⟨B,17,none⟩ (.bool on)).setCell ⟨B,18,none⟩ (.int .i64 mode)).heap[B]? = some (.cells (aA { m with bank:=bank,ram:=ram,rb:=rb,on:=on,mode:=mode } po cap) 30 (0,0)):=by
 rw [aT] at h |-
 have h12:(w.setCell ⟨B,12,none⟩ (.string m.rom)).heap[B]? = some (.cells #[.int .i64 m.ra,.int .i64 m.rf,.int .i64 m.rB,.int .i64 m.rC,.int .i64 m.rD,.int .i64 m.rE,.int .i64 m.rH,.int .i64 m.rL,.int .i64 m.sp,.int .i64 m.pc,.bool m.ime,.bool m.hal,.string m.rom,.int .i64 m.kind,.int .i64 m.bank,.string m.ram,.int .i64 m.rb,.bool m.on,.int .i64 m.mode,.string m.work,.string m.high,.slice po m.out.length cap,.int .i64 m.cyc] 30 (0,0)):=(heap_setCell_same _ _ 12 _ _ _ h).trans rfl;have h13:((w.setCell ⟨B,12,none⟩ (.string m.rom)).setCell ⟨B,13,none⟩ (.int .i64 m.kind)).heap[B]? = some (.cells #[.int .i64 m.ra,.int .i64 m.rf,.int .i64 m.rB,.int .i64 m.rC,.int .i64 m.rD,.int .i64 m.rE,.int .i64 m.rH,.int .i64 m.rL,.int .i64 m.sp,.int .i64 m.pc,.bool m.ime,.bool m.hal,.string m.rom,.int .i64 m.kind,.int .i64 m.bank,.string m.ram,.int .i64 m.rb,.bool m.on,.int .i64 m.mode,.string m.work,.string m.high,.slice po m.out.length cap,.int .i64 m.cyc] 30 (0,0)):=(heap_setCell_same _ _ 13 _ _ _ h12).trans rfl;have h14:(((w.setCell ⟨B,12,none⟩ (.string m.rom)).setCell ⟨B,13,none⟩ (.int .i64 m.kind)).setCell ⟨B,14,none⟩ (.int .i64 bank)).heap[B]? = some (.cells #[.int .i64 m.ra,.int .i64 m.rf,.int .i64 m.rB,.int .i64 m.rC,.int .i64 m.rD,.int .i64 m.rE,.int .i64 m.rH,.int .i64 m.rL,.int .i64 m.sp,.int .i64 m.pc,.bool m.ime,.bool m.hal,.string m.rom,.int .i64 m.kind,.int .i64 bank,.string m.ram,.int .i64 m.rb,.bool m.on,.int .i64 m.mode,.string m.work,.string m.high,.slice po m.out.length cap,.int .i64 m.cyc] 30 (0,0)):=(heap_setCell_same _ _ 14 _ _ _ h13).trans rfl;have h15:((((w.setCell ⟨B,12,none⟩ (.string m.rom)).setCell ⟨B,13,none⟩ (.int .i64 m.kind)).setCell ⟨B,14,none⟩ (.int .i64 bank)).setCell ⟨B,15,none⟩ (.string ram)).heap[B]? = some (.cells #[.int .i64 m.ra,.int .i64 m.rf,.int .i64 m.rB,.int .i64 m.rC,.int .i64 m.rD,.int .i64 m.rE,.int .i64 m.rH,.int .i64 m.rL,.int .i64 m.sp,.int .i64 m.pc,.bool m.ime,.bool m.hal,.string m.rom,.int .i64 m.kind,.int .i64 bank,.string ram,.int .i64 m.rb,.bool m.on,.int .i64 m.mode,.string m.work,.string m.high,.slice po m.out.length cap,.int .i64 m.cyc] 30 (0,0)):=(heap_setCell_same _ _ 15 _ _ _ h14).trans rfl;have h16:(((((w.setCell ⟨B,12,none⟩ (.string m.rom)).setCell ⟨B,13,none⟩ (.int .i64 m.kind)).setCell ⟨B,14,none⟩ (.int .i64 bank)).setCell ⟨B,15,none⟩ (.string ram)).setCell ⟨B,16,none⟩ (.int .i64 rb)).heap[B]? = some (.cells #[.int .i64 m.ra,.int .i64 m.rf,.int .i64 m.rB,.int .i64 m.rC,.int .i64 m.rD,.int .i64 m.rE,.int .i64 m.rH,.int .i64 m.rL,.int .i64 m.sp,.int .i64 m.pc,.bool m.ime,.bool m.hal,.string m.rom,.int .i64 m.kind,.int .i64 bank,.string ram,.int .i64 rb,.bool m.on,.int .i64 m.mode,.string m.work,.string m.high,.slice po m.out.length cap,.int .i64 m.cyc] 30 (0,0)):=(heap_setCell_same _ _ 16 _ _ _ h15).trans rfl;have h17:((((((w.setCell ⟨B,12,none⟩ (.string m.rom)).setCell ⟨B,13,none⟩ (.int .i64 m.kind)).setCell ⟨B,14,none⟩ (.int .i64 bank)).setCell ⟨B,15,none⟩ (.string ram)).setCell ⟨B,16,none⟩ (.int .i64 rb)).setCell ⟨B,17,none⟩ (.bool on)).heap[B]? = some (.cells #[.int .i64 m.ra,.int .i64 m.rf,.int .i64 m.rB,.int .i64 m.rC,.int .i64 m.rD,.int .i64 m.rE,.int .i64 m.rH,.int .i64 m.rL,.int .i64 m.sp,.int .i64 m.pc,.bool m.ime,.bool m.hal,.string m.rom,.int .i64 m.kind,.int .i64 bank,.string ram,.int .i64 rb,.bool on,.int .i64 m.mode,.string m.work,.string m.high,.slice po m.out.length cap,.int .i64 m.cyc] 30 (0,0)):=(heap_setCell_same _ _ 17 _ _ _ h16).trans rfl
 have h18:(((((((w.setCell ⟨B,12,none⟩ (.string m.rom)).setCell ⟨B,13,none⟩ (.int .i64 m.kind)).setCell ⟨B,14,none⟩ (.int .i64 bank)).setCell ⟨B,15,none⟩ (.string ram)).setCell ⟨B,16,none⟩ (.int .i64 rb)).setCell ⟨B,17,none⟩ (.bool on)).setCell ⟨B,18,none⟩ (.int .i64 mode)).heap[B]? = some (.cells #[.int .i64 m.ra,.int .i64 m.rf,.int .i64 m.rB,.int .i64 m.rC,.int .i64 m.rD,.int .i64 m.rE,.int .i64 m.rH,.int .i64 m.rL,.int .i64 m.sp,.int .i64 m.pc,.bool m.ime,.bool m.hal,.string m.rom,.int .i64 m.kind,.int .i64 bank,.string ram,.int .i64 rb,.bool on,.int .i64 mode,.string m.work,.string m.high,.slice po m.out.length cap,.int .i64 m.cyc] 30 (0,0)):=(heap_setCell_same _ _ 18 _ _ _ h17).trans rfl;exact h18
theorem dR {w w':World} {B i:Nat} {v:Value} (h:w.grownBy w' (some B)):w.grownBy (w'.setCell ⟨B,i,none⟩ v) (some B) :=
 ⟨h.os,h.tape,h.output,by rw [dB];exact h.size,fun k hk hne=>by rw [Below.heap_setCell _ _ _ _ (fun e=>hne (by rw [e])),h.block k hk hne]⟩
theorem aBT (m:M) (B base:Nat) (po:Option Addr) (cap:Nat) (addr v:Int) (w:World) (hh:Held w B base m po cap) (hr:Rt m) (b0:inB addr 49152 49407=false) (b1:inB addr 65408 65534=false) (b2:¬ addr=65281) (a0:inB addr 0 65535=true) (v0:inB v 0 255=true) :
  Calls prog 261 #[.pointer (some ⟨B,0,none⟩),.int .i64 addr,.int .i64 v] w fun e w'=>bF w w' B base m.out.length (wrM m addr v) po e:=by
 have n12:w.cell? ⟨B,12,none⟩=some (.string m.rom):=eM hh.box 12 _ rfl;have n13:w.cell? ⟨B,13,none⟩=some (.int .i64 m.kind):=eM hh.box 13 _ rfl;have n14:w.cell? ⟨B,14,none⟩=some (.int .i64 m.bank):=eM hh.box 14 _ rfl;have n15:w.cell? ⟨B,15,none⟩=some (.string m.ram):=eM hh.box 15 _ rfl;have n16:w.cell? ⟨B,16,none⟩=some (.int .i64 m.rb):=eM hh.box 16 _ rfl;have n17:w.cell? ⟨B,17,none⟩=some (.bool m.on):=eM hh.box 17 _ rfl;have n18:w.cell? ⟨B,18,none⟩=some (.int .i64 m.mode):=eM hh.box 18 _ rfl;have c1:=fun w=>fS addr w
 have c3:=fun w=>gR addr w
 have cw:=CartU.sD m.rom m.kind m.bank m.ram m.rb m.on m.mode addr v w hr.rom hr.ram hr.cart a0 v0;have HE:Hid (∀ w1,Below w.heap.size w w1->bF w (((((((w1.setCell ⟨B,12,none⟩ (.string m.rom)).setCell ⟨B,13,none⟩ (.int .i64 m.kind)).setCell ⟨B,14,none⟩ (.int .i64 (cN m.kind m.bank addr v))).setCell ⟨B,15,none⟩ (.string (dU m.kind m.ram m.rb m.on m.mode addr v))).setCell ⟨B,16,none⟩ (.int .i64 (wRb m.kind m.rb addr v))).setCell ⟨B,17,none⟩ (.bool (wOn m.kind m.on addr v))).setCell ⟨B,18,none⟩ (.int .i64 (cO m.kind m.mode addr v))) B base m.out.length (wrM m addr v) po (.returned (.bool true))):=fun w1 hb=>by
  have hg0:w.grownBy w1 (some B):=⟨hb.os,hb.tape,hb.output,hb.size,fun k hk _=>hb.block k hk⟩;have hg:=dR (i:=18) (v:=.int .i64 (cO m.kind m.mode addr v)) (dR (i:=17) (v:=.bool (wOn m.kind m.on addr v)) (dR (i:=16) (v:=.int .i64 (wRb m.kind m.rb addr v)) (dR (i:=15) (v:=.string (dU m.kind m.ram m.rb m.on m.mode addr v)) (dR (i:=14) (v:=.int .i64 (cN m.kind m.bank addr v)) (dR (i:=13) (v:=.int .i64 m.kind) (dR (i:=12) (v:=.string m.rom) hg0))))));refine ⟨.inl ⟨{ m with bank:=cN m.kind m.bank addr v,ram:=dU m.kind m.ram m.rb m.on m.mode addr v,rb:=wRb m.kind m.rb addr v,on:=wOn m.kind m.on addr v,mode:=cO m.kind m.mode addr v },po,cap,by unfold wrM;rw [if_neg (by rw [b0];decide),if_neg (by rw [b1];decide),if_neg b2],rfl,hh.turn ?_ rfl hg,.inl rfl⟩,mB hg,mA hg hh.box⟩;exact xT ((hb.block B hh.lt).trans hh.box) _ _ _ _ _
 have HX:Hid (∀ w1,Below w.heap.size w w1->∀ i,w1.cell? ⟨B,i,none⟩=w.cell? ⟨B,i,none⟩/\w1.frozen? ⟨B,i,none⟩=false):=fun w1 hb i=>⟨hb.cell (p:=⟨B,i,none⟩) hh.lt,by rw [World.frozen?_of_block (a:=⟨B,i,none⟩) (hb.block B hh.lt)];exact frozen_of_row _ _ _ _ _ hh.box⟩
 rw [b0] at c1
 rw [b1] at c3
 have b2':(addr == 65281)=false:=by simpa using b2
 clear hh hr b0 b1 b2 a0 v0;unfold wrote at cw
 generalize wrM m addr v=r at *
 generalize cN m.kind m.bank addr v=x14 at *
 generalize dU m.kind m.ram m.rb m.on m.mode addr v=x15 at *
 generalize wRb m.kind m.rb addr v=x16 at *
 generalize wOn m.kind m.on addr v=x17 at *
 generalize cO m.kind m.mode addr v=x18 at *
 generalize m.rom=rom at *
 generalize m.kind=kind at *
 generalize m.bank=bank at *
 generalize m.ram=ram at *
 generalize m.rb=rb at *
 generalize m.on=on at *
 generalize m.mode=mode at *
 go_enter func261,ntmps261
 go_wp2_with first|(go_at_call 163;refine (c1 _).mono ?_;rintro e w' ⟨rfl,hw'⟩;have hw':=hw'.symm;subst hw')|(go_at_call 164;refine (c3 _).mono ?_;rintro e w' ⟨rfl,hw'⟩;have hw':=hw'.symm;subst hw')|(go_at_call 274;refine cw.mono ?_;rintro e w1 ⟨rfl,hb1⟩;have HB1:Hid (Below w.heap.size w w1):=hb1;clear hb1;have k12:=(HX.out w1 HB1.out 12).1.trans n12;have k13:=(HX.out w1 HB1.out 13).1.trans n13;have k14:=(HX.out w1 HB1.out 14).1.trans n14;have k15:=(HX.out w1 HB1.out 15).1.trans n15;have k16:=(HX.out w1 HB1.out 16).1.trans n16;have k17:=(HX.out w1 HB1.out 17).1.trans n17;have k18:=(HX.out w1 HB1.out 18).1.trans n18;have l12:=(HX.out w1 HB1.out 12).2;have l13:=(HX.out w1 HB1.out 13).2;have l14:=(HX.out w1 HB1.out 14).2;have l15:=(HX.out w1 HB1.out 15).2;have l16:=(HX.out w1 HB1.out 16).2;have l17:=(HX.out w1 HB1.out 17).2;have l18:=(HX.out w1 HB1.out 18).2)
 go_ret;exact HE.out _ HB1.out
theorem aEQ:(prog.info? 2).map (fun i=>(i.zero,i.size,i.bytes))=some (some (.int .i64 0),1,8):=by kernel_rfl
theorem info_parts {P:Program} {t:TypeId} {z:Value} {s b:Nat} (h:(P.info? t).map (fun i=>(i.zero,i.size,i.bytes))=some (some z,s,b)):∃ i,P.info? t=some i/\i.zero=some z/\i.size=s/\i.bytes=b:=by
 cases e:P.info? t with
 | none=>rw [e] at h;cases h
 | some i =>
  rw [e] at h
  simp only [Option.map_some,Option.some.injEq,Prod.mk.injEq] at h
  exact ⟨i,rfl,h.1,h.2.1,h.2.2⟩
theorem aBU {w:World} {B:Nat} {m:M} {po:Option Addr} {cap:Nat} (h:w.heap[B]? = some (.cells (aA m po cap) 30 (0,0))) (L:List Int) (n:Nat) (hn:n=L.length) (po':Option Addr) (cap':Nat):(w.setCell ⟨B,21,none⟩ (.slice po' n cap')).heap[B]? = some (.cells (aA { m with out:=L } po' cap') 30 (0,0)):=by
 subst hn;rw [aT] at h |-;exact (heap_setCell_same _ _ _ _ _ _ h).trans rfl
theorem aLY {w:World} {base n:Nat} {v:Value} {xs:List Value} (h:w.ownsRow base 2 1 v (n+1) xs):∃ g cap,v=.slice (some ⟨g,0,none⟩) (n+1) cap:=by
 rcases h.2 with ⟨_,h0⟩|⟨g,cap,cur,hv,_⟩
 ·omega
 ·exact ⟨g,cap,hv⟩
theorem sT (L:List Int) (v:Int):dJ (L ++ [v])=dJ L ++ [.int .i64 v]:=by simp [dJ]
theorem aHG (m:M) (B base:Nat) (po:Option Addr) (cap:Nat) (v:Int) (w:World) (hh:Held w B base m po cap) (hr:Rt m) (hl:¬ 100<=m.out.length) (hbase:base<=w.heap.size) :
  Calls prog 261 #[.pointer (some ⟨B,0,none⟩),.int .i64 65281,.int .i64 v] w fun e w'=>bF w w' B base m.out.length (wrM m 65281 v) po e:=by
 have m21:w.cell? ⟨B,21,none⟩=some (.slice po m.out.length cap):=eM hh.box 21 _ rfl;have hlt:=hh.lt;have c1:=fun w=>fS 65281 w
 have c3:=fun w=>gR 65281 w
 obtain ⟨i0,hi,hz0,hz1,hz2⟩:=info_parts aEQ;have HR:Hid (w.ownsRow base 2 1 (.slice po m.out.length cap) m.out.length (dJ m.out)):=hh.row;have HE:Hid (∀ (o:Obj) (v':Value) (w6:World),w6.ownsRow base 2 1 v' (m.out.length+1) (dJ m.out ++ [.int .i64 v])->(w.alloc o).grownBy w6 (Value.slice po m.out.length cap).ownBlock->(v'.ownBlock=(Value.slice po m.out.length cap).ownBlock \/ ∃ g,v'.ownBlock=some g/\w.heap.size+1<=g) ->
   (∀ b q n' cap' xs',((Value.slice q n' cap').ownBlock=(Value.slice po m.out.length cap).ownBlock->n'<=m.out.length)->(w.alloc o).ownsRow b 2 1 (.slice q n' cap') n' xs'->w6.ownsRow b 2 1 (.slice q n' cap') n' xs') ->
   (w6.cell? ⟨B,21,none⟩=some (.slice po m.out.length cap)/\w6.frozen? ⟨B,21,none⟩=false)/\∀ po' cap',v'=.slice po' (m.out.length+1) cap'->bF w (w6.setCell ⟨B,21,none⟩ (.slice po' (m.out.length+1) cap')) B base m.out.length (wrM m 65281 v) po (.returned (.bool true))):=fun o v' w6 hown hg hmv hkp=>by
  have hbox:w6.heap[B]? = some (.cells (aA m po cap) 30 (0,0)):=by
   rw [hg.block B (by simp;omega) (fun e=>hh.ne e.symm),aM _ _ hlt];exact hh.box
  refine ⟨⟨eM hbox 21 _ rfl,frozen_of_row _ _ _ _ _ hbox⟩,fun po' cap' hv=>?_⟩;subst hv;have hne:=dK hown hbox;have hl1:m.out.length+1=(m.out ++ [v]).length:=by simp
  refine ⟨.inl ⟨{ m with out:=m.out ++ [v] },po',cap',by unfold wrM;rw [if_neg (by decide),if_neg (by decide),if_pos rfl,if_neg hl],rfl,⟨aBU hbox (m.out ++ [v]) _ hl1 po' cap',?_,?_⟩,?_⟩,?_,?_⟩
  ·show (w6.setCell _ _).ownsRow base 2 1 (.slice po' (m.out ++ [v]).length cap') (m.out ++ [v]).length (dJ (m.out ++ [v]))
   rw [<- hl1,sT];exact hown.kept (row:=some B) ⟨rfl,rfl,rfl,by rw [dB];exact Nat.le_refl _,fun k _ hk=>Below.heap_setCell _ _ _ _ (fun e=>hk (by rw [e]))⟩ (.inr hne)
  ·show (Value.slice po' (m.out ++ [v]).length cap').ownBlock ≠ some B
   rw [<- hl1];exact hne
  ·cases po' with
   | none=>exact absurd hown.2 (by rintro (⟨_,h0⟩|⟨_,_,_,h0,_⟩);omega;cases h0)
   | some p =>
    rcases hmv with h0|⟨g,h0,h1⟩
    ·left
     cases po with
     | none=>cases h0
     | some q =>
      have hb0:p.block=q.block:=Option.some.inj h0;rcases hown.2 with ⟨hz,_⟩|⟨g1,_,_,hv1,_⟩
      ·cases hz
      ·rcases hh.row.2 with ⟨hz,_⟩|⟨g2,_,_,hv2,_⟩
       ·cases hz
       ·injection hv1 with e1;injection hv2 with e2
        cases e1;cases e2
        have e3:g1=g2:=hb0;rw [e3]
    ·right
     have hb0:p.block=g:=Option.some.inj h0;exact ⟨p,rfl,by rw [hb0];omega⟩
  rotate_left
  ·intro b q n' cap'' xs hn h
   have h2:=hkp b q n' cap'' xs (fun e=>hn (by rw [fV,fV] at e;exact e)) (h.alloc o);exact h2.kept (row:=some B) ⟨rfl,rfl,rfl,by rw [dB];exact Nat.le_refl _,fun k _ hk=>Below.heap_setCell _ _ _ _ (fun e=>hk (by rw [e]))⟩ (.inr (dK h2 hbox))
  ·have hs:=hg.size
   simp at hs
   refine ⟨hg.os,hg.tape,hg.output,by rw [dB];omega,fun k hk h1 h2=>?_⟩;rw [Below.heap_setCell _ _ _ _ h1,hg.block k (by simp;omega) (fun e=>?_),aM _ _ hk]
   cases po with
   | none=>cases e
   | some p=>exact h2 p rfl (Option.some.inj e)
 have b0:inB 65281 49152 49407=false:=by decide
 have b1:inB 65281 65408 65534=false:=by decide
 rw [b0] at c1
 rw [b1] at c3
 clear hh hr b0 b1;generalize wrM m 65281 v=r at *
 generalize dJ m.out=oc at *
 generalize m.out.length=n at *
 have e1:¬ (100:Int)<=(n:Int):=by omega
 go_enter func261,ntmps261
 go_wp2_with first|(go_at_call 163;refine (c1 _).mono ?_;rintro e w' ⟨rfl,hw'⟩;have hw':=hw'.symm;subst hw')|(go_at_call 164;refine (c3 _).mono ?_;rintro e w' ⟨rfl,hw'⟩;have hw':=hw'.symm;subst hw')|(at_builtin;refine lS rfl _ _ 28 rfl base 2 i0 (.int .i64 0) 1 8 underlying28 hi hz0 hz1 hz2 rfl (by decide) _ _ _ rfl (HR.out.alloc _) ⟨w.heap.size,0,none⟩ 1 1 [.int .i64 v] rfl rfl ?c1 ?c2 ?c3 ?c4 ?c5 (by decide) ?_)
 case c1 =>
  intro j u hj
  match j,hj with
  | 0,hj=>simp at hj;subst hj;simp [Addr.add]
 case c2=>intro u hu;simp at hu;subst hu;rfl
 case c3=>unfold maxLen;omega
 case c4=>omega
 case c5=>simp;omega
 intro v' w6 hown' hgrow hmv' hkp';obtain ⟨⟨k1,k2⟩,HF⟩:=HE.out _ v' w6 hown' hgrow hmv' hkp';obtain ⟨g',cap',rfl⟩:=aLY hown';have HF:Hid (bF w (w6.setCell ⟨B,21,none⟩ (.slice (some ⟨g',0,none⟩) (n+1) cap')) B base n r po (.returned (.bool true))):=HF _ _ rfl;clear HE hown' hgrow hmv' hkp';go_wp2;go_ret;exact HF.out
theorem dV (m:M) (B base:Nat) (po:Option Addr) (cap:Nat) (addr v:Int) (w:World) (hh:Held w B base m po cap) (hr:Rt m) (a0:inB addr 0 65535=true) (v0:inB v 0 255=true) (hbase:base<=w.heap.size) :
  Calls prog 261 #[.pointer (some ⟨B,0,none⟩),.int .i64 addr,.int .i64 v] w fun e w'=>bF w w' B base m.out.length (wrM m addr v) po e:=by
 obtain ⟨u0,u1⟩:=u7 v0
 cases h1:inB addr 49152 49407 with
 | true=>exact aBQ m B base po cap addr v w hh hr h1 u0 u1
 | false =>
  cases h2:inB addr 65408 65534 with
  | true=>exact aBR m B base po cap addr v w hh hr h1 h2 u0 u1
  | false =>
   by_cases h3:addr=65281
   ·subst h3
    by_cases h4:100<=m.out.length
    ·exact aBS m B base po cap v w hh hr h4
    ·exact aHG m B base po cap v w hh hr h4 hbase
   ·exact aBT m B base po cap addr v w hh hr h1 h2 h3 a0 v0
end Busw
namespace Busx
open Go.Deep
open Signed (inB aG aB aC aE)
open Carts CartK CartL CartM CartP CartR CartW CartX CartY Outs Mach MachT MachO MachK MachB Busw
def Sl (w:World) (po:Option Addr) (L:List Int) (cap:Nat):Prop:=(po=none/\L=[]/\cap=0) \/ ∃ b off,po=some ⟨b,off,none⟩/\∀ i (h:i<L.length),b<w.heap.size/\w.cell? ⟨b,off+i,none⟩=some (.int .i64 L[i])
theorem Sl.below {w w':World} {po:Option Addr} {L:List Int} {cap:Nat} (h:Sl w po L cap) (hb:Below w.heap.size w w'):Sl w' po L cap:=by
 rcases h with h|⟨b,off,rfl,hc⟩
 ·exact .inl h
 ·exact .inr ⟨b,off,rfl,fun i hi=>⟨Nat.lt_of_lt_of_le (hc i hi).1 hb.size,(hb.cell (p:=⟨b,_,none⟩) (hc i hi).1).trans (hc i hi).2⟩⟩
theorem Sl.row {w:World} {po:Option Addr} {L:List Int} {cap:Nat} (h:Sl w po L cap):Row w po L:=by
 rcases h with ⟨_,h,_⟩|⟨b,off,h1,h2⟩
 ·exact .inl h
 ·by_cases he:L=[]
  ·exact .inl he
  ·exact .inr ⟨b,off,h1,(h2 0 (List.length_pos_iff.2 he)).1,fun i hi=>(h2 i hi).2⟩
theorem aHH (po:Option Addr) (L:List Int) (cap:Nat) (w:World) (h:Sl w po L cap) (hlen:L.length<=1048576) :
  Calls prog 38 #[.slice po L.length cap] w fun e w'=>(∃ po' cap',e=.returned (.slice po' L.length cap')/\w'.ownsRow w.heap.size 2 1 (.slice po' L.length cap') L.length (dJ L))/\Below w.heap.size w w':=by
 obtain ⟨i0,hi,hz0,hz1,hz2⟩:=Busw.info_parts Busw.aEQ;have hnil:=fun (w:World) (a:Option Addr) (n c:Nat)=>Lib.run_eql_slice_nil (P:=prog) w 28 2 a n c 0 0 underlying28
 rcases h with ⟨rfl,rfl,rfl⟩|⟨b,off,rfl,hc⟩
 ·have HR:Hid (w.ownsRow w.heap.size 2 1 (.slice none 0 0) 0 (dJ [])):=World.ownsRow_nil _ _ _ _
  go_enter func38,ntmps38
  go_wp2;go_ret;exact ⟨⟨none,0,rfl,HR.out⟩,Below.refl _ _⟩
 ·have HC:Hid (∀ (o:Obj) j u,(dJ L)[j]? = some u->(w.alloc o).cell? ((⟨b,off,none⟩ : Addr).add j)=some u):=fun o j u hu=>by
   unfold dJ at hu
   rw [List.getElem?_map] at hu
   obtain ⟨z,hz,rfl⟩:=Option.map_eq_some_iff.1 hu;obtain ⟨hj,rfl⟩:=List.getElem?_eq_some_iff.1 hz;have e:(⟨b,off,none⟩ : Addr).add j=⟨b,off+j,none⟩:=by unfold Addr.add;split <;> simp_all
   rw [e];exact (((Below.refl _ w).alloc (Nat.le_refl _) o).cell (p:=⟨b,off+j,none⟩) (hc j hj).1).trans (hc j hj).2
  have H1:Hid (∀ u ∈ dJ L,u.oneCell'=true):=fun u hu=>by
   obtain ⟨z,_,rfl⟩:=List.mem_map.1 hu;rfl
  have HL:Hid ((dJ L).length=L.length*1):=by show _=_;simp [dJ]
  have R0:Hid ((w.alloc (.cells #[] 2)).ownsRow w.heap.size 2 1 (.slice (some ⟨w.heap.size,0,none⟩) 0 0) 0 []):=World.ownsRow_lit w #[] 0 (Nat.le_refl _) (Nat.zero_le _) rfl;clear hc;generalize dJ L=oc at *
  generalize L.length=n at *
  go_enter func38,ntmps38
  go_wp2_with (at_builtin;refine wpList_append_own _ rfl _ _ 28 rfl w.heap.size 2 i0 (.int .i64 0) 1 8 underlying28 hi hz0 hz1 hz2 rfl (by decide) _ _ _ rfl R0.out ⟨b,off,none⟩ n cap oc rfl HL.out ?c1 ?c2 ?c3 ?c4 ?c5 ?_)
  case c1=>exact HC.out _
  case c2=>exact H1.out
  case c3=>unfold maxLen;omega
  case c4=>omega
  case c5=>simp
  intro v' w6 hown' hgrow _;have B6:Hid (Below w.heap.size w w6):=((Below.refl _ w).alloc (Nat.le_refl _) _).grown hgrow (by simp) (fun k ek=>by have:=(R0.out.lt k ek).1;omega);obtain ⟨po',cap',rfl⟩ : ∃ po' cap',v'=.slice po' n cap':=by
   rcases hown'.2 with ⟨rfl,h0⟩|⟨g,cap',cur,hv,_⟩
   ·exact ⟨none,0,by rw [h0]⟩
   ·exact ⟨_,_,hv⟩
  have R6:Hid (w6.ownsRow w.heap.size 2 1 (.slice po' n cap') n oc):=hown';clear hown' hgrow;go_wp2;go_ret;exact ⟨⟨po',cap',rfl,R6.out⟩,B6.out⟩
def Z0:M:=⟨0,0,0,0,0,0,0,0,0,0,false,false,⟨#[]⟩,0,0,⟨#[]⟩,0,false,0,⟨#[]⟩,⟨#[]⟩,[],0⟩
theorem fM (w:World):(zeroValue 30).run prog w=.ok (.agg (aA Z0 none 0)) w:=by rw [aT];kernel_rfl
theorem aV (m:M) (po:Option Addr) (cap:Nat):(aA m po cap).size=23:=by rw [aT];rfl
theorem dS (m:M) (po:Option Addr) (cap:Nat):(aA m po cap).all (·.oneCell')=true:=by rw [aT];simp [Value.oneCell']
theorem bGX:(prog.info? 30).map (·.size)=some 23:=by kernel_rfl
theorem aP (m:M) (po:Option Addr) (cap:Nat):(prog.info? 30).map (·.size)=some (aA m po cap).size:=by rw [aV];exact bGX
def lT (m:M):Bool:=okM m.ra m.rf m.rB m.rC m.rD m.rE m.rH m.rL m.sp m.pc (okB m.rom m.kind m.bank m.ram m.rb m.on m.mode) m.work.size m.high.size m.out m.cyc
structure Sm (m:M):Prop where
 rom:m.rom.size<=maxLen
 ram:m.ram.size<=maxLen
 work:m.work.size<=1048576
 high:m.high.size<=1048576
 out:m.out.length<=1048576
theorem xU (m:M) (po:Option Addr) (cap:Nat) (w:World) (h:Sm m) (hN:Sl w po m.out cap):Calls prog 37 #[.agg (aA m po cap)] w fun e w'=>e=.returned (.bool (lT m))/\Below w.heap.size w w':=by
 rw [aT];exact aGY m.ra m.rf m.rB m.rC m.rD m.rE m.rH m.rL m.sp m.pc m.ime m.hal m.rom m.kind m.bank m.ram m.rb m.on m.mode m.work m.high po m.out cap m.cyc w h.rom h.ram h.work h.high hN.row h.out
theorem xV (m:M) (po:Option Addr) (cap:Nat) (w:World) (h:Sm m) (hN:Sl w po m.out cap):Calls prog 19 #[.agg (aA m po cap)] w fun e w'=>e=.returned (.bool (lT m))/\Below w.heap.size w w':=by
 rw [aT];exact aGZ m.ra m.rf m.rB m.rC m.rD m.rE m.rH m.rL m.sp m.pc m.ime m.hal m.rom m.kind m.bank m.ram m.rb m.on m.mode m.work m.high po m.out cap m.cyc w h.rom h.ram h.work h.high hN.row h.out
theorem aYT {m:M} (h:lT m=true) (hs:Sm m):Rt m:=by
 have p:=aHF h;refine ⟨p.1,p.2.1,p.2.2,?_,hs.rom,hs.ram⟩;unfold lT okM at h
 simp only [Bool.and_eq_true,decide_eq_true_eq] at h
 exact h.1.1.1.2
theorem bS {P:Program} {fn:Func} {p q:Tmp} {ty:TypeId} (h:fn.results=#[.cell p ty,.tmp q]) (tmps:Array Value) (w:World) (g:Nat) (t:TypeId) (cs:Array Value) (fr:Nat × Nat) (d:TypeDesc) (v:Value)
  (hp:tmps.getD p undef=.pointer (some ⟨g,0,none⟩)) (hq:tmps.getD q undef=v) (hg:w.heap[g]? = some (.cells cs t fr))
  (hu:P.underlying ty=some d) (hd:(match d with|.struct _|.array _ _=>true|_=>false)=true) (hi:(P.info? ty).map (·.size)=some cs.size) :
  (results fn tmps).run P w=.ok (.tuple #[.agg cs,v]) w:=MachN.bS h tmps w g t cs fr d v hp hq hg hu hd hi
theorem aBV {w:World} {base n cap:Nat} {po:Option Addr} {xs:List Value} (h:w.ownsRow base 2 1 (.slice po n cap) n xs) (p:Addr) (e:po=some p):base<=p.block:=by
 subst e;rcases h.2 with ⟨h,_⟩|⟨g,c,cur,hv,hb,_⟩
 ·cases h
 ·cases hv;exact hb
theorem lay {w w1 w2:World} {m:M} {po po':Option Addr} {cap cap':Nat} (HB:Below w.heap.size w w1) (HK:w1.heap[w.heap.size]? = some (.cells (aA m po cap) 30 (0,0))) (hb2:Below w1.heap.size w1 w2) (own:w2.ownsRow w1.heap.size 2 1 (.slice po' m.out.length cap') m.out.length (dJ m.out)) :
  Held (w2.setCell ⟨w.heap.size,21,none⟩ (.slice po' m.out.length cap')) w.heap.size w.heap.size m po' cap':=by
 have hlt:w.heap.size<w1.heap.size:=(zLo HK);have hbox2:w2.heap[w.heap.size]? = some (.cells (aA m po cap) 30 (0,0)):=(hb2.block _ hlt).trans HK;have hne:=dK own hbox2;refine ⟨aBU hbox2 m.out _ rfl po' cap',?_,hne⟩;exact (World.ownsRow.mono own HB.size).kept (row:=some w.heap.size) ⟨rfl,rfl,rfl,by rw [Busw.dB];exact Nat.le_refl _,fun k _ hk=>Below.heap_setCell _ _ _ _ (fun e=>hk (by rw [e]))⟩ (.inr hne)
theorem cH (w:World) (B:Nat) (cs:Array Value):w.grownBy (w.setRow B cs) (some B) :=
 ⟨rfl,rfl,rfl,by simp [World.setRow],fun k _ hk=>by
  have hne:¬ B=k:=fun e=>hk (by rw [e])
  simp [World.setRow,Array.getElem?_modify,hne]⟩
end Busx
namespace MachA
open Go.Deep
open Signed (inB aG aB aC aE)
open Carts CartK CartL CartM CartR CartX Outs Mach MachT MachO MachK MachB
def iC (pc bank n:Int):Int:=if pc<256 then 0 else if pc<512 then bank%n else -1
theorem xW (ra rf rB rC rD rE rH rL sp pc:Int) (ime hal:Bool) (rom:ByteArray) (kind bank:Int) (ram:ByteArray) (rb:Int) (on:Bool) (mode:Int) (work high:ByteArray) (po:Option Addr) (L:List Int) (cap:Nat) (cyc:Int) (B:Nat) (w:World) (kB:w.heap[B]? = some (.cells #[.int .i64 ra,.int .i64 rf,.int .i64 rB,.int .i64 rC,.int .i64 rD,.int .i64 rE,.int .i64 rH,.int .i64 rL,.int .i64 sp,.int .i64 pc,.bool ime,.bool hal,.string rom,.int .i64 kind,.int .i64 bank,.string ram,.int .i64 rb,.bool on,.int .i64 mode,.string work,.string high,.slice po L.length cap,.int .i64 cyc] 30)) (n:Nat) (n0:2<=n) (n1:n<=16) (hn:rom.size=256*n) (b0:0<=bank) (b1:bank<=255) :
  Calls prog 41 #[.pointer (some ⟨B,0,none⟩)] w fun e w'=>e=.returned (.agg #[.int .i64 (iC pc bank n),.int .i64 pc])/\Below w.heap.size w w':=by
 have hlt:B<w.heap.size:=by
  rcases Nat.lt_or_ge B w.heap.size with h'|h'
  ·exact h'
  ·simp [Array.getElem?_eq_none h'] at kB
 have m9:=cel kB 9 _ rfl;have m12:=cel kB 12 _ rfl;have m13:=cel kB 13 _ rfl;have m14:=cel kB 14 _ rfl;have m15:=cel kB 15 _ rfl;have m16:=cel kB 16 _ rfl;have m17:=cel kB 17 _ rfl;have m18:=cel kB 18 _ rfl;have c3:=fun w=>mN rom kind bank ram rb on mode w n n0 n1 hn b0 b1
 obtain ⟨r,hr⟩ : ∃ r,r=iC pc bank n:=⟨_,rfl⟩
 have HR:Hid (r=iC pc bank n):=hr;rw [<- hr];clear kB hn hr
 by_cases h1:pc<256
 ·have e1:r=0:=by rw [HR.out];unfold iC;rw [if_pos h1]
  subst e1
  go_enter func41,ntmps41
  go_wp2;exact bodyPost_ret (v:=.agg #[.int .i64 0,.int .i64 pc]) (by simp [results,results41,go_sem]) rfl ⟨rfl,by repeat (with_reducible first|exact zRf|refine zGr ?_ _|refine below_drewN ?_ _|refine Below.drew ?_)⟩
 ·by_cases h2:pc<512
  ·have e1:bank%(n:Int)=r:=by rw [HR.out];unfold iC;rw [if_neg h1,if_pos h2]
   rw [e1] at c3
   clear e1
   go_enter func41,ntmps41
   go_wp2_with (go_at_call 81;refine (c3 _).mono ?_;rintro e w' ⟨rfl,rfl⟩)
   exact bodyPost_ret (v:=.agg #[.int .i64 r,.int .i64 pc]) (by simp [results,results41,go_sem]) rfl ⟨rfl,by repeat (with_reducible first|exact zRf|refine zGr ?_ _|refine below_drewN ?_ _|refine Below.drew ?_)⟩
  ·have e1:r = -1:=by rw [HR.out];unfold iC;rw [if_neg h1,if_neg h2]
   subst e1
   go_enter func41,ntmps41
   go_wp2;exact bodyPost_ret (v:=.agg #[.int .i64 (-1),.int .i64 pc]) (by simp [results,results41,go_sem]) rfl ⟨rfl,by repeat (with_reducible first|exact zRf|refine zGr ?_ _|refine below_drewN ?_ _|refine Below.drew ?_)⟩
theorem aHI (ra rf rB rC rD rE rH rL sp pc:Int) (ime hal:Bool) (rom:ByteArray) (kind bank:Int) (ram:ByteArray) (rb:Int) (on:Bool) (mode:Int) (work high:ByteArray) (po:Option Addr) (L:List Int) (cap:Nat) (cyc:Int) (w:World) (z1:rom.size<=maxLen) (z2:ram.size<=maxLen) (h:okB rom kind bank ram rb on mode=true) (n:Nat) (hn:eZ rom.size=n) (n0:2<=n) (n1:n<=16) (b0:0<=bank) (b1:bank<=255) :
  Calls prog 45 #[.agg #[.int .i64 ra,.int .i64 rf,.int .i64 rB,.int .i64 rC,.int .i64 rD,.int .i64 rE,.int .i64 rH,.int .i64 rL,.int .i64 sp,.int .i64 pc,.bool ime,.bool hal,.string rom,.int .i64 kind,.int .i64 bank,.string ram,.int .i64 rb,.bool on,.int .i64 mode,.string work,.string high,.slice po L.length cap,.int .i64 cyc]] w fun e w'=>e=.returned (.agg #[.int .i64 (iC pc bank n),.int .i64 pc])/\Below w.heap.size w w':=by
 have c3:=fun w=>qH rom kind bank ram rb on mode w z1 z2 h n hn n0 n1 b0 b1
 obtain ⟨r,hr⟩ : ∃ r,r=iC pc bank n:=⟨_,rfl⟩
 have HR:Hid (r=iC pc bank n):=hr;rw [<- hr];clear hn hr h z1 z2
 by_cases h1:pc<256
 ·have e1:r=0:=by rw [HR.out];unfold iC;rw [if_pos h1]
  subst e1;clear c3
  go_enter func45,ntmps45
  go_wp2;exact bodyPost_ret (v:=.agg #[.int .i64 0,.int .i64 pc]) (by simp [results,results45,go_sem]) rfl ⟨rfl,by repeat (with_reducible first|exact zRf|refine zGr ?_ _|refine below_drewN ?_ _|refine Below.drew ?_)⟩
 ·by_cases h2:pc<512
  ·have e1:bank%(n:Int)=r:=by rw [HR.out];unfold iC;rw [if_neg h1,if_pos h2]
   rw [e1] at c3
   clear e1
   go_enter func45,ntmps45
   go_wp2_with (go_at_call 89;refine (c3 _).mono ?_;rintro e w' ⟨rfl,k,rfl⟩)
   exact bodyPost_ret (v:=.agg #[.int .i64 r,.int .i64 pc]) (by simp [results,results45,go_sem]) rfl ⟨rfl,by repeat (with_reducible first|exact zRf|refine zGr ?_ _|refine below_drewN ?_ _|refine Below.drew ?_|refine Below.setCell ?_ (by simp) _)⟩
  ·have e1:r = -1:=by rw [HR.out];unfold iC;rw [if_neg h1,if_neg h2]
   subst e1;clear c3
   go_enter func45,ntmps45
   go_wp2;exact bodyPost_ret (v:=.agg #[.int .i64 (-1),.int .i64 pc]) (by simp [results,results45,go_sem]) rfl ⟨rfl,by repeat (with_reducible first|exact zRf|refine zGr ?_ _|refine below_drewN ?_ _|refine Below.drew ?_)⟩
end MachA
end Go.Proofs.YteglcgnhhoenbaaGreatDoor
