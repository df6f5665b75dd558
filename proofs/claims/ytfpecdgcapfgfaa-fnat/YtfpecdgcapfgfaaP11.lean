import Derived.Test.YtfpecdgcapfgfaaP09
import Derived.Maps.AppendAt
import Derived.Laws.AppendOwn
import Derived.Test.YtfpecdgcapfgfaaP10
import Derived.Deep.Onto
set_option linter.all false
set_option maxRecDepth 20000
set_option maxHeartbeats 8000000
open Go.ChangeShapes Go.WideShapes Go.ChangeAt Go.RowKit
open Go.Proofs.Try
namespace Go.Proofs.Ytfpecdgcapfgfaa
namespace MachB
open Go.Deep
open Signed (inB ret_int ret_bool isByte_any l1In_any)
open Carts CartK CartL CartM CartN CartR CartS CartX Outs MachT MachO MachK
def busV (rom:ByteArray) (kind bank:Int) (ram:ByteArray) (rb:Int) (on:Bool) (mode:Int) (work high:ByteArray) (addr:Int):Int :=
 if inB addr 49152 49407=true then byteAt work (addr-49152) else if inB addr 65408 65534=true then byteAt high (addr-65408) else rdV rom (bank%banks rom.size) ram (ramQ kind rb mode) on addr
theorem l6Read_any (ra rf rB rC rD rE rH rL sp pc:Int) (ime hal:Bool) (rom:ByteArray) (kind bank:Int) (ram:ByteArray) (rb:Int) (on:Bool) (mode:Int) (work high:ByteArray) (po:Option Addr) (L:List Int) (cap:Nat) (cyc:Int) (addr:Int) (w:World) (z1:rom.size<=maxLen) (h:okB rom kind bank ram rb on mode=true) (hw:work.size=256) (hh:high.size=127) (a0:0<=addr) :
  Calls prog 59 #[.agg #[.int .i64 ra,.int .i64 rf,.int .i64 rB,.int .i64 rC,.int .i64 rD,.int .i64 rE,.int .i64 rH,.int .i64 rL,.int .i64 sp,.int .i64 pc,.bool ime,.bool hal,.string rom,.int .i64 kind,.int .i64 bank,.string ram,.int .i64 rb,.bool on,.int .i64 mode,.string work,.string high,.slice po L.length cap,.int .i64 cyc],.int .i64 addr] w fun e w'=>e=.returned (.int .i64 (busV rom kind bank ram rb on mode work high addr))/\Below w.heap.size w w':=by
 have c3:=fun w=>specRead_right rom kind bank ram rb on mode addr w z1 h a0
 unfold busV
 cases h1:inB addr 49152 49407 with
 | true =>
  obtain ⟨q0,q1⟩:=of_decide_eq_true h1
  have hi:(addr-49152).toNat<work.size:=by omega
  have hb:=byteAt_wrap hi
  have i0:0<=addr-49152:=by omega
  have i1:addr-49152<(work.size:Int):=by omega
  rw [if_pos rfl]
  clear hw hh c3 h
  go_enter func59,ntmps59
  go_wp2_with (go_at_call 18;refine (l1In_any _ _ _ _).mono ?_;rintro e w' ⟨rfl,rfl⟩)
  go_ret
  exact ⟨ret_int hb,by repeat (with_reducible first|exact zRf|refine zGr ?_ _|refine below_drewN ?_ _|refine Below.drew ?_)⟩
 | false =>
  rw [if_neg (by decide)]
  cases h2:inB addr 65408 65534 with
  | true =>
   obtain ⟨q0,q1⟩:=of_decide_eq_true h2
   have hi:(addr-65408).toNat<high.size:=by omega
   have hb:=byteAt_wrap hi
   have i0:0<=addr-65408:=by omega
   have i1:addr-65408<(high.size:Int):=by omega
   rw [if_pos rfl]
   clear hw hh c3 h
   go_enter func59,ntmps59
   go_wp2_with (go_at_call 18;refine (l1In_any _ _ _ _).mono ?_;rintro e w' ⟨rfl,rfl⟩)
   go_ret
   exact ⟨ret_int hb,by repeat (with_reducible first|exact zRf|refine zGr ?_ _|refine below_drewN ?_ _|refine Below.drew ?_)⟩
  | false =>
   rw [if_neg (by decide)]
   obtain ⟨v,hv⟩ : ∃ v,v=rdV rom (bank%banks rom.size) ram (ramQ kind rb mode) on addr:=⟨_,rfl⟩
   rw [<- hv] at c3 |-
   clear hw hh h hv
   go_enter func59,ntmps59
   go_wp2_with first|(go_at_call 18;refine (l1In_any _ _ _ _).mono ?_;rintro e w' ⟨rfl,rfl⟩)|(go_at_call 85;refine (c3 _).mono ?_;rintro e w' ⟨rfl,hb⟩)
   go_ret
   exact ⟨rfl,after (by repeat (with_reducible first|exact zRf|refine zGr ?_ _|refine below_drewN ?_ _|refine Below.drew ?_)) hb⟩
theorem okM_parts {ra rf rB rC rD rE rH rL sp pc:Int} {cart:Bool} {work high:Nat} {L:List Int} {cyc:Int} (h:okM ra rf rB rC rD rE rH rL sp pc cart work high L cyc=true):cart=true/\work=256/\high=127:=by
 unfold okM at h
 simp only [Bool.and_eq_true,beq_iff_eq] at h
 exact ⟨h.1.1.1.1.1.1.2,h.1.1.1.1.1.2,h.1.1.1.1.2⟩
theorem hi47:(prog.info? 30).map (·.size)=some 23:=by kernel_rfl
end MachB
namespace Busw
open Go.Deep
open Signed (inB ret_int ret_bool isByte_any l1In_any)
open Carts CartK CartL CartM CartN CartP CartR CartW CartX CartY Outs MachT MachO MachK MachB
structure M where
 (ra rf rB rC rD rE rH rL sp pc:Int)
 (ime hal:Bool)
 (rom:ByteArray)
 (kind bank:Int)
 (ram:ByteArray)
 (rb:Int)
 (on:Bool)
 (mode:Int)
 (work high:ByteArray)
 (out:List Int)
 (cyc:Int)
@[irreducible] def cellsM (m:M) (po:Option Addr) (cap:Nat):Array Value:=#[.int .i64 m.ra,.int .i64 m.rf,.int .i64 m.rB,.int .i64 m.rC,.int .i64 m.rD,.int .i64 m.rE,.int .i64 m.rH,.int .i64 m.rL,.int .i64 m.sp,.int .i64 m.pc,.bool m.ime,.bool m.hal,.string m.rom,.int .i64 m.kind,.int .i64 m.bank,.string m.ram,.int .i64 m.rb,.bool m.on,.int .i64 m.mode,.string m.work,.string m.high,.slice po m.out.length cap,.int .i64 m.cyc]
theorem cells_def (m:M) (po:Option Addr) (cap:Nat):cellsM m po cap=#[.int .i64 m.ra,.int .i64 m.rf,.int .i64 m.rB,.int .i64 m.rC,.int .i64 m.rD,.int .i64 m.rE,.int .i64 m.rH,.int .i64 m.rL,.int .i64 m.sp,.int .i64 m.pc,.bool m.ime,.bool m.hal,.string m.rom,.int .i64 m.kind,.int .i64 m.bank,.string m.ram,.int .i64 m.rb,.bool m.on,.int .i64 m.mode,.string m.work,.string m.high,.slice po m.out.length cap,.int .i64 m.cyc]:=by unfold cellsM;rfl
def wrM (m:M) (addr v:Int):Option M :=
 if inB addr 49152 49407=true then some { m with work:=putB m.work (addr-49152) v }
 else if inB addr 65408 65534=true then some { m with high:=putB m.high (addr-65408) v }
 else if addr=65281 then (if 100<=m.out.length then none else some { m with out:=m.out ++ [v] })
 else some { m with bank:=wBank m.kind m.bank addr v,ram:=wRam m.kind m.ram m.rb m.on m.mode addr v,rb:=wRb m.kind m.rb addr v,on:=wOn m.kind m.on addr v,mode:=wMode m.kind m.mode addr v }
structure Rt (m:M):Prop where
 cart:okB m.rom m.kind m.bank m.ram m.rb m.on m.mode=true
 work:m.work.size=256
 high:m.high.size=127
 out:m.out.length<=100
 rom:m.rom.size<=maxLen
 ram:m.ram.size<=maxLen
def outC (L:List Int):List Value:=L.map (fun z=>.int .i64 z)
structure Held (w:World) (B base:Nat) (m:M) (po:Option Addr) (cap:Nat):Prop where
 box:w.heap[B]? = some (.cells (cellsM m po cap) 30 (0,0))
 row:w.ownsRow base 2 1 (.slice po m.out.length cap) m.out.length (outC m.out)
 ne:(Value.slice po m.out.length cap).ownBlock ≠ some B
theorem celM {w:World} {B:Nat} {m:M} {po:Option Addr} {cap:Nat} (h:w.heap[B]? = some (.cells (cellsM m po cap) 30 (0,0))) (i:Nat) (v:Value) (hv:(#[.int .i64 m.ra,.int .i64 m.rf,.int .i64 m.rB,.int .i64 m.rC,.int .i64 m.rD,.int .i64 m.rE,.int .i64 m.rH,.int .i64 m.rL,.int .i64 m.sp,.int .i64 m.pc,.bool m.ime,.bool m.hal,.string m.rom,.int .i64 m.kind,.int .i64 m.bank,.string m.ram,.int .i64 m.rb,.bool m.on,.int .i64 m.mode,.string m.work,.string m.high,.slice po m.out.length cap,.int .i64 m.cyc]:Array Value)[i]? = some v):w.cell? ⟨B,i,none⟩=some v:=by
 rw [cells_def] at h;exact cel h i v hv
theorem put_19 {w:World} {B:Nat} {m:M} {po:Option Addr} {cap:Nat} (h:w.heap[B]? = some (.cells (cellsM m po cap) 30 (0,0))) (s:ByteArray):(w.setCell ⟨B,19,none⟩ (.string s)).heap[B]? = some (.cells (cellsM { m with work:=s } po cap) 30 (0,0)):=by
 rw [cells_def] at h |-;exact (heap_setCell_same _ _ _ _ _ _ h).trans rfl
theorem put_20 {w:World} {B:Nat} {m:M} {po:Option Addr} {cap:Nat} (h:w.heap[B]? = some (.cells (cellsM m po cap) 30 (0,0))) (s:ByteArray):(w.setCell ⟨B,20,none⟩ (.string s)).heap[B]? = some (.cells (cellsM { m with high:=s } po cap) 30 (0,0)):=by
 rw [cells_def] at h |-;exact (heap_setCell_same _ _ _ _ _ _ h).trans rfl
structure Only (w w':World) (B:Nat) (po:Option Addr):Prop where
 os:w'.os=w.os
 tape:w'.tape=w.tape
 output:w'.output=w.output
 size:w.heap.size<=w'.heap.size
 block:∀ k,k<w.heap.size->k ≠ B->(∀ p,po=some p->k ≠ p.block)->w'.heap[k]? = w.heap[k]?
def Moved (w:World) (po po':Option Addr):Prop:=po'=po \/ ∃ p,po'=some p/\w.heap.size<=p.block
def blk (po:Option Addr):Option Nat:=po.map (·.block)
theorem blk_own (po:Option Addr) (n cap:Nat):(Value.slice po n cap).ownBlock=blk po:=by cases po <;> rfl
def Kept (w w':World) (n:Nat) (po:Option Addr):Prop:=∀ b q n' cap' xs,(blk q=blk po->n'<=n)->w.ownsRow b 2 1 (.slice q n' cap') n' xs->w'.ownsRow b 2 1 (.slice q n' cap') n' xs
def Post (w w':World) (B base n:Nat) (r:Option M) (po:Option Addr) (e:Ending):Prop :=
 ((∃ m' po' cap',r=some m'/\e=.returned (.bool true)/\Held w' B base m' po' cap'/\Moved w po po') \/ (r=none/\e=.returned (.bool false)/\w'=w))/\Only w w' B po/\Kept w w' n po
theorem row_ne {w:World} {base n B:Nat} {v:Value} {xs:List Value} {cs:Array Value} {fz:Nat × Nat} (h:w.ownsRow base 2 1 v n xs) (hb:w.heap[B]? = some (.cells cs 30 fz)):v.ownBlock ≠ some B:=by
 intro e
 rcases h.2 with ⟨rfl,_⟩|⟨g,cap,cur,rfl,_,hg,_⟩
 ·cases e
 ·cases e
  rw [hb] at hg
  cases hg
theorem alloc_kept (w:World) (o:Obj) {k:Nat} (h:k<w.heap.size):(w.alloc o).heap[k]? = w.heap[k]?:=Below.heap_alloc _ _ _ h
theorem size_set (w:World) (a:Addr) (v:Value):(w.setCell a v).heap.size=w.heap.size:=World.size_setCell ..
theorem set_grown (w:World) (B i:Nat) (v:Value) (o:Obj):w.grownBy ((w.setCell ⟨B,i,none⟩ v).alloc o).drew (some B) :=
 ⟨rfl,rfl,rfl,by show w.heap.size<=((w.setCell ⟨B,i,none⟩ v).alloc o).heap.size;rw [World.size_alloc,size_set];omega,fun k hk hne=>by
  show ((w.setCell ⟨B,i,none⟩ v).alloc o).heap[k]? = _
  rw [alloc_kept _ _ (by rw [size_set];exact hk)]
  exact Below.heap_setCell _ _ _ _ (fun e=>hne (by rw [e]))⟩
theorem put_cart {w:World} {B:Nat} {m:M} {po:Option Addr} {cap:Nat} (h:w.heap[B]? = some (.cells (cellsM m po cap) 30 (0,0))) (bank:Int) (ram:ByteArray) (rb:Int) (on:Bool) (mode:Int) :
  (((((((w.setCell ⟨B,12,none⟩ (.string m.rom)).setCell ⟨B,13,none⟩ (.int .i64 m.kind)).setCell ⟨B,14,none⟩ (.int .i64 bank)).setCell ⟨B,15,none⟩ (.string ram)).setCell ⟨B,16,none⟩ (.int .i64 rb)).setCell ⟨B,17,none⟩ (.bool on)).setCell ⟨B,18,none⟩ (.int .i64 mode)).heap[B]? = some (.cells (cellsM { m with bank:=bank,ram:=ram,rb:=rb,on:=on,mode:=mode } po cap) 30 (0,0)):=by
 rw [cells_def] at h |-
 have h12:(w.setCell ⟨B,12,none⟩ (.string m.rom)).heap[B]? = some (.cells #[.int .i64 m.ra,.int .i64 m.rf,.int .i64 m.rB,.int .i64 m.rC,.int .i64 m.rD,.int .i64 m.rE,.int .i64 m.rH,.int .i64 m.rL,.int .i64 m.sp,.int .i64 m.pc,.bool m.ime,.bool m.hal,.string m.rom,.int .i64 m.kind,.int .i64 m.bank,.string m.ram,.int .i64 m.rb,.bool m.on,.int .i64 m.mode,.string m.work,.string m.high,.slice po m.out.length cap,.int .i64 m.cyc] 30 (0,0)):=(heap_setCell_same _ _ 12 _ _ _ h).trans rfl
 have h13:((w.setCell ⟨B,12,none⟩ (.string m.rom)).setCell ⟨B,13,none⟩ (.int .i64 m.kind)).heap[B]? = some (.cells #[.int .i64 m.ra,.int .i64 m.rf,.int .i64 m.rB,.int .i64 m.rC,.int .i64 m.rD,.int .i64 m.rE,.int .i64 m.rH,.int .i64 m.rL,.int .i64 m.sp,.int .i64 m.pc,.bool m.ime,.bool m.hal,.string m.rom,.int .i64 m.kind,.int .i64 m.bank,.string m.ram,.int .i64 m.rb,.bool m.on,.int .i64 m.mode,.string m.work,.string m.high,.slice po m.out.length cap,.int .i64 m.cyc] 30 (0,0)):=(heap_setCell_same _ _ 13 _ _ _ h12).trans rfl
 have h14:(((w.setCell ⟨B,12,none⟩ (.string m.rom)).setCell ⟨B,13,none⟩ (.int .i64 m.kind)).setCell ⟨B,14,none⟩ (.int .i64 bank)).heap[B]? = some (.cells #[.int .i64 m.ra,.int .i64 m.rf,.int .i64 m.rB,.int .i64 m.rC,.int .i64 m.rD,.int .i64 m.rE,.int .i64 m.rH,.int .i64 m.rL,.int .i64 m.sp,.int .i64 m.pc,.bool m.ime,.bool m.hal,.string m.rom,.int .i64 m.kind,.int .i64 bank,.string m.ram,.int .i64 m.rb,.bool m.on,.int .i64 m.mode,.string m.work,.string m.high,.slice po m.out.length cap,.int .i64 m.cyc] 30 (0,0)):=(heap_setCell_same _ _ 14 _ _ _ h13).trans rfl
 have h15:((((w.setCell ⟨B,12,none⟩ (.string m.rom)).setCell ⟨B,13,none⟩ (.int .i64 m.kind)).setCell ⟨B,14,none⟩ (.int .i64 bank)).setCell ⟨B,15,none⟩ (.string ram)).heap[B]? = some (.cells #[.int .i64 m.ra,.int .i64 m.rf,.int .i64 m.rB,.int .i64 m.rC,.int .i64 m.rD,.int .i64 m.rE,.int .i64 m.rH,.int .i64 m.rL,.int .i64 m.sp,.int .i64 m.pc,.bool m.ime,.bool m.hal,.string m.rom,.int .i64 m.kind,.int .i64 bank,.string ram,.int .i64 m.rb,.bool m.on,.int .i64 m.mode,.string m.work,.string m.high,.slice po m.out.length cap,.int .i64 m.cyc] 30 (0,0)):=(heap_setCell_same _ _ 15 _ _ _ h14).trans rfl
 have h16:(((((w.setCell ⟨B,12,none⟩ (.string m.rom)).setCell ⟨B,13,none⟩ (.int .i64 m.kind)).setCell ⟨B,14,none⟩ (.int .i64 bank)).setCell ⟨B,15,none⟩ (.string ram)).setCell ⟨B,16,none⟩ (.int .i64 rb)).heap[B]? = some (.cells #[.int .i64 m.ra,.int .i64 m.rf,.int .i64 m.rB,.int .i64 m.rC,.int .i64 m.rD,.int .i64 m.rE,.int .i64 m.rH,.int .i64 m.rL,.int .i64 m.sp,.int .i64 m.pc,.bool m.ime,.bool m.hal,.string m.rom,.int .i64 m.kind,.int .i64 bank,.string ram,.int .i64 rb,.bool m.on,.int .i64 m.mode,.string m.work,.string m.high,.slice po m.out.length cap,.int .i64 m.cyc] 30 (0,0)):=(heap_setCell_same _ _ 16 _ _ _ h15).trans rfl
 have h17:((((((w.setCell ⟨B,12,none⟩ (.string m.rom)).setCell ⟨B,13,none⟩ (.int .i64 m.kind)).setCell ⟨B,14,none⟩ (.int .i64 bank)).setCell ⟨B,15,none⟩ (.string ram)).setCell ⟨B,16,none⟩ (.int .i64 rb)).setCell ⟨B,17,none⟩ (.bool on)).heap[B]? = some (.cells #[.int .i64 m.ra,.int .i64 m.rf,.int .i64 m.rB,.int .i64 m.rC,.int .i64 m.rD,.int .i64 m.rE,.int .i64 m.rH,.int .i64 m.rL,.int .i64 m.sp,.int .i64 m.pc,.bool m.ime,.bool m.hal,.string m.rom,.int .i64 m.kind,.int .i64 bank,.string ram,.int .i64 rb,.bool on,.int .i64 m.mode,.string m.work,.string m.high,.slice po m.out.length cap,.int .i64 m.cyc] 30 (0,0)):=(heap_setCell_same _ _ 17 _ _ _ h16).trans rfl
 have h18:(((((((w.setCell ⟨B,12,none⟩ (.string m.rom)).setCell ⟨B,13,none⟩ (.int .i64 m.kind)).setCell ⟨B,14,none⟩ (.int .i64 bank)).setCell ⟨B,15,none⟩ (.string ram)).setCell ⟨B,16,none⟩ (.int .i64 rb)).setCell ⟨B,17,none⟩ (.bool on)).setCell ⟨B,18,none⟩ (.int .i64 mode)).heap[B]? = some (.cells #[.int .i64 m.ra,.int .i64 m.rf,.int .i64 m.rB,.int .i64 m.rC,.int .i64 m.rD,.int .i64 m.rE,.int .i64 m.rH,.int .i64 m.rL,.int .i64 m.sp,.int .i64 m.pc,.bool m.ime,.bool m.hal,.string m.rom,.int .i64 m.kind,.int .i64 bank,.string ram,.int .i64 rb,.bool on,.int .i64 mode,.string m.work,.string m.high,.slice po m.out.length cap,.int .i64 m.cyc] 30 (0,0)):=(heap_setCell_same _ _ 18 _ _ _ h17).trans rfl
 exact h18
theorem set_step {w w':World} {B i:Nat} {v:Value} (h:w.grownBy w' (some B)):w.grownBy (w'.setCell ⟨B,i,none⟩ v) (some B) :=
 ⟨h.os,h.tape,h.output,by rw [size_set];exact h.size,fun k hk hne=>by rw [Below.heap_setCell _ _ _ _ (fun e=>hne (by rw [e])),h.block k hk hne]⟩
theorem info2:(prog.info? 2).map (fun i=>(i.zero,i.size,i.bytes))=some (some (.int .i64 0),1,8):=by kernel_rfl
theorem info_parts {P:Program} {t:TypeId} {z:Value} {s b:Nat} (h:(P.info? t).map (fun i=>(i.zero,i.size,i.bytes))=some (some z,s,b)):∃ i,P.info? t=some i/\i.zero=some z/\i.size=s/\i.bytes=b:=by
 cases e:P.info? t with
 | none=>rw [e] at h;cases h
 | some i =>
  rw [e] at h
  simp only [Option.map_some,Option.some.injEq,Prod.mk.injEq] at h
  exact ⟨i,rfl,h.1,h.2.1,h.2.2⟩
theorem put_21 {w:World} {B:Nat} {m:M} {po:Option Addr} {cap:Nat} (h:w.heap[B]? = some (.cells (cellsM m po cap) 30 (0,0))) (L:List Int) (n:Nat) (hn:n=L.length) (po':Option Addr) (cap':Nat):(w.setCell ⟨B,21,none⟩ (.slice po' n cap')).heap[B]? = some (.cells (cellsM { m with out:=L } po' cap') 30 (0,0)):=by
 subst hn
 rw [cells_def] at h |-;exact (heap_setCell_same _ _ _ _ _ _ h).trans rfl
theorem outC_snoc (L:List Int) (v:Int):outC (L ++ [v])=outC L ++ [.int .i64 v]:=by simp [outC]
end Busw
namespace Busx
open Go.Deep
open Signed (inB ret_int ret_bool isByte_any l1In_any)
open Carts CartK CartL CartM CartN CartP CartR CartW CartX CartY Outs MachT MachO MachK MachB Busw
def Sl (w:World) (po:Option Addr) (L:List Int) (cap:Nat):Prop:=(po=none/\L=[]/\cap=0) \/ ∃ b off,po=some ⟨b,off,none⟩/\∀ i (h:i<L.length),b<w.heap.size/\w.cell? ⟨b,off+i,none⟩=some (.int .i64 L[i])
theorem Sl.below {w w':World} {po:Option Addr} {L:List Int} {cap:Nat} (h:Sl w po L cap) (hb:Below w.heap.size w w'):Sl w' po L cap:=by
 rcases h with h|⟨b,off,rfl,hc⟩
 ·exact .inl h
 ·exact .inr ⟨b,off,rfl,fun i hi=>⟨Nat.lt_of_lt_of_le (hc i hi).1 hb.size,(hb.cell (p:=⟨b,_,none⟩) (hc i hi).1).trans (hc i hi).2⟩⟩
theorem Sl.row {w:World} {po:Option Addr} {L:List Int} {cap:Nat} (h:Sl w po L cap):Row w po L:=by
 rcases h with ⟨_,h,_⟩|⟨b,off,h1,h2⟩
 ·exact .inl h
 ·by_cases he:L=[]
  ·exact .inl he
  ·exact .inr ⟨b,off,h1,(h2 0 (List.length_pos_iff.2 he)).1,fun i hi=>(h2 i hi).2⟩
def Z0:M:=⟨0,0,0,0,0,0,0,0,0,0,false,false,⟨#[]⟩,0,0,⟨#[]⟩,0,false,0,⟨#[]⟩,⟨#[]⟩,[],0⟩
theorem zeroM (w:World):(zeroValue 30).run prog w=.ok (.agg (cellsM Z0 none 0)) w:=by rw [cells_def];kernel_rfl
theorem builtM:(prog.built 30 [])=some (cellsM Z0 none 0):=by rw [cells_def];kernel_rfl
theorem size_M (m:M) (po:Option Addr) (cap:Nat):(cellsM m po cap).size=23:=by rw [cells_def];rfl
theorem one_M (m:M) (po:Option Addr) (cap:Nat):(cellsM m po cap).all (·.oneCell')=true:=by rw [cells_def];simp [Value.oneCell']
theorem infoM:(prog.info? 30).map (·.size)=some 23:=by kernel_rfl
theorem infoMs (m:M) (po:Option Addr) (cap:Nat):(prog.info? 30).map (·.size)=some (cellsM m po cap).size:=by rw [size_M];exact infoM
def okMM (m:M):Bool:=okM m.ra m.rf m.rB m.rC m.rD m.rE m.rH m.rL m.sp m.pc (okB m.rom m.kind m.bank m.ram m.rb m.on m.mode) m.work.size m.high.size m.out m.cyc
structure Sm (m:M):Prop where
 rom:m.rom.size<=maxLen
 ram:m.ram.size<=maxLen
 work:m.work.size<=1048576
 high:m.high.size<=1048576
 out:m.out.length<=1048576
theorem specOk_M (m:M) (po:Option Addr) (cap:Nat) (w:World) (h:Sm m) (hN:Sl w po m.out cap):Calls prog 8 #[.agg (cellsM m po cap)] w fun e w'=>e=.returned (.bool (okMM m))/\Below w.heap.size w w':=by
 rw [cells_def];exact specM_any m.ra m.rf m.rB m.rC m.rD m.rE m.rH m.rL m.sp m.pc m.ime m.hal m.rom m.kind m.bank m.ram m.rb m.on m.mode m.work m.high po m.out cap m.cyc w h.rom h.ram h.work h.high hN.row h.out
theorem rt_of {m:M} (h:okMM m=true) (hs:Sm m):Rt m:=by
 have p:=okM_parts h
 refine ⟨p.1,p.2.1,p.2.2,?_,hs.rom,hs.ram⟩
 unfold okMM okM at h
 simp only [Bool.and_eq_true,decide_eq_true_eq] at h
 exact h.1.1.1.2
theorem results_two {P:Program} {fn:Func} {p q:Tmp} {ty:TypeId} (h:fn.results=#[.cell p ty,.tmp q]) (tmps:Array Value) (w:World) (g:Nat) (t:TypeId) (cs:Array Value) (fr:Nat × Nat) (d:TypeDesc) (v:Value)
  (hp:tmps.getD p undef=.pointer (some ⟨g,0,none⟩)) (hq:tmps.getD q undef=v) (hg:w.heap[g]? = some (.cells cs t fr))
  (hu:P.underlying ty=some d) (hd:(match d with|.struct _|.array _ _=>true|_=>false)=true) (hi:(P.info? ty).map (·.size)=some cs.size) :
  (results fn tmps).run P w=.ok (.tuple #[.agg cs,v]) w:=MachN.results_two h tmps w g t cs fr d v hp hq hg hu hd hi
theorem wpList_build0 {P:Program} {ops:Array Oper} {rest:List Oper} {o:Oper} {a:Act} {w:World} {Q:Exit->Act->World->Prop} (hg:o.guard=none) (t:TypeId) (ho:o.op=.build t #[]) (cs:Array Value) (hb:P.built t []=some cs) (h:wpList P ops Q rest (a.put o.dst (.agg cs)) w):wpList P ops Q (o :: rest) a w :=
 wpList_build hg t #[] ho (by simp [hb]) (by simpa [hb] using h)
theorem own_at {w:World} {base n cap:Nat} {po:Option Addr} {xs:List Value} (h:w.ownsRow base 2 1 (.slice po n cap) n xs) (p:Addr) (e:po=some p):base<=p.block:=by
 subst e
 rcases h.2 with ⟨h,_⟩|⟨g,c,cur,hv,hb,_⟩
 ·cases h
 ·cases hv;exact hb
theorem set_row_grown (w:World) (B:Nat) (cs:Array Value):w.grownBy (w.setRow B cs) (some B) :=
 ⟨rfl,rfl,rfl,by simp [World.setRow],fun k _ hk=>by
  have hne:¬ B=k:=fun e=>hk (by rw [e])
  simp [World.setRow,Array.getElem?_modify,hne]⟩
end Busx
namespace ReadJ
open HolI LenX InsX ReadI
theorem readI_agg (s:ByteArray) (a:Int):∃ (c:Int) (b:Bool) (m:Int),readI s a=.agg #[.int .i64 c,.bool b,.int .i64 m]:=by
 unfold readI zeroI
 split
 ·exact ⟨_,_,_,rfl⟩
 split
 ·split
  ·exact ⟨_,_,_,rfl⟩
  ·exact ⟨_,_,_,rfl⟩
 split
 ·exact ⟨_,_,_,rfl⟩
 ·exact ⟨_,_,_,rfl⟩
end ReadJ
namespace DrawP
open Rdr (Rd Post)
open HolI DrawI Fixa
def Ins3 (e:Ending):Prop:=∃ (c:Int) (b:Bool) (m:Int),e=.returned (.agg #[.int .i64 c,.bool b,.int .i64 m])
theorem plain_any (rb:Nat) (w:World) (h:Rd w rb) :
  Calls prog 37 #[.pointer (some ⟨rb,0,none⟩)] w fun e w'=>Ins3 e/\Post w rb w':=by
 have H:Hid (Rd w rb):=h
 clear h
 go_enter func37,ntmps37
 go_wp2_with fail
 refine (ins_any _ _ ((Post.refl H.out).alloc _).1).mono ?_
 rintro e w1 ⟨⟨c,b,m,c0,c1,hm,rfl⟩,p1⟩
 have hlt:=H.out.lt
 have BR:Hid (Box w1 w.heap.size 0 false 0):=(Box.new w 0 false 0 _).post p1 (Nat.ne_of_gt hlt)
 have PW:Hid (Post w rb w1):=((Post.refl H.out).alloc _).trans p1
 have HN:Hid (rb<w.heap.size/\rb ≠ w1.heap.size/\w.heap.size<w1.heap.size):=⟨hlt,by have:=BR.out.lt;omega,BR.out.lt⟩
 have m1:m<=9223372036854775807:=by unfold I64 at hm;simp [Lit.wf] at hm;omega
 clear hlt p1 hm
 go_upto_region 2 with fail
 have BI:Hid (Box (w1.alloc (.cells #[.int .i64 c,.bool b,.int .i64 m] 67)) w1.heap.size c b m):=Box.new _ _ _ _ _
 have BR:Hid (Box (w1.alloc (.cells #[.int .i64 c,.bool b,.int .i64 m] 67)) w.heap.size 0 false 0):=BR.out.alloc _
 have PW:Hid (Post w rb (w1.alloc (.cells #[.int .i64 c,.bool b,.int .i64 m] 67))):=PW.out.alloc _
 generalize w1.alloc (.cells #[.int .i64 c,.bool b,.int .i64 m] 67)=w2 at BI BR PW |-
 generalize w1.heap.size=ib at BI HN |-
 obtain ⟨i0,i1,i2,iff⟩:=BI.out
 obtain ⟨r0,r1,r2,rf⟩:=BR.out
 have if0:=iff 0
 have if1:=iff 1
 have if2:=iff 2
 have rf0:=rf 0
 have rf1:=rf 1
 have rf2:=rf 2
 clear iff rf
 cases b with
 | true =>
  go_wp2
  exact bodyPost_ret (v:=.agg #[.int .i64 c,.bool true,.int .i64 m]) (by simp [results,results37,go_sem,r0,r1,r2]) rfl ⟨⟨_,_,_,rfl⟩,postSet (postSet (postSet PW.out HN.out.1 (p:=⟨w.heap.size,0,none⟩) (Nat.le_refl _) _) HN.out.1 (p:=⟨w.heap.size,1,none⟩) (Nat.le_refl _) _) HN.out.1 (p:=⟨w.heap.size,2,none⟩) (Nat.le_refl _) _⟩
 | false =>
  go_wp2_with fail
  clear i0 i1 i2 if0 if1 if2 r0 r1 r2 rf0 rf1 rf2
  refine (Rdr.once_any _ _ _ PW.out.1 (by decide) (by decide)).mono ?_
  rintro e w3 ⟨⟨q,rfl⟩,p3⟩
  have BI:Hid (Box w3 ib c false m):=BI.out.post p3 (Ne.symm HN.out.2.1)
  have BR:Hid (Box w3 w.heap.size 0 false 0):=BR.out.post p3 (Nat.ne_of_gt HN.out.1)
  have PW:Hid (Post w rb w3):=PW.out.trans p3
  clear p3
  obtain ⟨i0,i1,i2,iff⟩:=BI.out
  obtain ⟨r0,r1,r2,rf⟩:=BR.out
  have if0:=iff 0
  have if1:=iff 1
  have if2:=iff 2
  have rf0:=rf 0
  have rf1:=rf 1
  have rf2:=rf 2
  clear iff rf
  cases q with
  | true =>
   go_wp2
   exact bodyPost_ret (v:=.agg #[.int .i64 c,.bool false,.int .i64 m]) (by simp [results,results37,go_sem,r0,r1,r2]) rfl ⟨⟨_,_,_,rfl⟩,postSet (postSet (postSet PW.out HN.out.1 (p:=⟨w.heap.size,0,none⟩) (Nat.le_refl _) _) HN.out.1 (p:=⟨w.heap.size,1,none⟩) (Nat.le_refl _) _) HN.out.1 (p:=⟨w.heap.size,2,none⟩) (Nat.le_refl _) _⟩
  | false =>
   go_wp2_with fail
   clear i0 i1 i2 if0 if1 if2 r0 r1 r2 rf0 rf1 rf2
   refine (Rdr.below_any _ _ _ PW.out.1 (by decide) (by decide)).mono ?_
   rintro e w4 ⟨⟨y,y0,y1,rfl⟩,p4⟩
   have BI:Hid (Box w4 ib c false m):=BI.out.post p4 (Ne.symm HN.out.2.1)
   have BR:Hid (Box w4 w.heap.size 0 false 0):=BR.out.post p4 (Nat.ne_of_gt HN.out.1)
   have PW:Hid (Post w rb w4):=PW.out.trans p4
   clear p4
   obtain ⟨i0,i1,i2,iff⟩:=BI.out
   obtain ⟨r0,r1,r2,rf⟩:=BR.out
   have if0:=iff 0
   have if1:=iff 1
   have if2:=iff 2
   have rf0:=rf 0
   have rf1:=rf 1
   have rf2:=rf 2
   clear iff rf
   rcases (show y=0 \/ y=1 \/ y=2 \/ y=3 \/ y=4 \/ 5<=y from by omega) with rfl|rfl|rfl|rfl|rfl|hy
   ·go_wp2_with fail
    clear i0 i1 i2 if0 if1 if2 r0 r1 r2 rf0 rf1 rf2
    refine (Rdr.byte_any _ _ PW.out.1).mono ?_
    rintro e w5 ⟨⟨x,x0,x1,rfl⟩,p5⟩
    have BI:Hid (Box w5 ib c false m):=BI.out.post p5 (Ne.symm HN.out.2.1)
    have BR:Hid (Box w5 w.heap.size 0 false 0):=BR.out.post p5 (Nat.ne_of_gt HN.out.1)
    have PW:Hid (Post w rb w5):=PW.out.trans p5
    clear p5
    obtain ⟨i0,i1,i2,iff⟩:=BI.out
    obtain ⟨r0,r1,r2,rf⟩:=BR.out
    have if0:=iff 0
    have if1:=iff 1
    have if2:=iff 2
    have rf0:=rf 0
    have rf1:=rf 1
    have rf2:=rf 2
    clear iff rf
    go_wp2
    exact bodyPost_ret (v:=.agg #[.int .i64 62,.bool false,.int .i64 x]) (by simp [results,results37,go_sem,r0,r1,r2]) rfl ⟨⟨_,_,_,rfl⟩,postSet (postSet (postSet PW.out HN.out.1 (p:=⟨w.heap.size,0,none⟩) (Nat.le_refl _) _) HN.out.1 (p:=⟨w.heap.size,1,none⟩) (Nat.le_refl _) _) HN.out.1 (p:=⟨w.heap.size,2,none⟩) (Nat.le_refl _) _⟩
   ·go_wp2_with fail
    clear i0 i1 i2 if0 if1 if2 r0 r1 r2 rf0 rf1 rf2
    refine (Rdr.below_any _ _ _ (PW.out.alloc _).1 (by decide) (by decide)).mono ?_
    rintro e w5 ⟨⟨q,q0,q1,rfl⟩,p5⟩
    obtain ⟨z,hc⟩ : ∃ z:Int,w5.cell? ⟨w4.heap.size,q.toNat,none⟩=some (.int .i64 z):=by
     have hl:=PW.out.1.lt
     have e:∀ i:Nat,w5.cell? ⟨w4.heap.size,i,none⟩=#[Value.int .i64 49152,.int .i64 65408,.int .i64 256,.int .i64 128,.int .i64 40960][i]?:=fun i =>
      (World.cell?_of_block (a:=⟨w4.heap.size,i,none⟩) (p5.2.block _ (by simp) (fun e=>by have:w4.heap.size=rb:=Option.some.inj e;omega))).trans (World.cell?_alloc_new _ _ _ _)
     rcases (show q=0 \/ q=1 \/ q=2 \/ q=3 \/ q=4 from by omega) with rfl|rfl|rfl|rfl|rfl
     ·exact ⟨_,e 0⟩
     ·exact ⟨_,e 1⟩
     ·exact ⟨_,e 2⟩
     ·exact ⟨_,e 3⟩
     ·exact ⟨_,e 4⟩
    have BI:Hid (Box w5 ib c false m):=(BI.out.alloc _).post p5 (Ne.symm HN.out.2.1)
    have BR:Hid (Box w5 w.heap.size 0 false 0):=(BR.out.alloc _).post p5 (Nat.ne_of_gt HN.out.1)
    have PW:Hid (Post w rb w5):=(PW.out.alloc _).trans p5
    clear p5
    obtain ⟨i0,i1,i2,iff⟩:=BI.out
    obtain ⟨r0,r1,r2,rf⟩:=BR.out
    have if0:=iff 0
    have if1:=iff 1
    have if2:=iff 2
    have rf0:=rf 0
    have rf1:=rf 1
    have rf2:=rf 2
    clear iff rf
    go_wp2
    exact bodyPost_ret (v:=.agg #[.int .i64 33,.bool false,.int .i64 z]) (by simp [results,results37,go_sem,r0,r1,r2]) rfl ⟨⟨_,_,_,rfl⟩,postSet (postSet (postSet PW.out HN.out.1 (p:=⟨w.heap.size,0,none⟩) (Nat.le_refl _) _) HN.out.1 (p:=⟨w.heap.size,1,none⟩) (Nat.le_refl _) _) HN.out.1 (p:=⟨w.heap.size,2,none⟩) (Nat.le_refl _) _⟩
   ·go_wp2
    exact bodyPost_ret (v:=.agg #[.int .i64 119,.bool false,.int .i64 0]) (by simp [results,results37,go_sem,r0,r1,r2]) rfl ⟨⟨_,_,_,rfl⟩,postSet (postSet (postSet PW.out HN.out.1 (p:=⟨w.heap.size,0,none⟩) (Nat.le_refl _) _) HN.out.1 (p:=⟨w.heap.size,1,none⟩) (Nat.le_refl _) _) HN.out.1 (p:=⟨w.heap.size,2,none⟩) (Nat.le_refl _) _⟩
   ·go_wp2
    exact bodyPost_ret (v:=.agg #[.int .i64 224,.bool false,.int .i64 1]) (by simp [results,results37,go_sem,r0,r1,r2]) rfl ⟨⟨_,_,_,rfl⟩,postSet (postSet (postSet PW.out HN.out.1 (p:=⟨w.heap.size,0,none⟩) (Nat.le_refl _) _) HN.out.1 (p:=⟨w.heap.size,1,none⟩) (Nat.le_refl _) _) HN.out.1 (p:=⟨w.heap.size,2,none⟩) (Nat.le_refl _) _⟩
   ·go_wp2_with fail
    clear i0 i1 i2 if0 if1 if2 r0 r1 r2 rf0 rf1 rf2
    refine (Rdr.below_any _ _ _ (PW.out.alloc _).1 (by decide) (by decide)).mono ?_
    rintro e w5 ⟨⟨q,q0,q1,rfl⟩,p5⟩
    obtain ⟨z,hc⟩ : ∃ z:Int,w5.cell? ⟨w4.heap.size,q.toNat,none⟩=some (.int .i64 z):=by
     have hl:=PW.out.1.lt
     have e:∀ i:Nat,w5.cell? ⟨w4.heap.size,i,none⟩=#[Value.int .i64 49152,.int .i64 65281,.int .i64 130,.int .i64 10,.int .i64 300,.int .i64 40961][i]?:=fun i =>
      (World.cell?_of_block (a:=⟨w4.heap.size,i,none⟩) (p5.2.block _ (by simp) (fun e=>by have:w4.heap.size=rb:=Option.some.inj e;omega))).trans (World.cell?_alloc_new _ _ _ _)
     rcases (show q=0 \/ q=1 \/ q=2 \/ q=3 \/ q=4 \/ q=5 from by omega) with rfl|rfl|rfl|rfl|rfl|rfl
     ·exact ⟨_,e 0⟩
     ·exact ⟨_,e 1⟩
     ·exact ⟨_,e 2⟩
     ·exact ⟨_,e 3⟩
     ·exact ⟨_,e 4⟩
     ·exact ⟨_,e 5⟩
    have BI:Hid (Box w5 ib c false m):=(BI.out.alloc _).post p5 (Ne.symm HN.out.2.1)
    have BR:Hid (Box w5 w.heap.size 0 false 0):=(BR.out.alloc _).post p5 (Nat.ne_of_gt HN.out.1)
    have PW:Hid (Post w rb w5):=(PW.out.alloc _).trans p5
    clear p5
    obtain ⟨i0,i1,i2,iff⟩:=BI.out
    obtain ⟨r0,r1,r2,rf⟩:=BR.out
    have if0:=iff 0
    have if1:=iff 1
    have if2:=iff 2
    have rf0:=rf 0
    have rf1:=rf 1
    have rf2:=rf 2
    clear iff rf
    go_wp2
    exact bodyPost_ret (v:=.agg #[.int .i64 234,.bool false,.int .i64 z]) (by simp [results,results37,go_sem,r0,r1,r2]) rfl ⟨⟨_,_,_,rfl⟩,postSet (postSet (postSet PW.out HN.out.1 (p:=⟨w.heap.size,0,none⟩) (Nat.le_refl _) _) HN.out.1 (p:=⟨w.heap.size,1,none⟩) (Nat.le_refl _) _) HN.out.1 (p:=⟨w.heap.size,2,none⟩) (Nat.le_refl _) _⟩
   ·have hne:¬ ib=w.heap.size:=Nat.ne_of_gt HN.out.2.2
    have hne2:¬ w.heap.size=ib:=Nat.ne_of_lt HN.out.2.2
    by_cases h1:192<=c
    ·by_cases h2:511<m
     ·have h2d:decide (511<m)=true:=decide_eq_true h2
      go_upto_region 17 with fail
      clear i0 i1 i2 if0 if1 if2 r0 r1 r2 rf0 rf1 rf2
      obtain ⟨z,hz⟩ : ∃ z:Int,z=m%40:=⟨_,rfl⟩
      have BR:Hid (Box (w4.setCell ⟨ib,2,none⟩ (.int .i64 (m%40))) w.heap.size 0 false 0):=BR.out.other (Nat.ne_of_lt HN.out.2.2) _
      have BI:Hid (Box (w4.setCell ⟨ib,2,none⟩ (.int .i64 (m%40))) ib c false (m%40)):=BI.out.put _
      have PW:Hid (Post w rb (w4.setCell ⟨ib,2,none⟩ (.int .i64 (m%40)))):=postSet PW.out HN.out.1 (p:=⟨ib,2,none⟩) (Nat.le_of_lt HN.out.2.2) _
      generalize w4.setCell ⟨ib,2,none⟩ (.int .i64 (m%40))=w6 at BR BI PW |-
      obtain ⟨i0,i1,i2,iff⟩:=BI.out
      obtain ⟨r0,r1,r2,rf⟩:=BR.out
      have if0:=iff 0
      have if1:=iff 1
      have if2:=iff 2
      have rf0:=rf 0
      have rf1:=rf 1
      have rf2:=rf 2
      clear iff rf
      go_wp2
      exact bodyPost_ret (v:=.agg #[.int .i64 c,.bool false,.int .i64 (m%40)]) (by simp [results,results37,go_sem,r0,r1,r2]) rfl ⟨⟨_,_,_,rfl⟩,postSet (postSet (postSet PW.out HN.out.1 (p:=⟨w.heap.size,0,none⟩) (Nat.le_refl _) _) HN.out.1 (p:=⟨w.heap.size,1,none⟩) (Nat.le_refl _) _) HN.out.1 (p:=⟨w.heap.size,2,none⟩) (Nat.le_refl _) _⟩
     ·have h2d:decide (511<m)=false:=decide_eq_false h2
      go_wp2
      exact bodyPost_ret (v:=.agg #[.int .i64 c,.bool false,.int .i64 m]) (by simp [results,results37,go_sem,r0,r1,r2]) rfl ⟨⟨_,_,_,rfl⟩,postSet (postSet (postSet PW.out HN.out.1 (p:=⟨w.heap.size,0,none⟩) (Nat.le_refl _) _) HN.out.1 (p:=⟨w.heap.size,1,none⟩) (Nat.le_refl _) _) HN.out.1 (p:=⟨w.heap.size,2,none⟩) (Nat.le_refl _) _⟩
    ·go_wp2
     exact bodyPost_ret (v:=.agg #[.int .i64 c,.bool false,.int .i64 m]) (by simp [results,results37,go_sem,r0,r1,r2]) rfl ⟨⟨_,_,_,rfl⟩,postSet (postSet (postSet PW.out HN.out.1 (p:=⟨w.heap.size,0,none⟩) (Nat.le_refl _) _) HN.out.1 (p:=⟨w.heap.size,1,none⟩) (Nat.le_refl _) _) HN.out.1 (p:=⟨w.heap.size,2,none⟩) (Nat.le_refl _) _⟩
theorem Row.post {w w':World} {rb B:Nat} {l:List UInt8} (h:Row w B l) (p:Post w rb w') (hne:B ≠ rb):Row w' B l:=h.kept (p.2.block B h.lt (fun e=>hne (Option.some.inj e)))
theorem post_of_copy {w w1 w2:World} {rb B:Nat} (h:Post w rb w1) (hr:rb<B) (hw:w.heap.size<=B) (b:∀ (Q:Nat) (w0:World),Q<=B->Below Q w0 w1->Below Q w0 w2):Post w rb w2:=by
 have b1:=b B w1 (Nat.le_refl _) zRf
 exact ⟨h.1.kept fun k hk=>b1.block k (by omega),⟨b1.os.trans h.2.os,b1.tape.trans h.2.tape,b1.output.trans h.2.output,Nat.le_trans h.2.size b1.size,fun k hk hne=>(b1.block k (by omega)).trans (h.2.block k hk hne)⟩⟩
theorem slice_lh (B N:Nat) (a c:Nat) (h1:a<=c) (h2:c<=N) (h3:a<N) (w:World):(Instr.slice 22 (.slice (some ⟨B,0,none⟩) N N) (some (.int .i64 (a:Int))) (some (.int .i64 (c:Int))) none).run prog w=.ok (.slice (some ⟨B,a,none⟩) (c-a) (N-a)) w:=by
 have hz:=hsz w
 rw [run_slice_lh (P:=prog) (w:=w) 22 (some ⟨B,0,none⟩) N N underlying22 .i64 .i64 (a:Int) (c:Int) (by omega) (by omega) (by omega)]
 have hz':(sizeOf (prog.elem 22)).run prog w=.ok 1 w:=hz
 rw [hz']
 have e:(⟨B,0,none⟩ : Addr).add a=⟨B,a,none⟩:=by unfold Addr.add;split <;> simp_all
 simp [Result.andThen,sliced,e]
 omega
theorem slice_l (B N:Nat) (a:Nat) (h3:a<N) (w:World):(Instr.slice 22 (.slice (some ⟨B,0,none⟩) N N) (some (.int .i64 (a:Int))) none none).run prog w=.ok (.slice (some ⟨B,a,none⟩) (N-a) (N-a)) w:=by
 have hz:=hsz w
 rw [run_slice_l (P:=prog) (w:=w) 22 (some ⟨B,0,none⟩) N N underlying22 .i64 (a:Int) (by omega) (by omega)]
 have hz':(sizeOf (prog.elem 22)).run prog w=.ok 1 w:=hz
 rw [hz']
 have e:(⟨B,0,none⟩ : Addr).add a=⟨B,a,none⟩:=by unfold Addr.add;split <;> simp_all
 simp [Result.andThen,sliced,e]
 omega
theorem add_at (B j:Nat):(⟨B,1,none⟩ : Addr).add j=⟨B,j+1,none⟩:=by
 have e0:(⟨B,1,none⟩ : Addr).add j=⟨B,1+j,none⟩:=by unfold Addr.add;split <;> simp_all
 rw [e0,Nat.add_comm]
theorem str_tail {w:World} {B:Nat} {l:List UInt8} (h:Row w B l) (n cap:Nat) (hn:l.length=n+1):(convert 22 9 (.slice (some ⟨B,1,none⟩) n cap)).run prog w=.ok (.string ⟨l.tail.toArray⟩) w:=by
 have hl:l.tail.length=n:=by simp;omega
 subst hl
 exact run_convert_bytes_back (P:=prog) w 22 9 5 ⟨B,1,none⟩ cap l.tail underlying22 underlying5 underlying9 (fun j hj=>by
  have ea:=add_at B j
  have hj':j+1<l.length:=by omega
  rw [ea,cell_at h (j+1) hj']
  simp)
theorem rom_any (rb:Nat) (w:World) (h:Rd w rb) :
  Calls prog 22 #[.pointer (some ⟨rb,0,none⟩)] w fun e w'=>(∃ s:ByteArray,s.size<=1024/\e=.returned (.string s))/\Post w rb w':=by
 have H:Hid (Rd w rb):=h
 have hlt:=h.lt
 clear h
 go_enter func22,ntmps22
 go_wp2_with fail
 refine (Rdr.below_any _ _ _ H.out (by decide) (by decide)).mono ?_
 rintro e w1 ⟨⟨x,x0,x1,rfl⟩,p1⟩
 obtain ⟨n,hn⟩ : ∃ n:Nat,(n:Int)=2+x:=⟨(2+x).toNat,by omega⟩
 have n0:2<=n:=by omega
 have n1:n<=4:=by omega
 obtain ⟨o,hm⟩:=made (n*256) (by omega)
 have hm1:∀ u:World,(Instr.makeSlice 22 (.int .i64 ((2+x)*256)) (.int .i64 ((2+x)*256))).run prog u=.ok (.slice (some ⟨u.heap.size,0,none⟩) (n*256) (n*256)) (u.alloc o):=fun u=>by
  have:=(hm u).1
  rwa [show ((n*256:Nat):Int)=(2+x)*256 by omega] at this
 have R1:Hid (Row (w1.alloc o) w1.heap.size (List.replicate (n*256) 0)):=(hm w1).2
 have PW:Hid (Post w rb (w1.alloc o)):=p1.alloc _
 have HB:Hid (rb<w1.heap.size/\w.heap.size<=w1.heap.size):=⟨Nat.lt_of_lt_of_le hlt p1.2.size,p1.2.size⟩
 clear hm p1
 go_upto_region 3 with fail
 generalize w1.alloc o=w2 at R1 PW |-
 generalize w1.heap.size=B at R1 HB |-
 clear hm1
 go_wp2_with fail
 go_loopw [5] (fun k wr=>∃ (k':Nat) (l:List UInt8),k'<=n/\k=.int .i64 k'/\Hid (l.length=n*256)/\Hid (Row wr B l)/\Hid (Post w rb wr)) (fun k _=>n-(intOf k).toNat)
 case atStart=>exact ⟨0,_,Nat.zero_le _,rfl,by show _=_;simp,R1,PW⟩
 case round =>
 clear R1 PW
 obtain ⟨k,l,hk,rfl,LL,RR,PW⟩:=hrel
 by_cases hkn:k<n
 ·have hkx:(k:Int)<2+x:=by omega
  go_wp2_with fail
  refine (Rdr.below_any _ _ _ PW.out.1 (by decide) (by decide)).mono ?_
  rintro e w3 ⟨⟨y,y0,y1,rfl⟩,p3⟩
  have RR:Hid (Row w3 B l):=Row.post RR.out p3 (by have:=HB.out.1;omega)
  have PW:Hid (Post w rb w3):=PW.out.trans p3
  clear p3
  go_wp2_with fail
  go_loopw [6,7] (fun at_ i wr=>∃ (a' i':Nat) (l:List UInt8),i'<=16/\k*256<=a'/\a'+3*i'<=k*256+48/\at_=.int .i64 a'/\i=.int .i64 i'/\Hid (l.length=n*256)/\Hid (Row wr B l)/\Hid (Post w rb wr)) (fun _ i _=>(intOf i).toNat)
  case atStart=>exact ⟨k*256,(1+y).toNat,l,by omega,Nat.le_refl _,by omega,by first|rfl|(congr 1;omega),by first|rfl|(congr 1;omega),LL,RR,PW⟩
  case round =>
  clear LL RR PW
  obtain ⟨a,i,l,hi,ha0,ha1,rfl,rfl,LL,RR,PW⟩:=hrel
  by_cases hi0:0<i
  ·have hi0':(0:Int)<(i:Int):=by omega
   go_wp2_with fail
   refine (plain_any _ _ PW.out.1).mono ?_
   rintro e w4 ⟨⟨c,b,m,rfl⟩,p4⟩
   have RR:Hid (Row w4 B l):=Row.post RR.out p4 (by have:=HB.out.1;omega)
   have PW:Hid (Post w rb w4):=PW.out.trans p4
   clear p4
   go_wp2_with fail
   refine (bytes_any _ _ _ _).mono ?_
   rintro e w5 ⟨⟨s,hs,rfl⟩,b5⟩
   have RR:=zHd (RR.out.below b5)
   have PW:Hid (Post w rb w5):=PW.out.trans (postB PW.out.1 b5)
   clear b5
   have sl:=fun w=>slice_lh B (n*256) a ((k+1)*256) (by omega) (by omega) (by omega) w
   rw [show (((k+1)*256:Nat):Int)=((k:Int)+1)*256 by omega] at sl
   obtain ⟨w6,hc,r6,b6⟩:=copy_at RR.out a ((k+1)*256-a) (n*256-a) s (by omega) (by have:=LL.out;omega)
   have R6:Hid (Row w6 B (over l a s.data.toList)):=r6
   have L6:Hid ((over l a s.data.toList).length=n*256):=by
    show _=_
    rw [over_length _ _ _ (by have:=LL.out;have:s.data.toList.length=s.size:=Array.length_toList;omega)]
    exact LL.out
   have P6:Hid (Post w rb w6):=post_of_copy PW.out HB.out.1 HB.out.2 b6
   clear r6 b6 RR PW LL
   go_wp2_with fail
   go_roundw
   case rel=>exact ⟨a+s.size,i-1,_,by omega,by omega,by omega,by first|rfl|(congr 1;omega),by first|rfl|(congr 1;omega),L6,R6,P6⟩
   case measure=>simp [intOf];omega
  ·have hi0':¬ (0:Int)<(i:Int):=by omega
   go_wp2_with fail
   go_roundw
   case rel=>exact ⟨k+1,l,by omega,by go_num,LL,RR,PW⟩
   case measure=>simp [intOf];omega
 have hkx:¬ (k:Int)<2+x:=by omega
 go_wp2_with fail
 refine (Rdr.once_any _ _ _ PW.out.1 (by decide) (by decide)).mono ?_
 rintro e w7 ⟨⟨q,rfl⟩,p7⟩
 have RR:Hid (Row w7 B l):=Row.post RR.out p7 (by have:=HB.out.1;omega)
 have PW:Hid (Post w rb w7):=PW.out.trans p7
 clear p7
 cases q with
 | true =>
  have sl:=fun w=>slice_l B (n*256) 1 (by omega) w
  have sc:=str_tail RR.out (n*256-1) (n*256-1) (by have:=LL.out;omega)
  have HS:Hid ((⟨l.tail.toArray⟩ : ByteArray).size<=1024):=by show l.tail.toArray.size<=1024;have:=LL.out;simp;omega
  generalize (⟨l.tail.toArray⟩ : ByteArray)=S at sc HS
  go_wp2
  go_ret
  exact ⟨⟨S,HS.out,rfl⟩,PW.out⟩
 | false =>
  have sc:=str_at RR.out (n*256) (n*256) LL.out
  have HS:Hid ((⟨l.toArray⟩ : ByteArray).size<=1024):=by show l.toArray.size<=1024;have:=LL.out;simp;omega
  generalize (⟨l.toArray⟩ : ByteArray)=S at sc HS
  go_wp2
  go_ret
  exact ⟨⟨S,HS.out,rfl⟩,PW.out⟩
end DrawP
namespace MachA
open Go.Deep
open Signed (inB ret_int ret_bool isByte_any l1In_any)
open Carts CartK CartL CartM CartN CartR CartX Outs MachT MachO MachK MachB
def seenV (pc bank n:Int):Int:=if pc<256 then 0 else if pc<512 then bank%n else -1
def bankA (ok:Bool) (pc bank n:Int):Int:=if ok=true then seenV pc bank n else -1
def addrA (ok:Bool) (pc:Int):Int:=if ok=true then pc else -1
theorem whereIs_any (ra rf rB rC rD rE rH rL sp pc:Int) (ime hal:Bool) (rom:ByteArray) (kind bank:Int) (ram:ByteArray) (rb:Int) (on:Bool) (mode:Int) (work high:ByteArray) (po:Option Addr) (L:List Int) (cap:Nat) (cyc:Int) (B:Nat) (w:World) (kB:w.heap[B]? = some (.cells #[.int .i64 ra,.int .i64 rf,.int .i64 rB,.int .i64 rC,.int .i64 rD,.int .i64 rE,.int .i64 rH,.int .i64 rL,.int .i64 sp,.int .i64 pc,.bool ime,.bool hal,.string rom,.int .i64 kind,.int .i64 bank,.string ram,.int .i64 rb,.bool on,.int .i64 mode,.string work,.string high,.slice po L.length cap,.int .i64 cyc] 30)) (n:Nat) (n0:2<=n) (n1:n<=16) (hn:rom.size=256*n) (b0:0<=bank) (b1:bank<=255) :
  Calls prog 13 #[.pointer (some ⟨B,0,none⟩)] w fun e w'=>e=.returned (.agg #[.int .i64 (seenV pc bank n),.int .i64 pc])/\Below w.heap.size w w':=by
 have hlt:B<w.heap.size:=by
  rcases Nat.lt_or_ge B w.heap.size with h'|h'
  ·exact h'
  ·simp [Array.getElem?_eq_none h'] at kB
 have m9:=cel kB 9 _ rfl
 have m12:=cel kB 12 _ rfl
 have m13:=cel kB 13 _ rfl
 have m14:=cel kB 14 _ rfl
 have m15:=cel kB 15 _ rfl
 have m16:=cel kB 16 _ rfl
 have m17:=cel kB 17 _ rfl
 have m18:=cel kB 18 _ rfl
 have c3:=fun w=>bankSeen_any rom kind bank ram rb on mode w n n0 n1 hn b0 b1
 obtain ⟨r,hr⟩ : ∃ r,r=seenV pc bank n:=⟨_,rfl⟩
 have HR:Hid (r=seenV pc bank n):=hr
 rw [<- hr]
 clear kB hn hr
 by_cases h1:pc<256
 ·have e1:r=0:=by rw [HR.out];unfold seenV;rw [if_pos h1]
  subst e1
  go_enter func13,ntmps13
  go_wp2
  exact bodyPost_ret (v:=.agg #[.int .i64 0,.int .i64 pc]) (by simp [results,results13,go_sem]) rfl ⟨rfl,by repeat (with_reducible first|exact zRf|refine zGr ?_ _|refine below_drewN ?_ _|refine Below.drew ?_)⟩
 ·by_cases h2:pc<512
  ·have e1:bank%(n:Int)=r:=by rw [HR.out];unfold seenV;rw [if_neg h1,if_pos h2]
   rw [e1] at c3
   clear e1
   go_enter func13,ntmps13
   go_wp2_with (go_at_call 20;refine (c3 _).mono ?_;rintro e w' ⟨rfl,rfl⟩)
   exact bodyPost_ret (v:=.agg #[.int .i64 r,.int .i64 pc]) (by simp [results,results13,go_sem]) rfl ⟨rfl,by repeat (with_reducible first|exact zRf|refine zGr ?_ _|refine below_drewN ?_ _|refine Below.drew ?_)⟩
  ·have e1:r = -1:=by rw [HR.out];unfold seenV;rw [if_neg h1,if_neg h2]
   subst e1
   go_enter func13,ntmps13
   go_wp2
   exact bodyPost_ret (v:=.agg #[.int .i64 (-1),.int .i64 pc]) (by simp [results,results13,go_sem]) rfl ⟨rfl,by repeat (with_reducible first|exact zRf|refine zGr ?_ _|refine below_drewN ?_ _|refine Below.drew ?_)⟩
theorem l17At_any (ra rf rB rC rD rE rH rL sp pc:Int) (ime hal:Bool) (rom:ByteArray) (kind bank:Int) (ram:ByteArray) (rb:Int) (on:Bool) (mode:Int) (work high:ByteArray) (po:Option Addr) (L:List Int) (cap:Nat) (cyc:Int) (w:World) (z1:rom.size<=maxLen) (z2:ram.size<=maxLen) (h:okB rom kind bank ram rb on mode=true) (n:Nat) (hn:banks rom.size=n) (n0:2<=n) (n1:n<=16) (b0:0<=bank) (b1:bank<=255) :
  Calls prog 14 #[.agg #[.int .i64 ra,.int .i64 rf,.int .i64 rB,.int .i64 rC,.int .i64 rD,.int .i64 rE,.int .i64 rH,.int .i64 rL,.int .i64 sp,.int .i64 pc,.bool ime,.bool hal,.string rom,.int .i64 kind,.int .i64 bank,.string ram,.int .i64 rb,.bool on,.int .i64 mode,.string work,.string high,.slice po L.length cap,.int .i64 cyc]] w fun e w'=>e=.returned (.agg #[.int .i64 (seenV pc bank n),.int .i64 pc])/\Below w.heap.size w w':=by
 have c3:=fun w=>specMapped_yes rom kind bank ram rb on mode w z1 z2 h n hn n0 n1 b0 b1
 obtain ⟨r,hr⟩ : ∃ r,r=seenV pc bank n:=⟨_,rfl⟩
 have HR:Hid (r=seenV pc bank n):=hr
 rw [<- hr]
 clear hn hr h z1 z2
 by_cases h1:pc<256
 ·have e1:r=0:=by rw [HR.out];unfold seenV;rw [if_pos h1]
  subst e1
  clear c3
  go_enter func14,ntmps14
  go_wp2
  exact bodyPost_ret (v:=.agg #[.int .i64 0,.int .i64 pc]) (by simp [results,results14,go_sem]) rfl ⟨rfl,by repeat (with_reducible first|exact zRf|refine zGr ?_ _|refine below_drewN ?_ _|refine Below.drew ?_)⟩
 ·by_cases h2:pc<512
  ·have e1:bank%(n:Int)=r:=by rw [HR.out];unfold seenV;rw [if_neg h1,if_pos h2]
   rw [e1] at c3
   clear e1
   go_enter func14,ntmps14
   go_wp2_with (go_at_call 31;refine (c3 _).mono ?_;rintro e w' ⟨rfl,k,rfl⟩)
   exact bodyPost_ret (v:=.agg #[.int .i64 r,.int .i64 pc]) (by simp [results,results14,go_sem]) rfl ⟨rfl,by repeat (with_reducible first|exact zRf|refine zGr ?_ _|refine below_drewN ?_ _|refine Below.drew ?_|refine Below.setCell ?_ (by simp) _)⟩
  ·have e1:r = -1:=by rw [HR.out];unfold seenV;rw [if_neg h1,if_neg h2]
   subst e1
   clear c3
   go_enter func14,ntmps14
   go_wp2
   exact bodyPost_ret (v:=.agg #[.int .i64 (-1),.int .i64 pc]) (by simp [results,results14,go_sem]) rfl ⟨rfl,by repeat (with_reducible first|exact zRf|refine zGr ?_ _|refine below_drewN ?_ _|refine Below.drew ?_)⟩
def okA (ra rf rB rC rD rE rH rL sp pc:Int) (ime hal:Bool) (rom:ByteArray) (kind bank:Int) (ram:ByteArray) (rb:Int) (on:Bool) (mode:Int) (work high:ByteArray) (po:Option Addr) (L:List Int) (cap:Nat) (cyc:Int):Bool:=okM ra rf rB rC rD rE rH rL sp pc (okB rom kind bank ram rb on mode) work.size high.size L cyc
theorem implA_any (ra rf rB rC rD rE rH rL sp pc:Int) (ime hal:Bool) (rom:ByteArray) (kind bank:Int) (ram:ByteArray) (rb:Int) (on:Bool) (mode:Int) (work high:ByteArray) (po:Option Addr) (L:List Int) (cap:Nat) (cyc:Int) (w:World) (z1:rom.size<=maxLen) (z2:ram.size<=maxLen) (z3:work.size<=1048576) (z4:high.size<=1048576) (hN:Row w po L) (hlen:L.length<=1048576) :
  Calls prog 6 #[.agg #[.int .i64 ra,.int .i64 rf,.int .i64 rB,.int .i64 rC,.int .i64 rD,.int .i64 rE,.int .i64 rH,.int .i64 rL,.int .i64 sp,.int .i64 pc,.bool ime,.bool hal,.string rom,.int .i64 kind,.int .i64 bank,.string ram,.int .i64 rb,.bool on,.int .i64 mode,.string work,.string high,.slice po L.length cap,.int .i64 cyc]] w fun e w'=>e=.returned (.agg #[.int .i64 (bankA (okA ra rf rB rC rD rE rH rL sp pc ime hal rom kind bank ram rb on mode work high po L cap cyc) pc bank (banks rom.size)),.int .i64 (addrA (okA ra rf rB rC rD rE rH rL sp pc ime hal rom kind bank ram rb on mode work high po L cap cyc) pc)])/\Below w.heap.size w w':=by
 have c1:=fun W h=>implM_any ra rf rB rC rD rE rH rL sp pc ime hal rom kind bank ram rb on mode work high po L cap cyc W z1 z2 z3 z4 h hlen
 have H0:Hid (Row w po L):=hN
 have HI:Hid ((prog.info? 30).map (·.size)=some 23):=hi47
 have HJ:Hid ((prog.info? 33).map (·.size)=some 2):=(by kernel_rfl:(prog.info? 33).map (·.size)=some 2)
 have HP:Hid (okA ra rf rB rC rD rE rH rL sp pc ime hal rom kind bank ram rb on mode work high po L cap cyc=true->∀ W:World,W.heap[w.heap.size]? = some (.cells #[.int .i64 ra,.int .i64 rf,.int .i64 rB,.int .i64 rC,.int .i64 rD,.int .i64 rE,.int .i64 rH,.int .i64 rL,.int .i64 sp,.int .i64 pc,.bool ime,.bool hal,.string rom,.int .i64 kind,.int .i64 bank,.string ram,.int .i64 rb,.bool on,.int .i64 mode,.string work,.string high,.slice po L.length cap,.int .i64 cyc] 30)->Calls prog 13 #[.pointer (some ⟨w.heap.size,0,none⟩)] W fun e w'=>e=.returned (.agg #[.int .i64 (seenV pc bank (banks rom.size)),.int .i64 pc])/\Below W.heap.size W w'):=fun h W hW=>by
  obtain ⟨n,n0,n1,hn,hb,_,b0,b1,_⟩:=right rom kind bank ram rb on mode (okM_parts h).1
  rw [hb]
  exact whereIs_any ra rf rB rC rD rE rH rL sp pc ime hal rom kind bank ram rb on mode work high po L cap cyc w.heap.size W hW n n0 n1 hn b0 b1
 unfold bankA addrA
 obtain ⟨b,hb⟩ : ∃ b,okA ra rf rB rC rD rE rH rL sp pc ime hal rom kind bank ram rb on mode work high po L cap cyc=b:=⟨_,rfl⟩
 have hb2:okM ra rf rB rC rD rE rH rL sp pc (okB rom kind bank ram rb on mode) work.size high.size L cyc=b:=hb
 rw [hb2] at c1
 rw [hb] at HP |-
 obtain ⟨v,hv⟩ : ∃ v,v=seenV pc bank (banks rom.size):=⟨_,rfl⟩
 rw [<- hv] at HP |-
 clear hb hb2 hv hN z1 z2 z3 z4 hlen
 go_enter func6,ntmps6
 go_upto_region 1 with fail
 refine wp_region_list ?_
 have k0:((w.alloc (.cells #[.int .i64 ra,.int .i64 rf,.int .i64 rB,.int .i64 rC,.int .i64 rD,.int .i64 rE,.int .i64 rH,.int .i64 rL,.int .i64 sp,.int .i64 pc,.bool ime,.bool hal,.string rom,.int .i64 kind,.int .i64 bank,.string ram,.int .i64 rb,.bool on,.int .i64 mode,.string work,.string high,.slice po L.length cap,.int .i64 cyc] 30)).alloc (.cells #[.int .i64 0,.int .i64 0] 33)).heap[w.heap.size]? = some (.cells #[.int .i64 ra,.int .i64 rf,.int .i64 rB,.int .i64 rC,.int .i64 rD,.int .i64 rE,.int .i64 rH,.int .i64 rL,.int .i64 sp,.int .i64 pc,.bool ime,.bool hal,.string rom,.int .i64 kind,.int .i64 bank,.string ram,.int .i64 rb,.bool on,.int .i64 mode,.string work,.string high,.slice po L.length cap,.int .i64 cyc] 30):=by
  rw [Below.heap_alloc _ _ _ (by simp)];exact heap_alloc_last w _
 refine wpList_load_row rfl 30 _ rfl w.heap.size rfl _ _ (0,0) _ k0 underlying30 rfl HI.out ?_
 clear k0
 go_wp2_with fail
 refine Calls.mono (c1 _ ?_) ?_
 ·exact H0.out.below (by repeat (with_reducible first|exact zRf|refine zGr ?_ _|refine below_drewN ?_ _|refine Below.drew ?_))
 rintro e w1 ⟨rfl,hb1⟩
 have HB:Hid (Below w.heap.size w w1):=after (by repeat (with_reducible first|exact zRf|refine zGr ?_ _|refine below_drewN ?_ _|refine Below.drew ?_)) hb1
 have HK:Hid (w1.heap[w.heap.size]? = some (.cells #[.int .i64 ra,.int .i64 rf,.int .i64 rB,.int .i64 rC,.int .i64 rD,.int .i64 rE,.int .i64 rH,.int .i64 rL,.int .i64 sp,.int .i64 pc,.bool ime,.bool hal,.string rom,.int .i64 kind,.int .i64 bank,.string ram,.int .i64 rb,.bool on,.int .i64 mode,.string work,.string high,.slice po L.length cap,.int .i64 cyc] 30)):=by
  have h:=hb1.block w.heap.size (by simp;omega)
  rw [Below.heap_alloc _ _ _ (by simp)] at h
  exact h.trans (heap_alloc_last w _)
 have HS:Hid (w1.heap[w.heap.size+1]? = some (.cells #[.int .i64 0,.int .i64 0] 33)):=by
  have h:=hb1.block (w.heap.size+1) (by simp)
  have h2:=heap_alloc_last (w.alloc (.cells #[.int .i64 ra,.int .i64 rf,.int .i64 rB,.int .i64 rC,.int .i64 rD,.int .i64 rE,.int .i64 rH,.int .i64 rL,.int .i64 sp,.int .i64 pc,.bool ime,.bool hal,.string rom,.int .i64 kind,.int .i64 bank,.string ram,.int .i64 rb,.bool on,.int .i64 mode,.string work,.string high,.slice po L.length cap,.int .i64 cyc] 30)) (.cells #[.int .i64 0,.int .i64 0] 33)
  simp only [World.size_alloc] at h2
  exact h.trans h2
 clear hb1 H0 c1
 cases b
 ·have q0:=cel HS.out 0 _ rfl
  have q1:=cel HS.out 1 _ rfl
  have f0:=frozen_of_row w1 (w.heap.size+1) 0 _ _ HS.out
  have f1:=frozen_of_row w1 (w.heap.size+1) 1 _ _ HS.out
  go_wp2
  exact bodyPost_ret (v:=.agg #[.int .i64 (-1),.int .i64 (-1)]) (results_cell_row results6 _ _ (w.heap.size+1) _ #[.int .i64 (-1),.int .i64 (-1)] (0,0) _ rfl ((heap_setCell_same _ _ 1 _ _ (.int .i64 (-1)) (heap_setCell_same _ _ 0 _ _ (.int .i64 (-1)) HS.out)).trans rfl) underlying33 rfl HJ.out) rfl ⟨rfl,(HB.out.setCell (by simp) _).setCell (by simp) _⟩
 go_wp2_with fail
 refine Calls.mono (HP.out trivial _ HK.out) ?_
 rintro e w2 ⟨rfl,hb2⟩
 have HB2:Hid (Below w.heap.size w w2):=after HB.out hb2
 have HS2:Hid (w2.heap[w.heap.size+1]? = some (.cells #[.int .i64 0,.int .i64 0] 33)):=by
  have hl:w.heap.size+1<w1.heap.size:=(zLo HS.out)
  exact (hb2.block _ hl).trans HS.out
 clear hb2 HS HB
 have q0:=cel HS2.out 0 _ rfl
 have q1:=cel HS2.out 1 _ rfl
 have f0:=frozen_of_row w2 (w.heap.size+1) 0 _ _ HS2.out
 have f1:=frozen_of_row w2 (w.heap.size+1) 1 _ _ HS2.out
 go_wp2
 exact bodyPost_ret (v:=.agg #[.int .i64 v,.int .i64 pc]) (results_cell_row results6 _ _ (w.heap.size+1) _ #[.int .i64 v,.int .i64 pc] (0,0) _ rfl ((heap_setCell_same _ _ 1 _ _ (.int .i64 pc) (heap_setCell_same _ _ 0 _ _ (.int .i64 v) HS2.out)).trans rfl) underlying33 rfl HJ.out) rfl ⟨rfl,(HB2.out.setCell (by simp) _).setCell (by simp) _⟩
theorem specA_any (ra rf rB rC rD rE rH rL sp pc:Int) (ime hal:Bool) (rom:ByteArray) (kind bank:Int) (ram:ByteArray) (rb:Int) (on:Bool) (mode:Int) (work high:ByteArray) (po:Option Addr) (L:List Int) (cap:Nat) (cyc:Int) (w:World) (z1:rom.size<=maxLen) (z2:ram.size<=maxLen) (z3:work.size<=1048576) (z4:high.size<=1048576) (hN:Row w po L) (hlen:L.length<=1048576) :
  Calls prog 7 #[.agg #[.int .i64 ra,.int .i64 rf,.int .i64 rB,.int .i64 rC,.int .i64 rD,.int .i64 rE,.int .i64 rH,.int .i64 rL,.int .i64 sp,.int .i64 pc,.bool ime,.bool hal,.string rom,.int .i64 kind,.int .i64 bank,.string ram,.int .i64 rb,.bool on,.int .i64 mode,.string work,.string high,.slice po L.length cap,.int .i64 cyc]] w fun e w'=>e=.returned (.agg #[.int .i64 (bankA (okA ra rf rB rC rD rE rH rL sp pc ime hal rom kind bank ram rb on mode work high po L cap cyc) pc bank (banks rom.size)),.int .i64 (addrA (okA ra rf rB rC rD rE rH rL sp pc ime hal rom kind bank ram rb on mode work high po L cap cyc) pc)])/\Below w.heap.size w w':=by
 have c1:=fun W h=>specM_any ra rf rB rC rD rE rH rL sp pc ime hal rom kind bank ram rb on mode work high po L cap cyc W z1 z2 z3 z4 h hlen
 have H0:Hid (Row w po L):=hN
 have HI:Hid ((prog.info? 30).map (·.size)=some 23):=hi47
 have HJ:Hid ((prog.info? 33).map (·.size)=some 2):=(by kernel_rfl:(prog.info? 33).map (·.size)=some 2)
 have HP:Hid (okA ra rf rB rC rD rE rH rL sp pc ime hal rom kind bank ram rb on mode work high po L cap cyc=true->∀ W:World,Calls prog 14 #[.agg #[.int .i64 ra,.int .i64 rf,.int .i64 rB,.int .i64 rC,.int .i64 rD,.int .i64 rE,.int .i64 rH,.int .i64 rL,.int .i64 sp,.int .i64 pc,.bool ime,.bool hal,.string rom,.int .i64 kind,.int .i64 bank,.string ram,.int .i64 rb,.bool on,.int .i64 mode,.string work,.string high,.slice po L.length cap,.int .i64 cyc]] W fun e w'=>e=.returned (.agg #[.int .i64 (seenV pc bank (banks rom.size)),.int .i64 pc])/\Below W.heap.size W w'):=fun h W=>by
  obtain ⟨n,n0,n1,hn,hb,_,b0,b1,_⟩:=right rom kind bank ram rb on mode (okM_parts h).1
  rw [hb]
  exact l17At_any ra rf rB rC rD rE rH rL sp pc ime hal rom kind bank ram rb on mode work high po L cap cyc W z1 z2 (okM_parts h).1 n hb n0 n1 b0 b1
 unfold bankA addrA
 obtain ⟨b,hb⟩ : ∃ b,okA ra rf rB rC rD rE rH rL sp pc ime hal rom kind bank ram rb on mode work high po L cap cyc=b:=⟨_,rfl⟩
 have hb2:okM ra rf rB rC rD rE rH rL sp pc (okB rom kind bank ram rb on mode) work.size high.size L cyc=b:=hb
 rw [hb2] at c1
 rw [hb] at HP |-
 obtain ⟨v,hv⟩ : ∃ v,v=seenV pc bank (banks rom.size):=⟨_,rfl⟩
 rw [<- hv] at HP |-
 clear hb hb2 hv hN z1 z2 z3 z4 hlen
 go_enter func7,ntmps7
 go_upto_region 1 with fail
 refine wp_region_list ?_
 have k0:((w.alloc (.cells #[.int .i64 ra,.int .i64 rf,.int .i64 rB,.int .i64 rC,.int .i64 rD,.int .i64 rE,.int .i64 rH,.int .i64 rL,.int .i64 sp,.int .i64 pc,.bool ime,.bool hal,.string rom,.int .i64 kind,.int .i64 bank,.string ram,.int .i64 rb,.bool on,.int .i64 mode,.string work,.string high,.slice po L.length cap,.int .i64 cyc] 30)).alloc (.cells #[.int .i64 0,.int .i64 0] 33)).heap[w.heap.size]? = some (.cells #[.int .i64 ra,.int .i64 rf,.int .i64 rB,.int .i64 rC,.int .i64 rD,.int .i64 rE,.int .i64 rH,.int .i64 rL,.int .i64 sp,.int .i64 pc,.bool ime,.bool hal,.string rom,.int .i64 kind,.int .i64 bank,.string ram,.int .i64 rb,.bool on,.int .i64 mode,.string work,.string high,.slice po L.length cap,.int .i64 cyc] 30):=by
  rw [Below.heap_alloc _ _ _ (by simp)];exact heap_alloc_last w _
 refine wpList_load_row rfl 30 _ rfl w.heap.size rfl _ _ (0,0) _ k0 underlying30 rfl HI.out ?_
 clear k0
 go_wp2_with fail
 refine Calls.mono (c1 _ ?_) ?_
 ·exact H0.out.below (by repeat (with_reducible first|exact zRf|refine zGr ?_ _|refine below_drewN ?_ _|refine Below.drew ?_))
 rintro e w1 ⟨rfl,hb1⟩
 have HB:Hid (Below w.heap.size w w1):=after (by repeat (with_reducible first|exact zRf|refine zGr ?_ _|refine below_drewN ?_ _|refine Below.drew ?_)) hb1
 have HK:Hid (w1.heap[w.heap.size]? = some (.cells #[.int .i64 ra,.int .i64 rf,.int .i64 rB,.int .i64 rC,.int .i64 rD,.int .i64 rE,.int .i64 rH,.int .i64 rL,.int .i64 sp,.int .i64 pc,.bool ime,.bool hal,.string rom,.int .i64 kind,.int .i64 bank,.string ram,.int .i64 rb,.bool on,.int .i64 mode,.string work,.string high,.slice po L.length cap,.int .i64 cyc] 30)):=by
  have h:=hb1.block w.heap.size (by simp;omega)
  rw [Below.heap_alloc _ _ _ (by simp)] at h
  exact h.trans (heap_alloc_last w _)
 have HS:Hid (w1.heap[w.heap.size+1]? = some (.cells #[.int .i64 0,.int .i64 0] 33)):=by
  have h:=hb1.block (w.heap.size+1) (by simp)
  have h2:=heap_alloc_last (w.alloc (.cells #[.int .i64 ra,.int .i64 rf,.int .i64 rB,.int .i64 rC,.int .i64 rD,.int .i64 rE,.int .i64 rH,.int .i64 rL,.int .i64 sp,.int .i64 pc,.bool ime,.bool hal,.string rom,.int .i64 kind,.int .i64 bank,.string ram,.int .i64 rb,.bool on,.int .i64 mode,.string work,.string high,.slice po L.length cap,.int .i64 cyc] 30)) (.cells #[.int .i64 0,.int .i64 0] 33)
  simp only [World.size_alloc] at h2
  exact h.trans h2
 clear hb1 H0 c1
 cases b
 ·have q0:=cel HS.out 0 _ rfl
  have q1:=cel HS.out 1 _ rfl
  have f0:=frozen_of_row w1 (w.heap.size+1) 0 _ _ HS.out
  have f1:=frozen_of_row w1 (w.heap.size+1) 1 _ _ HS.out
  go_wp2
  exact bodyPost_ret (v:=.agg #[.int .i64 (-1),.int .i64 (-1)]) (results_cell_row results7 _ _ (w.heap.size+1) _ #[.int .i64 (-1),.int .i64 (-1)] (0,0) _ rfl ((heap_setCell_same _ _ 1 _ _ (.int .i64 (-1)) (heap_setCell_same _ _ 0 _ _ (.int .i64 (-1)) HS.out)).trans rfl) underlying33 rfl HJ.out) rfl ⟨rfl,(HB.out.setCell (by simp) _).setCell (by simp) _⟩
 go_upto_region 3 with fail
 refine wp_region_list ?_
 refine wpList_load_row rfl 30 _ rfl w.heap.size rfl _ _ (0,0) _ HK.out underlying30 rfl HI.out ?_
 go_wp2_with fail
 refine Calls.mono (HP.out trivial _) ?_
 rintro e w2 ⟨rfl,hb2⟩
 have HB2:Hid (Below w.heap.size w w2):=after HB.out hb2
 have HS2:Hid (w2.heap[w.heap.size+1]? = some (.cells #[.int .i64 0,.int .i64 0] 33)):=by
  have hl:w.heap.size+1<w1.heap.size:=(zLo HS.out)
  exact (hb2.block _ hl).trans HS.out
 clear hb2 HS HB
 have q0:=cel HS2.out 0 _ rfl
 have q1:=cel HS2.out 1 _ rfl
 have f0:=frozen_of_row w2 (w.heap.size+1) 0 _ _ HS2.out
 have f1:=frozen_of_row w2 (w.heap.size+1) 1 _ _ HS2.out
 go_wp2
 exact bodyPost_ret (v:=.agg #[.int .i64 v,.int .i64 pc]) (results_cell_row results7 _ _ (w.heap.size+1) _ #[.int .i64 v,.int .i64 pc] (0,0) _ rfl ((heap_setCell_same _ _ 1 _ _ (.int .i64 pc) (heap_setCell_same _ _ 0 _ _ (.int .i64 v) HS2.out)).trans rfl) underlying33 rfl HJ.out) rfl ⟨rfl,(HB2.out.setCell (by simp) _).setCell (by simp) _⟩
end MachA
end Go.Proofs.Ytfpecdgcapfgfaa
