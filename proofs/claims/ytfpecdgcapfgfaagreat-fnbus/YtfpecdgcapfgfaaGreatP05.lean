import Derived.Test.YtfpecdgcapfgfaaGreatP01
import Derived.Deep.Cut
import Derived.Laws.Tables
import Derived.RegionTactic
import Derived.Test.YtfpecdgcapfgfaaGreatP02
import Derived.Test.YtfpecdgcapfgfaaGreatP03
import Derived.Test.YtfpecdgcapfgfaaGreatP04
set_option linter.all false
set_option maxRecDepth 20000
set_option maxHeartbeats 8000000
open Go.ChangeShapes Go.WideShapes Go.ChangeAt Go.RowKit
open Go.Proofs.Tryz
namespace Go.Proofs.YtfpecdgcapfgfaaGreat
namespace CartP
open Go.Deep
open Signed (inB ret_int ret_bool isByte_any l1In_any)
open Carts CartK CartL CartM CartN
def putB (s:ByteArray) (i v:Int):ByteArray:=⟨(s.data.toList.set i.toNat (UInt8.ofNat v.toNat)).toArray⟩
theorem putB_size (s:ByteArray) (i v:Int):(putB s i v).size=s.size:=by show ((s.data.toList.set i.toNat (UInt8.ofNat v.toNat)).toArray).size=s.data.size;simp only [List.size_toArray,List.length_set,Array.length_toList]
theorem set_new (u:World) (o:Obj) (i:Nat) (v:Value):∃ o',(u.alloc o).setCell ⟨u.heap.size,i,none⟩ v=u.alloc o':=by
 have hm:∀ (a:Array Obj) (x:Obj) (f:Obj->Obj),(a.push x).modify a.size f=a.push (f x):=by
  intro a x f
  apply Array.ext
  ·simp
  ·intro i h1 h2
   simp only [Array.getElem_modify,Array.getElem_push]
   by_cases h:a.size=i
   ·subst h
    simp
   ·have hi:i<a.size:=by simp at h1;omega
    simp [h,hi]
 have h:=hm u.heap o
 refine ⟨?_,?_⟩
 rotate_left
 ·unfold World.setCell World.alloc
  simp only [h]
  rfl
theorem put_facts (s:ByteArray) (n:Nat) (hs:s.size=n) (i v:Int) (i0:0<=i) (i1:i<n) (v0:0<=v) (v1:v<=255) (w:World) :
  ∃ (W:World) (cap:Nat) (u:Value) (o:Obj),(convert 9 22 (.string s)).run prog w=.ok (.slice (some ⟨w.heap.size,0,none⟩) n cap) W/\n<=cap/\W.cell? ⟨w.heap.size,i.toNat,none⟩=some u/\W.frozen? ⟨w.heap.size,i.toNat,none⟩=false /\
   W.setCell ⟨w.heap.size,i.toNat,none⟩ (.int .u8 v)=w.drew.alloc o /\
   (convert 22 9 (.slice (some ⟨w.heap.size,0,none⟩) n cap)).run prog (W.setCell ⟨w.heap.size,i.toNat,none⟩ (.int .u8 v))=.ok (.string (putB s i v)) (W.setCell ⟨w.heap.size,i.toNat,none⟩ (.int .u8 v)):=by
 subst hs
 have hc:=run_bytes_of_string (P:=prog) w 9 22 5 s underlying9 underlying22 underlying5
 have hge:=grownCap_ge w s.size 0 5
 obtain ⟨cap,hcap⟩ : ∃ cap,cap=grownCap w s.size 0 5:=⟨_,rfl⟩
 rw [<- hcap] at hc hge
 have hi:i.toNat<s.data.size:=by have:s.data.size=s.size:=rfl;omega
 have hcell:∀ j (hj:j<s.data.size),(w.drew.alloc (.cells (bytesRow s cap) 5 ((bytesRow s cap).size,(bytesRow s cap).size+1))).cell? ⟨w.heap.size,j,none⟩=some (.int .u8 (s.data[j].toNat:Int)):=fun j hj=>by
  have h:=World.cell?_alloc_mark w.drew (bytesRow s cap) 5 ((bytesRow s cap).size,(bytesRow s cap).size+1) j
  rw [bytesRow_at s cap j hj] at h
  exact h
 obtain ⟨o,ho⟩:=set_new w.drew (.cells (bytesRow s cap) 5 ((bytesRow s cap).size,(bytesRow s cap).size+1)) i.toNat (.int .u8 v)
 refine ⟨_,cap,_,o,hc,hge,hcell i.toNat hi,?_,ho,?_⟩
 ·have h:=World.frozen?_alloc_mark w.drew (bytesRow s cap) 5 (bytesRow s cap).size ((bytesRow s cap).size+1) i.toNat
  have hb:i.toNat<(bytesRow s cap).size:=by unfold bytesRow;simp;omega
  rw [decide_eq_false (by omega:¬ (bytesRow s cap).size<=i.toNat)] at h
  exact h
 ·have hl:(s.data.toList.set i.toNat (UInt8.ofNat v.toNat)).length=s.size:=by show _=s.data.size;simp only [List.length_set,Array.length_toList]
  have h:=run_convert_bytes_back (P:=prog) ((w.drew.alloc (.cells (bytesRow s cap) 5 ((bytesRow s cap).size,(bytesRow s cap).size+1))).setCell ⟨w.heap.size,i.toNat,none⟩ (.int .u8 v)) 22 9 5 ⟨w.heap.size,0,none⟩ cap (s.data.toList.set i.toNat (UInt8.ofNat v.toNat)) underlying22 underlying5 underlying9 (fun j hj=>by
   have ea:(⟨w.heap.size,0,none⟩ : Addr).add j=⟨w.heap.size,j,none⟩:=by unfold Addr.add;split <;> simp_all
   have hj':j<s.data.size:=by rw [hl] at hj;exact hj
   rw [ea]
   by_cases e:j=i.toNat
   ·subst e
    rw [World.cell?_setCell_same _ _ _ (hcell i.toNat hi)]
    rw [List.getElem_set_self]
    have:(UInt8.ofNat v.toNat).toNat=v.toNat:=by simp;omega
    rw [this]
    congr 2
    omega
   ·rw [World.cell?_setCell_other _ _ _ _ (fun x=>e (by have:=congrArg Addr.off x;exact this.symm)),hcell j hj',List.getElem_set_ne (by omega)]
    simp)
  rw [hl] at h
  exact h
theorem put_impl (s:ByteArray) (n:Nat) (hs:s.size=n) (hn:n<=1000) (i v:Int) (i0:0<=i) (i1:i<n) (v0:0<=v) (v1:v<=255) (w:World) :
  Calls prog 41 #[.string s,.int .i64 i,.int .i64 v] w fun e w'=>e=.returned (.string (putB s i v))/\∃ o,w'=w.drew.alloc o:=by
 obtain ⟨W,cap,u,o,hc,hge,hu,hf,ho,hb⟩:=put_facts s n hs i v i0 i1 v0 v1 w
 clear hs
 have HO:Hid (W.setCell ⟨w.heap.size,i.toNat,none⟩ (.int .u8 v)=w.drew.alloc o):=ho
 clear ho
 go_enter func41,ntmps41
 go_wp2
 go_ret
 exact ⟨rfl,o,HO.out⟩
theorem put_spec (s:ByteArray) (n:Nat) (hs:s.size=n) (hn:n<=1000) (i v:Int) (i0:0<=i) (i1:i<n) (v0:0<=v) (v1:v<=255) (w:World) :
  Calls prog 46 #[.string s,.int .i64 i,.int .i64 v] w fun e w'=>e=.returned (.string (putB s i v))/\∃ o,w'=w.drew.alloc o:=by
 obtain ⟨W,cap,u,o,hc,hge,hu,hf,ho,hb⟩:=put_facts s n hs i v i0 i1 v0 v1 w
 clear hs
 have HO:Hid (W.setCell ⟨w.heap.size,i.toNat,none⟩ (.int .u8 v)=w.drew.alloc o):=ho
 clear ho
 go_enter func46,ntmps46
 go_wp2
 go_ret
 exact ⟨rfl,o,HO.out⟩
end CartP
namespace Outs
open Go.Deep
open Signed (inB ret_int ret_bool isByte_any l1In_any)
open CartN (info_parts)
def Row (w:World) (a:Option Addr) (L:List Int):Prop:=L=[] \/ ∃ b off,a=some ⟨b,off,none⟩/\b<w.heap.size/\∀ i (h:i<L.length),w.cell? ⟨b,off+i,none⟩=some (.int .i64 L[i])
theorem Row.below {w w':World} {a:Option Addr} {L:List Int} (h:Row w a L) (hb:Below w.heap.size w w'):Row w' a L:=by
 rcases h with h|⟨b,off,ha,hl,hc⟩
 ·exact .inl h
 ·exact .inr ⟨b,off,ha,Nat.lt_of_lt_of_le hl hb.size,fun i hi=>(hb.cell (p:=⟨b,_,none⟩) hl).trans (hc i hi)⟩
end Outs
namespace MachT
open Go.Deep
open Signed (inB ret_int ret_bool isByte_any l1In_any)
open CartL Outs
theorem blk1 {w w':World} {a b c:Obj} (h:Below (((w.alloc a).alloc b).alloc c).heap.size (((w.alloc a).alloc b).alloc c) w'):w'.heap[w.heap.size]? = some a/\w'.heap[w.heap.size+1]? = some b/\w'.heap[w.heap.size+1+1]? = some c:=by
 have n:∀ (u:World) (o:Obj),(u.alloc o).heap[u.heap.size]? = some o:=fun u o=>by
  show (u.heap.push o)[u.heap.size]? = some o
  rw [Array.getElem?_push_size]
 have s:∀ (u:World) (o:Obj),(u.alloc o).heap.size=u.heap.size+1:=fun u o=>by
  show (u.heap.push o).size=_
  rw [Array.size_push]
 refine ⟨?_,?_,?_⟩
 ·rw [h.block _ (by rw [s,s,s];omega),Below.heap_alloc _ _ _ (by rw [s,s];omega),Below.heap_alloc _ _ _ (by rw [s];omega)]
  exact n w a
 ·rw [h.block _ (by rw [s,s,s];omega),Below.heap_alloc _ _ _ (by rw [s,s];omega)]
  have:=n (w.alloc a) b
  rwa [s] at this
 ·rw [h.block _ (by rw [s,s,s];omega)]
  have:=n ((w.alloc a).alloc b) c
  rwa [s,s] at this
theorem cel {W:World} {B:Nat} {vs:Array Value} {T:TypeId} (h:W.heap[B]? = some (.cells vs T)) (i:Nat) (v:Value) (hv:vs[i]? = some v):W.cell? ⟨B,i,none⟩=some v:=by
 unfold World.cell?
 rw [h]
 simpa using hv
theorem heap_set {W:World} {B i:Nat} {vs:Array Value} {T:TypeId} {v:Value} (h:W.heap[B]? = some (.cells vs T)):(W.setCell ⟨B,i,none⟩ v).heap[B]? = some (.cells (vs.setIfInBounds i v) T):=by
 unfold World.setCell
 simp [Array.getElem?_modify,h]
theorem heap_row {W:World} {B:Nat} {vs cs:Array Value} {T:TypeId} (h:W.heap[B]? = some (.cells vs T)):(W.setRow B cs).heap[B]? = some (.cells cs T):=by
 unfold World.setRow
 simp [Array.getElem?_modify,h]
theorem heap_row_other {B B':Nat} {cs:Array Value} (hne:B ≠ B') (W:World):(W.setRow B cs).heap[B']? = W.heap[B']?:=by
 unfold World.setRow
 simp [Array.getElem?_modify,hne]
theorem size_row {B:Nat} {cs:Array Value} (W:World):(W.setRow B cs).heap.size=W.heap.size:=by
 unfold World.setRow
 simp
theorem below_row {n g:Nat} {a w:World} {cs:Array Value} (h:Below n a w) (hg:n<=g):Below n a (w.setRow g cs) :=
 h.trans ⟨rfl,rfl,rfl,by rw [size_row];exact Nat.le_refl _,fun k hk=>heap_row_other (by omega) w⟩
theorem heap_set_other {B B' i:Nat} {v:Value} (hne:B ≠ B') (W:World):(W.setCell ⟨B,i,none⟩ v).heap[B']? = W.heap[B']?:=Below.heap_setCell W ⟨B,i,none⟩ v B' (fun e=>hne e.symm)
end MachT
namespace CartS
open Go.Deep
open Signed (inB ret_int ret_bool isByte_any l1In_any)
open Carts CartK CartL CartM CartR
theorem sread2 (rom:ByteArray) (kind bank:Int) (ram:ByteArray) (rb:Int) (on:Bool) (mode:Int) (addr z q:Int) (w:World) (hs:rom.size<=maxLen) (s1:rom.size<=4096) (hz:banks rom.size=z) (z0:2<=z) (z1:z<=16) (b0:0<=bank) (b1:bank<=255) (hq:bank%z=q) (q0:0<=q) (q1:q<=15) (q2:q*256+256<=rom.size) (a0:256<=addr) (a1:addr<512) :
  Calls prog 49 #[.agg #[.string rom,.int .i64 kind,.int .i64 bank,.string ram,.int .i64 rb,.bool on,.int .i64 mode],.int .i64 addr] w fun e w'=>e=.returned (.int .i64 (byteAt rom (q*256+addr-256)))/\Below w.heap.size w w':=by
 have d1:inB addr 0 255=false:=decide_eq_false (by omega)
 have d2:inB addr 256 511=true:=decide_eq_true (by omega)
 have c3:=fun w=>l5Banks_any rom w hs
 rw [hz] at c3
 clear hz hs
 have i0:0<=q*256+addr-256:=by omega
 have i1:q*256+addr-256<(rom.size:Int):=by omega
 have e1:IntKind.i64.wrap (q*256)=q*256:=by rw [IntKind.wrap_i64];omega
 have e2:IntKind.i64.wrap (q*256+addr)=q*256+addr:=by rw [IntKind.wrap_i64];omega
 have e3:IntKind.i64.wrap (q*256+addr-256)=q*256+addr-256:=by rw [IntKind.wrap_i64];omega
 have z2:¬ z=0:=by omega
 have ht:bank.tmod z=q:=by rw [Int.tmod_eq_emod_of_nonneg b0];exact hq
 have i2:256<=q*256+addr:=by omega
 clear hq
 go_enter func49,ntmps49
 go_wp2_with (go_at_call 45;refine (l1In_any _ _ _ _).mono ?_;rintro e w' ⟨rfl,rfl⟩)
 go_quiet ((go_at_call 60;exact Calls.quiet_of_same (c3 _)))
 go_wp2
 go_ret
 exact ⟨ret_int (by first|exact byteAt_wrap (by omega)|exact byteAt_wrapk (by omega)),by repeat (with_reducible first|exact zRf|refine zGr ?_ _|refine below_drewN ?_ _|refine Below.drew ?_)⟩
theorem sread3 (rom:ByteArray) (kind bank:Int) (ram:ByteArray) (rb:Int) (mode:Int) (addr r:Int) (w:World) (sr:ram.size=256) (h0:0<=rb) (h1:rb<=3) (a0:40960<=addr) (a1:addr<41024) (hr:ramQ kind rb mode=r) :
  Calls prog 49 #[.agg #[.string rom,.int .i64 kind,.int .i64 bank,.string ram,.int .i64 rb,.bool true,.int .i64 mode],.int .i64 addr] w fun e w'=>e=.returned (.int .i64 (byteAt ram (r*64+addr-40960)))/\Below w.heap.size w w':=by
 have c:=fun w=>l5RamBank_any rom kind bank ram rb true mode w
 obtain ⟨r0,r1⟩:=ramQ_bd (kind:=kind) (mode:=mode) h0 h1
 rw [hr] at c r0 r1
 clear hr h0 h1
 have d1:inB addr 0 255=false:=decide_eq_false (by omega)
 have d2:inB addr 256 511=false:=decide_eq_false (by omega)
 have d3:inB addr 40960 41023=true:=decide_eq_true (by omega)
 have i0:0<=r*64+addr-40960:=by omega
 have i1:r*64+addr-40960<(ram.size:Int):=by omega
 have i2:40960<=r*64+addr:=by omega
 clear sr
 have e1:IntKind.i64.wrap (r*64)=r*64:=by rw [IntKind.wrap_i64];omega
 have e2:IntKind.i64.wrap (r*64+addr)=r*64+addr:=by rw [IntKind.wrap_i64];omega
 have e3:IntKind.i64.wrap (r*64+addr-40960)=r*64+addr-40960:=by rw [IntKind.wrap_i64];omega
 go_enter func49,ntmps49
 go_wp2_with (go_at_call 45;refine (l1In_any _ _ _ _).mono ?_;rintro e w' ⟨rfl,rfl⟩)
 go_region_with (go_at_call 61;refine (c _).mono ?_;rintro e w' ⟨rfl,rfl⟩)
 all_goals go_wp2
 all_goals go_ret
 all_goals exact ⟨ret_int (by first|exact byteAt_wrap (by omega)|exact byteAt_wrapk (by omega)),by repeat (with_reducible first|exact zRf|refine zGr ?_ _|refine below_drewN ?_ _|refine Below.drew ?_)⟩
theorem sread4 (rom:ByteArray) (kind bank:Int) (ram:ByteArray) (rb:Int) (on:Bool) (mode:Int) (addr:Int) (w:World) (a0:512<=addr) (h:on=false \/ addr<40960 \/ 41024<=addr) :
  Calls prog 49 #[.agg #[.string rom,.int .i64 kind,.int .i64 bank,.string ram,.int .i64 rb,.bool on,.int .i64 mode],.int .i64 addr] w fun e w'=>e=.returned (.int .i64 255)/\Below w.heap.size w w':=by
 have d1:inB addr 0 255=false:=decide_eq_false (by omega)
 have d2:inB addr 256 511=false:=decide_eq_false (by omega)
 cases on with
 | false =>
  go_enter func49,ntmps49
  go_wp2_with (go_at_call 45;refine (l1In_any _ _ _ _).mono ?_;rintro e w' ⟨rfl,rfl⟩)
  go_ret
  exact ⟨rfl,by repeat (with_reducible first|exact zRf|refine zGr ?_ _|refine below_drewN ?_ _|refine Below.drew ?_)⟩
 | true =>
  have d3:inB addr 40960 41023=false:=decide_eq_false (by simp at h;omega)
  go_enter func49,ntmps49
  go_wp2_with (go_at_call 45;refine (l1In_any _ _ _ _).mono ?_;rintro e w' ⟨rfl,rfl⟩)
  go_ret
  exact ⟨rfl,by repeat (with_reducible first|exact zRf|refine zGr ?_ _|refine below_drewN ?_ _|refine Below.drew ?_)⟩
theorem ret_i {a b:Int} {w:World} {w':World} {e:Ending} (h:a=b) (k:e=.returned (.int .i64 a)/\Below w.heap.size w w'):e=.returned (.int .i64 b)/\Below w.heap.size w w':=by rw [<- h];exact k
theorem implRead_right (rom:ByteArray) (kind bank:Int) (ram:ByteArray) (rb:Int) (on:Bool) (mode:Int) (addr:Int) (w:World) (h:okB rom kind bank ram rb on mode=true) (a0:0<=addr) :
  Calls prog 48 #[.agg #[.string rom,.int .i64 kind,.int .i64 bank,.string ram,.int .i64 rb,.bool on,.int .i64 mode],.int .i64 addr] w fun e w'=>e=.returned (.int .i64 (rdV rom (bank%banks rom.size) ram (ramQ kind rb mode) on addr))/\Below w.heap.size w w':=by
 obtain ⟨n,n0,n1,hn,hb,hm,b0,b1,r0,r1,m0,m1,hk⟩:=right rom kind bank ram rb on mode h
 rw [hb]
 have q0:0<=bank%(n:Int):=Int.emod_nonneg _ (by omega)
 have q1:bank%(n:Int)<n:=Int.emod_lt_of_pos _ (by omega)
 by_cases h1:addr<256
 ·exact (read1 rom kind bank ram rb on mode addr w (by omega) a0 h1).mono fun e w' k=>ret_i (by unfold rdV;rw [if_pos h1]) k
 by_cases h2:addr<512
 ·exact (read2 rom kind bank ram rb on mode addr _ w (by omega) q0 (by omega) (by omega) (by omega) h2 (fun w=>bankSeen_any rom kind bank ram rb on mode w n n0 n1 hn b0 b1)).mono fun e w' k=>ret_i (by unfold rdV;rw [if_neg h1,if_pos h2]) k
 by_cases h3:on=true/\40960<=addr/\addr<41024
 ·obtain ⟨rfl,h4,h5⟩:=h3
  exact (read3 rom kind bank ram rb mode addr _ w hm r0 r1 m0 m1 (by simp at hk;omega) h4 h5 rfl).mono fun e w' k=>ret_i (by unfold rdV;rw [if_neg h1,if_neg h2,if_pos ⟨rfl,h4,h5⟩]) k
 ·exact (read4 rom kind bank ram rb on mode addr w (by omega) (by cases on <;> simp at h3 |-;omega)).mono fun e w' k=>ret_i (by unfold rdV;rw [if_neg h1,if_neg h2,if_neg h3]) k
theorem specRead_right (rom:ByteArray) (kind bank:Int) (ram:ByteArray) (rb:Int) (on:Bool) (mode:Int) (addr:Int) (w:World) (hs:rom.size<=maxLen) (h:okB rom kind bank ram rb on mode=true) (a0:0<=addr) :
  Calls prog 49 #[.agg #[.string rom,.int .i64 kind,.int .i64 bank,.string ram,.int .i64 rb,.bool on,.int .i64 mode],.int .i64 addr] w fun e w'=>e=.returned (.int .i64 (rdV rom (bank%banks rom.size) ram (ramQ kind rb mode) on addr))/\Below w.heap.size w w':=by
 obtain ⟨n,n0,n1,hn,hb,hm,b0,b1,r0,r1,m0,m1,hk⟩:=right rom kind bank ram rb on mode h
 rw [hb]
 have q0:0<=bank%(n:Int):=Int.emod_nonneg _ (by omega)
 have q1:bank%(n:Int)<n:=Int.emod_lt_of_pos _ (by omega)
 by_cases h1:addr<256
 ·exact (sread1 rom kind bank ram rb on mode addr w (by omega) a0 h1).mono fun e w' k=>ret_i (by unfold rdV;rw [if_pos h1]) k
 by_cases h2:addr<512
 ·exact (sread2 rom kind bank ram rb on mode addr n _ w hs (by omega) hb (by omega) (by omega) b0 b1 rfl q0 (by omega) (by omega) (by omega) h2).mono fun e w' k=>ret_i (by unfold rdV;rw [if_neg h1,if_pos h2]) k
 by_cases h3:on=true/\40960<=addr/\addr<41024
 ·obtain ⟨rfl,h4,h5⟩:=h3
  exact (sread3 rom kind bank ram rb mode addr _ w hm r0 r1 h4 h5 rfl).mono fun e w' k=>ret_i (by unfold rdV;rw [if_neg h1,if_neg h2,if_pos ⟨rfl,h4,h5⟩]) k
 ·exact (sread4 rom kind bank ram rb on mode addr w (by omega) (by cases on <;> simp at h3 |-;omega)).mono fun e w' k=>ret_i (by unfold rdV;rw [if_neg h1,if_neg h2,if_neg h3]) k
end CartS
namespace MachP
open Go.Deep
open CartL Outs
theorem any_cons {P:Program} {ops:Array Oper} {Q:Exit->Act->World->Prop} {md:Region.Mode} {fuel:Nat} {listed:Array Bool} {a:Act} {w:World} {i:Nat} {o:Oper} {rs:List Nat} (ho:ops[i]? = some o) (hg:o.guard=none)
  (h:∀ K':Act->World->Prop,(∀ a w,wpAny P md ops Q fuel (listed.setIfInBounds i true) a w->K' a w)->Oper.wp P o a w K' Q) (hs:AllReady P md ops Q fuel listed a w rs):AllReady P md ops Q fuel listed a w (i :: rs) :=
 AllReady.cons ho (fun K hK=>by simp only [Region.wanted,hg,if_true];exact h K hK) hs
end MachP
namespace Tmpl
open Tabs
def tmplS (code:Int) (cb:Bool):ByteArray :=
 if cb=true then
  (if code / 64=0 then at8 turns (code / 8%8) ++ ⟨#[32]⟩ ++ at8 regs (code%8)
  else at8 bitW (code / 64) ++ at8 decs (code / 8%8) ++ ⟨#[44]⟩ ++ at8 regs (code%8))
 else if code / 64=0 then LowT.lowS (code / 8%8) (code%8)
 else if code=118 then ⟨#[104,97,108,116]⟩
 else if code / 64=1 then ⟨#[108,100,32]⟩ ++ at8 regs (code / 8%8) ++ ⟨#[44]⟩ ++ at8 regs (code%8)
 else if code / 64=2 then at8 alus (code / 8%8) ++ ⟨#[32,97,44]⟩ ++ at8 regs (code%8)
 else TopT.topS (code / 8%8) (code%8)
theorem low_t (code y z:Int) (w:World) (hx:code / 64=0) (hy:code / 8%8=y) (hz:code%8=z) (h0:0<=code) (h1:code<=255) :
  Calls prog 80 #[.int .i64 code,.bool false] w fun e w'=>e=.returned (.string (LowT.lowS y z))/\Below w.heap.size w w':=by
 have c:=fun w=>LowT.low_any y z w (by omega) (by omega) (by omega) (by omega)
 generalize LowT.lowS y z=T at c |-
 go_enter func80,ntmps80
 go_wp2_with fail
 simp only [hy,hz]
 refine (c _).mono ?_
 rintro e w1 ⟨rfl,b1⟩
 have B1:Hid (Below w.heap.size w w1):=b1
 clear b1
 go_wp2
 go_ret
 exact ⟨rfl,B1.out⟩
theorem top_t (code y z:Int) (w:World) (hx:code / 64=3) (hy:code / 8%8=y) (hz:code%8=z) (h0:0<=code) (h1:code<=255) :
  Calls prog 80 #[.int .i64 code,.bool false] w fun e w'=>e=.returned (.string (TopT.topS y z))/\Below w.heap.size w w':=by
 have c:=fun w=>TopT.top_any y z w (by omega) (by omega) (by omega) (by omega)
 have hh:¬ code=118:=by omega
 generalize TopT.topS y z=T at c |-
 go_enter func80,ntmps80
 go_wp2_with fail
 simp only [hy,hz]
 refine (c _).mono ?_
 rintro e w1 ⟨rfl,b1⟩
 have B1:Hid (Below w.heap.size w w1):=b1
 clear b1
 go_wp2
 go_ret
 exact ⟨rfl,B1.out⟩
theorem template_any (code:Int) (cb:Bool) (w:World) (h0:0<=code) (h1:code<=255) :
  Calls prog 80 #[.int .i64 code,.bool cb] w fun e w'=>e=.returned (.string (tmplS code cb))/\Below w.heap.size w w':=by
 unfold tmplS
 cases cb with
 | true =>
  rw [if_pos rfl]
  by_cases h:code / 64=0
  ·rw [if_pos h];exact TmplA.turn_any code _ _ w h rfl rfl h0 h1
  ·rw [if_neg h];exact TmplA.bit_x code _ _ w _ rfl (by omega) rfl rfl h0 h1
 | false =>
  rw [if_neg (by decide)]
  by_cases h:code / 64=0
  ·rw [if_pos h];exact low_t code _ _ w h rfl rfl h0 h1
  rw [if_neg h]
  by_cases h8:code=118
  ·subst h8;rw [if_pos rfl];exact TmplA.halt_any w
  rw [if_neg h8]
  by_cases h2:code / 64=1
  ·rw [if_pos h2];exact TmplA.ld_any code _ _ w h2 h8 rfl rfl h0 h1
  rw [if_neg h2]
  by_cases h3:code / 64=2
  ·rw [if_pos h3];exact TmplA.sum_any code _ _ w h3 rfl rfl h0 h1
  rw [if_neg h3]
  exact top_t code _ _ w (by omega) rfl rfl h0 h1
end Tmpl
namespace Leng
open Signed (inB l1In_any)
open Tmpl Hole
theorem empty_yes {s:ByteArray} (h:s.size=0):s.toList.isEmpty=true:=by
 rw [ByteArray.toList_eq,List.isEmpty_iff_length_eq_zero,Array.length_toList];exact h
theorem empty_no {s:ByteArray} (h:¬ s.size=0):s.toList.isEmpty=false:=by
 rw [ByteArray.toList_eq];cases e:s.data.toList with
 | nil=>exact absurd (by have:=congrArg List.length e;rw [Array.length_toList] at this;exact this) h
 | cons _ _=>rfl
theorem tmpl_all:∀ (c:Fin 256) (b:Bool),(tmplS (c.val:Int) b).size<=40:=by decide +kernel
theorem tmpl_le (code:Int) (cb:Bool) (h0:0<=code) (h1:code<=255):(tmplS code cb).size<=40:=by
 have:=tmpl_all ⟨code.toNat,by omega⟩ cb
 rwa [show ((⟨code.toNat,by omega⟩ : Fin 256).val:Int)=code by show ((code.toNat:Nat):Int)=code;omega] at this
def NumOf (T:ByteArray) (e:Ending):Prop:=∃ n:Int,e=.returned (.int .i64 n)/\(n=0 ↔ T.size=0)/\0<=n/\n<=3
theorem length_any (code:Int) (cb:Bool) (w:World) (h0:0<=code) (h1:code<=255) :
  Calls prog 64 #[.int .i64 code,.bool cb] w fun e w'=>NumOf (tmplS code cb) e/\Below w.heap.size w w':=by
 have c:=fun w=>template_any code cb w h0 h1
 have hz:=tmpl_le code cb h0 h1
 generalize tmplS code cb=T at c hz |-
 go_enter func64,ntmps64
 go_wp2_with fail
 refine (c _).mono ?_
 rintro e w1 ⟨rfl,b1⟩
 have B1:Hid (Below w.heap.size w w1):=b1
 clear b1 c
 by_cases he:T.size=0
 ·have h':=empty_yes he
  go_wp2
  go_ret
  exact ⟨⟨0,rfl,by omega,by omega,by omega⟩,B1.out⟩
 have h':=empty_no he
 cases cb with
 | true =>
  go_wp2
  go_ret
  exact ⟨⟨2,rfl,by omega,by omega,by omega⟩,B1.out⟩
 | false =>
  go_wp2_with fail
  refine (hole_any T _ (by omega)).mono ?_
  rintro e w2 ⟨⟨i,h,rfl⟩,b2⟩
  have B2:Hid (Below w.heap.size w w2):=B1.out.trans (b2.mono B1.out.size)
  clear b2 B1
  go_wp2
  all_goals
   go_ret
   exact ⟨⟨_,rfl,by omega,by omega,by omega⟩,B2.out⟩
theorem lengthOf_any (code:Int) (cb:Bool) (w:World) (h0:0<=code) (h1:code<=255) :
  Calls prog 78 #[.int .i64 code,.bool cb] w fun e w'=>NumOf (tmplS code cb) e/\Below w.heap.size w w':=by
 have c:=fun w=>length_any code cb w h0 h1
 have hin:inB code 0 255=true:=by unfold inB;simp;omega
 have ci:=fun w=>l1In_any code 0 255 w
 rw [hin] at ci
 generalize tmplS code cb=T at c |-
 go_enter func78,ntmps78
 go_wp2_with (first|(go_at_call 45;refine (ci _).mono ?_;rintro e w' ⟨rfl,hw'⟩;have hw':=hw'.symm;subst hw')|fail)
 refine (c _).mono ?_
 rintro e w1 ⟨⟨n,rfl,hn⟩,b1⟩
 have HN:Hid _:=hn
 have B1:Hid (Below w.heap.size w w1):=b1
 clear hn b1
 go_wp2
 go_ret
 exact ⟨⟨n,rfl,HN.out⟩,B1.out⟩
theorem lengthOf_out (code:Int) (cb:Bool) (w:World) (h:inB code 0 255=false) :
  Calls prog 78 #[.int .i64 code,.bool cb] w fun e w'=>e=.returned (.int .i64 0)/\w'=w:=by
 have ci:=fun w=>l1In_any code 0 255 w
 rw [h] at ci
 go_enter func78,ntmps78
 go_wp2_with (go_at_call 45;refine (ci _).mono ?_;rintro e w' ⟨rfl,hw'⟩;have hw':=hw'.symm;subst hw')
 go_ret
 exact ⟨rfl,rfl⟩
end Leng
namespace LenX
open Signed (inB l1In_any)
open Leng (empty_yes empty_no tmpl_le)
open HoleX (n8 n16 e8 holeT holeP)
open HolI
theorem holeT_cases (s:ByteArray):holeT s=⟨#[110,56]⟩ \/ holeT s=⟨#[110,49,54]⟩ \/ holeT s=⟨#[101,56]⟩ \/ holeT s=⟨#[]⟩:=by
 unfold holeT
 split
 ·exact .inr (.inl rfl)
 split
 ·exact .inl rfl
 split
 ·exact .inr (.inr (.inl rfl))
 ·exact .inr (.inr (.inr rfl))
theorem beqN (n:Nat):(n == 0)=decide (n=0):=by by_cases h:n=0 <;> simp [h]
def lenV (z:Bool) (cb:Bool) (h:ByteArray):Int:=if z=true then 0 else if cb=true then 2 else if h.size=0 then 1 else if h=n16 then 3 else 2
def none? (code:Int) (cb:Bool):Bool:=!inB code 0 255 || (Tmpl.tmplS code cb).size == 0
def hole (code:Int) (cb:Bool):ByteArray:=holeT (Tmpl.tmplS code cb)
theorem same_all:∀ (c:Fin 256) (b:Bool),((Tmpl.tmplS (c.val:Int) b).size=0 ↔ (Shape.shapeR (c.val:Int) b).size=0)/\holeI (Shape.shapeR (c.val:Int) b)=holeT (Tmpl.tmplS (c.val:Int) b)/\(Shape.shapeR (c.val:Int) b).size<=40:=by decide +kernel
theorem same_at (code:Int) (cb:Bool) (h0:0<=code) (h1:code<=255):((Tmpl.tmplS code cb).size=0 ↔ (Shape.shapeR code cb).size=0)/\holeI (Shape.shapeR code cb)=holeT (Tmpl.tmplS code cb)/\(Shape.shapeR code cb).size<=40:=by
 have:=same_all ⟨code.toNat,by omega⟩ cb
 rwa [show ((⟨code.toNat,by omega⟩ : Fin 256).val:Int)=code by show ((code.toNat:Nat):Int)=code;omega] at this
theorem shape_in {code:Int} {cb:Bool} (h:inB code 0 255=true):Shape.shape code cb=Shape.shapeR code cb:=by unfold Shape.shape;rw [if_pos h]
theorem length_any (code:Int) (cb:Bool) (w:World) (h0:0<=code) (h1:code<=255) :
  Calls prog 64 #[.int .i64 code,.bool cb] w fun e w'=>e=.returned (.int .i64 (lenV (decide ((Tmpl.tmplS code cb).size=0)) cb (hole code cb)))/\Below w.heap.size w w':=by
 have c:=fun w=>Tmpl.template_any code cb w h0 h1
 have hz:=tmpl_le code cb h0 h1
 unfold hole
 generalize Tmpl.tmplS code cb=T at c hz |-
 by_cases he:T.size=0
 ·have h':=empty_yes he
  rw [show decide (T.size=0)=true from decide_eq_true he]
  go_enter func64,ntmps64
  go_wp2_with fail
  refine (c _).mono ?_
  rintro e w1 ⟨rfl,b1⟩
  have B1:Hid (Below w.heap.size w w1):=b1
  clear b1 c
  go_wp2
  go_ret
  exact ⟨rfl,B1.out⟩
 have h':=empty_no he
 rw [show decide (T.size=0)=false from decide_eq_false he]
 have ch:=fun w=>HoleX.hole_any T w (by omega)
 cases cb with
 | true =>
  go_enter func64,ntmps64
  go_wp2_with fail
  refine (c _).mono ?_
  rintro e w1 ⟨rfl,b1⟩
  have B1:Hid (Below w.heap.size w w1):=b1
  clear b1 c
  go_wp2
  go_ret
  exact ⟨rfl,B1.out⟩
 | false =>
  unfold HoleX.ret at ch
  rcases holeT_cases T with hx|hx|hx|hx
  all_goals
   rw [hx] at ch |-
   go_enter func64,ntmps64
   go_wp2_with fail
   refine (c _).mono ?_
   rintro e w1 ⟨rfl,b1⟩
   have B1:Hid (Below w.heap.size w w1):=b1
   clear b1 c
   go_wp2_with fail
   refine (ch _).mono ?_
   rintro e w2 ⟨rfl,b2⟩
   have B2:Hid (Below w.heap.size w w2):=B1.out.trans (b2.mono B1.out.size)
   clear b2 ch B1
   go_wp2
   go_ret
   exact ⟨rfl,B2.out⟩
theorem specLength_any (code:Int) (cb:Bool) (w:World) :
  Calls prog 78 #[.int .i64 code,.bool cb] w fun e w'=>e=.returned (.int .i64 (lenV (none? code cb) cb (hole code cb)))/\Below w.heap.size w w':=by
 cases hb:inB code 0 255
 ·have hn:none? code cb=true:=by unfold none?;rw [hb];rfl
  rw [hn]
  refine (Leng.lengthOf_out code cb w hb).mono ?_
  rintro e w' ⟨rfl,rfl⟩
  exact ⟨rfl,Below.refl _ _⟩
 obtain ⟨h0,h1⟩:=of_decide_eq_true hb
 have c:=fun w=>length_any code cb w h0 h1
 have ci:=fun w=>l1In_any code 0 255 w
 rw [hb] at ci
 have hn:none? code cb=decide ((Tmpl.tmplS code cb).size=0):=by unfold none?;rw [hb];show (_ == 0)=_;rw [beqN]
 rw [hn]
 generalize lenV (decide ((Tmpl.tmplS code cb).size=0)) cb (hole code cb)=V at c |-
 go_enter func78,ntmps78
 go_wp2_with (first|(go_at_call 45;refine (ci _).mono ?_;rintro e w' ⟨rfl,hw'⟩;have hw':=hw'.symm;subst hw')|fail)
 refine (c _).mono ?_
 rintro e w1 ⟨rfl,b1⟩
 have B1:Hid (Below w.heap.size w w1):=b1
 clear b1
 go_wp2
 go_ret
 exact ⟨rfl,B1.out⟩
end LenX
end Go.Proofs.YtfpecdgcapfgfaaGreat
