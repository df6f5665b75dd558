import Derived.Test.YteglcgnhhoenbaaGreatDoorQ20
import Derived.Test.YteglcgnhhoenbaaGreatDoorQ15
import Derived.Test.YteglcgnhhoenbaaGreatDoorQ09
import Derived.Test.YteglcgnhhoenbaaGreatDoorQ10
set_option linter.all false
set_option maxRecDepth 20000
set_option maxHeartbeats 8000000
open Go.ChangeShapes Go.WideShapes Go.ChangeAt Go.RowKit
open Go.Proofs.Tryz
namespace Go.Proofs.YteglcgnhhoenbaaGreatDoor
namespace Mact
open Go.Deep
open Carts CartK CartL Outs Mach MachT
theorem sE (ra rf rB rC rD rE rH rL sp pc:Int) (ime hal:Bool) (rom:ByteArray) (kind bank:Int) (ram:ByteArray) (rb:Int) (on:Bool) (mode:Int) (work high:ByteArray) (po:Option Addr) (L:List Int) (cap:Nat) (cyc:Int) (w:World) (hN:Row w po L) (hlen:L.length<=1048576) :
  Calls prog 22 #[.agg #[.int .i64 ra,.int .i64 rf,.int .i64 rB,.int .i64 rC,.int .i64 rD,.int .i64 rE,.int .i64 rH,.int .i64 rL,.int .i64 sp,.int .i64 pc,.bool ime,.bool hal,.string rom,.int .i64 kind,.int .i64 bank,.string ram,.int .i64 rb,.bool on,.int .i64 mode,.string work,.string high,.slice po L.length cap,.int .i64 cyc]] w fun e w'=>e=.returned (.agg #[.int .i64 ra,.int .i64 rf,.int .i64 rB,.int .i64 rC,.int .i64 rD,.int .i64 rE,.int .i64 rH,.int .i64 rL,.int .i64 sp,.int .i64 pc,.bool ime,.bool hal,.string rom,.int .i64 kind,.int .i64 bank,.string ram,.int .i64 rb,.bool on,.int .i64 mode,.string work,.string high,.slice (some ⟨w.heap.size+1+1+1+1+1+1+1+1+1,0,none⟩) L.length L.length,.int .i64 cyc])/\w'.heap[w.heap.size+1+1+1+1+1+1+1+1+1]? = some (lQ L)/\Below w.heap.size w w':=by
 have c:=fun W (h:Row W po L)=>uK po cap L W h hlen
 have HB:Hid (Row w po L):=hN;have HR:Hid (∀ W:World,(W.alloc (lQ L)).heap[W.heap.size]? = some (lQ L)):=fun W=>heap_alloc_last W _
 clear hN hlen;obtain ⟨ln,hl⟩ : ∃ ln,ln=L.length:=⟨_,rfl⟩
 obtain ⟨ro,hro⟩ : ∃ ro,ro=lQ L:=⟨_,rfl⟩
 rw [<- hro] at HR
 rw [<- hl,<- hro] at c
 rw [<- hl,<- hro];clear hl hro
 go_enter func22,ntmps22
 go_wp2_with first|(go_at_call 58;refine (aLE _ _ _ _ _ _ _ _ _ _ _ _ _).mono ?_;rintro e w' ⟨rfl,p1,p2,p3,rfl⟩)|(go_at_call 59;refine (aGL _ _ _ _ _ _ _ _).mono ?_;rintro e w' ⟨rfl,q1,q2,q3,rfl⟩)
 refine Calls.mono (c _ ?_) ?_
 ·exact HB.out.below (by repeat (with_reducible first|exact zRf|refine zGr ?_ _|refine below_drewN ?_ _|refine Below.drew ?_))
 rintro e W ⟨rfl,hW⟩;clear c HB;have hb3:Below (((w.alloc (.cells #[.int .i64 ra,.int .i64 rf,.int .i64 rB,.int .i64 rC,.int .i64 rD,.int .i64 rE,.int .i64 rH,.int .i64 rL,.int .i64 sp,.int .i64 pc,.bool ime,.bool hal,.string rom,.int .i64 kind,.int .i64 bank,.string ram,.int .i64 rb,.bool on,.int .i64 mode,.string work,.string high,.slice po ln cap,.int .i64 cyc] 51)).alloc (.cells #[.int .i64 0,.int .i64 0,.int .i64 0,.int .i64 0,.int .i64 0,.int .i64 0,.int .i64 0,.int .i64 0,.int .i64 0,.int .i64 0,.bool false,.bool false,.string ⟨#[]⟩,.int .i64 0,.int .i64 0,.string ⟨#[]⟩,.int .i64 0,.bool false,.int .i64 0,.string ⟨#[]⟩,.string ⟨#[]⟩,.slice none 0 0,.int .i64 0] 30)).alloc (.cells #[.int .i64 ra,.int .i64 rf,.int .i64 rB,.int .i64 rC,.int .i64 rD,.int .i64 rE,.int .i64 rH,.int .i64 rL,.int .i64 sp,.int .i64 pc,.bool ime,.bool hal,.string rom,.int .i64 kind,.int .i64 bank,.string ram,.int .i64 rb,.bool on,.int .i64 mode,.string work,.string high,.slice none 0 0,.int .i64 0] 30)).heap.size (((w.alloc (.cells #[.int .i64 ra,.int .i64 rf,.int .i64 rB,.int .i64 rC,.int .i64 rD,.int .i64 rE,.int .i64 rH,.int .i64 rL,.int .i64 sp,.int .i64 pc,.bool ime,.bool hal,.string rom,.int .i64 kind,.int .i64 bank,.string ram,.int .i64 rb,.bool on,.int .i64 mode,.string work,.string high,.slice po ln cap,.int .i64 cyc] 51)).alloc (.cells #[.int .i64 0,.int .i64 0,.int .i64 0,.int .i64 0,.int .i64 0,.int .i64 0,.int .i64 0,.int .i64 0,.int .i64 0,.int .i64 0,.bool false,.bool false,.string ⟨#[]⟩,.int .i64 0,.int .i64 0,.string ⟨#[]⟩,.int .i64 0,.bool false,.int .i64 0,.string ⟨#[]⟩,.string ⟨#[]⟩,.slice none 0 0,.int .i64 0] 30)).alloc (.cells #[.int .i64 ra,.int .i64 rf,.int .i64 rB,.int .i64 rC,.int .i64 rD,.int .i64 rE,.int .i64 rH,.int .i64 rL,.int .i64 sp,.int .i64 pc,.bool ime,.bool hal,.string rom,.int .i64 kind,.int .i64 bank,.string ram,.int .i64 rb,.bool on,.int .i64 mode,.string work,.string high,.slice none 0 0,.int .i64 0] 30)) W:=by
  rw [hW];exact by repeat (with_reducible first|exact zRf|refine zGr ?_ _|refine below_drewN ?_ _|refine Below.drew ?_)
 have HRow:Hid (W.heap[w.heap.size+1+1+1+1+1+1+1+1+1]? = some ro):=by
  have h:=HR.out ((((((((((w.alloc (.cells #[.int .i64 ra,.int .i64 rf,.int .i64 rB,.int .i64 rC,.int .i64 rD,.int .i64 rE,.int .i64 rH,.int .i64 rL,.int .i64 sp,.int .i64 pc,.bool ime,.bool hal,.string rom,.int .i64 kind,.int .i64 bank,.string ram,.int .i64 rb,.bool on,.int .i64 mode,.string work,.string high,.slice po ln cap,.int .i64 cyc] 51)).alloc (.cells #[.int .i64 0,.int .i64 0,.int .i64 0,.int .i64 0,.int .i64 0,.int .i64 0,.int .i64 0,.int .i64 0,.int .i64 0,.int .i64 0,.bool false,.bool false,.string ⟨#[]⟩,.int .i64 0,.int .i64 0,.string ⟨#[]⟩,.int .i64 0,.bool false,.int .i64 0,.string ⟨#[]⟩,.string ⟨#[]⟩,.slice none 0 0,.int .i64 0] 30)).alloc (.cells #[.int .i64 ra,.int .i64 rf,.int .i64 rB,.int .i64 rC,.int .i64 rD,.int .i64 rE,.int .i64 rH,.int .i64 rL,.int .i64 sp,.int .i64 pc,.bool ime,.bool hal,.string rom,.int .i64 kind,.int .i64 bank,.string ram,.int .i64 rb,.bool on,.int .i64 mode,.string work,.string high,.slice none 0 0,.int .i64 0] 30)).alloc p1).alloc p2).alloc p3).alloc q1).alloc q2).alloc q3));rw [<- hW] at h
  simp only [World.size_alloc] at h
  exact h
 have HBel:Hid (Below w.heap.size w W):=after (by repeat (with_reducible first|exact zRf|refine zGr ?_ _|refine below_drewN ?_ _|refine Below.drew ?_)) hb3;clear hW HR;obtain ⟨k1,k2,k3⟩:=bGT hb3;clear hb3;have b22:=cel k1 22 _ rfl;have c21:=cel k3 21 _ rfl;have c22:=cel k3 22 _ rfl;have f21:=fro k3 21;have f22:=fro k3 22;have K2:Hid (_=_):=k2;have K3:Hid (_=_):=k3;clear k1 k2 k3
 go_upto_region 8 with fail
 have h3:=heap_set (i:=22) (v:=.int .i64 cyc) (heap_set (i:=21) (v:=.slice (some ⟨w.heap.size+1+1+1+1+1+1+1+1+1,0,none⟩) ln ln) K3.out);have h2:=(fL (i:=22) (v:=.int .i64 cyc) (B:=w.heap.size+1+1) (B':=w.heap.size+1) (by omega) _).trans ((fL (i:=21) (v:=.slice (some ⟨w.heap.size+1+1+1+1+1+1+1+1+1,0,none⟩) ln ln) (B:=w.heap.size+1+1) (B':=w.heap.size+1) (by omega) _).trans K2.out);refine wp_region_list ?_;refine wpList_load_row rfl 30 _ rfl (w.heap.size+1+1) rfl _ _ (0,0) _ h3 underlying30 rfl (by kernel_rfl) ?_;refine wpList_store_row rfl 30 _ _ rfl (w.heap.size+1) #[.int .i64 ra,.int .i64 rf,.int .i64 rB,.int .i64 rC,.int .i64 rD,.int .i64 rE,.int .i64 rH,.int .i64 rL,.int .i64 sp,.int .i64 pc,.bool ime,.bool hal,.string rom,.int .i64 kind,.int .i64 bank,.string ram,.int .i64 rb,.bool on,.int .i64 mode,.string work,.string high,.slice (some ⟨w.heap.size+1+1+1+1+1+1+1+1+1,0,none⟩) ln ln,.int .i64 cyc] rfl rfl _ _ h2 (by kernel_rfl) rfl (by simp [Value.oneCell']) ?_;refine wpList_nil ?_;clear b22 c21 c22 f21 f22 K2 K3 h3;have HH2:Hid (_=_):=h2;clear h2;go_wp2;refine bodyPost_ret (v:=.agg #[.int .i64 ra,.int .i64 rf,.int .i64 rB,.int .i64 rC,.int .i64 rD,.int .i64 rE,.int .i64 rH,.int .i64 rL,.int .i64 sp,.int .i64 pc,.bool ime,.bool hal,.string rom,.int .i64 kind,.int .i64 bank,.string ram,.int .i64 rb,.bool on,.int .i64 mode,.string work,.string high,.slice (some ⟨w.heap.size+1+1+1+1+1+1+1+1+1,0,none⟩) ln ln,.int .i64 cyc]) (results_cell_row results22 _ _ (w.heap.size+1) _ _ (0,0) _ rfl (bG HH2.out) underlying30 rfl (by kernel_rfl)) rfl ⟨rfl,?_,?_⟩
 ·rw [aZ (by omega),fL (by omega),fL (by omega)]
  exact HRow.out
 ·exact bJ ((HBel.out.setCell (by simp;omega) _).setCell (by simp;omega) _) (by omega)
open Busw Busx Busm
theorem open_row {w:World} {B:Nat} {L:List Int} (h:w.heap[B]? = some (lQ L)):Busm.Open w (some ⟨B,0,none⟩) L.length/\Is w (some ⟨B,0,none⟩) L.length (fun i=>L.getD i 0):=by
 have hlt:B<w.heap.size:=(zLo h);have hc:∀ i (hi:i<L.length),w.cell? ⟨B,0+i,none⟩=some (.int .i64 L[i]):=fun i hi=>by
  rw [Nat.zero_add];exact cel h i _ (sR L i hi)
 exact ⟨fun i hi=>⟨B,0,rfl,hlt,⟨_,hc i hi⟩,frozen_of_row _ _ _ _ _ h⟩,fun i hi=>⟨B,0,rfl,hlt,by rw [hc i hi];simp [List.getD_eq_getElem?_getD,hi]⟩⟩
theorem jS {w:World} {B:Nat} {L:List Int} (h:w.heap[B]? = some (lQ L)) (cap:Nat):Sl w (some ⟨B,0,none⟩) L cap:=by
 have hlt:B<w.heap.size:=(zLo h);refine .inr ⟨B,0,rfl,fun i hi=>⟨hlt,?_⟩⟩;rw [Nat.zero_add];exact cel h i _ (sR L i hi)
theorem aTF (m:M) (po:Option Addr) (cap:Nat) (w:World) (hN:Row w po m.out) (hlen:m.out.length<=1048576) :
  Calls prog 22 #[.agg (aA m po cap)] w fun e w'=>∃ B,w.heap.size<=B/\e=.returned (.agg (aA m (some ⟨B,0,none⟩) m.out.length))/\w'.heap[B]? = some (lQ m.out)/\Below w.heap.size w w':=by
 rw [aT];refine (sE m.ra m.rf m.rB m.rC m.rD m.rE m.rH m.rL m.sp m.pc m.ime m.hal m.rom m.kind m.bank m.ram m.rb m.on m.mode m.work m.high po m.out cap m.cyc w hN hlen).mono ?_;rintro e w' ⟨rfl,h1,h2⟩;exact ⟨_,by omega,by rw [aT],h1,h2⟩
theorem aTG (m:M) (po po':Option Addr) (cap cap':Nat) (w:World) (hN:Row w po m.out) (hN':Row w po' m.out) (hlen:m.out.length<=1048576) :
  Calls prog 24 #[.agg (aA m po cap),.agg (aA m po' cap')] w fun e w'=>e=.returned (.bool true)/\Below w.heap.size w w':=by
 rw [aT,aT];refine (sC m.ra m.rf m.rB m.rC m.rD m.rE m.rH m.rL m.sp m.pc m.ime m.hal m.rom m.kind m.bank m.ram m.rb m.on m.mode m.work m.high po m.out cap m.cyc po' cap' w hN hN' hlen).mono ?_;rintro e w' ⟨rfl,o1,o2,o3,o4,o5,o6,n,rfl⟩;exact ⟨rfl,by repeat (with_reducible first|exact zRf|refine zGr ?_ _|refine below_drewN ?_ _|refine Below.drew ?_)⟩
end Mact
namespace Busl
open Go.Deep
open Carts CartK CartL Outs Mach MachT Busw Busx Busy Busm Mact
def Kp (n:Nat) (u W:World):Prop:=n<=W.heap.size/\∀ k,k<n->W.heap[k]? = u.heap[k]?
theorem Kp.of {u W:World} (h:Below u.heap.size u W):Kp u.heap.size u W:=⟨h.size,h.block⟩
theorem Kp.step {n:Nat} {u W W':World} (h:Kp n u W) (hb:Below W.heap.size W W'):Kp n u W':=⟨Nat.le_trans h.1 hb.size,fun k hk=>(hb.block k (Nat.lt_of_lt_of_le hk h.1)).trans (h.2 k hk)⟩
theorem bBO {u W:World} {po:Option Addr} {L:List Int} (h:Row u po L) (hk:Kp u.heap.size u W):Row W po L:=by
 rcases h with h|⟨b,off,hp,hl,hc⟩
 ·exact .inl h
 ·exact .inr ⟨b,off,hp,Nat.lt_of_lt_of_le hl hk.1,fun i hi=>(World.cell?_of_block (a:=⟨b,_,none⟩) (hk.2 b hl)).trans (hc i hi)⟩
theorem tB (m:M) (po:Option Addr) (cap:Nat):(prog.info? 51).map (·.size)=some (aA m po cap).size:=by rw [aV];kernel_rfl
theorem aMI {u W:World} {base n:Nat} {v:Value} {xs:List Value} (h:u.ownsRow base 2 1 v n xs) (hb:Below u.heap.size u W):W.ownsRow base 2 1 v n xs:=by
 rcases h with ⟨h1,h2|⟨g,c,cur,hv,hb',hg,r⟩⟩
 ·exact ⟨h1,.inl h2⟩
 ·exact ⟨h1,.inr ⟨g,c,cur,hv,hb',(hb.block g (zLo hg)).trans hg,r⟩⟩
theorem vJ {W W':World} {o:Obj} {po:Option Addr} {n k:Nat} {k0:Int} (hm:Mid (W.alloc o) W' po n k k0) {b:Nat} (hb:b<W.heap.size) (hne:∀ p,po=some p->p.block ≠ b):W'.heap[b]? = W.heap[b]? :=
 (hm.grown.block b (by simp;omega) (fun e=>by
  cases po with
  | none=>cases e
  | some p=>exact hne p rfl (Option.some.inj e).symm)).trans (aM _ _ hb)
theorem bBP {u W W':World} {o:Obj} {po:Option Addr} {n k N:Nat} {k0:Int} (h:Kp N u W) (hm:Mid (W.alloc o) W' po n k k0) (hne:∀ p,po=some p->N<=p.block):Kp N u W' :=
 ⟨by rw [hm.size];simp;exact Nat.le_trans h.1 (by omega),fun j hj=>(vJ hm (Nat.lt_of_lt_of_le hj h.1) (fun p e=>by have:=hne p e;omega)).trans (h.2 j hj)⟩
theorem aHL {w W W':World} {o:Obj} {po:Option Addr} {n k:Nat} {k0:Int} (h:Below w.heap.size w W) (hm:Mid (W.alloc o) W' po n k k0) (hne:∀ p,po=some p->w.heap.size<=p.block):Below w.heap.size w W' :=
 ⟨hm.grown.os.trans h.os,hm.grown.tape.trans h.tape,hm.grown.output.trans h.output,by rw [hm.size];simp;exact Nat.le_trans h.size (by omega),fun j hj=>(vJ hm (Nat.lt_of_lt_of_le hj h.size) (fun p e=>by have:=hne p e;omega)).trans (h.block j hj)⟩
end Busl
namespace Sta
open Go.Deep
open Signed (inB sgn aG aB)
open Busw Busx Busy Stpp Stpq Stps
abbrev Rg (f:FuncId) (args:Array Value) (W:World) (v:Value):Prop:=∀ d os,Calls prog f args (Go.Sort.grow (redrawn W d) os) fun e w''=>e=.returned v/\∃ p:Regrown,w''=Go.Sort.grow (redrawn W p.d) p.os
theorem rg {f:FuncId} {args:Array Value} {W:World} {v:Value} (h:∀ W',Below W.heap.size W W'->Calls prog f args W' fun e w'=>e=.returned v/\Below W'.heap.size W' w'):Rg f args W v:=fun d os=>Calls.regrown_of (h _ (x8 W d os))
theorem after {a w w':World} (h:Below a.heap.size a w) (k:Below w.heap.size w w'):Below a.heap.size a w':=h.trans (k.mono h.size)
theorem hlS (g:SG) (m:M) (full:Bool) (w:World) (h:InS g w m full) (hg:Stpq.Good m) :
  Calls prog 123 #[.pointer (some ⟨g.X,0,none⟩)] w fun e w'=>e=.returned (.int .i64 (hl m))/\Below w.heap.size w w':=by
 have h1:=hg.h;have h2:=hg.l;have d1:IntKind.i64.wrap (256*m.rH)=256*m.rH:=by rw [x6];omega
 have d2:IntKind.i64.wrap (256*m.rH+m.rL)=256*m.rH+m.rL:=by rw [x6];omega
 have q_rH:=h.cell 6 _ rfl;have q_rL:=h.cell 7 _ rfl;clear h hg h1 h2
 go_enter func123,ntmps123
 go_wp2_with fail
 go_quiet (fail)
 go_wp2;go_ret;exact ⟨rfl,by repeat (with_reducible first|exact zRf|refine zGr ?_ _|refine below_drewN ?_ _|refine Below.drew ?_)⟩
theorem gE (g:SG) (m:M) (full:Bool) (addr v:Int) (w:World) (h:InS g w m full) (hr:Rt m) (a0:0<=addr) (v0:0<=v) (v1:v<=255) :
  Calls prog 119 #[.pointer (some ⟨g.X,0,none⟩),.int .i64 addr,.int .i64 v] w fun e w'=>e=.returned (.tuple #[])/\InS g w' (wr ⟨m,full⟩ addr v).m (wr ⟨m,full⟩ addr v).full:=by
 obtain ⟨po,cap,hA⟩:=h;have hq:0<=addr%65536/\addr%65536<=65535:=by omega
 have c1:=aBW m po cap (addr%65536) v w hr hA.sl (x9 hq) (x9 ⟨v0,v1⟩);have hl:=hA.load (W':=w) rfl;have d1:addr.tmod 65536=addr%65536:=x4 a0;have HA:Hid (SAt g w m full po cap):=hA;have hz:=fM;have HWR:Hid (wr ⟨m,full⟩ addr v=match wrM m (addr%65536) v with|some m'=>⟨m',full⟩|none=>⟨m,true⟩):=rfl;generalize wr ⟨m,full⟩ addr v=t at *
 obtain ⟨rr,hrr⟩ : ∃ r,r=wrM m (addr%65536) v:=⟨_,rfl⟩
 rw [<- hrr] at c1 HWR
 clear hrr hA hr hq;generalize addr%65536=aq at *
 obtain ⟨cZ,hcZ⟩ : ∃ c,c=aA Z0 none 0:=⟨_,rfl⟩
 have HZ:Hid (cZ=aA Z0 none 0):=hcZ;rw [<- hcZ] at hz
 clear hcZ
 go_enter func119,ntmps119
 go_upto_region 0 with fail
 refine wp_region_list ?_;refine wpList_plain rfl (fun K hK=>?_);go_simp;refine hK _ _ ?_;clear hK;refine wpList_plain rfl (fun K hK=>?_);go_simp;refine hK _ _ ?_;clear hK;refine wpList_plain rfl (fun K hK=>?_);go_simp;refine hK _ _ ?_;clear hK;refine dO rfl 30 _ rfl ⟨g.X,0,none⟩ rfl _ hl ?_
 go_wp2_with fail
 refine Calls.mono c1 ?_;rintro e w1 ⟨hc,hb1⟩;obtain ⟨m',po',cap',ok,hok,rfl,hsl,hmm⟩ : ∃ m' po' cap' ok,t=⟨m',full || !ok⟩/\e=.returned (.tuple #[.agg (aA m' po' cap'),.bool ok])/\Sl w1 po' m'.out cap'/\(∀ p,po'=some p->p.block ≠ g.X):=by
  rcases hc with ⟨m',po',cap',hr,he,hs,hfr⟩|⟨hr,he⟩
  ·refine ⟨m',po',cap',true,?_,he,hs,?_⟩
   ·rw [HWR.out,hr];simp
   ·intro p hp
    rcases hfr with rfl|hfr
    ·exact HA.out.ne p hp
    ·have h1:=hfr p hp
     have h2:=HA.out.lt;omega
  ·refine ⟨m,po,cap,false,?_,he,HA.out.sl.below hb1,HA.out.ne⟩
   rw [HWR.out,hr];simp
 have HS1:Hid (Sl w1 po' m'.out cap'/\∀ p,po'=some p->p.block ≠ g.X):=⟨hsl,hmm⟩;have HB1:Hid (Below w.heap.size w w1):=hb1;have HXX:Hid (w1.heap[g.X]? = some (.cells (eS m po cap full) 112 (0,0))):=(hb1.block _ HA.out.lt).trans HA.out.box;have HT:Hid (t=⟨m',full || !ok⟩):=hok;clear hc hsl hmm hb1 HWR c1 hl hok
 rename_i hK
 refine hK _ _ ?_;clear hK;refine wpList_plain rfl (fun K hK=>?_);go_simp;refine hK _ _ ?_;clear hK;refine wpList_plain rfl (fun K hK=>?_);go_simp;refine hK _ _ ?_;clear hK;refine wpList_plain rfl (fun K hK=>?_);go_simp;refine hK _ _ ?_;clear hK;refine wpList_plain rfl (fun K hK=>?_);go_simp;refine hK _ _ ?_;clear hK;refine wpList_store_row rfl 30 _ _ rfl w1.heap.size (aA m' po' cap') rfl rfl _ _ (heap_alloc_last w1 _) (aP _ _ _) (by rw [HZ.out,aV,aV]) (dS _ _ _) ?_;rw [World.setRow_alloc_new];obtain ⟨u1,hu1⟩ : ∃ u,u=w1.alloc (.cells (aA m' po' cap') 30):=⟨_,rfl⟩
 have HU:Hid (u1.heap[w1.heap.size]? = some (.cells (aA m' po' cap') 30)/\u1.heap[g.X]? = some (.cells (eS m po cap full) 112 (0,0))/\Below w.heap.size w u1/\Sl u1 po' m'.out cap'/\g.X<w1.heap.size):=by
  have hx:=(zLo HXX.out);have hbb:Below w1.heap.size w1 u1:=by rw [hu1];exact zAl _ _
  exact ⟨by rw [hu1];exact heap_alloc_last w1 _,(hbb.block _ hx).trans HXX.out,after HB1.out hbb,HS1.out.1.below hbb,hx⟩
 obtain ⟨bM,hbM⟩ : ∃ b,b=w1.heap.size:=⟨_,rfl⟩
 rw [<- hu1,<- hbM];rw [<- hbM] at HU
 clear hu1 hbM HXX HB1
 go_upto_region 1 with fail
 refine wp_region_list ?_;refine wpList_plain rfl (fun K hK=>?_);go_simp;refine hK _ _ ?_;clear hK;refine wpList_load_row rfl 30 _ rfl bM rfl _ _ (0,0) _ HU.out.1 underlying30 rfl (aP _ _ _) ?_;refine wpList_plain rfl (fun K hK=>?_);go_simp;refine hK _ _ ?_;clear hK;refine wpList_plain rfl (fun K hK=>?_);go_simp;refine hK _ _ ?_;clear hK;refine nH rfl 30 _ _ rfl g.X (aA m' po' cap') rfl rfl _ _ HU.out.2.1 (aP _ _ _) (by rw [aV,bBI];decide) (dS _ _ _) ?_;rw [bBH];obtain ⟨u2,hu2⟩ : ∃ u,u=u1.setRow g.X (eS m' po' cap' full):=⟨_,rfl⟩
 have HI:Hid (InS g u2 m' full):=by
  obtain ⟨h1,h2,h3,h4,h5⟩:=HU.out;rw [hu2];refine ⟨po',cap',MachT.bG h2,?_,HS1.out.2,?_⟩
  ·exact xY h4 HS1.out.2 (cH _ _ _)
  ·exact gA (gA HA.out.grown (below_grown h3)) (cH _ _ _)
 rw [<- hu2];clear hu2 HU HS1 HA;have q:=HI.out.cellFull;have f:=HI.out.fro 23;have HF:Hid (InS g (u2.setCell ⟨g.X,23,none⟩ (.bool (full || !ok))) m' (full || !ok)):=HI.out.setFull _;clear HI;refine wpList_nil ?_
 cases full <;> cases ok
 all_goals
  go_wp2
  go_end0
  exact ⟨rfl,by rw [HT.out];exact HF.out⟩
theorem aMJ (g:SG) (m:M) (full:Bool) (w:World) (h:InS g w m full) :
  Calls prog 85 #[.pointer (some ⟨g.X,0,none⟩),.int .i64 0] w fun e w'=>e=.returned (.int .i64 (m.rB))/\Below w.heap.size w w':=by
 have q_ra:=h.cell 0 _ rfl;have q_rf:=h.cell 1 _ rfl;have q_rB:=h.cell 2 _ rfl;have q_rC:=h.cell 3 _ rfl;have q_rD:=h.cell 4 _ rfl;have q_rE:=h.cell 5 _ rfl;have q_rH:=h.cell 6 _ rfl;have q_rL:=h.cell 7 _ rfl;have q_sp:=h.cell 8 _ rfl;have q_pc:=h.cell 9 _ rfl;have q_ime:=h.cell 10 _ rfl;have q_hal:=h.cell 11 _ rfl;have hl:=h.lt;clear h
 go_enter func85,ntmps85
 go_wp2;go_ret;exact ⟨rfl,by repeat (with_reducible first|exact zRf|refine zGr ?_ _|refine below_drewN ?_ _|refine Below.drew ?_)⟩
theorem aMK (g:SG) (m:M) (full:Bool) (w:World) (h:InS g w m full) :
  Calls prog 85 #[.pointer (some ⟨g.X,0,none⟩),.int .i64 1] w fun e w'=>e=.returned (.int .i64 (m.rC))/\Below w.heap.size w w':=by
 have q_ra:=h.cell 0 _ rfl;have q_rf:=h.cell 1 _ rfl;have q_rB:=h.cell 2 _ rfl;have q_rC:=h.cell 3 _ rfl;have q_rD:=h.cell 4 _ rfl;have q_rE:=h.cell 5 _ rfl;have q_rH:=h.cell 6 _ rfl;have q_rL:=h.cell 7 _ rfl;have q_sp:=h.cell 8 _ rfl;have q_pc:=h.cell 9 _ rfl;have q_ime:=h.cell 10 _ rfl;have q_hal:=h.cell 11 _ rfl;have hl:=h.lt;clear h
 go_enter func85,ntmps85
 go_wp2;go_ret;exact ⟨rfl,by repeat (with_reducible first|exact zRf|refine zGr ?_ _|refine below_drewN ?_ _|refine Below.drew ?_)⟩
theorem aML (g:SG) (m:M) (full:Bool) (w:World) (h:InS g w m full) :
  Calls prog 85 #[.pointer (some ⟨g.X,0,none⟩),.int .i64 2] w fun e w'=>e=.returned (.int .i64 (m.rD))/\Below w.heap.size w w':=by
 have q_ra:=h.cell 0 _ rfl;have q_rf:=h.cell 1 _ rfl;have q_rB:=h.cell 2 _ rfl;have q_rC:=h.cell 3 _ rfl;have q_rD:=h.cell 4 _ rfl;have q_rE:=h.cell 5 _ rfl;have q_rH:=h.cell 6 _ rfl;have q_rL:=h.cell 7 _ rfl;have q_sp:=h.cell 8 _ rfl;have q_pc:=h.cell 9 _ rfl;have q_ime:=h.cell 10 _ rfl;have q_hal:=h.cell 11 _ rfl;have hl:=h.lt;clear h
 go_enter func85,ntmps85
 go_wp2;go_ret;exact ⟨rfl,by repeat (with_reducible first|exact zRf|refine zGr ?_ _|refine below_drewN ?_ _|refine Below.drew ?_)⟩
theorem aMM (g:SG) (m:M) (full:Bool) (w:World) (h:InS g w m full) :
  Calls prog 85 #[.pointer (some ⟨g.X,0,none⟩),.int .i64 3] w fun e w'=>e=.returned (.int .i64 (m.rE))/\Below w.heap.size w w':=by
 have q_ra:=h.cell 0 _ rfl;have q_rf:=h.cell 1 _ rfl;have q_rB:=h.cell 2 _ rfl;have q_rC:=h.cell 3 _ rfl;have q_rD:=h.cell 4 _ rfl;have q_rE:=h.cell 5 _ rfl;have q_rH:=h.cell 6 _ rfl;have q_rL:=h.cell 7 _ rfl;have q_sp:=h.cell 8 _ rfl;have q_pc:=h.cell 9 _ rfl;have q_ime:=h.cell 10 _ rfl;have q_hal:=h.cell 11 _ rfl;have hl:=h.lt;clear h
 go_enter func85,ntmps85
 go_wp2;go_ret;exact ⟨rfl,by repeat (with_reducible first|exact zRf|refine zGr ?_ _|refine below_drewN ?_ _|refine Below.drew ?_)⟩
theorem aMN (g:SG) (m:M) (full:Bool) (w:World) (h:InS g w m full) :
  Calls prog 85 #[.pointer (some ⟨g.X,0,none⟩),.int .i64 4] w fun e w'=>e=.returned (.int .i64 (m.rH))/\Below w.heap.size w w':=by
 have q_ra:=h.cell 0 _ rfl;have q_rf:=h.cell 1 _ rfl;have q_rB:=h.cell 2 _ rfl;have q_rC:=h.cell 3 _ rfl;have q_rD:=h.cell 4 _ rfl;have q_rE:=h.cell 5 _ rfl;have q_rH:=h.cell 6 _ rfl;have q_rL:=h.cell 7 _ rfl;have q_sp:=h.cell 8 _ rfl;have q_pc:=h.cell 9 _ rfl;have q_ime:=h.cell 10 _ rfl;have q_hal:=h.cell 11 _ rfl;have hl:=h.lt;clear h
 go_enter func85,ntmps85
 go_wp2;go_ret;exact ⟨rfl,by repeat (with_reducible first|exact zRf|refine zGr ?_ _|refine below_drewN ?_ _|refine Below.drew ?_)⟩
theorem aMO (g:SG) (m:M) (full:Bool) (w:World) (h:InS g w m full) :
  Calls prog 85 #[.pointer (some ⟨g.X,0,none⟩),.int .i64 5] w fun e w'=>e=.returned (.int .i64 (m.rL))/\Below w.heap.size w w':=by
 have q_ra:=h.cell 0 _ rfl;have q_rf:=h.cell 1 _ rfl;have q_rB:=h.cell 2 _ rfl;have q_rC:=h.cell 3 _ rfl;have q_rD:=h.cell 4 _ rfl;have q_rE:=h.cell 5 _ rfl;have q_rH:=h.cell 6 _ rfl;have q_rL:=h.cell 7 _ rfl;have q_sp:=h.cell 8 _ rfl;have q_pc:=h.cell 9 _ rfl;have q_ime:=h.cell 10 _ rfl;have q_hal:=h.cell 11 _ rfl;have hl:=h.lt;clear h
 go_enter func85,ntmps85
 go_wp2;go_ret;exact ⟨rfl,by repeat (with_reducible first|exact zRf|refine zGr ?_ _|refine below_drewN ?_ _|refine Below.drew ?_)⟩
theorem bHB (g:SG) (m:M) (full:Bool) (w:World) (h:InS g w m full) :
  Calls prog 85 #[.pointer (some ⟨g.X,0,none⟩),.int .i64 7] w fun e w'=>e=.returned (.int .i64 (m.ra))/\Below w.heap.size w w':=by
 have q_ra:=h.cell 0 _ rfl;have q_rf:=h.cell 1 _ rfl;have q_rB:=h.cell 2 _ rfl;have q_rC:=h.cell 3 _ rfl;have q_rD:=h.cell 4 _ rfl;have q_rE:=h.cell 5 _ rfl;have q_rH:=h.cell 6 _ rfl;have q_rL:=h.cell 7 _ rfl;have q_sp:=h.cell 8 _ rfl;have q_pc:=h.cell 9 _ rfl;have q_ime:=h.cell 10 _ rfl;have q_hal:=h.cell 11 _ rfl;have hl:=h.lt;clear h
 go_enter func85,ntmps85
 go_wp2;go_ret;exact ⟨rfl,by repeat (with_reducible first|exact zRf|refine zGr ?_ _|refine below_drewN ?_ _|refine Below.drew ?_)⟩
theorem bHC (g:SG) (m:M) (full:Bool) (w:World) (h:InS g w m full) (hg:Stpq.Good m) :
  Calls prog 85 #[.pointer (some ⟨g.X,0,none⟩),.int .i64 6] w fun e w'=>e=.returned (.int .i64 (rd m (hl m)))/\Below w.heap.size w w':=by
 have q_ra:=h.cell 0 _ rfl;have q_rf:=h.cell 1 _ rfl;have q_rB:=h.cell 2 _ rfl;have q_rC:=h.cell 3 _ rfl;have q_rD:=h.cell 4 _ rfl;have q_rE:=h.cell 5 _ rfl;have q_rH:=h.cell 6 _ rfl;have q_rL:=h.cell 7 _ rfl;have q_sp:=h.cell 8 _ rfl;have q_pc:=h.cell 9 _ rfl;have q_ime:=h.cell 10 _ rfl;have q_hal:=h.cell 11 _ rfl;have hlt:=h.lt;obtain ⟨o,ho⟩ : ∃ o:Obj,o=.cells #[.int .i64 m.ra,.int .i64 m.rf,.int .i64 m.rB,.int .i64 m.rC,.int .i64 m.rD,.int .i64 m.rE,.int .i64 m.rH,.int .i64 m.rL,.int .i64 m.sp,.int .i64 m.pc,.bool m.ime,.bool m.hal] 25:=⟨_,rfl⟩
 have hIA:InS g (w.alloc o) m full:=h.below (zAl _ _);have HI:Hid (InS g (w.alloc o) m full):=hIA;obtain ⟨po,cap,hA⟩:=hIA;have hb:=jZ hg;have c1:Rg 123 #[.pointer (some ⟨g.X,0,none⟩)] (w.alloc o) (.int .i64 (hl m)):=rg fun W hb=>hlS g m full W (HI.out.below hb) hg
 have c2:Rg 100 #[.agg (aA m po cap),.int .i64 (hl m)] (w.alloc o) (.int .i64 (rd m (hl m))):=rg fun W hb'=>eN m po cap (hl m) W hg.rt hb.1
 have hld:∀ d os,(loadVar 30 ⟨g.X,0,none⟩).run prog (Go.Sort.grow (redrawn (w.alloc o) d) os)=.ok (.agg (aA m po cap)) (Go.Sort.grow (redrawn (w.alloc o) d) os):=fun d os=>hA.load ((x8 (w.alloc o) d os).block _ hA.lt)
 have HBW:Hid (Below w.heap.size w (w.alloc o)):=zAl _ _;generalize rd m (hl m)=r at *
 generalize hl m=a at *
 generalize aA m po cap=cM at *
 clear h hg hb hA
 go_enter func85,ntmps85
 go_upto_region 3 with fail
 rw [<- ho];clear ho;refine wp_region_quiet_below (by kernel_rfl) (by kernel_rfl) ?_
 repeat (first|(go_big_quiet_step (first|with_reducible exact c1 _ _|with_reducible exact c2 _ _))|(refine aK (by rfl) 30 _ rfl ⟨g.X,0,none⟩ rfl _ (fun W hW=>by obtain ⟨⟨d,o⟩,rfl⟩:=hW;exact hld d o) ?_;simp only [Act.put,List.setIfInBounds_toArray,List.set_cons_succ,List.set_cons_zero]))
 refine wpQuiet_nil ?_;intro _ hw';obtain ⟨⟨dq,osq⟩,hw''⟩:=hw';subst hw'';have H2:Hid (InS g (Go.Sort.grow (redrawn (w.alloc o) dq) osq) m full):=HI.out.below (x8 (w.alloc o) dq osq);have hbg:Below (w.alloc o).heap.size (w.alloc o) (Go.Sort.grow (redrawn (w.alloc o) dq) osq):=x8 (w.alloc o) dq osq;generalize Go.Sort.grow (redrawn (w.alloc o) dq) osq=W2 at *
 clear HI c1 c2 hld;have HB2:Hid (Below w.heap.size w W2):=after HBW.out hbg;clear hbg;go_wp2;go_ret;exact ⟨rfl,HB2.out⟩
theorem yA (g:SG) (m:M) (full:Bool) (n:Int) (w:World) (h:InS g w m full) (hg:Stpq.Good m) (n0:0<=n) (n1:n<=7) :
  Calls prog 85 #[.pointer (some ⟨g.X,0,none⟩),.int .i64 n] w fun e w'=>e=.returned (.int .i64 (Stpp.get m n))/\Below w.heap.size w w':=by
 have hn:n=0 \/ n=1 \/ n=2 \/ n=3 \/ n=4 \/ n=5 \/ n=6 \/ n=7:=by omega
 rcases hn with rfl|rfl|rfl|rfl|rfl|rfl|rfl|rfl
 ·exact aMJ g m full w h
 ·exact aMK g m full w h
 ·exact aML g m full w h
 ·exact aMM g m full w h
 ·exact aMN g m full w h
 ·exact aMO g m full w h
 ·exact bHC g m full w h hg
 ·exact bHB g m full w h
theorem aMP (g:SG) (m:M) (full:Bool) (v:Int) (w:World) (h:InS g w m full) :
  Calls prog 84 #[.pointer (some ⟨g.X,0,none⟩),.int .i64 0,.int .i64 v] w fun e w'=>e=.returned (.tuple #[])/\InS g w' { m with rB:=v } full:=by
 have q:=h.cell 2 _ rfl;have f:=h.fro 2;have HF:Hid (InS g (w.setCell ⟨g.X,2,none⟩ (.int .i64 v)) { m with rB:=v } full):=h.s_rB v;clear h
 go_enter func84,ntmps84
 go_wp2
 go_end0
 exact ⟨rfl,HF.out⟩
theorem aMQ (g:SG) (m:M) (full:Bool) (v:Int) (w:World) (h:InS g w m full) :
  Calls prog 84 #[.pointer (some ⟨g.X,0,none⟩),.int .i64 1,.int .i64 v] w fun e w'=>e=.returned (.tuple #[])/\InS g w' { m with rC:=v } full:=by
 have q:=h.cell 3 _ rfl;have f:=h.fro 3;have HF:Hid (InS g (w.setCell ⟨g.X,3,none⟩ (.int .i64 v)) { m with rC:=v } full):=h.s_rC v;clear h
 go_enter func84,ntmps84
 go_wp2
 go_end0
 exact ⟨rfl,HF.out⟩
theorem aMR (g:SG) (m:M) (full:Bool) (v:Int) (w:World) (h:InS g w m full) :
  Calls prog 84 #[.pointer (some ⟨g.X,0,none⟩),.int .i64 2,.int .i64 v] w fun e w'=>e=.returned (.tuple #[])/\InS g w' { m with rD:=v } full:=by
 have q:=h.cell 4 _ rfl;have f:=h.fro 4;have HF:Hid (InS g (w.setCell ⟨g.X,4,none⟩ (.int .i64 v)) { m with rD:=v } full):=h.s_rD v;clear h
 go_enter func84,ntmps84
 go_wp2
 go_end0
 exact ⟨rfl,HF.out⟩
theorem aMS (g:SG) (m:M) (full:Bool) (v:Int) (w:World) (h:InS g w m full) :
  Calls prog 84 #[.pointer (some ⟨g.X,0,none⟩),.int .i64 3,.int .i64 v] w fun e w'=>e=.returned (.tuple #[])/\InS g w' { m with rE:=v } full:=by
 have q:=h.cell 5 _ rfl;have f:=h.fro 5;have HF:Hid (InS g (w.setCell ⟨g.X,5,none⟩ (.int .i64 v)) { m with rE:=v } full):=h.s_rE v;clear h
 go_enter func84,ntmps84
 go_wp2
 go_end0
 exact ⟨rfl,HF.out⟩
theorem aMT (g:SG) (m:M) (full:Bool) (v:Int) (w:World) (h:InS g w m full) :
  Calls prog 84 #[.pointer (some ⟨g.X,0,none⟩),.int .i64 4,.int .i64 v] w fun e w'=>e=.returned (.tuple #[])/\InS g w' { m with rH:=v } full:=by
 have q:=h.cell 6 _ rfl;have f:=h.fro 6;have HF:Hid (InS g (w.setCell ⟨g.X,6,none⟩ (.int .i64 v)) { m with rH:=v } full):=h.s_rH v;clear h
 go_enter func84,ntmps84
 go_wp2
 go_end0
 exact ⟨rfl,HF.out⟩
theorem aMU (g:SG) (m:M) (full:Bool) (v:Int) (w:World) (h:InS g w m full) :
  Calls prog 84 #[.pointer (some ⟨g.X,0,none⟩),.int .i64 5,.int .i64 v] w fun e w'=>e=.returned (.tuple #[])/\InS g w' { m with rL:=v } full:=by
 have q:=h.cell 7 _ rfl;have f:=h.fro 7;have HF:Hid (InS g (w.setCell ⟨g.X,7,none⟩ (.int .i64 v)) { m with rL:=v } full):=h.s_rL v;clear h
 go_enter func84,ntmps84
 go_wp2
 go_end0
 exact ⟨rfl,HF.out⟩
theorem bHD (g:SG) (m:M) (full:Bool) (v:Int) (w:World) (h:InS g w m full) :
  Calls prog 84 #[.pointer (some ⟨g.X,0,none⟩),.int .i64 7,.int .i64 v] w fun e w'=>e=.returned (.tuple #[])/\InS g w' { m with ra:=v } full:=by
 have q:=h.cell 0 _ rfl;have f:=h.fro 0;have HF:Hid (InS g (w.setCell ⟨g.X,0,none⟩ (.int .i64 v)) { m with ra:=v } full):=h.s_ra v;clear h
 go_enter func84,ntmps84
 go_wp2
 go_end0
 exact ⟨rfl,HF.out⟩
theorem bHE (g:SG) (m:M) (full:Bool) (v:Int) (w:World) (h:InS g w m full) (hg:Stpq.Good m) (v0:0<=v) (v1:v<=255) :
  Calls prog 84 #[.pointer (some ⟨g.X,0,none⟩),.int .i64 6,.int .i64 v] w fun e w'=>e=.returned (.tuple #[])/\InS g w' (wr ⟨m,full⟩ (hl m) v).m (wr ⟨m,full⟩ (hl m) v).full:=by
 have c1:=hlS g m full w h hg;have HC:Hid (∀ W,InS g W m full->Calls prog 119 #[.pointer (some ⟨g.X,0,none⟩),.int .i64 (hl m),.int .i64 v] W fun e w'=>e=.returned (.tuple #[])/\InS g w' (wr ⟨m,full⟩ (hl m) v).m (wr ⟨m,full⟩ (hl m) v).full):=fun W hi=>gE g m full _ _ W hi hg.rt (jZ hg).1 v0 v1
 have HI:Hid (InS g w m full):=h;generalize wr ⟨m,full⟩ (hl m) v=t at *
 generalize hl m=a at *
 clear h hg v0 v1
 go_enter func84,ntmps84
 go_wp2_with fail
 refine Calls.mono c1 ?_;rintro e w1 ⟨rfl,hb1⟩;have H1:=zHd (HI.out.below hb1);clear hb1 HI c1
 go_wp2_with fail
 refine Calls.mono (HC.out _ H1.out) ?_;rintro e w2 ⟨rfl,hi2⟩;have H2:Hid (InS g w2 t.m t.full):=hi2;clear hi2 H1 HC;go_wp2
 go_end0
 exact ⟨rfl,H2.out⟩
theorem aCC (g:SG) (m:M) (full:Bool) (n v:Int) (w:World) (h:InS g w m full) (hg:Stpq.Good m) (n0:0<=n) (n1:n<=7) (v0:0<=v) (v1:v<=255) :
  Calls prog 84 #[.pointer (some ⟨g.X,0,none⟩),.int .i64 n,.int .i64 v] w fun e w'=>e=.returned (.tuple #[])/\InS g w' (put ⟨m,full⟩ n v).m (put ⟨m,full⟩ n v).full:=by
 have hn:n=0 \/ n=1 \/ n=2 \/ n=3 \/ n=4 \/ n=5 \/ n=6 \/ n=7:=by omega
 rcases hn with rfl|rfl|rfl|rfl|rfl|rfl|rfl|rfl
 ·exact aMP g m full v w h
 ·exact aMQ g m full v w h
 ·exact aMR g m full v w h
 ·exact aMS g m full v w h
 ·exact aMT g m full v w h
 ·exact aMU g m full v w h
 ·exact bHE g m full v w h hg v0 v1
 ·exact bHD g m full v w h
end Sta
namespace CycO
open Signed (inB aG)
open CycD CycE CycS CycQ Cyc Leng Tmpl
theorem aMV (code:Int) (t:Bool) (w:World) (y z:Int) (hx:code / 64=3) (hy:code / 8%8=y) (hz:code%8=z) (h0:0<=code) (h1:code<=255) (hl:Len code false) :
  Calls prog 88 #[.int .i64 code,.bool false,.bool t] w fun e w'=>e=.returned (.int .i64 (aAU y z t))/\Below w.heap.size w w':=by
 have hh:¬ code=118:=by omega
 have q118:(code == 118)=false:=by simpa using hh
 have c:=fun w=>aAV y z t w (by omega) (by omega) (by omega) (by omega)
 generalize aAU y z t=T at c |-
 go_enter func88,ntmps88
 go_wp2_with fail
 refine (hl _).mono ?_;rintro e w1 ⟨⟨n,rfl,hn⟩,b1⟩;have hn':(n == 0)=false:=by simpa using hn
 have B1:Hid (Below w.heap.size w w1):=b1;clear b1 hl
 go_wp2_with fail
 simp only [hy,hz];refine (c _).mono ?_;rintro e w2 ⟨rfl,b2⟩;have B2:Hid (Below w.heap.size w w2):=B1.out.trans (b2.mono B1.out.size);clear b2 B1;go_wp2;go_ret;exact ⟨rfl,B2.out⟩
theorem yB (code:Int) (cb t:Bool) (w:World) (h0:0<=code) (h1:code<=255) (hl:Len code cb) :
  Calls prog 88 #[.int .i64 code,.bool cb,.bool t] w fun e w'=>e=.returned (.int .i64 (oK code cb t))/\Below w.heap.size w w':=by
 unfold oK
 cases cb with
 | true =>
  rw [if_pos rfl];unfold mP
  by_cases hz:code%8=6
  ·rw [if_pos hz]
   by_cases hx:code / 64=1
   ·rw [if_pos hx];exact aLQ code t w hz hx h0 h1 hl
   ·rw [if_neg hx];exact aLR code t w hz hx h0 h1 hl
  ·rw [if_neg hz];exact aLP code t w hz h0 h1 hl
 | false =>
  rw [if_neg (by decide)]
  by_cases hx:code / 64=0
  ·rw [if_pos hx]
   have e:code / 8%8*8+code%8=code:=by omega
   have h:=aLO (code / 8%8) (code%8) t w (by omega) (by omega) (by omega) (by omega) (by rw [e];exact hl);rw [e] at h
   exact h
  rw [if_neg hx]
  by_cases h3:code / 64=3
  ·rw [if_pos h3];exact aMV code t w _ _ h3 rfl rfl h0 h1 hl
  rw [if_neg h3]
  by_cases h8:code=118
  ·rw [if_pos h8];exact aHD code t w h8 h0 h1 hl
  rw [if_neg h8]
  by_cases hz:code%8=6
  ·rw [if_pos hz]
   by_cases h2:code / 64=1
   ·exact aSM code t w h2 h8 hz h0 h1 hl
   ·exact aSP code t w (by omega) hz h0 h1 hl
  rw [if_neg hz]
  by_cases h2:code / 64=1
  ·by_cases hy:code / 8%8=6
   ·rw [if_pos ⟨h2,hy⟩];exact aSN code t w h2 h8 hy h0 h1 hl
   ·rw [if_neg (fun h=>hy h.2)];exact aSO code t w h2 hy hz h0 h1 hl
  ·rw [if_neg (fun h=>h2 h.1)];exact aSQ code t w (by omega) hz h0 h1 hl
end CycO
namespace CycP
open Signed (inB aG)
open CycD CycA CycB Cyc Leng CycQ
def Shp (code:Int) (cb:Bool):Prop:=∀ w,Calls prog 96 #[.int .i64 code,.bool cb] w fun e w'=>(∃ s:ByteArray,e=.returned (.string s)/\¬ s.size=0)/\Below w.heap.size w w'
def Prt (code x y z p q:Int):Prop:=∀ w,Calls prog 94 #[.int .i64 code] w fun e w'=>e=.returned (.agg #[.int .i64 x,.int .i64 y,.int .i64 z,.int .i64 p,.int .i64 q])/\Below w.heap.size w w'
theorem vA (code x y z p q:Int) (t:Bool) (w:World)  (hs:Shp code true) (hp:Prt code x y z p q) :
  Calls prog 92 #[.int .i64 code,.bool true,.bool t] w fun e w'=>e=.returned (.int .i64 (mP x z))/\Below w.heap.size w w':=by
 have c:=fun w=>oF x y z p q w
 generalize mP x z=T at c |-
 go_enter func92,ntmps92
 go_wp2_with fail
 refine (hs _).mono ?_;rintro e w1 ⟨⟨s,rfl,hs0⟩,b1⟩;have he:=dQ hs0;have B1:Hid (Below w.heap.size w w1):=b1;clear b1 hs
 go_wp2_with fail
 refine (hp _).mono ?_;rintro e w2 ⟨rfl,b2⟩;have B2:Hid (Below w.heap.size w w2):=B1.out.trans (b2.mono B1.out.size);clear b2 hp B1 he hs0
 go_wp2_with fail
 refine (c _).mono ?_;rintro e w3 ⟨rfl,b3⟩;have B3:Hid (Below w.heap.size w w3):=(mY B2.out _).trans (b3.mono (by have:=B2.out.size;first|omega|(simp;omega)));clear b3 B2;go_wp2;go_ret;exact ⟨rfl,B3.out⟩
theorem aMW (code y z p q:Int) (t:Bool) (w:World) (hq:q=y%2) (y0:0<=y) (y1:y<=7) (z0:0<=z) (z1:z<=7) (hs:Shp code false) (hp:Prt code 0 y z p q) :
  Calls prog 92 #[.int .i64 code,.bool false,.bool t] w fun e w'=>e=.returned (.int .i64 (aKO y z t))/\Below w.heap.size w w':=by
 have c:=fun w=>sA 0 y z p q t w hq y0 y1 z0 z1
 generalize aKO y z t=T at c |-
 clear hq y0 y1 z0 z1
 go_enter func92,ntmps92
 go_wp2_with fail
 refine (hs _).mono ?_;rintro e w1 ⟨⟨s,rfl,hs0⟩,b1⟩;have he:=dQ hs0;have B1:Hid (Below w.heap.size w w1):=b1;clear b1 hs
 go_wp2_with fail
 refine (hp _).mono ?_;rintro e w2 ⟨rfl,b2⟩;have B2:Hid (Below w.heap.size w w2):=B1.out.trans (b2.mono B1.out.size);clear b2 hp B1 he hs0
 go_wp2_with fail
 refine (c _).mono ?_;rintro e w3 ⟨rfl,b3⟩;have B3:Hid (Below w.heap.size w w3):=(mY B2.out _).trans (b3.mono (by have:=B2.out.size;first|omega|(simp;omega)));clear b3 B2;go_wp2;go_ret;exact ⟨rfl,B3.out⟩
theorem aMX (code y z p q:Int) (t:Bool) (w:World) (hq:q=y%2) (y0:0<=y) (y1:y<=7) (z0:0<=z) (z1:z<=7) (hg:¬ xC y z=true) (hs:Shp code false) (hp:Prt code 3 y z p q) :
  Calls prog 92 #[.int .i64 code,.bool false,.bool t] w fun e w'=>e=.returned (.int .i64 (aAU y z t))/\Below w.heap.size w w':=by
 have c:=fun w=>qN 3 y z p q t w hq y0 y1 z0 z1 hg
 generalize aAU y z t=T at c |-
 clear hq y0 y1 z0 z1 hg
 go_enter func92,ntmps92
 go_wp2_with fail
 refine (hs _).mono ?_;rintro e w1 ⟨⟨s,rfl,hs0⟩,b1⟩;have he:=dQ hs0;have B1:Hid (Below w.heap.size w w1):=b1;clear b1 hs
 go_wp2_with fail
 refine (hp _).mono ?_;rintro e w2 ⟨rfl,b2⟩;have B2:Hid (Below w.heap.size w w2):=B1.out.trans (b2.mono B1.out.size);clear b2 hp B1 he hs0
 go_wp2_with fail
 refine (c _).mono ?_;rintro e w3 ⟨rfl,b3⟩;have B3:Hid (Below w.heap.size w w3):=(mY B2.out _).trans (b3.mono (by have:=B2.out.size;first|omega|(simp;omega)));clear b3 B2;go_wp2;go_ret;exact ⟨rfl,B3.out⟩
theorem aHM (code x y z p q:Int) (t:Bool) (w:World) (hx0:¬ x=0) (hx3:¬ x=3) (hc:code=118) (hs:Shp code false) (hp:Prt code x y z p q) :
  Calls prog 92 #[.int .i64 code,.bool false,.bool t] w fun e w'=>e=.returned (.int .i64 (1))/\Below w.heap.size w w':=by
 subst hc;have qx0:(x == 0)=false:=by simpa using hx0
 have qx3:(x == 3)=false:=by simpa using hx3
 go_enter func92,ntmps92
 go_wp2_with fail
 refine (hs _).mono ?_;rintro e w1 ⟨⟨s,rfl,hs0⟩,b1⟩;have he:=dQ hs0;have B1:Hid (Below w.heap.size w w1):=b1;clear b1 hs
 go_wp2_with fail
 refine (hp _).mono ?_;rintro e w2 ⟨rfl,b2⟩;have B2:Hid (Below w.heap.size w w2):=B1.out.trans (b2.mono B1.out.size);clear b2 hp B1 he hs0;go_wp2;go_ret;refine ⟨rfl,?_⟩
 with_reducible first|exact B2.out|exact mY B2.out _
theorem bBQ (code x y p q:Int) (t:Bool) (w:World) (hx0:¬ x=0) (hx3:¬ x=3) (hh:¬ code=118) (hs:Shp code false) (hp:Prt code x y 6 p q) :
  Calls prog 92 #[.int .i64 code,.bool false,.bool t] w fun e w'=>e=.returned (.int .i64 (2))/\Below w.heap.size w w':=by
 have qx0:(x == 0)=false:=by simpa using hx0
 have qx3:(x == 3)=false:=by simpa using hx3
 have q118:(code == 118)=false:=by simpa using hh
 go_enter func92,ntmps92
 go_wp2_with fail
 refine (hs _).mono ?_;rintro e w1 ⟨⟨s,rfl,hs0⟩,b1⟩;have he:=dQ hs0;have B1:Hid (Below w.heap.size w w1):=b1;clear b1 hs
 go_wp2_with fail
 refine (hp _).mono ?_;rintro e w2 ⟨rfl,b2⟩;have B2:Hid (Below w.heap.size w w2):=B1.out.trans (b2.mono B1.out.size);clear b2 hp B1 he hs0;go_wp2;go_ret;refine ⟨rfl,?_⟩
 with_reducible first|exact B2.out|exact mY B2.out _
theorem bBR (code z p q:Int) (t:Bool) (w:World) (hh:¬ code=118) (hz:¬ z=6) (hs:Shp code false) (hp:Prt code 1 6 z p q) :
  Calls prog 92 #[.int .i64 code,.bool false,.bool t] w fun e w'=>e=.returned (.int .i64 (2))/\Below w.heap.size w w':=by
 have q118:(code == 118)=false:=by simpa using hh
 have qz:(z == 6)=false:=by simpa using hz
 go_enter func92,ntmps92
 go_wp2_with fail
 refine (hs _).mono ?_;rintro e w1 ⟨⟨s,rfl,hs0⟩,b1⟩;have he:=dQ hs0;have B1:Hid (Below w.heap.size w w1):=b1;clear b1 hs
 go_wp2_with fail
 refine (hp _).mono ?_;rintro e w2 ⟨rfl,b2⟩;have B2:Hid (Below w.heap.size w w2):=B1.out.trans (b2.mono B1.out.size);clear b2 hp B1 he hs0;go_wp2;go_ret;refine ⟨rfl,?_⟩
 with_reducible first|exact B2.out|exact mY B2.out _
theorem aTH (code y z p q:Int) (t:Bool) (w:World) (hh:¬ code=118) (hz:¬ z=6) (hy:¬ y=6) (hs:Shp code false) (hp:Prt code 1 y z p q) :
  Calls prog 92 #[.int .i64 code,.bool false,.bool t] w fun e w'=>e=.returned (.int .i64 (1))/\Below w.heap.size w w':=by
 have q118:(code == 118)=false:=by simpa using hh
 have qz:(z == 6)=false:=by simpa using hz
 have qy:(y == 6)=false:=by simpa using hy
 go_enter func92,ntmps92
 go_wp2_with fail
 refine (hs _).mono ?_;rintro e w1 ⟨⟨s,rfl,hs0⟩,b1⟩;have he:=dQ hs0;have B1:Hid (Below w.heap.size w w1):=b1;clear b1 hs
 go_wp2_with fail
 refine (hp _).mono ?_;rintro e w2 ⟨rfl,b2⟩;have B2:Hid (Below w.heap.size w w2):=B1.out.trans (b2.mono B1.out.size);clear b2 hp B1 he hs0;go_wp2;go_ret;refine ⟨rfl,?_⟩
 with_reducible first|exact B2.out|exact mY B2.out _
theorem aTI (code y z p q:Int) (t:Bool) (w:World) (hh:¬ code=118) (hz:¬ z=6) (hs:Shp code false) (hp:Prt code 2 y z p q) :
  Calls prog 92 #[.int .i64 code,.bool false,.bool t] w fun e w'=>e=.returned (.int .i64 (1))/\Below w.heap.size w w':=by
 have q118:(code == 118)=false:=by simpa using hh
 have qz:(z == 6)=false:=by simpa using hz
 go_enter func92,ntmps92
 go_wp2_with fail
 refine (hs _).mono ?_;rintro e w1 ⟨⟨s,rfl,hs0⟩,b1⟩;have he:=dQ hs0;have B1:Hid (Below w.heap.size w w1):=b1;clear b1 hs
 go_wp2_with fail
 refine (hp _).mono ?_;rintro e w2 ⟨rfl,b2⟩;have B2:Hid (Below w.heap.size w w2):=B1.out.trans (b2.mono B1.out.size);clear b2 hp B1 he hs0;go_wp2;go_ret;refine ⟨rfl,?_⟩
 with_reducible first|exact B2.out|exact mY B2.out _
theorem aMY (code:Int) (cb t:Bool) (w:World) (h0:0<=code) (h1:code<=255) (hs:Shp code cb) (hg:cb=false->code / 64=3->¬ xC (code / 8%8) (code%8)=true) :
  Calls prog 92 #[.int .i64 code,.bool cb,.bool t] w fun e w'=>e=.returned (.int .i64 (oK code cb t))/\Below w.heap.size w w':=by
 have hp:Prt code (code / 64) (code / 8%8) (code%8) (code / 8%8 / 2) (code / 8%8%2):=fun w=>Shape.eJ code w h0 h1
 unfold oK
 cases cb with
 | true =>
  rw [if_pos rfl];exact vA code _ _ _ _ _ t w hs hp
 | false =>
  rw [if_neg (by decide)]
  by_cases hx:code / 64=0
  ·rw [if_pos hx];rw [hx] at hp;exact aMW code _ _ _ _ t w rfl (by omega) (by omega) (by omega) (by omega) hs hp
  rw [if_neg hx]
  by_cases h3:code / 64=3
  ·rw [if_pos h3];have hg':=hg rfl h3;rw [h3] at hp;exact aMX code _ _ _ _ t w rfl (by omega) (by omega) (by omega) (by omega) hg' hs hp
  rw [if_neg h3]
  by_cases h8:code=118
  ·rw [if_pos h8];exact aHM code _ _ _ _ _ t w hx h3 h8 hs hp
  rw [if_neg h8]
  by_cases hz:code%8=6
  ·rw [if_pos hz];rw [hz] at hp;exact bBQ code _ _ _ _ t w hx h3 h8 hs hp
  rw [if_neg hz]
  by_cases h2:code / 64=1
  ·rw [h2] at hp
   by_cases hy:code / 8%8=6
   ·rw [if_pos ⟨h2,hy⟩];rw [hy] at hp;exact bBR code _ _ _ t w h8 hz hs hp
   ·rw [if_neg (fun h=>hy h.2)];exact aTH code _ _ _ _ t w h8 hz hy hs hp
  ·have h4:code / 64=2:=by omega
   rw [h4] at hp
   rw [if_neg (fun h=>h2 h.1)];exact aTI code _ _ _ _ t w h8 hz hs hp
end CycP
namespace CycX
open Signed (inB)
theorem aMZ:∀ (c:Fin 256) (b:Bool),((Tmpl.aY (c.val:Int) b).size=0 ↔ (Shape.cC (c.val:Int) b).size=0)/\((Tmpl.aY (c.val:Int) b).size ≠ 0->b=false->(c.val:Int) / 64=3->¬ CycD.xC ((c.val:Int) / 8%8) ((c.val:Int)%8)=true):=by decide +kernel
theorem both (code:Int) (cb:Bool) (h0:0<=code) (h1:code<=255):((Tmpl.aY code cb).size=0 ↔ (Shape.cC code cb).size=0)/\((Tmpl.aY code cb).size ≠ 0->cb=false->code / 64=3->¬ CycD.xC (code / 8%8) (code%8)=true):=by
 have:=aMZ ⟨code.toNat,by omega⟩ cb
 rwa [show ((⟨code.toNat,by omega⟩ : Fin 256).val:Int)=code by show ((code.toNat:Nat):Int)=code;omega] at this
theorem iT {code:Int} {cb:Bool} (h:inB code 0 255=true):Shape.shape code cb=Shape.cC code cb:=by unfold Shape.shape;rw [if_pos h]
theorem lD {code:Int} {cb:Bool} (h:inB code 0 255=false):Shape.shape code cb=⟨#[]⟩:=by unfold Shape.shape;rw [h];rfl
def Sp (code:Int) (cb t:Bool) (v:Int):Prop:=∀ w,Calls prog 88 #[.int .i64 code,.bool cb,.bool t] w fun e w'=>e=.returned (.int .i64 v)/\Below w.heap.size w w'
def Im (code:Int) (cb t:Bool) (v:Int):Prop:=∀ w,Calls prog 92 #[.int .i64 code,.bool cb,.bool t] w fun e w'=>e=.returned (.int .i64 v)/\Below w.heap.size w w'
theorem lL (code:Int) (cb t:Bool) (hl:∀ w,Calls prog 131 #[.int .i64 code,.bool cb] w fun e w'=>e=.returned (.int .i64 0)/\Below w.heap.size w w'):Sp code cb t 0:=fun w=>by
 go_enter func88,ntmps88
 go_wp2_with fail
 refine (hl _).mono ?_;rintro e w1 ⟨rfl,b1⟩;have B1:Hid (Below w.heap.size w w1):=b1;clear b1 hl;go_wp2;go_ret;exact ⟨rfl,B1.out⟩
theorem tC (code:Int) (cb t:Bool) (hs:(Shape.shape code cb).size=0):Im code cb t 0:=fun w=>by
 have c:=fun w=>Shape.dW code cb w
 have he:=Leng.fC hs;generalize Shape.shape code cb=T at c he
 go_enter func92,ntmps92
 go_wp2_with fail
 refine (c _).mono ?_;rintro e w1 ⟨rfl,b1⟩;have B1:Hid (Below w.heap.size w w1):=b1;clear b1 c;go_wp2;go_ret;exact ⟨rfl,B1.out⟩
def cyc (code:Int) (cb t:Bool):Int:=if LenX.bV code cb=true then 0 else CycQ.oK code cb t
theorem sp (code:Int) (cb t:Bool):Sp code cb t (cyc code cb t):=by
 cases hb:inB code 0 255
 ·have hn:LenX.bV code cb=true:=by unfold LenX.bV;rw [hb];rfl
  have hc:cyc code cb t=0:=by unfold cyc;rw [if_pos hn]
  rw [hc];refine lL code cb t (fun w=>(Leng.jM code cb w hb).mono ?_);rintro e w' ⟨he,hw⟩;exact ⟨he,by rw [hw];exact zRf⟩
 obtain ⟨h0,h1⟩:=u7 hb
 by_cases hz:(Tmpl.aY code cb).size=0
 ·have hn:LenX.bV code cb=true:=by unfold LenX.bV;rw [hz];simp
  have hc:cyc code cb t=0:=by unfold cyc;rw [if_pos hn]
  rw [hc];refine lL code cb t (fun w=>(Leng.gI code cb w h0 h1).mono ?_);rintro e w' ⟨⟨n,rfl,hn,_⟩,hw⟩;exact ⟨by rw [hn.2 hz],hw⟩
 ·have hn:LenX.bV code cb=false:=by unfold LenX.bV;rw [hb];simp [hz]
  have hc:cyc code cb t=CycQ.oK code cb t:=by unfold cyc;rw [hn];rfl
  rw [hc];refine fun w=>CycO.yB code cb t w h0 h1 (fun w=>(Leng.gI code cb w h0 h1).mono ?_)
  rintro e w' ⟨⟨n,rfl,hn,_⟩,hw⟩;exact ⟨⟨n,rfl,fun h=>hz (hn.1 h)⟩,hw⟩
theorem same (code:Int) (cb t:Bool):Sp code cb t (cyc code cb t)/\Im code cb t (cyc code cb t):=by
 cases hb:inB code 0 255
 ·have hn:LenX.bV code cb=true:=by unfold LenX.bV;rw [hb];rfl
  have hc:cyc code cb t=0:=by unfold cyc;rw [if_pos hn]
  rw [hc];refine ⟨lL code cb t (fun w=>(Leng.jM code cb w hb).mono ?_),tC code cb t ?_⟩
  ·rintro e w' ⟨he,hw⟩
   exact ⟨he,by rw [hw];exact zRf⟩
  ·rw [lD hb];rfl
 obtain ⟨h0,h1⟩:=u7 hb;obtain ⟨h2,h3⟩:=both code cb h0 h1
 by_cases hz:(Tmpl.aY code cb).size=0
 ·have hn:LenX.bV code cb=true:=by unfold LenX.bV;rw [hz];simp
  have hc:cyc code cb t=0:=by unfold cyc;rw [if_pos hn]
  rw [hc];refine ⟨lL code cb t (fun w=>(Leng.gI code cb w h0 h1).mono ?_),tC code cb t ?_⟩
  ·rintro e w' ⟨⟨n,rfl,hn,_⟩,hw⟩
   exact ⟨by rw [hn.2 hz],hw⟩
  ·rw [iT hb];exact h2.1 hz
 ·have hn:LenX.bV code cb=false:=by unfold LenX.bV;rw [hb];simp [hz]
  have hc:cyc code cb t=CycQ.oK code cb t:=by unfold cyc;rw [hn];rfl
  rw [hc];refine ⟨fun w=>CycO.yB code cb t w h0 h1 (fun w=>(Leng.gI code cb w h0 h1).mono ?_),fun w=>CycP.aMY code cb t w h0 h1 (fun w=>(Shape.dW code cb w).mono ?_) (h3 hz)⟩
  ·rintro e w' ⟨⟨n,rfl,hn,_⟩,hw⟩
   exact ⟨⟨n,rfl,fun h=>hz (hn.1 h)⟩,hw⟩
  ·rintro e w' ⟨rfl,hw⟩
   exact ⟨⟨_,rfl,fun h=>hz (h2.2 (by rwa [iT hb] at h))⟩,hw⟩
theorem aHN:∀ (c:Fin 256) (b t:Bool),LenX.bV (c.val:Int) b=false->0<CycQ.oK (c.val:Int) b t/\CycQ.oK (c.val:Int) b t<7/\CycQ.oK (c.val:Int) b false<=CycQ.oK (c.val:Int) b true:=by decide +kernel
theorem range (code:Int) (cb t:Bool) (h0:0<=code) (h1:code<=255) (h:LenX.bV code cb=false):0<cyc code cb t/\cyc code cb t<7/\cyc code cb false<=cyc code cb true:=by
 have:=aHN ⟨code.toNat,by omega⟩ cb t
 rw [show ((⟨code.toNat,by omega⟩ : Fin 256).val:Int)=code by show ((code.toNat:Nat):Int)=code;omega] at this
 unfold cyc;rw [h];exact this h
end CycX
end Go.Proofs.YteglcgnhhoenbaaGreatDoor
