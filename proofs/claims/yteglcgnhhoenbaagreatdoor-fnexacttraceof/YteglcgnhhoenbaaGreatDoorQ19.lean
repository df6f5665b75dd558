import Derived.Test.YteglcgnhhoenbaaGreatDoorQ18
import Derived.Laws.AppendOwnNone
set_option linter.all false
set_option maxRecDepth 20000
set_option maxHeartbeats 8000000
open Go.ChangeShapes Go.WideShapes Go.ChangeAt Go.RowKit
open Go.Proofs.Tryz
namespace Go.Proofs.YteglcgnhhoenbaaGreatDoor
namespace Busy
open Go.Deep
open Signed (inB aG aB aC aE)
open Carts CartK CartL CartM CartP CartR CartW CartX CartY Outs Mach MachT MachO MachK MachB Busw Busx
theorem sU {ops:Array Oper} {rest:List Oper} {o:Oper} {a:Act} {w:World} {Q:Exit->Act->World->Prop} (hgd:o.guard=none) (s x:Operand) (ho:o.op=.call { callee:=.builtin .append,args:=#[s,x],argTypes:=#[28,28] })
  (base:Nat) (v:Value) (n:Nat) (xs:List Value) (hs:a.eval s=v) (hown:w.ownsRow base 2 1 v n xs) (po:Option Addr) (L:List Int) (cap:Nat) (hx:a.eval x=.slice po L.length cap) (hsl:Sl w po L cap) (hn:n+L.length<=2097152) (hbase:base<=w.heap.size)
  (h:∀ v' w',w'.ownsRow base 2 1 v' (n+L.length) (xs ++ dJ L)->w.grownBy w' v.ownBlock->wpList prog ops Q rest (a.put o.dst v') w'):wpList prog ops Q (o :: rest) a w:=by
 obtain ⟨i0,hi,hz0,hz1,hz2⟩:=Busw.info_parts Busw.aEQ;rcases hsl with ⟨rfl,rfl,rfl⟩|⟨b,off,rfl,hc⟩
 ·refine wpList_append_own_none hgd s x 28 ho base 2 i0 1 underlying28 hi v n xs hs hown hx (h v w ?_ ⟨rfl,rfl,rfl,Nat.le_refl _,fun _ _ _=>rfl⟩)
  simpa [dJ] using hown
 ·refine wpList_append_own _ hgd s x 28 ho base 2 i0 (.int .i64 0) 1 8 underlying28 hi hz0 hz1 hz2 rfl (by decide) v n xs hs hown ⟨b,off,none⟩ L.length cap (dJ L) hx (by simp [dJ]) ?_ ?_ (by unfold maxLen;omega) (by omega) hbase (fun v' w' h1 h2 _=>h v' w' h1 h2)
  ·intro j u hu
   unfold dJ at hu
   rw [List.getElem?_map] at hu
   obtain ⟨z,hz,rfl⟩:=Option.map_eq_some_iff.1 hu;obtain ⟨hj,rfl⟩:=List.getElem?_eq_some_iff.1 hz;have e:(⟨b,off,none⟩ : Addr).add j=⟨b,off+j,none⟩:=by unfold Addr.add;split <;> simp_all
   rw [e];exact (hc j hj).2
  ·intro u hu
   obtain ⟨z,_,rfl⟩:=List.mem_map.1 hu;rfl
theorem sV {w:World} {base n:Nat} {v:Value} {xs:List Value} (h:w.ownsRow base 2 1 v n xs):∃ po cap,v=.slice po n cap:=by
 rcases h.2 with ⟨rfl,h0⟩|⟨g,cap',cur,hv,_⟩
 ·exact ⟨none,0,by rw [h0]⟩
 ·exact ⟨_,_,hv⟩
structure Two (w W:World) (m:M) (po:Option Addr) (cap:Nat) (cZ:Array Value):Prop where
 box:W.heap[w.heap.size]? = some (.cells (aA m po cap) 30 (0,0))
 res:W.heap[w.heap.size+1]? = some (.cells cZ 30 (0,0))
 bel:Below w.heap.size w W
theorem Two.lt {w W:World} {m:M} {po:Option Addr} {cap:Nat} {cZ:Array Value} (h:Two w W m po cap cZ):w.heap.size+1<W.heap.size:=(zLo h.res)
theorem gM (w:World) (m:M) (po:Option Addr) (cap:Nat) (cM cZ:Array Value) (h:cM=aA m po cap):Two w ((w.alloc (.cells cM 30)).alloc (.cells cZ 30)) m po cap cZ:=by
 subst h;refine ⟨by rw [Below.heap_alloc _ _ _ (by simp)];exact heap_alloc_last w _,?_,by repeat (with_reducible first|exact zRf|refine zGr ?_ _|refine below_drewN ?_ _|refine Below.drew ?_)⟩;have h2:=heap_alloc_last (w.alloc (.cells (aA m po cap) 30)) (.cells cZ 30);simp only [World.size_alloc] at h2
 exact h2
theorem Two.step {w W W':World} {m:M} {po:Option Addr} {cap:Nat} {cZ:Array Value} (h:Two w W m po cap cZ) (hb:Below W.heap.size W W'):Two w W' m po cap cZ :=
 ⟨(hb.block _ (by have:=h.lt;omega)).trans h.box,(hb.block _ h.lt).trans h.res,after h.bel hb⟩
theorem Two.cellAt {w W:World} {m:M} {po:Option Addr} {cap:Nat} {cZ:Array Value} (h:Two w W m po cap cZ) (i:Nat) (v:Value) (hv:(#[.int .i64 m.ra,.int .i64 m.rf,.int .i64 m.rB,.int .i64 m.rC,.int .i64 m.rD,.int .i64 m.rE,.int .i64 m.rH,.int .i64 m.rL,.int .i64 m.sp,.int .i64 m.pc,.bool m.ime,.bool m.hal,.string m.rom,.int .i64 m.kind,.int .i64 m.bank,.string m.ram,.int .i64 m.rb,.bool m.on,.int .i64 m.mode,.string m.work,.string m.high,.slice po m.out.length cap,.int .i64 m.cyc]:Array Value)[i]? = some v):W.cell? ⟨w.heap.size,i,none⟩=some v/\W.frozen? ⟨w.heap.size,i,none⟩=false :=
 ⟨eM h.box i v hv,frozen_of_row _ _ _ _ _ h.box⟩
theorem Two.turn {w W W':World} {m m':M} {po po':Option Addr} {cap cap':Nat} {cZ:Array Value} (h:Two w W m po cap cZ) (hg:W.grownBy W' (some w.heap.size)) (hbox:W'.heap[w.heap.size]? = some (.cells (aA m' po' cap') 30 (0,0))):Two w W' m' po' cap' cZ :=
 ⟨hbox,(hg.block _ h.lt (by simp)).trans h.res,h.bel.trans ⟨hg.os,hg.tape,hg.output,hg.size,fun k hk=>hg.block k (by have:=h.lt;omega) (by simp;omega)⟩⟩
theorem Two.last {w W:World} {m:M} {po:Option Addr} {cap:Nat} {cZ:Array Value} (h:Two w W m po cap cZ):(W.setRow (w.heap.size+1) (aA m po cap)).heap[w.heap.size+1]? = some (.cells (aA m po cap) 30)/\Below w.heap.size w (W.setRow (w.heap.size+1) (aA m po cap)) :=
 ⟨bG h.res,bJ h.bel (by omega)⟩
theorem Two.grown {w W W6:World} {m:M} {po:Option Addr} {cap:Nat} {cZ:Array Value} (h:Two w W m po cap cZ) (o:Obj) (hg:(W.alloc o).grownBy W6 (some W.heap.size)):Two w W6 m po cap cZ :=
 h.step ⟨hg.os,hg.tape,hg.output,by have:=hg.size;simp at this;omega,fun k hk=>(hg.block k (by simp;omega) (by simp;omega)).trans (aM _ _ hk)⟩
theorem Two.put {w W:World} {m:M} {po:Option Addr} {cap:Nat} {cZ:Array Value} (h:Two w W m po cap cZ) (L:List Int) (n:Nat) (hn:n=L.length) (po':Option Addr) (cap':Nat) {xs:List Value} (hown:W.ownsRow w.heap.size 2 1 (.slice po' n cap') n xs) :
  Two w (W.setCell ⟨w.heap.size,21,none⟩ (.slice po' n cap')) { m with out:=L } po' cap' cZ/\((W.setCell ⟨w.heap.size,21,none⟩ (.slice po' n cap')).setRow (w.heap.size+1) (aA { m with out:=L } po' cap')).ownsRow w.heap.size 2 1 (.slice po' n cap') n xs:=by
 have hg:W.grownBy (W.setCell ⟨w.heap.size,21,none⟩ (.slice po' n cap')) (some w.heap.size):=⟨rfl,rfl,rfl,by rw [Busw.dB];exact Nat.le_refl _,fun k _ hk=>Below.heap_setCell _ _ _ _ (fun e=>hk (by rw [e]))⟩;have h2:=h.turn hg (aBU h.box L n hn po' cap');have o2:=World.ownsRow.kept (row:=some w.heap.size) hown hg (.inr (dK hown h.box));exact ⟨h2,World.ownsRow.kept (row:=some (w.heap.size+1)) o2 (cH _ _ _) (.inr (dK o2 h2.res))⟩
theorem nC (m:M) (po:Option Addr) (cap:Nat) (w:World) (hlen:m.out.length<=1048576) (hN:Sl w po m.out cap) :
  Calls prog 43 #[.agg (aA m po cap)] w fun e w'=>(∃ po' cap',e=.returned (.agg (aA m po' cap'))/\w'.ownsRow w.heap.size 2 1 (.slice po' m.out.length cap') m.out.length (dJ m.out))/\Below w.heap.size w w':=by
 have hz:=fM;have H0:Hid (∀ W,Below w.heap.size w W->Sl W po m.out cap):=fun W h=>hN.below h
 have HL:Hid (m.out.length<=1048576):=hlen;clear hN hlen;obtain ⟨cM,hcM⟩ : ∃ c,c=aA m po cap:=⟨_,rfl⟩
 obtain ⟨cZ,hcZ⟩ : ∃ c,c=aA Z0 none 0:=⟨_,rfl⟩
 have HM:Hid (cM=aA m po cap):=hcM;have HZ:Hid (cZ=aA Z0 none 0):=hcZ;rw [<- hcM];rw [<- hcZ] at hz
 clear hcM hcZ
 go_enter func43,ntmps43
 go_upto_region 1 with fail
 have h2:=gM w m po cap cM cZ HM.out;generalize (w.alloc (.cells cM 30)).alloc (.cells cZ 30)=W0 at *
 have H2:Hid (Two w W0 m po cap cZ):=h2;obtain ⟨q21,f21⟩:=h2.cellAt 21 (.slice po m.out.length cap) rfl;have hlt:=h2.lt;have hlt0:w.heap.size<W0.heap.size:=by omega
 clear h2 hz
 go_wp2_with (at_builtin;refine sU rfl _ _ rfl w.heap.size _ 0 [] rfl (World.ownsRow_lit W0 #[] 0 ?c1 (Nat.zero_le _) rfl) po m.out cap rfl ?c2 ?c3 ?c4 ?_)
 case c1=>omega
 case c2=>exact H0.out _ (grow H2.out.bel _)
 case c3=>have:=HL.out;omega
 case c4=>simp;omega
 intro v' W6 hown hgrow;obtain ⟨po',cap',rfl⟩:=sV hown;have h6:=H2.out.grown _ hgrow;obtain ⟨q6,f6⟩:=h6.cellAt 21 (.slice po m.out.length cap) rfl;have H7:Hid _:=h6.put m.out _ rfl po' cap' hown;clear h6 hown hgrow
 go_upto_region 2 with fail
 refine wp_region_list ?_;refine wpList_load_row rfl 30 _ rfl w.heap.size rfl _ _ (0,0) _ H7.out.1.box underlying30 rfl (aP _ _ _) ?_;refine wpList_store_row rfl 30 _ _ rfl (w.heap.size+1) _ rfl rfl _ _ H7.out.1.res (aP _ _ _) (by rw [HZ.out,aV,aV]) (dS _ _ _) ?_;go_wp2;exact bodyPost_ret (v:=.agg (aA m po' cap')) (results_cell_row results43 _ _ (w.heap.size+1) _ _ (0,0) _ rfl H7.out.1.last.1 underlying30 rfl (aP _ _ _)) rfl ⟨⟨po',cap',rfl,H7.out.2⟩,H7.out.1.last.2⟩
theorem Two.grown2 {w W W6:World} {m:M} {po:Option Addr} {cap n:Nat} {cZ:Array Value} {v:Value} {xs:List Value} (h:Two w W m po cap cZ) (hown:W.ownsRow w.heap.size 2 1 v n xs) (o:Obj) (hg:(W.alloc o).grownBy W6 v.ownBlock):Two w W6 m po cap cZ :=
 ⟨(hg.block _ (by simp;have:=h.lt;omega) (fun e=>dK hown h.box e.symm)).trans ((aM _ _ (by have:=h.lt;omega)).trans h.box),
 (hg.block _ (by simp;have:=h.lt;omega) (fun e=>dK hown h.res e.symm)).trans ((aM _ _ h.lt).trans h.res),
 h.bel.trans ⟨hg.os,hg.tape,hg.output,by have:=hg.size;simp at this;omega,fun k hk=>(hg.block k (by simp;have:=h.lt;omega) (fun e=>by have:=(hown.lt k e.symm).1;omega)).trans (aM _ _ (by have:=h.lt;omega))⟩⟩
def sW (w w':World) (m:M) (po:Option Addr) (cap:Nat) (r:Option M) (e:Ending):Prop :=
 ((∃ m' po' cap',r=some m'/\e=.returned (.tuple #[.agg (aA m' po' cap'),.bool true])/\Sl w' po' m'.out cap'/\(po'=po \/ ∀ p,po'=some p->w.heap.size<=p.block)) \/ (r=none/\e=.returned (.tuple #[.agg (aA m po cap),.bool false])))/\Below w.heap.size w w'
theorem aLZ {w:World} {base n cap:Nat} {po:Option Addr} {L:List Int} (h:w.ownsRow base 2 1 (.slice po n cap) n (dJ L)) (hn:n=L.length):Sl w po L cap:=by
 subst hn;rcases h.2 with ⟨h0,hl⟩|⟨g,c,cur,hv,hb,hg,h1,h2,h3,h4⟩
 ·injection h0 with e1 e2 e3
  exact .inl ⟨e1,List.length_eq_zero_iff.1 hl,e3⟩
 ·cases hv
  refine .inr ⟨g,0,rfl,fun i hi=>⟨(zLo hg),?_⟩⟩;have hc:cur[i]? = some (.int .i64 L[i]):=by
   have e:(dJ L)[i]? = some (.int .i64 L[i]):=by simp [dJ,hi]
   rw [<- h4,Nat.mul_one,List.getElem?_take_of_lt hi] at e
   simpa using e
  rw [Nat.zero_add];exact cel hg i _ hc
theorem aSU (m:M) (po:Option Addr) (cap:Nat) (addr v:Int) (w:World) (hr:Rt m) (hN:Sl w po m.out cap) (a0:inB addr 49152 49407=true) (v0:inB v 0 255=true) :
  Calls prog 161 #[.agg (aA m po cap),.int .i64 addr,.int .i64 v] w fun e w'=>sW w w' m po cap (wrM m addr v) e:=by
 have hz:=fM;have H0:Hid (∀ W,Below w.heap.size w W->Sl W po m.out cap):=fun W h=>hN.below h
 obtain ⟨q0,q1⟩:=u7 a0;obtain ⟨u0,u1⟩:=u7 v0;have c2:=fun w=>mR m.work 256 hr.work (by decide) (addr-49152) v (by omega) (by omega) u0 u1 w
 obtain ⟨r,hrr⟩ : ∃ r,r=wrM m addr v:=⟨_,rfl⟩
 have HRR:Hid (r=wrM m addr v):=hrr;rw [<- hrr];clear hrr;obtain ⟨cM,hcM⟩ : ∃ c,c=aA m po cap:=⟨_,rfl⟩
 obtain ⟨cZ,hcZ⟩ : ∃ c,c=aA Z0 none 0:=⟨_,rfl⟩
 have HM:Hid (cM=aA m po cap):=hcM;have HZ:Hid (cZ=aA Z0 none 0):=hcZ;rw [<- hcM];rw [<- hcZ] at hz
 clear hcM hcZ hN
 go_enter func161,ntmps161
 go_upto_region 2 with fail
 have h2:=gM w m po cap cM cZ HM.out;generalize (w.alloc (.cells cM 30)).alloc (.cells cZ 30)=W0 at *
 have H2:Hid (Two w W0 m po cap cZ):=h2;have hlt:=h2.lt;have hlt0:w.heap.size<W0.heap.size:=by omega
 obtain ⟨q,f⟩:=h2.cellAt 19 (.string m.work) rfl;obtain ⟨m',HQ0,hout,HE0⟩ : ∃ m',wrM m addr v=some m'/\m'.out=m.out/\∀ o,Two w ((W0.setCell ⟨w.heap.size,19,none⟩ (.string (fK m.work (addr-49152) v))).alloc o).drew m' po cap cZ :=
  ⟨{ m with work:=fK m.work (addr-49152) v },by unfold wrM;rw [if_pos a0],rfl,fun o=>h2.turn (lG ..) (by
   show ((W0.setCell ⟨w.heap.size,19,none⟩ _).alloc o).heap[w.heap.size]? = _;rw [aM _ _ (by rw [Busw.dB];exact hlt0)];exact aLW h2.box _)⟩
 have HQ:Hid (r=some m'):=HRR.out.trans HQ0;have HE:Hid (∀ o,Two w ((W0.setCell ⟨w.heap.size,19,none⟩ (.string (fK m.work (addr-49152) v))).alloc o).drew m' po cap cZ):=HE0;have HO:Hid (m'.out=m.out):=hout;clear h2 hz hr v0 HQ0 hout HE0;generalize fK m.work (addr-49152) v=nw at *
 generalize m.work=ow at *
 go_upto_region 10 with first|(go_at_call 42;refine (aE _ _ _ _).mono ?_;rintro e w' ⟨rfl,hw'⟩;have hw':=hw'.symm;subst hw';rw [a0])|(go_at_call 236;refine (c2 _).mono ?_;rintro e w' ⟨rfl,p1,rfl⟩)
 have HT:=HE
 replace HT:Hid (Two w ((W0.setCell ⟨w.heap.size,19,none⟩ (.string nw)).alloc p1).drew m' po cap cZ):=HE.out p1
 have HSl:Hid (Sl (((W0.setCell ⟨w.heap.size,19,none⟩ (.string nw)).alloc p1).drew.setRow (w.heap.size+1) (aA m' po cap)) po m'.out cap):=by show Sl _ _ _ _;rw [HO.out];exact H0.out _ HT.out.last.2
 refine wp_region_list ?_;refine wpList_load_row rfl 30 _ rfl w.heap.size rfl _ _ (0,0) _ HT.out.box underlying30 rfl (aP _ _ _) ?_;refine wpList_store_row rfl 30 _ _ rfl (w.heap.size+1) _ rfl rfl _ _ HT.out.res (aP _ _ _) (by rw [HZ.out,aV,aV]) (dS _ _ _) ?_;go_wp2;exact bodyPost_ret (v:=.tuple #[.agg (aA m' po cap),.bool true]) (bS results161 _ _ (w.heap.size+1) _ _ (0,0) _ _ rfl rfl HT.out.last.1 underlying30 rfl (aP _ _ _)) rfl ⟨.inl ⟨m',po,cap,HQ.out,rfl,HSl.out,.inl rfl⟩,HT.out.last.2⟩
theorem aSV (m:M) (po:Option Addr) (cap:Nat) (addr v:Int) (w:World) (hr:Rt m) (hN:Sl w po m.out cap) (b0:inB addr 49152 49407=false) (a0:inB addr 65408 65534=true) (v0:inB v 0 255=true) :
  Calls prog 161 #[.agg (aA m po cap),.int .i64 addr,.int .i64 v] w fun e w'=>sW w w' m po cap (wrM m addr v) e:=by
 have hz:=fM;have H0:Hid (∀ W,Below w.heap.size w W->Sl W po m.out cap):=fun W h=>hN.below h
 obtain ⟨q0,q1⟩:=u7 a0;obtain ⟨u0,u1⟩:=u7 v0;have c2:=fun w=>mR m.high 127 hr.high (by decide) (addr-65408) v (by omega) (by omega) u0 u1 w
 obtain ⟨r,hrr⟩ : ∃ r,r=wrM m addr v:=⟨_,rfl⟩
 have HRR:Hid (r=wrM m addr v):=hrr;rw [<- hrr];clear hrr;obtain ⟨cM,hcM⟩ : ∃ c,c=aA m po cap:=⟨_,rfl⟩
 obtain ⟨cZ,hcZ⟩ : ∃ c,c=aA Z0 none 0:=⟨_,rfl⟩
 have HM:Hid (cM=aA m po cap):=hcM;have HZ:Hid (cZ=aA Z0 none 0):=hcZ;rw [<- hcM];rw [<- hcZ] at hz
 clear hcM hcZ hN
 go_enter func161,ntmps161
 go_upto_region 2 with fail
 have h2:=gM w m po cap cM cZ HM.out;generalize (w.alloc (.cells cM 30)).alloc (.cells cZ 30)=W0 at *
 have H2:Hid (Two w W0 m po cap cZ):=h2;have hlt:=h2.lt;have hlt0:w.heap.size<W0.heap.size:=by omega
 obtain ⟨q,f⟩:=h2.cellAt 20 (.string m.high) rfl;obtain ⟨m',HQ0,hout,HE0⟩ : ∃ m',wrM m addr v=some m'/\m'.out=m.out/\∀ o,Two w ((W0.setCell ⟨w.heap.size,20,none⟩ (.string (fK m.high (addr-65408) v))).alloc o).drew m' po cap cZ :=
  ⟨{ m with high:=fK m.high (addr-65408) v },by unfold wrM;rw [if_neg (by rw [b0];decide),if_pos a0],rfl,fun o=>h2.turn (lG ..) (by
   show ((W0.setCell ⟨w.heap.size,20,none⟩ _).alloc o).heap[w.heap.size]? = _;rw [aM _ _ (by rw [Busw.dB];exact hlt0)];exact aLX h2.box _)⟩
 have HQ:Hid (r=some m'):=HRR.out.trans HQ0;have HE:Hid (∀ o,Two w ((W0.setCell ⟨w.heap.size,20,none⟩ (.string (fK m.high (addr-65408) v))).alloc o).drew m' po cap cZ):=HE0;have HO:Hid (m'.out=m.out):=hout;clear h2 hz hr v0 HQ0 hout HE0;generalize fK m.high (addr-65408) v=nw at *
 generalize m.high=ow at *
 go_upto_region 10 with first|(go_at_call 42;refine (aE _ _ _ _).mono ?_;rintro e w' ⟨rfl,hw'⟩;have hw':=hw'.symm;subst hw';first|rw [b0]|rw [a0])|(go_at_call 236;refine (c2 _).mono ?_;rintro e w' ⟨rfl,p1,rfl⟩)
 have HT:=HE
 replace HT:Hid (Two w ((W0.setCell ⟨w.heap.size,20,none⟩ (.string nw)).alloc p1).drew m' po cap cZ):=HE.out p1
 have HSl:Hid (Sl (((W0.setCell ⟨w.heap.size,20,none⟩ (.string nw)).alloc p1).drew.setRow (w.heap.size+1) (aA m' po cap)) po m'.out cap):=by show Sl _ _ _ _;rw [HO.out];exact H0.out _ HT.out.last.2
 refine wp_region_list ?_;refine wpList_load_row rfl 30 _ rfl w.heap.size rfl _ _ (0,0) _ HT.out.box underlying30 rfl (aP _ _ _) ?_;refine wpList_store_row rfl 30 _ _ rfl (w.heap.size+1) _ rfl rfl _ _ HT.out.res (aP _ _ _) (by rw [HZ.out,aV,aV]) (dS _ _ _) ?_;go_wp2;exact bodyPost_ret (v:=.tuple #[.agg (aA m' po cap),.bool true]) (bS results161 _ _ (w.heap.size+1) _ _ (0,0) _ _ rfl rfl HT.out.last.1 underlying30 rfl (aP _ _ _)) rfl ⟨.inl ⟨m',po,cap,HQ.out,rfl,HSl.out,.inl rfl⟩,HT.out.last.2⟩
theorem aSW (m:M) (po:Option Addr) (cap:Nat) (addr v:Int) (w:World) (hr:Rt m) (hN:Sl w po m.out cap) (ha:addr=65281) (hl:m.out.length=100) :
  Calls prog 161 #[.agg (aA m po cap),.int .i64 addr,.int .i64 v] w fun e w'=>sW w w' m po cap (wrM m addr v) e:=by
 have hz:=fM;have H0:Hid (∀ W,Below w.heap.size w W->Sl W po m.out cap):=fun W h=>hN.below h
 subst ha;have b0:inB 65281 49152 49407=false:=by decide
 have b1:inB 65281 65408 65534=false:=by decide
 have HQ:Hid (wrM m 65281 v=none):=by show _=_;unfold wrM;rw [if_neg (by decide),if_neg (by decide),if_pos rfl,if_pos (by omega)]
 obtain ⟨r,hrr⟩ : ∃ r,r=wrM m 65281 v:=⟨_,rfl⟩
 have HRR:Hid (r=wrM m 65281 v):=hrr;rw [<- hrr];clear hrr;obtain ⟨cM,hcM⟩ : ∃ c,c=aA m po cap:=⟨_,rfl⟩
 obtain ⟨cZ,hcZ⟩ : ∃ c,c=aA Z0 none 0:=⟨_,rfl⟩
 have HM:Hid (cM=aA m po cap):=hcM;have HZ:Hid (cZ=aA Z0 none 0):=hcZ;rw [<- hcM];rw [<- hcZ] at hz
 clear hcM hcZ hN
 go_enter func161,ntmps161
 go_upto_region 2 with fail
 have h2:=gM w m po cap cM cZ HM.out;generalize (w.alloc (.cells cM 30)).alloc (.cells cZ 30)=W0 at *
 have H2:Hid (Two w W0 m po cap cZ):=h2;have hlt:=h2.lt;have hlt0:w.heap.size<W0.heap.size:=by omega
 obtain ⟨q,f⟩:=h2.cellAt 21 (.slice po m.out.length cap) rfl;have HT:Hid (Two w W0 m po cap cZ):=h2;clear h2 hz hr;rw [hl] at q
 go_upto_region 8 with (go_at_call 42;refine (aE _ _ _ _).mono ?_;rintro e w' ⟨rfl,hw'⟩;have hw':=hw'.symm;subst hw';first|rw [b0]|rw [b1])
 refine wp_region_list ?_;refine wpList_load_row rfl 30 _ rfl w.heap.size rfl _ _ (0,0) _ HT.out.box underlying30 rfl (aP _ _ _) ?_;refine wpList_store_row rfl 30 _ _ rfl (w.heap.size+1) _ rfl rfl _ _ HT.out.res (aP _ _ _) (by rw [HZ.out,aV,aV]) (dS _ _ _) ?_;go_wp2;exact bodyPost_ret (v:=.tuple #[.agg (aA m po cap),.bool false]) (bS results161 _ _ (w.heap.size+1) _ _ (0,0) _ _ rfl rfl HT.out.last.1 underlying30 rfl (aP _ _ _)) rfl ⟨.inr ⟨HRR.out.trans HQ.out,rfl⟩,HT.out.last.2⟩
theorem bBF (m:M) (po:Option Addr) (cap:Nat) (addr v:Int) (w:World) (hr:Rt m) (hN:Sl w po m.out cap) (ha:addr=65281) (hl:m.out.length<100) :
  Calls prog 161 #[.agg (aA m po cap),.int .i64 addr,.int .i64 v] w fun e w'=>sW w w' m po cap (wrM m addr v) e:=by
 have hz:=fM;have H0:Hid (∀ W,Below w.heap.size w W->Sl W po m.out cap):=fun W h=>hN.below h
 subst ha;have b0:inB 65281 49152 49407=false:=by decide
 have b1:inB 65281 65408 65534=false:=by decide
 obtain ⟨m',hm'⟩ : ∃ x,x={ m with out:=m.out ++ [v] }:=⟨_,rfl⟩
 have HQ:Hid (wrM m 65281 v=some m'):=by show _=_;unfold wrM;rw [if_neg (by decide),if_neg (by decide),if_pos rfl,if_neg (by omega),hm']
 obtain ⟨i0,hi,hz0,hz1,hz2⟩:=Busw.info_parts Busw.aEQ;obtain ⟨r,hrr⟩ : ∃ r,r=wrM m 65281 v:=⟨_,rfl⟩
 have HRR:Hid (r=wrM m 65281 v):=hrr;rw [<- hrr];clear hrr;obtain ⟨cM,hcM⟩ : ∃ c,c=aA m po cap:=⟨_,rfl⟩
 obtain ⟨cZ,hcZ⟩ : ∃ c,c=aA Z0 none 0:=⟨_,rfl⟩
 have HM:Hid (cM=aA m po cap):=hcM;have HZ:Hid (cZ=aA Z0 none 0):=hcZ;rw [<- hcM];rw [<- hcZ] at hz
 clear hcM hcZ hN
 go_enter func161,ntmps161
 go_upto_region 2 with fail
 have h2:=gM w m po cap cM cZ HM.out;generalize (w.alloc (.cells cM 30)).alloc (.cells cZ 30)=W0 at *
 have H2:Hid (Two w W0 m po cap cZ):=h2;have hlt:=h2.lt;have hlt0:w.heap.size<W0.heap.size:=by omega
 obtain ⟨q,f⟩:=h2.cellAt 21 (.slice po m.out.length cap) rfl;clear h2 hz hr;have e1:¬ (m.out.length:Int)=100:=by omega
 have e2:((m.out.length:Int) == 100)=false:=by simpa using e1
 go_wp2_with first|(go_at_call 42;refine (aE _ _ _ _).mono ?_;rintro e w' ⟨rfl,hw'⟩;have hw':=hw'.symm;subst hw';first|rw [b0]|rw [b1])|(at_builtin;refine sU rfl _ _ rfl w.heap.size _ 0 [] rfl (World.ownsRow_lit W0 #[] 0 ?c1 (Nat.zero_le _) rfl) po m.out cap rfl ?c2 ?c3 ?c4 ?_)
 case c1=>omega
 case c2=>exact H0.out _ (grow H2.out.bel _)
 case c3=>omega
 case c4=>simp;omega
 intro v' W6 hown hgrow;have h6:=H2.out.grown _ hgrow;have HR6:Hid (W6.ownsRow w.heap.size 2 1 v' m.out.length (dJ m.out)):=hown;have H6:Hid (Two w W6 m po cap cZ):=h6;obtain ⟨q6,f6⟩:=h6.cellAt 21 (.slice po m.out.length cap) rfl;have hlt6:w.heap.size+1<W6.heap.size:=h6.lt;have hlt60:w.heap.size<W6.heap.size:=by omega
 clear h6 hown hgrow q f hlt hlt0 H2
 go_wp2_with (at_builtin;refine wpList_append_own _ rfl _ _ 28 rfl w.heap.size 2 i0 (.int .i64 0) 1 8 underlying28 hi hz0 hz1 hz2 rfl (by decide) _ _ _ rfl (HR6.out.alloc _) ⟨W6.heap.size,0,none⟩ 1 1 [.int .i64 v] rfl rfl ?d1 ?d2 ?d3 ?d4 ?d5 ?_)
 case d1 =>
  intro j u hj
  match j,hj with
  | 0,hj=>simp at hj;subst hj;simp [Addr.add]
 case d2=>intro u hu;simp at hu;subst hu;rfl
 case d3=>unfold maxLen;omega
 case d4=>omega
 case d5=>simp;omega
 intro v2 W7 hown7 hgrow7 _;have h7:=H6.out.grown2 HR6.out _ hgrow7;obtain ⟨po',cap',rfl⟩:=sV hown7;obtain ⟨q7,f7⟩:=h7.cellAt 21 (.slice po m.out.length cap) rfl;obtain ⟨h8,h9⟩:=h7.put (m.out ++ [v]) (m.out.length+1) (by simp) po' cap' hown7;rw [<- hm'] at h8 h9
 have HT:Hid (Two w (W7.setCell ⟨w.heap.size,21,none⟩ (.slice po' (m.out.length+1) cap')) m' po' cap' cZ):=h8;rw [<- sT] at h9
 have hmo:m'.out=m.out ++ [v]:=by rw [hm']
 have HSl:Hid (Sl ((W7.setCell ⟨w.heap.size,21,none⟩ (.slice po' (m.out.length+1) cap')).setRow (w.heap.size+1) (aA m' po' cap')) po' m'.out cap'):=by show Sl _ _ _ _;rw [hmo];exact aLZ h9 (by simp)
 have HFr:Hid (∀ p,po'=some p->w.heap.size<=p.block):=fun p e=>aBV hown7 p e
 clear h7 h8 h9 hown7 hgrow7 hmo hm'
 go_upto_region 10 with fail
 refine wp_region_list ?_;refine wpList_load_row rfl 30 _ rfl w.heap.size rfl _ _ (0,0) _ HT.out.box underlying30 rfl (aP _ _ _) ?_;refine wpList_store_row rfl 30 _ _ rfl (w.heap.size+1) _ rfl rfl _ _ HT.out.res (aP _ _ _) (by rw [HZ.out,aV,aV]) (dS _ _ _) ?_;go_wp2;exact bodyPost_ret (v:=.tuple #[.agg (aA m' po' cap'),.bool true]) (bS results161 _ _ (w.heap.size+1) _ _ (0,0) _ _ rfl rfl HT.out.last.1 underlying30 rfl (aP _ _ _)) rfl ⟨.inl ⟨m',po',cap',HRR.out.trans HQ.out,rfl,HSl.out,.inr HFr.out⟩,HT.out.last.2⟩
theorem aSX (m:M) (po:Option Addr) (cap:Nat) (addr v:Int) (w:World) (hr:Rt m) (hN:Sl w po m.out cap) (b0:inB addr 49152 49407=false) (b1:inB addr 65408 65534=false) (b2:¬ addr=65281) (a0:inB addr 0 65535=true) (v0:inB v 0 255=true) :
  Calls prog 161 #[.agg (aA m po cap),.int .i64 addr,.int .i64 v] w fun e w'=>sW w w' m po cap (wrM m addr v) e:=by
 have hz:=fM;have H0:Hid (∀ W,Below w.heap.size w W->Sl W po m.out cap):=fun W h=>hN.below h
 have HC:Hid (∀ W,Calls prog 237 #[.agg #[.string m.rom,.int .i64 m.kind,.int .i64 m.bank,.string m.ram,.int .i64 m.rb,.bool m.on,.int .i64 m.mode],.int .i64 addr,.int .i64 v] W fun e w'=>e=.returned (wrote m.rom m.kind m.bank m.ram m.rb m.on m.mode addr v)/\Below W.heap.size W w'):=fun W=>CartU.uW m.rom m.kind m.bank m.ram m.rb m.on m.mode addr v W hr.rom hr.ram hr.cart a0 v0
 have b2':(addr == 65281)=false:=by simpa using b2
 obtain ⟨r,hrr⟩ : ∃ r,r=wrM m addr v:=⟨_,rfl⟩
 have HRR:Hid (r=wrM m addr v):=hrr;rw [<- hrr];clear hrr;obtain ⟨cM,hcM⟩ : ∃ c,c=aA m po cap:=⟨_,rfl⟩
 obtain ⟨cZ,hcZ⟩ : ∃ c,c=aA Z0 none 0:=⟨_,rfl⟩
 have HM:Hid (cM=aA m po cap):=hcM;have HZ:Hid (cZ=aA Z0 none 0):=hcZ;rw [<- hcM];rw [<- hcZ] at hz
 clear hcM hcZ hN
 go_enter func161,ntmps161
 go_upto_region 2 with fail
 have h2:=gM w m po cap cM cZ HM.out;generalize (w.alloc (.cells cM 30)).alloc (.cells cZ 30)=W0 at *
 have H2:Hid (Two w W0 m po cap cZ):=h2;have hlt:=h2.lt;have hlt0:w.heap.size<W0.heap.size:=by omega
 obtain ⟨q12,f12⟩:=h2.cellAt 12 (.string m.rom) rfl;obtain ⟨q13,f13⟩:=h2.cellAt 13 (.int .i64 m.kind) rfl;obtain ⟨q14,f14⟩:=h2.cellAt 14 (.int .i64 m.bank) rfl;obtain ⟨q15,f15⟩:=h2.cellAt 15 (.string m.ram) rfl;obtain ⟨q16,f16⟩:=h2.cellAt 16 (.int .i64 m.rb) rfl;obtain ⟨q17,f17⟩:=h2.cellAt 17 (.bool m.on) rfl;obtain ⟨q18,f18⟩:=h2.cellAt 18 (.int .i64 m.mode) rfl;obtain ⟨m',HQ0,hout,HE0⟩ : ∃ m',wrM m addr v=some m'/\m'.out=m.out/\∀ w1,Below W0.heap.size W0 w1->Two w (((((((w1.setCell ⟨w.heap.size,12,none⟩ (.string m.rom)).setCell ⟨w.heap.size,13,none⟩ (.int .i64 m.kind)).setCell ⟨w.heap.size,14,none⟩ (.int .i64 (cN m.kind m.bank addr v))).setCell ⟨w.heap.size,15,none⟩ (.string (dU m.kind m.ram m.rb m.on m.mode addr v))).setCell ⟨w.heap.size,16,none⟩ (.int .i64 (wRb m.kind m.rb addr v))).setCell ⟨w.heap.size,17,none⟩ (.bool (wOn m.kind m.on addr v))).setCell ⟨w.heap.size,18,none⟩ (.int .i64 (cO m.kind m.mode addr v))) m' po cap cZ :=
  ⟨{ m with bank:=cN m.kind m.bank addr v,ram:=dU m.kind m.ram m.rb m.on m.mode addr v,rb:=wRb m.kind m.rb addr v,on:=wOn m.kind m.on addr v,mode:=cO m.kind m.mode addr v },by unfold wrM;rw [if_neg (by rw [b0];decide),if_neg (by rw [b1];decide),if_neg b2],rfl,fun w1 hb=>by
   have hg0:w1.grownBy w1 (some w.heap.size):=⟨rfl,rfl,rfl,Nat.le_refl _,fun _ _ _=>rfl⟩;exact (h2.step hb).turn (dR (i:=18) (v:=.int .i64 (cO m.kind m.mode addr v)) (dR (i:=17) (v:=.bool (wOn m.kind m.on addr v)) (dR (i:=16) (v:=.int .i64 (wRb m.kind m.rb addr v)) (dR (i:=15) (v:=.string (dU m.kind m.ram m.rb m.on m.mode addr v)) (dR (i:=14) (v:=.int .i64 (cN m.kind m.bank addr v)) (dR (i:=13) (v:=.int .i64 m.kind) (dR (i:=12) (v:=.string m.rom) hg0))))))) (xT (h2.step hb).box _ _ _ _ _)⟩
 have HQ:Hid (r=some m'):=HRR.out.trans HQ0;have HE:Hid (∀ w1,Below W0.heap.size W0 w1->Two w (((((((w1.setCell ⟨w.heap.size,12,none⟩ (.string m.rom)).setCell ⟨w.heap.size,13,none⟩ (.int .i64 m.kind)).setCell ⟨w.heap.size,14,none⟩ (.int .i64 (cN m.kind m.bank addr v))).setCell ⟨w.heap.size,15,none⟩ (.string (dU m.kind m.ram m.rb m.on m.mode addr v))).setCell ⟨w.heap.size,16,none⟩ (.int .i64 (wRb m.kind m.rb addr v))).setCell ⟨w.heap.size,17,none⟩ (.bool (wOn m.kind m.on addr v))).setCell ⟨w.heap.size,18,none⟩ (.int .i64 (cO m.kind m.mode addr v))) m' po cap cZ):=HE0;have HX:Hid (∀ w1,Below W0.heap.size W0 w1->Two w w1 m po cap cZ):=fun w1 hb=>h2.step hb
 have HO:Hid (m'.out=m.out):=hout;clear h2 hz hr v0 a0 b2 HQ0 hout HE0;unfold wrote at HC
 generalize cN m.kind m.bank addr v=x14 at *
 generalize dU m.kind m.ram m.rb m.on m.mode addr v=x15 at *
 generalize wRb m.kind m.rb addr v=x16 at *
 generalize wOn m.kind m.on addr v=x17 at *
 generalize cO m.kind m.mode addr v=x18 at *
 go_upto_region 10 with first|(go_at_call 42;refine (aE _ _ _ _).mono ?_;rintro e w' ⟨rfl,hw'⟩;have hw':=hw'.symm;subst hw';first|rw [b0]|rw [b1])|(go_at_call 237;refine (HC.out _).mono ?_;rintro e w1 ⟨rfl,hb1⟩;obtain ⟨k12,l12⟩:=(HX.out w1 hb1).cellAt 12 (.string m.rom) rfl;obtain ⟨k13,l13⟩:=(HX.out w1 hb1).cellAt 13 (.int .i64 m.kind) rfl;obtain ⟨k14,l14⟩:=(HX.out w1 hb1).cellAt 14 (.int .i64 m.bank) rfl;obtain ⟨k15,l15⟩:=(HX.out w1 hb1).cellAt 15 (.string m.ram) rfl;obtain ⟨k16,l16⟩:=(HX.out w1 hb1).cellAt 16 (.int .i64 m.rb) rfl;obtain ⟨k17,l17⟩:=(HX.out w1 hb1).cellAt 17 (.bool m.on) rfl;obtain ⟨k18,l18⟩:=(HX.out w1 hb1).cellAt 18 (.int .i64 m.mode) rfl;have HB1:Hid (Below W0.heap.size W0 w1):=hb1;clear hb1)
 have HT:Hid (Two w (((((((w1.setCell ⟨w.heap.size,12,none⟩ (.string m.rom)).setCell ⟨w.heap.size,13,none⟩ (.int .i64 m.kind)).setCell ⟨w.heap.size,14,none⟩ (.int .i64 x14)).setCell ⟨w.heap.size,15,none⟩ (.string x15)).setCell ⟨w.heap.size,16,none⟩ (.int .i64 x16)).setCell ⟨w.heap.size,17,none⟩ (.bool x17)).setCell ⟨w.heap.size,18,none⟩ (.int .i64 x18)) m' po cap cZ):=HE.out w1 HB1.out;have HSl:Hid (Sl ((((((((w1.setCell ⟨w.heap.size,12,none⟩ (.string m.rom)).setCell ⟨w.heap.size,13,none⟩ (.int .i64 m.kind)).setCell ⟨w.heap.size,14,none⟩ (.int .i64 x14)).setCell ⟨w.heap.size,15,none⟩ (.string x15)).setCell ⟨w.heap.size,16,none⟩ (.int .i64 x16)).setCell ⟨w.heap.size,17,none⟩ (.bool x17)).setCell ⟨w.heap.size,18,none⟩ (.int .i64 x18)).setRow (w.heap.size+1) (aA m' po cap)) po m'.out cap):=by show Sl _ _ _ _;rw [HO.out];exact H0.out _ HT.out.last.2
 refine wp_region_list ?_;refine wpList_load_row rfl 30 _ rfl w.heap.size rfl _ _ (0,0) _ HT.out.box underlying30 rfl (aP _ _ _) ?_;refine wpList_store_row rfl 30 _ _ rfl (w.heap.size+1) _ rfl rfl _ _ HT.out.res (aP _ _ _) (by rw [HZ.out,aV,aV]) (dS _ _ _) ?_;go_wp2;exact bodyPost_ret (v:=.tuple #[.agg (aA m' po cap),.bool true]) (bS results161 _ _ (w.heap.size+1) _ _ (0,0) _ _ rfl rfl HT.out.last.1 underlying30 rfl (aP _ _ _)) rfl ⟨.inl ⟨m',po,cap,HQ.out,rfl,HSl.out,.inl rfl⟩,HT.out.last.2⟩
theorem aBW (m:M) (po:Option Addr) (cap:Nat) (addr v:Int) (w:World) (hr:Rt m) (hN:Sl w po m.out cap) (a0:inB addr 0 65535=true) (v0:inB v 0 255=true) :
  Calls prog 161 #[.agg (aA m po cap),.int .i64 addr,.int .i64 v] w fun e w'=>sW w w' m po cap (wrM m addr v) e:=by
 cases h1:inB addr 49152 49407 with
 | true=>exact aSU m po cap addr v w hr hN h1 v0
 | false =>
  cases h2:inB addr 65408 65534 with
  | true=>exact aSV m po cap addr v w hr hN h1 h2 v0
  | false =>
   by_cases h3:addr=65281
   ·have ho:=hr.out
    by_cases h4:m.out.length=100
    ·exact aSW m po cap addr v w hr hN h3 h4
    ·exact bBF m po cap addr v w hr hN h3 (by omega)
   ·exact aSX m po cap addr v w hr hN h1 h2 h3 a0 v0
end Busy
namespace Stpp
open Signed (inB sgn)
open Reck ReckS ReckM ReckD TurnS
open Busw (M wrM Rt)
def rd (m:M) (a:Int):Int:=MachB.aHE m.rom m.kind m.bank m.ram m.rb m.on m.mode m.work m.high a
theorem fN (m:M) (a:Int):0<=rd m a/\rd m a<=255:=by
 unfold rd MachB.aHE;split
 ·exact CartR.bH _ _
 ·split
  ·exact CartR.bH _ _
  ·exact CartR.bAA _ _ _ _ _ _
structure S where
 m:M
 full:Bool
def wr (s:S) (a v:Int):S:=match wrM s.m (a%65536) v with|some m'=>⟨m',s.full⟩|none=>⟨s.m,true⟩
def hl (m:M):Int:=256*m.rH+m.rL
def reg (m:M) (n:Int):Int:=if n=0 then m.rB else if n=1 then m.rC else if n=2 then m.rD else if n=3 then m.rE else if n=4 then m.rH else if n=5 then m.rL else m.ra
def vF (m:M) (n v:Int):M:=if n=0 then { m with rB:=v } else if n=1 then { m with rC:=v } else if n=2 then { m with rD:=v } else if n=3 then { m with rE:=v } else if n=4 then { m with rH:=v } else if n=5 then { m with rL:=v } else { m with ra:=v }
def get (m:M) (n:Int):Int:=if n=6 then rd m (hl m) else reg m n
def put (s:S) (n v:Int):S:=if n=6 then wr s (hl s.m) v else ⟨vF s.m n v,s.full⟩
def pr (m:M) (p:Int):Int:=if p=0 then 256*m.rB+m.rC else if p=1 then 256*m.rD+m.rE else if p=2 then 256*m.rH+m.rL else m.sp
def aN (m:M) (p v:Int):M:=if p=0 then { m with rB:=v / 256,rC:=v%256 } else if p=1 then { m with rD:=v / 256,rE:=v%256 } else if p=2 then { m with rH:=v / 256,rL:=v%256 } else { m with sp:=v }
def prQ (m:M) (p:Int):Int:=if p=3 then 256*m.ra+m.rf else pr m p
def eW (m:M) (p v:Int):M:=if p=3 then { m with ra:=v / 256,rf:=v%256 / 16*16 } else aN m p v
def push (s:S) (v:Int):S:=⟨{ (wr (wr s (s.m.sp+65535) (v / 256)) (s.m.sp+65534) (v%256)).m with sp:=(s.m.sp+65534)%65536 },(wr (wr s (s.m.sp+65535) (v / 256)) (s.m.sp+65534) (v%256)).full⟩
def bA (m:M):Int:=rd m m.sp+256*rd m ((m.sp+1)%65536)
def aU (m:M):M:={ m with sp:=(m.sp+2)%65536 }
def cond (m:M) (k:Int):Bool:=decide (m.rf / (if 1<k then 16 else 128)%2=k%2)
def cQ (y:Int):Int:=if y=0 then 1 else if y=1 then 2 else if y=2 then 4 else if y=3 then 8 else if y=4 then 16 else if y=5 then 32 else if y=6 then 64 else 128
def F (s:S) (f:Int):S:=⟨{ s.m with rf:=f },s.full⟩
def AF (s:S) (p:Int × Int):S:=⟨{ s.m with ra:=p.1,rf:=p.2 },s.full⟩
def cbE (code:Int) (s:S):S :=
 if code / 64=0 then F (put s (code%8) (cD (code / 8%8) (get s.m (code%8)) s.m.rf).1) (cD (code / 8%8) (get s.m (code%8)) s.m.rf).2
 else if code / 64=1 then F s (fl (decide (bits .and .i64 (get s.m (code%8)) (cQ (code / 8%8))=0)) false true (cB s.m.rf))
 else if code / 64=2 then put s (code%8) (bits .andNot .i64 (get s.m (code%8)) (cQ (code / 8%8)))
 else put s (code%8) (bits .or .i64 (get s.m (code%8)) (cQ (code / 8%8)))
def gY (y:Int) (s:S):S :=
 if y=4 then AF s (fJ s.m.ra s.m.rf)
 else if y=5 then AF s (255-s.m.ra,fl (zB s.m.rf) true true (cB s.m.rf))
 else if y=6 then F s (fl (zB s.m.rf) false false true)
 else if y=7 then F s (fl (zB s.m.rf) false false (!cB s.m.rf))
 else AF s ((cD y s.m.ra s.m.rf).1,fl false false false (cB (cD y s.m.ra s.m.rf).2))
def spE (imm:Int) (s:S):S:=wr (wr s imm (s.m.sp%256)) (imm+1) (s.m.sp / 256)
def jrE (imm:Int) (s:S):S:=⟨{ s.m with pc:=(s.m.pc+sgn imm+65536)%65536 },s.full⟩
def bGY (p:Int) (s:S):S:=⟨{ aN s.m 2 (awR (hl s.m) (pr s.m p) s.m.rf).1 with rf:=(awR (hl s.m) (pr s.m p) s.m.rf).2 },s.full⟩
def placeOf (m:M) (p:Int):Int:=pr m (if p<2 then p else 2)
def bZ (m:M) (p:Int):M:=if 1<p then aN m 2 ((hl m+(if p=2 then 1 else 65535))%65536) else m
def stE (p:Int) (s:S):S:=⟨bZ (wr s (placeOf s.m p) s.m.ra).m p,(wr s (placeOf s.m p) s.m.ra).full⟩
def ldE (p:Int) (s:S):S:=⟨bZ { s.m with ra:=rd s.m (placeOf s.m p) } p,s.full⟩
def bY (code imm:Int) (s:S):S × Bool :=
 if code%8=0 then (if code / 8=1 then (spE imm s,false) else if code / 8=3 \/ (3<code / 8/\cond s.m (code / 8-4)=true) then (jrE imm s,true) else (s,false))
 else if code%8=1 then (if code / 8%2=0 then (⟨aN s.m (code / 8 / 2) imm,s.full⟩,false) else (bGY (code / 8 / 2) s,false))
 else if code%8=2 then (if code / 8%2=0 then (stE (code / 8 / 2) s,false) else (ldE (code / 8 / 2) s,false))
 else if code%8=3 then (⟨aN s.m (code / 8 / 2) ((pr s.m (code / 8 / 2)+(if code / 8%2=0 then 1 else 65535))%65536),s.full⟩,false)
 else if code%8=4 then (F (put s (code / 8) (cP (get s.m (code / 8)) s.m.rf false).1) (cP (get s.m (code / 8)) s.m.rf false).2,false)
 else if code%8=5 then (F (put s (code / 8) (cP (get s.m (code / 8)) s.m.rf true).1) (cP (get s.m (code / 8)) s.m.rf true).2,false)
 else if code%8=6 then (put s (code / 8) imm,false)
 else (gY (code / 8) s,false)
def aBX (i:Bool) (s:S):S:=⟨{ aU s.m with pc:=bA s.m,ime:=s.m.ime || i },s.full⟩
def A (s:S) (v:Int):S:=⟨{ s.m with ra:=v },s.full⟩
def aR (at_:Int) (s:S):S:=⟨{ (push s s.m.pc).m with pc:=at_ },(push s s.m.pc).full⟩
def aW (code imm:Int) (s:S):S × Bool :=
 if (code%8=0/\code / 8%8<4/\cond s.m (code / 8%8)=true) \/ code=201 \/ code=217 then (aBX (decide (code=217)) s,true)
 else if code=224 then (wr s (65280+imm) s.m.ra,false)
 else if code=226 then (wr s (65280+s.m.rC) s.m.ra,false)
 else if code=240 then (A s (rd s.m (65280+imm)),false)
 else if code=242 then (A s (rd s.m (65280+s.m.rC)),false)
 else if code=234 then (wr s imm s.m.ra,false)
 else if code=250 then (A s (rd s.m imm),false)
 else if code=232 then (⟨{ s.m with sp:=(asR s.m.sp imm).1,rf:=(asR s.m.sp imm).2 },s.full⟩,false)
 else if code=248 then (⟨{ aN s.m 2 (asR s.m.sp imm).1 with rf:=(asR s.m.sp imm).2 },s.full⟩,false)
 else if code=249 then (⟨{ s.m with sp:=hl s.m },s.full⟩,false)
 else if code=233 then (⟨{ s.m with pc:=hl s.m },s.full⟩,false)
 else if code%8=1/\code / 8%8%2=0 then (⟨eW (aU s.m) (code / 8%8 / 2) (bA s.m),s.full⟩,false)
 else if code%8=5/\code / 8%8%2=0 then (push s (prQ s.m (code / 8%8 / 2)),false)
 else if (code%8=2/\code / 8%8<4/\cond s.m (code / 8%8)=true) \/ code=195 then (⟨{ s.m with pc:=imm },s.full⟩,true)
 else if code=243 \/ code=251 then (⟨{ s.m with ime:=decide (code=251) },s.full⟩,false)
 else if (code%8=4/\cond s.m (code / 8%8)=true) \/ code=205 then (aR imm s,true)
 else if code%8=6 then (AF s (aS (code / 8%8) s.m.ra imm s.m.rf),false)
 else if code%8=7 then (aR (8*(code / 8%8)) s,false)
 else (s,false)
def sem (code:Int) (cb:Bool) (imm:Int) (s:S):S × Bool :=
 if cb=true then (cbE code s,false)
 else if code<64 then bY code imm s
 else if code=118 then (⟨{ s.m with hal:=true },s.full⟩,false)
 else if code<128 then (put s (code / 8%8) (get s.m (code%8)),false)
 else if code<192 then (AF s (aS (code / 8%8) s.m.ra (get s.m (code%8)) s.m.rf),false)
 else aW code imm s
def eH (m c:M):M:={ m with ra:=c.ra,rf:=c.rf,rB:=c.rB,rC:=c.rC,rD:=c.rD,rE:=c.rE,rH:=c.rH,rL:=c.rL,sp:=c.sp,pc:=c.pc,ime:=c.ime,hal:=c.hal,cyc:=c.cyc }
theorem aER (m c:M) (a v:Int):wrM (eH m c) a v=(wrM m a v).map (fun m'=>eH m' c):=by
 unfold wrM
 by_cases h1:inB a 49152 49407=true
 ·rw [if_pos h1,if_pos h1];rfl
 rw [if_neg h1,if_neg h1]
 by_cases h2:inB a 65408 65534=true
 ·rw [if_pos h2,if_pos h2];rfl
 rw [if_neg h2,if_neg h2]
 by_cases h3:a=65281
 ·rw [if_pos h3,if_pos h3]
  by_cases h4:100<=m.out.length
  ·have h5:100<=(eH m c).out.length:=h4
   rw [if_pos h4,if_pos h5];rfl
  ·have h5:¬ 100<=(eH m c).out.length:=h4
   rw [if_neg h4,if_neg h5];rfl
 ·rw [if_neg h3,if_neg h3];rfl
theorem nD (m:M):eH m m=m:=rfl
theorem aMA {m m':M} {a v:Int} (h:wrM m a v=some m'):eH m' m=m':=by
 have h2:=aER m m a v;rw [nD,h] at h2
 exact (Option.some.inj h2).symm
theorem aBY (m c:M) (f:Bool) (a v:Int):wr ⟨eH m c,f⟩ a v=⟨eH (wr ⟨m,f⟩ a v).m c,(wr ⟨m,f⟩ a v).full⟩:=by
 unfold wr;have h:=aER m c (a%65536) v;simp only [];rw [h]
 cases wrM m (a%65536) v <;> rfl
theorem lH (s:S) (a v:Int):eH (wr s a v).m s.m=(wr s a v).m:=by
 unfold wr
 cases h:wrM s.m (a%65536) v with
 | none=>rfl
 | some m'=>exact aMA h
end Stpp
namespace Stpq
open Signed (inB sgn)
open Reck ReckS ReckM ReckD TurnS
open Busw (M wrM Rt)
open Busx (lT Sm aYT)
open Stpp
theorem aSY (rom:ByteArray) (kind bank:Int) (ram:ByteArray) (rb:Int) (on:Bool) (mode ad v:Int) (h:Carts.okB rom kind bank ram rb on mode=true) (a0:0<=ad) (a1:ad<=65535) (v0:0<=v) (v1:v<=255) :
  Carts.okB rom kind (CartY.cN kind bank ad v) (CartY.dU kind ram rb on mode ad v) (CartY.wRb kind rb ad v) (CartY.wOn kind on ad v) (CartY.cO kind mode ad v)=true/\(CartY.dU kind ram rb on mode ad v).size=256:=by
 obtain ⟨n,n0,n1,hn,hbk,hm,b0,b1,r0,r1,m0,m1,hk⟩:=CartM.right rom kind bank ram rb on mode h;have hms:(CartY.dU kind ram rb on mode ad v).size=256:=by
  unfold CartY.dU
  repeat' split
  all_goals first|exact hm|(rw [CartP.oG];exact hm)
 have hh:Carts.kG kind bank rb on mode=true/\Carts.lV rom.size=true:=by
  have h':=h;simp only [Carts.okB,Bool.and_eq_true] at h'
  exact h'.1
 have hok:Carts.okB rom kind (CartY.cN kind bank ad v) (CartY.dU kind ram rb on mode ad v) (CartY.wRb kind rb ad v) (CartY.wOn kind on ad v) (CartY.cO kind mode ad v)=true:=by
  simp only [Carts.okB,Bool.and_eq_true,beq_iff_eq];refine ⟨⟨?_,hh.2⟩,hms⟩;have g:=hh.1;unfold Carts.kG at g |-
  rcases hk with ⟨rfl,hon⟩|rfl|⟨rfl,hmode⟩
  ·rw [if_pos rfl] at g |-
   have g:=u7 g;refine x9 ⟨?_,?_,?_,?_⟩
   ·unfold CartY.cN;split
    ·rw [if_neg (by omega),if_neg (by omega)];exact g.1
    ·exact g.1
   ·unfold CartY.wRb;rw [if_neg (by omega)];exact g.2.1
   ·unfold CartY.cO;rw [if_neg (by omega)];exact g.2.2.1
   ·unfold CartY.wOn;rw [if_neg (by omega)];exact g.2.2.2
  ·rw [if_neg (by omega),if_pos rfl] at g |-
   simp only [Bool.and_eq_true] at g |-
   have g1:=u7 g.1.1;have g2:=u7 g.1.2;have g3:=u7 g.2;refine ⟨⟨x9 ?_,x9 ?_⟩,x9 ?_⟩
   ·unfold CartY.cN;split
    ·rw [if_pos rfl];unfold CartW.jX;split <;> omega
    ·exact g1
   ·unfold CartY.wRb;split
    ·omega
    ·exact g2
   ·unfold CartY.cO;split
    ·omega
    ·exact g3
  ·rw [if_neg (by omega),if_neg (by omega),if_pos rfl] at g |-
   simp only [Bool.and_eq_true,beq_iff_eq] at g |-
   have g1:=u7 g.1.1;have g2:=u7 g.1.2;refine ⟨⟨x9 ?_,x9 ?_⟩,?_⟩
   ·unfold CartY.cN;split
    ·rw [if_neg (by omega),if_pos rfl];omega
    ·exact g1
   ·unfold CartY.wRb;split
    ·omega
    ·exact g2
   ·unfold CartY.cO;rw [if_neg (by omega)];exact g.2
 exact ⟨hok,hms⟩
structure Good (m:M):Prop where
 a:0<=m.ra/\m.ra<=255
 f:0<=m.rf/\m.rf<=255
 b:0<=m.rB/\m.rB<=255
 c:0<=m.rC/\m.rC<=255
 d:0<=m.rD/\m.rD<=255
 e:0<=m.rE/\m.rE<=255
 h:0<=m.rH/\m.rH<=255
 l:0<=m.rL/\m.rL<=255
 f16:m.rf%16=0
 sp:0<=m.sp/\m.sp<=65535
 pc:0<=m.pc/\m.pc<=65535
 rt:Rt m
 outs:MachO.dY m.out=true
theorem pH {n:Int} (h:inB n 0 255=true):0<=n/\n<=255:=u7 h
theorem aES {m:M} (h:lT m=true) (hs:Sm m):Good m/\0<=m.cyc/\m.cyc<=1000000000:=by
 have hr:=aYT h hs;unfold lT MachK.okM MachO.aBO MachO.dY MachO.pU at h
 simp only [Bool.and_eq_true,decide_eq_true_eq,List.all_cons,List.all_nil,beq_iff_eq] at h
 obtain ⟨⟨⟨⟨⟨⟨⟨⟨⟨⟨⟨ha,hf,hB,hC,hD,hE,hH,hL,_⟩,h16⟩,hsp⟩,hpc⟩,_⟩,_⟩,_⟩,_⟩,ho⟩,c0⟩,c1⟩:=h;exact ⟨⟨pH ha,pH hf,pH hB,pH hC,pH hD,pH hE,pH hH,pH hL,h16,u7 hsp,u7 hpc,hr,ho⟩,c0,c1⟩
theorem aMB {m m':M} {a v:Int} (h:Good m) (a0:0<=a) (a1:a<=65535) (v0:0<=v) (v1:v<=255) (hw:wrM m a v=some m'):Good m':=by
 have hr:=h.rt;unfold wrM at hw
 split at hw
 ·cases hw
  exact ⟨h.a,h.f,h.b,h.c,h.d,h.e,h.h,h.l,h.f16,h.sp,h.pc,⟨hr.cart,(CartP.oG _ _ _).trans hr.work,hr.high,hr.out,hr.rom,hr.ram⟩,h.outs⟩
 ·split at hw
  ·cases hw
   exact ⟨h.a,h.f,h.b,h.c,h.d,h.e,h.h,h.l,h.f16,h.sp,h.pc,⟨hr.cart,hr.work,(CartP.oG _ _ _).trans hr.high,hr.out,hr.rom,hr.ram⟩,h.outs⟩
  ·split at hw
   ·split at hw
    ·cases hw
    ·cases hw
     refine ⟨h.a,h.f,h.b,h.c,h.d,h.e,h.h,h.l,h.f16,h.sp,h.pc,⟨hr.cart,hr.work,hr.high,?_,hr.rom,hr.ram⟩,?_⟩
     ·show (m.out ++ [v]).length<=100
      rw [List.length_append];simp;omega
     ·have ho:=h.outs
      unfold MachO.dY at ho |-
      show (m.out ++ [v]).all _=true;rw [List.all_append,ho];simp only [List.all_cons,List.all_nil,Bool.and_true,Bool.true_and];exact x9 ⟨v0,v1⟩
   ·cases hw
    have hc:=aSY m.rom m.kind m.bank m.ram m.rb m.on m.mode a v hr.cart a0 a1 v0 v1;exact ⟨h.a,h.f,h.b,h.c,h.d,h.e,h.h,h.l,h.f16,h.sp,h.pc,⟨hc.1,hr.work,hr.high,hr.out,hr.rom,by show (CartY.dU _ _ _ _ _ _ _).size<=_;rw [hc.2];decide⟩,h.outs⟩
theorem dT {s:S} (h:Good s.m) (a v:Int) (v0:0<=v) (v1:v<=255):Good (wr s a v).m:=by
 unfold wr;split
 ·rename_i m' hw
  exact aMB h (by omega) (by omega) v0 v1 hw
 ·exact h
theorem dN {m:M} (h:Good m) (n:Int):0<=get m n/\get m n<=255:=by
 unfold Stpp.get;split
 ·exact fN _ _
 ·unfold reg
  repeat' split
  all_goals first|exact h.b|exact h.c|exact h.d|exact h.e|exact h.h|exact h.l|exact h.a
theorem aHJ {m:M} (h:Good m) (n v:Int) (v0:0<=v) (v1:v<=255):Good (vF m n v):=by
 obtain ⟨ha,hf,hb,hc,hd,he,hh,hl,h16,hsp,hpc,hr,ho⟩:=h;unfold vF
 repeat' split
 all_goals exact ⟨by first|exact ha|exact ⟨v0,v1⟩,hf,by first|exact hb|exact ⟨v0,v1⟩,by first|exact hc|exact ⟨v0,v1⟩,by first|exact hd|exact ⟨v0,v1⟩,by first|exact he|exact ⟨v0,v1⟩,by first|exact hh|exact ⟨v0,v1⟩,by first|exact hl|exact ⟨v0,v1⟩,h16,hsp,hpc,⟨hr.cart,hr.work,hr.high,hr.out,hr.rom,hr.ram⟩,ho⟩
theorem gS {s:S} (h:Good s.m) (n v:Int) (v0:0<=v) (v1:v<=255):Good (put s n v).m:=by
 unfold put;split
 ·exact dT h _ v v0 v1
 ·exact aHJ h n v v0 v1
theorem gN {m:M} (h:Good m) (p v:Int) (v0:0<=v) (v1:v<=65535):Good (aN m p v):=by
 obtain ⟨ha,hf,hb,hc,hd,he,hh,hl,h16,hsp,hpc,hr,ho⟩:=h;have q1:0<=v / 256/\v / 256<=255:=by omega
 have q2:0<=v%256/\v%256<=255:=by omega
 unfold aN
 repeat' split
 all_goals exact ⟨ha,hf,by first|exact hb|exact q1,by first|exact hc|exact q2,by first|exact hd|exact q1,by first|exact he|exact q2,by first|exact hh|exact q1,by first|exact hl|exact q2,h16,by first|exact hsp|exact ⟨v0,v1⟩,hpc,⟨hr.cart,hr.work,hr.high,hr.out,hr.rom,hr.ram⟩,ho⟩
theorem jZ {m:M} (h:Good m):0<=hl m/\hl m<=65535:=by have:=h.h;have:=h.l;unfold hl;omega
theorem eC {m:M} (h:Good m) (p:Int):0<=pr m p/\pr m p<=65535:=by
 have:=h.b;have:=h.c;have:=h.d;have:=h.e;have:=h.h;have:=h.l;have:=h.sp
 unfold pr
 repeat' split
 all_goals omega
theorem mC {m:M} (h:Good m) (p:Int):0<=prQ m p/\prQ m p<=65535:=by
 have:=h.a;have:=h.f
 unfold prQ;split
 ·omega
 ·exact eC h p
theorem jP {m:M} (h:Good m) (f:Int) (f0:0<=f) (f1:f<=255) (f2:f%16=0):Good { m with rf:=f } :=
 ⟨h.a,⟨f0,f1⟩,h.b,h.c,h.d,h.e,h.h,h.l,f2,h.sp,h.pc,⟨h.rt.cart,h.rt.work,h.rt.high,h.rt.out,h.rt.rom,h.rt.ram⟩,h.outs⟩
theorem kQ {m:M} (h:Good m) (v:Int) (v0:0<=v) (v1:v<=255):Good { m with ra:=v } :=
 ⟨⟨v0,v1⟩,h.f,h.b,h.c,h.d,h.e,h.h,h.l,h.f16,h.sp,h.pc,⟨h.rt.cart,h.rt.work,h.rt.high,h.rt.out,h.rt.rom,h.rt.ram⟩,h.outs⟩
theorem nE {m:M} (h:Good m) (v:Int) (v0:0<=v) (v1:v<=65535):Good { m with sp:=v } :=
 ⟨h.a,h.f,h.b,h.c,h.d,h.e,h.h,h.l,h.f16,⟨v0,v1⟩,h.pc,⟨h.rt.cart,h.rt.work,h.rt.high,h.rt.out,h.rt.rom,h.rt.ram⟩,h.outs⟩
theorem iD {m:M} (h:Good m) (v:Int) (v0:0<=v) (v1:v<=65535):Good { m with pc:=v } :=
 ⟨h.a,h.f,h.b,h.c,h.d,h.e,h.h,h.l,h.f16,h.sp,⟨v0,v1⟩,⟨h.rt.cart,h.rt.work,h.rt.high,h.rt.out,h.rt.rom,h.rt.ram⟩,h.outs⟩
theorem qY {m:M} (h:Good m) (i j:Bool) (c:Int):Good { m with ime:=i,hal:=j,cyc:=c } :=
 ⟨h.a,h.f,h.b,h.c,h.d,h.e,h.h,h.l,h.f16,h.sp,h.pc,⟨h.rt.cart,h.rt.work,h.rt.high,h.rt.out,h.rt.rom,h.rt.ram⟩,h.outs⟩
theorem fO (z n h c:Bool):0<=fl z n h c/\fl z n h c<=255/\fl z n h c%16=0:=by cases z <;> cases n <;> cases h <;> cases c <;> decide
theorem vI {m:M} (h:Good m) (z n k c:Bool):Good { m with rf:=fl z n k c }:=jP h _ (fO z n k c).1 (fO z n k c).2.1 (fO z n k c).2.2
theorem nF {s:S} (h:Good s.m) (p:Int × Int) (a0:0<=p.1) (a1:p.1<=255) (f0:0<=p.2) (f1:p.2<=255) (f2:p.2%16=0):Good (AF s p).m:=jP (kQ h p.1 a0 a1) p.2 f0 f1 f2
theorem sX {s:S} (h:Good s.m) (v:Int) (v0:0<=v) (v1:v<=65535):Good (push s v).m:=by
 have hsp:=h.sp;exact nE (dT (dT h _ _ (by omega) (by omega)) _ _ (by omega) (by omega)) _ (by omega) (by omega)
theorem lJ (m:M):0<=bA m/\bA m<=65535:=by
 have h1:=fN m m.sp;have h2:=fN m ((m.sp+1)%65536);unfold bA;omega
theorem fD {m:M} (h:Good m):Good (aU m):=nE h _ (by omega) (by omega)
theorem aHK {m:M} (h:Good m) (p v:Int) (v0:0<=v) (v1:v<=65535):Good (eW m p v):=by
 unfold eW;split
 ·exact jP (kQ h (v / 256) (by omega) (by omega)) _ (by omega) (by omega) (by omega)
 ·exact gN h p v v0 v1
theorem aET {a b:Int} (a0:0<=a) (a1:a<=255) (b0:0<=b) (b1:b<=255):(0<=bits .and .i64 a b/\bits .and .i64 a b<=255)/\(0<=bits .or .i64 a b/\bits .or .i64 a b<=255)/\(0<=bits .xor .i64 a b/\bits .xor .i64 a b<=255):=by
 have h1:a.toNat &&& b.toNat<2 ^ 8:=Nat.and_lt_two_pow _ (by omega);have h2:a.toNat ||| b.toNat<2 ^ 8:=Nat.or_lt_two_pow (by omega) (by omega)
 have h3:a.toNat ^^^ b.toNat<2 ^ 8:=Nat.xor_lt_two_pow (by omega) (by omega);rw [aKB a0 a1 b0 b1,aRT a0 a1 b0 b1,wV a0 a1 b0 b1];omega
theorem aMC {op a b f:Int} (a0:0<=a) (a1:a<=255) (b0:0<=b) (b1:b<=255) (o0:0<=op) (o1:op<=7):0<=(aS op a b f).1/\(aS op a b f).1<=255/\0<=(aS op a b f).2/\(aS op a b f).2<=255/\(aS op a b f).2%16=0:=by
 obtain ⟨k1,k2,k3⟩:=aET a0 a1 b0 b1;have ho:op=0 \/ op=1 \/ op=2 \/ op=3 \/ op=4 \/ op=5 \/ op=6 \/ op=7:=by omega
 rcases ho with rfl|rfl|rfl|rfl|rfl|rfl|rfl|rfl
 ·rw [aJU];exact ⟨by show 0<=(_:Int)%256;omega,by show (_:Int)%256<=255;omega,fO _ _ _ _⟩
 ·rw [aJV];exact ⟨by show 0<=(_:Int)%256;omega,by show (_:Int)%256<=255;omega,fO _ _ _ _⟩
 ·rw [tU];exact ⟨by show 0<=(_:Int)%256;omega,by show (_:Int)%256<=255;omega,fO _ _ _ _⟩
 ·rw [aJW];exact ⟨by show 0<=(_:Int)%256;omega,by show (_:Int)%256<=255;omega,fO _ _ _ _⟩
 ·rw [aJX];exact ⟨k1.1,k1.2,fO _ _ _ _⟩
 ·rw [aJY];exact ⟨k3.1,k3.2,fO _ _ _ _⟩
 ·rw [aJZ];exact ⟨k2.1,k2.2,fO _ _ _ _⟩
 ·rw [aKA,tU];exact ⟨a0,a1,fO _ _ _ _⟩
theorem qZ {v f:Int} (d:Bool):0<=(cP v f d).1/\(cP v f d).1<=255/\0<=(cP v f d).2/\(cP v f d).2<=255/\(cP v f d).2%16=0:=by
 unfold cP;split
 ·exact ⟨by show 0<=(_:Int)%256;omega,by show (_:Int)%256<=255;omega,fO _ _ _ _⟩
 ·exact ⟨by show 0<=(_:Int)%256;omega,by show (_:Int)%256<=255;omega,fO _ _ _ _⟩
theorem sY (a b f:Int):0<=(awR a b f).1/\(awR a b f).1<=65535/\0<=(awR a b f).2/\(awR a b f).2<=255/\(awR a b f).2%16=0:=⟨by show 0<=(_:Int)%65536;omega,by show (_:Int)%65536<=65535;omega,fO _ _ _ _⟩
theorem aEU (a b:Int):0<=(asR a b).1/\(asR a b).1<=65535/\0<=(asR a b).2/\(asR a b).2<=255/\(asR a b).2%16=0:=⟨by show 0<=(_:Int)%65536;omega,by show (_:Int)%65536<=65535;omega,fO _ _ _ _⟩
theorem bBG (a f:Int):0<=(fJ a f).1/\(fJ a f).1<=255/\0<=(fJ a f).2/\(fJ a f).2<=255/\(fJ a f).2%16=0:=⟨by show 0<=(_:Int)%256;omega,by show (_:Int)%256<=255;omega,fO _ _ _ _⟩
theorem aSZ {op v c:Int} (v0:0<=v) (v1:v<=255) (c0:0<=c) (c1:c<=1):0<=(aGG op v c).1/\(aGG op v c).1<=255:=by
 unfold aGG
 repeat' split
 all_goals simp only []
 all_goals omega
theorem rA {op v f:Int} (v0:0<=v) (v1:v<=255):0<=(cD op v f).1/\(cD op v f).1<=255/\0<=(cD op v f).2/\(cD op v f).2<=255/\(cD op v f).2%16=0:=by
 obtain ⟨c0,c1⟩:=fA f;have h:=aSZ (op:=op) v0 v1 c0 c1;exact ⟨h.1,h.2,fO _ _ _ _⟩
theorem rF (y:Int):cQ y=1 \/ cQ y=2 \/ cQ y=4 \/ cQ y=8 \/ cQ y=16 \/ cQ y=32 \/ cQ y=64 \/ cQ y=128:=by
 unfold cQ
 repeat' split
 all_goals decide
theorem aBZ:∀ (v:Fin 256) (k:Fin 8),0<=bits .andNot .i64 (v.val:Int) (2 ^ k.val:Int)/\bits .andNot .i64 (v.val:Int) (2 ^ k.val:Int)<=255:=by decide +kernel
theorem aMD (y:Int):∃ k:Fin 8,cQ y=2 ^ k.val:=by
 rcases rF y with h|h|h|h|h|h|h|h
 all_goals first|exact ⟨0,h⟩|exact ⟨1,h⟩|exact ⟨2,h⟩|exact ⟨3,h⟩|exact ⟨4,h⟩|exact ⟨5,h⟩|exact ⟨6,h⟩|exact ⟨7,h⟩
theorem oN {v:Int} (v0:0<=v) (v1:v<=255) (y:Int):0<=bits .andNot .i64 v (cQ y)/\bits .andNot .i64 v (cQ y)<=255:=by
 obtain ⟨k,hk⟩:=aMD y;have h:=aBZ ⟨v.toNat,by omega⟩ k;rw [hk];have e:((v.toNat:Nat):Int)=v:=by omega
 simpa [e] using h
theorem rG {v:Int} (v0:0<=v) (v1:v<=255) (y:Int):0<=bits .or .i64 v (cQ y)/\bits .or .i64 v (cQ y)<=255:=by
 have h:=rF y;exact (aET v0 v1 (by omega) (by omega)).2.1
theorem aTA {s:S} (h:Good s.m) (code:Int):Good (cbE code s).m:=by
 have hg:=dN h (code%8);unfold cbE;split
 ·have ht:=rA (op:=code / 8%8) (f:=s.m.rf) hg.1 hg.2
  exact jP (gS h _ _ ht.1 ht.2.1) _ ht.2.2.1 ht.2.2.2.1 ht.2.2.2.2
 ·split
  ·exact vI h _ _ _ _
  ·split
   ·have ht:=oN hg.1 hg.2 (code / 8%8)
    exact gS h _ _ ht.1 ht.2
   ·have ht:=rG hg.1 hg.2 (code / 8%8)
    exact gS h _ _ ht.1 ht.2
theorem aME {s:S} (h:Good s.m) (y:Int):Good (gY y s).m:=by
 have ha:=h.a;unfold gY;split
 ·have ht:=bBG s.m.ra s.m.rf
  exact nF h _ ht.1 ht.2.1 ht.2.2.1 ht.2.2.2.1 ht.2.2.2.2
 ·split
  ·have ht:=fO (zB s.m.rf) true true (cB s.m.rf)
   exact nF h _ (by simp only [];omega) (by simp only [];omega) ht.1 ht.2.1 ht.2.2
  ·split
   ·exact vI h _ _ _ _
   ·split
    ·exact vI h _ _ _ _
    ·have ht:=rA (op:=y) (f:=s.m.rf) ha.1 ha.2
     have hf:=fO false false false (cB (cD y s.m.ra s.m.rf).2);exact nF h _ ht.1 ht.2.1 hf.1 hf.2.1 hf.2.2
theorem dI (b:Int):-128<=sgn b/\sgn b<=127:=ReckM.dI b
theorem iE {m:M} (h:Good m) (p:Int):Good (bZ m p):=by
 unfold bZ;split
 ·exact gN h 2 _ (by omega) (by omega)
 ·exact h
def rI (code:Int) (cb:Bool) (imm:Int):Prop:=cb=true \/ (0<=imm/\imm<=65535/\((code<64->code%8 ≠ 1->¬ (code%8=0/\code / 8=1)->imm<=255)/\(code=224 \/ code=240 \/ code=232 \/ code=248 \/ (192<=code/\code%8=6)->imm<=255)))
theorem aMF {s:S} (h:Good s.m) (code imm:Int) (c0:0<=code) (c1:code<64) (hi:rI code false imm):Good (bY code imm s).1.m:=by
 rcases hi with hi|⟨i0,i1,i2,i3⟩
 ·cases hi
 have hsp:=h.sp;have hpc:=h.pc;have hs:=dI imm;unfold bY;split
 ·split
  ·exact dT (dT h _ _ (by omega) (by omega)) _ _ (by omega) (by omega)
  ·split
   ·exact iD h _ (by omega) (by omega)
   ·exact h
 ·split
  ·split
   ·exact gN h _ _ i0 i1
   ·have ht:=sY (hl s.m) (pr s.m (code / 8 / 2)) s.m.rf
    exact jP (gN h 2 _ ht.1 ht.2.1) _ ht.2.2.1 ht.2.2.2.1 ht.2.2.2.2
  ·split
   ·split
    ·exact iE (dT h _ _ h.a.1 h.a.2) _
    ·have hr:=fN s.m (placeOf s.m (code / 8 / 2))
     exact iE (kQ h _ hr.1 hr.2) _
   ·split
    ·exact gN h _ _ (by omega) (by omega)
    ·split
     ·have ht:=qZ (v:=get s.m (code / 8)) (f:=s.m.rf) false
      exact jP (gS h _ _ ht.1 ht.2.1) _ ht.2.2.1 ht.2.2.2.1 ht.2.2.2.2
     ·split
      ·have ht:=qZ (v:=get s.m (code / 8)) (f:=s.m.rf) true
       exact jP (gS h _ _ ht.1 ht.2.1) _ ht.2.2.1 ht.2.2.2.1 ht.2.2.2.2
      ·split
       ·exact gS h _ _ i0 (i2 c1 (by omega) (by omega))
       ·exact aME h _
theorem sZ {s:S} (h:Good s.m) (v:Int) (v0:0<=v) (v1:v<=65535):Good (aR v s).m:=iD (sX h _ h.pc.1 h.pc.2) _ v0 v1
theorem kD {c:Prop} [Decidable c] {x y:S × Bool} (h1:c->Good x.1.m) (h2:¬ c->Good y.1.m):Good (if c then x else y).1.m:=by
 by_cases h:c
 ·rw [if_pos h];exact h1 h
 ·rw [if_neg h];exact h2 h
theorem aMG {s:S} (h:Good s.m) (code imm:Int) (c0:192<=code) (c1:code<=255) (hi:rI code false imm):Good (aW code imm s).1.m:=by
 rcases hi with hi|⟨i0,i1,i2,i3⟩
 ·cases hi
 have hv:=lJ s.m;have ht:=aEU s.m.sp imm;unfold aW;refine kD (fun _=>qY (iD (fD h) _ hv.1 hv.2) _ _ _) (fun _=>?_);refine kD (fun _=>dT h _ _ h.a.1 h.a.2) (fun _=>?_);refine kD (fun _=>dT h _ _ h.a.1 h.a.2) (fun _=>?_);refine kD (fun _=>kQ h _ (fN _ _).1 (fN _ _).2) (fun _=>?_);refine kD (fun _=>kQ h _ (fN _ _).1 (fN _ _).2) (fun _=>?_);refine kD (fun _=>dT h _ _ h.a.1 h.a.2) (fun _=>?_);refine kD (fun _=>kQ h _ (fN _ _).1 (fN _ _).2) (fun _=>?_);refine kD (fun _=>jP (nE h _ ht.1 ht.2.1) _ ht.2.2.1 ht.2.2.2.1 ht.2.2.2.2) (fun _=>?_);refine kD (fun _=>jP (gN h 2 _ ht.1 ht.2.1) _ ht.2.2.1 ht.2.2.2.1 ht.2.2.2.2) (fun _=>?_);refine kD (fun _=>nE h _ (jZ h).1 (jZ h).2) (fun _=>?_);refine kD (fun _=>iD h _ (jZ h).1 (jZ h).2) (fun _=>?_);refine kD (fun _=>aHK (fD h) _ _ hv.1 hv.2) (fun _=>?_);refine kD (fun _=>sX h _ (mC h _).1 (mC h _).2) (fun _=>?_);refine kD (fun _=>iD h _ i0 i1) (fun _=>?_);refine kD (fun _=>qY h _ _ _) (fun _=>?_);refine kD (fun _=>sZ h _ i0 i1) (fun _=>?_);refine kD (fun h6=>?_) (fun _=>?_)
 ·have ht:=aMC (op:=code / 8%8) (f:=s.m.rf) h.a.1 h.a.2 i0 (i3 (.inr (.inr (.inr (.inr ⟨c0,h6⟩))))) (by omega) (by omega)
  exact nF h _ ht.1 ht.2.1 ht.2.2.1 ht.2.2.2.1 ht.2.2.2.2
 refine kD (fun _=>sZ h _ (by omega) (by omega)) (fun _=>h)
theorem xX {s:S} (h:Good s.m) (code:Int) (cb:Bool) (imm:Int) (c0:0<=code) (c1:code<=255) (hi:rI code cb imm):Good (sem code cb imm s).1.m:=by
 unfold sem;split
 ·exact aTA h code
 have hcb:cb=false:=by cases cb <;> simp_all
 subst hcb;split
 ·exact aMF h code imm c0 (by assumption) hi
 split
 ·exact qY h _ _ _
 split
 ·exact gS h _ _ (dN h _).1 (dN h _).2
 split
 ·have ht:=aMC (op:=code / 8%8) (f:=s.m.rf) h.a.1 h.a.2 (dN h (code%8)).1 (dN h (code%8)).2 (by omega) (by omega)
  exact nF h _ ht.1 ht.2.1 ht.2.2.1 ht.2.2.2.1 ht.2.2.2.2
 ·exact aMG h code imm (by omega) c1 hi
end Stpq
end Go.Proofs.YteglcgnhhoenbaaGreatDoor
