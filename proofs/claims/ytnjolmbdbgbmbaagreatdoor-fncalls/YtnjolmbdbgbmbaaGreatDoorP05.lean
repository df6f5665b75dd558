/-
  Contracts and facts of ours, joined: Busx, Busy, Samm, Reck, ReckS, ReckM.
-/
import Derived.Test.YtnjolmbdbgbmbaaGreatDoorP03
import Derived.Test.YtnjolmbdbgbmbaaGreatDoorP04
import Derived.WalkLawsBesides
import Derived.Deep.Onto
import Derived.Laws.AppendOwnNone
import Derived.Test.YtnjolmbdbgbmbaaGreatDoorP00
import Derived.Test.YtnjolmbdbgbmbaaGreatDoorRows
import Derived.WalkKit
import Derived.ProofKit
import Derived.OpenShut
import Derived.Laws.EntriesVeiled
import Derived.BigQuiet
import Derived.Deep.RegionWith
import Derived.Deep.QuietTactic
set_option linter.unusedVariables false
set_option linter.unusedSimpArgs false
set_option maxRecDepth 20000
set_option maxHeartbeats 8000000
open Go.ChangeShapes Go.WideShapes Go.ChangeAt Go.RowKit
open Go.Proofs.Tryz
namespace Go.Proofs.YtnjolmbdbgbmbaaGreatDoor.Busx
open Go.Deep
open Signed (inB ret_int ret_bool isByte_any l1In_any)
open Carts CartK CartL CartM CartN CartP CartR CartW CartY Outs MachT MachO MachK MachB Busw
def Sl (w:World) (po:Option Addr) (L:List Int) (cap:Nat):Prop:=(po=none/\L=[]/\cap=0) \/ ∃ b off,po=some ⟨b,off,none⟩/\∀ i (h:i<L.length),b<w.heap.size/\w.cell? ⟨b,off+i,none⟩=some (.int .i64 L[i])
theorem Sl.below {w w':World} {po:Option Addr} {L:List Int} {cap:Nat} (h:Sl w po L cap) (hb:Below w.heap.size w w'):Sl w' po L cap:=by
 rcases h with h|⟨b,off,rfl,hc⟩
 ·exact .inl h
 ·exact .inr ⟨b,off,rfl,fun i hi=>⟨Nat.lt_of_lt_of_le (hc i hi).1 hb.size,(hb.cell (p:=⟨b,_,none⟩) (hc i hi).1).trans (hc i hi).2⟩⟩
theorem Sl.row {w:World} {po:Option Addr} {L:List Int} {cap:Nat} (h:Sl w po L cap):Row w po L:=by
 rcases h with ⟨_,h,_⟩|⟨b,off,h1,h2⟩
 ·exact .inl h
 ·by_cases he:L=[]
  ·exact .inl he
  ·exact .inr ⟨b,off,h1,(h2 0 (List.length_pos_iff.2 he)).1,fun i hi=>(h2 i hi).2⟩
theorem clone_any (po:Option Addr) (L:List Int) (cap:Nat) (w:World) (h:Sl w po L cap) (hlen:L.length<=1048576) :
  Calls prog 49 #[.slice po L.length cap] w fun e w'=>(∃ po' cap',e=.returned (.slice po' L.length cap')/\w'.ownsRow w.heap.size 2 1 (.slice po' L.length cap') L.length (outC L))/\Below w.heap.size w w':=by
 obtain ⟨i0,hi,hz0,hz1,hz2⟩:=Busw.info_parts Busw.info2
 have hnil:=fun (w:World) (a:Option Addr) (n c:Nat)=>Lib.run_eql_slice_nil (P:=prog) w 26 2 a n c 0 0 underlying26
 rcases h with ⟨rfl,rfl,rfl⟩|⟨b,off,rfl,hc⟩
 ·have HR:Hid (w.ownsRow w.heap.size 2 1 (.slice none 0 0) 0 (outC [])):=World.ownsRow_nil _ _ _ _
  go_enter func49,ntmps49
  go_wp2
  go_ret
  exact ⟨⟨none,0,rfl,HR.out⟩,Below.refl _ _⟩
 ·have HC:Hid (∀ (o:Obj) j u,(outC L)[j]? = some u->(w.alloc o).cell? ((⟨b,off,none⟩ : Addr).add j)=some u):=fun o j u hu=>by
   unfold outC at hu
   rw [List.getElem?_map] at hu
   obtain ⟨z,hz,rfl⟩:=Option.map_eq_some_iff.1 hu
   obtain ⟨hj,rfl⟩:=List.getElem?_eq_some_iff.1 hz
   have e:(⟨b,off,none⟩ : Addr).add j=⟨b,off+j,none⟩:=by unfold Addr.add;split <;> simp_all
   rw [e]
   exact (((Below.refl _ w).alloc (Nat.le_refl _) o).cell (p:=⟨b,off+j,none⟩) (hc j hj).1).trans (hc j hj).2
  have H1:Hid (∀ u ∈ outC L,u.oneCell'=true):=fun u hu=>by
   obtain ⟨z,_,rfl⟩:=List.mem_map.1 hu;rfl
  have HL:Hid ((outC L).length=L.length*1):=by show _=_;simp [outC]
  have R0:Hid ((w.alloc (.cells #[] 2)).ownsRow w.heap.size 2 1 (.slice (some ⟨w.heap.size,0,none⟩) 0 0) 0 []):=World.ownsRow_lit w #[] 0 (Nat.le_refl _) (Nat.zero_le _) rfl
  clear hc
  generalize outC L=oc at *
  generalize L.length=n at *
  go_enter func49,ntmps49
  go_wp2_with (at_builtin;refine wpList_append_own _ rfl _ _ 26 rfl w.heap.size 2 i0 (.int .i64 0) 1 8 underlying26 hi hz0 hz1 hz2 rfl (by decide) _ _ _ rfl R0.out ⟨b,off,none⟩ n cap oc rfl HL.out ?c1 ?c2 ?c3 ?c4 ?c5 ?_)
  case c1=>exact HC.out _
  case c2=>exact H1.out
  case c3=>unfold maxLen;omega
  case c4=>omega
  case c5=>simp
  intro v' w6 hown' hgrow _
  have B6:Hid (Below w.heap.size w w6):=((Below.refl _ w).alloc (Nat.le_refl _) _).grown hgrow (by simp) (fun k ek=>by have:=(R0.out.lt k ek).1;omega)
  obtain ⟨po',cap',rfl⟩ : ∃ po' cap',v'=.slice po' n cap':=by
   rcases hown'.2 with ⟨rfl,h0⟩|⟨g,cap',cur,hv,_⟩
   ·exact ⟨none,0,by rw [h0]⟩
   ·exact ⟨_,_,hv⟩
  have R6:Hid (w6.ownsRow w.heap.size 2 1 (.slice po' n cap') n oc):=hown'
  clear hown' hgrow
  go_wp2
  go_ret
  exact ⟨⟨po',cap',rfl,R6.out⟩,B6.out⟩
def Z0:M:=⟨0,0,0,0,0,0,0,0,0,0,false,false,⟨#[]⟩,0,0,⟨#[]⟩,0,false,0,⟨#[]⟩,⟨#[]⟩,[],0⟩
theorem zeroM (w:World):(zeroValue 33).run prog w=.ok (.agg (cellsM Z0 none 0)) w:=by rw [cells_def];kernel_rfl
theorem builtM:(prog.built 33 [])=some (cellsM Z0 none 0):=by rw [cells_def];kernel_rfl
theorem size_M (m:M) (po:Option Addr) (cap:Nat):(cellsM m po cap).size=23:=by rw [cells_def];rfl
theorem one_M (m:M) (po:Option Addr) (cap:Nat):(cellsM m po cap).all (·.oneCell')=true:=by rw [cells_def];simp [Value.oneCell']
theorem infoM:(prog.info? 33).map (·.size)=some 23:=by kernel_rfl
theorem infoMs (m:M) (po:Option Addr) (cap:Nat):(prog.info? 33).map (·.size)=some (cellsM m po cap).size:=by rw [size_M];exact infoM
def okMM (m:M):Bool:=okM m.ra m.rf m.rB m.rC m.rD m.rE m.rH m.rL m.sp m.pc (okB m.rom m.kind m.bank m.ram m.rb m.on m.mode) m.work.size m.high.size m.out m.cyc
structure Sm (m:M):Prop where
 rom:m.rom.size<=maxLen
 ram:m.ram.size<=maxLen
 work:m.work.size<=1048576
 high:m.high.size<=1048576
 out:m.out.length<=1048576
theorem implOk_M (m:M) (po:Option Addr) (cap:Nat) (w:World) (h:Sm m) (hN:Sl w po m.out cap):Calls prog 33 #[.agg (cellsM m po cap)] w fun e w'=>e=.returned (.bool (okMM m))/\Below w.heap.size w w':=by
 rw [cells_def];exact implM_any m.ra m.rf m.rB m.rC m.rD m.rE m.rH m.rL m.sp m.pc m.ime m.hal m.rom m.kind m.bank m.ram m.rb m.on m.mode m.work m.high po m.out cap m.cyc w h.rom h.ram h.work h.high hN.row h.out
theorem rt_of {m:M} (h:okMM m=true) (hs:Sm m):Rt m:=by
 have p:=okM_parts h
 refine ⟨p.1,p.2.1,p.2.2,?_,hs.rom,hs.ram⟩
 unfold okMM okM at h
 simp only [Bool.and_eq_true,decide_eq_true_eq] at h
 exact h.1.1.1.2
theorem results_two {P:Program} {fn:Func} {p q:Tmp} {ty:TypeId} (h:fn.results=#[.cell p ty,.tmp q]) (tmps:Array Value) (w:World) (g:Nat) (t:TypeId) (cs:Array Value) (fr:Nat × Nat) (d:TypeDesc) (v:Value)
  (hp:tmps.getD p undef=.pointer (some ⟨g,0,none⟩)) (hq:tmps.getD q undef=v) (hg:w.heap[g]? = some (.cells cs t fr))
  (hu:P.underlying ty=some d) (hd:(match d with|.struct _|.array _ _=>true|_=>false)=true) (hi:(P.info? ty).map (·.size)=some cs.size) :
  (results fn tmps).run P w=.ok (.tuple #[.agg cs,v]) w:=MachN.results_two h tmps w g t cs fr d v hp hq hg hu hd hi
theorem wpList_build0 {P:Program} {ops:Array Oper} {rest:List Oper} {o:Oper} {a:Act} {w:World} {Q:Exit->Act->World->Prop} (hg:o.guard=none) (t:TypeId) (ho:o.op=.build t #[]) (cs:Array Value) (hb:P.built t []=some cs) (h:wpList P ops Q rest (a.put o.dst (.agg cs)) w):wpList P ops Q (o :: rest) a w :=
 wpList_build hg t #[] ho (by simp [hb]) (by simpa [hb] using h)
theorem own_at {w:World} {base n cap:Nat} {po:Option Addr} {xs:List Value} (h:w.ownsRow base 2 1 (.slice po n cap) n xs) (p:Addr) (e:po=some p):base<=p.block:=by
 subst e
 rcases h.2 with ⟨h,_⟩|⟨g,c,cur,hv,hb,_⟩
 ·cases h
 ·cases hv;exact hb
theorem lay {w w1 w2:World} {m:M} {po po':Option Addr} {cap cap':Nat} (HB:Below w.heap.size w w1) (HK:w1.heap[w.heap.size]? = some (.cells (cellsM m po cap) 33 (0,0))) (hb2:Below w1.heap.size w1 w2) (own:w2.ownsRow w1.heap.size 2 1 (.slice po' m.out.length cap') m.out.length (outC m.out)) :
  Held (w2.setCell ⟨w.heap.size,21,none⟩ (.slice po' m.out.length cap')) w.heap.size w.heap.size m po' cap':=by
 have hlt:w.heap.size<w1.heap.size:=(zLo HK)
 have hbox2:w2.heap[w.heap.size]? = some (.cells (cellsM m po cap) 33 (0,0)):=(hb2.block _ hlt).trans HK
 have hne:=row_ne own hbox2
 refine ⟨put_21 hbox2 m.out _ rfl po' cap',?_,hne⟩
 exact (World.ownsRow.mono own HB.size).kept (row:=some w.heap.size) ⟨rfl,rfl,rfl,by rw [Busw.size_set];exact Nat.le_refl _,fun k _ hk=>Below.heap_setCell _ _ _ _ (fun e=>hk (by rw [e]))⟩ (.inr hne)
theorem set_row_grown (w:World) (B:Nat) (cs:Array Value):w.grownBy (w.setRow B cs) (some B) :=
 ⟨rfl,rfl,rfl,by simp [World.setRow],fun k _ hk=>by
  have hne:¬ B=k:=fun e=>hk (by rw [e])
  simp [World.setRow,Array.getElem?_modify,hne]⟩
end Go.Proofs.YtnjolmbdbgbmbaaGreatDoor.Busx
namespace Go.Proofs.YtnjolmbdbgbmbaaGreatDoor.Busy
open Go.Deep
open Signed (inB ret_int ret_bool isByte_any l1In_any)
open Carts CartK CartL CartM CartN CartP CartR CartW CartY Outs MachT MachO MachK MachB Busw Busx
theorem own_sl {w:World} {base n cap:Nat} {po:Option Addr} {L:List Int} (h:w.ownsRow base 2 1 (.slice po n cap) n (outC L)) (hn:n=L.length):Sl w po L cap:=by
 subst hn
 rcases h.2 with ⟨h0,hl⟩|⟨g,c,cur,hv,hb,hg,h1,h2,h3,h4⟩
 ·injection h0 with e1 e2 e3
  exact .inl ⟨e1,List.length_eq_zero_iff.1 hl,e3⟩
 ·cases hv
  refine .inr ⟨g,0,rfl,fun i hi=>⟨(zLo hg),?_⟩⟩
  have hc:cur[i]? = some (.int .i64 L[i]):=by
   have e:(outC L)[i]? = some (.int .i64 L[i]):=by simp [outC,hi]
   rw [<- h4,Nat.mul_one,List.getElem?_take_of_lt hi] at e
   simpa using e
  rw [Nat.zero_add]
  exact cel hg i _ hc
end Go.Proofs.YtnjolmbdbgbmbaaGreatDoor.Busy
namespace Go.Proofs.YtnjolmbdbgbmbaaGreatDoor.Samm
open Busw Busx Busy
open Outs (Row)
theorem sameInts_any (a a':Option Addr) (cap cap':Nat) (L:List Int) (w:World) (hN:Row w a L) (hN':Row w a' L) (hlen:L.length<=1048576) :
  Calls prog 29 #[.slice a L.length cap,.slice a' L.length cap'] w fun e w'=>e=.returned (.bool true)/\∃ n,w'=w.drewN n:=by
 obtain ⟨len,hl⟩ : ∃ len,len=L.length:=⟨_,rfl⟩
 have HL:Hid (len=L.length):=hl
 rw [<- hl] at hlen |-
 clear hl
 go_enter func29,ntmps29
 go_wp2
 go_loopw [5] (fun i wr=>∃ k n:Nat,k<=len/\i=.int .i64 k/\wr=w.drewN n) (fun i _=>len-(intOf i).toNat)
 case atStart=>exact ⟨0,0,Nat.zero_le _,rfl,rfl⟩
 case round =>
  obtain ⟨k,n,hk,rfl,rfl⟩:=hrel
  by_cases hlt:k<len
  ·have hkL:k<L.length:=by have:=HL.out;omega
   rcases hN with hnil|⟨b,off,rfl,hb,hc⟩
   ·exfalso;rw [hnil] at hkL;exact absurd hkL (by simp)
   rcases hN' with hnil|⟨b',off',rfl,hb',hc'⟩
   ·exfalso;rw [hnil] at hkL;exact absurd hkL (by simp)
   have c0:w.cell? ⟨b,off+k,none⟩=some (.int .i64 L[k]):=hc k hkL
   have e0:w.cell? ⟨b',off'+k,none⟩=some (.int .i64 L[k]):=hc' k hkL
   clear hc hc'
   generalize L[k]=kd at c0 e0
   have k0:(0:Int)<=(k:Int):=by omega
   have k1:(k:Int)<(len:Int):=by omega
   go_wp2_with fail
   go_quiet (fail)
   go_wp2
   go_roundw
   case rel=>exact ⟨k+1,_,by omega,by go_num,rfl⟩
   case measure=>simp [intOf];omega
  ·clear hN hN'
   go_wp2
   go_ret
   exact ⟨rfl,_,rfl⟩
theorem sameCart_ex (rom:ByteArray) (kind bank:Int) (ram:ByteArray) (rb:Int) (on:Bool) (mode:Int) (w:World):Calls prog 65 #[.agg #[.string rom,.int .i64 kind,.int .i64 bank,.string ram,.int .i64 rb,.bool on,.int .i64 mode],.agg #[.string rom,.int .i64 kind,.int .i64 bank,.string ram,.int .i64 rb,.bool on,.int .i64 mode]] w fun e w'=>e=.returned (.bool true)/\∃ o1 o2,w'=(w.alloc o1).alloc o2:=by
 go_enter func65,ntmps65
 go_wp2
 go_ret
 exact ⟨rfl,_,_,rfl⟩
theorem sameMachine_mb (ra rf rB rC rD rE rH rL sp pc:Int) (ime hal:Bool) (rom:ByteArray) (kind bank:Int) (ram:ByteArray) (rb:Int) (on:Bool) (mode:Int) (work high:ByteArray) (po:Option Addr) (L:List Int) (cap:Nat) (cyc:Int) (po':Option Addr) (cap':Nat) (w:World) (hN:Row w po L) (hN':Row w po' L) (hlen:L.length<=1048576) :
  Calls prog 28 #[.agg #[.int .i64 ra,.int .i64 rf,.int .i64 rB,.int .i64 rC,.int .i64 rD,.int .i64 rE,.int .i64 rH,.int .i64 rL,.int .i64 sp,.int .i64 pc,.bool ime,.bool hal,.string rom,.int .i64 kind,.int .i64 bank,.string ram,.int .i64 rb,.bool on,.int .i64 mode,.string work,.string high,.slice po L.length cap,.int .i64 cyc],.agg #[.int .i64 ra,.int .i64 rf,.int .i64 rB,.int .i64 rC,.int .i64 rD,.int .i64 rE,.int .i64 rH,.int .i64 rL,.int .i64 sp,.int .i64 pc,.bool ime,.bool hal,.string rom,.int .i64 kind,.int .i64 bank,.string ram,.int .i64 rb,.bool on,.int .i64 mode,.string work,.string high,.slice po' L.length cap',.int .i64 cyc]] w fun e w'=>e=.returned (.bool true)/\Below w.heap.size w w':=by
 have c:=fun W (h:Row W po L) (h':Row W po' L)=>sameInts_any po po' cap cap' L W h h' hlen
 have HB:Hid (Row w po L):=hN
 have HB':Hid (Row w po' L):=hN'
 clear hN hN' hlen
 obtain ⟨ln,hl⟩ : ∃ ln,ln=L.length:=⟨_,rfl⟩
 rw [<- hl] at c |-
 clear hl
 go_enter func28,ntmps28
 go_wp2_with (go_at_call 65;refine (sameCart_ex _ _ _ _ _ _ _ _).mono ?_;rintro e w' ⟨rfl,q1,q2,rfl⟩)
 refine Calls.mono (c _ ?_ ?_) ?_
 ·exact HB.out.below (by repeat (with_reducible first|exact zRf|refine zGr ?_ _|refine below_drewN ?_ _|refine Below.drew ?_))
 ·exact HB'.out.below (by repeat (with_reducible first|exact zRf|refine zGr ?_ _|refine below_drewN ?_ _|refine Below.drew ?_))
 rintro e w' ⟨rfl,n,rfl⟩
 clear c HB HB'
 go_wp2
 go_ret
 exact ⟨rfl,below_drewN (by repeat (with_reducible first|exact zRf|refine zGr ?_ _|refine below_drewN ?_ _|refine Below.drew ?_)) _⟩
theorem sameM_any (m:M) (po po':Option Addr) (cap cap':Nat) (w:World) (hN:Row w po m.out) (hN':Row w po' m.out) (hlen:m.out.length<=1048576) :
  Calls prog 28 #[.agg (cellsM m po cap),.agg (cellsM m po' cap')] w fun e w'=>e=.returned (.bool true)/\Below w.heap.size w w':=by
 rw [cells_def,cells_def]
 exact sameMachine_mb m.ra m.rf m.rB m.rC m.rD m.rE m.rH m.rL m.sp m.pc m.ime m.hal m.rom m.kind m.bank m.ram m.rb m.on m.mode m.work m.high po m.out cap m.cyc po' cap' w hN hN' hlen
end Go.Proofs.YtnjolmbdbgbmbaaGreatDoor.Samm
namespace Go.Proofs.YtnjolmbdbgbmbaaGreatDoor.Reck
open Signed (inB ret_int ret_bool isByte_any l1In_any)
def one (b:Bool):Int:=if b=true then 1 else 0
def chz (b:Bool) (y n:Int):Int:=if b=true then y else n
def fl (z n h c:Bool):Int:=128*one z+64*one n+32*one h+16*one c
def cy (f:Int):Int:=f / 16%2
theorem ret_two {a a' b b':Int} (h:a=a') (h':b=b'):Ending.returned (.tuple #[.int .i64 a,.int .i64 b])=.returned (.tuple #[.int .i64 a',.int .i64 b']):=by rw [h,h']
theorem cy_bd (f:Int):0<=cy f/\cy f<=1:=by unfold cy;omega
theorem isWord_any (n:Int) (w:World) :
  Calls prog 74 #[.int .i64 n] w fun e w'=>e=.returned (.bool (inB n 0 65535))/\w'=w:=by
 go_enter func74,ntmps74
 go_wp2
 all_goals go_ret
 all_goals exact ⟨ret_bool (by rw [Bool.eq_iff_iff];simp [inB];try omega),rfl⟩
theorem chosen_any (b:Bool) (y n:Int) (w:World) :
  Calls prog 115 #[.bool b,.int .i64 y,.int .i64 n] w fun e w'=>e=.returned (.int .i64 (chz b y n))/\w'=w:=by
 cases b
 all_goals
  go_enter func115,ntmps115
  go_wp2
  go_ret
  exact ⟨rfl,rfl⟩
theorem flagIf_any (v:Int) (b:Bool) (w:World) :
  Calls prog 226 #[.int .i64 v,.bool b] w fun e w'=>e=.returned (.int .i64 (chz b v 0))/\w'=w:=by
 go_enter func226,ntmps226
 go_wp2_with (go_at_call 115;refine (chosen_any _ _ _ _).mono ?_;rintro e w' ⟨rfl,rfl⟩)
 go_ret
 exact ⟨rfl,rfl⟩
theorem carryOf_any (f:Int) (w:World) (f0:0<=f) (f1:f<=255) :
  Calls prog 240 #[.int .i64 f] w fun e w'=>e=.returned (.int .i64 (cy f))/\w'=w:=by
 go_enter func240,ntmps240
 go_wp2
 go_ret
 exact ⟨rfl,rfl⟩
theorem or_hc (h c:Bool):bits .or .i64 (chz h 32 0) (chz c 16 0)=fl false false h c:=by cases h <;> cases c <;> decide
theorem or_nhc (h c:Bool):bits .or .i64 (bits .or .i64 64 (chz h 32 0)) (chz c 16 0)=fl false true h c:=by cases h <;> cases c <;> decide
def addR (a b c:Int):Int × Int:=((a+b+c)%256,fl false false (decide (15<a%16+b%16+c)) (decide (255<a+b+c)))
def subR (a b c:Int):Int × Int:=((a-b-c)%256,fl false true (decide (a%16<b%16+c)) (decide (a-b-c<0)))
def zd (p:Int × Int):Int × Int:=(p.1,p.2+128*one (decide (p.1=0)))
def aluR (op a b f:Int):Int × Int :=
 if op=0 then zd (addR a b 0) else if op=1 then zd (addR a b (cy f)) else if op=2 then zd (subR a b 0) else if op=3 then zd (subR a b (cy f))
 else if op=4 then zd (bits .and .i64 a b,32) else if op=5 then zd (bits .xor .i64 a b,0) else if op=6 then zd (bits .or .i64 a b,0) else (a,(zd (subR a b 0)).2)
def alu (op a b f:Int):Int × Int :=
 if (inB op 0 7 && inB a 0 255 && inB b 0 255 && inB f 0 255)=true then aluR op a b f else (0,0)
theorem addCarried_any (a b c:Int) (w:World) (a0:0<=a) (a1:a<=255) (b0:0<=b) (b1:b<=255) (c0:0<=c) (c1:c<=1) :
  Calls prog 250 #[.int .i64 a,.int .i64 b,.int .i64 c] w fun e w'=>e=.returned (.tuple #[.int .i64 (addR a b c).1,.int .i64 (addR a b c).2])/\w'=w:=by
 go_enter func250,ntmps250
 go_wp2_with (go_at_call 226;refine (flagIf_any _ _ _).mono ?_;rintro e w' ⟨rfl,rfl⟩)
 go_ret2
 refine ⟨ret_two rfl ?_,rfl⟩
 exact or_hc _ _
theorem subCarried_any (a b c:Int) (w:World) (a0:0<=a) (a1:a<=255) (b0:0<=b) (b1:b<=255) (c0:0<=c) (c1:c<=1) :
  Calls prog 252 #[.int .i64 a,.int .i64 b,.int .i64 c] w fun e w'=>e=.returned (.tuple #[.int .i64 (subR a b c).1,.int .i64 (subR a b c).2])/\w'=w:=by
 go_enter func252,ntmps252
 go_wp2_with (go_at_call 226;refine (flagIf_any _ _ _).mono ?_;rintro e w' ⟨rfl,rfl⟩)
 go_ret2
 refine ⟨ret_two rfl ?_,rfl⟩
 exact or_nhc _ _
theorem addAlone_any (a b c:Int) (w:World) (a0:0<=a) (a1:a<=255) (b0:0<=b) (b1:b<=255) :
  Calls prog 249 #[.int .i64 a,.int .i64 b,.int .i64 c] w fun e w'=>e=.returned (.tuple #[.int .i64 (addR a b 0).1,.int .i64 (addR a b 0).2])/\w'=w:=by
 go_enter func249,ntmps249
 go_wp2_with (go_at_call 250;refine (addCarried_any _ _ _ _ a0 a1 b0 b1 (by decide) (by decide)).mono ?_;rintro e w' ⟨rfl,rfl⟩)
 go_ret2
 exact ⟨rfl,rfl⟩
theorem subAlone_any (a b c:Int) (w:World) (a0:0<=a) (a1:a<=255) (b0:0<=b) (b1:b<=255) :
  Calls prog 251 #[.int .i64 a,.int .i64 b,.int .i64 c] w fun e w'=>e=.returned (.tuple #[.int .i64 (subR a b 0).1,.int .i64 (subR a b 0).2])/\w'=w:=by
 go_enter func251,ntmps251
 go_wp2_with (go_at_call 252;refine (subCarried_any _ _ _ _ a0 a1 b0 b1 (by decide) (by decide)).mono ?_;rintro e w' ⟨rfl,rfl⟩)
 go_ret2
 exact ⟨rfl,rfl⟩
theorem andBits_any (a b c:Int) (w:World) :
  Calls prog 253 #[.int .i64 a,.int .i64 b,.int .i64 c] w fun e w'=>e=.returned (.tuple #[.int .i64 (bits .and .i64 a b,32).1,.int .i64 (bits .and .i64 a b,32).2])/\w'=w:=by
 go_enter func253,ntmps253
 go_wp2
 go_ret2
 exact ⟨rfl,rfl⟩
theorem xorBits_any (a b c:Int) (w:World) :
  Calls prog 254 #[.int .i64 a,.int .i64 b,.int .i64 c] w fun e w'=>e=.returned (.tuple #[.int .i64 (bits .xor .i64 a b,0).1,.int .i64 (bits .xor .i64 a b,0).2])/\w'=w:=by
 go_enter func254,ntmps254
 go_wp2
 go_ret2
 exact ⟨rfl,rfl⟩
theorem orBits_any (a b c:Int) (w:World) :
  Calls prog 255 #[.int .i64 a,.int .i64 b,.int .i64 c] w fun e w'=>e=.returned (.tuple #[.int .i64 (bits .or .i64 a b,0).1,.int .i64 (bits .or .i64 a b,0).2])/\w'=w:=by
 go_enter func255,ntmps255
 go_wp2
 go_ret2
 exact ⟨rfl,rfl⟩
theorem aluOps_any (w:World) :
  Calls prog 239 #[] w fun e w'=>e=.returned (.agg #[.func (.func 249) #[] #[],.func (.func 250) #[] #[],.func (.func 251) #[] #[],.func (.func 252) #[] #[],.func (.func 253) #[] #[],.func (.func 254) #[] #[],.func (.func 255) #[] #[],.func (.func 251) #[] #[]])/\Below w.heap.size w w':=by
 go_enter func239,ntmps239
 go_wp2
 refine bodyPost_ret (v:=.agg #[.func (.func 249) #[] #[],.func (.func 250) #[] #[],.func (.func 251) #[] #[],.func (.func 252) #[] #[],.func (.func 253) #[] #[],.func (.func 254) #[] #[],.func (.func 255) #[] #[],.func (.func 251) #[] #[]]) (by simp [results,results239,go_sem]) rfl ⟨rfl,?_⟩
 exact zAl _ _
theorem below_of_drew {w w':World} (h:Below w.drew.heap.size w.drew w'):Below w.heap.size w w':=⟨h.os,h.tape,h.output,h.size,h.block⟩
theorem zd_fl (x:Int) (n h c z:Bool) (hz:z=decide (x=0)):bits .or .i64 (fl false n h c) (chz z 128 0)=(zd (x,fl false n h c)).2:=by
 subst hz;show _=fl false n h c+128*one (decide (x=0));generalize decide (x=0)=z;revert z n h c;decide
theorem zd_32 (x:Int) (z:Bool) (hz:z=decide (x=0)):bits .or .i64 32 (chz z 128 0)=(zd (x,32)).2:=zd_fl x false true false z hz
theorem zd_0 (x:Int) (z:Bool) (hz:z=decide (x=0)):bits .or .i64 0 (chz z 128 0)=(zd (x,0)).2:=zd_fl x false false false z hz
theorem beq_dec (x:Int):(x == 0)=decide (x=0):=by rw [Bool.eq_iff_iff];simp
end Go.Proofs.YtnjolmbdbgbmbaaGreatDoor.Reck
namespace Go.Proofs.YtnjolmbdbgbmbaaGreatDoor.ReckS
open Signed (inB ret_int ret_bool isByte_any l1In_any sgn)
open Reck
theorem fl_zd (z n h c:Bool):fl z n h c=fl false n h c+128*one z:=by cases z <;> cases n <;> cases h <;> cases c <;> decide
theorem zd_fl' (x:Int) (n h c:Bool):zd (x,fl false n h c)=(x,fl (decide (x=0)) n h c):=by unfold zd;rw [fl_zd (decide (x=0))]
theorem aluR_0 (a b f:Int):aluR 0 a b f=((a+b)%256,fl (decide ((a+b)%256=0)) false (decide (15<a%16+b%16)) (decide (255<a+b))):=by
 show zd (addR a b 0)=_;unfold addR;rw [zd_fl',Int.add_zero,Int.add_zero]
theorem aluR_1 (a b f:Int):aluR 1 a b f=((a+b+cy f)%256,fl (decide ((a+b+cy f)%256=0)) false (decide (15<a%16+b%16+cy f)) (decide (255<a+b+cy f))):=by
 show zd (addR a b (cy f))=_;unfold addR;rw [zd_fl']
theorem aluR_2 (a b f:Int):aluR 2 a b f=((a-b)%256,fl (decide ((a-b)%256=0)) true (decide (a%16<b%16)) (decide (a-b<0))):=by
 show zd (subR a b 0)=_;unfold subR;rw [zd_fl',Int.add_zero,Int.sub_zero]
theorem aluR_3 (a b f:Int):aluR 3 a b f=((a-b-cy f)%256,fl (decide ((a-b-cy f)%256=0)) true (decide (a%16<b%16+cy f)) (decide (a-b-cy f<0))):=by
 show zd (subR a b (cy f))=_;unfold subR;rw [zd_fl']
theorem aluR_4 (a b f:Int):aluR 4 a b f=(bits .and .i64 a b,fl (decide (bits .and .i64 a b=0)) false true false):=zd_fl' _ false true false
theorem aluR_5 (a b f:Int):aluR 5 a b f=(bits .xor .i64 a b,fl (decide (bits .xor .i64 a b=0)) false false false):=zd_fl' _ false false false
theorem aluR_6 (a b f:Int):aluR 6 a b f=(bits .or .i64 a b,fl (decide (bits .or .i64 a b=0)) false false false):=zd_fl' _ false false false
theorem aluR_7 (a b f:Int):aluR 7 a b f=(a,(aluR 2 a b f).2):=rfl
theorem bits_xor {a b:Int} (a0:0<=a) (a1:a<=255) (b0:0<=b) (b1:b<=255):bits .xor .i64 a b=((a.toNat ^^^ b.toNat:Nat):Int):=by
 obtain ⟨m,rfl⟩:=Int.eq_ofNat_of_zero_le a0
 obtain ⟨n,rfl⟩:=Int.eq_ofNat_of_zero_le b0
 show IntKind.i64.wrap ((BitVec.ofInt 64 (m:Int) ^^^ BitVec.ofInt 64 (n:Int)).toNat:Int)=_
 have hx:m ^^^ n<2 ^ 8:=Nat.xor_lt_two_pow (by omega) (by omega)
 rw [BitVec.toNat_xor,BitVec.ofInt_natCast,BitVec.ofInt_natCast,BitVec.toNat_ofNat,BitVec.toNat_ofNat,Nat.mod_eq_of_lt (by omega),Nat.mod_eq_of_lt (by omega),IntKind.wrap_i64]
 simp only [Int.toNat_natCast]
 omega
theorem bits_and {a b:Int} (a0:0<=a) (a1:a<=255) (b0:0<=b) (b1:b<=255):bits .and .i64 a b=((a.toNat &&& b.toNat:Nat):Int):=by
 obtain ⟨m,rfl⟩:=Int.eq_ofNat_of_zero_le a0
 obtain ⟨n,rfl⟩:=Int.eq_ofNat_of_zero_le b0
 show IntKind.i64.wrap ((BitVec.ofInt 64 (m:Int) &&& BitVec.ofInt 64 (n:Int)).toNat:Int)=_
 have hx:m &&& n<2 ^ 8:=Nat.and_lt_two_pow m (by omega)
 rw [BitVec.toNat_and,BitVec.ofInt_natCast,BitVec.ofInt_natCast,BitVec.toNat_ofNat,BitVec.toNat_ofNat,Nat.mod_eq_of_lt (by omega),Nat.mod_eq_of_lt (by omega),IntKind.wrap_i64]
 simp only [Int.toNat_natCast]
 omega
theorem bits_or {a b:Int} (a0:0<=a) (a1:a<=255) (b0:0<=b) (b1:b<=255):bits .or .i64 a b=((a.toNat ||| b.toNat:Nat):Int):=by
 obtain ⟨m,rfl⟩:=Int.eq_ofNat_of_zero_le a0
 obtain ⟨n,rfl⟩:=Int.eq_ofNat_of_zero_le b0
 show IntKind.i64.wrap ((BitVec.ofInt 64 (m:Int) ||| BitVec.ofInt 64 (n:Int)).toNat:Int)=_
 have hx:m ||| n<2 ^ 8:=Nat.or_lt_two_pow (by omega) (by omega)
 rw [BitVec.toNat_or,BitVec.ofInt_natCast,BitVec.ofInt_natCast,BitVec.toNat_ofNat,BitVec.toNat_ofNat,Nat.mod_eq_of_lt (by omega),Nat.mod_eq_of_lt (by omega),IntKind.wrap_i64]
 simp only [Int.toNat_natCast]
 omega
end Go.Proofs.YtnjolmbdbgbmbaaGreatDoor.ReckS
namespace Go.Proofs.YtnjolmbdbgbmbaaGreatDoor.ReckM
open Signed (inB ret_int ret_bool isByte_any l1In_any sgn implSigned_any)
open Reck ReckS
def zB (f:Int):Bool:=decide (f / 128%2=1)
def nB (f:Int):Bool:=decide (f / 64%2=1)
def hB (f:Int):Bool:=decide (f / 32%2=1)
def cB (f:Int):Bool:=decide (cy f=1)
theorem and_all:∀ n:Nat,n<256->bits .and .i64 (n:Int) 128=chz (zB n) 128 0/\bits .and .i64 (n:Int) 64=chz (nB n) 64 0/\bits .and .i64 (n:Int) 32=chz (hB n) 32 0/\bits .and .i64 (n:Int) 16=chz (cB n) 16 0:=by decide +kernel
theorem ands {f:Int} (f0:0<=f) (f1:f<=255):bits .and .i64 f 128=chz (zB f) 128 0/\bits .and .i64 f 64=chz (nB f) 64 0/\bits .and .i64 f 32=chz (hB f) 32 0/\bits .and .i64 f 16=chz (cB f) 16 0:=by
 obtain ⟨n,rfl⟩:=Int.eq_ofNat_of_zero_le f0
 exact and_all n (by omega)
def st8R (v f:Int) (down:Bool):Int × Int :=
 if down=true then ((v+255)%256,fl (decide ((v+255)%256=0)) true (decide (v%16=0)) (cB f)) else ((v+1)%256,fl (decide ((v+1)%256=0)) false (decide (v%16=15)) (cB f))
def st8 (v f:Int) (down:Bool):Int × Int:=if (inB v 0 255 && inB f 0 255)=true then st8R v f down else (0,0)
theorem or_up (z h c:Bool):bits .or .i64 (bits .or .i64 (chz h 32 0) (chz z 128 0)) (chz c 16 0)=fl z false h c:=by cases z <;> cases h <;> cases c <;> decide
theorem or_down (z h c:Bool):bits .or .i64 (bits .or .i64 (bits .or .i64 64 (chz h 32 0)) (chz z 128 0)) (chz c 16 0)=fl z true h c:=by cases z <;> cases h <;> cases c <;> decide
theorem beq_dec' (x y:Int):(x == y)=decide (x=y):=by rw [Bool.eq_iff_iff];simp
theorem implStepped8_any (v f:Int) (down:Bool) (w:World) :
  Calls prog 224 #[.int .i64 v,.int .i64 f,.bool down] w fun e w'=>e=.returned (.tuple #[.int .i64 (st8 v f down).1,.int .i64 (st8 v f down).2])/\w'=w:=by
 unfold st8
 cases hv:inB v 0 255 <;> cases hf:inB f 0 255
 case true.true =>
  obtain ⟨v0,v1⟩:=of_decide_eq_true hv
  obtain ⟨f0,f1⟩:=of_decide_eq_true hf
  have HA:Hid (bits .and .i64 f 16=chz (cB f) 16 0):=(ands f0 f1).2.2.2
  cases down
  all_goals
   go_enter func224,ntmps224
   go_wp2_with (first|(go_at_call 107;refine (isByte_any _ _).mono ?_;rintro e w' ⟨rfl,rfl⟩)|(go_at_call 226;refine (flagIf_any _ _ _).mono ?_;rintro e w3 ⟨rfl,rfl⟩))
   go_ret2
  ·refine ⟨ret_two rfl ?_,rfl⟩
   rw [HA.out,beq_dec',beq_dec'];exact or_up _ _ _
  ·refine ⟨ret_two rfl ?_,rfl⟩
   rw [HA.out,beq_dec',beq_dec'];exact or_down _ _ _
 all_goals
  go_enter func224,ntmps224
  go_wp2_with (first|(go_at_call 107;refine (isByte_any _ _).mono ?_;rintro e w' ⟨rfl,rfl⟩))
  go_ret2
  exact ⟨rfl,rfl⟩
def awR (a b f:Int):Int × Int:=((a+b)%65536,fl (zB f) false (decide (4095<a%4096+b%4096)) (decide (65535<a+b)))
def aw (a b f:Int):Int × Int:=if (inB a 0 65535 && inB b 0 65535 && inB f 0 255)=true then awR a b f else (0,0)
theorem or_aw (z h c:Bool):bits .or .i64 (bits .or .i64 (chz z 128 0) (chz h 32 0)) (chz c 16 0)=fl z false h c:=by cases z <;> cases h <;> cases c <;> decide
theorem implAddWords_any (a b f:Int) (w:World) :
  Calls prog 225 #[.int .i64 a,.int .i64 b,.int .i64 f] w fun e w'=>e=.returned (.tuple #[.int .i64 (aw a b f).1,.int .i64 (aw a b f).2])/\w'=w:=by
 unfold aw
 cases ha:inB a 0 65535 <;> cases hb:inB b 0 65535 <;> cases hf:inB f 0 255
 case true.true.true =>
  obtain ⟨a0,a1⟩:=of_decide_eq_true ha
  obtain ⟨b0,b1⟩:=of_decide_eq_true hb
  obtain ⟨f0,f1⟩:=of_decide_eq_true hf
  have HA:Hid (bits .and .i64 f 128=chz (zB f) 128 0):=(ands f0 f1).1
  go_enter func225,ntmps225
  go_wp2_with (first|(go_at_call 107;refine (isByte_any _ _).mono ?_;rintro e w' ⟨rfl,rfl⟩)|(go_at_call 74;refine (isWord_any _ _).mono ?_;rintro e w' ⟨rfl,rfl⟩)|(go_at_call 226;refine (flagIf_any _ _ _).mono ?_;rintro e w3 ⟨rfl,rfl⟩))
  go_ret2
  refine ⟨ret_two rfl ?_,rfl⟩
  rw [HA.out];exact or_aw _ _ _
 all_goals
  go_enter func225,ntmps225
  go_wp2_with (first|(go_at_call 107;refine (isByte_any _ _).mono ?_;rintro e w' ⟨rfl,rfl⟩)|(go_at_call 74;refine (isWord_any _ _).mono ?_;rintro e w' ⟨rfl,rfl⟩))
  go_ret2
  exact ⟨rfl,rfl⟩
def asR (sp b:Int):Int × Int:=((sp+sgn b)%65536,fl false false (decide (15<sp%16+b%16)) (decide (255<sp%256+b)))
def asg (sp b:Int):Int × Int:=if (inB sp 0 65535 && inB b 0 255)=true then asR sp b else (0,0)
theorem sgn_bd (b:Int):-128<=sgn b/\sgn b<=127:=by unfold sgn;split <;> (try split) <;> omega
theorem implAddSigned_any (sp b:Int) (w:World) :
  Calls prog 186 #[.int .i64 sp,.int .i64 b] w fun e w'=>e=.returned (.tuple #[.int .i64 (asg sp b).1,.int .i64 (asg sp b).2])/\w'=w:=by
 unfold asg
 obtain ⟨s0,s1⟩:=sgn_bd b
 cases ha:inB sp 0 65535 <;> cases hb:inB b 0 255
 case true.true =>
  obtain ⟨a0,a1⟩:=of_decide_eq_true ha
  obtain ⟨b0,b1⟩:=of_decide_eq_true hb
  go_enter func186,ntmps186
  go_wp2_with (first|(go_at_call 107;refine (isByte_any _ _).mono ?_;rintro e w' ⟨rfl,rfl⟩)|(go_at_call 74;refine (isWord_any _ _).mono ?_;rintro e w' ⟨rfl,rfl⟩)|(go_at_call 226;refine (flagIf_any _ _ _).mono ?_;rintro e w3 ⟨rfl,rfl⟩)|(go_at_call 196;refine (implSigned_any _ _).mono ?_;rintro e w3 ⟨rfl,rfl⟩))
  go_ret2
  refine ⟨ret_two ?_ (or_hc _ _),rfl⟩
  unfold asR;simp;try omega
 all_goals
  go_enter func186,ntmps186
  go_wp2_with (first|(go_at_call 107;refine (isByte_any _ _).mono ?_;rintro e w' ⟨rfl,rfl⟩)|(go_at_call 74;refine (isWord_any _ _).mono ?_;rintro e w' ⟨rfl,rfl⟩))
  go_ret2
  exact ⟨rfl,rfl⟩
end Go.Proofs.YtnjolmbdbgbmbaaGreatDoor.ReckM
