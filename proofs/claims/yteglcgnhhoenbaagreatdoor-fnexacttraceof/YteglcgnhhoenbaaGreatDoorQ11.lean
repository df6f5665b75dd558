import Derived.Test.YteglcgnhhoenbaaGreatDoorQ07
import Derived.Laws.IdiomStrings
import Derived.Laws.OwnMore
import Derived.Deep.Cut
import Derived.RegionTactic
import Derived.Test.YteglcgnhhoenbaaGreatDoorQ04
import Derived.Test.YteglcgnhhoenbaaGreatDoorQ05
import Derived.Test.YteglcgnhhoenbaaGreatDoorQ06
set_option linter.all false
set_option maxRecDepth 20000
set_option maxHeartbeats 8000000
open Go.ChangeShapes Go.WideShapes Go.ChangeAt Go.RowKit
open Go.Proofs.Tryz
namespace Go.Proofs.YteglcgnhhoenbaaGreatDoor
namespace CartP
open Go.Deep
open Signed (inB aG aB aC aE)
open Carts CartK CartL CartM
def fK (s:ByteArray) (i v:Int):ByteArray:=⟨(s.data.toList.set i.toNat (UInt8.ofNat v.toNat)).toArray⟩
theorem oG (s:ByteArray) (i v:Int):(fK s i v).size=s.size:=by show ((s.data.toList.set i.toNat (UInt8.ofNat v.toNat)).toArray).size=s.data.size;simp only [List.size_toArray,List.length_set,Array.length_toList]
theorem aSI (u:World) (o:Obj) (i:Nat) (v:Value):∃ o',(u.alloc o).setCell ⟨u.heap.size,i,none⟩ v=u.alloc o':=by
 have hm:∀ (a:Array Obj) (x:Obj) (f:Obj->Obj),(a.push x).modify a.size f=a.push (f x):=by
  intro a x f
  apply Array.ext
  ·simp
  ·intro i h1 h2
   simp only [Array.getElem_modify,Array.getElem_push]
   by_cases h:a.size=i
   ·subst h
    simp
   ·have hi:i<a.size:=by simp at h1;omega
    simp [h,hi]
 have h:=hm u.heap o;refine ⟨?_,?_⟩
 rotate_left
 ·unfold World.setCell World.alloc
  simp only [h]
  rfl
theorem sQ (s:ByteArray) (n:Nat) (hs:s.size=n) (i v:Int) (i0:0<=i) (i1:i<n) (v0:0<=v) (v1:v<=255) (w:World) :
  ∃ (W:World) (cap:Nat) (u:Value) (o:Obj),(convert 9 22 (.string s)).run prog w=.ok (.slice (some ⟨w.heap.size,0,none⟩) n cap) W/\n<=cap/\W.cell? ⟨w.heap.size,i.toNat,none⟩=some u/\W.frozen? ⟨w.heap.size,i.toNat,none⟩=false /\
   W.setCell ⟨w.heap.size,i.toNat,none⟩ (.int .u8 v)=w.drew.alloc o /\
   (convert 22 9 (.slice (some ⟨w.heap.size,0,none⟩) n cap)).run prog (W.setCell ⟨w.heap.size,i.toNat,none⟩ (.int .u8 v))=.ok (.string (fK s i v)) (W.setCell ⟨w.heap.size,i.toNat,none⟩ (.int .u8 v)):=by
 subst hs;have hc:=run_bytes_of_string (P:=prog) w 9 22 5 s underlying9 underlying22 underlying5;have hge:=grownCap_ge w s.size 0 5;obtain ⟨cap,hcap⟩ : ∃ cap,cap=grownCap w s.size 0 5:=⟨_,rfl⟩
 rw [<- hcap] at hc hge
 have hi:i.toNat<s.data.size:=by have:s.data.size=s.size:=rfl;omega
 have hcell:∀ j (hj:j<s.data.size),(w.drew.alloc (.cells (bytesRow s cap) 5 ((bytesRow s cap).size,(bytesRow s cap).size+1))).cell? ⟨w.heap.size,j,none⟩=some (.int .u8 (s.data[j].toNat:Int)):=fun j hj=>by
  have h:=World.cell?_alloc_mark w.drew (bytesRow s cap) 5 ((bytesRow s cap).size,(bytesRow s cap).size+1) j;rw [bytesRow_at s cap j hj] at h
  exact h
 obtain ⟨o,ho⟩:=aSI w.drew (.cells (bytesRow s cap) 5 ((bytesRow s cap).size,(bytesRow s cap).size+1)) i.toNat (.int .u8 v);refine ⟨_,cap,_,o,hc,hge,hcell i.toNat hi,?_,ho,?_⟩
 ·have h:=World.frozen?_alloc_mark w.drew (bytesRow s cap) 5 (bytesRow s cap).size ((bytesRow s cap).size+1) i.toNat
  have hb:i.toNat<(bytesRow s cap).size:=by unfold bytesRow;simp;omega
  rw [u6 (by omega:¬ (bytesRow s cap).size<=i.toNat)] at h
  exact h
 ·have hl:(s.data.toList.set i.toNat (UInt8.ofNat v.toNat)).length=s.size:=by show _=s.data.size;simp only [List.length_set,Array.length_toList]
  have h:=run_convert_bytes_back (P:=prog) ((w.drew.alloc (.cells (bytesRow s cap) 5 ((bytesRow s cap).size,(bytesRow s cap).size+1))).setCell ⟨w.heap.size,i.toNat,none⟩ (.int .u8 v)) 22 9 5 ⟨w.heap.size,0,none⟩ cap (s.data.toList.set i.toNat (UInt8.ofNat v.toNat)) underlying22 underlying5 underlying9 (fun j hj=>by
   have ea:(⟨w.heap.size,0,none⟩ : Addr).add j=⟨w.heap.size,j,none⟩:=by unfold Addr.add;split <;> simp_all
   have hj':j<s.data.size:=by rw [hl] at hj;exact hj
   rw [ea]
   by_cases e:j=i.toNat
   ·subst e
    rw [World.cell?_setCell_same _ _ _ (hcell i.toNat hi)];rw [List.getElem_set_self]
    have:(UInt8.ofNat v.toNat).toNat=v.toNat:=by simp;omega
    rw [this]
    congr 2
    omega
   ·rw [World.cell?_setCell_other _ _ _ _ (fun x=>e (by have:=congrArg Addr.off x;exact this.symm)),hcell j hj',List.getElem_set_ne (by omega)]
    simp)
  rw [hl] at h
  exact h
theorem qO (s:ByteArray) (n:Nat) (hs:s.size=n) (hn:n<=1000) (i v:Int) (i0:0<=i) (i1:i<n) (v0:0<=v) (v1:v<=255) (w:World) :
  Calls prog 273 #[.string s,.int .i64 i,.int .i64 v] w fun e w'=>e=.returned (.string (fK s i v))/\∃ o,w'=w.drew.alloc o:=by
 obtain ⟨W,cap,u,o,hc,hge,hu,hf,ho,hb⟩:=sQ s n hs i v i0 i1 v0 v1 w;clear hs;have HO:Hid (W.setCell ⟨w.heap.size,i.toNat,none⟩ (.int .u8 v)=w.drew.alloc o):=ho;clear ho
 go_enter func273,ntmps273
 go_wp2;go_ret;exact ⟨rfl,o,HO.out⟩
theorem mR (s:ByteArray) (n:Nat) (hs:s.size=n) (hn:n<=1000) (i v:Int) (i0:0<=i) (i1:i<n) (v0:0<=v) (v1:v<=255) (w:World) :
  Calls prog 236 #[.string s,.int .i64 i,.int .i64 v] w fun e w'=>e=.returned (.string (fK s i v))/\∃ o,w'=w.drew.alloc o:=by
 obtain ⟨W,cap,u,o,hc,hge,hu,hf,ho,hb⟩:=sQ s n hs i v i0 i1 v0 v1 w;clear hs;have HO:Hid (W.setCell ⟨w.heap.size,i.toNat,none⟩ (.int .u8 v)=w.drew.alloc o):=ho;clear ho
 go_enter func236,ntmps236
 go_wp2;go_ret;exact ⟨rfl,o,HO.out⟩
end CartP
namespace Outs
open Go.Deep
open Signed (inB aG aB aC aE)
def Row (w:World) (a:Option Addr) (L:List Int):Prop:=L=[] \/ ∃ b off,a=some ⟨b,off,none⟩/\b<w.heap.size/\∀ i (h:i<L.length),w.cell? ⟨b,off+i,none⟩=some (.int .i64 L[i])
theorem Row.below {w w':World} {a:Option Addr} {L:List Int} (h:Row w a L) (hb:Below w.heap.size w w'):Row w' a L:=by
 rcases h with h|⟨b,off,ha,hl,hc⟩
 ·exact .inl h
 ·exact .inr ⟨b,off,ha,Nat.lt_of_lt_of_le hl hb.size,fun i hi=>(hb.cell (p:=⟨b,_,none⟩) hl).trans (hc i hi)⟩
theorem eK:prog.cellsOf 2=1:=by kernel_rfl
theorem row_of {H:Type} {enc:TypeId × Value->H} {w:World} {base:Nat} {spare:Nat->Bool} {held:Bool} {fuel:Nat} {cs:List Value} {x:DataW H × List MemPlace}
  (h:DataW.trod enc prog w base spare held fuel 28 cs=some x):∃ a len cap L,cs=[.slice a len cap]/\L.length=len/\len<=maxLen/\Row w a L:=by
 rcases open_slice underlying28 h with ⟨rfl,_⟩|⟨a,len,cap,m,n,D,Pl,rfl,hb,hl,hm,hmm,rfl,hx⟩
 ·exact ⟨none,0,0,[],rfl,rfl,Nat.zero_le _,.inl rfl⟩
 have hlm:len<=m:=by rw [hmm];split <;> omega
 have each:∀ i,i<len->∃ q:Int,w.cell? (a.add i)=some (.int .i64 q):=by
  intro i hi;obtain ⟨cs',h1,h2⟩:=hx i (by omega);rw [eK] at h1
  obtain ⟨_,hlen,hcell⟩:=World.cells?_some h1
  match cs',hlen with
  | [v0],_ =>
   obtain ⟨n0,e0,_⟩:=DataW.trod_int underlying2 h2;simp at e0
   subst e0;have d0:=hcell 0 (by omega);rw [add_add] at d0
   exact ⟨n0,by simpa using d0⟩
 obtain ⟨q,hq⟩:=choose_lt each;refine ⟨some a,len,cap,(List.range len).map q,rfl,by simp,by omega,?_⟩
 by_cases h0:len=0
 ·subst h0;exact .inl rfl
 obtain ⟨b,off,spot⟩:=a;have c0:=hq 0 (by omega);have hspot:spot=none:=by simpa [Addr.add] using World.cell?_spot c0
 subst hspot;have e:∀ i,(⟨b,off,none⟩ : Addr).add i=⟨b,off+i,none⟩:=fun i=>by unfold Addr.add;split <;> simp_all
 refine .inr ⟨b,off,rfl,World.block_lt_of_cell? w ⟨b,off,none⟩ (by simpa [Addr.add] using c0),fun i hi=>?_⟩;have hi':i<len:=by simpa using hi
 have d0:=hq i hi';rw [e] at d0
 simpa using d0
theorem uJ (a:Option Addr) (cap n:Nat) (m:Int) (w:World) (h0:0<=m) (h1:m<=1048576) (hn:n<=maxLen) (q:Int) (hq:(if m-n<0 then -1 else m-n)=q) :
  Calls prog 57 #[.slice a n cap,.int .i64 m] w fun e w'=>e=.returned (.int .i64 q)/\w'=w:=by
 unfold maxLen at hn
 by_cases h:m-n<0
 ·rw [if_pos h] at hq
  subst hq
  go_enter func57,ntmps57
  go_wp2;go_ret;exact ⟨rfl,rfl⟩
 ·rw [if_neg h] at hq
  subst hq
  go_enter func57,ntmps57
  go_wp2;go_ret;exact ⟨rfl,rfl⟩
def mS (L:List Int) (k:Nat):Array Value:=((L.take k).map (Value.int .i64) ++ List.replicate (L.length-k) (Value.int .i64 0)).toArray
def lQ (L:List Int):Obj:=.cells (mS L L.length) 2
theorem aGH (L:List Int):madeCells #[.int .i64 0] L.length=mS L 0:=by
 apply Array.toList_inj.1
 rw [toList_madeCells_one]
 simp [mS]
theorem aLD (L:List Int) (k:Nat) (h:k<L.length):(mS L k)[k]? = some (.int .i64 0):=by
 unfold mS;rw [List.getElem?_toArray,List.getElem?_append_right (by simp;omega)]
 simp [Nat.min_eq_left (Nat.le_of_lt h)]
 rw [List.getElem?_replicate,if_pos (by omega)]
theorem aGI (L:List Int) (k:Nat) (h:k<L.length):(mS L k).setIfInBounds k (.int .i64 L[k])=mS L (k+1):=by
 apply Array.toList_inj.1
 unfold mS;rw [Array.toList_setIfInBounds];rw [List.set_append_right _ _ (by simp;omega)];have e1:L.length-k=(L.length-(k+1))+1:=by omega
 have e2:((L.take k).map (Value.int IntKind.i64)).length=k:=by simp [Nat.min_eq_left (Nat.le_of_lt h)]
 rw [e2,e1,List.replicate_succ,Nat.sub_self,List.set_cons_zero,List.take_succ_eq_append_getElem h,List.map_append,List.append_assoc]
 rfl
theorem sR (L:List Int) (i:Nat) (h:i<L.length):(mS L L.length)[i]? = some (.int .i64 L[i]):=by
 unfold mS
 simp [h]
theorem bGS:(prog.info? 2).map (fun i=>(i.zero,i.size,i.bytes))=some (some (.int .i64 0),1,8):=by kernel_rfl
theorem uK (a:Option Addr) (cap:Nat) (L:List Int) (w:World) (hN:Row w a L) (hlen:L.length<=1048576) :
  Calls prog 60 #[.slice a L.length cap] w fun e w'=>e=.returned (.slice (some ⟨w.heap.size,0,none⟩) L.length L.length)/\w'=w.alloc (lQ L):=by
 obtain ⟨i0,hi,hz0,hz1,hz2⟩:=info_parts bGS;obtain ⟨len,hl⟩ : ∃ len,len=L.length:=⟨_,rfl⟩
 have HL:Hid (len=L.length):=hl;rw [<- hl] at hlen |-
 have hmk:∀ u:World,(Instr.makeSlice 28 (.int .i64 (len:Int)) (.int .i64 (len:Int))).run prog u =
   .ok (.slice (some ⟨u.heap.size,0,none⟩) len len) (u.alloc (.cells (mS L 0) 2)):=fun u=>by
  have h:=run_make (P:=prog) u 28 2 i0 (.int .i64 0) underlying28 hi hz0 .i64 .i64 (len:Int) (len:Int) (by omega) (Int.le_refl _) (by rw [hz2];omega) (by omega);rw [<- aGH,<- hl]
  simpa [hz1,Value.cells] using h
 clear hz0 hz1 hz2 hi hl
 go_enter func60,ntmps60
 go_wp2
 go_loopw [4] (fun i wr=>∃ k:Nat,k<=len/\i=.int .i64 k/\Hid (wr=w.alloc (.cells (mS L k) 2))) (fun i _=>len-(intOf i).toNat)
 case atStart=>exact ⟨0,Nat.zero_le _,rfl,rfl⟩
 case round =>
  obtain ⟨k,hk,rfl,hw⟩:=hrel
  by_cases hlt:k<len
  ·have hkL:k<L.length:=by have:=HL.out;omega
   rcases hN with hnil|⟨b,off,rfl,hb,hc⟩
   ·exfalso;rw [hnil] at hkL;exact absurd hkL (by simp)
   have c0:wr.cell? ⟨b,off+k,none⟩=some (.int .i64 L[k]):=by
    rw [hw.out,<- hc k hkL];exact ((Below.refl w.heap.size w).alloc (Nat.le_refl _) _).cell (p:=⟨b,_,none⟩) hb
   clear hc;have S:Hid (wr.setCell ⟨w.heap.size,k,none⟩ (.int .i64 L[k])=w.alloc (.cells (mS L (k+1)) 2)):=by
    have h:=World.setCell_alloc_new (w:=w) (mS L k) 2 k (.int .i64 L[k]);rw [aGI L k hkL] at h
    rw [hw.out];exact h
   have x0:wr.cell? ⟨w.heap.size,k,none⟩=some (.int .i64 0):=by rw [hw.out,World.cell?_alloc_new];exact aLD L k hkL
   have f0:wr.frozen? ⟨w.heap.size,k,none⟩=false:=by rw [hw.out];exact World.frozen?_alloc_at _ _ _ _ rfl
   generalize L[k]=n at c0 S
   go_wp2
   go_roundw
   case rel=>exact ⟨k+1,by omega,by go_num,S.out⟩
   case measure=>simp [intOf];omega
  ·clear hN
   have e:k=len:=by omega
   subst e;go_wp2;go_ret;exact ⟨rfl,by rw [hw.out,HL.out];rfl⟩
theorem uM (a a':Option Addr) (cap cap':Nat) (L:List Int) (w:World) (hN:Row w a L) (hN':Row w a' L) (hlen:L.length<=1048576) :
  Calls prog 64 #[.slice a L.length cap,.slice a' L.length cap'] w fun e w'=>e=.returned (.bool true)/\∃ n,w'=w.drewN n:=by
 obtain ⟨len,hl⟩ : ∃ len,len=L.length:=⟨_,rfl⟩
 have HL:Hid (len=L.length):=hl;rw [<- hl] at hlen |-
 clear hl
 go_enter func64,ntmps64
 go_wp2
 go_loopw [5] (fun i wr=>∃ k n:Nat,k<=len/\i=.int .i64 k/\wr=w.drewN n) (fun i _=>len-(intOf i).toNat)
 case atStart=>exact ⟨0,0,Nat.zero_le _,rfl,rfl⟩
 case round =>
  obtain ⟨k,n,hk,rfl,rfl⟩:=hrel
  by_cases hlt:k<len
  ·have hkL:k<L.length:=by have:=HL.out;omega
   rcases hN with hnil|⟨b,off,rfl,hb,hc⟩
   ·exfalso;rw [hnil] at hkL;exact absurd hkL (by simp)
   rcases hN' with hnil|⟨b',off',rfl,hb',hc'⟩
   ·exfalso;rw [hnil] at hkL;exact absurd hkL (by simp)
   have c0:w.cell? ⟨b,off+k,none⟩=some (.int .i64 L[k]):=hc k hkL;have e0:w.cell? ⟨b',off'+k,none⟩=some (.int .i64 L[k]):=hc' k hkL;clear hc hc';generalize L[k]=kd at c0 e0
   have k0:(0:Int)<=(k:Int):=by omega
   have k1:(k:Int)<(len:Int):=by omega
   go_wp2_with fail
   go_quiet (fail)
   go_wp2
   go_roundw
   case rel=>exact ⟨k+1,_,by omega,by go_num,rfl⟩
   case measure=>simp [intOf];omega
  ·clear hN hN'
   go_wp2;go_ret;exact ⟨rfl,n,rfl⟩
end Outs
namespace Mach
open Go.Deep
open Signed (inB aG aB aC aE)
open CartL Outs
theorem aGJ (ra rf rB rC rD rE rH rL sp pc:Int) (ime hal:Bool) (w:World) :
  Calls prog 58 #[.agg #[.int .i64 ra,.int .i64 rf,.int .i64 rB,.int .i64 rC,.int .i64 rD,.int .i64 rE,.int .i64 rH,.int .i64 rL,.int .i64 sp,.int .i64 pc,.bool ime,.bool hal]] w fun e w'=>e=.returned (.agg #[.int .i64 ra,.int .i64 rf,.int .i64 rB,.int .i64 rC,.int .i64 rD,.int .i64 rE,.int .i64 rH,.int .i64 rL,.int .i64 sp,.int .i64 pc,.bool ime,.bool hal])/\w'=((w.alloc (.cells #[.int .i64 ra,.int .i64 rf,.int .i64 rB,.int .i64 rC,.int .i64 rD,.int .i64 rE,.int .i64 rH,.int .i64 rL,.int .i64 sp,.int .i64 pc,.bool ime,.bool hal] 48)).alloc (.cells #[.int .i64 ra,.int .i64 rf,.int .i64 rB,.int .i64 rC,.int .i64 rD,.int .i64 rE,.int .i64 rH,.int .i64 rL,.int .i64 sp,.int .i64 pc,.bool ime,.bool hal] 25)).alloc (.cells #[.int .i64 ra,.int .i64 rf,.int .i64 rB,.int .i64 rC,.int .i64 rD,.int .i64 rE,.int .i64 rH,.int .i64 rL,.int .i64 sp,.int .i64 pc,.bool ime,.bool hal] 25):=by
 go_enter func58,ntmps58
 go_wp2;exact bodyPost_ret (v:=.agg #[.int .i64 ra,.int .i64 rf,.int .i64 rB,.int .i64 rC,.int .i64 rD,.int .i64 rE,.int .i64 rH,.int .i64 rL,.int .i64 sp,.int .i64 pc,.bool ime,.bool hal]) (by simp [results,results58,go_sem]) rfl ⟨rfl,rfl⟩
theorem aGK (ra rf rB rC rD rE rH rL sp pc:Int) (ime hal:Bool) (w:World) :
  Calls prog 62 #[.agg #[.int .i64 ra,.int .i64 rf,.int .i64 rB,.int .i64 rC,.int .i64 rD,.int .i64 rE,.int .i64 rH,.int .i64 rL,.int .i64 sp,.int .i64 pc,.bool ime,.bool hal],.agg #[.int .i64 ra,.int .i64 rf,.int .i64 rB,.int .i64 rC,.int .i64 rD,.int .i64 rE,.int .i64 rH,.int .i64 rL,.int .i64 sp,.int .i64 pc,.bool ime,.bool hal]] w fun e w'=>e=.returned (.bool true)/\w'=(w.alloc (.cells #[.int .i64 ra,.int .i64 rf,.int .i64 rB,.int .i64 rC,.int .i64 rD,.int .i64 rE,.int .i64 rH,.int .i64 rL,.int .i64 sp,.int .i64 pc,.bool ime,.bool hal] 25)).alloc (.cells #[.int .i64 ra,.int .i64 rf,.int .i64 rB,.int .i64 rC,.int .i64 rD,.int .i64 rE,.int .i64 rH,.int .i64 rL,.int .i64 sp,.int .i64 pc,.bool ime,.bool hal] 25):=by
 go_enter func62,ntmps62
 go_wp2;go_ret;exact ⟨rfl,rfl⟩
theorem sB (ra rf rB rC rD rE rH rL sp pc:Int) (ime hal:Bool) (rom:ByteArray) (kind bank:Int) (ram:ByteArray) (rb:Int) (on:Bool) (mode:Int) (work high:ByteArray) (po:Option Addr) (L:List Int) (cap:Nat) (cyc:Int) (w:World) (z1:rom.size<=maxLen) (z2:ram.size<=maxLen) (z3:work.size<=maxLen) (z4:high.size<=maxLen) (z5:L.length<=maxLen) :
  Calls prog 20 #[.agg #[.int .i64 ra,.int .i64 rf,.int .i64 rB,.int .i64 rC,.int .i64 rD,.int .i64 rE,.int .i64 rH,.int .i64 rL,.int .i64 sp,.int .i64 pc,.bool ime,.bool hal,.string rom,.int .i64 kind,.int .i64 bank,.string ram,.int .i64 rb,.bool on,.int .i64 mode,.string work,.string high,.slice po L.length cap,.int .i64 cyc],.int .i64 1048576] w fun e w'=>(∃ q:Int,e=.returned (.int .i64 q)/\-1<=q/\q<=1048576/\(0<=q->rom.size<=1048576/\ram.size<=1048576/\work.size<=1048576/\high.size<=1048576/\L.length<=1048576))/\∃ o1 o2,w'=(w.alloc o1).alloc o2:=by
 have cz:=fun w=>aAQ rom kind bank ram rb on mode 1048576 w z1 z2 (by decide) (by decide)
 unfold maxLen at z1 z2 z3 z4
 obtain ⟨q,hq⟩ : ∃ q,q=mM 1048576 rom.size ram.size:=⟨_,rfl⟩
 have bq:q = -1 \/ (0<=q/\q<=1048576/\rom.size<=1048576/\ram.size<=1048576):=by
  rw [hq];unfold mM;split
  ·exact .inl rfl
  split
  ·exact .inl rfl
  ·right;omega
 rw [<- hq] at cz
 clear hq z1 z2;rcases bq with rfl|⟨q0,q1,s1,s2⟩
 ·go_enter func20,ntmps20
  go_wp2_with (go_at_call 56;refine (cz _).mono ?_;rintro e w' ⟨rfl,rfl⟩)
  go_ret;exact ⟨⟨-1,rfl,by decide,by decide,fun h=>absurd h (by decide)⟩,_,_,rfl⟩
 by_cases h3:q-work.size<0
 ·go_enter func20,ntmps20
  go_wp2_with (go_at_call 56;refine (cz _).mono ?_;rintro e w' ⟨rfl,rfl⟩)
  go_ret;exact ⟨⟨-1,rfl,by decide,by decide,fun h=>absurd h (by decide)⟩,_,_,rfl⟩
 by_cases h4:q-work.size-high.size<0
 ·go_enter func20,ntmps20
  go_wp2_with (go_at_call 56;refine (cz _).mono ?_;rintro e w' ⟨rfl,rfl⟩)
  go_ret;exact ⟨⟨-1,rfl,by decide,by decide,fun h=>absurd h (by decide)⟩,_,_,rfl⟩
 have c5:=fun w=>uJ po cap L.length (q-work.size-high.size) w (by omega) (by omega) z5 _ rfl
 by_cases h5:q-work.size-high.size-L.length<0
 ·rw [if_pos h5] at c5
  clear z5
  go_enter func20,ntmps20
  go_wp2_with first|(go_at_call 56;refine (cz _).mono ?_;rintro e w' ⟨rfl,rfl⟩)|(go_at_call 57;refine (c5 _).mono ?_;rintro e w' ⟨rfl,rfl⟩)
  go_ret;exact ⟨⟨-1,rfl,by decide,by decide,fun h=>absurd h (by decide)⟩,_,_,rfl⟩
 ·rw [if_neg h5] at c5
  obtain ⟨r,hr⟩ : ∃ r,r=q-work.size-high.size-(L.length:Int):=⟨_,rfl⟩
  rw [<- hr] at c5
  have r0:0<=r:=by omega
  have HR:Hid (r<=1048576/\work.size<=1048576/\high.size<=1048576/\L.length<=1048576):=⟨by omega,by omega,by omega,by omega⟩;clear z5 hr h5
  go_enter func20,ntmps20
  go_wp2_with first|(go_at_call 56;refine (cz _).mono ?_;rintro e w' ⟨rfl,rfl⟩)|(go_at_call 57;refine (c5 _).mono ?_;rintro e w' ⟨rfl,rfl⟩)
  go_ret;exact ⟨⟨r,rfl,by omega,HR.out.1,fun _=>⟨s1,s2,HR.out.2⟩⟩,_,_,rfl⟩
end Mach
namespace MachT
open Go.Deep
open Signed (inB aG aB aC aE)
open CartL Outs Mach
theorem aLE (ra rf rB rC rD rE rH rL sp pc:Int) (ime hal:Bool) (w:World) :
  Calls prog 58 #[.agg #[.int .i64 ra,.int .i64 rf,.int .i64 rB,.int .i64 rC,.int .i64 rD,.int .i64 rE,.int .i64 rH,.int .i64 rL,.int .i64 sp,.int .i64 pc,.bool ime,.bool hal]] w fun e w'=>e=.returned (.agg #[.int .i64 ra,.int .i64 rf,.int .i64 rB,.int .i64 rC,.int .i64 rD,.int .i64 rE,.int .i64 rH,.int .i64 rL,.int .i64 sp,.int .i64 pc,.bool ime,.bool hal])/\∃ o1 o2 o3,w'=((w.alloc o1).alloc o2).alloc o3:=by
 refine (aGJ ra rf rB rC rD rE rH rL sp pc ime hal w).mono ?_;rintro e w' ⟨rfl,rfl⟩;exact ⟨rfl,_,_,_,rfl⟩
theorem aLF (ra rf rB rC rD rE rH rL sp pc:Int) (ime hal:Bool) (w:World) :
  Calls prog 62 #[.agg #[.int .i64 ra,.int .i64 rf,.int .i64 rB,.int .i64 rC,.int .i64 rD,.int .i64 rE,.int .i64 rH,.int .i64 rL,.int .i64 sp,.int .i64 pc,.bool ime,.bool hal],.agg #[.int .i64 ra,.int .i64 rf,.int .i64 rB,.int .i64 rC,.int .i64 rD,.int .i64 rE,.int .i64 rH,.int .i64 rL,.int .i64 sp,.int .i64 pc,.bool ime,.bool hal]] w fun e w'=>e=.returned (.bool true)/\∃ o1 o2,w'=(w.alloc o1).alloc o2:=by
 refine (aGK ra rf rB rC rD rE rH rL sp pc ime hal w).mono ?_;rintro e w' ⟨rfl,rfl⟩;exact ⟨rfl,_,_,rfl⟩
theorem aGL (rom:ByteArray) (kind bank:Int) (ram:ByteArray) (rb:Int) (on:Bool) (mode:Int) (w:World) :
  Calls prog 59 #[.agg #[.string rom,.int .i64 kind,.int .i64 bank,.string ram,.int .i64 rb,.bool on,.int .i64 mode]] w fun e w'=>e=.returned (.agg #[.string rom,.int .i64 kind,.int .i64 bank,.string ram,.int .i64 rb,.bool on,.int .i64 mode])/\∃ o1 o2 o3,w'=((w.alloc o1).alloc o2).alloc o3:=by
 refine (aAR rom kind bank ram rb on mode w).mono ?_;rintro e w' ⟨rfl,rfl⟩;exact ⟨rfl,_,_,_,rfl⟩
theorem aGM (rom:ByteArray) (kind bank:Int) (ram:ByteArray) (rb:Int) (on:Bool) (mode:Int) (w:World) :
  Calls prog 63 #[.agg #[.string rom,.int .i64 kind,.int .i64 bank,.string ram,.int .i64 rb,.bool on,.int .i64 mode],.agg #[.string rom,.int .i64 kind,.int .i64 bank,.string ram,.int .i64 rb,.bool on,.int .i64 mode]] w fun e w'=>e=.returned (.bool true)/\∃ o1 o2,w'=(w.alloc o1).alloc o2:=by
 refine (aAS rom kind bank ram rb on mode w).mono ?_;rintro e w' ⟨rfl,rfl⟩;exact ⟨rfl,_,_,rfl⟩
theorem bGT {w w':World} {a b c:Obj} (h:Below (((w.alloc a).alloc b).alloc c).heap.size (((w.alloc a).alloc b).alloc c) w'):w'.heap[w.heap.size]? = some a/\w'.heap[w.heap.size+1]? = some b/\w'.heap[w.heap.size+1+1]? = some c:=by
 have n:∀ (u:World) (o:Obj),(u.alloc o).heap[u.heap.size]? = some o:=fun u o=>by
  show (u.heap.push o)[u.heap.size]? = some o;rw [Array.getElem?_push_size]
 have s:∀ (u:World) (o:Obj),(u.alloc o).heap.size=u.heap.size+1:=fun u o=>by
  show (u.heap.push o).size=_;rw [Array.size_push]
 refine ⟨?_,?_,?_⟩
 ·rw [h.block _ (by rw [s,s,s];omega),Below.heap_alloc _ _ _ (by rw [s,s];omega),Below.heap_alloc _ _ _ (by rw [s];omega)]
  exact n w a
 ·rw [h.block _ (by rw [s,s,s];omega),Below.heap_alloc _ _ _ (by rw [s,s];omega)]
  have:=n (w.alloc a) b
  rwa [s] at this
 ·rw [h.block _ (by rw [s,s,s];omega)]
  have:=n ((w.alloc a).alloc b) c
  rwa [s,s] at this
theorem cel {W:World} {B:Nat} {vs:Array Value} {T:TypeId} (h:W.heap[B]? = some (.cells vs T)) (i:Nat) (v:Value) (hv:vs[i]? = some v):W.cell? ⟨B,i,none⟩=some v:=by
 unfold World.cell?;rw [h]
 simpa using hv
theorem fro {W:World} {B:Nat} {vs:Array Value} {T:TypeId} (h:W.heap[B]? = some (.cells vs T)) (i:Nat):W.frozen? ⟨B,i,none⟩=false:=by
 unfold World.frozen?;rw [h]
 simp
theorem heap_set {W:World} {B i:Nat} {vs:Array Value} {T:TypeId} {v:Value} (h:W.heap[B]? = some (.cells vs T)):(W.setCell ⟨B,i,none⟩ v).heap[B]? = some (.cells (vs.setIfInBounds i v) T):=by
 unfold World.setCell
 simp [Array.getElem?_modify,h]
theorem bG {W:World} {B:Nat} {vs cs:Array Value} {T:TypeId} (h:W.heap[B]? = some (.cells vs T)):(W.setRow B cs).heap[B]? = some (.cells cs T):=by
 unfold World.setRow
 simp [Array.getElem?_modify,h]
theorem aZ {B B':Nat} {cs:Array Value} (hne:B ≠ B') (W:World):(W.setRow B cs).heap[B']? = W.heap[B']?:=by
 unfold World.setRow
 simp [Array.getElem?_modify,hne]
theorem mT {B:Nat} {cs:Array Value} (W:World):(W.setRow B cs).heap.size=W.heap.size:=by
 unfold World.setRow
 simp
theorem bJ {n g:Nat} {a w:World} {cs:Array Value} (h:Below n a w) (hg:n<=g):Below n a (w.setRow g cs) :=
 h.trans ⟨rfl,rfl,rfl,by rw [mT];exact Nat.le_refl _,fun k hk=>aZ (by omega) w⟩
theorem fL {B B' i:Nat} {v:Value} (hne:B ≠ B') (W:World):(W.setCell ⟨B,i,none⟩ v).heap[B']? = W.heap[B']?:=Below.heap_setCell W ⟨B,i,none⟩ v B' (fun e=>hne e.symm)
theorem sC (ra rf rB rC rD rE rH rL sp pc:Int) (ime hal:Bool) (rom:ByteArray) (kind bank:Int) (ram:ByteArray) (rb:Int) (on:Bool) (mode:Int) (work high:ByteArray) (po:Option Addr) (L:List Int) (cap:Nat) (cyc:Int) (po':Option Addr) (cap':Nat) (w:World) (hN:Row w po L) (hN':Row w po' L) (hlen:L.length<=1048576) :
  Calls prog 24 #[.agg #[.int .i64 ra,.int .i64 rf,.int .i64 rB,.int .i64 rC,.int .i64 rD,.int .i64 rE,.int .i64 rH,.int .i64 rL,.int .i64 sp,.int .i64 pc,.bool ime,.bool hal,.string rom,.int .i64 kind,.int .i64 bank,.string ram,.int .i64 rb,.bool on,.int .i64 mode,.string work,.string high,.slice po L.length cap,.int .i64 cyc],.agg #[.int .i64 ra,.int .i64 rf,.int .i64 rB,.int .i64 rC,.int .i64 rD,.int .i64 rE,.int .i64 rH,.int .i64 rL,.int .i64 sp,.int .i64 pc,.bool ime,.bool hal,.string rom,.int .i64 kind,.int .i64 bank,.string ram,.int .i64 rb,.bool on,.int .i64 mode,.string work,.string high,.slice po' L.length cap',.int .i64 cyc]] w fun e w'=>e=.returned (.bool true)/\∃ o1 o2 o3 o4 o5 o6 n,w'=((((((w.alloc o1).alloc o2).alloc o3).alloc o4).alloc o5).alloc o6).drewN n:=by
 have c:=fun W (h:Row W po L) (h':Row W po' L)=>uM po po' cap cap' L W h h' hlen
 have HB:Hid (Row w po L):=hN;have HB':Hid (Row w po' L):=hN';clear hN hN' hlen;obtain ⟨ln,hl⟩ : ∃ ln,ln=L.length:=⟨_,rfl⟩
 rw [<- hl] at c |-
 clear hl
 go_enter func24,ntmps24
 go_wp2_with first|(go_at_call 62;refine (aLF _ _ _ _ _ _ _ _ _ _ _ _ _).mono ?_;rintro e w' ⟨rfl,p1,p2,rfl⟩)|(go_at_call 63;refine (aGM _ _ _ _ _ _ _ _).mono ?_;rintro e w' ⟨rfl,q1,q2,rfl⟩)
 refine Calls.mono (c _ ?_ ?_) ?_
 ·exact HB.out.below (by repeat (with_reducible first|exact zRf|refine zGr ?_ _|refine below_drewN ?_ _|refine Below.drew ?_))
 ·exact HB'.out.below (by repeat (with_reducible first|exact zRf|refine zGr ?_ _|refine below_drewN ?_ _|refine Below.drew ?_))
 rintro e w' ⟨rfl,n,rfl⟩;clear c HB HB';go_wp2;go_ret;exact ⟨rfl,_,_,_,_,_,_,_,rfl⟩
end MachT
namespace CartS
open Go.Deep
open Signed (inB aG aB aC aE)
open Carts CartK CartL CartM CartR
theorem bAS (rom:ByteArray) (kind bank:Int) (ram:ByteArray) (rb:Int) (on:Bool) (mode:Int) (addr z q:Int) (w:World) (hs:rom.size<=maxLen) (s1:rom.size<=4096) (hz:eZ rom.size=z) (z0:2<=z) (z1:z<=16) (b0:0<=bank) (b1:bank<=255) (hq:bank%z=q) (q0:0<=q) (q1:q<=15) (q2:q*256+256<=rom.size) (a0:256<=addr) (a1:addr<512) :
  Calls prog 151 #[.agg #[.string rom,.int .i64 kind,.int .i64 bank,.string ram,.int .i64 rb,.bool on,.int .i64 mode],.int .i64 addr] w fun e w'=>e=.returned (.int .i64 (aH rom (q*256+addr-256)))/\Below w.heap.size w w':=by
 have d1:inB addr 0 255=false:=u6 (by omega);have d2:inB addr 256 511=true:=x9 (by omega);have c3:=fun w=>fY rom w hs
 rw [hz] at c3
 clear hz hs;have i0:0<=q*256+addr-256:=by omega
 have i1:q*256+addr-256<(rom.size:Int):=by omega
 have e1:IntKind.i64.wrap (q*256)=q*256:=by rw [x6];omega
 have e2:IntKind.i64.wrap (q*256+addr)=q*256+addr:=by rw [x6];omega
 have e3:IntKind.i64.wrap (q*256+addr-256)=q*256+addr-256:=by rw [x6];omega
 have z2:¬ z=0:=by omega
 have ht:bank.tmod z=q:=by rw [x4 b0];exact hq
 have i2:256<=q*256+addr:=by omega
 clear hq
 go_enter func151,ntmps151
 go_wp2_with (go_at_call 42;refine (aE _ _ _ _).mono ?_;rintro e w' ⟨rfl,rfl⟩)
 go_quiet ((go_at_call 107;exact Calls.quiet_of_same (c3 _)))
 go_wp2;go_ret;exact ⟨aG (by first|exact dF (by omega)|exact jH (by omega)),by repeat (with_reducible first|exact zRf|refine zGr ?_ _|refine below_drewN ?_ _|refine Below.drew ?_)⟩
theorem bAT (rom:ByteArray) (kind bank:Int) (ram:ByteArray) (rb:Int) (mode:Int) (addr r:Int) (w:World) (sr:ram.size=256) (h0:0<=rb) (h1:rb<=3) (a0:40960<=addr) (a1:addr<41024) (hr:gX kind rb mode=r) :
  Calls prog 151 #[.agg #[.string rom,.int .i64 kind,.int .i64 bank,.string ram,.int .i64 rb,.bool true,.int .i64 mode],.int .i64 addr] w fun e w'=>e=.returned (.int .i64 (aH ram (r*64+addr-40960)))/\Below w.heap.size w w':=by
 have c:=fun w=>iL rom kind bank ram rb true mode w
 obtain ⟨r0,r1⟩:=lC (kind:=kind) (mode:=mode) h0 h1;rw [hr] at c r0 r1
 clear hr h0 h1;have d1:inB addr 0 255=false:=u6 (by omega);have d2:inB addr 256 511=false:=u6 (by omega);have d3:inB addr 40960 41023=true:=x9 (by omega);have i0:0<=r*64+addr-40960:=by omega
 have i1:r*64+addr-40960<(ram.size:Int):=by omega
 have i2:40960<=r*64+addr:=by omega
 clear sr;have e1:IntKind.i64.wrap (r*64)=r*64:=by rw [x6];omega
 have e2:IntKind.i64.wrap (r*64+addr)=r*64+addr:=by rw [x6];omega
 have e3:IntKind.i64.wrap (r*64+addr-40960)=r*64+addr-40960:=by rw [x6];omega
 go_enter func151,ntmps151
 go_wp2_with (go_at_call 42;refine (aE _ _ _ _).mono ?_;rintro e w' ⟨rfl,rfl⟩)
 go_region_with (go_at_call 233;refine (c _).mono ?_;rintro e w' ⟨rfl,rfl⟩)
 all_goals go_wp2
 all_goals go_ret
 all_goals exact ⟨aG (by first|exact dF (by omega)|exact jH (by omega)),by repeat (with_reducible first|exact zRf|refine zGr ?_ _|refine below_drewN ?_ _|refine Below.drew ?_)⟩
theorem bAU (rom:ByteArray) (kind bank:Int) (ram:ByteArray) (rb:Int) (on:Bool) (mode:Int) (addr:Int) (w:World) (a0:512<=addr) (h:on=false \/ addr<40960 \/ 41024<=addr) :
  Calls prog 151 #[.agg #[.string rom,.int .i64 kind,.int .i64 bank,.string ram,.int .i64 rb,.bool on,.int .i64 mode],.int .i64 addr] w fun e w'=>e=.returned (.int .i64 255)/\Below w.heap.size w w':=by
 have d1:inB addr 0 255=false:=u6 (by omega);have d2:inB addr 256 511=false:=u6 (by omega)
 cases on with
 | false =>
  go_enter func151,ntmps151
  go_wp2_with (go_at_call 42;refine (aE _ _ _ _).mono ?_;rintro e w' ⟨rfl,rfl⟩)
  go_ret;exact ⟨rfl,by repeat (with_reducible first|exact zRf|refine zGr ?_ _|refine below_drewN ?_ _|refine Below.drew ?_)⟩
 | true =>
  have d3:inB addr 40960 41023=false:=u6 (by simp at h;omega)
  go_enter func151,ntmps151
  go_wp2_with (go_at_call 42;refine (aE _ _ _ _).mono ?_;rintro e w' ⟨rfl,rfl⟩)
  go_ret;exact ⟨rfl,by repeat (with_reducible first|exact zRf|refine zGr ?_ _|refine below_drewN ?_ _|refine Below.drew ?_)⟩
theorem pE {a b:Int} {w:World} {w':World} {e:Ending} (h:a=b) (k:e=.returned (.int .i64 a)/\Below w.heap.size w w'):e=.returned (.int .i64 b)/\Below w.heap.size w w':=by rw [<- h];exact k
theorem qQ (rom:ByteArray) (kind bank:Int) (ram:ByteArray) (rb:Int) (on:Bool) (mode:Int) (addr:Int) (w:World) (h:okB rom kind bank ram rb on mode=true) (a0:0<=addr) :
  Calls prog 165 #[.agg #[.string rom,.int .i64 kind,.int .i64 bank,.string ram,.int .i64 rb,.bool on,.int .i64 mode],.int .i64 addr] w fun e w'=>e=.returned (.int .i64 (rdV rom (bank%eZ rom.size) ram (gX kind rb mode) on addr))/\Below w.heap.size w w':=by
 obtain ⟨n,n0,n1,hn,hb,hm,b0,b1,r0,r1,m0,m1,hk⟩:=right rom kind bank ram rb on mode h;rw [hb];have q0:0<=bank%(n:Int):=Int.emod_nonneg _ (by omega);have q1:bank%(n:Int)<n:=Int.emod_lt_of_pos _ (by omega)
 by_cases h1:addr<256
 ·exact (bGL rom kind bank ram rb on mode addr w (by omega) a0 h1).mono fun e w' k=>pE (by unfold rdV;rw [if_pos h1]) k
 by_cases h2:addr<512
 ·exact (bGM rom kind bank ram rb on mode addr _ w (by omega) q0 (by omega) (by omega) (by omega) h2 (fun w=>mN rom kind bank ram rb on mode w n n0 n1 hn b0 b1)).mono fun e w' k=>pE (by unfold rdV;rw [if_neg h1,if_pos h2]) k
 by_cases h3:on=true/\40960<=addr/\addr<41024
 ·obtain ⟨rfl,h4,h5⟩:=h3
  exact (bGO rom kind bank ram rb mode addr _ w hm r0 r1 m0 m1 (by simp at hk;omega) h4 h5 rfl).mono fun e w' k=>pE (by unfold rdV;rw [if_neg h1,if_neg h2,if_pos ⟨rfl,h4,h5⟩]) k
 ·exact (bGN rom kind bank ram rb on mode addr w (by omega) (by cases on <;> simp at h3 |-;omega)).mono fun e w' k=>pE (by unfold rdV;rw [if_neg h1,if_neg h2,if_neg h3]) k
theorem qR (rom:ByteArray) (kind bank:Int) (ram:ByteArray) (rb:Int) (on:Bool) (mode:Int) (addr:Int) (w:World) (hs:rom.size<=maxLen) (h:okB rom kind bank ram rb on mode=true) (a0:0<=addr) :
  Calls prog 151 #[.agg #[.string rom,.int .i64 kind,.int .i64 bank,.string ram,.int .i64 rb,.bool on,.int .i64 mode],.int .i64 addr] w fun e w'=>e=.returned (.int .i64 (rdV rom (bank%eZ rom.size) ram (gX kind rb mode) on addr))/\Below w.heap.size w w':=by
 obtain ⟨n,n0,n1,hn,hb,hm,b0,b1,r0,r1,m0,m1,hk⟩:=right rom kind bank ram rb on mode h;rw [hb];have q0:0<=bank%(n:Int):=Int.emod_nonneg _ (by omega);have q1:bank%(n:Int)<n:=Int.emod_lt_of_pos _ (by omega)
 by_cases h1:addr<256
 ·exact (bAB rom kind bank ram rb on mode addr w (by omega) a0 h1).mono fun e w' k=>pE (by unfold rdV;rw [if_pos h1]) k
 by_cases h2:addr<512
 ·exact (bAS rom kind bank ram rb on mode addr n _ w hs (by omega) hb (by omega) (by omega) b0 b1 rfl q0 (by omega) (by omega) (by omega) h2).mono fun e w' k=>pE (by unfold rdV;rw [if_neg h1,if_pos h2]) k
 by_cases h3:on=true/\40960<=addr/\addr<41024
 ·obtain ⟨rfl,h4,h5⟩:=h3
  exact (bAT rom kind bank ram rb mode addr _ w hm r0 r1 h4 h5 rfl).mono fun e w' k=>pE (by unfold rdV;rw [if_neg h1,if_neg h2,if_pos ⟨rfl,h4,h5⟩]) k
 ·exact (bAU rom kind bank ram rb on mode addr w (by omega) (by cases on <;> simp at h3 |-;omega)).mono fun e w' k=>pE (by unfold rdV;rw [if_neg h1,if_neg h2,if_neg h3]) k
end CartS
namespace MachP
open Go.Deep
open CartL Outs
theorem aLG:prog.cellsOf 48=12:=by kernel_rfl
theorem aA:prog.cellsOf 51=23:=by kernel_rfl
theorem bAV:prog.cellsOf 28=1:=by kernel_rfl
theorem fieldsU:∃ f0 f1 f2 f3 f4 f5 f6 f7 f8 f9 f10 f11:Field,prog.underlying 48=some (.struct #[f0,f1,f2,f3,f4,f5,f6,f7,f8,f9,f10,f11])/\(f0.type=2/\f0.offset=0)/\(f1.type=2/\f1.offset=1)/\(f2.type=2/\f2.offset=2)/\(f3.type=2/\f3.offset=3)/\(f4.type=2/\f4.offset=4)/\(f5.type=2/\f5.offset=5)/\(f6.type=2/\f6.offset=6)/\(f7.type=2/\f7.offset=7)/\(f8.type=2/\f8.offset=8)/\(f9.type=2/\f9.offset=9)/\(f10.type=4/\f10.offset=10)/\(f11.type=4/\f11.offset=11) :=
 ⟨_,_,_,_,_,_,_,_,_,_,_,_,underlying48,⟨rfl,rfl⟩,⟨rfl,rfl⟩,⟨rfl,rfl⟩,⟨rfl,rfl⟩,⟨rfl,rfl⟩,⟨rfl,rfl⟩,⟨rfl,rfl⟩,⟨rfl,rfl⟩,⟨rfl,rfl⟩,⟨rfl,rfl⟩,⟨rfl,rfl⟩,⟨rfl,rfl⟩⟩
theorem bAW {H:Type} {enc:TypeId × Value->H} {w:World} {base:Nat} {spare:Nat->Bool} {held:Bool} {fuel:Nat} {cs:List Value} {x:DataW H × List MemPlace}
  (h:DataW.trod enc prog w base spare held fuel 48 cs=some x) :
  ∃ (ra rf rB rC rD rE rH rL sp pc:Int) (ime hal:Bool),cs=[.int .i64 ra,.int .i64 rf,.int .i64 rB,.int .i64 rC,.int .i64 rD,.int .i64 rE,.int .i64 rH,.int .i64 rL,.int .i64 sp,.int .i64 pc,.bool ime,.bool hal]:=by
 obtain ⟨f0,f1,f2,f3,f4,f5,f6,f7,f8,f9,f10,f11,hf,⟨t0,o0⟩,⟨t1,o1⟩,⟨t2,o2⟩,⟨t3,o3⟩,⟨t4,o4⟩,⟨t5,o5⟩,⟨t6,o6⟩,⟨t7,o7⟩,⟨t8,o8⟩,⟨t9,o9⟩,⟨t10,o10⟩,⟨t11,o11⟩⟩:=fieldsU;obtain ⟨xs,n,_,_,hl,hlen,g⟩:=DataW.trod_struct hf h;rw [aLG] at hl
 match cs,hl,xs,hlen with
 | [v0,v1,v2,v3,v4,v5,v6,v7,v8,v9,v10,v11],_,[y0,y1,y2,y3,y4,y5,y6,y7,y8,y9,y10,y11],_ =>
  have g0:=g 0 f0 rfl;have g1:=g 1 f1 rfl;have g2:=g 2 f2 rfl;have g3:=g 3 f3 rfl;have g4:=g 4 f4 rfl;have g5:=g 5 f5 rfl;have g6:=g 6 f6 rfl;have g7:=g 7 f7 rfl;have g8:=g 8 f8 rfl;have g9:=g 9 f9 rfl;have g10:=g 10 f10 rfl;have g11:=g 11 f11 rfl;rw [t0,o0,CartL.eK] at g0
  rw [t1,o1,CartL.eK] at g1
  rw [t2,o2,CartL.eK] at g2
  rw [t3,o3,CartL.eK] at g3
  rw [t4,o4,CartL.eK] at g4
  rw [t5,o5,CartL.eK] at g5
  rw [t6,o6,CartL.eK] at g6
  rw [t7,o7,CartL.eK] at g7
  rw [t8,o8,CartL.eK] at g8
  rw [t9,o9,CartL.eK] at g9
  rw [t10,o10,CartL.aAP] at g10
  rw [t11,o11,CartL.aAP] at g11
  obtain ⟨n0,e0,_⟩:=DataW.trod_int underlying2 g0;obtain ⟨n1,e1,_⟩:=DataW.trod_int underlying2 g1;obtain ⟨n2,e2,_⟩:=DataW.trod_int underlying2 g2;obtain ⟨n3,e3,_⟩:=DataW.trod_int underlying2 g3;obtain ⟨n4,e4,_⟩:=DataW.trod_int underlying2 g4;obtain ⟨n5,e5,_⟩:=DataW.trod_int underlying2 g5;obtain ⟨n6,e6,_⟩:=DataW.trod_int underlying2 g6;obtain ⟨n7,e7,_⟩:=DataW.trod_int underlying2 g7;obtain ⟨n8,e8,_⟩:=DataW.trod_int underlying2 g8;obtain ⟨n9,e9,_⟩:=DataW.trod_int underlying2 g9;obtain ⟨b10,e10,_⟩:=DataW.trod_bool underlying4 g10;obtain ⟨b11,e11,_⟩:=DataW.trod_bool underlying4 g11;simp at e0 e1 e2 e3 e4 e5 e6 e7 e8 e9 e10 e11
  subst e0 e1 e2 e3 e4 e5 e6 e7 e8 e9 e10 e11;exact ⟨n0,n1,n2,n3,n4,n5,n6,n7,n8,n9,b10,b11,rfl⟩
theorem aSJ:∃ f0 f1 f2 f3 f4 f5:Field,prog.underlying 51=some (.struct #[f0,f1,f2,f3,f4,f5])/\(f0.type=48/\f0.offset=0)/\(f1.type=49/\f1.offset=12)/\(f2.type=9/\f2.offset=19)/\(f3.type=9/\f3.offset=20)/\(f4.type=28/\f4.offset=21)/\(f5.type=2/\f5.offset=22) :=
 ⟨_,_,_,_,_,_,underlying51,⟨rfl,rfl⟩,⟨rfl,rfl⟩,⟨rfl,rfl⟩,⟨rfl,rfl⟩,⟨rfl,rfl⟩,⟨rfl,rfl⟩⟩
theorem aAW {H:Type} {enc:TypeId × Value->H} {w:World} {base:Nat} {spare:Nat->Bool} {held:Bool} {fuel:Nat} {cs:List Value} {x:DataW H × List MemPlace}
  (h:DataW.trod enc prog w base spare held fuel 51 cs=some x) :
  ∃ (ra rf rB rC rD rE rH rL sp pc:Int) (ime hal:Bool) (rom:ByteArray) (kind bank:Int) (ram:ByteArray) (rb:Int) (on:Bool) (mode:Int) (work high:ByteArray) (po:Option Addr) (L:List Int) (cap:Nat) (cyc:Int),
   cs=[.int .i64 ra,.int .i64 rf,.int .i64 rB,.int .i64 rC,.int .i64 rD,.int .i64 rE,.int .i64 rH,.int .i64 rL,.int .i64 sp,.int .i64 pc,.bool ime,.bool hal,.string rom,.int .i64 kind,.int .i64 bank,.string ram,.int .i64 rb,.bool on,.int .i64 mode,.string work,.string high,.slice po L.length cap,.int .i64 cyc] /\
   rom.size<=maxLen/\ram.size<=maxLen/\work.size<=maxLen/\high.size<=maxLen/\L.length<=maxLen/\Row w po L:=by
 obtain ⟨f0,f1,f2,f3,f4,f5,hf,⟨t0,o0⟩,⟨t1,o1⟩,⟨t2,o2⟩,⟨t3,o3⟩,⟨t4,o4⟩,⟨t5,o5⟩⟩:=aSJ;obtain ⟨xs,n,_,_,hl,hlen,g⟩:=DataW.trod_struct hf h;rw [aA] at hl
 match cs,hl,xs,hlen with
 | [v0,v1,v2,v3,v4,v5,v6,v7,v8,v9,v10,v11,v12,v13,v14,v15,v16,v17,v18,v19,v20,v21,v22],_,[y0,y1,y2,y3,y4,y5],_ =>
  have g0:=g 0 f0 rfl;have g1:=g 1 f1 rfl;have g2:=g 2 f2 rfl;have g3:=g 3 f3 rfl;have g4:=g 4 f4 rfl;have g5:=g 5 f5 rfl;rw [t0,o0,aLG] at g0
  rw [t1,o1,aKI] at g1
  rw [t2,o2,CartL.tW] at g2
  rw [t3,o3,CartL.tW] at g3
  rw [t4,o4,bAV] at g4
  rw [t5,o5,CartL.eK] at g5
  obtain ⟨ra,rf,rB,rC,rD,rE,rH,rL,sp,pc,ime,hal,e0⟩:=bAW g0;obtain ⟨rom,kind,bank,ram,rb,on,mode,e1,z1,z2⟩:=aSE g1;obtain ⟨work,e2,_,z3⟩:=DataW.trod_string underlying9 g2;obtain ⟨high,e3,_,z4⟩:=DataW.trod_string underlying9 g3;obtain ⟨po,len,cap,L,e4,hL,z5,hr⟩:=row_of g4;obtain ⟨cyc,e5,_⟩:=DataW.trod_int underlying2 g5;simp at e0 e1 e2 e3 e4 e5
  obtain ⟨rfl,rfl,rfl,rfl,rfl,rfl,rfl,rfl,rfl,rfl,rfl,rfl⟩:=e0;obtain ⟨rfl,rfl,rfl,rfl,rfl,rfl,rfl⟩:=e1;subst e2 e3 e4 e5 hL;exact ⟨ra,rf,rB,rC,rD,rE,rH,rL,sp,pc,ime,hal,rom,kind,bank,ram,rb,on,mode,work,high,po,L,cap,cyc,rfl,z1,z2,z3,z4,z5,hr⟩
theorem bQ {P:Program} {ops:Array Oper} {Q:Exit->Act->World->Prop} {md:Region.Mode} {fuel:Nat} {listed:Array Bool} {a:Act} {w:World} {i:Nat} {o:Oper} {rs:List Nat} (ho:ops[i]? = some o) (hg:o.guard=none)
  (h:∀ K':Act->World->Prop,(∀ a w,wpAny P md ops Q fuel (listed.setIfInBounds i true) a w->K' a w)->Oper.wp P o a w K' Q) (hs:AllReady P md ops Q fuel listed a w rs):AllReady P md ops Q fuel listed a w (i :: rs) :=
 AllReady.cons ho (fun K hK=>by simp only [Region.wanted,hg,if_true];exact h K hK) hs
end MachP
namespace Tmpl
open Tabs
def aY (code:Int) (cb:Bool):ByteArray :=
 if cb=true then
  (if code / 64=0 then at8 turns (code / 8%8) ++ ⟨#[32]⟩ ++ at8 kA (code%8)
  else at8 aRF (code / 64) ++ at8 tQ (code / 8%8) ++ ⟨#[44]⟩ ++ at8 kA (code%8))
 else if code / 64=0 then LowT.kC (code / 8%8) (code%8)
 else if code=118 then ⟨#[104,97,108,116]⟩
 else if code / 64=1 then ⟨#[108,100,32]⟩ ++ at8 kA (code / 8%8) ++ ⟨#[44]⟩ ++ at8 kA (code%8)
 else if code / 64=2 then at8 wQ (code / 8%8) ++ ⟨#[32,97,44]⟩ ++ at8 kA (code%8)
 else TopT.mL (code / 8%8) (code%8)
theorem bGU (code y z:Int) (w:World) (hx:code / 64=0) (hy:code / 8%8=y) (hz:code%8=z) (h0:0<=code) (h1:code<=255) :
  Calls prog 103 #[.int .i64 code,.bool false] w fun e w'=>e=.returned (.string (LowT.kC y z))/\Below w.heap.size w w':=by
 have c:=fun w=>LowT.aSB y z w (by omega) (by omega) (by omega) (by omega)
 generalize LowT.kC y z=T at c |-
 go_enter func103,ntmps103
 go_wp2_with fail
 simp only [hy,hz];refine (c _).mono ?_;rintro e w1 ⟨rfl,b1⟩;have B1:Hid (Below w.heap.size w w1):=b1;clear b1;go_wp2;go_ret;exact ⟨rfl,B1.out⟩
theorem bGV (code y z:Int) (w:World) (hx:code / 64=3) (hy:code / 8%8=y) (hz:code%8=z) (h0:0<=code) (h1:code<=255) :
  Calls prog 103 #[.int .i64 code,.bool false] w fun e w'=>e=.returned (.string (TopT.mL y z))/\Below w.heap.size w w':=by
 have c:=fun w=>TopT.aSC y z w (by omega) (by omega) (by omega) (by omega)
 have hh:¬ code=118:=by omega
 generalize TopT.mL y z=T at c |-
 go_enter func103,ntmps103
 go_wp2_with fail
 simp only [hy,hz];refine (c _).mono ?_;rintro e w1 ⟨rfl,b1⟩;have B1:Hid (Below w.heap.size w w1):=b1;clear b1;go_wp2;go_ret;exact ⟨rfl,B1.out⟩
theorem gH (code:Int) (cb:Bool) (w:World) (h0:0<=code) (h1:code<=255) :
  Calls prog 103 #[.int .i64 code,.bool cb] w fun e w'=>e=.returned (.string (aY code cb))/\Below w.heap.size w w':=by
 unfold aY
 cases cb with
 | true =>
  rw [if_pos rfl]
  by_cases h:code / 64=0
  ·rw [if_pos h];exact TmplA.aKD code _ _ w h rfl rfl h0 h1
  ·rw [if_neg h];exact TmplA.bFX code _ _ w _ rfl (by omega) rfl rfl h0 h1
 | false =>
  rw [if_neg (by decide)]
  by_cases h:code / 64=0
  ·rw [if_pos h];exact bGU code _ _ w h rfl rfl h0 h1
  rw [if_neg h]
  by_cases h8:code=118
  ·subst h8;rw [if_pos rfl];exact TmplA.aKE w
  rw [if_neg h8]
  by_cases h2:code / 64=1
  ·rw [if_pos h2];exact TmplA.aZX code _ _ w h2 h8 rfl rfl h0 h1
  rw [if_neg h2]
  by_cases h3:code / 64=2
  ·rw [if_pos h3];exact TmplA.aSA code _ _ w h3 rfl rfl h0 h1
  rw [if_neg h3];exact bGV code _ _ w (by omega) rfl rfl h0 h1
end Tmpl
namespace Leng
open Signed (inB aE)
open Tmpl Hole
theorem fC {s:ByteArray} (h:s.size=0):s.toList.isEmpty=true:=by
 rw [ByteArray.toList_eq,List.isEmpty_iff_length_eq_zero,Array.length_toList];exact h
theorem dQ {s:ByteArray} (h:¬ s.size=0):s.toList.isEmpty=false:=by
 rw [ByteArray.toList_eq];cases e:s.data.toList with
 | nil=>exact absurd (by have:=congrArg List.length e;rw [Array.length_toList] at this;exact this) h
 | cons _ _=>rfl
theorem aLH:∀ (c:Fin 256) (b:Bool),(aY (c.val:Int) b).size<=40:=by decide +kernel
theorem jK (code:Int) (cb:Bool) (h0:0<=code) (h1:code<=255):(aY code cb).size<=40:=by
 have:=aLH ⟨code.toNat,by omega⟩ cb
 rwa [show ((⟨code.toNat,by omega⟩ : Fin 256).val:Int)=code by show ((code.toNat:Nat):Int)=code;omega] at this
def aYP (T:ByteArray) (e:Ending):Prop:=∃ n:Int,e=.returned (.int .i64 n)/\(n=0 ↔ T.size=0)/\0<=n/\n<=3
theorem jL (code:Int) (cb:Bool) (w:World) (h0:0<=code) (h1:code<=255) :
  Calls prog 153 #[.int .i64 code,.bool cb] w fun e w'=>aYP (aY code cb) e/\Below w.heap.size w w':=by
 have c:=fun w=>gH code cb w h0 h1
 have hz:=jK code cb h0 h1;generalize aY code cb=T at c hz |-
 go_enter func153,ntmps153
 go_wp2_with fail
 refine (c _).mono ?_;rintro e w1 ⟨rfl,b1⟩;have B1:Hid (Below w.heap.size w w1):=b1;clear b1 c
 by_cases he:T.size=0
 ·have h':=fC he
  go_wp2;go_ret;exact ⟨⟨0,rfl,by omega,by omega,by omega⟩,B1.out⟩
 have h':=dQ he
 cases cb with
 | true =>
  go_wp2;go_ret;exact ⟨⟨2,rfl,by omega,by omega,by omega⟩,B1.out⟩
 | false =>
  go_wp2_with fail
  refine (kL T _ (by omega)).mono ?_;rintro e w2 ⟨⟨i,h,rfl⟩,b2⟩;have B2:Hid (Below w.heap.size w w2):=B1.out.trans (b2.mono B1.out.size);clear b2 B1;go_wp2
  all_goals
   go_ret;exact ⟨⟨_,rfl,by omega,by omega,by omega⟩,B2.out⟩
theorem gI (code:Int) (cb:Bool) (w:World) (h0:0<=code) (h1:code<=255) :
  Calls prog 131 #[.int .i64 code,.bool cb] w fun e w'=>aYP (aY code cb) e/\Below w.heap.size w w':=by
 have c:=fun w=>jL code cb w h0 h1
 have hin:inB code 0 255=true:=by unfold inB;simp;omega
 have ci:=fun w=>aE code 0 255 w
 rw [hin] at ci
 generalize aY code cb=T at c |-
 go_enter func131,ntmps131
 go_wp2_with (first|(go_at_call 42;refine (ci _).mono ?_;rintro e w' ⟨rfl,hw'⟩;have hw':=hw'.symm;subst hw')|fail)
 refine (c _).mono ?_;rintro e w1 ⟨⟨n,rfl,hn⟩,b1⟩;have HN:Hid _:=hn;have B1:Hid (Below w.heap.size w w1):=b1;clear hn b1;go_wp2;go_ret;exact ⟨⟨n,rfl,HN.out⟩,B1.out⟩
theorem jM (code:Int) (cb:Bool) (w:World) (h:inB code 0 255=false) :
  Calls prog 131 #[.int .i64 code,.bool cb] w fun e w'=>e=.returned (.int .i64 0)/\w'=w:=by
 have ci:=fun w=>aE code 0 255 w
 rw [h] at ci
 go_enter func131,ntmps131
 go_wp2_with (go_at_call 42;refine (ci _).mono ?_;rintro e w' ⟨rfl,hw'⟩;have hw':=hw'.symm;subst hw')
 go_ret;exact ⟨rfl,rfl⟩
end Leng
namespace TmplI
open Signed (inB)
open PartN Bld
def one (x y z p:Int) (b:UInt8):List UInt8:=if 65<=b.toNat/\b.toNat<=90 then (sP (b.toNat:Int) x y z p).data.toList else [b]
def mU (x y z p:Int) (l:List UInt8):List UInt8:=l.flatMap (one x y z p)
theorem aLI (x y z p:Int) (l:List UInt8) (b:UInt8):mU x y z p (l ++ [b])=mU x y z p l ++ one x y z p b:=by simp [mU]
theorem bAX {l:List ByteArray} (h:∀ s ∈ l,s.size<=5) (i:Int):(Tabs.at8 l i).size<=5:=by
 unfold Tabs.at8;rw [List.getD_eq_getElem?_getD]
 cases hx:l[i.toNat]? with
 | none=>decide
 | some s=>exact h s (List.mem_of_getElem? hx)
theorem aEM (l x y z p:Int):(sP l x y z p).size<=5:=by
 unfold sP
 repeat' split
 all_goals exact bAX (by decide) _
theorem bAY (x y z p:Int) (b:UInt8):(one x y z p b).length<=5:=by
 unfold one;split
 ·have:=aEM (b.toNat:Int) x y z p
  rw [Array.length_toList];exact this
 ·simp
theorem bAZ (x y z p:Int) (l:List UInt8):(mU x y z p l).length<=5*l.length:=by
 induction l with
 | nil=>exact Nat.le_refl _
 | cons b r ih =>
  have:=bAY x y z p b
  simp only [mU,List.flatMap_cons,List.length_append,List.length_cons] at ih |-
  omega
theorem xE (n:Int) (w:World) :
  Calls prog 224 #[.int .u8 n] w fun e w'=>e=.returned (.bool (decide (65<=n/\n<=90)))/\w'=w:=by
 go_enter func224,ntmps224
 go_wp2
 all_goals
  go_ret;exact ⟨Signed.aB (by first|(simp;omega)|simp_all),rfl⟩
theorem xF {B b:Nat} {bs:List Value} {w w':World} (h:Holds B b bs w) (hb:Below w.heap.size w w'):Holds B b bs w':=by
 have go:∀ p,Lib.BuilderAt 195 5 B b p bs w->Lib.BuilderAt 195 5 B b p bs w':=fun p hp=>by
  have hl:=hp.lt;obtain ⟨hB,v,hbk,hown,hne⟩:=hp;exact ⟨hB,v,(hb.block b hl).trans hbk,hown.kept (row:=none) ⟨hb.os,hb.tape,hb.output,hb.size,fun k hk _=>hb.block k hk⟩ (by cases hv:Value.ownBlock v <;> simp),hne⟩
 exact h.imp (go _) (go _)
theorem aLJ {w w2:World} (h:Below w.drew.heap.size w.drew w2):Below w.heap.size w w2:=⟨h.os,h.tape,h.output,h.size,h.block⟩
theorem aGN (w:World):Holds w.heap.size w.heap.size [] (w.alloc (.cells #[.pointer none,.slice none 0 0] 195)) :=
 .inl ⟨Nat.le_refl _,_,(MapKept.heap_alloc w _).1,World.ownsRow_nil _ _ _ _,by simp [Value.ownBlock]⟩
theorem mV {B b:Nat} {bs:List Value} {w:World} (h:Holds B b bs w):b<w.heap.size:=h.elim (·.lt) (·.lt)
theorem aLK (T:ByteArray) (code:Int) (cb:Bool) (w:World) (hT:PartN.Tables w) (he:T.toList.isEmpty=false) (hz:T.size<=40) (hL:∀ b ∈ T.data.toList,65<=b.toNat/\b.toNat<=90->(b.toNat:Int) ∈ mQ)
  (c:∀ w,Calls prog 96 #[.int .i64 code,.bool cb] w fun e w'=>e=.returned (.string T)/\Below w.heap.size w w') (h0:0<=code) (h1:code<=255) :
  Calls prog 147 #[.int .i64 code,.bool cb] w fun e w'=>e=.returned (.string ⟨(mU (code / 64) (code / 8%8) (code%8) (code / 8%8 / 2) T.data.toList).toArray⟩)/\Below w.heap.size w w':=by
 have HT:Hid (PartN.Tables w):=hT;have HL:Hid (∀ b ∈ T.data.toList,65<=b.toNat/\b.toNat<=90->(b.toNat:Int) ∈ mQ):=hL;clear hT hL;have cp:=fun w=>Shape.eJ code w h0 h1
 have HR:Hid ((0<=code / 64/\code / 64<=3)/\(0<=code / 8%8/\code / 8%8<=7)/\(0<=code%8/\code%8<=7)/\(0<=code / 8%8 / 2/\code / 8%8 / 2<=3)):=by
  show _/\_/\_/\_;omega
 generalize code / 64=x at cp HR |-
 generalize code / 8%8%2=q at cp
 generalize code / 8%8 / 2=p at cp HR |-
 generalize code / 8%8=y at cp HR |-
 generalize code%8=z at cp HR |-
 clear h0 h1
 go_enter func147,ntmps147
 go_wp2_with fail
 refine (c _).mono ?_;rintro e w1 ⟨rfl,b1⟩;have B1:Hid (Below w.heap.size w w1):=b1;clear b1 c
 go_wp2_with fail
 refine (cp _).mono ?_;rintro e w2 ⟨rfl,b2⟩;have B2:Hid (Below w.heap.size w w2):=B1.out.trans (b2.mono B1.out.size);clear b2 B1 cp
 go_wp2_with fail
 have HH:Hid (Holds (w2.heap.size+1) (w2.heap.size+1) [] ((w2.alloc (.cells #[.int .i64 x,.int .i64 y,.int .i64 z,.int .i64 p,.int .i64 q] 124)).alloc (.cells #[.pointer none,.slice none 0 0] 195))):=by
  have:=aGN (w2.alloc (.cells #[.int .i64 x,.int .i64 y,.int .i64 z,.int .i64 p,.int .i64 q] 124))
  rwa [World.size_alloc] at this
 have BW:Hid (Below w.heap.size w ((w2.alloc (.cells #[.int .i64 x,.int .i64 y,.int .i64 z,.int .i64 p,.int .i64 q] 124)).alloc (.cells #[.pointer none,.slice none 0 0] 195))):=(B2.out.alloc B2.out.size _).alloc (B2.out.alloc B2.out.size _).size _;have CB:Hid (∀ wr,Below (w2.heap.size+1) ((w2.alloc (.cells #[.int .i64 x,.int .i64 y,.int .i64 z,.int .i64 p,.int .i64 q] 124)).alloc (.cells #[.pointer none,.slice none 0 0] 195)) wr->(wr.cell? ⟨w2.heap.size,0,none⟩=some (.int .i64 x)/\wr.cell? ⟨w2.heap.size,1,none⟩=some (.int .i64 y)/\wr.cell? ⟨w2.heap.size,2,none⟩=some (.int .i64 z)/\wr.cell? ⟨w2.heap.size,3,none⟩=some (.int .i64 p)/\wr.cell? ⟨w2.heap.size,4,none⟩=some (.int .i64 q))):=fun wr hb=>by
  have e:∀ k v,(#[.int .i64 x,.int .i64 y,.int .i64 z,.int .i64 p,.int .i64 q]:Array Value)[k]? = some v->wr.cell? ⟨w2.heap.size,k,none⟩=some v:=fun k v hv=>by
   rw [hb.cell (p:=⟨w2.heap.size,k,none⟩) (by simp),World.cell?_of_block (a:=⟨w2.heap.size,k,none⟩) (w:=w2.alloc (.cells #[.int .i64 x,.int .i64 y,.int .i64 z,.int .i64 p,.int .i64 q] 124)) (Below.heap_alloc _ _ _ (by simp)),World.cell?_alloc_new];exact hv
  exact ⟨e 0 _ rfl,e 1 _ rfl,e 2 _ rfl,e 3 _ rfl,e 4 _ rfl⟩
 have HO:Hid (w.heap.size<=w2.heap.size+1/\w2.heap.size+1<=((w2.alloc (.cells #[.int .i64 x,.int .i64 y,.int .i64 z,.int .i64 p,.int .i64 q] 124)).alloc (.cells #[.pointer none,.slice none 0 0] 195)).heap.size):=⟨by have:=B2.out.size;omega,by simp⟩;generalize (w2.alloc (.cells #[.int .i64 x,.int .i64 y,.int .i64 z,.int .i64 p,.int .i64 q] 124)).alloc (.cells #[.pointer none,.slice none 0 0] 195)=W at HH BW CB HO |-
 generalize w2.heap.size=ib at HH CB HO |-
 clear B2;have hsz:(T.data.toList).length=T.size:=Array.length_toList
 go_loopw [18] (fun i wr=>∃ k:Nat,k<=T.size/\i=.int .i64 k/\Hid (Holds (ib+1) (ib+1) (Lib.byteCells (mU x y z p (T.data.toList.take k))) wr)/\Hid (Below (ib+1) W wr)) (fun i _=>T.size-(intOf i).toNat)
 case atStart=>exact ⟨0,Nat.zero_le _,rfl,HH.out,Below.refl _ _⟩
 case round =>
  obtain ⟨k,hk,rfl,HR1,HB⟩:=hrel;have HW:Hid (Below w.heap.size w wr):=BW.out.trans (HB.out.mono HO.out.1)
  by_cases hlt:k<T.size
  ·have hlt':(k:Int)<(T.size:Int):=by omega
   obtain ⟨b,hb⟩ : ∃ b,T.data.toList[k]? = some b:=⟨T.data.toList[k]'(by omega),List.getElem?_eq_getElem (by omega)⟩
   have xi:∀ w,(Instr.index 9 (.string T) (.int .i64 (k:Int))).run prog w=.ok (.int .u8 (b.toNat:Int)) w:=fun w=>by
    rw [run_index_string w 9 T .i64 (k:Int) underlying9,dif_pos ⟨by omega,hlt'⟩]
    have:T[(k:Int).toNat]'(by omega)=b:=by
     rw [List.getElem?_eq_getElem (by omega)] at hb
     have:=Option.some.inj hb
     rw [<- this];simp only [Int.toNat_natCast];show T.data[k]=_;rw [Array.getElem_toList]
    rw [this]
   have HS:Hid (mU x y z p (T.data.toList.take (k+1))=mU x y z p (T.data.toList.take k) ++ one x y z p b):=by
    show _=_;rw [List.take_add_one,hb];exact aLI x y z p _ b
   have HN:Hid ((mU x y z p (T.data.toList.take k)).length<=200):=by
    show _<=_
    have:=bAZ x y z p (T.data.toList.take k)
    rw [List.length_take] at this
    omega
   have HM:Hid (k<T.size/\b ∈ T.data.toList):=⟨hlt,List.mem_of_getElem? hb⟩;obtain ⟨a0,a1,a2,a3,a4⟩:=CB.out wr HB.out;have hg:=fun w=>xE (b.toNat:Int) w
   clear hb hk hlt
   by_cases hgr:65<=b.toNat/\b.toNat<=90
   ·rw [show decide ((65:Int)<=(b.toNat:Int)/\(b.toNat:Int)<=90)=true from x9 (by omega)] at hg
    have HE:Hid (one x y z p b=(sP (b.toNat:Int) x y z p).data.toList):=by show _=_;unfold one;rw [if_pos hgr]
    have HP:=aEM (b.toNat:Int) x y z p;have ca:=fun w hT=>aKP (b.toNat:Int) x y z p q w hT HR.out.1.1 HR.out.1.2 HR.out.2.1.1 HR.out.2.1.2 HR.out.2.2.1.1 HR.out.2.2.1.2 HR.out.2.2.2.1 HR.out.2.2.2.2 (HL.out b HM.out.2 hgr)
    generalize sP (b.toNat:Int) x y z p=P at HE HP ca
    clear hgr
    go_wp2_with (go_at_call 224;refine (hg _).mono ?_;rintro e w' ⟨rfl,hw⟩;subst hw)
    go_region_with (first
     | (go_at_call 226;refine (ca _ (HT.out.below HW.out.drew)).mono ?_;rintro e w4 ⟨rfl,b4⟩;have HH4:Hid (Holds (ib+1) (ib+1) (Lib.byteCells (mU x y z p (T.data.toList.take k))) w4):=xF HR1.out (aLJ b4);have HB4:Hid (Below (ib+1) W w4):=HB.out.trans ((aLJ b4).mono (Nat.le_of_lt (mV HR1.out)));clear b4)
     | (go_at_call 225;refine (aRN _ _ _ P _ HH4.out (by rw [Lib.byteCells_length];have:=HN.out;omega) (Nat.le_of_lt (mV HH4.out))).mono ?_;rintro e w5 ⟨rfl,h5,b5⟩;have HH5:Hid (Holds (ib+1) (ib+1) (Lib.byteCells (mU x y z p (T.data.toList.take (k+1)))) w5):=(by show Holds _ _ _ _;rw [HS.out,Lib.byteCells_append,HE.out];exact h5);have HB5:Hid (Below (ib+1) W w5):=HB4.out.trans b5;clear h5 b5)
     | fail)
    all_goals
     go_wp2_with fail
     go_roundw
     case rel=>exact ⟨k+1,HM.out.1,by go_num,HH5.out,HB5.out⟩
     case measure=>have:=HM.out.1;simp [intOf];omega
   ·rw [show decide ((65:Int)<=(b.toNat:Int)/\(b.toNat:Int)<=90)=false from u6 (by omega)] at hg
    have HE:Hid (one x y z p b=[b]):=by show _=_;unfold one;rw [if_neg hgr]
    clear hgr
    go_wp2_with first
     | (go_at_call 224;refine (hg _).mono ?_;rintro e w' ⟨rfl,hw⟩;subst hw)
     | (go_at_call 227;refine (aJP _ _ _ _ _ HR1.out (by rw [Lib.byteCells_length];have:=HN.out;omega) (Nat.le_of_lt (mV HR1.out))).mono ?_;rintro e w5 ⟨rfl,h5,b5⟩;have HH5:Hid (Holds (ib+1) (ib+1) (Lib.byteCells (mU x y z p (T.data.toList.take (k+1)))) w5):=(by show Holds _ _ _ _;rw [HS.out,Lib.byteCells_append,HE.out];exact h5);have HB5:Hid (Below (ib+1) W w5):=HB.out.trans b5;clear h5 b5)
    go_roundw
    case rel=>exact ⟨k+1,HM.out.1,by go_num,HH5.out,HB5.out⟩
    case measure=>have:=HM.out.1;simp [intOf];omega
  ·have hk2:k=T.size:=by omega
   subst hk2;have HE:Hid (T.data.toList.take T.size=T.data.toList):=by show _=_;rw [<- hsz];exact List.take_length
   go_wp2_with (go_at_call 228;refine (Tryz.Builder_String_any _ _ _ _ HR1.out (Nat.le_of_lt (mV HR1.out))).mono ?_;rintro e w5 ⟨rfl,b5⟩;have B5:Hid (Below w.heap.size w w5):=HW.out.trans (b5.mono HO.out.1);clear b5)
   go_ret;exact ⟨by rw [HE.out];rfl,B5.out⟩
theorem sS (code:Int) (cb:Bool) (w:World) (T:ByteArray) (he:T.toList.isEmpty=true)
  (c:∀ w,Calls prog 96 #[.int .i64 code,.bool cb] w fun e w'=>e=.returned (.string T)/\Below w.heap.size w w') :
  Calls prog 147 #[.int .i64 code,.bool cb] w fun e w'=>e=.returned (.string ⟨#[]⟩)/\Below w.heap.size w w':=by
 go_enter func147,ntmps147
 go_wp2_with fail
 refine (c _).mono ?_;rintro e w1 ⟨rfl,b1⟩;have B1:Hid (Below w.heap.size w w1):=b1;clear b1 c;go_wp2;go_ret;exact ⟨rfl,B1.out⟩
theorem aLL:∀ (c:Fin 256) (b:Bool),((Shape.cC (c.val:Int) b).size=0->(Tmpl.aY (c.val:Int) b).size=0)/\(Shape.cC (c.val:Int) b).size<=40/\(∀ x ∈ (Shape.cC (c.val:Int) b).data.toList,65<=x.toNat/\x.toNat<=90->(x.toNat:Int) ∈ mQ) /\
  (¬ (Shape.cC (c.val:Int) b).size=0->(⟨(mU ((c.val:Int) / 64) ((c.val:Int) / 8%8) ((c.val:Int)%8) ((c.val:Int) / 8%8 / 2) (Shape.cC (c.val:Int) b).data.toList).toArray⟩ : ByteArray)=Tmpl.aY (c.val:Int) b):=by decide +kernel
def aAX (code:Int) (cb:Bool):ByteArray:=if inB code 0 255=true then Tmpl.aY code cb else ⟨#[]⟩
theorem oH (code:Int) (cb:Bool) (w:World) (hT:PartN.Tables w) :
  Calls prog 147 #[.int .i64 code,.bool cb] w fun e w'=>e=.returned (.string (aAX code cb))/\Below w.heap.size w w':=by
 have c:=fun w=>Shape.dW code cb w
 cases hb:inB code 0 255
 ·have e1:aAX code cb=⟨#[]⟩:=by unfold aAX;rw [hb];rfl
  have e2:Shape.shape code cb=⟨#[]⟩:=by unfold Shape.shape;rw [hb];rfl
  rw [e1];rw [e2] at c
  exact sS code cb w ⟨#[]⟩ (by rw [ByteArray.toList_eq];rfl) c
 ·obtain ⟨h0,h1⟩:=u7 hb
  have e1:aAX code cb=Tmpl.aY code cb:=by unfold aAX;rw [if_pos hb]
  have e2:Shape.shape code cb=Shape.cC code cb:=by unfold Shape.shape;rw [if_pos hb]
  obtain ⟨a1,a2,a3,a4⟩:=aLL ⟨code.toNat,by omega⟩ cb;rw [show ((⟨code.toNat,by omega⟩ : Fin 256).val:Int)=code by show ((code.toNat:Nat):Int)=code;omega] at a1 a2 a3 a4
  rw [e1];rw [e2] at c
  by_cases hz:(Shape.cC code cb).size=0
  ·have:Tmpl.aY code cb=⟨#[]⟩:=by
    have:=a1 hz
    apply ByteArray.ext
    exact Array.eq_empty_of_size_eq_zero this
   rw [this];exact sS code cb w _ (by rw [ByteArray.toList_eq,List.isEmpty_iff_length_eq_zero,Array.length_toList];exact hz) c
  ·rw [<- a4 hz]
   exact aLK _ code cb w hT (by
    rw [ByteArray.toList_eq]
    cases e:(Shape.cC code cb).data.toList with
    | nil=>exact absurd (by have:=congrArg List.length e;rw [Array.length_toList] at this;exact this) hz
    | cons _ _=>rfl) a2 a3 c h0 h1
end TmplI
end Go.Proofs.YteglcgnhhoenbaaGreatDoor
