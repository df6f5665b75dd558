import Derived.Test.YtepafieckjnkdaaGreatDoorP04
import Derived.Lib.ItoaLen
import Derived.Lib.AppendIntMem
set_option linter.all false
set_option maxRecDepth 20000
set_option maxHeartbeats 8000000
open Go.ChangeShapes Go.WideShapes Go.ChangeAt Go.RowKit
open Go.Proofs.Tryz
namespace Go.Proofs.YtepafieckjnkdaaGreatDoor
namespace Mirror
open Go.Deep
open Go.Proofs.YtepafieckjnkdaaGreatDoor.Stepx (Nodes)
theorem Nodes.below {w w':World} {a:Option Addr} {L:List Stepx.Node} (h:Nodes w a L) (hb:Below w.heap.size w w'):Nodes w' a L:=by
 rcases h with h|⟨b,off,ha,hl,hc⟩
 ·exact .inl h
 ·refine .inr ⟨b,off,ha,Nat.lt_of_lt_of_le hl hb.size,fun i hi=>?_⟩
  obtain ⟨d0,d1,d2,d3⟩:=hc i hi
  exact ⟨(hb.cell (p:=⟨b,_,none⟩) hl).trans d0,(hb.cell (p:=⟨b,_,none⟩) hl).trans d1,(hb.cell (p:=⟨b,_,none⟩) hl).trans d2,d3⟩
def left (m:Int) (s:ByteArray):Int:=if m-s.size<0 then -1 else m-s.size
def Part (W:World) (B len:Nat) (L:List Stepx.Node) (k:Nat):Prop :=
 (∀ i (h:i<L.length),i<k->W.cell? ⟨B,i*3,none⟩=some (.int .i64 L[i].1)/\W.cell? ⟨B,i*3+1,none⟩=some (.int .i64 L[i].2.1)/\W.cell? ⟨B,i*3+2,none⟩=some (.string L[i].2.2)) /\
 (∀ j,j<len*3->∃ u,W.cell? ⟨B,j,none⟩=some u)/\(∀ j,W.frozen? ⟨B,j,none⟩=false)/\B<W.heap.size
theorem Part.kept {W W':World} {B len k:Nat} {L:List Stepx.Node} (h:Part W B len L k) (hb:W'.heap[B]? = W.heap[B]?) (hs:W.heap.size<=W'.heap.size):Part W' B len L k:=by
 have e:∀ o,W'.cell? ⟨B,o,none⟩=W.cell? ⟨B,o,none⟩:=fun o=>World.cell?_of_block (a:=⟨B,o,none⟩) hb
 have f:∀ o,W'.frozen? ⟨B,o,none⟩=W.frozen? ⟨B,o,none⟩:=fun o=>World.frozen?_of_block (a:=⟨B,o,none⟩) hb
 refine ⟨fun i hi hk=>?_,fun j hj=>?_,fun j=>?_,Nat.lt_of_lt_of_le h.2.2.2 hs⟩
 ·rw [e,e,e];exact h.1 i hi hk
 ·rw [e];exact h.2.1 j hj
 ·rw [f];exact h.2.2.1 j
theorem Part.set {W:World} {B len k o:Nat} {L:List Stepx.Node} (h:Part W B len L k) (ho:k*3<=o) (v:Value):Part (W.setCell ⟨B,o,none⟩ v) B len L k:=by
 have ne:∀ i,i ≠ o->(W.setCell ⟨B,o,none⟩ v).cell? ⟨B,i,none⟩=W.cell? ⟨B,i,none⟩:=fun i hi=>World.cell?_setCell_other W _ _ _ (fun e=>hi (by have:=congrArg Addr.off e;exact this.symm))
 refine ⟨fun i hi hk=>?_,fun j hj=>?_,fun j=>?_,?_⟩
 ·rw [ne _ (by omega),ne _ (by omega),ne _ (by omega)];exact h.1 i hi hk
 ·by_cases e:j=o
  ·subst e
   obtain ⟨u,hu⟩:=h.2.1 j hj
   exact ⟨v,World.cell?_setCell_same W _ _ hu⟩
  ·rw [ne j e];exact h.2.1 j hj
 ·rw [World.frozen?_setCell];exact h.2.2.1 j
 ·have:=h.2.2.2;simpa [World.setCell] using this
theorem Part.store {W:World} {B len k:Nat} {L:List Stepx.Node} (h:Part W B len L k) (hk:k<len) (hl:len=L.length) (hkL:k<L.length) :
  Part (((W.setCell ⟨B,k*3,none⟩ (.int .i64 L[k].1)).setCell ⟨B,k*3+1,none⟩ (.int .i64 L[k].2.1)).setCell ⟨B,k*3+2,none⟩ (.string L[k].2.2)) B len L (k+1):=by
 have h1:=h.set (o:=k*3) (Nat.le_refl _) (.int .i64 L[k].1)
 have h2:=h1.set (o:=k*3+1) (by omega) (.int .i64 L[k].2.1)
 have h3:=h2.set (o:=k*3+2) (by omega) (.string L[k].2.2)
 refine ⟨fun i hi hik=>?_,h3.2.1,h3.2.2.1,h3.2.2.2⟩
 by_cases e:i=k
 ·subst e
  obtain ⟨u0,hu0⟩:=h.2.1 (i*3) (by omega)
  obtain ⟨u1,hu1⟩:=h1.2.1 (i*3+1) (by omega)
  obtain ⟨u2,hu2⟩:=h2.2.1 (i*3+2) (by omega)
  refine ⟨?_,?_,World.cell?_setCell_same _ _ _ hu2⟩
  ·rw [World.cell?_setCell_other _ _ _ _ (by simp),World.cell?_setCell_other _ _ _ _ (by simp)]
   exact World.cell?_setCell_same _ _ _ hu0
  ·rw [World.cell?_setCell_other _ _ _ _ (by simp)]
   exact World.cell?_setCell_same _ _ _ hu1
 ·exact h3.1 i hi (by omega)
theorem infoN:(prog.info? 111).map (fun i=>(i.zero,i.size,i.bytes))=some (some (.agg #[.int .i64 0,.int .i64 0,.string ⟨#[]⟩]),3,32):=by kernel_rfl
theorem below_of_drew {w w':World} (h:Below w.drew.heap.size w.drew w'):Below w.heap.size w w':=⟨h.os,h.tape,h.output,h.size,h.block⟩
theorem eqENode_any (k n:Int) (s:ByteArray) (w:World) :
  Calls prog 123 #[.agg #[.int .i64 k,.int .i64 n,.string s],.agg #[.int .i64 k,.int .i64 n,.string s]] w fun e w'=>e=.returned (.bool true)/\Below w.heap.size w w':=by
 go_enter func123,ntmps123
 go_wp2
 go_ret
 exact ⟨rfl,(zAl _ _).alloc (by simp) _⟩
theorem eqENodeS_any (a a':Option Addr) (cap cap':Nat) (L:List Stepx.Node) (w:World) (hN:Nodes w a L) (hN':Nodes w a' L) (hlen:L.length<=1048576) :
  Calls prog 92 #[.slice a L.length cap,.slice a' L.length cap'] w fun e w'=>e=.returned (.bool true)/\Below w.heap.size w w':=by
 obtain ⟨len,hl⟩ : ∃ len,len=L.length:=⟨_,rfl⟩
 have HL:Hid (len=L.length):=hl
 rw [<- hl] at hlen |-
 clear hl
 go_enter func92,ntmps92
 go_wp2
 go_loopw [5] (fun i wr=>∃ k:Nat,k<=len/\i=.int .i64 k/\Hid (Below w.heap.size w wr)) (fun i _=>len-(intOf i).toNat)
 case atStart=>exact ⟨0,Nat.zero_le _,rfl,Below.refl _ _⟩
 case round =>
  obtain ⟨k,hk,rfl,hbel⟩:=hrel
  by_cases hlt:k<len
  ·have hkL:k<L.length:=by have:=HL.out;omega
   rcases hN with hnil|⟨b,off,rfl,hb,hc⟩
   ·exfalso;rw [hnil] at hkL;exact absurd hkL (by simp)
   rcases hN' with hnil|⟨b',off',rfl,hb',hc'⟩
   ·exfalso;rw [hnil] at hkL;exact absurd hkL (by simp)
   obtain ⟨c0,c1,c2⟩ : wr.cell? ⟨b,off+k*3,none⟩=some (.int .i64 L[k].1)/\wr.cell? ⟨b,off+k*3+1,none⟩=some (.int .i64 L[k].2.1)/\wr.cell? ⟨b,off+k*3+2,none⟩=some (.string L[k].2.2):=by
    obtain ⟨d0,d1,d2,d3⟩:=hc k hkL
    exact ⟨(hbel.out.cell (p:=⟨b,_,none⟩) hb).trans d0,(hbel.out.cell (p:=⟨b,_,none⟩) hb).trans d1,(hbel.out.cell (p:=⟨b,_,none⟩) hb).trans d2⟩
   obtain ⟨e0,e1,e2⟩ : wr.cell? ⟨b',off'+k*3,none⟩=some (.int .i64 L[k].1)/\wr.cell? ⟨b',off'+k*3+1,none⟩=some (.int .i64 L[k].2.1)/\wr.cell? ⟨b',off'+k*3+2,none⟩=some (.string L[k].2.2):=by
    obtain ⟨d0,d1,d2,d3⟩:=hc' k hkL
    exact ⟨(hbel.out.cell (p:=⟨b',_,none⟩) hb').trans d0,(hbel.out.cell (p:=⟨b',_,none⟩) hb').trans d1,(hbel.out.cell (p:=⟨b',_,none⟩) hb').trans d2⟩
   clear hc hc'
   generalize L[k].1=kd at c0 e0
   generalize L[k].2.1=n at c1 e1
   generalize L[k].2.2=s at c2 e2
   have k0:(0:Int)<=(k:Int):=by omega
   have k1:(k:Int)<(len:Int):=by omega
   go_wp2_with fail
   go_region_with (go_at_call 123;refine (eqENode_any _ _ _ _).mono ?_;rintro e w1 ⟨rfl,hb1⟩)
   all_goals go_wp2
   all_goals
    go_roundw
    case rel=>exact ⟨k+1,by omega,by go_num,hbel.out.trans ((below_of_drew hb1).mono hbel.out.size)⟩
    case measure=>simp [intOf];omega
  ·clear hN hN'
   go_wp2
   go_ret
   exact ⟨rfl,hbel.out⟩
end Mirror
namespace Optx
open Go.Proofs.YtepafieckjnkdaaGreatDoor.Steps (nodeB stepV)
def opTab:List ByteArray:=[⟨#[110,101,103]⟩,⟨#[110,111,116]⟩,⟨#[104,105,103,104]⟩,⟨#[108,111,119]⟩,⟨#[43]⟩,⟨#[45]⟩,⟨#[42]⟩,⟨#[47]⟩,⟨#[37]⟩,⟨#[38]⟩,⟨#[94]⟩,⟨#[124]⟩,⟨#[60,60]⟩,⟨#[62,62]⟩]
def OpTab (w:World):Prop:=∀ i,i<14->w.cell? ⟨1,i,none⟩=some (.string (opTab.getD i ⟨#[]⟩))
def Pow (w:World):Prop:=Lib.TabIs prog w "internal/strconv.uint64pow10" .u64 Lib.pow10Tab
theorem gPow:prog.globalNamed "internal/strconv.uint64pow10" = some 3:=by kernel_rfl
theorem Pow.below {w w':World} (h:Pow w) (b:Below w.heap.size w w'):Pow w':=by
 unfold Pow Lib.TabIs World.var? at *
 rw [gPow] at h |-
 simp only [Option.bind_some] at h |-
 have hlt:3<w.heap.size:=by
  rcases Nat.lt_or_ge 3 w.heap.size with h'|h'
  ·exact h'
  ·rw [Array.getElem?_eq_none h'] at h;cases h
 rw [b.block _ hlt]
 exact h
theorem OpTab.below {w w':World} (h:OpTab w) (b:Below w.heap.size w w'):OpTab w':=fun i hi =>
 (b.cell (p:=⟨1,i,none⟩) (World.block_lt_of_cell? w ⟨1,0,none⟩ (h 0 (by decide)))).trans (h i hi)
def opW (kd:Int):ByteArray:=opTab.getD (kd-4).toNat ⟨#[]⟩
def decW (n:Int):ByteArray:=⟨(Lib.itoa n).toArray⟩
def wordB (x:Stepx.Node):ByteArray:=if x.1=1 then decW x.2.1 else if x.1=2 then x.2.2 else if x.1=3 then ⟨#[35]⟩ ++ x.2.2 else opW x.1
theorem as00 (n:Int) (w:World):(Instr.typeAssert (.iface 131 (.agg #[.int .i64 n])) 97 131 true).run prog w=.ok (.tuple #[.agg #[.int .i64 n],.bool true]) w:=by kernel_rfl
theorem as10 (s:ByteArray) (w:World):(Instr.typeAssert (.iface 133 (.agg #[.string s])) 97 131 true).run prog w=.ok (.tuple #[.agg #[.int .i64 0],.bool false]) w:=by kernel_rfl
theorem as11 (s:ByteArray) (w:World):(Instr.typeAssert (.iface 133 (.agg #[.string s])) 97 133 true).run prog w=.ok (.tuple #[.agg #[.string s],.bool true]) w:=by kernel_rfl
theorem as20 (s:ByteArray) (w:World):(Instr.typeAssert (.iface 134 (.agg #[.string s])) 97 131 true).run prog w=.ok (.tuple #[.agg #[.int .i64 0],.bool false]) w:=by kernel_rfl
theorem as21 (s:ByteArray) (w:World):(Instr.typeAssert (.iface 134 (.agg #[.string s])) 97 133 true).run prog w=.ok (.tuple #[.agg #[.string ⟨#[]⟩],.bool false]) w:=by kernel_rfl
theorem as22 (s:ByteArray) (w:World):(Instr.typeAssert (.iface 134 (.agg #[.string s])) 97 134 true).run prog w=.ok (.tuple #[.agg #[.string s],.bool true]) w:=by kernel_rfl
theorem as30 (n:Int) (w:World):(Instr.typeAssert (.iface 136 (.agg #[.int .i64 n])) 97 131 true).run prog w=.ok (.tuple #[.agg #[.int .i64 0],.bool false]) w:=by kernel_rfl
theorem as31 (n:Int) (w:World):(Instr.typeAssert (.iface 136 (.agg #[.int .i64 n])) 97 133 true).run prog w=.ok (.tuple #[.agg #[.string ⟨#[]⟩],.bool false]) w:=by kernel_rfl
theorem as32 (n:Int) (w:World):(Instr.typeAssert (.iface 136 (.agg #[.int .i64 n])) 97 134 true).run prog w=.ok (.tuple #[.agg #[.string ⟨#[]⟩],.bool false]) w:=by kernel_rfl
theorem as33 (n:Int) (w:World):(Instr.typeAssert (.iface 136 (.agg #[.int .i64 n])) 97 136 true).run prog w=.ok (.tuple #[.agg #[.int .i64 n],.bool true]) w:=by kernel_rfl
theorem as40 (n:Int) (w:World):(Instr.typeAssert (.iface 138 (.agg #[.int .i64 n])) 97 131 true).run prog w=.ok (.tuple #[.agg #[.int .i64 0],.bool false]) w:=by kernel_rfl
theorem as41 (n:Int) (w:World):(Instr.typeAssert (.iface 138 (.agg #[.int .i64 n])) 97 133 true).run prog w=.ok (.tuple #[.agg #[.string ⟨#[]⟩],.bool false]) w:=by kernel_rfl
theorem as42 (n:Int) (w:World):(Instr.typeAssert (.iface 138 (.agg #[.int .i64 n])) 97 134 true).run prog w=.ok (.tuple #[.agg #[.string ⟨#[]⟩],.bool false]) w:=by kernel_rfl
theorem as43 (n:Int) (w:World):(Instr.typeAssert (.iface 138 (.agg #[.int .i64 n])) 97 136 true).run prog w=.ok (.tuple #[.agg #[.int .i64 0],.bool false]) w:=by kernel_rfl
theorem as44 (n:Int) (w:World):(Instr.typeAssert (.iface 138 (.agg #[.int .i64 n])) 97 138 true).run prog w=.ok (.tuple #[.agg #[.int .i64 n],.bool true]) w:=by kernel_rfl
theorem text1 (n:Int) (w:World) (h0:0<=n) (h1:n<=65535) (hP:Pow w) :
  Calls prog 64 #[.iface 131 (.agg #[.int .i64 n])] w fun e w'=>e=.returned (.string (decW n))/\Below w.heap.size w w':=by
 have HP:Hid (∀ o,Pow (w.alloc o)):=fun o=>hP.below (zAl _ _)
 have c:∀ W,Pow W->Calls prog 62 #[.int .i64 n,.int .i64 10] W fun e w'=>e=.returned (.string (decW n))/\Below W.heap.size W w':=fun W h =>
  (Tryz.strconv_FormatInt_10 n (by omega) (by omega) W h).mono (by
   rintro e w' ⟨rfl,k,os,rfl⟩
   exact ⟨rfl,Lib.below_grow _ _ (Nat.le_refl _) k os⟩)
 clear hP
 have a0:=as00 n
 go_enter func64,ntmps64
 go_wp2_with fail
 refine (c _ (HP.out _)).mono ?_
 rintro e w1 ⟨rfl,b1⟩
 have B1:Hid (Below w.heap.size w w1):=((Below.refl w.heap.size w).alloc (Nat.le_refl _) _).trans (b1.mono (by simp))
 clear b1
 go_wp2
 go_ret
 exact ⟨rfl,B1.out⟩
theorem text2 (s:ByteArray) (w:World) :
  Calls prog 64 #[.iface 133 (.agg #[.string s])] w fun e w'=>e=.returned (.string s)/\Below w.heap.size w w':=by
 have a0:=as10 s
 have a1:=as11 s
 go_enter func64,ntmps64
 go_wp2
 go_ret
 exact ⟨rfl,zAl _ _⟩
theorem text3 (s:ByteArray) (w:World) (hs:s.size<=100) :
  Calls prog 64 #[.iface 134 (.agg #[.string s])] w fun e w'=>e=.returned (.string (⟨#[35]⟩ ++ s))/\Below w.heap.size w w':=by
 have a0:=as20 s
 have a1:=as21 s
 have a2:=as22 s
 go_enter func64,ntmps64
 go_wp2
 go_ret
 exact ⟨rfl,zAl _ _⟩
theorem textOne (n:Int) (w:World) (k0:4<=n) (k1:n<=7) (hT:OpTab w) :
  Calls prog 64 #[.iface 136 (.agg #[.int .i64 n])] w fun e w'=>e=.returned (.string (opW n))/\Below w.heap.size w w':=by
 obtain ⟨j,hj⟩ : ∃ j:Nat,n-4=(j:Int):=⟨(n-4).toNat,by omega⟩
 have hj14:j<14:=by omega
 have hc0:=hT j hj14
 have hc:∀ o,(w.alloc o).cell? ⟨1,j,none⟩=some (.string (opW n)):=fun o=>by
  have e:opW n=opTab.getD j ⟨#[]⟩:=by unfold opW;rw [hj];rfl
  rw [e]
  exact (World.cell?_of_block (a:=⟨1,j,none⟩) (Below.heap_alloc _ _ _ (World.block_lt_of_cell? w ⟨1,j,none⟩ hc0))).trans hc0
 have j0:(0:Int)<=(j:Int):=by omega
 have j1:(j:Int)<14:=by omega
 generalize opW n=R at hc |-
 clear hT hc0
 have a0:=as30 n
 have a1:=as31 n
 have a2:=as32 n
 have a3:=as33 n
 go_enter func64,ntmps64
 go_wp2_with fail
 first
  | (go_ret;exact ⟨rfl,zAl _ _⟩)
  | (go_quiet (fail);go_wp2;go_ret;exact ⟨rfl,⟨rfl,rfl,rfl,by simp,fun k hk=>Below.heap_alloc _ _ k hk⟩⟩)
theorem textTwo (n:Int) (w:World) (k0:8<=n) (k1:n<=17) (hT:OpTab w) :
  Calls prog 64 #[.iface 138 (.agg #[.int .i64 n])] w fun e w'=>e=.returned (.string (opW n))/\Below w.heap.size w w':=by
 obtain ⟨j,hj⟩ : ∃ j:Nat,n-4=(j:Int):=⟨(n-4).toNat,by omega⟩
 have hj14:j<14:=by omega
 have hc0:=hT j hj14
 have hc:∀ o,(w.alloc o).cell? ⟨1,j,none⟩=some (.string (opW n)):=fun o=>by
  have e:opW n=opTab.getD j ⟨#[]⟩:=by unfold opW;rw [hj];rfl
  rw [e]
  exact (World.cell?_of_block (a:=⟨1,j,none⟩) (Below.heap_alloc _ _ _ (World.block_lt_of_cell? w ⟨1,j,none⟩ hc0))).trans hc0
 have j0:(0:Int)<=(j:Int):=by omega
 have j1:(j:Int)<14:=by omega
 generalize opW n=R at hc |-
 clear hT hc0
 have a0:=as40 n
 have a1:=as41 n
 have a2:=as42 n
 have a3:=as43 n
 have a4:=as44 n
 go_enter func64,ntmps64
 go_wp2_with fail
 first
  | (go_ret;exact ⟨rfl,zAl _ _⟩)
  | (go_quiet (fail);go_wp2;go_ret;exact ⟨rfl,⟨rfl,rfl,rfl,by simp,fun k hk=>Below.heap_alloc _ _ k hk⟩⟩)
end Optx
namespace Extx
open Go.Proofs.YtepafieckjnkdaaGreatDoor.Stepx (Nodes takes run exprB StepsRow)
open Go.Proofs.YtepafieckjnkdaaGreatDoor.Steps (nodeB stepV)
open Optx
def NodeOk (x:Stepx.Node):Prop:=nodeB x.1 x.2.1 x.2.2=true
def words (L:List Stepx.Node):List ByteArray:=L.map wordB
theorem words_get {L:List Stepx.Node} {k:Nat} (h:k<(words L).length) (h':k<L.length):(words L)[k]=wordB L[k]:=List.getElem_map ..
def exprT (L:List Stepx.Node):ByteArray:=if exprB L=true then ⟨(Lib.join ((words L).map (·.data.toList)) [32]).toArray⟩ else ⟨#[]⟩
theorem kinds_of {kd n:Int} {s:ByteArray} (hn:nodeB kd n s=true):kd=1 \/ kd=2 \/ kd=3 \/ (4<=kd/\kd<=7) \/ (8<=kd/\kd<=17):=by
 unfold nodeB at hn
 by_cases e1:kd=1
 ·exact .inl e1
 rw [if_neg e1] at hn
 by_cases e2:kd=2 \/ kd=3
 ·omega
 rw [if_neg e2] at hn
 by_cases e3:4<=kd/\kd<=17
 ·omega
 rw [if_neg e3] at hn;cases hn
theorem word_of {n:Int} {s:ByteArray} (h:nodeB 1 n s=true):0<=n/\n<=65535:=by
 unfold nodeB at h;rw [if_pos rfl] at h
 simp only [Bool.and_eq_true] at h
 exact of_decide_eq_true h.1
theorem name_of {kd n:Int} {s:ByteArray} (h:nodeB kd n s=true) (hk:kd=2 \/ kd=3):s.size<=16:=by
 unfold nodeB at h
 rw [if_neg (by omega),if_pos hk] at h
 simp only [Bool.and_eq_true] at h
 exact (of_decide_eq_true h.2).2.1
theorem itoa_len {n:Int} (h0:0<=n) (h1:n<=65535):(Lib.itoa n).length<=5:=by
 unfold Lib.itoa
 rw [if_neg (by omega)]
 have key:∀ (k u:Nat),u<10 ^ (k+1)->(Lib.decDigits u).length<=k+1:=by
  intro k
  induction k with
  | zero=>intro u hu;rw [Lib.decDigits,dif_pos (by omega)];exact Nat.le_refl _
  | succ k ih =>
   intro u hu
   rw [Lib.decDigits]
   split
   ·simp
   ·rw [List.length_append]
    have:=ih (u / 10) (by rw [Nat.pow_succ] at hu;omega)
    simp;omega
 exact key 4 _ (by omega)
theorem op_len (kd:Int):(opW kd).size<=4:=by
 unfold opW
 have:∀ i:Nat,(opTab.getD i ⟨#[]⟩).size<=4:=by
  intro i
  by_cases h:i<14
  ·exact (by decide:∀ j,j<14->(opTab.getD j ⟨#[]⟩).size<=4) i h
  ·rw [List.getD_eq_getElem?_getD,List.getElem?_eq_none (by show 14<=i;omega)];decide
 exact this _
theorem word_len {x:Stepx.Node} (h:NodeOk x):(wordB x).size<=20:=by
 obtain ⟨kd,n,s⟩:=x
 have h:nodeB kd n s=true:=h
 unfold wordB
 simp only
 split
 ·rename_i e;subst e
  have hw:=word_of h
  show ((Lib.itoa n).toArray).size<=20
  rw [List.size_toArray]
  have:=itoa_len hw.1 hw.2;omega
 split
 ·rename_i e;have:=name_of h (.inl e);omega
 split
 ·rename_i e;have:=name_of h (.inr e);rw [ByteArray.size_append];show 1+_<=_;omega
 ·have:=op_len kd;omega
theorem nodes_ok:∀ {L:List Stepx.Node} {v r:Int},run v L=some r->∀ x ∈ L,NodeOk x
 | [],_,_,_,x,hx=>by cases hx
 | y :: L,v,r,h,x,hx=>by
  rw [run] at h
  split at h
  ·rename_i hc
   rcases List.mem_cons.1 hx with rfl|hx
   ·exact hc.1
   ·exact nodes_ok h x hx
  ·cases h
theorem step_one {kd n:Int} {s:ByteArray} (h4:4<=kd) (h7:kd<=7):stepV kd n s=.iface 136 (.agg #[.int .i64 kd]):=by
 unfold stepV;rw [if_neg (by omega),if_neg (by omega),if_neg (by omega),if_pos ⟨h4,h7⟩]
theorem step_two {kd n:Int} {s:ByteArray} (h8:8<=kd) (h17:kd<=17):stepV kd n s=.iface 138 (.agg #[.int .i64 kd]):=by
 unfold stepV;rw [if_neg (by omega),if_neg (by omega),if_neg (by omega),if_neg (by omega),if_pos ⟨h8,h17⟩]
theorem word_op {kd n:Int} {s:ByteArray} (h4:4<=kd):wordB (kd,n,s)=opW kd:=by
 unfold wordB;simp only;rw [if_neg (by omega),if_neg (by omega),if_neg (by omega)]
theorem stepText_any (x:Stepx.Node) (w:World) (h:NodeOk x) (hT:OpTab w) (hP:Pow w) :
  Calls prog 64 #[stepV x.1 x.2.1 x.2.2] w fun e w'=>e=.returned (.string (wordB x))/\Below w.heap.size w w':=by
 obtain ⟨kd,n,s⟩:=x
 have h:nodeB kd n s=true:=h
 show Calls prog 64 #[stepV kd n s] w _
 rcases kinds_of h with rfl|rfl|rfl|⟨k4,k7⟩|⟨k8,k17⟩
 ·have hw:=word_of h
  exact text1 n w hw.1 hw.2 hP
 ·exact text2 s w
 ·exact text3 s w (by have:=name_of h (.inr rfl);omega)
 ·rw [step_one k4 k7,word_op k4];exact textOne kd w k4 k7 hT
 ·rw [step_two k8 k17,word_op (by omega)];exact textTwo kd w k8 k17 hT
theorem join_len:∀ (X:List ByteArray),(∀ x ∈ X,x.size<=20)->(Lib.join (X.map (·.data.toList)) [32]).length<=21*X.length
 | [],_=>Nat.zero_le _
 | [x],h=>by
  rw [List.map_cons,List.map_nil,Lib.join_one]
  have:=h x (List.mem_cons_self ..)
  rw [Array.length_toList];show x.size<=21;omega
 | x :: y :: X,h=>by
  have ih:=join_len (y :: X) (fun z hz=>h z (List.mem_cons_of_mem _ hz))
  have hx:=h x (List.mem_cons_self ..)
  have e:Lib.join ((x :: y :: X).map (·.data.toList)) [32]=x.data.toList ++ ([32] ++ Lib.join ((y :: X).map (·.data.toList)) [32]):=by
   unfold Lib.join;simp [List.intercalate]
  rw [e,List.length_append,List.length_append,Array.length_toList]
  show x.size+(1+_)<=_
  simp only [List.length_cons] at ih |-
  omega
theorem own_below {w w1:World} {base n:Nat} {v:Value} {xs:List Value} (h:w.ownsRow base 9 1 v n xs) (hb:Below w.heap.size w w1):w1.ownsRow base 9 1 v n xs :=
 h.kept (row:=none) ⟨hb.os,hb.tape,hb.output,hb.size,fun k hk _=>hb.block k hk⟩ (by cases hv:Value.ownBlock v <;> simp)
theorem implText_any (a:Option Addr) (cap:Nat) (L:List Stepx.Node) (w:World) (hN:Nodes w a L) (hlen:L.length<=1048576) (hT:OpTab w) (hP:Pow w) :
  Calls prog 26 #[.slice a L.length cap] w fun e w'=>e=.returned (.string (exprT L))/\Below w.heap.size w w':=by
 obtain ⟨i0,hi,hz0,hz1,hz2⟩:=info_parts (show (prog.info? 9).map (fun i=>(i.zero,i.size,i.bytes))=some (some (.string ⟨#[]⟩),1,16) by kernel_rfl)
 have cs:=Stepx.stepsOf_any a cap L w hN hlen
 have HT:Hid (OpTab w/\Pow w):=⟨hT,hP⟩
 clear hN hT hP
 cases hx:exprB L with
 | false =>
  have e1:exprT L=⟨#[]⟩:=by unfold exprT;rw [hx];rfl
  rw [e1]
  rw [hx] at cs
  generalize L.length=len at *
  go_enter func26,ntmps26
  go_wp2_with fail
  refine cs.mono ?_
  rintro e w1 ⟨⟨sv,rfl,hrow⟩,b1⟩
  have B1:Hid (Below w.heap.size w w1):=b1
  clear hrow b1 cs
  go_wp2
  go_ret
  exact ⟨rfl,B1.out⟩
 | true =>
  have e1:exprT L=⟨(Lib.join ((words L).map (·.data.toList)) [32]).toArray⟩:=by unfold exprT;rw [if_pos hx]
  rw [e1]
  rw [hx] at cs
  obtain ⟨R,hR⟩ : ∃ R:ByteArray,R=⟨(Lib.join ((words L).map (·.data.toList)) [32]).toArray⟩:=⟨_,rfl⟩
  have HR:Hid (R=⟨(Lib.join ((words L).map (·.data.toList)) [32]).toArray⟩):=hR
  rw [<- hR]
  clear hR e1
  have hrun:run 0 L=some 1:=by
   have:=hx
   unfold exprB at this
   simp at this
   exact this.2
  have hl30:L.length<=30:=by
   have:=hx
   unfold exprB at this
   simp at this
   exact this.1
  have HOK:Hid (∀ x ∈ L,NodeOk x):=nodes_ok hrun
  go_enter func26,ntmps26
  go_wp2_with fail
  refine cs.mono ?_
  rintro e w1 ⟨⟨sv,rfl,hrow⟩,b1⟩
  have ROW:Hid (w1.ownsRow w.heap.size 97 1 sv L.length (L.map fun x=>stepV x.1 x.2.1 x.2.2)):=hrow rfl
  have B1:Hid (Below w.heap.size w w1):=b1
  clear hrow b1 cs
  obtain ⟨gs,scap,hsv,SC,hgl⟩ : ∃ gs scap,sv=.slice (some ⟨gs,0,none⟩) L.length scap/\(∀ k (h:k<L.length),w1.cell? ⟨gs,k,none⟩=some (stepV L[k].1 L[k].2.1 L[k].2.2))/\gs<w1.heap.size:=by
   rcases ROW.out.2 with ⟨hv,h0⟩|⟨g,c,cur,hv,_⟩
   ·exfalso
    rw [List.length_eq_zero_iff.1 h0] at hrun
    cases hrun
   ·refine ⟨g,c,hv,fun k h=>?_,(ROW.out.lt g (by rw [hv];rfl)).2⟩
    have:=ROW.out
    rw [hv] at this
    exact (this.cellAt k (by omega)).trans (by simp [h])
  subst hsv
  have HSC:Hid (∀ k (h:k<L.length),w1.cell? ⟨gs,k,none⟩=some (stepV L[k].1 L[k].2.1 L[k].2.2)):=SC
  have hpos:Hid (0<L.length):=by
   show 0<L.length
   rcases Nat.eq_zero_or_pos L.length with h|h
   ·rw [List.length_eq_zero_iff.1 h] at hrun;cases hrun
   ·exact h
  obtain ⟨len,hl⟩ : ∃ len,len=L.length:=⟨_,rfl⟩
  have HL:Hid (len=L.length):=hl
  rw [<- hl] at hl30 |-
  clear hl hrun SC hx hlen ROW
  have HWL:Hid ((words L).length=len):=by show _=_;unfold words;rw [List.length_map,HL.out]
  go_wp2_with fail
  go_loopw [5,17] (fun x i wr=>∃ (k:Nat) (wo:Option Addr) (wc:Nat),k<=len/\i=.int .i64 k/\x=.slice wo k wc/\Hid (wr.ownsRow w1.heap.size 9 1 (.slice wo k wc) k (((words L).take k).map Value.string))/\Hid (Below w1.heap.size w1 wr)) (fun _ i _=>len-(intOf i).toNat)
  case atStart=>exact ⟨0,none,0,Nat.zero_le _,rfl,rfl,World.ownsRow_nil _ _ _ _,Below.refl _ _⟩
  case round =>
   obtain ⟨k,wo,wc,hk,rfl,rfl,hown,hbel⟩:=hrel
   have BW:Hid (Below w.heap.size w wr):=B1.out.trans (hbel.out.mono B1.out.size)
   by_cases hlt:k<len
   ·have hkL:k<L.length:=by have:=HL.out;omega
    have c_s:=(hbel.out.cell (p:=⟨gs,k,none⟩) hgl).trans (HSC.out k hkL)
    have c:=fun W hT hP=>stepText_any L[k] W (HOK.out _ (List.getElem_mem hkL)) hT hP
    have HTk:Hid (((words L).take (k+1)).map Value.string=((words L).take k).map Value.string ++ [.string (wordB L[k])]):=by
     show _=_
     have hk2:k<(words L).length:=by rw [HWL.out];exact hlt
     have hw:=words_get hk2 hkL
     rw [List.take_succ_eq_append_getElem hk2,List.map_append,hw];rfl
    generalize stepV L[k].1 L[k].2.1 L[k].2.2=SV at c_s c
    generalize wordB L[k]=wd at c HTk
    go_wp2_with (first
     | (go_at_call 64;refine (c _ (HT.out.1.below BW.out) (HT.out.2.below BW.out)).mono ?_;rintro e w3 ⟨rfl,b3⟩;have V3:Hid (w3.ownsRow w1.heap.size 9 1 (.slice wo k wc) k (((words L).take k).map Value.string)):=own_below hown.out b3;have B3:Hid (Below w1.heap.size w1 w3):=hbel.out.trans (b3.mono hbel.out.size);clear b3)
     | (at_builtin;refine wpList_append_own _ rfl _ _ 85 rfl w1.heap.size 9 i0 (.string ⟨#[]⟩) 1 16 underlying85 hi hz0 hz1 hz2 rfl (by decide) (.slice wo k wc) k (((words L).take k).map Value.string) rfl (V3.out.alloc _) ⟨w3.heap.size,0,none⟩ 1 1 [.string wd] rfl rfl (cell_one_new _ _ _) (by intro u hu;simp at hu;subst hu;rfl) (by unfold maxLen;omega) (by omega) (by have:=B3.out.size;simp;omega) ?_)
     | go_in)
    all_goals
     intro v' w4 hown' hgrow _
     have OW:Hid (w4.ownsRow w1.heap.size 9 1 v' (k+1) (((words L).take (k+1)).map Value.string)):=by
      show World.ownsRow _ _ _ _ _ _ _
      rw [HTk.out,List.map_take];exact hown'
     have BW4:Hid (Below w1.heap.size w1 w4):=(B3.out.alloc B3.out.size _).grown hgrow (by have:=B3.out.size;simp;omega) (fun q hq=>(V3.out.lt q hq).1)
     obtain ⟨ao',cap',rfl⟩ : ∃ ao' cap',v'=.slice ao' (k+1) cap':=by
      rcases hown'.2 with ⟨_,h⟩|⟨g',c',cur',hv',_⟩
      ·omega
      ·exact ⟨_,_,hv'⟩
     clear hown' hgrow V3 B3
     go_wp2_with fail
     go_roundw
     case rel=>exact ⟨k+1,ao',cap',by omega,by go_num,rfl,OW.out,BW4.out⟩
     case measure=>simp [intOf];omega
   ·have e:k=len:=by omega
    subst e
    have hkp:0<k:=by rw [HL.out];exact hpos.out
    have hall:(words L).take k=words L:=by rw [<- HWL.out];exact List.take_length
    obtain ⟨g,rfl,hwc⟩ : ∃ g,wo=some ⟨g,0,none⟩/\k<=wc:=by
     rcases hown.out.2 with ⟨hv,h0⟩|⟨g',c',cur',hv',_,_,hn,_⟩
     ·omega
     ·cases hv';exact ⟨_,rfl,hn⟩
    have own2:=hown.out
    rw [hall] at own2
    have cj:=Tryz.strings_Join g 0 wc (words L) ⟨#[32]⟩ wr (fun j x hj=>by
     have hj':j<k:=by rw [<- HWL.out];exact (List.getElem?_eq_some_iff.1 hj).1
     rw [Nat.zero_add,own2.cellAt j (by omega)]
     simp [hj]) (own2.lt g rfl).2 (by rw [HWL.out];omega) (by rw [HWL.out];exact hwc) (by
      have:=join_len (words L) (fun x hx=>by
       unfold words at hx
       obtain ⟨y,hy,rfl⟩:=List.mem_map.1 hx
       exact word_len (HOK.out y hy))
      rw [HWL.out] at this
      show (Lib.join ((words L).map (·.data.toList)) [32]).length<=_
      omega)
    rw [HWL.out] at cj
    have cj2:Calls prog 60 #[.slice (some ⟨g,0,none⟩) k wc,.string ⟨#[32]⟩] wr fun e w'=>e=.returned (.string R)/\Below wr.heap.size wr w':=by rw [HR.out];exact cj
    clear cj own2 hown hall
    go_wp2_with fail
    refine cj2.mono ?_
    rintro e w5 ⟨rfl,b5⟩
    have B5:Hid (Below w.heap.size w w5):=BW.out.trans (b5.mono BW.out.size)
    clear b5 cj2
    go_wp2
    go_ret
    exact ⟨rfl,B5.out⟩
end Extx
namespace Rwor
open Go.Deep
open Txts (Texts infoS)
open Fill (numAt numAt_of)
open Names (ret_bool empty_yes empty_no)
open Cuts
theorem cutB_le (s:ByteArray) (c:Int):(cutB s c).size<=s.size:=by
 unfold cutB;split
 ·rw [ByteArray.size_extract];omega
 ·exact Nat.zero_le _
theorem cutA_all {s:ByteArray} {c:Int} (h:cutF s c=false):cutA s c=s:=by unfold cutA;rw [h];rfl
def wordsL:Nat->ByteArray->List ByteArray
 | 0,s=>[s]
 | r+1,s=>if 1<=r/\cutF s 32=true then cutA s 32 :: wordsL r (cutB s 32) else [s]
theorem words_succ (r:Nat) (s:ByteArray):wordsL (r+1) s=if 1<=r/\cutF s 32=true then cutA s 32 :: wordsL r (cutB s 32) else [s]:=rfl
theorem words_cut {r:Nat} {s:ByteArray} (h:1<=r) (D:List ByteArray):D ++ wordsL (r+1) s=(D ++ [cutA s 32]) ++ (if cutF s 32=true then wordsL r (cutB s 32) else []):=by
 rw [words_succ]
 cases hf:cutF s 32
 ·rw [if_neg (by simp),if_neg (by simp),cutA_all hf];simp
 ·rw [if_pos ⟨h,rfl⟩,if_pos rfl];simp
theorem words_last {s:ByteArray}:wordsL 1 s=[s]:=by rw [show (1:Nat)=0+1 from rfl,words_succ,if_neg (fun h=>absurd h.1 (by decide))]
theorem words_len (r:Nat):∀ s,(wordsL (r+1) s).length<=r+1:=by
 induction r with
 | zero=>intro s;rw [words_last];simp
 | succ r ih =>
  intro s
  rw [words_succ]
  split
  ·have:=ih (cutB s 32);simp only [List.length_cons];omega
  ·simp
theorem own_below {w w1:World} {base:Nat} {e:TypeId} {size:Nat} {v:Value} {n:Nat} {xs:List Value} (h:w.ownsRow base e size v n xs) (hb:Below w.heap.size w w1):w1.ownsRow base e size v n xs :=
 h.kept (row:=none) ⟨hb.os,hb.tape,hb.output,hb.size,fun k hk _=>hb.block k hk⟩ (by cases hv:Value.ownBlock v <;> simp)
def Owned (w w':World) (v:Value) (L:List ByteArray):Prop:=w'.ownsRow w.heap.size 9 1 v L.length (L.map Value.string)/\Below w.heap.size w w'
theorem own_snoc {w:World} {base n:Nat} {v:Value} {D:List ByteArray} {x:ByteArray} (h:w.ownsRow base 9 1 v (n+1) (D.map Value.string ++ [.string x])) (hn:n=D.length):w.ownsRow base 9 1 v (D ++ [x]).length ((D ++ [x]).map Value.string):=by
 rw [List.map_append,List.length_append];rw [hn] at h;exact h
theorem own_slice {w:World} {base n:Nat} {v:Value} {xs:List Value} (h:w.ownsRow base 9 1 v n xs):∃ po cap,v=.slice po n cap:=by
 rcases h.2 with ⟨hv,hn⟩|⟨g,cap,cur,hv,_⟩
 ·exact ⟨none,0,by rw [hv,hn]⟩
 ·exact ⟨_,_,hv⟩
def msr:Value->Value->Nat
 | .bool true,.string y=>y.size+1
 | _,_=>0
theorem specWords_any (M:Nat) (hM:M<100) (h1:1<=M) (s:ByteArray) (w:World) (hs:s.size<=1048576) :
  Calls prog 86 #[.string s,.int .i64 (M:Int)] w fun e w'=>∃ v,e=.returned v/\Owned w w' v (wordsL M s):=by
 obtain ⟨i0,hi,hz0,hz1,hz2⟩:=info_parts infoS
 have own0:Hid ((w.alloc (.cells #[] 9)).ownsRow w.heap.size 9 1 (.slice (some ⟨w.heap.size,0,none⟩) 0 0) 0 []):=World.ownsRow_lit w #[] 0 (Nat.le_refl _) (Nat.zero_le _) rfl
 have bel0:Hid (Below w.heap.size w (w.alloc (.cells #[] 9))):=zAl _ _
 obtain ⟨L,hL⟩ : ∃ L,L=wordsL M s:=⟨_,rfl⟩
 rw [<- hL]
 have HE:Hid (L=wordsL M s):=hL
 clear hL
 go_enter func86,ntmps86
 go_wp2
 go_loopw [0,5,6] (fun y v f wr=>∃ (D:List ByteArray) (y':ByteArray) (f':Bool) (r:Nat),y=.string y'/\f=.bool f'/\y'.size<=s.size/\D.length+r=M/\Hid (f'=true->1<=r)/\Hid (L=D ++ (if f'=true then wordsL r y' else []))/\Hid (wr.ownsRow w.heap.size 9 1 v D.length (D.map Value.string))/\Hid (Below w.heap.size w wr)) (fun y _ f _=>msr f y)
 case atStart=>exact ⟨[],s,true,M,rfl,rfl,Nat.le_refl _,by simp,fun _=>h1,HE.out,own0.out,bel0.out⟩
 case round =>
  obtain ⟨D,y,f,r,rfl,rfl,hy,hdr,hm,hr,hown,hbel⟩:=hrel
  clear HE own0 bel0
  cases f
  ·have HR:Hid (L=D):=(show L=D from by have:=hr.out;rw [if_neg (by decide),List.append_nil] at this;exact this)
   clear hr hm
   go_wp2
   go_ret
   exact ⟨_,rfl,by rw [HR.out];exact ⟨hown.out,hbel.out⟩⟩
  ·have hr1:=hm.out rfl
   obtain ⟨po,cap,rfl⟩:=own_slice hown.out
   have p1:IntKind.i64.wrap ((D.length:Int)+1)=(D.length:Int)+1:=by rw [IntKind.wrap_i64];omega
   by_cases hc:2<=r
   ·have HR:Hid (L=(D ++ [cutA y 32]) ++ (if cutF y 32=true then wordsL (r-1) (cutB y 32) else [])):=(show L=_ from by
     have:=hr.out
     rw [if_pos rfl,show r=(r-1)+1 by omega,words_cut (by omega)] at this
     exact this)
    have e0:decide ((D.length:Int)+1<(M:Int))=true:=decide_eq_true (by omega)
    have e0n:decide (D.length+1<M)=true:=decide_eq_true (by omega)
    have cp:=fun w=>l1Cut_any y 32 w (by omega)
    have hB:cutF y 32=true->(cutB y 32).size<y.size:=cutB_lt
    obtain ⟨x1,hx1⟩ : ∃ x,x=cutA y 32:=⟨_,rfl⟩
    obtain ⟨y1,hy1'⟩ : ∃ y',y'=cutB y 32:=⟨_,rfl⟩
    obtain ⟨f1,hf1⟩ : ∃ f,f=cutF y 32:=⟨_,rfl⟩
    have hy2:y1.size<=y.size:=by rw [hy1'];exact cutB_le _ _
    rw [<- hx1,<- hy1',<- hf1] at HR cp
    rw [<- hf1,<- hy1'] at hB
    have HB:=(show Hid _ from hB)
    clear hB hx1 hy1' hf1 hm hr
    go_wp2_with fail
    refine (cp _).mono ?_
    rintro e w1 ⟨rfl,n1,hw1⟩
    have b1:Hid (Below wr.heap.size wr w1):=by rw [hw1];exact below_drewN zRf _
    have own1:Hid (w1.ownsRow w.heap.size 9 1 (.slice po D.length cap) D.length (D.map Value.string)):=own_below hown.out b1.out
    have bel1:Hid (Below w.heap.size w w1):=hbel.out.trans (b1.out.mono hbel.out.size)
    clear hw1 cp hown hbel b1
    have hlt2:=own1.out.lt
    go_wp2_with (first|(at_builtin;refine wpList_append_own _ rfl (.tmp 22) (.tmp 24) 85 rfl w.heap.size 9 i0 (.string ⟨#[]⟩) 1 16 underlying85 hi hz0 hz1 hz2 rfl (by decide) _ _ _ rfl (own1.out.alloc _) ⟨w1.heap.size,0,none⟩ 1 1 [.string x1] rfl rfl (cell_one_new _ _ _) (by intro u hu;simp at hu;subst hu;rfl) (by unfold maxLen;omega) (by omega) (by have:=bel1.out.size;simp;omega) ?_;intro v' w2 hown' hgrow _)|go_in)
    go_wp2
    go_roundw
    case rel=>exact ⟨D ++ [x1],y1,f1,r-1,rfl,rfl,by omega,by simp;omega,fun h=>(show 1<=r-1 by omega),HR.out,own_snoc hown' rfl,(bel1.out.alloc bel1.out.size _).grown hgrow (by have:=bel1.out.size;simp;omega) (fun j hj=>(hlt2 j hj).1)⟩
    case measure=>cases f1 <;> simp [msr];have:=HB.out rfl;omega
   ·have h2:r=1:=by omega
    have HR:Hid (L=(D ++ [y]) ++ (if false=true then wordsL (r-1) y else [])):=(show L=_ from by
     have:=hr.out
     rw [if_pos rfl,h2,words_last] at this
     rw [this];simp)
    have e0:decide ((D.length:Int)+1<(M:Int))=false:=decide_eq_false (by omega)
    have e0n:decide (D.length+1<M)=false:=decide_eq_false (by omega)
    clear hm hr
    have hlt2:=hown.out.lt
    go_wp2_with (first|(at_builtin;refine wpList_append_own _ rfl (.tmp 22) (.tmp 24) 85 rfl w.heap.size 9 i0 (.string ⟨#[]⟩) 1 16 underlying85 hi hz0 hz1 hz2 rfl (by decide) _ _ _ rfl (hown.out.alloc _) ⟨wr.heap.size,0,none⟩ 1 1 [.string y] rfl rfl (cell_one_new _ _ _) (by intro u hu;simp at hu;subst hu;rfl) (by unfold maxLen;omega) (by omega) (by have:=hbel.out.size;simp;omega) ?_;intro v' w2 hown' hgrow _)|go_in)
    go_wp2
    go_roundw
    case rel=>exact ⟨D ++ [y],y,false,r-1,rfl,rfl,hy,by simp;omega,fun h=>absurd h (by decide),HR.out,own_snoc hown' rfl,(hbel.out.alloc hbel.out.size _).grown hgrow (by have:=hbel.out.size;simp;omega) (fun j hj=>(hlt2 j hj).1)⟩
    case measure=>simp [msr]
end Rwor
namespace Rlas
open Go.Deep
theorem last_none (db:Nat) (po:Option Addr) (cap:Nat) (w:World) (h0:w.cell? ⟨db,0,none⟩=some (.slice po 0 cap)) :
  Calls prog 107 #[.pointer (some ⟨db,0,none⟩)] w fun e w'=>e=.returned (.pointer none)/\∃ n,w'=w.drewN n:=by
 go_enter func107,ntmps107
 go_wp2
 go_ret
 exact ⟨rfl,0,rfl⟩
theorem last_some (db g m cap:Nat) (x:Value) (w:World) (hm:m<1048576) (h0:w.cell? ⟨db,0,none⟩=some (.slice (some ⟨g,0,none⟩) (m+1) cap)) (hx:w.cell? ⟨g,m,none⟩=some x) :
  Calls prog 107 #[.pointer (some ⟨db,0,none⟩)] w fun e w'=>e=.returned x/\∃ n,w'=w.drewN n:=by
 have e0:decide ((((m+1:Nat)):Int)=0)=false:=decide_eq_false (by omega)
 have e1:decide ((m:Int)+1=0)=false:=decide_eq_false (by omega)
 have p1:IntKind.i64.wrap ((m:Int)+1-1)=(m:Int):=by rw [IntKind.wrap_i64];omega
 have p2:IntKind.i64.wrap (((m+1:Nat):Int)-1)=(m:Int):=by rw [IntKind.wrap_i64];omega
 have k0:(0:Int)<=(m:Int):=by omega
 have k1:(m:Int)<((m+1:Nat):Int):=by omega
 have k2:(m:Int)<(m:Int)+1:=by omega
 go_enter func107,ntmps107
 go_wp2
 go_quiet (fail)
 go_wp2
 go_ret
 exact ⟨rfl,_,rfl⟩
end Rlas
end Go.Proofs.YtepafieckjnkdaaGreatDoor
