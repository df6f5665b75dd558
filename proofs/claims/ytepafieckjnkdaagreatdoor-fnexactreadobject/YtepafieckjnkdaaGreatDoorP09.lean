import Derived.Test.YtepafieckjnkdaaGreatDoorP08
import Derived.Lib.SplitLaws
import Derived.Lib.IndexBytes
import Derived.Lib.IndexLaws
set_option linter.all false
set_option maxRecDepth 20000
set_option maxHeartbeats 8000000
open Go.ChangeShapes Go.WideShapes Go.ChangeAt Go.RowKit
open Go.Proofs.Tryz
namespace Go.Proofs.YtepafieckjnkdaaGreatDoor
namespace Worr
open Go.Deep
open Optx Extx Exts Nodi
abbrev sp:ByteArray:=⟨#[32]⟩
def ix (s:ByteArray):Int:=Lib.indexB s sp
def A (s:ByteArray):ByteArray:=if ix s = -1 then s else s.extract 0 (ix s).toNat
def B (s:ByteArray):ByteArray:=if ix s = -1 then ⟨#[]⟩ else s.extract ((ix s).toNat+1) s.size
def F (s:ByteArray):Bool:=decide (ix s ≠ -1)
def W (s:ByteArray):List ByteArray:=Lib.splitB sp 0 (Lib.countB s sp) s
theorem A_le (s:ByteArray):(A s).size<=s.size:=by
 unfold A;split
 ·exact Nat.le_refl _
 ·rw [ByteArray.size_extract];omega
theorem ix_cases (s:ByteArray):ix s = -1 \/ ∃ i:Nat,ix s=i/\i+1<=s.size:=Lib.indexB_cases s sp
theorem B_lt {s:ByteArray} (h:F s=true):(B s).size<s.size:=by
 have h:=of_decide_eq_true h
 unfold B
 rw [if_neg h,ByteArray.size_extract]
 rcases ix_cases s with h'|⟨i,hi,hr⟩
 ·exact absurd h' h
 ·omega
theorem B_le (s:ByteArray):(B s).size<=s.size:=by
 unfold B;split
 ·exact Nat.zero_le _
 ·rw [ByteArray.size_extract];omega
theorem W_no {s:ByteArray} (h:F s=false):W s=[A s]:=by
 have h:ix s = -1:=Decidable.of_not_not (of_decide_eq_false h)
 unfold W A
 rw [if_pos h]
 exact Lib.splitB_miss _ _ _ _ h
theorem W_on {s:ByteArray} (h:F s=true):W s=A s :: W (B s):=by
 have h:=of_decide_eq_true h
 rcases ix_cases s with h'|⟨i,hi,hr⟩
 ·exact absurd h' h
 ·unfold A B
  rw [if_neg h,if_neg h]
  conv=>lhs;unfold W
  rw [Lib.countB_hit s sp i (by decide) hi,Nat.add_comm,Lib.splitB_hit sp 0 _ s i hi,hi]
  rfl
theorem at_list (s:ByteArray) (j:Nat) (h:j<s.size):s.data.toList[j]? = some s[j]:=by
 rw [List.getElem?_eq_getElem (by rw [Array.length_toList];exact h),Array.getElem_toList];rfl
theorem ix_some {s:ByteArray} {i:Nat} (h:ix s=i):s.data.toList[i]? = some 32/\∀ k:Nat,k<i->s.data.toList[k]? ≠ some 32:=by
 have h:Lib.index s.data.toList [32]=i:=h
 rw [Lib.index_one] at h
 exact Lib.indexByte_some h
theorem ix_none {s:ByteArray} (h:ix s = -1):∀ k:Nat,s.data.toList[k]? ≠ some 32:=by
 have h:Lib.index s.data.toList [32] = -1:=h
 rw [Lib.index_one] at h
 exact Lib.indexByte_none h
theorem cut_here {s:ByteArray} {k:Nat} (hk:k<s.size) (hn:∀ j (h:j<s.size),j<k->s[j] ≠ 32) (h10:s[k]=32):A s=s.extract 0 k/\B s=s.extract (k+1) s.size/\F s=true:=by
 have hh:s.data.toList[k]? = some 32:=by rw [at_list s k hk,h10]
 have e:ix s=k:=by
  rcases ix_cases s with h'|⟨i,hi,hr⟩
  ·exact absurd hh (ix_none h' k)
  ·obtain ⟨h1,h2⟩:=ix_some hi
   have:¬ k<i:=fun h=>h2 k h hh
   have:¬ i<k:=fun h=>by
    rw [at_list s i (by omega)] at h1
    exact hn i (by omega) h (Option.some.inj h1)
   rw [hi];omega
 have ne:¬ ix s = -1:=by rw [e];omega
 refine ⟨?_,?_,decide_eq_true ne⟩
 ·unfold A;rw [if_neg ne,e];rfl
 ·unfold B;rw [if_neg ne,e];rfl
theorem cut_end {s:ByteArray} (hn:∀ j (h:j<s.size),s[j] ≠ 32):A s=s/\B s=⟨#[]⟩/\F s=false:=by
 have e:ix s = -1:=by
  rcases ix_cases s with h'|⟨i,hi,hr⟩
  ·exact h'
  ·have h1:=(ix_some hi).1
   rw [at_list s i (by omega)] at h1
   exact absurd (Option.some.inj h1) (hn i (by omega))
 refine ⟨?_,?_,decide_eq_false (fun h=>h e)⟩
 ·unfold A;rw [if_pos e]
 ·unfold B;rw [if_pos e]
theorem slice_to (s:ByteArray) (k:Nat) (h:k<s.size) (w:World):(Instr.slice 9 (.string s) none (some (.int .i64 (k:Int))) none).run prog w=.ok (.string (s.extract 0 k)) w:=by
 have:=run_slice_string_h (P:=prog) (w:=w) (t:=9) (s:=s) underlying9 .i64 (k:Int) (by omega) (by omega)
 rw [Int.toNat_natCast] at this
 exact this
theorem slice_from (s:ByteArray) (k:Nat) (h:k<s.size) (w:World):(Instr.slice 9 (.string s) (some (.int .i64 ((k:Int)+1))) none none).run prog w=.ok (.string (s.extract (k+1) s.size)) w:=by
 have:=run_slice_string_l (P:=prog) (w:=w) (t:=9) (s:=s) underlying9 .i64 ((k:Int)+1) (by omega) (by omega)
 rw [show ((k:Int)+1).toNat=k+1 by omega] at this
 exact this
theorem ret3 {v u:Value} (h:v=u):Ending.returned v=.returned u:=by rw [h]
theorem cut_tuple {s:ByteArray} {k:Nat} (h:A s=s.extract 0 k/\B s=s.extract (k+1) s.size/\F s=true):(Value.tuple #[.string (s.extract 0 k),.string (s.extract (k+1) s.size),.bool true])=.tuple #[.string (A s),.string (B s),.bool (F s)]:=by
 rw [h.1,h.2.1,h.2.2]
theorem cut_tuple0 {s:ByteArray} (h:A s=s/\B s=⟨#[]⟩/\F s=false):(Value.tuple #[.string s,.string ⟨#[]⟩,.bool false])=.tuple #[.string (A s),.string (B s),.bool (F s)]:=by
 rw [h.1,h.2.1,h.2.2]
theorem blank {c:UInt8}:(c.toNat:Int)=32 ↔ c=32:=by
 constructor
 ·intro h
  apply UInt8.toNat_inj.1
  show c.toNat=32
  omega
 ·rintro rfl;rfl
theorem l1Cut_any (s:ByteArray) (w:World) (hs:s.size<=1048576) :
  Calls prog 47 #[.string s,.int .u8 32] w fun e w'=>e=.returned (.tuple #[.string (A s),.string (B s),.bool (F s)])/\∃ n,w'=w.drewN n:=by
 go_enter func47,ntmps47
 go_wp2
 go_loop [7] (fun i=>∃ (k:Nat),k<=s.size/\i=.int .i64 k/\Hid (∀ j (h:j<s.size),j<k->s[j] ≠ 32)) (fun i=>s.size-(intOf i).toNat)
 case atStart=>exact ⟨0,Nat.zero_le _,rfl,fun j _ h=>absurd h (Nat.not_lt_zero _)⟩
 case round =>
  obtain ⟨k,hk,rfl,hr⟩:=hrel
  by_cases hlt:k<s.size
  ·by_cases hc:s[k]=32
   ·have HT:=(show Hid _ from cut_tuple (cut_here hlt hr.out hc))
    have hc:(s[k].toNat:Int)=32:=blank.2 hc
    have s1:=slice_to s k hlt
    have s2:=slice_from s k hlt
    have k0:(0:Int)<=(k:Int):=by omega
    have k1:(k:Int)<=(s.size:Int):=by omega
    have k2:(0:Int)<=(k:Int)+1:=by omega
    have k3:(k:Int)+1<=(s.size:Int):=by omega
    have k4:IntKind.i64.wrap ((k:Int)+1)=(k:Int)+1:=by rw [IntKind.wrap_i64];omega
    have k5:((k:Int)+1).toNat=k+1:=by omega
    clear hr
    go_wp2_with fail
    go_quiet (fail)
    go_wp2
    go_ret3
    exact ⟨ret3 HT.out,_,rfl⟩
   ·have HR:Hid (∀ j (h:j<s.size),j<k+1->s[j] ≠ 32):=fun j h hj=>by
     rcases Nat.lt_or_ge j k with h'|h'
     ·exact hr.out j h h'
     ·have e:j=k:=by omega
      subst e;exact hc
    have hc:¬ (s[k].toNat:Int)=32:=fun h=>hc (blank.1 h)
    clear hr
    go_wp2
    go_round
    case rel=>exact ⟨k+1,by omega,by go_num,HR.out⟩
    case measure=>simp [intOf];omega
  ·have HT:=(show Hid _ from cut_tuple0 (cut_end fun j h=>hr.out j h (by omega)))
   clear hr
   go_wp2
   go_ret3
   exact ⟨ret3 HT.out,0,rfl⟩
theorem implOk_any (a:Option Addr) (cap:Nat) (L:List Stepx.Node) (w:World) (hN:Stepx.Nodes w a L) (hlen:L.length<=1048576) :
  Calls prog 36 #[.slice a L.length cap] w fun e w'=>e=.returned (.bool (Stepx.exprB L))/\Below w.heap.size w w':=by
 have cs:=Stepx.stepsOf_any a cap L w hN hlen
 generalize Stepx.exprB L=b at cs |-
 go_enter func36,ntmps36
 go_wp2_with (go_at_call 63;refine cs.mono ?_;rintro e w1 ⟨⟨v,rfl,hv⟩,hb⟩)
 go_ret
 exact ⟨rfl,hb⟩
end Worr
namespace Secr
open Go.Deep
structure X where
 f0:ByteArray
 f1:Int
 f2:Int
 f3:Int
 f4:ByteArray
 f5:List Patr.X
instance:Inhabited X:=⟨⟨⟨#[]⟩,0,0,0,⟨#[]⟩,[]⟩⟩
def Has (N:Nat) (w:World) (x:X) (a5:Option Addr):Prop:=Patr.Row N w a5 x.f5/\x.f5.length<=maxLen/\x.f0.size<=maxLen/\x.f4.size<=maxLen
theorem Has.kept {N:Nat} {w w':World} {x:X} {a5:Option Addr} (h:Has N w x a5) (hk:∀ k,N<=k->k<w.heap.size->w'.heap[k]? = w.heap[k]?) (hs:w.heap.size<=w'.heap.size):Has N w' x a5:=by
 obtain ⟨h5,z5,z0,z4⟩:=h
 exact ⟨h5.kept hk hs,z5,z0,z4⟩
theorem Has.mono {N N':Nat} {w:World} {x:X} {a5:Option Addr} (h:Has N w x a5) (hN:N'<=N):Has N' w x a5:=by
 obtain ⟨h5,z5,z0,z4⟩:=h
 exact ⟨h5.mono hN,z5,z0,z4⟩
theorem Has.below {N:Nat} {w w':World} {x:X} {a5:Option Addr} (h:Has N w x a5) (hb:Below w.heap.size w w'):Has N w' x a5:=h.kept (fun k _ hk=>hb.block k hk) hb.size
def At (N:Nat) (w:World) (b o:Nat) (x:X):Prop:=∃ a5 c5,w.cell? ⟨b,o,none⟩=some (.string x.f0)/\w.cell? ⟨b,o+1,none⟩=some (.int .i64 x.f1)/\w.cell? ⟨b,o+2,none⟩=some (.int .i64 x.f2)/\w.cell? ⟨b,o+3,none⟩=some (.int .i64 x.f3)/\w.cell? ⟨b,o+4,none⟩=some (.string x.f4)/\w.cell? ⟨b,o+5,none⟩=some (.slice a5 x.f5.length c5)/\Has N w x a5
theorem At.kept {N:Nat} {w w':World} {b o:Nat} {x:X} (h:At N w b o x) (hb:w'.heap[b]? = w.heap[b]?) (hk:∀ k,N<=k->k<w.heap.size->w'.heap[k]? = w.heap[k]?) (hs:w.heap.size<=w'.heap.size):At N w' b o x:=by
 obtain ⟨a5,c5,d0,d1,d2,d3,d4,d5,hh⟩:=h
 have e:∀ i,w'.cell? ⟨b,i,none⟩=w.cell? ⟨b,i,none⟩:=fun i=>World.cell?_of_block (a:=⟨b,i,none⟩) hb
 exact ⟨a5,c5,(e _).trans d0,(e _).trans d1,(e _).trans d2,(e _).trans d3,(e _).trans d4,(e _).trans d5,hh.kept hk hs⟩
def Row (N:Nat) (w:World) (a:Option Addr) (L:List X):Prop :=
 L=[] \/ ∃ b off,a=some ⟨b,off,none⟩/\N<=b/\b<w.heap.size/\∀ i (h:i<L.length),At N w b (off+i*6) L[i]
theorem Row.kept {N:Nat} {w w':World} {a:Option Addr} {L:List X} (h:Row N w a L) (hk:∀ k,N<=k->k<w.heap.size->w'.heap[k]? = w.heap[k]?) (hs:w.heap.size<=w'.heap.size):Row N w' a L:=by
 rcases h with h|⟨b,off,ha,hN,hl,hc⟩
 ·exact .inl h
 ·exact .inr ⟨b,off,ha,hN,Nat.lt_of_lt_of_le hl hs,fun i hi=>(hc i hi).kept (hk b hN hl) hk hs⟩
theorem Row.mono {N N':Nat} {w:World} {a:Option Addr} {L:List X} (h:Row N w a L) (hN:N'<=N):Row N' w a L:=by
 rcases h with h|⟨b,off,ha,hNb,hl,hc⟩
 ·exact .inl h
 ·exact .inr ⟨b,off,ha,by omega,hl,fun i hi=>by obtain ⟨a5,c5,d0,d1,d2,d3,d4,d5,hh⟩:=hc i hi;exact ⟨a5,c5,d0,d1,d2,d3,d4,d5,hh.mono hN⟩⟩
theorem Row.below {N:Nat} {w w':World} {a:Option Addr} {L:List X} (h:Row N w a L) (hb:Below w.heap.size w w'):Row N w' a L:=h.kept (fun k _ hk=>hb.block k hk) hb.size
def SmallX (x:X):Prop:=Patr.Small x.f5/\x.f0.size<=1048576/\x.f4.size<=1048576
def Small (L:List X):Prop:=L.length<=1048576/\∀ i (h:i<L.length),SmallX L[i]
def Part (W:World) (B len:Nat) (L:List X) (k:Nat):Prop :=
 (∀ i (h:i<L.length),i<k->At (B+1) W B (i*6) L[i])/\(∀ j,j<len*6->∃ u,W.cell? ⟨B,j,none⟩=some u)/\(∀ j,W.frozen? ⟨B,j,none⟩=false)/\B<W.heap.size
theorem Part.kept {W W':World} {B len k:Nat} {L:List X} (h:Part W B len L k) (hb:Below W.heap.size W W'):Part W' B len L k:=by
 have hB:=hb.block B h.2.2.2
 refine ⟨fun i hi hk=>(h.1 i hi hk).kept hB (fun j _ hj=>hb.block j hj) hb.size,fun j hj=>?_,fun j=>?_,Nat.lt_of_lt_of_le h.2.2.2 hb.size⟩
 ·rw [World.cell?_of_block (a:=⟨B,j,none⟩) hB];exact h.2.1 j hj
 ·rw [World.frozen?_of_block (a:=⟨B,j,none⟩) hB];exact h.2.2.1 j
theorem Part.set {W:World} {B len k o:Nat} {L:List X} (h:Part W B len L k) (ho:k*6<=o) (v:Value):Part (W.setCell ⟨B,o,none⟩ v) B len L k:=by
 have ne:∀ i,i ≠ o->(W.setCell ⟨B,o,none⟩ v).cell? ⟨B,i,none⟩=W.cell? ⟨B,i,none⟩:=fun i hi=>World.cell?_setCell_other W _ _ _ (fun e=>hi (by have:=congrArg Addr.off e;exact this.symm))
 have hko:∀ j,B+1<=j->j<W.heap.size->(W.setCell ⟨B,o,none⟩ v).heap[j]? = W.heap[j]?:=fun j hj _=>Below.heap_setCell _ _ _ _ (by simp;omega)
 refine ⟨fun i hi hk=>?_,fun j hj=>?_,fun j=>?_,?_⟩
 ·obtain ⟨a5,c5,d0,d1,d2,d3,d4,d5,hh⟩:=h.1 i hi hk
  have hlt:i*6+5<o:=by have:(i+1)*6<=k*6:=Nat.mul_le_mul_right _ hk;omega
  exact ⟨a5,c5,(ne _ (by omega)).trans d0,(ne _ (by omega)).trans d1,(ne _ (by omega)).trans d2,(ne _ (by omega)).trans d3,(ne _ (by omega)).trans d4,(ne _ (by omega)).trans d5,hh.kept hko (by rw [World.size_setCell];exact Nat.le_refl _)⟩
 ·by_cases e:j=o
  ·subst e
   obtain ⟨u,hu⟩:=h.2.1 j hj
   exact ⟨v,World.cell?_setCell_same W _ _ hu⟩
  ·rw [ne j e];exact h.2.1 j hj
 ·rw [World.frozen?_setCell];exact h.2.2.1 j
 ·rw [World.size_setCell];exact h.2.2.2
theorem Part.store {W:World} {B len k:Nat} {L:List X} (h:Part W B len L k) (hk:k<len) (hkL:k<L.length) (a5:Option Addr) (c5:Nat) (hh:Has (B+1) W L[k] a5):Part ((((((W.setCell ⟨B,k*6,none⟩ (.string L[k].f0)).setCell ⟨B,k*6+1,none⟩ (.int .i64 L[k].f1)).setCell ⟨B,k*6+2,none⟩ (.int .i64 L[k].f2)).setCell ⟨B,k*6+3,none⟩ (.int .i64 L[k].f3)).setCell ⟨B,k*6+4,none⟩ (.string L[k].f4)).setCell ⟨B,k*6+5,none⟩ (.slice a5 L[k].f5.length c5)) B len L (k+1):=by
 have h1:=h.set (o:=k*6) (by omega) (.string L[k].f0)
 have h2:=h1.set (o:=k*6+1) (by omega) (.int .i64 L[k].f1)
 have h3:=h2.set (o:=k*6+2) (by omega) (.int .i64 L[k].f2)
 have h4:=h3.set (o:=k*6+3) (by omega) (.int .i64 L[k].f3)
 have h5:=h4.set (o:=k*6+4) (by omega) (.string L[k].f4)
 have h6:=h5.set (o:=k*6+5) (by omega) (.slice a5 L[k].f5.length c5)
 refine ⟨fun i hi hik=>?_,h6.2.1,h6.2.2.1,h6.2.2.2⟩
 by_cases e:i=k
 ·subst e
  obtain ⟨u0,hu0⟩:=h.2.1 (i*6) (by omega)
  obtain ⟨u1,hu1⟩:=h1.2.1 (i*6+1) (by omega)
  obtain ⟨u2,hu2⟩:=h2.2.1 (i*6+2) (by omega)
  obtain ⟨u3,hu3⟩:=h3.2.1 (i*6+3) (by omega)
  obtain ⟨u4,hu4⟩:=h4.2.1 (i*6+4) (by omega)
  obtain ⟨u5,hu5⟩:=h5.2.1 (i*6+5) (by omega)
  refine ⟨a5,c5,?_,?_,?_,?_,?_,?_,?_⟩
  ·rw [World.cell?_setCell_other _ _ _ _ (by simp),World.cell?_setCell_other _ _ _ _ (by simp),World.cell?_setCell_other _ _ _ _ (by simp),World.cell?_setCell_other _ _ _ _ (by simp),World.cell?_setCell_other _ _ _ _ (by simp)];exact World.cell?_setCell_same _ _ _ hu0
  ·rw [World.cell?_setCell_other _ _ _ _ (by simp),World.cell?_setCell_other _ _ _ _ (by simp),World.cell?_setCell_other _ _ _ _ (by simp),World.cell?_setCell_other _ _ _ _ (by simp)];exact World.cell?_setCell_same _ _ _ hu1
  ·rw [World.cell?_setCell_other _ _ _ _ (by simp),World.cell?_setCell_other _ _ _ _ (by simp),World.cell?_setCell_other _ _ _ _ (by simp)];exact World.cell?_setCell_same _ _ _ hu2
  ·rw [World.cell?_setCell_other _ _ _ _ (by simp),World.cell?_setCell_other _ _ _ _ (by simp)];exact World.cell?_setCell_same _ _ _ hu3
  ·rw [World.cell?_setCell_other _ _ _ _ (by simp)];exact World.cell?_setCell_same _ _ _ hu4
  ·exact World.cell?_setCell_same _ _ _ hu5
  ·refine hh.kept (fun j hj _=>?_) (by simp only [World.size_setCell];exact Nat.le_refl _)
   rw [Below.heap_setCell _ _ _ _ (by simp;omega),Below.heap_setCell _ _ _ _ (by simp;omega),Below.heap_setCell _ _ _ _ (by simp;omega),Below.heap_setCell _ _ _ _ (by simp;omega),Below.heap_setCell _ _ _ _ (by simp;omega),Below.heap_setCell _ _ _ _ (by simp;omega)]
 ·exact h6.1 i hi (by omega)
theorem info_parts {P:Program} {t:TypeId} {z:Value} {s b:Nat} (h:(P.info? t).map (fun i=>(i.zero,i.size,i.bytes))=some (some z,s,b)):∃ i,P.info? t=some i/\i.zero=some z/\i.size=s/\i.bytes=b:=by
 cases e:P.info? t with
 | none=>rw [e] at h;cases h
 | some i =>
  rw [e] at h
  simp only [Option.map_some,Option.some.injEq,Prod.mk.injEq] at h
  exact ⟨i,rfl,h.1,h.2.1,h.2.2⟩
theorem eqX_any (x:X) (a5:Option Addr) (c5:Nat) (a5':Option Addr) (c5':Nat) (w:World) (hh:Has 0 w x a5) (hh':Has 0 w x a5') (hsm:SmallX x) :
  Calls prog 90 #[.agg #[.string x.f0,.int .i64 x.f1,.int .i64 x.f2,.int .i64 x.f3,.string x.f4,.slice a5 x.f5.length c5],.agg #[.string x.f0,.int .i64 x.f1,.int .i64 x.f2,.int .i64 x.f3,.string x.f4,.slice a5' x.f5.length c5']] w fun e w'=>e=.returned (.bool true)/\Below w.heap.size w w':=by
 obtain ⟨h5,z5,z0,z4⟩:=hh
 obtain ⟨h5',z5',z0',z4'⟩:=hh'
 obtain ⟨s5,s0,s4⟩:=hsm
 have cr5:=fun W h h'=>Patr.eqXS_any a5 a5' c5 c5' x.f5 W h h' s5
 have HH5:Hid (Patr.Row 0 w a5 x.f5):=h5
 have HH5':Hid (Patr.Row 0 w a5' x.f5):=h5'
 obtain ⟨n5,hn5⟩ : ∃ n,n=x.f5.length:=⟨_,rfl⟩
 rw [<- hn5]
 simp only [<- hn5] at cr5
 obtain ⟨q0,hq0⟩ : ∃ q,q=x.f0:=⟨_,rfl⟩
 rw [<- hq0]
 obtain ⟨q1,hq1⟩ : ∃ q,q=x.f1:=⟨_,rfl⟩
 rw [<- hq1]
 obtain ⟨q2,hq2⟩ : ∃ q,q=x.f2:=⟨_,rfl⟩
 rw [<- hq2]
 obtain ⟨q3,hq3⟩ : ∃ q,q=x.f3:=⟨_,rfl⟩
 rw [<- hq3]
 obtain ⟨q4,hq4⟩ : ∃ q,q=x.f4:=⟨_,rfl⟩
 rw [<- hq4]
 clear hn5 h5 z5 z0 z4 h5' z5' z0' z4' s5 s0 s4
 clear hq0 hq1 hq2 hq3 hq4
 have WB:Hid (∀ o o':Obj,Below w.heap.size w ((w.alloc o).alloc o')):=fun o o'=>(zAl _ _).alloc (by simp) _
 go_enter func90,ntmps90
 go_wp2_with fail
 obtain ⟨W0,hW0⟩ : ∃ W0,W0=(w.alloc (.cells #[.string q0,.int .i64 q1,.int .i64 q2,.int .i64 q3,.string q4,.slice a5 n5 c5] 35)).alloc (.cells #[.string q0,.int .i64 q1,.int .i64 q2,.int .i64 q3,.string q4,.slice a5' n5 c5'] 35):=⟨_,rfl⟩
 rw [<- hW0]
 have B0:Hid (Below w.heap.size w W0):=by rw [hW0];exact WB.out _ _
 have Z0:W0.heap.size=w.heap.size+1+1:=by rw [hW0];simp
 have G0:Hid (W0.heap[w.heap.size]? = some (.cells #[.string q0,.int .i64 q1,.int .i64 q2,.int .i64 q3,.string q4,.slice a5 n5 c5] 35)):=by
  show W0.heap[w.heap.size]? = _
  rw [hW0,Below.heap_alloc _ _ _ (by simp)];exact (MapKept.heap_alloc w _).1
 have R0:Hid (W0.heap[w.heap.size+1]? = some (.cells #[.string q0,.int .i64 q1,.int .i64 q2,.int .i64 q3,.string q4,.slice a5' n5 c5'] 35)):=by
  show W0.heap[w.heap.size+1]? = _
  have:=(MapKept.heap_alloc (w.alloc (.cells #[.string q0,.int .i64 q1,.int .i64 q2,.int .i64 q3,.string q4,.slice a5 n5 c5] 35)) (.cells #[.string q0,.int .i64 q1,.int .i64 q2,.int .i64 q3,.string q4,.slice a5' n5 c5'] 35)).1
  rw [hW0]
  simpa using this
 clear hW0
 refine (cr5 _ (HH5.out.below B0.out) (HH5'.out.below B0.out)).mono ?_
 rintro e w5 ⟨rfl,hb5⟩
 have B5n:Hid (Below w.heap.size w w5):=B0.out.trans (hb5.mono B0.out.size)
 have V5:w.heap.size+1<w5.heap.size:=by have:=hb5.size;rw [Z0] at this;omega
 have G5n:Hid (w5.heap[w.heap.size]? = some (.cells #[.string q0,.int .i64 q1,.int .i64 q2,.int .i64 q3,.string q4,.slice a5 n5 c5] 35)):=(hb5.block _ (by rw [Z0];omega)).trans G0.out
 have R5n:Hid (w5.heap[w.heap.size+1]? = some (.cells #[.string q0,.int .i64 q1,.int .i64 q2,.int .i64 q3,.string q4,.slice a5' n5 c5'] 35)):=(hb5.block _ (by rw [Z0];omega)).trans R0.out
 clear hb5
 go_wp2
 go_ret
 exact ⟨rfl,B5n.out⟩
theorem eqXS_any (a a':Option Addr) (cap cap':Nat) (L:List X) (w:World) (hN:Row 0 w a L) (hN':Row 0 w a' L) (hsm:Small L) :
  Calls prog 49 #[.slice a L.length cap,.slice a' L.length cap'] w fun e w'=>e=.returned (.bool true)/\Below w.heap.size w w':=by
 obtain ⟨len,hl⟩ : ∃ len,len=L.length:=⟨_,rfl⟩
 have HL:Hid (len=L.length):=hl
 have hlen:=hsm.1
 have HSM:Hid (Small L):=hsm
 rw [<- hl] at hlen |-
 clear hl hsm
 go_enter func49,ntmps49
 go_wp2
 go_loopw [5] (fun i wr=>∃ k:Nat,k<=len/\i=.int .i64 k/\Hid (Below w.heap.size w wr)) (fun i _=>len-(intOf i).toNat)
 case atStart=>exact ⟨0,Nat.zero_le _,rfl,Below.refl _ _⟩
 case round =>
  obtain ⟨k,hk,rfl,hbel⟩:=hrel
  by_cases hlt:k<len
  ·have hkL:k<L.length:=by have:=HL.out;omega
   rcases hN with hnil|⟨b,off,rfl,_,hb,hc⟩
   ·exfalso;rw [hnil] at hkL;exact absurd hkL (by simp)
   rcases hN' with hnil|⟨b',off',rfl,_,hb',hc'⟩
   ·exfalso;rw [hnil] at hkL;exact absurd hkL (by simp)
   obtain ⟨a5,c5,d0,d1,d2,d3,d4,d5,hh⟩:=(hc k hkL).kept (hbel.out.block b hb) (fun j _ hj=>hbel.out.block j hj) hbel.out.size
   obtain ⟨a5',c5',e0,e1,e2,e3,e4,e5,hh'⟩:=(hc' k hkL).kept (hbel.out.block b' hb') (fun j _ hj=>hbel.out.block j hj) hbel.out.size
   clear hc hc'
   have ce:=fun W (h:Has 0 W L[k] a5) (h':Has 0 W L[k] a5')=>eqX_any L[k] a5 c5 a5' c5' W h h' (HSM.out.2 k hkL)
   have HH:Hid (∀ W,Below wr.heap.size wr W->Has 0 W L[k] a5/\Has 0 W L[k] a5'):=fun W h=>⟨hh.below h,hh'.below h⟩
   clear hh hh'
   generalize L[k]=x at *
   have HC:Hid (∀ W,Below wr.heap.size wr W->Calls prog 90 #[.agg #[.string x.f0,.int .i64 x.f1,.int .i64 x.f2,.int .i64 x.f3,.string x.f4,.slice a5 x.f5.length c5],.agg #[.string x.f0,.int .i64 x.f1,.int .i64 x.f2,.int .i64 x.f3,.string x.f4,.slice a5' x.f5.length c5']] W fun e w'=>e=.returned (.bool true)/\Below W.heap.size W w'):=fun W h=>ce W (HH.out W h).1 (HH.out W h).2
   clear ce HH
   obtain ⟨n5,hn5⟩ : ∃ n,n=x.f5.length:=⟨_,rfl⟩
   rw [<- hn5] at d5 e5
   simp only [<- hn5] at HC
   clear hn5
   obtain ⟨q0,hq0⟩ : ∃ q,q=x.f0:=⟨_,rfl⟩
   rw [<- hq0] at d0 e0
   simp only [<- hq0] at HC
   clear hq0
   obtain ⟨q1,hq1⟩ : ∃ q,q=x.f1:=⟨_,rfl⟩
   rw [<- hq1] at d1 e1
   simp only [<- hq1] at HC
   clear hq1
   obtain ⟨q2,hq2⟩ : ∃ q,q=x.f2:=⟨_,rfl⟩
   rw [<- hq2] at d2 e2
   simp only [<- hq2] at HC
   clear hq2
   obtain ⟨q3,hq3⟩ : ∃ q,q=x.f3:=⟨_,rfl⟩
   rw [<- hq3] at d3 e3
   simp only [<- hq3] at HC
   clear hq3
   obtain ⟨q4,hq4⟩ : ∃ q,q=x.f4:=⟨_,rfl⟩
   rw [<- hq4] at d4 e4
   simp only [<- hq4] at HC
   clear hq4
   have k0:(0:Int)<=(k:Int):=by omega
   have k1:(k:Int)<(len:Int):=by omega
   go_wp2_with fail
   go_region_with (go_at_call 90;refine (HC.out _ (zRf.drew)).mono ?_;rintro e w1 ⟨rfl,hb1⟩)
   all_goals go_wp2
   all_goals
    go_roundw
    case rel=>exact ⟨k+1,by omega,by go_num,hbel.out.trans ((Mirror.below_of_drew hb1).mono hbel.out.size)⟩
    case measure=>simp [intOf];omega
  ·clear hN hN'
   go_wp2
   go_ret
   exact ⟨rfl,hbel.out⟩
end Secr
end Go.Proofs.YtepafieckjnkdaaGreatDoor
