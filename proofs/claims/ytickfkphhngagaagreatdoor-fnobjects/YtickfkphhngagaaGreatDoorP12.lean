import Derived.Test.YtickfkphhngagaaGreatDoorP10
import Derived.Lib.SplitLaws
import Derived.Lib.IndexBytes
import Derived.Lib.IndexLaws
set_option linter.all false
set_option maxRecDepth 20000
set_option maxHeartbeats 8000000
open Go.ChangeShapes Go.WideShapes Go.ChangeAt Go.RowKit
open Go.Proofs.Tryz
namespace Go.Proofs.YtickfkphhngagaaGreatDoor
namespace Worr
open Go.Deep
open Optx Extx Exts Nodi
abbrev sp:ByteArray:=⟨#[32]⟩
def ix (s:ByteArray):Int:=Lib.indexB s sp
def A (s:ByteArray):ByteArray:=if ix s = -1 then s else s.extract 0 (ix s).toNat
def B (s:ByteArray):ByteArray:=if ix s = -1 then ⟨#[]⟩ else s.extract ((ix s).toNat+1) s.size
def F (s:ByteArray):Bool:=decide (ix s ≠ -1)
def W (s:ByteArray):List ByteArray:=Lib.splitB sp 0 (Lib.countB s sp) s
theorem A_le (s:ByteArray):(A s).size<=s.size:=by
 unfold A;split
 ·exact Nat.le_refl _
 ·rw [ByteArray.size_extract];omega
theorem ix_cases (s:ByteArray):ix s = -1 \/ ∃ i:Nat,ix s=i/\i+1<=s.size:=Lib.indexB_cases s sp
theorem B_lt {s:ByteArray} (h:F s=true):(B s).size<s.size:=by
 have h:=of_decide_eq_true h
 unfold B
 rw [if_neg h,ByteArray.size_extract]
 rcases ix_cases s with h'|⟨i,hi,hr⟩
 ·exact absurd h' h
 ·omega
theorem B_le (s:ByteArray):(B s).size<=s.size:=by
 unfold B;split
 ·exact Nat.zero_le _
 ·rw [ByteArray.size_extract];omega
theorem W_no {s:ByteArray} (h:F s=false):W s=[A s]:=by
 have h:ix s = -1:=Decidable.of_not_not (of_decide_eq_false h)
 unfold W A
 rw [if_pos h]
 exact Lib.splitB_miss _ _ _ _ h
theorem W_on {s:ByteArray} (h:F s=true):W s=A s :: W (B s):=by
 have h:=of_decide_eq_true h
 rcases ix_cases s with h'|⟨i,hi,hr⟩
 ·exact absurd h' h
 ·unfold A B
  rw [if_neg h,if_neg h]
  conv=>lhs;unfold W
  rw [Lib.countB_hit s sp i (by decide) hi,Nat.add_comm,Lib.splitB_hit sp 0 _ s i hi,hi]
  rfl
theorem at_list (s:ByteArray) (j:Nat) (h:j<s.size):s.data.toList[j]? = some s[j]:=by
 rw [List.getElem?_eq_getElem (by rw [Array.length_toList];exact h),Array.getElem_toList];rfl
theorem ix_some {s:ByteArray} {i:Nat} (h:ix s=i):s.data.toList[i]? = some 32/\∀ k:Nat,k<i->s.data.toList[k]? ≠ some 32:=by
 have h:Lib.index s.data.toList [32]=i:=h
 rw [Lib.index_one] at h
 exact Lib.indexByte_some h
theorem ix_none {s:ByteArray} (h:ix s = -1):∀ k:Nat,s.data.toList[k]? ≠ some 32:=by
 have h:Lib.index s.data.toList [32] = -1:=h
 rw [Lib.index_one] at h
 exact Lib.indexByte_none h
theorem cut_here {s:ByteArray} {k:Nat} (hk:k<s.size) (hn:∀ j (h:j<s.size),j<k->s[j] ≠ 32) (h10:s[k]=32):A s=s.extract 0 k/\B s=s.extract (k+1) s.size/\F s=true:=by
 have hh:s.data.toList[k]? = some 32:=by rw [at_list s k hk,h10]
 have e:ix s=k:=by
  rcases ix_cases s with h'|⟨i,hi,hr⟩
  ·exact absurd hh (ix_none h' k)
  ·obtain ⟨h1,h2⟩:=ix_some hi
   have:¬ k<i:=fun h=>h2 k h hh
   have:¬ i<k:=fun h=>by
    rw [at_list s i (by omega)] at h1
    exact hn i (by omega) h (Option.some.inj h1)
   rw [hi];omega
 have ne:¬ ix s = -1:=by rw [e];omega
 refine ⟨?_,?_,decide_eq_true ne⟩
 ·unfold A;rw [if_neg ne,e];rfl
 ·unfold B;rw [if_neg ne,e];rfl
theorem cut_end {s:ByteArray} (hn:∀ j (h:j<s.size),s[j] ≠ 32):A s=s/\B s=⟨#[]⟩/\F s=false:=by
 have e:ix s = -1:=by
  rcases ix_cases s with h'|⟨i,hi,hr⟩
  ·exact h'
  ·have h1:=(ix_some hi).1
   rw [at_list s i (by omega)] at h1
   exact absurd (Option.some.inj h1) (hn i (by omega))
 refine ⟨?_,?_,decide_eq_false (fun h=>h e)⟩
 ·unfold A;rw [if_pos e]
 ·unfold B;rw [if_pos e]
theorem slice_to (s:ByteArray) (k:Nat) (h:k<s.size) (w:World):(Instr.slice 9 (.string s) none (some (.int .i64 (k:Int))) none).run prog w=.ok (.string (s.extract 0 k)) w:=by
 have:=run_slice_string_h (P:=prog) (w:=w) (t:=9) (s:=s) underlying9 .i64 (k:Int) (by omega) (by omega)
 rw [Int.toNat_natCast] at this
 exact this
theorem slice_from (s:ByteArray) (k:Nat) (h:k<s.size) (w:World):(Instr.slice 9 (.string s) (some (.int .i64 ((k:Int)+1))) none none).run prog w=.ok (.string (s.extract (k+1) s.size)) w:=by
 have:=run_slice_string_l (P:=prog) (w:=w) (t:=9) (s:=s) underlying9 .i64 ((k:Int)+1) (by omega) (by omega)
 rw [show ((k:Int)+1).toNat=k+1 by omega] at this
 exact this
theorem ret3 {v u:Value} (h:v=u):Ending.returned v=.returned u:=by rw [h]
theorem cut_tuple {s:ByteArray} {k:Nat} (h:A s=s.extract 0 k/\B s=s.extract (k+1) s.size/\F s=true):(Value.tuple #[.string (s.extract 0 k),.string (s.extract (k+1) s.size),.bool true])=.tuple #[.string (A s),.string (B s),.bool (F s)]:=by
 rw [h.1,h.2.1,h.2.2]
theorem cut_tuple0 {s:ByteArray} (h:A s=s/\B s=⟨#[]⟩/\F s=false):(Value.tuple #[.string s,.string ⟨#[]⟩,.bool false])=.tuple #[.string (A s),.string (B s),.bool (F s)]:=by
 rw [h.1,h.2.1,h.2.2]
theorem blank {c:UInt8}:(c.toNat:Int)=32 ↔ c=32:=by
 constructor
 ·intro h
  apply UInt8.toNat_inj.1
  show c.toNat=32
  omega
 ·rintro rfl;rfl
theorem l1Cut_any (s:ByteArray) (w:World) (hs:s.size<=1048576) :
  Calls prog 21 #[.string s,.int .u8 32] w fun e w'=>e=.returned (.tuple #[.string (A s),.string (B s),.bool (F s)])/\∃ n,w'=w.drewN n:=by
 go_enter func21,ntmps21
 go_wp2
 go_loop [7] (fun i=>∃ (k:Nat),k<=s.size/\i=.int .i64 k/\Hid (∀ j (h:j<s.size),j<k->s[j] ≠ 32)) (fun i=>s.size-(intOf i).toNat)
 case atStart=>exact ⟨0,Nat.zero_le _,rfl,fun j _ h=>absurd h (Nat.not_lt_zero _)⟩
 case round =>
  obtain ⟨k,hk,rfl,hr⟩:=hrel
  by_cases hlt:k<s.size
  ·by_cases hc:s[k]=32
   ·have HT:=(show Hid _ from cut_tuple (cut_here hlt hr.out hc))
    have hc:(s[k].toNat:Int)=32:=blank.2 hc
    have s1:=slice_to s k hlt
    have s2:=slice_from s k hlt
    have k0:(0:Int)<=(k:Int):=by omega
    have k1:(k:Int)<=(s.size:Int):=by omega
    have k2:(0:Int)<=(k:Int)+1:=by omega
    have k3:(k:Int)+1<=(s.size:Int):=by omega
    have k4:IntKind.i64.wrap ((k:Int)+1)=(k:Int)+1:=by rw [IntKind.wrap_i64];omega
    have k5:((k:Int)+1).toNat=k+1:=by omega
    clear hr
    go_wp2_with fail
    go_quiet (fail)
    go_wp2
    go_ret3
    exact ⟨ret3 HT.out,_,rfl⟩
   ·have HR:Hid (∀ j (h:j<s.size),j<k+1->s[j] ≠ 32):=fun j h hj=>by
     rcases Nat.lt_or_ge j k with h'|h'
     ·exact hr.out j h h'
     ·have e:j=k:=by omega
      subst e;exact hc
    have hc:¬ (s[k].toNat:Int)=32:=fun h=>hc (blank.1 h)
    clear hr
    go_wp2
    go_round
    case rel=>exact ⟨k+1,by omega,by go_num,HR.out⟩
    case measure=>simp [intOf];omega
  ·have HT:=(show Hid _ from cut_tuple0 (cut_end fun j h=>hr.out j h (by omega)))
   clear hr
   go_wp2
   go_ret3
   exact ⟨ret3 HT.out,0,rfl⟩
theorem implOk_any (a:Option Addr) (cap:Nat) (L:List Stepx.Node) (w:World) (hN:Stepx.Nodes w a L) (hlen:L.length<=1048576) :
  Calls prog 47 #[.slice a L.length cap] w fun e w'=>e=.returned (.bool (Stepx.exprB L))/\Below w.heap.size w w':=by
 have cs:=Stepx.stepsOf_any a cap L w hN hlen
 generalize Stepx.exprB L=b at cs |-
 go_enter func47,ntmps47
 go_wp2_with (go_at_call 80;refine cs.mono ?_;rintro e w1 ⟨⟨v,rfl,hv⟩,hb⟩)
 go_ret
 exact ⟨rfl,hb⟩
end Worr
namespace Wors
open Go.Deep
open Optx Extx Exts Nodi Worr Nodm
open Stepx (Nodes exprB)
theorem infoN:(prog.info? 122).map (fun i=>(i.zero,i.size,i.bytes))=some (some (.agg #[.int .i64 0,.int .i64 0,.string ⟨#[]⟩]),3,32):=by kernel_rfl
def lst (o:Option (List Stepx.Node)):List Stepx.Node:=o.getD []
def Left (w w':World) (e:Ending) (o:Option (List Stepx.Node)):Prop :=
 ∃ ao cap,e=.returned (.tuple #[.slice ao (lst o).length cap,.bool o.isSome])/\Nodm.Own w' w.heap.size (.slice ao (lst o).length cap) (lst o)/\(∀ x ∈ lst o,x.2.2.size<=1048576)/\(lst o).length<=801/\Below w.heap.size w w'
theorem left_none {w w':World} {o:Option (List Stepx.Node)} (h:o=none) (hb:Below w.heap.size w w'):Left w w' (.returned (.tuple #[.slice none 0 0,.bool false])) o:=by
 subst h
 exact ⟨none,0,rfl,World.ownsRow_nil _ _ _ _,(fun x hx=>by cases hx),Nat.zero_le _,hb⟩
theorem left_some {w w':World} {o:Option (List Stepx.Node)} {l:List Stepx.Node} {ao:Option Addr} {cap:Nat} (h:o=some l) (ho:Nodm.Own w' w.heap.size (.slice ao l.length cap) l) (hz:∀ x ∈ l,x.2.2.size<=1048576) (hl:l.length<=801) (hb:Below w.heap.size w w'):Left w w' (.returned (.tuple #[.slice ao l.length cap,.bool true])) o:=by
 subst h
 exact ⟨ao,cap,rfl,ho,hz,hl,hb⟩
def outI (s:ByteArray):Option (List Stepx.Node):=if exprB ((W s).map nodeI)=true then some ((W s).map nodeI) else none
def outS (s:ByteArray):Option (List Stepx.Node):=if s.size=0 \/ ¬ exprT (((W s).take 31).map nodeS)=s then none else some (((W s).take 31).map nodeS)
theorem eq_list {a b:ByteArray}:(a.toList == b.toList)=true ↔ a=b:=by
 rw [ByteArray.toList_eq,ByteArray.toList_eq]
 constructor
 ·intro h
  exact ByteArray.ext (Array.toList_inj.1 (eq_of_beq h))
 ·rintro rfl;simp
theorem nodeI_sz (x:ByteArray):(nodeI x).2.2.size<=x.size:=by
 unfold nodeI
 split
 ·exact Nat.zero_le _
 split
 ·exact Nat.zero_le _
 split
 ·show (x.extract 1 x.size).size<=_;rw [ByteArray.size_extract];omega
 ·exact Nat.le_refl _
theorem nodeS_sz (x:ByteArray):(nodeS x).2.2.size<=x.size:=by
 unfold nodeS
 split
 ·exact Nat.zero_le _
 split
 ·exact Nat.zero_le _
 split
 ·show (x.extract 1 x.size).size<=_;rw [ByteArray.size_extract];omega
 ·exact Nat.le_refl _
theorem W_le:∀ (n:Nat) (s:ByteArray),s.size<=n->∀ x ∈ W s,x.size<=s.size
 | 0,s,hn,x,hx=>by
  cases hf:F s with
  | false=>rw [W_no hf,List.mem_singleton] at hx;rw [hx];exact A_le s
  | true=>have:=B_lt hf;omega
 | n+1,s,hn,x,hx=>by
  cases hf:F s with
  | false=>rw [W_no hf,List.mem_singleton] at hx;rw [hx];exact A_le s
  | true =>
   have hb:=B_lt hf
   rw [W_on hf,List.mem_cons] at hx
   rcases hx with rfl|hx
   ·exact A_le s
   ·have:=W_le n (B s) (by omega) x hx
    omega
theorem stepW {Ws rest:List ByteArray} {k:Nat} {x:ByteArray} (h:Ws.drop k=x :: rest):Ws.take (k+1)=Ws.take k ++ [x]/\Ws.drop (k+1)=rest:=by
 have h0:Ws[k]? = some x:=by
  have:(Ws.drop k)[0]? = some x:=by rw [h];rfl
  rwa [List.getElem?_drop,Nat.add_zero] at this
 refine ⟨?_,?_⟩
 ·rw [List.take_add_one,h0];rfl
 ·rw [<- List.tail_drop,h];rfl
def At (s:ByteArray) (l:List Stepx.Node) (r:ByteArray) (f:Bool):Prop:=l=((W s).take l.length).map nodeS/\(f=true->(W s).drop l.length=W r)/\(f=false->(W s).length<=l.length)
theorem At.start (s:ByteArray):At s [] s true:=⟨rfl,fun _=>rfl,fun h=>by cases h⟩
theorem At.step {s r:ByteArray} {l:List Stepx.Node} (h:At s l r true):At s (l ++ [nodeS (A r)]) (B r) (F r):=by
 obtain ⟨h1,h2,_⟩:=h
 have h2:=h2 rfl
 have hx:∃ rest,W r=A r :: rest/\(F r=true->rest=W (B r))/\(F r=false->rest=[]):=by
  cases hf:F r with
  | true=>exact ⟨_,W_on hf,fun _=>rfl,fun h=>by cases h⟩
  | false=>exact ⟨_,W_no hf,(fun h=>by cases h),fun _=>rfl⟩
 obtain ⟨rest,hw,ht,hf⟩:=hx
 rw [hw] at h2
 obtain ⟨t1,t2⟩:=stepW h2
 unfold At
 rw [List.length_append,List.length_singleton]
 refine ⟨?_,fun h=>by rw [t2,ht h],fun h=>?_⟩
 ·rw [t1,List.map_append,<- h1];rfl
 ·rw [hf h] at t2
  have:=congrArg List.length t2
  rw [List.length_drop,List.length_nil] at this
  omega
theorem At.fin {s r:ByteArray} {l:List Stepx.Node} {f:Bool} (h:At s l r f) (h31:l.length<=31) (he:f=false \/ 31<=l.length):l=((W s).take 31).map nodeS:=by
 obtain ⟨h1,_,h3⟩:=h
 rcases he with he|he
 ·have hl:=h3 he
  have e:(W s).take 31=(W s).take l.length:=by rw [List.take_of_length_le hl,List.take_of_length_le (by omega)]
  rw [e];exact h1
 ·have e:l.length=31:=by omega
  rw [e] at h1;exact h1
def slen:Value->Nat
 | .slice _ n _=>n
 | _=>0
theorem drewN_refl (w:World):∀ k:Nat,Below w.heap.size w (w.drewN k)
 | 0=>Below.refl _ _
 | k+1=>(drewN_refl w k).drew
theorem specRead_any (s:ByteArray) (w:World) (hs:s.size<=1048576) :
  Calls prog 61 #[.string s] w fun e w'=>Left w w' e (outS s):=by
 obtain ⟨i0,hi,hz0,hz1,hz2⟩:=info_parts infoN
 have OW0:Hid (Nodm.Own (w.alloc (.cells #[] 122)) w.heap.size (.slice (some ⟨w.heap.size,0,none⟩) 0 0) []):=World.ownsRow_lit w #[] 0 (Nat.le_refl _) (Nat.zero_le _) rfl
 go_enter func61,ntmps61
 go_wp2_with fail
 go_loopw [4,5,6] (fun x y z wr=>∃ (l:List Stepx.Node) (r:ByteArray) (f:Bool) (ao:Option Addr) (cap:Nat),r.size<=s.size/\l.length<=31/\x=.slice ao l.length cap/\y=.string r/\z=.bool f/\Hid (Nodm.Own wr w.heap.size (.slice ao l.length cap) l)/\Hid (∀ x ∈ l,x.2.2.size<=1048576)/\Hid (At s l r f)/\Hid (Below w.heap.size w wr)) (fun x _ _ _=>31-slen x)
 case atStart=>exact ⟨[],s,true,_,0,Nat.le_refl _,Nat.zero_le _,rfl,rfl,rfl,OW0.out,(fun x hx=>by cases hx),At.start s,zAl _ _⟩
 case round =>
  clear OW0
  obtain ⟨l,r,f,ao,cap,hr,hl,rfl,rfl,rfl,hown,hsm,hAt,hbel⟩:=hrel
  cases f with
  | false =>
   have EL:l=((W s).take 31).map nodeS:=hAt.out.fin hl (.inl rfl)
   have ct:=fun w hN=>specText_any ao cap l w hN (by omega)
   obtain ⟨R,hR⟩ : ∃ R,R=exprT l:=⟨_,rfl⟩
   have OUT:Hid ((¬ s.size=0/\R=s->outS s=some l)/\(s.size=0 \/ ¬ R=s->outS s=none)):=by
    refine ⟨fun h=>?_,fun h=>?_⟩
    ·unfold outS
     rw [<- EL,<- hR,if_neg (fun h'=>h'.elim h.1 (fun h2=>h2 h.2))]
    ·unfold outS
     rw [<- EL,<- hR,if_pos h]
   rw [<- hR] at ct
   clear hR EL
   by_cases hz:s.size=0
   ·have e0:s.toList.isEmpty=true:=Nums.empty_yes hz
    have hf:=left_none (w:=w) (o:=outS s) (OUT.out.2 (.inl hz)) hbel.out
    have HF:Hid _:=hf
    clear hf ct hown hsm hAt OUT
    go_wp2_with fail
    go_ret2
    exact HF.out
   ·have e0:s.toList.isEmpty=false:=Nums.empty_no hz
    by_cases hq:R=s
    ·have _hk:=0
     have q1:(R.toList == s.toList)=true:=eq_list.2 hq
     have q2:(R.toList != s.toList)=false:=by rw [bne,q1];rfl
     have HO2:Hid (outS s=some l):=OUT.out.1 ⟨hz,hq⟩
     clear hq hAt OUT
     go_wp2_with (go_at_call 87;refine (ct _ (nodes_own hown.out hsm.out)).mono ?_;rintro e w1 ⟨rfl,b1⟩;have B1:Hid (Below w.heap.size w w1/\Nodm.Own w1 w.heap.size (.slice ao l.length cap) l):=⟨hbel.out.trans (b1.mono hbel.out.size),Nodm.own_below hown.out b1⟩;clear b1)
     go_ret2
     exact left_some (ao:=ao) (cap:=cap) HO2.out B1.out.2 hsm.out (by omega) B1.out.1
    ·have _hk:=0
     have q1:(R.toList == s.toList)=false:=by
      cases hb:(R.toList == s.toList)
      ·rfl
      ·exact absurd (eq_list.1 hb) hq
     have q2:(R.toList != s.toList)=true:=by rw [bne,q1];rfl
     have HO2:Hid (outS s=none):=OUT.out.2 (.inr hq)
     clear hq hAt OUT
     go_wp2_with (go_at_call 87;refine (ct _ (nodes_own hown.out hsm.out)).mono ?_;rintro e w1 ⟨rfl,b1⟩;have B1:Hid (Below w.heap.size w w1/\Nodm.Own w1 w.heap.size (.slice ao l.length cap) l):=⟨hbel.out.trans (b1.mono hbel.out.size),Nodm.own_below hown.out b1⟩;clear b1)
     go_ret2
     exact left_none HO2.out B1.out.1
  | true =>
   by_cases h30:30<l.length
   ·have _hk:=0
    have EL:l=((W s).take 31).map nodeS:=hAt.out.fin hl (.inr (by omega))
    have ct:=fun w hN=>specText_any ao cap l w hN (by omega)
    obtain ⟨R,hR⟩ : ∃ R,R=exprT l:=⟨_,rfl⟩
    have OUT:Hid ((¬ s.size=0/\R=s->outS s=some l)/\(s.size=0 \/ ¬ R=s->outS s=none)):=by
     refine ⟨fun h=>?_,fun h=>?_⟩
     ·unfold outS
      rw [<- EL,<- hR,if_neg (fun h'=>h'.elim h.1 (fun h2=>h2 h.2))]
     ·unfold outS
      rw [<- EL,<- hR,if_pos h]
    rw [<- hR] at ct
    clear hR EL
    by_cases hz:s.size=0
    ·have e0:s.toList.isEmpty=true:=Nums.empty_yes hz
     have hf:=left_none (w:=w) (o:=outS s) (OUT.out.2 (.inl hz)) hbel.out
     have HF:Hid _:=hf
     clear hf ct hown hsm hAt OUT
     go_wp2_with fail
     go_ret2
     exact HF.out
    ·have e0:s.toList.isEmpty=false:=Nums.empty_no hz
     by_cases hq:R=s
     ·have _hk:=0
      have q1:(R.toList == s.toList)=true:=eq_list.2 hq
      have q2:(R.toList != s.toList)=false:=by rw [bne,q1];rfl
      have HO2:Hid (outS s=some l):=OUT.out.1 ⟨hz,hq⟩
      clear hq hAt OUT
      go_wp2_with (go_at_call 87;refine (ct _ (nodes_own hown.out hsm.out)).mono ?_;rintro e w1 ⟨rfl,b1⟩;have B1:Hid (Below w.heap.size w w1/\Nodm.Own w1 w.heap.size (.slice ao l.length cap) l):=⟨hbel.out.trans (b1.mono hbel.out.size),Nodm.own_below hown.out b1⟩;clear b1)
      go_ret2
      exact left_some (ao:=ao) (cap:=cap) HO2.out B1.out.2 hsm.out (by omega) B1.out.1
     ·have _hk:=0
      have q1:(R.toList == s.toList)=false:=by
       cases hb:(R.toList == s.toList)
       ·rfl
       ·exact absurd (eq_list.1 hb) hq
      have q2:(R.toList != s.toList)=true:=by rw [bne,q1];rfl
      have HO2:Hid (outS s=none):=OUT.out.2 (.inr hq)
      clear hq hAt OUT
      go_wp2_with (go_at_call 87;refine (ct _ (nodes_own hown.out hsm.out)).mono ?_;rintro e w1 ⟨rfl,b1⟩;have B1:Hid (Below w.heap.size w w1/\Nodm.Own w1 w.heap.size (.slice ao l.length cap) l):=⟨hbel.out.trans (b1.mono hbel.out.size),Nodm.own_below hown.out b1⟩;clear b1)
      go_ret2
      exact left_none HO2.out B1.out.1
   ·have cc:=l1Cut_any r wr (by omega)
    have za:=A_le r
    have zb:=B_le r
    have HS:Hid (At s (l ++ [nodeS (A r)]) (B r) (F r)):=hAt.out.step
    have cn:=fun W=>Nodj.l2Word_any (A r) W (by omega)
    have zn:=nodeS_sz (A r)
    clear hAt
    generalize nodeS (A r)=N at *
    generalize A r=X at *
    generalize B r=Y at *
    generalize F r=ff at *
    obtain ⟨nk,nn,ns⟩:=N
    unfold nodeV at cn
    dsimp only at cn zn
    obtain ⟨len,hlen⟩ : ∃ len,len=l.length:=⟨_,rfl⟩
    have HL:Hid (len=l.length):=hlen
    rw [<- hlen] at hl h30 hown |-
    clear hlen
    have own1:Hid (∀ W o,Below wr.heap.size wr W->(W.alloc o).ownsRow w.heap.size 122 3 (.slice ao len cap) len (cellsOf l)):=fun W o hb=>by
     have h:=hown.out
     rw [HL.out] at h |-
     exact (Nodm.own_below h hb).alloc o
    go_wp2_with (first|(go_at_call 21;refine cc.mono ?_;rintro e w1 ⟨rfl,n1,rfl⟩)|(go_at_call 99;refine (cn _).mono ?_;rintro e w2 ⟨rfl,b2⟩;have B2:Hid (Below wr.heap.size wr w2):=(drewN_refl wr n1).trans (b2.mono (drewN_refl wr n1).size);clear b2)|(at_builtin;refine wpList_append_own _ rfl _ _ 67 rfl w.heap.size 122 i0 (.agg #[.int .i64 0,.int .i64 0,.string ⟨#[]⟩]) 3 32 underlying67 hi hz0 hz1 hz2 rfl (by decide) (.slice ao len cap) len (cellsOf l) rfl (own1.out _ _ B2.out) ⟨w2.heap.size,0,none⟩ 1 1 [.int .i64 nk,.int .i64 nn,.string ns] rfl rfl ?c1 ?c2 ?c3 ?c4 ?c5 ?_)|fail)
    case c1 =>
     intro j u hj
     match j,hj with
     | 0,hj=>simp at hj;subst hj;show World.cell? _ ⟨w2.heap.size,0,none⟩=_;rw [World.cell?_alloc_new];rfl
     | 1,hj=>simp at hj;subst hj;show World.cell? _ ⟨w2.heap.size,1,none⟩=_;rw [World.cell?_alloc_new];rfl
     | 2,hj=>simp at hj;subst hj;show World.cell? _ ⟨w2.heap.size,2,none⟩=_;rw [World.cell?_alloc_new];rfl
    case c2=>intro u hu;simp at hu;rcases hu with rfl|rfl|rfl <;> rfl
    case c3=>unfold maxLen;omega
    case c4=>omega
    case c5=>simp;have:=hbel.out.size;have:=B2.out.size;omega
    intro v' w3 hown' hgrow _
    have e1:(l ++ [(nk,nn,ns)]).length=len+1:=by rw [List.length_append,<- HL.out];rfl
    have OW:Hid (Nodm.Own w3 w.heap.size v' (l ++ [(nk,nn,ns)])):=by
     show World.ownsRow _ _ _ _ _ _ _
     rw [e1,cells_snoc];exact hown'
    have BB:Below w.heap.size w w2:=hbel.out.trans (B2.out.mono hbel.out.size)
    have BW:Hid (Below w.heap.size w w3):=(BB.alloc BB.size _).grown hgrow (by have:=BB.size;simp;omega) (fun k hk=>((own1.out w2 (.cells #[] 0) B2.out).lt k hk).1)
    have SM:Hid (∀ x ∈ l ++ [(nk,nn,ns)],x.2.2.size<=1048576):=fun x hx=>by
     rcases List.mem_append.1 hx with hx|hx
     ·exact hsm.out x hx
     ·rw [List.mem_singleton.1 hx]
      show ns.size<=_
      omega
    have E1:Hid ((l ++ [(nk,nn,ns)]).length=len+1):=e1
    obtain ⟨ao',cap',rfl⟩ : ∃ ao' cap',v'=.slice ao' (len+1) cap':=by
     rcases hown'.2 with ⟨_,h⟩|⟨g,c,cur,hv,_⟩
     ·omega
     ·exact ⟨_,_,hv⟩
    clear hown' hgrow own1 hown hbel hsm cn cc e1 BB
    go_wp2_with fail
    go_roundw
    case rel=>exact ⟨l ++ [(nk,nn,ns)],Y,ff,ao',cap',by omega,by rw [E1.out];omega,by rw [E1.out],rfl,rfl,by rw [E1.out];exact OW.out,SM.out,HS.out,BW.out⟩
    case measure=>show 31-(len+1)<31-len;omega
end Wors
namespace Rbyu
open Go.Deep
open Lib (byteCells)
open Otxa Otxb Rbyt
theorem implBytes_any (s:ByteArray) (w:World) (hT:Nums.Tab w) (hs:s.size<=1048576):Calls prog 102 #[.string s] w (Told9 s w):=by
 obtain ⟨i0,hi,hz0,hz1,hz2⟩:=info_parts Obuf.info5
 have HT:Hid (Nums.Tab w):=hT
 have HG:Hid (0<w.heap.size):=Hex.size_pos hT
 clear hT
 by_cases hev:s.size%2=0
 ·have d3:(s.size:Int).tmod 2=0:=by rw [Int.tmod_eq_emod_of_nonneg (by omega)];omega
  have HE:Hid (s.size%2=0):=hev
  clear hev
  go_enter func102,ntmps102
  go_wp2
  go_loopw [4,5] (fun v i wr=>∃ (k:Nat) (D:List UInt8),i=.int .i64 (k:Int)/\Hid (St s k D)/\Hid (wr.ownsRow w.heap.size 5 1 v D.length (byteCells D))/\Hid (Below w.heap.size w wr)) (fun _ i _=>s.size-(intOf i).toNat)
  case atStart=>exact ⟨0,[],rfl,St.start s,World.ownsRow_nil _ _ _ _,Below.refl _ _⟩
  case round =>
   obtain ⟨k,D,rfl,hst,hown,hbel⟩:=hrel
   clear d3
   have hks:=hst.out.2.1
   have hDl:D.length<=1048576:=by have:=hst.out.1;omega
   have p1:IntKind.i64.wrap ((k:Int)+1)=(k:Int)+1:=by rw [IntKind.wrap_i64];omega
   by_cases hlt0:k<s.size
   ·have hlt:k+1<s.size:=by have:=hst.out.1;have:=HE.out;omega
    obtain ⟨ca,hca⟩ : ∃ c:Int,c=(s[k].toNat:Int):=⟨_,rfl⟩
    obtain ⟨cb,hcb⟩ : ∃ c:Int,c=(s[k+1].toNat:Int):=⟨_,rfl⟩
    have ix0:∀ w,(Instr.index 9 (.string s) (.int .i64 (k:Int))).run prog w=.ok (.int .u8 ca) w:=fun w=>by
     rw [run_index_string (P:=prog) w 9 s .i64 (k:Int) underlying9,dif_pos ⟨by omega,by omega⟩,hca];rfl
    have ix1:∀ w,(Instr.index 9 (.string s) (.int .i64 ((k:Int)+1))).run prog w=.ok (.int .u8 cb) w:=fun w=>by
     rw [run_index_string (P:=prog) w 9 s .i64 ((k:Int)+1) underlying9,dif_pos ⟨by omega,by omega⟩,hcb];rfl
    have xb:=Nums.digS_bd ca
    have yb:=Nums.digS_bd cb
    have HX:Hid (dS s[k]=Nums.digS ca):=(show dS _=_ from by unfold dS;rw [<- hca])
    have HY:Hid (dS s[k+1]=Nums.digS cb):=(show dS _=_ from by unfold dS;rw [<- hcb])
    obtain ⟨x,hx⟩ : ∃ x,x=Nums.digI ca:=⟨_,rfl⟩
    obtain ⟨y,hy⟩ : ∃ x,x=Nums.digI cb:=⟨_,rfl⟩
    have hT1:∀ d os,Nums.Tab (Go.Sort.grow (redrawn wr d) os):=fun d os i hi=>((hbel.out.trans ((below_regrown wr d os).mono hbel.out.size)).cell (p:=⟨0,i,none⟩) HG.out).trans (HT.out i hi)
    have k0:=fun d os=>Calls.regrown_of (d:=d) (os:=os) ((Nums.digitOf_any ca (Go.Sort.grow (redrawn wr d) os) (hT1 d os)).mono (fun e w' h=>⟨h.1,by rw [h.2];exact zRf⟩))
    have k1:=fun d os=>Calls.regrown_of (d:=d) (os:=os) ((Nums.digitOf_any cb (Go.Sort.grow (redrawn wr d) os) (hT1 d os)).mono (fun e w' h=>⟨h.1,by rw [h.2];exact zRf⟩))
    rw [<- hx] at k0
    rw [<- hy] at k1
    unfold Nums.digI at hx hy
    have XV:Hid (x=if Nums.digS ca=99 then -1 else Nums.digS ca):=hx
    have YV:Hid (y=if Nums.digS cb=99 then -1 else Nums.digS cb):=hy
    have e0:decide ((k:Int)<(s.size:Int))=true:=decide_eq_true (by omega)
    have e0n:decide (k<s.size)=true:=decide_eq_true hlt0
    clear hca hcb hx hy hT1
    go_upto_region 7 with fail
    refine wp_region_quiet_below (by kernel_rfl) (by kernel_rfl) ?_
    repeat (go_big_quiet_step (first|fail|with_reducible exact k0 _ _|with_reducible exact k1 _ _))
    refine wpQuiet_nil ?_
    intro _ hw'
    obtain ⟨⟨dq,osq⟩,hw''⟩:=hw'
    subst hw''
    have own1:Hid ((Go.Sort.grow (redrawn wr dq) osq).ownsRow w.heap.size 5 1 u4 D.length (byteCells D)):=own_below hown.out (below_regrown wr dq osq)
    have bel1:Hid (Below w.heap.size w (Go.Sort.grow (redrawn wr dq) osq)):=hbel.out.trans ((below_regrown wr dq osq).mono hbel.out.size)
    generalize Go.Sort.grow (redrawn wr dq) osq=W1 at own1 bel1 |-
    clear hown hbel k0 k1 ix0 ix1 e0 e0n
    by_cases q1:x<0
    ·have d1:decide (x<0)=true:=decide_eq_true q1
     have HN:Hid (byO s.data.toList=none):=hst.out.bad hlt (.inl (by
      rw [HX.out];have:=XV.out;split at this
      ·assumption
      ·omega))
     clear xb yb
     go_wp2
     go_ret2
     exact Told9.no HN.out bel1.out
    ·have d1:decide (x<0)=false:=decide_eq_false q1
     by_cases q2:y<0
     ·have d2:decide (y<0)=true:=decide_eq_true q2
      have HN:Hid (byO s.data.toList=none):=hst.out.bad hlt (.inr (by
       rw [HY.out];have:=YV.out;split at this
       ·assumption
       ·omega))
      clear xb yb
      go_wp2
      go_ret2
      exact Told9.no HN.out bel1.out
     ·have d2:decide (y<0)=false:=decide_eq_false q2
      have x1:x=Nums.digS ca/\¬ Nums.digS ca=99:=by
       have:=XV.out
       by_cases h:Nums.digS ca=99
       ·rw [if_pos h] at this;omega
       ·rw [if_neg h] at this;exact ⟨this,h⟩
      have y1:y=Nums.digS cb/\¬ Nums.digS cb=99:=by
       have:=YV.out
       by_cases h:Nums.digS cb=99
       ·rw [if_pos h] at this;omega
       ·rw [if_neg h] at this;exact ⟨this,h⟩
      have xr:0<=x/\x<=15:=by omega
      have yr:0<=y/\y<=15:=by omega
      have HS2:Hid (St s (k+2) (D ++ [UInt8.ofNat (x*16+y).toNat])):=(show St _ _ _ from by
       have:=hst.out.on hlt (by rw [HX.out,HY.out];omega)
       rw [HX.out,HY.out,<- x1.1,<- y1.1,Int.mul_comm] at this;exact this)
      have p3:IntKind.i64.wrap (x*16)=x*16:=by rw [IntKind.wrap_i64];omega
      have p4:IntKind.i64.wrap (x*16+y)=x*16+y:=by rw [IntKind.wrap_i64];omega
      have p5:IntKind.u8.wrap (x*16+y)=x*16+y:=by rw [IntKind.wrap_u8];omega
      have p6:IntKind.i64.wrap ((k:Int)+2)=(k:Int)+2:=by rw [IntKind.wrap_i64];omega
      have vb:0<=x*16+y/\x*16+y<=255:=by omega
      have own2:Hid (∀ o,(W1.alloc o).ownsRow w.heap.size 5 1 u4 D.length (byteCells D)):=fun o=>own1.out.alloc o
      have hlt2:=own1.out.lt
      clear x1 y1 xb yb hst XV YV HX HY
      go_wp2_with (first|(at_builtin;refine wpList_append_own _ rfl _ _ 32 rfl w.heap.size 5 i0 (.int .u8 0) 1 1 underlying32 hi hz0 hz1 hz2 rfl (by decide) _ D.length (byteCells D) rfl (own2.out _) ⟨W1.heap.size,0,none⟩ 1 1 [.int .u8 (x*16+y)] rfl rfl ?g2 ?g3 ?g4 ?g5 ?g6 ?_)|fail)
      try (case g2=>intro j u hu;rw [Addr.add_lit,Nat.zero_add,World.cell?_alloc_new];simpa using hu)
      case g3=>first|rfl|(intro u hu;simp at hu;subst hu;rfl)
      case g4=>unfold maxLen;omega
      case g5=>omega
      case g6=>have:=bel1.out.size;simp;omega
      intro v' w9 hown' hgrow _
      have own9:Hid (w9.ownsRow w.heap.size 5 1 v' (D ++ [UInt8.ofNat (x*16+y).toNat]).length (byteCells (D ++ [UInt8.ofNat (x*16+y).toNat]))):=(show World.ownsRow _ _ _ _ _ _ _ from by
       rw [byte_cell vb.1 vb.2,List.length_append];exact hown')
      have bel9:Hid (Below w.heap.size w w9):=(bel1.out.alloc bel1.out.size _).grown hgrow (by have:=bel1.out.size;simp;omega) (fun j hj=>(hlt2 j hj).1)
      clear hown' hgrow hlt2 own1 own2 bel1
      go_wp2
      go_roundw
      case rel=>exact ⟨k+2,D ++ [UInt8.ofNat (x*16+y).toNat],by go_num,HS2.out,own9.out,bel9.out⟩
      case measure=>simp [intOf];omega
   ·have e0:decide ((k:Int)<(s.size:Int))=false:=decide_eq_false (by omega)
    have e0n:decide (k<s.size)=false:=decide_eq_false hlt0
    have hcv:=Obuf.str_own (W:=wr) (l:=D) hown.out
    have HF:Hid (byO s.data.toList=some D):=hst.out.fin (by omega)
    clear hown
    go_wp2
    go_ret2
    exact Told9.yes HF.out hbel.out
 ·have d3:(s.size:Int).tmod 2=1:=by rw [Int.tmod_eq_emod_of_nonneg (by omega)];omega
  have HN:Hid (byO s.data.toList=none):=St.odd (by omega)
  clear hev
  go_enter func102,ntmps102
  go_wp2
  go_ret2
  exact Told9.no HN.out zRf
end Rbyu
end Go.Proofs.YtickfkphhngagaaGreatDoor
