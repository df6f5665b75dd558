import Derived.Test.YtickfkphhngagaaGreatDoorP07
set_option linter.all false
set_option maxRecDepth 20000
set_option maxHeartbeats 8000000
open Go.ChangeShapes Go.WideShapes Go.ChangeAt Go.RowKit
open Go.Proofs.Tryz
namespace Go.Proofs.YtickfkphhngagaaGreatDoor
namespace Nodi
open Optx Extx Exts
def opAtB (w:ByteArray) (j:Nat):Bool:=(opTab.getD j ⟨#[]⟩).toList == w.toList
def opI (w:ByteArray):Option Nat:=(List.range 14).find? (opAtB w)
theorem op_first {w:ByteArray} {k:Nat} (hk:k<14) (hn:∀ j,j<k->opAtB w j=false) (h:opAtB w k=true):opI w=some k:=by
 unfold opI
 rw [List.find?_eq_some_iff_append]
 refine ⟨h,List.range k,(List.range (14-k-1)).map (·+(k+1)),?_,fun a ha=>by rw [hn a (List.mem_range.1 ha)];rfl⟩
 have:∀ k,k<14->List.range 14=List.range k ++ k :: (List.range (14-k-1)).map (·+(k+1)):=by decide
 exact this k hk
theorem op_none {w:ByteArray} (hn:∀ j,j<14->opAtB w j=false):opI w=none:=by
 unfold opI
 rw [List.find?_eq_none]
 intro a ha
 rw [hn a (List.mem_range.1 ha)];simp
def numI (w:ByteArray):Option Int:=match Nums.num w with
 | some n=>if ((decW n).toList == w.toList)=true then some n else none
 | none=>none
def hash (w:ByteArray):Bool:=decide (0<w.size/\(w.data.getD 0 0).toNat=35)
def nodeI (w:ByteArray):Stepx.Node:=match opI w with
 | some j=>(4+(j:Int),0,⟨#[]⟩)
 | none=>match numI w with
  | some n=>(1,n,⟨#[]⟩)
  | none=>if hash w=true then (3,0,w.extract 1 w.size) else (2,0,w)
def nodeS (w:ByteArray):Stepx.Node:=match opI w with
 | some j=>(4+(j:Int),0,⟨#[]⟩)
 | none=>match Nums.num w with
  | some n=>(1,n,⟨#[]⟩)
  | none=>if hash w=true then (3,0,w.extract 1 w.size) else (2,0,w)
def nodeV (x:Stepx.Node):Value:=.agg #[.int .i64 x.1,.int .i64 x.2.1,.string x.2.2]
def Zero (w:World) (b:Nat):Prop:=w.cell? ⟨b,0,none⟩=some (.int .i64 0)/\w.cell? ⟨b,1,none⟩=some (.int .i64 0)/\w.cell? ⟨b,2,none⟩=some (.string ⟨#[]⟩)/\(∀ i,w.frozen? ⟨b,i,none⟩=false)/\b<w.heap.size
theorem Zero.new (w:World):Zero (w.alloc (.cells #[.int .i64 0,.int .i64 0,.string ⟨#[]⟩] 122)) w.heap.size:=by
 refine ⟨?_,?_,?_,fun i=>World.frozen?_alloc_at _ _ _ _ rfl,by simp⟩
 ·rw [World.cell?_alloc_new];rfl
 ·rw [World.cell?_alloc_new];rfl
 ·rw [World.cell?_alloc_new];rfl
theorem Zero.below {w w':World} {b:Nat} (h:Zero w b) (hb:Below w.heap.size w w'):Zero w' b:=by
 obtain ⟨h0,h1,h2,h3,h4⟩:=h
 exact ⟨(hb.cell (p:=⟨b,_,none⟩) h4).trans h0,(hb.cell (p:=⟨b,_,none⟩) h4).trans h1,(hb.cell (p:=⟨b,_,none⟩) h4).trans h2,fun i=>(World.frozen?_of_block (a:=⟨b,i,none⟩) (hb.block b h4)).trans (h3 i),Nat.lt_of_lt_of_le h4 hb.size⟩
theorem Zero.put {w:World} {B:Nat} (h:Zero w B) (x y z:Value):(((w.setCell ⟨B,0,none⟩ x).setCell ⟨B,1,none⟩ y).setCell ⟨B,2,none⟩ z).cell? ⟨B,0,none⟩=some x/\(((w.setCell ⟨B,0,none⟩ x).setCell ⟨B,1,none⟩ y).setCell ⟨B,2,none⟩ z).cell? ⟨B,1,none⟩=some y/\(((w.setCell ⟨B,0,none⟩ x).setCell ⟨B,1,none⟩ y).setCell ⟨B,2,none⟩ z).cell? ⟨B,2,none⟩=some z:=by
 obtain ⟨h0,h1,h2,h3,h4⟩:=h
 refine ⟨?_,?_,?_⟩
 ·rw [World.cell?_setCell_other _ _ _ _ (by simp),World.cell?_setCell_other _ _ _ _ (by simp)]
  exact World.cell?_setCell_same _ _ _ h0
 ·rw [World.cell?_setCell_other _ _ _ _ (by simp)]
  exact World.cell?_setCell_same _ _ _ ((World.cell?_setCell_other _ _ _ _ (by simp)).trans h1)
 ·exact World.cell?_setCell_same _ _ _ ((World.cell?_setCell_other _ _ _ _ (by simp)).trans ((World.cell?_setCell_other _ _ _ _ (by simp)).trans h2))
theorem set3_below {w W:World} {B:Nat} (h:Below w.heap.size w W) (hB:w.heap.size<=B) (x y z:Value):Below w.heap.size w (((W.setCell ⟨B,0,none⟩ x).setCell ⟨B,1,none⟩ y).setCell ⟨B,2,none⟩ z) :=
 ((h.setCell (p:=⟨B,0,none⟩) hB _).setCell (p:=⟨B,1,none⟩) hB _).setCell (p:=⟨B,2,none⟩) hB _
theorem word_bd:∀ (l:List UInt8) (b n r:Int),0<=n->n<=65535->2<=b->Nums.word b n l=some r->0<=r/\r<=65535
 | [],b,n,r,h0,h1,hb,h=>by cases h;exact ⟨h0,h1⟩
 | c :: l,b,n,r,h0,h1,hb,h=>by
  have h:(if b<=Nums.digS (c.toNat:Int) then none else if 65535<n*b+Nums.digS (c.toNat:Int) then none else Nums.word b (n*b+Nums.digS (c.toNat:Int)) l)=some r:=h
  split at h
  ·cases h
  split at h
  ·cases h
  ·rename_i h2
   have hd:=(Nums.digS_bd (c.toNat:Int)).1
   have hm:0<=n*b:=Int.mul_nonneg h0 (by omega)
   exact word_bd l b _ r (by omega) (by omega) hb h
theorem num_bd {s:ByteArray} {n:Int} (h:Nums.num s=some n):0<=n/\n<=65535:=by
 have base:∀ (x:ByteArray) (b:Int),2<=b->Nums.base x b=some n->0<=n/\n<=65535:=fun x b hb h=>by
  unfold Nums.base at h
  split at h
  ·cases h
  ·exact word_bd _ b 0 n (by omega) (by omega) hb h
 unfold Nums.num at h
 split at h
 ·cases h
 split at h
 ·exact base _ 16 (by omega) h
 split at h
 ·exact base _ 2 (by omega) h
 ·exact base _ 10 (by omega) h
theorem hash_has (s:ByteArray):Lib.hasPrefix s.data.toList [35]=hash s:=by
 unfold hash Lib.hasPrefix
 cases h:s.data.toList with
 | nil =>
  have:s.size=0:=by show s.data.size=0;rw [<- Array.length_toList,h];rfl
  rw [decide_eq_false (by omega)];rfl
 | cons c r =>
  have hsz:0<s.size:=by show 0<s.data.size;rw [<- Array.length_toList,h];exact Nat.succ_pos _
  have hc:s.data.getD 0 0=c:=by
   have:s.data.toList[0]? = some c:=by rw [h];rfl
   rw [Array.getElem?_toList] at this
   rw [Array.getD_eq_getD_getElem?,this];rfl
  rw [hc]
  rw [Bool.eq_iff_iff]
  simp [List.isPrefixOf,hsz]
  constructor
  ·intro e;rw [<- e];rfl
  ·intro e;exact (UInt8.toNat_inj.1 e.symm)
theorem tab_below {w w':World} (h:Nums.Tab w) (hb:Below w.heap.size w w'):Nums.Tab w':=fun i hi=>(hb.cell (p:=⟨0,i,none⟩) (World.block_lt_of_cell? w ⟨0,0,none⟩ (h 0 (by decide)))).trans (h i hi)
theorem nodeOf_any (s:ByteArray) (w:World) (hs:s.size<=1048576) (hT:OpTab w) (hP:Pow w) (hX:Nums.Tab w) :
  Calls prog 132 #[.string s] w fun e w'=>e=.returned (nodeV (nodeI s))/\Below w.heap.size w w':=by
 have B0:Hid (Below w.heap.size w (w.alloc (.cells #[.int .i64 0,.int .i64 0,.string ⟨#[]⟩] 122))):=zAl _ _
 have Z0:Hid (Zero (w.alloc (.cells #[.int .i64 0,.int .i64 0,.string ⟨#[]⟩] 122)) w.heap.size):=Zero.new w
 have HT:Hid (OpTab w/\Pow w/\Nums.Tab w):=⟨hT,hP,hX⟩
 clear hT hP hX
 go_enter func132,ntmps132
 go_wp2_with fail
 generalize w.alloc (.cells #[.int .i64 0,.int .i64 0,.string ⟨#[]⟩] 122)=W0 at B0 Z0 |-
 go_loopw [3] (fun i wr=>∃ k:Nat,k<=14/\i=.int .i64 (4+(k:Int))/\Hid (∀ j,j<k->opAtB s j=false)/\wr=W0) (fun i _=>18-(intOf i).toNat)
 case atStart=>exact ⟨0,Nat.zero_le _,rfl,fun j h=>absurd h (Nat.not_lt_zero _),rfl⟩
 case round =>
  obtain ⟨k,hk,rfl,hno,rfl⟩:=hrel
  by_cases hlt:k<14
  ·have c0:=(HT.out.1.below B0.out) k hlt
   have e4:(4+(k:Int))-4=(k:Int):=by omega
   have k0:(0:Int)<=(k:Int):=by omega
   have k1:(k:Int)<14:=by omega
   have hw4:(4+(k:Int))<=17:=by omega
   cases hb:opAtB s k with
   | true =>
    have HV:Hid (nodeV (nodeI s)=nodeV (4+(k:Int),0,⟨#[]⟩)):=by show _=_;unfold nodeI;rw [op_first hlt hno.out hb]
    have hb':((opTab.getD k ⟨#[]⟩).toList == s.toList)=true:=hb
    generalize opTab.getD k ⟨#[]⟩=T at c0 hb'
    obtain ⟨r0,r1,r2,f0,hrl⟩:=Z0.out
    have ZP:Hid (_/\_/\_):=Z0.out.put (.int .i64 (4+(k:Int))) (.int .i64 0) (.string ⟨#[]⟩)
    have BB:Hid (Below w.heap.size w wr):=B0.out
    clear hno hb Z0
    go_wp2_with fail
    obtain ⟨p0,p1,p2⟩:=ZP.out
    exact bodyPost_ret (v:=.agg #[.int .i64 (4+(k:Int)),.int .i64 0,.string ⟨#[]⟩]) (by simp [results,results132,go_sem,p0,p1,p2]) rfl ⟨(congrArg Ending.returned HV.out).symm,set3_below BB.out (Nat.le_refl _) _ _ _⟩
   | false =>
    have HN2:Hid (∀ j,j<k+1->opAtB s j=false):=fun j hj=>by
     rcases Nat.lt_or_ge j k with h|h
     ·exact hno.out j h
     ·have e:j=k:=by omega
      subst e;exact hb
    have hb':((opTab.getD k ⟨#[]⟩).toList == s.toList)=false:=hb
    generalize opTab.getD k ⟨#[]⟩=T at c0 hb'
    clear hno hb
    go_wp2_with fail
    go_roundw
    case rel=>exact ⟨k+1,by omega,by first|go_num|(congr 1;omega),HN2.out,by first|rfl|trivial⟩
    case measure=>simp [intOf];omega
  ·have e:k=14:=by omega
   subst e
   have HOP:Hid (opI s=none):=op_none hno.out
   have cn:=Nums.implNum_any s wr (tab_below HT.out.2.2 B0.out) (by unfold maxLen;omega)
   have HP0:Hid (Pow wr):=HT.out.2.1.below B0.out
   clear hno
   cases hn:Nums.num s with
   | none =>
    rw [hn] at cn
    simp only [Option.getD_none,Option.isSome_none] at cn
    have HNI:Hid (numI s=none):=by show _=_;unfold numI;rw [hn]
    clear hn
    have ch:=fun W=>Tryz.strings_HasPrefix s ⟨#[35]⟩ W
    rw [show (⟨#[35]⟩ : ByteArray).data.toList=[35] from rfl,hash_has] at ch
    cases hh:hash s with
    | true =>
     rw [hh] at ch
     have HV:Hid (nodeV (nodeI s)=nodeV (3,0,(s.extract 1 s.size))):=by show _=_;unfold nodeI;rw [HOP.out];simp only;rw [HNI.out];simp only;rw [hh];rfl
     have hs1:1<=s.size:=(of_decide_eq_true hh).1
     clear hh
     obtain ⟨r0,r1,r2,f0,hrl⟩:=Z0.out
     have ZP:Hid (_/\_/\_):=(Z0.out).put (.int .i64 3) (.int .i64 0) (.string (s.extract 1 s.size))
     have BB:Hid (Below w.heap.size w wr):=B0.out
     go_wp2_with fail
     refine cn.mono ?_
     rintro e w' ⟨rfl,hw'⟩
     have hw':=hw'.symm
     subst hw'
     go_wp2_with (first|(go_at_call 160;refine (ch _).mono ?_;rintro e w' ⟨rfl,hw'⟩;have hw':=hw'.symm;subst hw')|go_in)
     obtain ⟨p0,p1,p2⟩:=ZP.out
     exact bodyPost_ret (v:=.agg #[.int .i64 3,.int .i64 0,.string (s.extract 1 s.size)]) (by simp [results,results132,go_sem,p0,p1,p2]) rfl ⟨(congrArg Ending.returned HV.out).symm,set3_below BB.out (Nat.le_refl _) _ _ _⟩
    | false =>
     rw [hh] at ch
     have HV:Hid (nodeV (nodeI s)=nodeV (2,0,s)):=by show _=_;unfold nodeI;rw [HOP.out];simp only;rw [HNI.out];simp only;rw [hh];rfl
     clear hh
     obtain ⟨r0,r1,r2,f0,hrl⟩:=Z0.out
     have ZP:Hid (_/\_/\_):=(Z0.out).put (.int .i64 2) (.int .i64 0) (.string s)
     have BB:Hid (Below w.heap.size w wr):=B0.out
     go_wp2_with fail
     refine cn.mono ?_
     rintro e w' ⟨rfl,hw'⟩
     have hw':=hw'.symm
     subst hw'
     go_wp2_with (first|(go_at_call 160;refine (ch _).mono ?_;rintro e w' ⟨rfl,hw'⟩;have hw':=hw'.symm;subst hw')|go_in)
     obtain ⟨p0,p1,p2⟩:=ZP.out
     exact bodyPost_ret (v:=.agg #[.int .i64 2,.int .i64 0,.string s]) (by simp [results,results132,go_sem,p0,p1,p2]) rfl ⟨(congrArg Ending.returned HV.out).symm,set3_below BB.out (Nat.le_refl _) _ _ _⟩
   | some n =>
    rw [hn] at cn
    simp only [Option.getD_some,Option.isSome_some] at cn
    have hbd:=num_bd hn
    have cf:∀ W,Pow W->Calls prog 79 #[.int .i64 n,.int .i64 10] W fun e w'=>e=.returned (.string (decW n))/\Below W.heap.size W w':=fun W h =>
     (Tryz.strconv_FormatInt_10 n (by omega) (by omega) W h).mono (by
      rintro e w' ⟨rfl,k,os,rfl⟩
      exact ⟨rfl,Lib.below_grow _ _ (Nat.le_refl _) k os⟩)
    cases hq:((decW n).toList == s.toList) with
    | true =>
     have HV:Hid (nodeV (nodeI s)=nodeV (1,n,⟨#[]⟩)):=by show _=_;unfold nodeI numI;rw [HOP.out];simp only;rw [hn];simp only;rw [hq];rfl
     clear hn
     generalize decW n=D at cf hq
     go_wp2_with fail
     refine cn.mono ?_
     rintro e w' ⟨rfl,hw'⟩
     have hw':=hw'.symm
     subst hw'
     go_wp2_with fail
     refine (cf _ HP0.out).mono ?_
     rintro e w3 ⟨rfl,b3⟩
     have ZZ:=zHd (Z0.out.below b3)
     have BB:Hid (Below w.heap.size w w3):=B0.out.trans (b3.mono B0.out.size)
     have BB3:Hid (Below w.heap.size w w3):=BB.out
     clear b3 cf
     obtain ⟨r0,r1,r2,f0,hrl⟩:=ZZ.out
     have ZP:Hid (_/\_/\_):=ZZ.out.put (.int .i64 1) (.int .i64 n) (.string ⟨#[]⟩)
     go_wp2_with fail
     obtain ⟨p0,p1,p2⟩:=ZP.out
     exact bodyPost_ret (v:=.agg #[.int .i64 1,.int .i64 n,.string ⟨#[]⟩]) (by simp [results,results132,go_sem,p0,p1,p2]) rfl ⟨(congrArg Ending.returned HV.out).symm,set3_below BB.out (Nat.le_refl _) _ _ _⟩
    | false =>
     have HNI:Hid (numI s=none):=by show _=_;unfold numI;rw [hn];simp only;rw [hq];rfl
     clear hn
     generalize decW n=D at cf hq
     go_wp2_with fail
     refine cn.mono ?_
     rintro e w' ⟨rfl,hw'⟩
     have hw':=hw'.symm
     subst hw'
     go_wp2_with fail
     refine (cf _ HP0.out).mono ?_
     rintro e w3 ⟨rfl,b3⟩
     have ZZ:=zHd (Z0.out.below b3)
     have BB:Hid (Below w.heap.size w w3):=B0.out.trans (b3.mono B0.out.size)
     have BB3:Hid (Below w.heap.size w w3):=BB.out
     clear b3 cf
     have ch:=fun W=>Tryz.strings_HasPrefix s ⟨#[35]⟩ W
     rw [show (⟨#[35]⟩ : ByteArray).data.toList=[35] from rfl,hash_has] at ch
     cases hh:hash s with
     | true =>
      rw [hh] at ch
      have HV:Hid (nodeV (nodeI s)=nodeV (3,0,(s.extract 1 s.size))):=by show _=_;unfold nodeI;rw [HOP.out];simp only;rw [HNI.out];simp only;rw [hh];rfl
      have hs1:1<=s.size:=(of_decide_eq_true hh).1
      clear hh
      obtain ⟨r0,r1,r2,f0,hrl⟩:=ZZ.out
      have ZP:Hid (_/\_/\_):=(ZZ.out).put (.int .i64 3) (.int .i64 0) (.string (s.extract 1 s.size))
      have BB:Hid (Below w.heap.size w w3):=BB3.out
      go_wp2_with (first|(go_at_call 160;refine (ch _).mono ?_;rintro e w' ⟨rfl,hw'⟩;have hw':=hw'.symm;subst hw')|go_in)
      obtain ⟨p0,p1,p2⟩:=ZP.out
      exact bodyPost_ret (v:=.agg #[.int .i64 3,.int .i64 0,.string (s.extract 1 s.size)]) (by simp [results,results132,go_sem,p0,p1,p2]) rfl ⟨(congrArg Ending.returned HV.out).symm,set3_below BB.out (Nat.le_refl _) _ _ _⟩
     | false =>
      rw [hh] at ch
      have HV:Hid (nodeV (nodeI s)=nodeV (2,0,s)):=by show _=_;unfold nodeI;rw [HOP.out];simp only;rw [HNI.out];simp only;rw [hh];rfl
      clear hh
      obtain ⟨r0,r1,r2,f0,hrl⟩:=ZZ.out
      have ZP:Hid (_/\_/\_):=(ZZ.out).put (.int .i64 2) (.int .i64 0) (.string s)
      have BB:Hid (Below w.heap.size w w3):=BB3.out
      go_wp2_with (first|(go_at_call 160;refine (ch _).mono ?_;rintro e w' ⟨rfl,hw'⟩;have hw':=hw'.symm;subst hw')|go_in)
      obtain ⟨p0,p1,p2⟩:=ZP.out
      exact bodyPost_ret (v:=.agg #[.int .i64 2,.int .i64 0,.string s]) (by simp [results,results132,go_sem,p0,p1,p2]) rfl ⟨(congrArg Ending.returned HV.out).symm,set3_below BB.out (Nat.le_refl _) _ _ _⟩
end Nodi
namespace Seco
open Go.Deep
open Signed (inB)
open Names (nameB ret_bool)
open Stepx (exprB)
def base (k:Int):Int:=if k=0 then 0 else if k=1 then 256 else 49152
def psize (k:Int):Int:=if k=2 then 2 else 1
def patchB (n:Nat) (p:Patr.X):Bool:=inB p.f1 1 3 && inB p.f0 0 ((n:Int)-psize p.f1) && exprB p.f2
def roomB (kind addr:Int) (n:Nat):Bool:=decide (n<=256) && (addr == -1 || inB addr (base kind) (base kind+256-n))
def bankB (kind bank:Int):Bool:=bank == -1 || (kind == 1 && inB bank 1 15)
def zeroB (d:ByteArray):Bool:=d.data.toList.all (· == 0)
def dataB (kind:Int) (d:ByteArray):Bool:=kind != 2 || zeroB d
def patchesB (kind:Int) (n:Nat) (Q:List Patr.X):Bool:=decide (Q.length<=256) && !(kind == 2 && decide (0<Q.length)) && Q.all (patchB n)
def secB (x:Secr.X):Bool:=nameB x.f0 && inB x.f1 0 2 && roomB x.f1 x.f3 x.f4.size && bankB x.f1 x.f2 && dataB x.f1 x.f4 && patchesB x.f1 x.f4.size x.f5
theorem cel {W:World} {B:Nat} {vs:Array Value} {T:TypeId} (h:W.heap[B]? = some (.cells vs T)) (i:Nat) (v:Value) (hv:vs[i]? = some v):W.cell? ⟨B,i,none⟩=some v:=by
 simp [World.cell?,h,hv]
theorem drewN_below {B:Nat} {a b:World} (h:Below B a b) (n:Nat):Below B a (b.drewN n):=⟨h.os,h.tape,h.output,h.size,h.block⟩
structure AtC (w:World) (B o:Nat) (x:Secr.X) (a5:Option Addr) (c5:Nat):Prop where
 lt:B<w.heap.size
 c0:w.cell? ⟨B,o,none⟩=some (.string x.f0)
 c1:w.cell? ⟨B,o+1,none⟩=some (.int .i64 x.f1)
 c2:w.cell? ⟨B,o+2,none⟩=some (.int .i64 x.f2)
 c3:w.cell? ⟨B,o+3,none⟩=some (.int .i64 x.f3)
 c4:w.cell? ⟨B,o+4,none⟩=some (.string x.f4)
 c5:w.cell? ⟨B,o+5,none⟩=some (.slice a5 x.f5.length c5)
theorem AtC.below {w w':World} {B o:Nat} {x:Secr.X} {a5:Option Addr} {c5:Nat} (h:AtC w B o x a5 c5) (hb:Below w.heap.size w w'):AtC w' B o x a5 c5 :=
 ⟨Nat.lt_of_lt_of_le h.lt hb.size,(hb.cell (p:=⟨B,_,none⟩) h.lt).trans h.c0,(hb.cell (p:=⟨B,_,none⟩) h.lt).trans h.c1,(hb.cell (p:=⟨B,_,none⟩) h.lt).trans h.c2,(hb.cell (p:=⟨B,_,none⟩) h.lt).trans h.c3,(hb.cell (p:=⟨B,_,none⟩) h.lt).trans h.c4,(hb.cell (p:=⟨B,_,none⟩) h.lt).trans h.c5⟩
abbrev cells (x:Secr.X) (a5:Option Addr) (c5:Nat):Array Value:=#[.string x.f0,.int .i64 x.f1,.int .i64 x.f2,.int .i64 x.f3,.string x.f4,.slice a5 x.f5.length c5]
theorem chosen_any (b:Bool) (y n:Int) (w:World) :
  Calls prog 39 #[.bool b,.int .i64 y,.int .i64 n] w fun e w'=>e=.returned (.int .i64 (if b=true then y else n))/\w'=w:=by
 cases b
 all_goals
  go_enter func39,ntmps39
  go_wp2
  go_ret
  exact ⟨rfl,rfl⟩
theorem psize_any (k:Int) (w:World):Calls prog 123 #[.int .i64 k] w fun e w'=>e=.returned (.int .i64 (psize k))/\w'=w:=by
 unfold psize
 by_cases h:k=2
 ·rw [if_pos h]
  have c:=fun w=>chosen_any true 2 1 w
  go_enter func123,ntmps123
  go_wp2_with (go_at_call 39;refine (c _).mono ?_;rintro e w' ⟨rfl,rfl⟩)
  go_ret
  exact ⟨rfl,rfl⟩
 ·rw [if_neg h]
  have h':(k == 2)=false:=by simpa using h
  have c:=fun w=>chosen_any false 2 1 w
  go_enter func123,ntmps123
  go_wp2_with (go_at_call 39;refine (c _).mono ?_;rintro e w' ⟨rfl,rfl⟩)
  go_ret
  exact ⟨rfl,rfl⟩
theorem l9Base_any (k:Int) (w:World):Calls prog 51 #[.int .i64 k] w fun e w'=>e=.returned (.int .i64 (base k))/\w'=w:=by
 unfold base
 by_cases h:k=0
 ·subst h
  go_enter func51,ntmps51
  go_wp2
  go_ret
  exact ⟨rfl,rfl⟩
 ·rw [if_neg h]
  by_cases h1:k=1
  ·subst h1
   go_enter func51,ntmps51
   go_wp2
   go_ret
   exact ⟨rfl,rfl⟩
  ·rw [if_neg h1]
   go_enter func51,ntmps51
   go_wp2
   go_ret
   exact ⟨rfl,rfl⟩
theorem baseOf_any (x:Secr.X) (a5:Option Addr) (c5:Nat) (B o:Nat) (w:World) (kB:AtC w B o x a5 c5) (hk:inB x.f1 0 2=true) :
  Calls prog 121 #[.pointer (some ⟨B,o,none⟩)] w fun e w'=>e=.returned (.int .i64 (base x.f1))/\w'=w:=by
 have m1:w.cell? ⟨B,o+1,none⟩=some (.int .i64 x.f1):=kB.c1
 clear kB
 generalize x.f1=k at *
 have i0:∀ w,(Instr.index 176 (.agg #[.int .i64 0,.int .i64 256,.int .i64 49152]) (.int .i64 0)).run prog w=.ok (.int .i64 0) w:=fun _=>by kernel_rfl
 have i1:∀ w,(Instr.index 176 (.agg #[.int .i64 0,.int .i64 256,.int .i64 49152]) (.int .i64 1)).run prog w=.ok (.int .i64 256) w:=fun _=>by kernel_rfl
 have i2:∀ w,(Instr.index 176 (.agg #[.int .i64 0,.int .i64 256,.int .i64 49152]) (.int .i64 2)).run prog w=.ok (.int .i64 49152) w:=fun _=>by kernel_rfl
 have hk3:k=0 \/ k=1 \/ k=2:=by have:=of_decide_eq_true hk;omega
 clear hk
 rcases hk3 with rfl|rfl|rfl
 all_goals
  go_enter func121,ntmps121
  go_wp2
  go_ret
  exact ⟨rfl,rfl⟩
theorem room_any (x:Secr.X) (a5:Option Addr) (c5:Nat) (B o:Nat) (w:World) (kB:AtC w B o x a5 c5) (hk:inB x.f1 0 2=true) (n:Nat) (hn:n<=1048576) :
  Calls prog 90 #[.pointer (some ⟨B,o,none⟩),.int .i64 (n:Int)] w fun e w'=>e=.returned (.bool (roomB x.f1 x.f3 n))/\w'=w:=by
 have m3:w.cell? ⟨B,o+3,none⟩=some (.int .i64 x.f3):=kB.c3
 have cb:=baseOf_any x a5 c5 B o w kB hk
 have hb:0<=base x.f1/\base x.f1<=49152:=by unfold base;split <;> (try split) <;> omega
 have RE:Hid (roomB x.f1 x.f3 n=(decide (n<=256) && (x.f3 == -1 || inB x.f3 (base x.f1) (base x.f1+256-n)))):=rfl
 clear kB hk
 generalize roomB x.f1 x.f3 n=r at *
 generalize base x.f1=bs at *
 generalize x.f3=ad at *
 have RE:Hid (r=(decide (n<=256) && (ad == -1 || inB ad bs (bs+256-n)))):=RE
 by_cases h1:256<n
 ·have e1:(256:Int)<(n:Int):=by omega
  go_enter func90,ntmps90
  go_wp2
  go_ret
  exact ⟨ret_bool (by rw [RE.out,decide_eq_false (by omega)];rfl),rfl⟩
 ·have e1:¬ (256:Int)<(n:Int):=by omega
  by_cases h2:ad = -1
  ·subst h2
   go_enter func90,ntmps90
   go_wp2
   go_ret
   exact ⟨ret_bool (by rw [RE.out,decide_eq_true (by omega)];rfl),rfl⟩
  ·have e2:(ad == -1)=false:=by simpa using h2
   have w1:wrap64 (bs+256)=bs+256:=by unfold wrap64;omega
   have w2:wrap64 (bs+256-(n:Int))=bs+256-(n:Int):=by unfold wrap64;omega
   have RF:Hid (r=inB ad bs (bs+256-n)):=by
    show r=_
    rw [RE.out,decide_eq_true (by omega:n<=256),e2];rfl
   clear RE
   by_cases h3:bs<=ad
   ·by_cases h4:ad<=bs+256-(n:Int)
    ·go_enter func90,ntmps90
     go_wp2_with (go_at_call 121;refine cb.mono ?_;rintro e w' ⟨rfl,rfl⟩)
     all_goals go_ret
     all_goals exact ⟨ret_bool (by rw [RF.out];unfold inB;first|exact (decide_eq_true (by omega)).symm|exact (decide_eq_false (by omega)).symm|(rw [Bool.eq_iff_iff];simp;try omega)),rfl⟩
    ·go_enter func90,ntmps90
     go_wp2_with (go_at_call 121;refine cb.mono ?_;rintro e w' ⟨rfl,rfl⟩)
     all_goals go_ret
     all_goals exact ⟨ret_bool (by rw [RF.out];unfold inB;first|exact (decide_eq_true (by omega)).symm|exact (decide_eq_false (by omega)).symm|(rw [Bool.eq_iff_iff];simp;try omega)),rfl⟩
   ·go_enter func90,ntmps90
    go_wp2_with (go_at_call 121;refine cb.mono ?_;rintro e w' ⟨rfl,rfl⟩)
    all_goals go_ret
    all_goals exact ⟨ret_bool (by rw [RF.out];unfold inB;first|exact (decide_eq_true (by omega)).symm|exact (decide_eq_false (by omega)).symm|(rw [Bool.eq_iff_iff];simp;try omega)),rfl⟩
theorem bank_any (x:Secr.X) (a5:Option Addr) (c5:Nat) (B o:Nat) (w:World) (kB:AtC w B o x a5 c5) :
  Calls prog 91 #[.pointer (some ⟨B,o,none⟩)] w fun e w'=>e=.returned (.bool (bankB x.f1 x.f2))/\w'=w:=by
 have m1:w.cell? ⟨B,o+1,none⟩=some (.int .i64 x.f1):=kB.c1
 have m2:w.cell? ⟨B,o+2,none⟩=some (.int .i64 x.f2):=kB.c2
 clear kB
 generalize x.f1=k at *
 generalize x.f2=b at *
 go_enter func91,ntmps91
 go_wp2
 all_goals go_ret
 all_goals exact ⟨ret_bool (by rw [Bool.eq_iff_iff];simp_all [bankB,inB];try omega),rfl⟩
theorem trim_zero (d:ByteArray):(Lib.trimB d.data.toList 0=[]) ↔ zeroB d=true:=by
 have hd:∀ l:List UInt8,l.dropWhile (· == 0)=[] ↔ ∀ x ∈ l,(x == 0)=true:=fun l=>by
  induction l with
  | nil=>simp
  | cons a l ih =>
   by_cases ha:(a == 0)=true
   ·rw [List.dropWhile_cons_of_pos (p:=(· == 0)) ha,ih]
    simp [ha]
    intro _;simpa using ha
   ·rw [List.dropWhile_cons_of_neg (p:=(· == 0)) ha]
    simp
    intro h;exact absurd (by simpa using h) ha
 have hh:∀ l:List UInt8,(∀ x ∈ l.dropWhile (· == 0),(x == 0)=true)->l.dropWhile (· == 0)=[]:=fun l=>by
  induction l with
  | nil=>simp
  | cons a l ih =>
   by_cases ha:(a == 0)=true
   ·rw [List.dropWhile_cons_of_pos (p:=(· == 0)) ha];exact ih
   ·rw [List.dropWhile_cons_of_neg (p:=(· == 0)) ha]
    intro h
    exact absurd (h a (by simp)) ha
 unfold Lib.trimB Lib.trimLeftB Lib.trimRightB zeroB
 rw [hd,List.all_eq_true]
 constructor
 ·intro h
  have h1:=(hd _).1 (hh d.data.toList.reverse (fun x hx=>h x (by simpa using hx)))
  exact fun x hx=>h1 x (by simpa using hx)
 ·intro h
  have h1:=(hd d.data.toList.reverse).2 (fun x hx=>h x (by simpa using hx))
  rw [h1];simp
theorem data_any (x:Secr.X) (a5:Option Addr) (c5:Nat) (B o:Nat) (w:World) (kB:AtC w B o x a5 c5) (hz:x.f4.size<=1048576) :
  Calls prog 92 #[.pointer (some ⟨B,o,none⟩)] w fun e w'=>e=.returned (.bool (dataB x.f1 x.f4))/\∃ n,w'=w.drewN n:=by
 have m1:w.cell? ⟨B,o+1,none⟩=some (.int .i64 x.f1):=kB.c1
 have m4:w.cell? ⟨B,o+4,none⟩=some (.string x.f4):=kB.c4
 clear kB
 unfold dataB
 generalize x.f1=k at *
 generalize x.f4=d at *
 by_cases h:k=2
 ·subst h
  have ct:=fun w=>Tryz.strings_Trim_one d 0 (by decide) w (by omega)
  have hT:(⟨(Lib.trimB d.data.toList 0).toArray⟩ : ByteArray).toList.isEmpty=zeroB d:=by
   rw [Bool.eq_iff_iff,ByteArray.toList_eq,List.isEmpty_iff,<- trim_zero]
  generalize (⟨(Lib.trimB d.data.toList 0).toArray⟩ : ByteArray)=t at *
  go_enter func92,ntmps92
  go_wp2_with (go_at_call 122;refine (ct _).mono ?_;rintro e w' ⟨rfl,hw'⟩)
  go_ret
  refine ⟨ret_bool (by rw [<- hT];rfl),?_⟩
  rcases hw' with rfl|rfl
  ·exact ⟨0,rfl⟩
  ·exact ⟨1,rfl⟩
 ·have h':(k == 2)=false:=by simpa using h
  have h'':(k != 2)=true:=by simpa using h
  go_enter func92,ntmps92
  go_wp2
  go_ret
  exact ⟨ret_bool (by rw [h''];rfl),0,rfl⟩
theorem implExpr_any (a:Option Addr) (cap:Nat) (L:List Stepx.Node) (w:World) (hN:Stepx.Nodes w a L) (hlen:L.length<=1048576) :
  Calls prog 47 #[.slice a L.length cap] w fun e w'=>e=.returned (.bool (exprB L))/\Below w.heap.size w w':=by
 have c:=Stepx.stepsOf_any a cap L w hN hlen
 generalize exprB L=b at *
 go_enter func47,ntmps47
 go_wp2_with (go_at_call 80;refine c.mono ?_;rintro e w1 ⟨⟨v,rfl,_⟩,hb1⟩)
 go_ret
 exact ⟨rfl,by assumption⟩
theorem all_le {Q:List Patr.X} {p:Patr.X->Bool} {k:Nat} (hk:k<=Q.length) (h:∀ i (hi:i<Q.length),i<k->p Q[i]=true) (hf:k=Q.length):Q.all p=true:=by
 rw [List.all_eq_true]
 intro x hx
 obtain ⟨i,hi,rfl⟩:=List.getElem_of_mem hx
 exact h i hi (by omega)
theorem all_no {Q:List Patr.X} {p:Patr.X->Bool} {k:Nat} (hk:k<Q.length) (h:p Q[k]=false):Q.all p=false:=by
 rw [Bool.eq_false_iff]
 intro hh
 rw [List.all_eq_true] at hh
 rw [hh _ (List.getElem_mem hk)] at h
 cases h
theorem patches_any (x:Secr.X) (a5:Option Addr) (c5:Nat) (B o:Nat) (w:World) (kB:AtC w B o x a5 c5) (hN:Patr.Row 0 w a5 x.f5) (hsm:Patr.Small x.f5) (hz:x.f4.size<=1048576) :
  Calls prog 93 #[.pointer (some ⟨B,o,none⟩)] w fun e w'=>e=.returned (.bool (patchesB x.f1 x.f4.size x.f5))/\Below w.heap.size w w':=by
 have hB:B<w.heap.size:=kB.lt
 have m1:w.cell? ⟨B,o+1,none⟩=some (.int .i64 x.f1):=kB.c1
 have m4:w.cell? ⟨B,o+4,none⟩=some (.string x.f4):=kB.c4
 have m5:w.cell? ⟨B,o+5,none⟩=some (.slice a5 x.f5.length c5):=kB.c5
 have M4:Hid (w.cell? ⟨B,o+4,none⟩=some (.string x.f4)):=m4
 have RE:Hid (patchesB x.f1 x.f4.size x.f5=(decide (x.f5.length<=256) && !(x.f1 == 2 && decide (0<x.f5.length)) && x.f5.all (patchB x.f4.size))):=rfl
 clear kB
 generalize patchesB x.f1 x.f4.size x.f5=r at *
 generalize x.f1=kd at *
 generalize x.f4=d at *
 generalize x.f5=Q at *
 have HS:Hid (Patr.Small Q):=hsm
 have hlen:=hsm.1
 obtain ⟨len,hl⟩ : ∃ len,len=Q.length:=⟨_,rfl⟩
 have HL:Hid (len=Q.length):=hl
 have RE:Hid (r=(decide (Q.length<=256) && !(kd == 2 && decide (0<Q.length)) && Q.all (patchB d.size))):=RE
 rw [<- hl] at m5 hlen RE
 clear hl hsm
 by_cases h1:256<len
 ·have e1:(256:Int)<(len:Int):=by omega
  have e1':decide ((256:Int)<(len:Int))=true:=decide_eq_true e1
  have HE:Hid (r=false):=by show r=false;rw [RE.out,decide_eq_false (by omega)];rfl
  clear hN RE
  go_enter func93,ntmps93
  go_wp2
  go_ret
  exact ⟨ret_bool HE.out.symm,Below.refl _ _⟩
 have e1:¬ (256:Int)<(len:Int):=by omega
 have e1':decide ((256:Int)<(len:Int))=false:=decide_eq_false e1
 by_cases h2:kd=2/\0<len
 ·obtain ⟨rfl,h2⟩:=h2
  have e2:(0:Int)<(len:Int):=by omega
  have e2':decide ((0:Int)<(len:Int))=true:=decide_eq_true e2
  have HE:Hid (r=false):=by show r=false;rw [RE.out,decide_eq_true (by omega:0<len)];simp
  clear hN RE
  go_enter func93,ntmps93
  go_wp2
  go_ret
  exact ⟨ret_bool HE.out.symm,Below.refl _ _⟩
 have RF:Hid (r=Q.all (patchB d.size)):=by
  show r=_
  rw [RE.out,decide_eq_true (by omega:len<=256)]
  have:(kd == 2 && decide (0<len))=false:=by
   rw [Bool.eq_false_iff];intro h
   rw [Bool.and_eq_true,beq_iff_eq,decide_eq_true_iff] at h
   exact h2 h
  rw [this];simp
 clear RE
 have e3:(kd == 2)=false \/ (kd=2/\¬ (0:Int)<(len:Int)):=by
  by_cases hk:kd=2
  ·exact .inr ⟨hk,by omega⟩
  ·exact .inl (by simpa using hk)
 have LP:Hid (∀ (W:World) (v3:Value),Below w.heap.size w W->True):=fun _ _ _=>trivial
 go_enter func93,ntmps93
 rcases e3 with e3|⟨rfl,e3⟩
 ·go_wp2_with fail
  go_loopw [31] (fun i wr=>∃ k:Nat,k<=len/\i=.int .i64 k/\Hid (∀ i (hi:i<Q.length),i<k->patchB d.size Q[i]=true)/\Hid (Below w.heap.size w wr)) (fun i _=>len-(intOf i).toNat)
  case atStart=>exact ⟨0,Nat.zero_le _,rfl,(fun i _ h=>absurd h (Nat.not_lt_zero _)),Below.refl _ _⟩
  case round =>
   obtain ⟨k,hk,rfl,hall,hbel⟩:=hrel
   by_cases hlt:k<len
   ·have hkL:k<Q.length:=by have:=HL.out;omega
    rcases hN with hnil|⟨b,off,rfl,_,hb,hc⟩
    ·exfalso;rw [hnil] at hkL;exact absurd hkL (by simp)
    obtain ⟨a2,c2,d0,d1,d2,hh⟩:=(hc k hkL).kept (hbel.out.block b hb) (fun j _ hj=>hbel.out.block j hj) hbel.out.size
    have n4:wr.cell? ⟨B,o+4,none⟩=some (.string d):=(hbel.out.cell (p:=⟨B,_,none⟩) hB).trans M4.out
    have N4:Hid (wr.cell? ⟨B,o+4,none⟩=some (.string d)):=n4
    have hBr:B<wr.heap.size:=Nat.lt_of_lt_of_le hB hbel.out.size
    have hse:Nodw.Small Q[k].f2:=HS.out.2 k hkL
    have ce:=fun W (h:Stepx.Nodes W a2 Q[k].f2)=>implExpr_any a2 c2 Q[k].f2 W h hse
    have HNo:Hid (∀ W,Below wr.heap.size wr W->Stepx.Nodes W a2 Q[k].f2):=fun W h=>(hh.1.below h).1
    have FLS:Hid (patchB d.size Q[k]=false->r=false):=fun h=>by rw [RF.out];exact all_no hkL h
    have NXT:Hid (patchB d.size Q[k]=true->∀ i (hi:i<Q.length),i<k+1->patchB d.size Q[i]=true):=fun h i hi hik=>by
     rcases Nat.lt_or_ge i k with c|c
     ·exact hall.out i hi c
     ·obtain rfl:i=k:=by omega
      exact h
    have PE:Hid (patchB d.size Q[k]=(inB Q[k].f1 1 3 && inB Q[k].f0 0 ((d.size:Int)-psize Q[k].f1) && exprB Q[k].f2)):=rfl
    have cz:=fun w=>psize_any Q[k].f1 w
    have hps:psize Q[k].f1=1 \/ psize Q[k].f1=2:=by unfold psize;split <;> simp
    clear hc hh hse hall n4
    generalize patchB d.size Q[k]=pb at *
    generalize psize Q[k].f1=ps at *
    generalize exprB Q[k].f2=xb at *
    obtain ⟨le,hle⟩ : ∃ le,le=Q[k].f2.length:=⟨_,rfl⟩
    rw [<- hle] at d2
    simp only [<- hle] at ce
    obtain ⟨pat,hpat⟩ : ∃ q,q=Q[k].f0:=⟨_,rfl⟩
    obtain ⟨pk,hpk⟩ : ∃ q,q=Q[k].f1:=⟨_,rfl⟩
    rw [<- hpat] at d0
    rw [<- hpk] at d1
    simp only [<- hpk] at cz
    have PE:Hid (pb=(inB pk 1 3 && inB pat 0 ((d.size:Int)-ps) && xb)):=by
     show pb=_
     rw [PE.out,hpk,hpat]
    clear hle hpat hpk
    have w1:wrap64 ((d.size:Int)-ps)=(d.size:Int)-ps:=by unfold wrap64;omega
    have k0:(0:Int)<=(k:Int):=by omega
    have k1:(k:Int)<(len:Int):=by omega
    have BX:Hid (∀ o,Below wr.heap.size wr (wr.alloc o)):=fun o=>zAl _ _
    by_cases g1:1<=pk/\pk<=3
    ·have f1:¬ pk<1:=by omega
     have f1':decide (pk<1)=false:=decide_eq_false f1
     have f2:¬ 3<pk:=by omega
     have f2':decide (3<pk)=false:=decide_eq_false f2
     have PF:Hid (pb=(inB pat 0 ((d.size:Int)-ps) && xb)):=by
      show pb=_
      rw [PE.out,show inB pk 1 3=true from decide_eq_true g1];rfl
     clear PE
     cases xb
     ·have HE:Hid (r=false):=FLS.out (by rw [PF.out];simp)
      go_wp2_with (go_at_call 47;refine (ce _ (HNo.out _ (BX.out _))).mono ?_;rintro e w1 ⟨rfl,hb1⟩;have B1:Hid (Below w.heap.size w w1):=hbel.out.trans (((BX.out _).trans (hb1.mono (by simp))).mono hbel.out.size);clear hb1)
      go_ret
      exact ⟨ret_bool HE.out.symm,B1.out⟩
     ·have PG:Hid (pb=inB pat 0 ((d.size:Int)-ps)):=by
       show pb=_
       rw [PF.out];simp
      clear PF
      go_wp2_with (go_at_call 47;refine (ce _ (HNo.out _ (BX.out _))).mono ?_;rintro e w2 ⟨rfl,hb1⟩;have B1:Hid (Below w.heap.size w w2):=hbel.out.trans (((BX.out _).trans (hb1.mono (by simp))).mono hbel.out.size);have y0:w2.cell? ⟨wr.heap.size,0,none⟩=some (.int .i64 pat):=(hb1.cell (p:=⟨wr.heap.size,0,none⟩) (by simp)).trans (by simp);have y1:w2.cell? ⟨wr.heap.size,1,none⟩=some (.int .i64 pk):=(hb1.cell (p:=⟨wr.heap.size,1,none⟩) (by simp)).trans (by simp);have y4:w2.cell? ⟨B,o+4,none⟩=some (.string d):=((hb1.cell (p:=⟨B,o+4,none⟩) (by simp;omega)).trans ((BX.out _).cell (p:=⟨B,o+4,none⟩) hBr)).trans N4.out;clear hb1)
      by_cases g2:pat<0
      ·have f3':decide (pat<0)=true:=decide_eq_true g2
       have HE:Hid (r=false):=FLS.out (by rw [PG.out];exact decide_eq_false (by omega))
       go_quiet (first|(go_at_call 123;exact Calls.quiet_of_same (cz _)))
       go_wp2
       go_ret
       exact ⟨ret_bool HE.out.symm,drewN_below B1.out _⟩
      ·have f3':decide (pat<0)=false:=decide_eq_false g2
       by_cases g3:(d.size:Int)-ps<pat
       ·have f4':decide ((d.size:Int)-ps<pat)=true:=decide_eq_true g3
        have HE:Hid (r=false):=FLS.out (by rw [PG.out];exact decide_eq_false (by omega))
        go_quiet (first|(go_at_call 123;exact Calls.quiet_of_same (cz _)))
        go_wp2
        go_ret
        exact ⟨ret_bool HE.out.symm,drewN_below B1.out _⟩
       ·have f4':decide ((d.size:Int)-ps<pat)=false:=decide_eq_false g3
        have HN:Hid (∀ i (hi:i<Q.length),i<k+1->patchB d.size Q[i]=true):=NXT.out (by rw [PG.out];exact decide_eq_true (by omega))
        go_quiet (first|(go_at_call 123;exact Calls.quiet_of_same (cz _)))
        go_wp2_with fail
        go_roundw
        case rel=>exact ⟨k+1,by omega,by go_num,HN.out,drewN_below B1.out _⟩
        case measure=>simp [intOf];omega
    ·have HE:Hid (r=false):=FLS.out (by rw [PE.out,show inB pk 1 3=false from decide_eq_false g1];rfl)
     by_cases g2:pk<1
     ·have f1':decide (pk<1)=true:=decide_eq_true g2
      go_wp2
      go_ret
      exact ⟨ret_bool HE.out.symm,hbel.out.trans ((BX.out _).mono hbel.out.size)⟩
     ·have f1':decide (pk<1)=false:=decide_eq_false g2
      have f2:3<pk:=by omega
      have f2':decide (3<pk)=true:=decide_eq_true f2
      go_wp2
      go_ret
      exact ⟨ret_bool HE.out.symm,hbel.out.trans ((BX.out _).mono hbel.out.size)⟩
   ·have HE:Hid (r=true):=by show r=true;rw [RF.out];exact all_le (k:=k) (by have:=HL.out;omega) hall.out (by have:=HL.out;omega)
    clear hN
    go_wp2
    go_ret
    exact ⟨ret_bool HE.out.symm,hbel.out⟩
 ·have hl0:len=0:=by omega
  have HE:Hid (r=true):=by show r=true;rw [RF.out];exact all_le (k:=0) (Nat.zero_le _) (fun i _ h=>absurd h (Nat.not_lt_zero _)) (by have:=HL.out;omega)
  have e4:¬ (0:Int)<(len:Int):=e3
  clear hN
  go_wp2_with fail
  go_loopw [31] (fun i wr=>i=.int .i64 0/\wr=w) (fun i _=>0)
  case atStart=>exact ⟨rfl,rfl⟩
  case round =>
   obtain ⟨rfl,rfl⟩:=hrel
   go_wp2
   go_ret
   exact ⟨ret_bool HE.out.symm,Below.refl _ _⟩
end Seco
namespace Objr
open Go.Deep
structure X where
 f0:List Secr.X
 f1:List Osyr.X
 f2:List Assr.X
instance:Inhabited X:=⟨⟨[],[],[]⟩⟩
def Has (N:Nat) (w:World) (x:X) (a0:Option Addr) (a1:Option Addr) (a2:Option Addr):Prop:=Secr.Row N w a0 x.f0/\x.f0.length<=maxLen/\Osyr.Row N w a1 x.f1/\x.f1.length<=maxLen/\Assr.Row N w a2 x.f2/\x.f2.length<=maxLen
theorem Has.kept {N:Nat} {w w':World} {x:X} {a0:Option Addr} {a1:Option Addr} {a2:Option Addr} (h:Has N w x a0 a1 a2) (hk:∀ k,N<=k->k<w.heap.size->w'.heap[k]? = w.heap[k]?) (hs:w.heap.size<=w'.heap.size):Has N w' x a0 a1 a2:=by
 obtain ⟨h0,z0,h1,z1,h2,z2⟩:=h
 exact ⟨h0.kept hk hs,z0,h1.kept hk hs,z1,h2.kept hk hs,z2⟩
theorem Has.mono {N N':Nat} {w:World} {x:X} {a0:Option Addr} {a1:Option Addr} {a2:Option Addr} (h:Has N w x a0 a1 a2) (hN:N'<=N):Has N' w x a0 a1 a2:=by
 obtain ⟨h0,z0,h1,z1,h2,z2⟩:=h
 exact ⟨h0.mono hN,z0,h1.mono hN,z1,h2.mono hN,z2⟩
theorem Has.below {N:Nat} {w w':World} {x:X} {a0:Option Addr} {a1:Option Addr} {a2:Option Addr} (h:Has N w x a0 a1 a2) (hb:Below w.heap.size w w'):Has N w' x a0 a1 a2:=h.kept (fun k _ hk=>hb.block k hk) hb.size
def SmallX (x:X):Prop:=Secr.Small x.f0/\Osyr.Small x.f1/\Assr.Small x.f2
end Objr
end Go.Proofs.YtickfkphhngagaaGreatDoor
