import Derived.Test.YtepafieckjnkdaaGreatDoorP10
set_option linter.all false
set_option maxRecDepth 20000
set_option maxHeartbeats 8000000
open Go.ChangeShapes Go.WideShapes Go.ChangeAt Go.RowKit
open Go.Proofs.Tryz
namespace Go.Proofs.YtepafieckjnkdaaGreatDoor
namespace Wors
open Go.Deep
open Optx Extx Exts Nodi Worr Nodm
open Stepx (Nodes exprB)
theorem infoN:(prog.info? 111).map (fun i=>(i.zero,i.size,i.bytes))=some (some (.agg #[.int .i64 0,.int .i64 0,.string ⟨#[]⟩]),3,32):=by kernel_rfl
def lst (o:Option (List Stepx.Node)):List Stepx.Node:=o.getD []
def Left (w w':World) (e:Ending) (o:Option (List Stepx.Node)):Prop :=
 ∃ ao cap,e=.returned (.tuple #[.slice ao (lst o).length cap,.bool o.isSome])/\Nodm.Own w' w.heap.size (.slice ao (lst o).length cap) (lst o)/\(∀ x ∈ lst o,x.2.2.size<=1048576)/\(lst o).length<=801/\Below w.heap.size w w'
theorem left_none {w w':World} {o:Option (List Stepx.Node)} (h:o=none) (hb:Below w.heap.size w w'):Left w w' (.returned (.tuple #[.slice none 0 0,.bool false])) o:=by
 subst h
 exact ⟨none,0,rfl,World.ownsRow_nil _ _ _ _,(fun x hx=>by cases hx),Nat.zero_le _,hb⟩
theorem left_some {w w':World} {o:Option (List Stepx.Node)} {l:List Stepx.Node} {ao:Option Addr} {cap:Nat} (h:o=some l) (ho:Nodm.Own w' w.heap.size (.slice ao l.length cap) l) (hz:∀ x ∈ l,x.2.2.size<=1048576) (hl:l.length<=801) (hb:Below w.heap.size w w'):Left w w' (.returned (.tuple #[.slice ao l.length cap,.bool true])) o:=by
 subst h
 exact ⟨ao,cap,rfl,ho,hz,hl,hb⟩
def outI (s:ByteArray):Option (List Stepx.Node):=if exprB ((W s).map nodeI)=true then some ((W s).map nodeI) else none
def outS (s:ByteArray):Option (List Stepx.Node):=if s.size=0 \/ ¬ exprT (((W s).take 31).map nodeS)=s then none else some (((W s).take 31).map nodeS)
theorem eq_list {a b:ByteArray}:(a.toList == b.toList)=true ↔ a=b:=by
 rw [ByteArray.toList_eq,ByteArray.toList_eq]
 constructor
 ·intro h
  exact ByteArray.ext (Array.toList_inj.1 (eq_of_beq h))
 ·rintro rfl;simp
theorem nodeI_sz (x:ByteArray):(nodeI x).2.2.size<=x.size:=by
 unfold nodeI
 split
 ·exact Nat.zero_le _
 split
 ·exact Nat.zero_le _
 split
 ·show (x.extract 1 x.size).size<=_;rw [ByteArray.size_extract];omega
 ·exact Nat.le_refl _
theorem nodeS_sz (x:ByteArray):(nodeS x).2.2.size<=x.size:=by
 unfold nodeS
 split
 ·exact Nat.zero_le _
 split
 ·exact Nat.zero_le _
 split
 ·show (x.extract 1 x.size).size<=_;rw [ByteArray.size_extract];omega
 ·exact Nat.le_refl _
theorem W_le:∀ (n:Nat) (s:ByteArray),s.size<=n->∀ x ∈ W s,x.size<=s.size
 | 0,s,hn,x,hx=>by
  cases hf:F s with
  | false=>rw [W_no hf,List.mem_singleton] at hx;rw [hx];exact A_le s
  | true=>have:=B_lt hf;omega
 | n+1,s,hn,x,hx=>by
  cases hf:F s with
  | false=>rw [W_no hf,List.mem_singleton] at hx;rw [hx];exact A_le s
  | true =>
   have hb:=B_lt hf
   rw [W_on hf,List.mem_cons] at hx
   rcases hx with rfl|hx
   ·exact A_le s
   ·have:=W_le n (B s) (by omega) x hx
    omega
theorem stepW {Ws rest:List ByteArray} {k:Nat} {x:ByteArray} (h:Ws.drop k=x :: rest):Ws.take (k+1)=Ws.take k ++ [x]/\Ws.drop (k+1)=rest:=by
 have h0:Ws[k]? = some x:=by
  have:(Ws.drop k)[0]? = some x:=by rw [h];rfl
  rwa [List.getElem?_drop,Nat.add_zero] at this
 refine ⟨?_,?_⟩
 ·rw [List.take_add_one,h0];rfl
 ·rw [<- List.tail_drop,h];rfl
def At (s:ByteArray) (l:List Stepx.Node) (r:ByteArray) (f:Bool):Prop:=l=((W s).take l.length).map nodeS/\(f=true->(W s).drop l.length=W r)/\(f=false->(W s).length<=l.length)
theorem At.start (s:ByteArray):At s [] s true:=⟨rfl,fun _=>rfl,fun h=>by cases h⟩
theorem At.step {s r:ByteArray} {l:List Stepx.Node} (h:At s l r true):At s (l ++ [nodeS (A r)]) (B r) (F r):=by
 obtain ⟨h1,h2,_⟩:=h
 have h2:=h2 rfl
 have hx:∃ rest,W r=A r :: rest/\(F r=true->rest=W (B r))/\(F r=false->rest=[]):=by
  cases hf:F r with
  | true=>exact ⟨_,W_on hf,fun _=>rfl,fun h=>by cases h⟩
  | false=>exact ⟨_,W_no hf,(fun h=>by cases h),fun _=>rfl⟩
 obtain ⟨rest,hw,ht,hf⟩:=hx
 rw [hw] at h2
 obtain ⟨t1,t2⟩:=stepW h2
 unfold At
 rw [List.length_append,List.length_singleton]
 refine ⟨?_,fun h=>by rw [t2,ht h],fun h=>?_⟩
 ·rw [t1,List.map_append,<- h1];rfl
 ·rw [hf h] at t2
  have:=congrArg List.length t2
  rw [List.length_drop,List.length_nil] at this
  omega
theorem At.fin {s r:ByteArray} {l:List Stepx.Node} {f:Bool} (h:At s l r f) (h31:l.length<=31) (he:f=false \/ 31<=l.length):l=((W s).take 31).map nodeS:=by
 obtain ⟨h1,_,h3⟩:=h
 rcases he with he|he
 ·have hl:=h3 he
  have e:(W s).take 31=(W s).take l.length:=by rw [List.take_of_length_le hl,List.take_of_length_le (by omega)]
  rw [e];exact h1
 ·have e:l.length=31:=by omega
  rw [e] at h1;exact h1
def slen:Value->Nat
 | .slice _ n _=>n
 | _=>0
theorem drewN_refl (w:World):∀ k:Nat,Below w.heap.size w (w.drewN k)
 | 0=>Below.refl _ _
 | k+1=>(drewN_refl w k).drew
theorem specRead_any (s:ByteArray) (w:World) (hs:s.size<=1048576) :
  Calls prog 89 #[.string s] w fun e w'=>Left w w' e (outS s):=by
 obtain ⟨i0,hi,hz0,hz1,hz2⟩:=info_parts infoN
 have OW0:Hid (Nodm.Own (w.alloc (.cells #[] 111)) w.heap.size (.slice (some ⟨w.heap.size,0,none⟩) 0 0) []):=World.ownsRow_lit w #[] 0 (Nat.le_refl _) (Nat.zero_le _) rfl
 go_enter func89,ntmps89
 go_wp2_with fail
 go_loopw [4,5,6] (fun x y z wr=>∃ (l:List Stepx.Node) (r:ByteArray) (f:Bool) (ao:Option Addr) (cap:Nat),r.size<=s.size/\l.length<=31/\x=.slice ao l.length cap/\y=.string r/\z=.bool f/\Hid (Nodm.Own wr w.heap.size (.slice ao l.length cap) l)/\Hid (∀ x ∈ l,x.2.2.size<=1048576)/\Hid (At s l r f)/\Hid (Below w.heap.size w wr)) (fun x _ _ _=>31-slen x)
 case atStart=>exact ⟨[],s,true,_,0,Nat.le_refl _,Nat.zero_le _,rfl,rfl,rfl,OW0.out,(fun x hx=>by cases hx),At.start s,zAl _ _⟩
 case round =>
  clear OW0
  obtain ⟨l,r,f,ao,cap,hr,hl,rfl,rfl,rfl,hown,hsm,hAt,hbel⟩:=hrel
  cases f with
  | false =>
   have EL:l=((W s).take 31).map nodeS:=hAt.out.fin hl (.inl rfl)
   have ct:=fun w hN=>specText_any ao cap l w hN (by omega)
   obtain ⟨R,hR⟩ : ∃ R,R=exprT l:=⟨_,rfl⟩
   have OUT:Hid ((¬ s.size=0/\R=s->outS s=some l)/\(s.size=0 \/ ¬ R=s->outS s=none)):=by
    refine ⟨fun h=>?_,fun h=>?_⟩
    ·unfold outS
     rw [<- EL,<- hR,if_neg (fun h'=>h'.elim h.1 (fun h2=>h2 h.2))]
    ·unfold outS
     rw [<- EL,<- hR,if_pos h]
   rw [<- hR] at ct
   clear hR EL
   by_cases hz:s.size=0
   ·have e0:s.toList.isEmpty=true:=Nums.empty_yes hz
    have hf:=left_none (w:=w) (o:=outS s) (OUT.out.2 (.inl hz)) hbel.out
    have HF:Hid _:=hf
    clear hf ct hown hsm hAt OUT
    go_wp2_with fail
    go_ret2
    exact HF.out
   ·have e0:s.toList.isEmpty=false:=Nums.empty_no hz
    by_cases hq:R=s
    ·have _hk:=0
     have q1:(R.toList == s.toList)=true:=eq_list.2 hq
     have q2:(R.toList != s.toList)=false:=by rw [bne,q1];rfl
     have HO2:Hid (outS s=some l):=OUT.out.1 ⟨hz,hq⟩
     clear hq hAt OUT
     go_wp2_with (go_at_call 75;refine (ct _ (nodes_own hown.out hsm.out)).mono ?_;rintro e w1 ⟨rfl,b1⟩;have B1:Hid (Below w.heap.size w w1/\Nodm.Own w1 w.heap.size (.slice ao l.length cap) l):=⟨hbel.out.trans (b1.mono hbel.out.size),Nodm.own_below hown.out b1⟩;clear b1)
     go_ret2
     exact left_some (ao:=ao) (cap:=cap) HO2.out B1.out.2 hsm.out (by omega) B1.out.1
    ·have _hk:=0
     have q1:(R.toList == s.toList)=false:=by
      cases hb:(R.toList == s.toList)
      ·rfl
      ·exact absurd (eq_list.1 hb) hq
     have q2:(R.toList != s.toList)=true:=by rw [bne,q1];rfl
     have HO2:Hid (outS s=none):=OUT.out.2 (.inr hq)
     clear hq hAt OUT
     go_wp2_with (go_at_call 75;refine (ct _ (nodes_own hown.out hsm.out)).mono ?_;rintro e w1 ⟨rfl,b1⟩;have B1:Hid (Below w.heap.size w w1/\Nodm.Own w1 w.heap.size (.slice ao l.length cap) l):=⟨hbel.out.trans (b1.mono hbel.out.size),Nodm.own_below hown.out b1⟩;clear b1)
     go_ret2
     exact left_none HO2.out B1.out.1
  | true =>
   by_cases h30:30<l.length
   ·have _hk:=0
    have EL:l=((W s).take 31).map nodeS:=hAt.out.fin hl (.inr (by omega))
    have ct:=fun w hN=>specText_any ao cap l w hN (by omega)
    obtain ⟨R,hR⟩ : ∃ R,R=exprT l:=⟨_,rfl⟩
    have OUT:Hid ((¬ s.size=0/\R=s->outS s=some l)/\(s.size=0 \/ ¬ R=s->outS s=none)):=by
     refine ⟨fun h=>?_,fun h=>?_⟩
     ·unfold outS
      rw [<- EL,<- hR,if_neg (fun h'=>h'.elim h.1 (fun h2=>h2 h.2))]
     ·unfold outS
      rw [<- EL,<- hR,if_pos h]
    rw [<- hR] at ct
    clear hR EL
    by_cases hz:s.size=0
    ·have e0:s.toList.isEmpty=true:=Nums.empty_yes hz
     have hf:=left_none (w:=w) (o:=outS s) (OUT.out.2 (.inl hz)) hbel.out
     have HF:Hid _:=hf
     clear hf ct hown hsm hAt OUT
     go_wp2_with fail
     go_ret2
     exact HF.out
    ·have e0:s.toList.isEmpty=false:=Nums.empty_no hz
     by_cases hq:R=s
     ·have _hk:=0
      have q1:(R.toList == s.toList)=true:=eq_list.2 hq
      have q2:(R.toList != s.toList)=false:=by rw [bne,q1];rfl
      have HO2:Hid (outS s=some l):=OUT.out.1 ⟨hz,hq⟩
      clear hq hAt OUT
      go_wp2_with (go_at_call 75;refine (ct _ (nodes_own hown.out hsm.out)).mono ?_;rintro e w1 ⟨rfl,b1⟩;have B1:Hid (Below w.heap.size w w1/\Nodm.Own w1 w.heap.size (.slice ao l.length cap) l):=⟨hbel.out.trans (b1.mono hbel.out.size),Nodm.own_below hown.out b1⟩;clear b1)
      go_ret2
      exact left_some (ao:=ao) (cap:=cap) HO2.out B1.out.2 hsm.out (by omega) B1.out.1
     ·have _hk:=0
      have q1:(R.toList == s.toList)=false:=by
       cases hb:(R.toList == s.toList)
       ·rfl
       ·exact absurd (eq_list.1 hb) hq
      have q2:(R.toList != s.toList)=true:=by rw [bne,q1];rfl
      have HO2:Hid (outS s=none):=OUT.out.2 (.inr hq)
      clear hq hAt OUT
      go_wp2_with (go_at_call 75;refine (ct _ (nodes_own hown.out hsm.out)).mono ?_;rintro e w1 ⟨rfl,b1⟩;have B1:Hid (Below w.heap.size w w1/\Nodm.Own w1 w.heap.size (.slice ao l.length cap) l):=⟨hbel.out.trans (b1.mono hbel.out.size),Nodm.own_below hown.out b1⟩;clear b1)
      go_ret2
      exact left_none HO2.out B1.out.1
   ·have cc:=l1Cut_any r wr (by omega)
    have za:=A_le r
    have zb:=B_le r
    have HS:Hid (At s (l ++ [nodeS (A r)]) (B r) (F r)):=hAt.out.step
    have cn:=fun W=>Nodj.l2Word_any (A r) W (by omega)
    have zn:=nodeS_sz (A r)
    clear hAt
    generalize nodeS (A r)=N at *
    generalize A r=X at *
    generalize B r=Y at *
    generalize F r=ff at *
    obtain ⟨nk,nn,ns⟩:=N
    unfold nodeV at cn
    dsimp only at cn zn
    obtain ⟨len,hlen⟩ : ∃ len,len=l.length:=⟨_,rfl⟩
    have HL:Hid (len=l.length):=hlen
    rw [<- hlen] at hl h30 hown |-
    clear hlen
    have own1:Hid (∀ W o,Below wr.heap.size wr W->(W.alloc o).ownsRow w.heap.size 111 3 (.slice ao len cap) len (cellsOf l)):=fun W o hb=>by
     have h:=hown.out
     rw [HL.out] at h |-
     exact (Nodm.own_below h hb).alloc o
    go_wp2_with (first|(go_at_call 47;refine cc.mono ?_;rintro e w1 ⟨rfl,n1,rfl⟩)|(go_at_call 121;refine (cn _).mono ?_;rintro e w2 ⟨rfl,b2⟩;have B2:Hid (Below wr.heap.size wr w2):=(drewN_refl wr n1).trans (b2.mono (drewN_refl wr n1).size);clear b2)|(at_builtin;refine wpList_append_own _ rfl _ _ 53 rfl w.heap.size 111 i0 (.agg #[.int .i64 0,.int .i64 0,.string ⟨#[]⟩]) 3 32 underlying53 hi hz0 hz1 hz2 rfl (by decide) (.slice ao len cap) len (cellsOf l) rfl (own1.out _ _ B2.out) ⟨w2.heap.size,0,none⟩ 1 1 [.int .i64 nk,.int .i64 nn,.string ns] rfl rfl ?c1 ?c2 ?c3 ?c4 ?c5 ?_)|fail)
    case c1 =>
     intro j u hj
     match j,hj with
     | 0,hj=>simp at hj;subst hj;show World.cell? _ ⟨w2.heap.size,0,none⟩=_;rw [World.cell?_alloc_new];rfl
     | 1,hj=>simp at hj;subst hj;show World.cell? _ ⟨w2.heap.size,1,none⟩=_;rw [World.cell?_alloc_new];rfl
     | 2,hj=>simp at hj;subst hj;show World.cell? _ ⟨w2.heap.size,2,none⟩=_;rw [World.cell?_alloc_new];rfl
    case c2=>intro u hu;simp at hu;rcases hu with rfl|rfl|rfl <;> rfl
    case c3=>unfold maxLen;omega
    case c4=>omega
    case c5=>simp;have:=hbel.out.size;have:=B2.out.size;omega
    intro v' w3 hown' hgrow _
    have e1:(l ++ [(nk,nn,ns)]).length=len+1:=by rw [List.length_append,<- HL.out];rfl
    have OW:Hid (Nodm.Own w3 w.heap.size v' (l ++ [(nk,nn,ns)])):=by
     show World.ownsRow _ _ _ _ _ _ _
     rw [e1,cells_snoc];exact hown'
    have BB:Below w.heap.size w w2:=hbel.out.trans (B2.out.mono hbel.out.size)
    have BW:Hid (Below w.heap.size w w3):=(BB.alloc BB.size _).grown hgrow (by have:=BB.size;simp;omega) (fun k hk=>((own1.out w2 (.cells #[] 0) B2.out).lt k hk).1)
    have SM:Hid (∀ x ∈ l ++ [(nk,nn,ns)],x.2.2.size<=1048576):=fun x hx=>by
     rcases List.mem_append.1 hx with hx|hx
     ·exact hsm.out x hx
     ·rw [List.mem_singleton.1 hx]
      show ns.size<=_
      omega
    have E1:Hid ((l ++ [(nk,nn,ns)]).length=len+1):=e1
    obtain ⟨ao',cap',rfl⟩ : ∃ ao' cap',v'=.slice ao' (len+1) cap':=by
     rcases hown'.2 with ⟨_,h⟩|⟨g,c,cur,hv,_⟩
     ·omega
     ·exact ⟨_,_,hv⟩
    clear hown' hgrow own1 hown hbel hsm cn cc e1 BB
    go_wp2_with fail
    go_roundw
    case rel=>exact ⟨l ++ [(nk,nn,ns)],Y,ff,ao',cap',by omega,by rw [E1.out];omega,by rw [E1.out],rfl,rfl,by rw [E1.out];exact OW.out,SM.out,HS.out,BW.out⟩
    case measure=>show 31-(len+1)<31-len;omega
end Wors
namespace Otxa
open Go.Deep
open Optx (decW Pow)
open Lib (byteCells strCells)
open Bld (Holds)
theorem after {a w w':World} (h:Below a.heap.size a w) (k:Below w.heap.size w w'):Below a.heap.size a w':=h.trans (k.mono h.size)
theorem decimal_any (n:Int) (w:World) (hP:Pow w) (h0:-9223372036854775808<=n) (h1:n<=9223372036854775807) :
  Calls prog 24 #[.int .i64 n] w fun e w'=>e=.returned (.string (decW n))/\Below w.heap.size w w':=by
 have c:Calls prog 62 #[.int .i64 n,.int .i64 10] w fun e w'=>e=.returned (.string (decW n))/\Below w.heap.size w w' :=
  (Tryz.strconv_FormatInt_10 n (by omega) (by omega) w hP).mono (by
   rintro e w' ⟨rfl,k,os,rfl⟩
   exact ⟨rfl,Lib.below_grow _ _ (Nat.le_refl _) k os⟩)
 clear hP
 generalize decW n=V at c |-
 go_enter func24,ntmps24
 go_wp2_with fail
 refine c.mono ?_
 rintro e w1 ⟨rfl,b1⟩
 have B1:Hid (Below w.heap.size w w1):=b1
 clear b1 c
 go_wp2
 go_ret
 exact ⟨rfl,B1.out⟩
theorem digits_le:∀ (k u:Nat),u<10 ^ (k+1)->(Lib.decDigits u).length<=k+1
 | 0,u,h=>by
  rw [Lib.decDigits,dif_pos (by omega)];simp
 | k+1,u,h=>by
  rw [Lib.decDigits]
  split
  ·simp
  ·rw [List.length_append]
   have h':u<10*10 ^ (k+1):=by rw [Nat.pow_succ] at h;omega
   have:=digits_le k (u / 10) (by omega)
   simp only [List.length_cons,List.length_nil]
   omega
theorem decW_le {n:Int} (h0:-4000000000<=n) (h1:n<=4000000000):(decW n).size<=11:=by
 show (Lib.itoa n).toArray.size<=11
 rw [List.size_toArray]
 unfold Lib.itoa
 split
 ·have:=digits_le 9 n.natAbs (by omega)
  rw [List.length_cons]
  omega
 ·have:=digits_le 9 n.toNat (by omega)
  omega
theorem decW_neg {n:Int} (h:n<0):(⟨#[45]⟩ : ByteArray) ++ decW (-n)=decW n:=by
 apply ByteArray.ext
 apply Array.ext'
 rw [ByteArray.data_append,Array.toList_append]
 show [45] ++ (Lib.itoa (-n)).toArray.toList=(Lib.itoa n).toArray.toList
 unfold Lib.itoa
 rw [if_neg (by omega),if_pos h,show (-n).toNat=n.natAbs by omega]
 rfl
theorem ret_str {a b:ByteArray} (h:b=a):Ending.returned (.string a)=.returned (.string b):=by rw [h]
theorem l1Dec_all (n:Int) (w:World) (h0:-4000000000<=n) (h1:n<=4000000000) :
  Calls prog 73 #[.int .i64 n] w fun e w'=>e=.returned (.string (decW n))/\Below w.heap.size w w':=by
 by_cases hn:n<0
 ·have c:=fun w=>Exts.l1Dec_any (-n) w (by omega) (by omega)
  rw [Exts.dec_w (by omega)] at c
  have hz:=decW_le (n:=-n) (by omega) (by omega)
  have HE:Hid ((⟨#[45]⟩ : ByteArray) ++ decW (-n)=decW n):=decW_neg hn
  have dn:decide (n<0)=true:=decide_eq_true hn
  have dw:IntKind.i64.wrap (-n) = -n:=by rw [IntKind.wrap_i64];omega
  generalize decW (-n)=V at c hz HE
  have q:¬ 9223372036854775807<1+V.size:=by omega
  go_enter func73,ntmps73
  go_wp2_with fail
  refine (c _).mono ?_
  rintro e w1 ⟨rfl,b1⟩
  have B1:Hid (Below w.heap.size w w1):=b1
  clear b1 c
  go_wp2
  go_ret
  exact ⟨ret_str HE.out.symm,B1.out⟩
 ·have c:=Exts.l1Dec_any n w (by omega) h1
  rw [Exts.dec_w (by omega)] at c
  exact c
def two (c:UInt8):List UInt8:=[UInt8.ofNat (Nums.tab.getD (c.toNat / 16) 0).toNat,UInt8.ofNat (Nums.tab.getD (c.toNat%16) 0).toNat]
def hexA (s:ByteArray):ByteArray:=⟨(s.data.toList.flatMap two).toArray⟩
theorem size_list (s:ByteArray):s.data.toList.length=s.size:=by rw [Array.length_toList];rfl
theorem flat_len (l:List UInt8):(l.flatMap two).length=2*l.length:=by
 induction l with
 | nil=>rfl
 | cons x l ih=>rw [List.flatMap_cons,List.length_append,ih,List.length_cons];show 2+_=_;omega
theorem hexA_size (s:ByteArray):(hexA s).size=2*s.size:=by
 show (s.data.toList.flatMap two).toArray.size=_
 rw [List.size_toArray,flat_len,size_list]
def hexT (s:ByteArray) (k:Nat):List UInt8:=(s.data.toList.take k).flatMap two
theorem hexT_step {s:ByteArray} {k:Nat} (h:k<s.size):hexT s (k+1)=hexT s k ++ two s[k]:=by
 unfold hexT
 have hk:k<s.data.toList.length:=by rw [size_list];exact h
 rw [List.take_succ_eq_append_getElem hk,List.flatMap_append]
 simp
 rfl
theorem hexT_all (s:ByteArray):hexT s s.size=s.data.toList.flatMap two:=by
 unfold hexT
 rw [List.take_of_length_le (by rw [size_list];exact Nat.le_refl _)]
theorem hexT_len {s:ByteArray} {k:Nat} (h:k<=s.size):(hexT s k).length=2*k:=by
 unfold hexT
 rw [flat_len,List.length_take,size_list]
 omega
theorem two_hex:∀ c:Fin 256,(Hex.hexS (c.val:Int) 2).size=3/\((Hex.hexS (c.val:Int) 2).extract 1 3).data.toList=two (UInt8.ofNat c.val):=by decide +kernel
theorem two_byte (c:UInt8):(Hex.hexS (c.toNat:Int) 2).size=3/\((Hex.hexS (c.toNat:Int) 2).extract 1 3).data.toList=two c:=by
 have:=two_hex ⟨c.toNat,c.toNat_lt⟩
 simpa using this
theorem l9Hex_any (s:ByteArray) (w:World) (hs:s.size<=1048576) :
  Calls prog 74 #[.string s] w fun e w'=>e=.returned (.string (hexA s))/\w'=w:=by
 go_enter func74,ntmps74
 go_wp2
 go_loop [3,4] (fun v i=>∃ k:Nat,k<=s.size/\v=.string ⟨(hexT s k).toArray⟩/\i=.int .i64 (k:Int)) (fun _ i=>s.size-(intOf i).toNat)
 case atStart=>exact ⟨0,Nat.zero_le _,rfl,rfl⟩
 case round =>
  obtain ⟨k,hk,rfl,rfl⟩:=hrel
  by_cases hlt:k<s.size
  ·have c:=fun w=>Hex.specHex_any ((s[k]'hlt).toNat:Int) 2 w
   obtain ⟨t1,t2⟩:=two_byte (s[k]'hlt)
   have HN:Hid ((⟨(hexT s k).toArray⟩ : ByteArray) ++ (Hex.hexS ((s[k]'hlt).toNat:Int) 2).extract 1 3=⟨(hexT s (k+1)).toArray⟩):=(show _=_ from by
    apply ByteArray.ext
    apply Array.ext'
    rw [ByteArray.data_append,Array.toList_append,t2,hexT_step hlt])
   have hl:=hexT_len (s:=s) (k:=k) hk
   have hl':(⟨(hexT s k).toArray⟩ : ByteArray).size=2*k:=by show (hexT s k).toArray.size=_;rw [List.size_toArray,hl]
   have x3:((Hex.hexS ((s[k]'hlt).toNat:Int) 2).extract 1 3).size=2:=by rw [ByteArray.size_extract,t1];rfl
   have hb:=(s[k]'hlt).toNat_lt
   have hix:∀ w,(Instr.index 9 (.string s) (.int .i64 (k:Int))).run prog w=.ok (.int .u8 ((s[k]'hlt).toNat:Int)) w:=fun w=>by
    rw [run_index_string w 9 s .i64 (k:Int) underlying9,dif_pos ⟨by omega,by omega⟩]
    rfl
   have sl:∀ w,(Instr.slice 9 (.string (Hex.hexS ((s[k]'hlt).toNat:Int) 2)) (some (.int .i64 1)) none none).run prog w=.ok (.string ((Hex.hexS ((s[k]'hlt).toNat:Int) 2).extract 1 3)) w:=fun w=>by
    have:=run_slice_string_l (P:=prog) w (t:=9) (s:=Hex.hexS ((s[k]'hlt).toNat:Int) 2) underlying9 .i64 1 (by omega) (by omega)
    rwa [t1] at this
   generalize (Hex.hexS ((s[k]'hlt).toNat:Int) 2).extract 1 3=Y at sl HN x3
   generalize Hex.hexS ((s[k]'hlt).toNat:Int) 2=X at c sl t1
   generalize (s[k]'hlt).toNat=cc at c hix hb
   generalize (⟨(hexT s k).toArray⟩ : ByteArray)=Z at HN hl'
   have q:¬ 9223372036854775807<Z.size+Y.size:=by omega
   have dw:IntKind.i64.wrap (cc:Int)=cc:=by rw [IntKind.wrap_i64];omega
   have dk:IntKind.i64.wrap ((k:Int)+1)=((k+1:Nat):Int):=by rw [IntKind.wrap_i64];omega
   clear t2 hl hl' x3
   go_wp2_with (go_at_call 113;refine (c _).mono ?_;rintro e w' ⟨rfl,hw⟩;have hw:=hw.symm;subst hw)
   go_round
   case rel=>exact ⟨k+1,by omega,by rw [HN.out],by go_num⟩
   case measure=>simp [intOf];omega
  ·have e:k=s.size:=by omega
   subst e
   have HA:Hid (hexA s=⟨(hexT s s.size).toArray⟩):=(show _=_ from by rw [hexT_all];rfl)
   go_wp2
   go_ret
   exact ⟨ret_str HA.out,rfl⟩
end Otxa
end Go.Proofs.YtepafieckjnkdaaGreatDoor
