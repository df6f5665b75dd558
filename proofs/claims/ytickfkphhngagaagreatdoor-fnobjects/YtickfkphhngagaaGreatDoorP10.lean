import Derived.Test.YtickfkphhngagaaGreatDoorP09
import Derived.Test.YtickfkphhngagaaGreatDoorP03
set_option linter.all false
set_option maxRecDepth 20000
set_option maxHeartbeats 8000000
open Go.ChangeShapes Go.WideShapes Go.ChangeAt Go.RowKit
open Go.Proofs.Tryz
namespace Go.Proofs.YtickfkphhngagaaGreatDoor
namespace Nodj
open Optx Extx Exts Nodi
theorem words_all (w:World):∀ k:Nat,k<14->(w.alloc (.cells wordsA 9)).cell? ⟨w.heap.size,4+k,none⟩=some (.string (opTab.getD k ⟨#[]⟩)):=fun k hk=>by
 have h:=words_at (kd:=4+(k:Int)) (by omega) (by omega) w
 have e1:(4+(k:Int)).toNat=4+k:=by omega
 have e2:opW (4+(k:Int))=opTab.getD k ⟨#[]⟩:=by
  unfold opW
  rw [show (4+(k:Int)-4).toNat=k by omega]
 rw [e1,e2] at h
 exact h
theorem l2Word_any (s:ByteArray) (w:World) (hs:s.size<=1048576) :
  Calls prog 99 #[.string s] w fun e w'=>e=.returned (nodeV (nodeS s))/\Below w.heap.size w w':=by
 have B0:Hid (Below w.heap.size w ((w.alloc (.cells #[.int .i64 0,.int .i64 0,.string ⟨#[]⟩] 122)).alloc (.cells wordsA 9))):=(zAl _ _).alloc (by simp) _
 have Z0:Hid (Zero ((w.alloc (.cells #[.int .i64 0,.int .i64 0,.string ⟨#[]⟩] 122)).alloc (.cells wordsA 9)) w.heap.size):=(Zero.new w).below (zAl _ _)
 have HT:Hid (∀ k:Nat,k<14->((w.alloc (.cells #[.int .i64 0,.int .i64 0,.string ⟨#[]⟩] 122)).alloc (.cells wordsA 9)).cell? ⟨w.heap.size+1,4+k,none⟩=some (.string (opTab.getD k ⟨#[]⟩))):=fun k hk=>by
  have h:=words_all (w.alloc (.cells #[.int .i64 0,.int .i64 0,.string ⟨#[]⟩] 122)) k hk
  rw [show (w.alloc (.cells #[.int .i64 0,.int .i64 0,.string ⟨#[]⟩] 122)).heap.size=w.heap.size+1 by simp] at h
  exact h
 go_enter func99,ntmps99
 go_wp2_with (go_at_call 118;refine (l2Words_any _).mono ?_;rintro e w3 ⟨rfl,rfl⟩)
 generalize (w.alloc (.cells #[.int .i64 0,.int .i64 0,.string ⟨#[]⟩] 122)).alloc (.cells wordsA 9)=W0 at B0 Z0 HT |-
 go_loopw [4] (fun i wr=>∃ k:Nat,k<=14/\i=.int .i64 (4+(k:Int))/\Hid (∀ j,j<k->opAtB s j=false)/\wr=W0) (fun i _=>18-(intOf i).toNat)
 case atStart=>exact ⟨0,Nat.zero_le _,rfl,fun j h=>absurd h (Nat.not_lt_zero _),rfl⟩
 case round =>
  obtain ⟨k,hk,rfl,hno,rfl⟩:=hrel
  by_cases hlt:k<14
  ·have c0:=HT.out k hlt
   have e4:(4+(k:Int)).toNat=4+k:=by omega
   have k0:(0:Int)<=4+(k:Int):=by omega
   have k1:4+(k:Int)<18:=by omega
   have hw4:(4+(k:Int))<=17:=by omega
   cases hb:opAtB s k with
   | true =>
    have HV:Hid (nodeV (nodeS s)=nodeV (4+(k:Int),0,⟨#[]⟩)):=by show _=_;unfold nodeS;rw [op_first hlt hno.out hb]
    have hb':((opTab.getD k ⟨#[]⟩).toList == s.toList)=true:=hb
    generalize opTab.getD k ⟨#[]⟩=T at c0 hb'
    obtain ⟨r0,r1,r2,f0,hrl⟩:=Z0.out
    have ZP:Hid (_/\_/\_):=Z0.out.put (.int .i64 (4+(k:Int))) (.int .i64 0) (.string ⟨#[]⟩)
    have BB:Hid (Below w.heap.size w wr):=B0.out
    clear hno hb Z0
    go_wp2_with fail
    obtain ⟨p0,p1,p2⟩:=ZP.out
    exact bodyPost_ret (v:=.agg #[.int .i64 (4+(k:Int)),.int .i64 0,.string ⟨#[]⟩]) (by simp [results,results99,go_sem,p0,p1,p2]) rfl ⟨(congrArg Ending.returned HV.out).symm,set3_below BB.out (Nat.le_refl _) _ _ _⟩
   | false =>
    have HN2:Hid (∀ j,j<k+1->opAtB s j=false):=fun j hj=>by
     rcases Nat.lt_or_ge j k with h|h
     ·exact hno.out j h
     ·have e:j=k:=by omega
      subst e;exact hb
    have hb':((opTab.getD k ⟨#[]⟩).toList == s.toList)=false:=hb
    generalize opTab.getD k ⟨#[]⟩=T at c0 hb'
    clear hno hb
    go_wp2_with fail
    go_roundw
    case rel=>exact ⟨k+1,by omega,by first|go_num|(congr 1;omega),HN2.out,by first|rfl|trivial⟩
    case measure=>simp [intOf];omega
  ·have e:k=14:=by omega
   subst e
   have HOP:Hid (opI s=none):=op_none hno.out
   have cn:=Nums.specNum_any s wr (by unfold maxLen;omega)
   clear hno
   obtain ⟨r0,r1,r2,f0,hrl⟩:=Z0.out
   have BB:Hid (Below w.heap.size w wr):=B0.out
   cases hn:Nums.num s with
   | some n =>
    rw [hn] at cn
    simp only [Option.getD_some,Option.isSome_some] at cn
    have hbd:=num_bd hn
    have HV:Hid (nodeV (nodeS s)=nodeV (1,n,⟨#[]⟩)):=by show _=_;unfold nodeS;rw [HOP.out];simp only;rw [hn]
    have ZP:Hid (_/\_/\_):=Z0.out.put (.int .i64 1) (.int .i64 n) (.string ⟨#[]⟩)
    clear hn
    go_wp2_with fail
    refine cn.mono ?_
    rintro e w' ⟨rfl,hw'⟩
    have hw':=hw'.symm
    subst hw'
    go_wp2_with fail
    obtain ⟨p0,p1,p2⟩:=ZP.out
    exact bodyPost_ret (v:=.agg #[.int .i64 1,.int .i64 n,.string ⟨#[]⟩]) (by simp [results,results99,go_sem,p0,p1,p2]) rfl ⟨(congrArg Ending.returned HV.out).symm,set3_below BB.out (Nat.le_refl _) _ _ _⟩
   | none =>
    rw [hn] at cn
    simp only [Option.getD_none,Option.isSome_none] at cn
    by_cases hz:s.size=0
    ·have e0:s.toList.isEmpty=true:=Nums.empty_yes hz
     have hh:Nodi.hash s=false:=decide_eq_false (by omega)
     have HV:Hid (nodeV (nodeS s)=nodeV (2,0,s)):=by show _=_;unfold nodeS;rw [HOP.out];simp only;rw [hn];simp only;rw [hh];rfl
     have ZP:Hid (_/\_/\_):=Z0.out.put (.int .i64 2) (.int .i64 0) (.string s)
     clear hn hh
     go_wp2_with fail
     refine cn.mono ?_
     rintro e w' ⟨rfl,hw'⟩
     have hw':=hw'.symm
     subst hw'
     go_wp2_with fail
     obtain ⟨p0,p1,p2⟩:=ZP.out
     exact bodyPost_ret (v:=.agg #[.int .i64 2,.int .i64 0,.string s]) (by simp [results,results99,go_sem,p0,p1,p2]) rfl ⟨(congrArg Ending.returned HV.out).symm,set3_below BB.out (Nat.le_refl _) _ _ _⟩
    ·have e0:s.toList.isEmpty=false:=Nums.empty_no hz
     have hp:0<s.size:=Nat.pos_of_ne_zero hz
     cases hh:Nodi.hash s with
     | true =>
      have h35:(s[0].toNat:Int)=35:=by
       have h:=(of_decide_eq_true hh).2
       rw [Nums.getD_at s hp] at h
       omega
      have HV:Hid (nodeV (nodeS s)=nodeV (3,0,(s.extract 1 s.size))):=by show _=_;unfold nodeS;rw [HOP.out];simp only;rw [hn];simp only;rw [hh];rfl
      have ZP:Hid (_/\_/\_):=Z0.out.put (.int .i64 3) (.int .i64 0) (.string (s.extract 1 s.size))
      clear hn hh
      go_wp2_with fail
      refine cn.mono ?_
      rintro e w' ⟨rfl,hw'⟩
      have hw':=hw'.symm
      subst hw'
      go_wp2_with fail
      obtain ⟨p0,p1,p2⟩:=ZP.out
      exact bodyPost_ret (v:=.agg #[.int .i64 3,.int .i64 0,.string (s.extract 1 s.size)]) (by simp [results,results99,go_sem,p0,p1,p2]) rfl ⟨(congrArg Ending.returned HV.out).symm,set3_below BB.out (Nat.le_refl _) _ _ _⟩
     | false =>
      have h35:¬ (s[0].toNat:Int)=35:=fun h=>by
       have h2:=of_decide_eq_false hh
       rw [Nums.getD_at s hp] at h2
       exact h2 ⟨hp,by omega⟩
      have HV:Hid (nodeV (nodeS s)=nodeV (2,0,s)):=by show _=_;unfold nodeS;rw [HOP.out];simp only;rw [hn];simp only;rw [hh];rfl
      have ZP:Hid (_/\_/\_):=Z0.out.put (.int .i64 2) (.int .i64 0) (.string s)
      clear hn hh
      go_wp2_with fail
      refine cn.mono ?_
      rintro e w' ⟨rfl,hw'⟩
      have hw':=hw'.symm
      subst hw'
      go_wp2_with fail
      obtain ⟨p0,p1,p2⟩:=ZP.out
      exact bodyPost_ret (v:=.agg #[.int .i64 2,.int .i64 0,.string s]) (by simp [results,results99,go_sem,p0,p1,p2]) rfl ⟨(congrArg Ending.returned HV.out).symm,set3_below BB.out (Nat.le_refl _) _ _ _⟩
end Nodj
namespace Otxa
open Go.Deep
open Optx (decW Pow)
open Lib (byteCells strCells)
open Bld (Holds)
theorem after {a w w':World} (h:Below a.heap.size a w) (k:Below w.heap.size w w'):Below a.heap.size a w':=h.trans (k.mono h.size)
theorem decimal_any (n:Int) (w:World) (hP:Pow w) (h0:-9223372036854775808<=n) (h1:n<=9223372036854775807) :
  Calls prog 38 #[.int .i64 n] w fun e w'=>e=.returned (.string (decW n))/\Below w.heap.size w w':=by
 have c:Calls prog 79 #[.int .i64 n,.int .i64 10] w fun e w'=>e=.returned (.string (decW n))/\Below w.heap.size w w' :=
  (Tryz.strconv_FormatInt_10 n (by omega) (by omega) w hP).mono (by
   rintro e w' ⟨rfl,k,os,rfl⟩
   exact ⟨rfl,Lib.below_grow _ _ (Nat.le_refl _) k os⟩)
 clear hP
 generalize decW n=V at c |-
 go_enter func38,ntmps38
 go_wp2_with fail
 refine c.mono ?_
 rintro e w1 ⟨rfl,b1⟩
 have B1:Hid (Below w.heap.size w w1):=b1
 clear b1 c
 go_wp2
 go_ret
 exact ⟨rfl,B1.out⟩
theorem digits_le:∀ (k u:Nat),u<10 ^ (k+1)->(Lib.decDigits u).length<=k+1
 | 0,u,h=>by
  rw [Lib.decDigits,dif_pos (by omega)];simp
 | k+1,u,h=>by
  rw [Lib.decDigits]
  split
  ·simp
  ·rw [List.length_append]
   have h':u<10*10 ^ (k+1):=by rw [Nat.pow_succ] at h;omega
   have:=digits_le k (u / 10) (by omega)
   simp only [List.length_cons,List.length_nil]
   omega
theorem decW_le {n:Int} (h0:-4000000000<=n) (h1:n<=4000000000):(decW n).size<=11:=by
 show (Lib.itoa n).toArray.size<=11
 rw [List.size_toArray]
 unfold Lib.itoa
 split
 ·have:=digits_le 9 n.natAbs (by omega)
  rw [List.length_cons]
  omega
 ·have:=digits_le 9 n.toNat (by omega)
  omega
theorem decW_neg {n:Int} (h:n<0):(⟨#[45]⟩ : ByteArray) ++ decW (-n)=decW n:=by
 apply ByteArray.ext
 apply Array.ext'
 rw [ByteArray.data_append,Array.toList_append]
 show [45] ++ (Lib.itoa (-n)).toArray.toList=(Lib.itoa n).toArray.toList
 unfold Lib.itoa
 rw [if_neg (by omega),if_pos h,show (-n).toNat=n.natAbs by omega]
 rfl
theorem ret_str {a b:ByteArray} (h:b=a):Ending.returned (.string a)=.returned (.string b):=by rw [h]
theorem l1Dec_all (n:Int) (w:World) (h0:-4000000000<=n) (h1:n<=4000000000) :
  Calls prog 85 #[.int .i64 n] w fun e w'=>e=.returned (.string (decW n))/\Below w.heap.size w w':=by
 by_cases hn:n<0
 ·have c:=fun w=>Exts.l1Dec_any (-n) w (by omega) (by omega)
  rw [Exts.dec_w (by omega)] at c
  have hz:=decW_le (n:=-n) (by omega) (by omega)
  have HE:Hid ((⟨#[45]⟩ : ByteArray) ++ decW (-n)=decW n):=decW_neg hn
  have dn:decide (n<0)=true:=decide_eq_true hn
  have dw:IntKind.i64.wrap (-n) = -n:=by rw [IntKind.wrap_i64];omega
  generalize decW (-n)=V at c hz HE
  have q:¬ 9223372036854775807<1+V.size:=by omega
  go_enter func85,ntmps85
  go_wp2_with fail
  refine (c _).mono ?_
  rintro e w1 ⟨rfl,b1⟩
  have B1:Hid (Below w.heap.size w w1):=b1
  clear b1 c
  go_wp2
  go_ret
  exact ⟨ret_str HE.out.symm,B1.out⟩
 ·have c:=Exts.l1Dec_any n w (by omega) h1
  rw [Exts.dec_w (by omega)] at c
  exact c
def two (c:UInt8):List UInt8:=[UInt8.ofNat (Nums.tab.getD (c.toNat / 16) 0).toNat,UInt8.ofNat (Nums.tab.getD (c.toNat%16) 0).toNat]
def hexA (s:ByteArray):ByteArray:=⟨(s.data.toList.flatMap two).toArray⟩
theorem size_list (s:ByteArray):s.data.toList.length=s.size:=by rw [Array.length_toList];rfl
theorem flat_len (l:List UInt8):(l.flatMap two).length=2*l.length:=by
 induction l with
 | nil=>rfl
 | cons x l ih=>rw [List.flatMap_cons,List.length_append,ih,List.length_cons];show 2+_=_;omega
theorem hexA_size (s:ByteArray):(hexA s).size=2*s.size:=by
 show (s.data.toList.flatMap two).toArray.size=_
 rw [List.size_toArray,flat_len,size_list]
def hexT (s:ByteArray) (k:Nat):List UInt8:=(s.data.toList.take k).flatMap two
theorem hexT_step {s:ByteArray} {k:Nat} (h:k<s.size):hexT s (k+1)=hexT s k ++ two s[k]:=by
 unfold hexT
 have hk:k<s.data.toList.length:=by rw [size_list];exact h
 rw [List.take_succ_eq_append_getElem hk,List.flatMap_append]
 simp
 rfl
theorem hexT_all (s:ByteArray):hexT s s.size=s.data.toList.flatMap two:=by
 unfold hexT
 rw [List.take_of_length_le (by rw [size_list];exact Nat.le_refl _)]
theorem hexT_len {s:ByteArray} {k:Nat} (h:k<=s.size):(hexT s k).length=2*k:=by
 unfold hexT
 rw [flat_len,List.length_take,size_list]
 omega
theorem two_hex:∀ c:Fin 256,(Hex.hexS (c.val:Int) 2).size=3/\((Hex.hexS (c.val:Int) 2).extract 1 3).data.toList=two (UInt8.ofNat c.val):=by decide +kernel
theorem two_byte (c:UInt8):(Hex.hexS (c.toNat:Int) 2).size=3/\((Hex.hexS (c.toNat:Int) 2).extract 1 3).data.toList=two c:=by
 have:=two_hex ⟨c.toNat,c.toNat_lt⟩
 simpa using this
theorem l9Hex_any (s:ByteArray) (w:World) (hs:s.size<=1048576) :
  Calls prog 86 #[.string s] w fun e w'=>e=.returned (.string (hexA s))/\w'=w:=by
 go_enter func86,ntmps86
 go_wp2
 go_loop [3,4] (fun v i=>∃ k:Nat,k<=s.size/\v=.string ⟨(hexT s k).toArray⟩/\i=.int .i64 (k:Int)) (fun _ i=>s.size-(intOf i).toNat)
 case atStart=>exact ⟨0,Nat.zero_le _,rfl,rfl⟩
 case round =>
  obtain ⟨k,hk,rfl,rfl⟩:=hrel
  by_cases hlt:k<s.size
  ·have c:=fun w=>Hex.specHex_any ((s[k]'hlt).toNat:Int) 2 w
   obtain ⟨t1,t2⟩:=two_byte (s[k]'hlt)
   have HN:Hid ((⟨(hexT s k).toArray⟩ : ByteArray) ++ (Hex.hexS ((s[k]'hlt).toNat:Int) 2).extract 1 3=⟨(hexT s (k+1)).toArray⟩):=(show _=_ from by
    apply ByteArray.ext
    apply Array.ext'
    rw [ByteArray.data_append,Array.toList_append,t2,hexT_step hlt])
   have hl:=hexT_len (s:=s) (k:=k) hk
   have hl':(⟨(hexT s k).toArray⟩ : ByteArray).size=2*k:=by show (hexT s k).toArray.size=_;rw [List.size_toArray,hl]
   have x3:((Hex.hexS ((s[k]'hlt).toNat:Int) 2).extract 1 3).size=2:=by rw [ByteArray.size_extract,t1];rfl
   have hb:=(s[k]'hlt).toNat_lt
   have hix:∀ w,(Instr.index 9 (.string s) (.int .i64 (k:Int))).run prog w=.ok (.int .u8 ((s[k]'hlt).toNat:Int)) w:=fun w=>by
    rw [run_index_string w 9 s .i64 (k:Int) underlying9,dif_pos ⟨by omega,by omega⟩]
    rfl
   have sl:∀ w,(Instr.slice 9 (.string (Hex.hexS ((s[k]'hlt).toNat:Int) 2)) (some (.int .i64 1)) none none).run prog w=.ok (.string ((Hex.hexS ((s[k]'hlt).toNat:Int) 2).extract 1 3)) w:=fun w=>by
    have:=run_slice_string_l (P:=prog) w (t:=9) (s:=Hex.hexS ((s[k]'hlt).toNat:Int) 2) underlying9 .i64 1 (by omega) (by omega)
    rwa [t1] at this
   generalize (Hex.hexS ((s[k]'hlt).toNat:Int) 2).extract 1 3=Y at sl HN x3
   generalize Hex.hexS ((s[k]'hlt).toNat:Int) 2=X at c sl t1
   generalize (s[k]'hlt).toNat=cc at c hix hb
   generalize (⟨(hexT s k).toArray⟩ : ByteArray)=Z at HN hl'
   have q:¬ 9223372036854775807<Z.size+Y.size:=by omega
   have dw:IntKind.i64.wrap (cc:Int)=cc:=by rw [IntKind.wrap_i64];omega
   have dk:IntKind.i64.wrap ((k:Int)+1)=((k+1:Nat):Int):=by rw [IntKind.wrap_i64];omega
   clear t2 hl hl' x3
   go_wp2_with (go_at_call 117;refine (c _).mono ?_;rintro e w' ⟨rfl,hw⟩;have hw:=hw.symm;subst hw)
   go_round
   case rel=>exact ⟨k+1,by omega,by rw [HN.out],by go_num⟩
   case measure=>simp [intOf];omega
  ·have e:k=s.size:=by omega
   subst e
   have HA:Hid (hexA s=⟨(hexT s s.size).toArray⟩):=(show _=_ from by rw [hexT_all];rfl)
   go_wp2
   go_ret
   exact ⟨ret_str HA.out,rfl⟩
end Otxa
namespace Otxb
open Go.Deep
open Optx (decW Pow)
open Lib (byteCells strCells)
open Bld (Holds)
open Otxa
theorem own_below {w w1:World} {base:Nat} {e:TypeId} {size:Nat} {v:Value} {n:Nat} {xs:List Value} (h:w.ownsRow base e size v n xs) (hb:Below w.heap.size w w1):w1.ownsRow base e size v n xs :=
 h.kept (row:=none) ⟨hb.os,hb.tape,hb.output,hb.size,fun k hk _=>hb.block k hk⟩ (by cases hv:Value.ownBlock v <;> simp)
theorem tab_bd:∀ i:Fin 16,0<=Nums.tab.getD i.val 0/\Nums.tab.getD i.val 0<=255:=by decide
theorem two_cells (c:UInt8):byteCells (two c)=[.int .u8 (Nums.tab.getD (c.toNat / 16) 0),.int .u8 (Nums.tab.getD (c.toNat%16) 0)]:=by
 have h1:=tab_bd ⟨c.toNat / 16,by have:=c.toNat_lt;omega⟩
 have h2:=tab_bd ⟨c.toNat%16,by omega⟩
 simp only at h1 h2
 unfold byteCells two
 simp only [List.map_cons,List.map_nil]
 have e:∀ x:Int,0<=x->x<=255->(((UInt8.ofNat x.toNat).toNat:Nat):Int)=x:=fun x a b=>by simp;omega
 rw [e _ h1.1 h1.2,e _ h2.1 h2.2]
theorem digits_any (s:ByteArray) (w:World) (hT:Nums.Tab w) (hs:s.size<=1048576) :
  Calls prog 75 #[.string s] w fun e w'=>e=.returned (.string (hexA s))/\Below w.heap.size w w':=by
 obtain ⟨i0,hi,hz0,hz1,hz2⟩:=info_parts Obuf.info5
 have HT:Hid (Nums.Tab w):=hT
 have HG:Hid (0<w.heap.size):=Hex.size_pos hT
 clear hT
 go_enter func75,ntmps75
 go_wp2
 go_loopw [3,7] (fun v i wr=>∃ k:Nat,k<=s.size/\i=.int .i64 (k:Int)/\Hid (wr.ownsRow w.heap.size 5 1 v (hexT s k).length (byteCells (hexT s k)))/\Hid (Below w.heap.size w wr)) (fun _ i _=>s.size-(intOf i).toNat)
 case atStart=>exact ⟨0,Nat.zero_le _,rfl,World.ownsRow_nil _ _ _ _,Below.refl _ _⟩
 case round =>
  obtain ⟨k,hk,rfl,hown,hbel⟩:=hrel
  by_cases hlt:k<s.size
  ·have hb:=(s[k]'hlt).toNat_lt
   have hix:∀ w,(Instr.index 9 (.string s) (.int .i64 (k:Int))).run prog w=.ok (.int .u8 ((s[k]'hlt).toNat:Int)) w:=fun w=>by
    rw [run_index_string w 9 s .i64 (k:Int) underlying9,dif_pos ⟨by omega,by omega⟩]
    rfl
   have HN:Hid (byteCells (hexT s (k+1))=byteCells (hexT s k) ++ [.int .u8 (Nums.tab.getD ((s[k]'hlt).toNat / 16) 0),.int .u8 (Nums.tab.getD ((s[k]'hlt).toNat%16) 0)]):=(show _=_ from by
    rw [hexT_step hlt,<- two_cells];unfold byteCells;rw [List.map_append])
   have hl:=hexT_len (s:=s) (k:=k) hk
   have hl1:=hexT_len (s:=s) (k:=k+1) (by omega)
   generalize (s[k]'hlt).toNat=c at hb hix HN
   have t0:wr.cell? ⟨0,c / 16,none⟩=some (.int .u8 (Nums.tab.getD (c / 16) 0)):=(hbel.out.cell (p:=⟨_,_,none⟩) HG.out).trans (HT.out (c / 16) (by omega))
   have t1:wr.cell? ⟨0,c%16,none⟩=some (.int .u8 (Nums.tab.getD (c%16) 0)):=(hbel.out.cell (p:=⟨_,_,none⟩) HG.out).trans (HT.out (c%16) (by omega))
   generalize Nums.tab.getD (c / 16) 0=x0 at t0 HN
   generalize Nums.tab.getD (c%16) 0=x1 at t1 HN
   have r0:=cell_regrown t0
   have r1:=cell_regrown t1
   have dk:IntKind.i64.wrap ((k:Int)+1)=((k+1:Nat):Int):=by rw [IntKind.wrap_i64];omega
   have d0:(c:Int).tdiv 16=((c / 16:Nat):Int):=by rw [Int.tdiv_eq_ediv_of_nonneg (by omega)];omega
   have d1:(c:Int).tmod 16=((c%16:Nat):Int):=by rw [Int.tmod_eq_emod_of_nonneg (by omega)];omega
   have d2:IntKind.u8.wrap ((c / 16:Nat):Int)=((c / 16:Nat):Int):=by rw [IntKind.wrap_u8];omega
   have d3:IntKind.u8.wrap ((c%16:Nat):Int)=((c%16:Nat):Int):=by rw [IntKind.wrap_u8];omega
   have e0:(0:Int)<=((c / 16:Nat):Int):=by omega
   have e1:((c / 16:Nat):Int)<16:=by omega
   have e2:(0:Int)<=((c%16:Nat):Int):=by omega
   have e3:((c%16:Nat):Int)<16:=by omega
   generalize c / 16=ca at t0 r0 d0 d2 e0 e1
   generalize c%16=cm at t1 r1 d1 d3 e2 e3
   go_upto_region 5 with fail
   refine Qmov.tail_move 0 13 (by kernel_rfl) (by kernel_rfl) (fun _ _ _ _ _ h=>h) ?_
   simp only [List.take_succ_cons,List.take_zero,List.drop_succ_cons,List.drop_zero]
   repeat (go_big_quiet_step (first|fail))
   refine wpQuiet_nil ?_
   intro _ hw'
   obtain ⟨⟨dq,osq⟩,hw''⟩:=hw'
   subst hw''
   have own1:Hid ((Go.Sort.grow (redrawn wr dq) osq).ownsRow w.heap.size 5 1 u3 (hexT s k).length (byteCells (hexT s k))):=own_below hown.out (below_regrown wr dq osq)
   have bel1:Hid (Below w.heap.size w (Go.Sort.grow (redrawn wr dq) osq)):=after hbel.out (below_regrown wr dq osq)
   generalize Go.Sort.grow (redrawn wr dq) osq=W1 at own1 bel1 |-
   clear hown hbel r0 r1 t0 t1
   have hlt2:=own1.out.lt
   go_wp2_with (first|(at_builtin;refine wpList_append_own _ rfl (.tmp 10) (.tmp 23) 32 rfl w.heap.size 5 i0 (.int .u8 0) 1 1 underlying32 hi hz0 hz1 hz2 rfl (by decide) _ _ _ rfl (own1.out.alloc _) ⟨W1.heap.size,0,none⟩ 2 2 [.int .u8 x0,.int .u8 x1] rfl rfl (fun j u hu=>by rw [Addr.add_lit,Nat.zero_add,World.cell?_alloc_new];simpa using hu) (by intro u hu;simp at hu;rcases hu with rfl|rfl <;> rfl) (by unfold maxLen;omega) (by omega) (by have:=bel1.out.size;simp;omega) ?_;intro v' w9 hown' hgrow _)|fail)
   have own9:Hid (w9.ownsRow w.heap.size 5 1 v' (hexT s (k+1)).length (byteCells (hexT s (k+1)))):=by
    show w9.ownsRow w.heap.size 5 1 v' (hexT s (k+1)).length (byteCells (hexT s (k+1)))
    rw [HN.out,hl1,show 2*(k+1)=2*k+2 by omega,<- hl];exact hown'
   have bel9:Hid (Below w.heap.size w w9):=(bel1.out.alloc bel1.out.size _).grown hgrow (by have:=bel1.out.size;simp;omega) (fun j hj=>(hlt2 j hj).1)
   clear hown' hgrow hlt2 own1 bel1
   go_wp2
   go_roundw
   case rel=>exact ⟨k+1,by omega,by go_num,own9.out,bel9.out⟩
   case measure=>simp [intOf];omega
  ·have e:k=s.size:=by omega
   subst e
   have hcv:=Obuf.str_own (W:=wr) (l:=hexT s s.size) hown.out
   have HA:Hid (hexA s=⟨(hexT s s.size).toArray⟩):=(show _=_ from by rw [hexT_all];rfl)
   generalize (⟨(hexT s s.size).toArray⟩ : ByteArray)=R at hcv HA
   clear hown
   go_wp2
   go_ret
   exact ⟨ret_str HA.out,hbel.out⟩
end Otxb
namespace Otxt
open Go.Deep
open Optx (decW Pow)
open Lib (byteCells strCells)
open Bld (Holds)
open Otxa
def line (ws:List ByteArray):List UInt8:=Lib.join (ws.map (·.data.toList)) [32] ++ [10]
theorem tell_any (B b g c:Nat) (l:List UInt8) (ws:List ByteArray) (w:World) (h:Holds B b (byteCells l) w) (hBw:B<=w.heap.size) (hcells:∀ (j:Nat) x,ws[j]? = some x->w.cell? ⟨g,j,none⟩=some (.string x)) (hg:g<w.heap.size) (hcap:ws.length<=c) (hw:ws.length<=100) (hlen:l.length+(line ws).length<=100000000) :
  Calls prog 37 #[.pointer (some ⟨b,0,none⟩),.slice (some ⟨g,0,none⟩) ws.length c] w fun e w'=>e=.returned (.tuple #[])/\Holds B b (byteCells (l ++ line ws)) w'/\Below B w w':=by
 have hjl:(Lib.join (ws.map (·.data.toList)) [32]).length+1=(line ws).length:=by unfold line;rw [List.length_append];rfl
 have cj:=Tryz.strings_Join g 0 c ws ⟨#[32]⟩ w (fun j x hj=>by rw [Nat.zero_add];exact hcells j x hj) hg (by omega) hcap (by show (Lib.join (ws.map (·.data.toList)) [32]).length<=_;omega)
 obtain ⟨J,hJ⟩ : ∃ J,J=(⟨(Lib.join (ws.map (·.data.toList)) [32]).toArray⟩ : ByteArray):=⟨_,rfl⟩
 have cq:Calls prog 77 #[.slice (some ⟨g,0,none⟩) ws.length c,.string ⟨#[32]⟩] w fun e w'=>e=.returned (.string J)/\Below w.heap.size w w':=by rw [hJ];exact cj
 have HC:Hid ((byteCells l ++ strCells J) ++ [.int .u8 10]=byteCells (l ++ line ws)):=(show _=_ from by
  rw [hJ];unfold byteCells strCells line
  simp)
 have hjs:J.size+1=(line ws).length:=by rw [hJ,<- hjl];show (List.toArray _).size+1=_;rw [List.size_toArray]
 have hbl:(byteCells l).length=l.length:=Lib.byteCells_length l
 have HH:Hid (Holds B b (byteCells l) w):=h
 have HB:Hid (B<=w.heap.size):=hBw
 clear cj hJ hcells h hjl hBw
 go_enter func37,ntmps37
 go_wp2_with fail
 refine cq.mono ?_
 rintro e w1 ⟨rfl,b1⟩
 have H1:Hid (Holds B b (byteCells l) w1):=Bld.holds_below HH.out b1
 have V1:Hid (Below B w w1):=b1.mono HB.out
 have HB1:Hid (B<=w1.heap.size):=Nat.le_trans HB.out b1.size
 clear b1 cq HH
 go_wp2_with fail
 refine (Bld.str_any B b _ J w1 H1.out (by rw [hbl];omega) HB1.out).mono ?_
 rintro e w2 ⟨rfl,h2,b2⟩
 have H2:Hid (Holds B b (byteCells l ++ strCells J) w2):=h2
 have V2:Hid (Below B w w2):=V1.out.trans b2
 have HB2:Hid (B<=w2.heap.size):=Nat.le_trans HB1.out b2.size
 clear h2 b2 H1 V1
 go_wp2_with fail
 refine (Bld.byte_any B b _ 10 w2 H2.out (by rw [List.length_append,hbl,Lib.strCells_length];omega) HB2.out).mono ?_
 rintro e w3 ⟨rfl,h3,b3⟩
 have H3:Hid (Holds B b (byteCells (l ++ line ws)) w3):=(show Holds _ _ _ _ from by rw [<- HC.out];exact h3)
 have V3:Hid (Below B w w3):=V2.out.trans b3
 clear h3 b3 H2 V2
 go_wp2
 first|go_end0|refine bodyPost_ret (results_none rfl _ _ _) rfl ?_
 exact ⟨rfl,H3.out,V3.out⟩
end Otxt
namespace Rbyt
open Go.Deep
open Lib (byteCells)
open Otxa
def dS (c:UInt8):Int:=Nums.digS (c.toNat:Int)
def byO:List UInt8->Option (List UInt8)
 | []=>some []
 | [_]=>none
 | a :: b :: r=>if dS a=99 \/ dS b=99 then none else (byO r).map fun l=>UInt8.ofNat (16*dS a+dS b).toNat :: l
theorem byO_cons (a b:UInt8) (r:List UInt8):byO (a :: b :: r)=if dS a=99 \/ dS b=99 then none else (byO r).map fun l=>UInt8.ofNat (16*dS a+dS b).toNat :: l:=rfl
theorem byO_odd:∀ (n:Nat) (l:List UInt8),l.length<=n->l.length%2=1->byO l=none
 | n,[],_,h=>by simp at h
 | n,[_],_,_=>rfl
 | 0,a :: b :: r,hn,_=>by simp at hn
 | n+1,a :: b :: r,hn,h=>by
  simp only [List.length_cons] at hn h
  unfold byO
  rw [byO_odd n r (by omega) (by omega)]
  split <;> rfl
theorem drop_two (s:ByteArray) (i:Nat) (h:i+1<s.size):s.data.toList.drop i=s[i] :: s[i+1] :: s.data.toList.drop (i+2):=by
 rw [List.drop_eq_getElem_cons (show i<s.data.toList.length from Nat.lt_of_succ_lt h),List.drop_eq_getElem_cons (show i+1<s.data.toList.length from h)]
 rfl
def St (s:ByteArray) (i:Nat) (D:List UInt8):Prop:=i=2*D.length/\i<=s.size/\byO s.data.toList=(byO (s.data.toList.drop i)).map fun l=>D ++ l
theorem St.start (s:ByteArray):St s 0 []:=⟨rfl,Nat.zero_le _,by rw [List.drop_zero];cases byO s.data.toList <;> rfl⟩
theorem St.bad {s:ByteArray} {i:Nat} {D:List UInt8} (h:St s i D) (hi:i+1<s.size) (hd:dS s[i]=99 \/ dS s[i+1]=99):byO s.data.toList=none:=by
 rw [h.2.2,drop_two s i hi,byO_cons,if_pos hd];rfl
theorem St.on {s:ByteArray} {i:Nat} {D:List UInt8} (h:St s i D) (hi:i+1<s.size) (hd:¬ (dS s[i]=99 \/ dS s[i+1]=99)):St s (i+2) (D ++ [UInt8.ofNat (16*dS s[i]+dS s[i+1]).toNat]):=by
 refine ⟨by have:=h.1;simp only [List.length_append,List.length_singleton];omega,by omega,?_⟩
 have e:=h.2.2
 rw [drop_two s i hi,byO_cons,if_neg hd] at e
 rw [e]
 cases byO (s.data.toList.drop (i+2)) with
 | none=>rfl
 | some l=>simp
theorem St.fin {s:ByteArray} {i:Nat} {D:List UInt8} (h:St s i D) (hi:s.size<=i):byO s.data.toList=some D:=by
 rw [h.2.2,List.drop_eq_nil_of_le (show s.data.toList.length<=i from hi)]
 show some (D ++ [])=_
 rw [List.append_nil]
theorem St.odd {s:ByteArray} (h:s.size%2=1):byO s.data.toList=none:=byO_odd s.size _ (Nat.le_refl _) h
def Told9 (s:ByteArray) (w:World) (e:Ending) (w':World):Prop:=(∃ x:ByteArray,e=.returned (.tuple #[.string x,.bool (byO s.data.toList).isSome])/\∀ l,byO s.data.toList=some l->x=⟨l.toArray⟩)/\Below w.heap.size w w'
theorem Told9.no {s x:ByteArray} {w w':World} (h:byO s.data.toList=none) (hb:Below w.heap.size w w'):Told9 s w (.returned (.tuple #[.string x,.bool false])) w':=⟨⟨x,by rw [h];rfl,fun l hl=>by rw [h] at hl;cases hl⟩,hb⟩
theorem Told9.yes {s:ByteArray} {D:List UInt8} {w w':World} (h:byO s.data.toList=some D) (hb:Below w.heap.size w w'):Told9 s w (.returned (.tuple #[.string ⟨D.toArray⟩,.bool true])) w':=⟨⟨_,by rw [h];rfl,fun l hl=>by rw [h] at hl;cases hl;rfl⟩,hb⟩
theorem byte_cell {x:Int} (h0:0<=x) (h1:x<=255) (D:List UInt8):byteCells (D ++ [UInt8.ofNat x.toNat])=byteCells D ++ [.int .u8 x]:=by
 unfold byteCells
 rw [List.map_append]
 have e:(((UInt8.ofNat x.toNat).toNat:Nat):Int)=x:=by simp;omega
 simp only [List.map_cons,List.map_nil]
 rw [e]
theorem specBytes_any (s:ByteArray) (w:World) (hs:s.size<=1048576):Calls prog 60 #[.string s] w (Told9 s w):=by
 obtain ⟨i0,hi,hz0,hz1,hz2⟩:=info_parts Obuf.info5
 have OW0:Hid ((w.alloc (.cells #[] 5)).ownsRow w.heap.size 5 1 (.slice (some ⟨w.heap.size,0,none⟩) 0 0) 0 []):=World.ownsRow_lit w #[] 0 (Nat.le_refl _) (by decide) rfl
 go_enter func60,ntmps60
 go_wp2
 go_loopw [4,5] (fun v i wr=>∃ (k:Nat) (D:List UInt8),i=.int .i64 (k:Int)/\Hid (St s k D)/\Hid (wr.ownsRow w.heap.size 5 1 v D.length (byteCells D))/\Hid (Below w.heap.size w wr)) (fun _ i _=>s.size-(intOf i).toNat)
 case atStart=>exact ⟨0,[],rfl,St.start s,OW0.out,zAl _ _⟩
 case round =>
  obtain ⟨k,D,rfl,hst,hown,hbel⟩:=hrel
  clear OW0
  have hks:=hst.out.2.1
  have hDl:D.length<=1048576:=by have:=hst.out.1;omega
  have p1:IntKind.i64.wrap ((k:Int)+1)=(k:Int)+1:=by rw [IntKind.wrap_i64];omega
  by_cases hlt:k+1<s.size
  ·have hlt0:k<s.size:=by omega
   obtain ⟨ca,hca⟩ : ∃ c:Int,c=(s[k].toNat:Int):=⟨_,rfl⟩
   obtain ⟨cb,hcb⟩ : ∃ c:Int,c=(s[k+1].toNat:Int):=⟨_,rfl⟩
   have ba:0<=ca/\ca<=255:=by have:=s[k].toNat_lt;omega
   have bb:0<=cb/\cb<=255:=by have:=s[k+1].toNat_lt;omega
   have ix0:∀ w,(Instr.index 9 (.string s) (.int .i64 (k:Int))).run prog w=.ok (.int .u8 ca) w:=fun w=>by
    rw [run_index_string (P:=prog) w 9 s .i64 (k:Int) underlying9,dif_pos ⟨by omega,by omega⟩,hca];rfl
   have ix1:∀ w,(Instr.index 9 (.string s) (.int .i64 ((k:Int)+1))).run prog w=.ok (.int .u8 cb) w:=fun w=>by
    rw [run_index_string (P:=prog) w 9 s .i64 ((k:Int)+1) underlying9,dif_pos ⟨by omega,by omega⟩,hcb];rfl
   obtain ⟨x,hx⟩ : ∃ x,x=Nums.digS ca:=⟨_,rfl⟩
   obtain ⟨y,hy⟩ : ∃ x,x=Nums.digS cb:=⟨_,rfl⟩
   have xb:=Nums.digS_bd ca
   have yb:=Nums.digS_bd cb
   have cl0:=fun W=>Nums.l1Digit_any ca W ba.1 ba.2
   have cl1:=fun W=>Nums.l1Digit_any cb W bb.1 bb.2
   rw [<- hx] at cl0 xb
   rw [<- hy] at cl1 yb
   have HX:Hid (dS s[k]=x):=(show dS _=_ from by unfold dS;rw [<- hca,hx])
   have HY:Hid (dS s[k+1]=y):=(show dS _=_ from by unfold dS;rw [<- hcb,hy])
   have e0:decide ((k:Int)+1<(s.size:Int))=true:=decide_eq_true (by omega)
   have e0n:decide (k+1<s.size)=true:=decide_eq_true hlt
   clear hca hcb hx hy
   by_cases q1:15<x
   ·have d1:decide (15<x)=true:=decide_eq_true q1
    have HN:Hid (byO s.data.toList=none):=hst.out.bad hlt (.inl (by rw [HX.out];omega))
    go_wp2_with fail
    refine (cl0 _).mono ?_
    rintro e w1 ⟨rfl,hw⟩
    have hw:=hw.symm
    subst hw
    go_wp2_with fail
    refine (cl1 _).mono ?_
    rintro e w2 ⟨rfl,hw⟩
    have hw:=hw.symm
    subst hw
    go_wp2
    go_ret2
    exact Told9.no HN.out hbel.out
   ·have d1:decide (15<x)=false:=decide_eq_false q1
    by_cases q2:15<y
    ·have d2:decide (15<y)=true:=decide_eq_true q2
     have HN:Hid (byO s.data.toList=none):=hst.out.bad hlt (.inr (by rw [HY.out];omega))
     go_wp2_with fail
     refine (cl0 _).mono ?_
     rintro e w1 ⟨rfl,hw⟩
     have hw:=hw.symm
     subst hw
     go_wp2_with fail
     refine (cl1 _).mono ?_
     rintro e w2 ⟨rfl,hw⟩
     have hw:=hw.symm
     subst hw
     go_wp2
     go_ret2
     exact Told9.no HN.out hbel.out
    ·have d2:decide (15<y)=false:=decide_eq_false q2
     have p3:IntKind.i64.wrap (16*x)=16*x:=by rw [IntKind.wrap_i64];omega
     have p4:IntKind.i64.wrap (16*x+y)=16*x+y:=by rw [IntKind.wrap_i64];omega
     have p5:IntKind.u8.wrap (16*x+y)=16*x+y:=by rw [IntKind.wrap_u8];omega
     have p6:IntKind.i64.wrap ((k:Int)+2)=(k:Int)+2:=by rw [IntKind.wrap_i64];omega
     have vb:0<=16*x+y/\16*x+y<=255:=by omega
     have HS2:Hid (St s (k+2) (D ++ [UInt8.ofNat (16*x+y).toNat])):=(show St _ _ _ from by
      have:=hst.out.on hlt (by rw [HX.out,HY.out];omega)
      rw [HX.out,HY.out] at this;exact this)
     clear hst
     have own1:Hid (∀ o,(wr.alloc o).ownsRow w.heap.size 5 1 u4 D.length (byteCells D)):=fun o=>hown.out.alloc o
     have hlt2:=hown.out.lt
     go_wp2_with fail
     refine (cl0 _).mono ?_
     rintro e w1 ⟨rfl,hw⟩
     have hw:=hw.symm
     subst hw
     go_wp2_with fail
     refine (cl1 _).mono ?_
     rintro e w2 ⟨rfl,hw⟩
     have hw:=hw.symm
     subst hw
     go_wp2_with (first|((at_builtin;refine wpList_append_own _ rfl _ _ 32 rfl w.heap.size 5 i0 (.int .u8 0) 1 1 underlying32 hi hz0 hz1 hz2 rfl (by decide) _ D.length (byteCells D) rfl (own1.out _) ⟨wr.heap.size,0,none⟩ 1 1 [.int .u8 (16*x+y)] rfl rfl ?n2 ?n3 ?n4 ?n5 ?n6 ?_))|fail)
     case n2=>intro j u hu;rw [Addr.add_lit,Nat.zero_add,World.cell?_alloc_new];simpa using hu
     case n3=>intro u hu;simp at hu;subst hu;rfl
     case n4=>unfold maxLen;omega
     case n5=>omega
     case n6=>have:=hbel.out.size;simp;omega
     intro v' w9 hown' hgrow _
     have own9:Hid (w9.ownsRow w.heap.size 5 1 v' (D ++ [UInt8.ofNat (16*x+y).toNat]).length (byteCells (D ++ [UInt8.ofNat (16*x+y).toNat]))):=(show World.ownsRow _ _ _ _ _ _ _ from by
      rw [byte_cell vb.1 vb.2,List.length_append];exact hown')
     have bel9:Hid (Below w.heap.size w w9):=(hbel.out.alloc hbel.out.size _).grown hgrow (by have:=hbel.out.size;simp;omega) (fun j hj=>(hlt2 j hj).1)
     clear hown' hgrow hlt2 own1 hown hbel
     go_wp2
     go_roundw
     case rel=>exact ⟨k+2,D ++ [UInt8.ofNat (16*x+y).toNat],by go_num,HS2.out,own9.out,bel9.out⟩
     case measure=>simp [intOf];omega
  ·have e0:decide ((k:Int)+1<(s.size:Int))=false:=decide_eq_false (by omega)
   have e0n:decide (k+1<s.size)=false:=decide_eq_false hlt
   have hcv:=Obuf.str_own (W:=wr) (l:=D) hown.out
   by_cases hev:s.size%2=0
   ·have d1:((s.size:Int).tmod 2 == 0)=true:=by rw [Int.tmod_eq_emod_of_nonneg (by omega)];simp;omega
    have d3:(s.size:Int).tmod 2=0:=by rw [Int.tmod_eq_emod_of_nonneg (by omega)];omega
    have HF:Hid (byO s.data.toList=some D):=hst.out.fin (by have:=hst.out.1;omega)
    clear hown
    go_wp2
    go_ret2
    exact Told9.yes HF.out hbel.out
   ·have d3:(s.size:Int).tmod 2=1:=by rw [Int.tmod_eq_emod_of_nonneg (by omega)];omega
    have HF:Hid (byO s.data.toList=none):=St.odd (by omega)
    clear hown
    go_wp2
    go_ret2
    exact Told9.no HF.out hbel.out
end Rbyt
namespace Sta0
open Go.Deep
abbrev Rg (f:FuncId) (args:Array Value) (W:World) (v:Value):Prop:=∀ d os,Calls prog f args (Go.Sort.grow (redrawn W d) os) fun e w''=>e=.returned v/\∃ p:Regrown,w''=Go.Sort.grow (redrawn W p.d) p.os
theorem rg {f:FuncId} {args:Array Value} {W:World} {v:Value} (h:∀ W',Below W.heap.size W W'->Calls prog f args W' fun e w'=>e=.returned v/\Below W'.heap.size W' w'):Rg f args W v:=fun d os=>Calls.regrown_of (h _ (below_regrown W d os))
end Sta0
end Go.Proofs.YtickfkphhngagaaGreatDoor
