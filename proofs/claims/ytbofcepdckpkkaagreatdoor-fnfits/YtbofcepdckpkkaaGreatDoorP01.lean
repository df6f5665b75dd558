import Derived.StillTail
import Derived.Deep.Quiet
import Derived.Lib.QuietBelow
import Derived.Lib.SlicesCompact
import Derived.Test.YtbofcepdckpkkaaGreatDoorP00
set_option linter.all false
set_option maxRecDepth 20000
set_option maxHeartbeats 8000000
open Go.ChangeShapes Go.WideShapes Go.ChangeAt Go.RowKit
open Go.Proofs.Tryz
namespace Go.Proofs.YtbofcepdckpkkaaGreatDoor
namespace Nums
def digS (c:Int):Int:=if 48<=c/\c<=57 then c-48 else if 65<=c/\c<=70 then c-55 else 99
def digI (c:Int):Int:=if digS c=99 then -1 else digS c
def tab:List Int:=[48,49,50,51,52,53,54,55,56,57,65,66,67,68,69,70]
def Tab (w:World):Prop:=∀ i,i<16->w.cell? ⟨8,i,none⟩=some (.int .u8 (tab.getD i 0))
theorem ret_int {k:IntKind} {a b:Int} (h:a=b):Ending.returned (.int k a)=.returned (.int k b):=by rw [h]
theorem digI_tab:∀ k,k<16->digI (tab.getD k 0)=(k:Int):=by decide
theorem digI_none {c:Int} (h:∀ j,j<16->tab.getD j 0 ≠ c):digI c = -1:=by
 have e:digS c=99:=by
  unfold digS
  by_cases h1:48<=c/\c<=57
  ·exfalso
   have:c=48 \/ c=49 \/ c=50 \/ c=51 \/ c=52 \/ c=53 \/ c=54 \/ c=55 \/ c=56 \/ c=57:=by omega
   rcases this with rfl|rfl|rfl|rfl|rfl|rfl|rfl|rfl|rfl|rfl
   ·exact h 0 (by decide) rfl
   ·exact h 1 (by decide) rfl
   ·exact h 2 (by decide) rfl
   ·exact h 3 (by decide) rfl
   ·exact h 4 (by decide) rfl
   ·exact h 5 (by decide) rfl
   ·exact h 6 (by decide) rfl
   ·exact h 7 (by decide) rfl
   ·exact h 8 (by decide) rfl
   ·exact h 9 (by decide) rfl
  ·rw [if_neg h1]
   by_cases h2:65<=c/\c<=70
   ·exfalso
    have:c=65 \/ c=66 \/ c=67 \/ c=68 \/ c=69 \/ c=70:=by omega
    rcases this with rfl|rfl|rfl|rfl|rfl|rfl
    ·exact h 10 (by decide) rfl
    ·exact h 11 (by decide) rfl
    ·exact h 12 (by decide) rfl
    ·exact h 13 (by decide) rfl
    ·exact h 14 (by decide) rfl
    ·exact h 15 (by decide) rfl
   ·rw [if_neg h2]
 unfold digI;rw [if_pos e]
theorem digS_bd (c:Int):0<=digS c/\digS c<=99/\(digS c<=15 \/ digS c=99):=by unfold digS;split <;> (try split) <;> omega
theorem l1Digit_any (c:Int) (w:World) (h0:0<=c) (h1:c<=255) :
  Calls prog 144 #[.int .u8 c] w fun e w'=>e=.returned (.int .i64 (digS c))/\w'=w:=by
 have hc:c<48 \/ (48<=c/\c<=57) \/ (57<c/\c<65) \/ (65<=c/\c<=70) \/ 70<c:=by omega
 rcases hc with h|⟨h,h'⟩|⟨h,h'⟩|⟨h,h'⟩|h
 ·have hs:digS c=99:=by unfold digS;rw [if_neg (by omega),if_neg (by omega)]
  go_enter func144,ntmps144
  go_wp2
  go_ret
  first|exact ⟨rfl,rfl⟩|exact ⟨ret_int hs.symm,rfl⟩
 ·have hs:digS c=c-48:=by unfold digS;rw [if_pos ⟨h,h'⟩]
  have hd:decide (c<=57)=true:=decide_eq_true h'
  go_enter func144,ntmps144
  go_wp2
  go_ret
  first|exact ⟨rfl,rfl⟩|exact ⟨ret_int hs.symm,rfl⟩
 ·have hs:digS c=99:=by unfold digS;rw [if_neg (by omega),if_neg (by omega)]
  have hd:decide (c<=57)=false:=decide_eq_false (by omega)
  go_enter func144,ntmps144
  go_wp2
  go_ret
  first|exact ⟨rfl,rfl⟩|exact ⟨ret_int hs.symm,rfl⟩
 ·have hs:digS c=c-65+10:=by unfold digS;rw [if_neg (by omega),if_pos ⟨h,h'⟩];omega
  have hd:decide (c<=57)=false:=decide_eq_false (by omega)
  have hd':decide (c<=70)=true:=decide_eq_true h'
  go_enter func144,ntmps144
  go_wp2
  go_ret
  first|exact ⟨rfl,rfl⟩|exact ⟨ret_int hs.symm,rfl⟩
 ·have hs:digS c=99:=by unfold digS;rw [if_neg (by omega),if_neg (by omega)]
  have hd:decide (c<=57)=false:=decide_eq_false (by omega)
  have hd':decide (c<=70)=false:=decide_eq_false (by omega)
  go_enter func144,ntmps144
  go_wp2
  go_ret
  first|exact ⟨rfl,rfl⟩|exact ⟨ret_int hs.symm,rfl⟩
theorem digitOf_any (c:Int) (w:World) (hT:Tab w) :
  Calls prog 146 #[.int .u8 c] w fun e w'=>e=.returned (.int .i64 (digI c))/\w'=w:=by
 go_enter func146,ntmps146
 go_wp2
 go_loop [4] (fun i=>∃ k:Nat,k<=16/\i=.int .i64 k/\∀ j,j<k->tab.getD j 0 ≠ c) (fun i=>16-(intOf i).toNat)
 case atStart=>exact ⟨0,Nat.zero_le _,rfl,fun j h=>absurd h (Nat.not_lt_zero _)⟩
 case round =>
  obtain ⟨k,hk,rfl,hu⟩:=hrel
  by_cases hlt:k<16
  ·have hcell:=hT k hlt
   clear hT
   by_cases hc:tab.getD k 0=c
   ·have hd:digI c=(k:Int):=by rw [<- hc];exact digI_tab k hlt
    have HD:Hid (digI c=(k:Int)):=hd
    rw [hc] at hcell
    clear hc hd hu
    go_wp2
    go_ret
    exact ⟨ret_int HD.out.symm,rfl⟩
   ·have hb:(tab.getD k 0 == c)=false:=by simpa using hc
    have hT':∃ t,t=tab.getD k 0:=⟨_,rfl⟩
    obtain ⟨t,ht⟩:=hT'
    rw [<- ht] at hcell hb
    clear ht
    go_wp2
    go_round
    case rel =>
     refine ⟨k+1,by omega,by go_num,fun j h=>?_⟩
     by_cases e:j=k
     ·subst e;exact hc
     ·exact hu j (by omega)
    case measure=>simp [intOf];omega
  ·have hd:digI c = -1:=digI_none (fun j h=>hu j (by omega))
   have HD:Hid (digI c = -1):=hd
   clear hd hT
   go_wp2
   go_ret
   exact ⟨ret_int HD.out.symm,rfl⟩
def word (base:Int):Int->List UInt8->Option Int
 | n,[]=>some n
 | n,c :: r=>if base<=digS (c.toNat:Int) then none else if 65535<n*base+digS (c.toNat:Int) then none else word base (n*base+digS (c.toNat:Int)) r
def base (s:ByteArray) (b:Int):Option Int:=if s.size=0 then none else word b 0 s.data.toList
theorem drop_at (s:ByteArray) (k:Nat) (h:k<s.size):s.data.toList.drop k=s[k] :: s.data.toList.drop (k+1):=by
 rw [List.drop_eq_getElem_cons (by simpa using h)];rfl
theorem drop_end (s:ByteArray) (k:Nat) (h:s.size<=k):s.data.toList.drop k=[] :=
 List.drop_eq_nil_of_le (by rw [Array.length_toList];exact h)
theorem empty_yes {s:ByteArray} (h:s.size=0):s.toList.isEmpty=true:=by
 rw [ByteArray.toList_eq,List.isEmpty_iff_length_eq_zero,Array.length_toList];exact h
theorem empty_no {s:ByteArray} (h:¬ s.size=0):s.toList.isEmpty=false:=by
 rw [ByteArray.toList_eq];cases e:s.data.toList with
 | nil=>exact absurd (by have:=congrArg List.length e;rw [Array.length_toList] at this;exact this) h
 | cons _ _=>rfl
theorem mul_bd {m b:Int} (h0:0<=m) (h1:m<=65535) (hb0:2<=b) (hb1:b<=16):0<=m*b/\m*b<=1048560:=by
 constructor
 ·exact Int.mul_nonneg h0 (by omega)
 ·calc m*b<=65535*b:=Int.mul_le_mul_of_nonneg_right h1 (by omega)
   _<=65535*16:=Int.mul_le_mul_of_nonneg_left hb1 (by decide)
   _=1048560:=by decide
theorem wordOf_any (s:ByteArray) (b:Int) (w:World) (hT:Tab w) (hs:s.size<=maxLen) (hb0:2<=b) (hb1:b<=16) :
  Calls prog 142 #[.string s,.int .i64 b] w fun e w'=>e=.returned (.tuple #[.int .i64 ((base s b).getD 0),.bool (base s b).isSome])/\w'=w:=by
 unfold maxLen at hs
 by_cases h0:s.size=0
 ·have hn:base s b=none:=by unfold base;rw [if_pos h0]
  rw [hn]
  have he:=empty_yes h0
  clear hT
  go_enter func142,ntmps142
  go_wp2
  go_ret2
  exact ⟨rfl,rfl⟩
 have he:=empty_no h0
 have hw:base s b=word b 0 s.data.toList:=by unfold base;rw [if_neg h0]
 rw [hw]
 clear hw
 obtain ⟨r,hr⟩ : ∃ r,r=word b 0 s.data.toList:=⟨_,rfl⟩
 rw [<- hr]
 have HT:Hid (Tab w):=hT
 clear hT
 go_enter func142,ntmps142
 go_wp2
 go_loop [6,7] (fun n i=>∃ (k:Nat) (m:Int),k<=s.size/\0<=m/\m<=65535/\i=.int .i64 k/\n=.int .i64 m/\Hid (r=word b m (s.data.toList.drop k))) (fun _ i=>s.size-(intOf i).toNat)
 case atStart=>exact ⟨0,0,Nat.zero_le _,by omega,by omega,rfl,rfl,hr⟩
 case round =>
  clear hr
  obtain ⟨k,m,hk,hm0,hm1,rfl,rfl,hw⟩:=hrel
  have hmul:=mul_bd hm0 hm1 hb0 hb1
  obtain ⟨hmul0,hmul1⟩:=hmul
  by_cases hlt:k<s.size
  ·have hd:=digS_bd (s[k].toNat:Int)
   have hw':Hid (r=if b<=digS (s[k].toNat:Int) then none else if 65535<m*b+digS (s[k].toNat:Int) then none else word b (m*b+digS (s[k].toNat:Int)) (s.data.toList.drop (k+1))):=by
    have:=hw.out;rw [drop_at s k hlt] at this;exact this
   clear hw
   obtain ⟨d,hdd⟩ : ∃ d,d=digS (s[k].toNat:Int):=⟨_,rfl⟩
   rw [<- hdd] at hd hw'
   have hI:digI (s[k].toNat:Int) = -1/\d=99 \/ digI (s[k].toNat:Int)=d/\d<=15:=by
    unfold digI;rw [<- hdd]
    by_cases e:d=99
    ·exact .inl ⟨if_pos e,e⟩
    ·exact .inr ⟨if_neg e,by omega⟩
   clear hdd
   have cal:Calls prog 146 #[.int .u8 (s[k].toNat:Int)] w fun e w'=>e=.returned (.int .i64 (digI (s[k].toNat:Int)))/\w'=w:=digitOf_any _ w HT.out
   obtain ⟨hd0,-,-⟩:=hd
   rcases hI with ⟨e,e'⟩|⟨e,e'⟩
   ·rw [e] at cal
    have hw'':r=none:=by have:=hw'.out;rw [if_pos (by omega)] at this;exact this
    have HR:Hid (r=none):=hw''
    clear e e' hd0 hw' hw''
    go_wp2_with (go_at_call 146;refine cal.mono ?_;rintro e w' ⟨rfl,rfl⟩)
    go_ret2
    exact ⟨by rw [HR.out];rfl,rfl⟩
   ·rw [e] at cal
    clear e
    by_cases hbd:b<=d
    ·have HR:Hid (r=none):=by have:=hw'.out;rw [if_pos hbd] at this;exact this
     have hdb:decide (b<=d)=true:=decide_eq_true hbd
     clear hw'
     go_wp2_with (go_at_call 146;refine cal.mono ?_;rintro e w' ⟨rfl,rfl⟩)
     go_ret2
     exact ⟨by rw [HR.out];rfl,rfl⟩
    ·have hdb:decide (b<=d)=false:=decide_eq_false hbd
     by_cases hbig:65535<m*b+d
     ·have HR:Hid (r=none):=by have:=hw'.out;rw [if_neg hbd,if_pos hbig] at this;exact this
      clear hw'
      go_wp2_with (go_at_call 146;refine cal.mono ?_;rintro e w' ⟨rfl,rfl⟩)
      go_ret2
      exact ⟨by rw [HR.out];rfl,rfl⟩
     ·have HR:Hid (r=word b (m*b+d) (s.data.toList.drop (k+1))):=by have:=hw'.out;rw [if_neg hbd,if_neg hbig] at this;exact this
      clear hw'
      go_wp2_with (go_at_call 146;refine cal.mono ?_;rintro e w' ⟨rfl,rfl⟩)
      go_round
      case rel=>exact ⟨k+1,m*b+d,by omega,by omega,by omega,by go_num,rfl,HR⟩
      case measure=>simp [intOf];omega
  ·have HR:Hid (r=some m):=by have:=hw.out;rw [drop_end s k (by omega)] at this;exact this
   clear hw
   go_wp2
   go_ret2
   exact ⟨by rw [HR.out];rfl,rfl⟩
theorem l1Base_any (s:ByteArray) (b:Int) (w:World) (hs:s.size<=maxLen) (hb0:2<=b) (hb1:b<=16) :
  Calls prog 138 #[.string s,.int .i64 b] w fun e w'=>e=.returned (.tuple #[.int .i64 ((base s b).getD 0),.bool (base s b).isSome])/\w'=w:=by
 unfold maxLen at hs
 by_cases h0:s.size=0
 ·have hn:base s b=none:=by unfold base;rw [if_pos h0]
  rw [hn]
  have he:=empty_yes h0
  go_enter func138,ntmps138
  go_wp2
  go_loop [6,7] (fun n i=>i=.int .i64 0/\n=.int .i64 0) (fun _ _=>0)
  case atStart=>exact ⟨rfl,rfl⟩
  case round =>
   obtain ⟨rfl,rfl⟩:=hrel
   go_wp2
   go_ret2
   exact ⟨rfl,rfl⟩
 have he:=empty_no h0
 have hw:base s b=word b 0 s.data.toList:=by unfold base;rw [if_neg h0]
 rw [hw]
 clear hw
 obtain ⟨r,hr⟩ : ∃ r,r=word b 0 s.data.toList:=⟨_,rfl⟩
 rw [<- hr]
 go_enter func138,ntmps138
 go_wp2
 go_loop [6,7] (fun n i=>∃ (k:Nat) (m:Int),k<=s.size/\0<=m/\m<=65535/\i=.int .i64 k/\n=.int .i64 m/\Hid (r=word b m (s.data.toList.drop k))) (fun _ i=>s.size-(intOf i).toNat)
 case atStart=>exact ⟨0,0,Nat.zero_le _,by omega,by omega,rfl,rfl,hr⟩
 case round =>
  clear hr
  obtain ⟨k,m,hk,hm0,hm1,rfl,rfl,hw⟩:=hrel
  have hmul:=mul_bd hm0 hm1 hb0 hb1
  obtain ⟨hmul0,hmul1⟩:=hmul
  by_cases hlt:k<s.size
  ·have hd:=digS_bd (s[k].toNat:Int)
   have hw':Hid (r=if b<=digS (s[k].toNat:Int) then none else if 65535<m*b+digS (s[k].toNat:Int) then none else word b (m*b+digS (s[k].toNat:Int)) (s.data.toList.drop (k+1))):=by
    have:=hw.out;rw [drop_at s k hlt] at this;exact this
   clear hw
   have h8:(s[k].toNat:Int)<=255:=by have:=s[k].toNat_lt;omega
   have cal:Calls prog 144 #[.int .u8 (s[k].toNat:Int)] w fun e w'=>e=.returned (.int .i64 (digS (s[k].toNat:Int)))/\w'=w:=l1Digit_any _ w (by omega) h8
   obtain ⟨d,hdd⟩ : ∃ d,d=digS (s[k].toNat:Int):=⟨_,rfl⟩
   rw [<- hdd] at hd hw' cal
   obtain ⟨hd0,hd1,-⟩:=hd
   clear hdd h8
   by_cases hbd:b<=d
   ·have HR:Hid (r=none):=by have:=hw'.out;rw [if_pos hbd] at this;exact this
    clear hw'
    go_wp2_with (go_at_call 144;refine cal.mono ?_;rintro e w' ⟨rfl,rfl⟩)
    go_ret2
    exact ⟨by rw [HR.out];rfl,rfl⟩
   ·by_cases hbig:65535<m*b+d
    ·have HR:Hid (r=none):=by have:=hw'.out;rw [if_neg hbd,if_pos hbig] at this;exact this
     clear hw'
     go_wp2_with (go_at_call 144;refine cal.mono ?_;rintro e w' ⟨rfl,rfl⟩)
     go_ret2
     exact ⟨by rw [HR.out];rfl,rfl⟩
    ·have HR:Hid (r=word b (m*b+d) (s.data.toList.drop (k+1))):=by have:=hw'.out;rw [if_neg hbd,if_neg hbig] at this;exact this
     clear hw'
     go_wp2_with (go_at_call 144;refine cal.mono ?_;rintro e w' ⟨rfl,rfl⟩)
     go_round
     case rel=>exact ⟨k+1,m*b+d,by omega,by omega,by omega,by go_num,rfl,HR⟩
     case measure=>simp [intOf];omega
  ·have HR:Hid (r=some m):=by have:=hw.out;rw [drop_end s k (by omega)] at this;exact this
   clear hw
   go_wp2
   go_ret2
   exact ⟨by rw [HR.out];rfl,rfl⟩
def num (s:ByteArray):Option Int :=
 if s.size=0 \/ 18<s.size then none
 else if (s.data.getD 0 0).toNat=36 then base (s.extract 1 s.size) 16
 else if (s.data.getD 0 0).toNat=37 then base (s.extract 1 s.size) 2
 else base s 10
theorem getD_at (s:ByteArray) (h:0<s.size):s.data.getD 0 0=s[0]:=by
 show s.data.getD 0 0=s.data[0]
 rw [Array.getD_eq_getD_getElem?,Array.getElem?_eq_getElem h];rfl
theorem cut_size (s:ByteArray):(s.extract 1 s.size).size=s.size-1:=by rw [ByteArray.size_extract];omega
theorem implNum_any (s:ByteArray) (w:World) (hT:Tab w) (hs:s.size<=maxLen) :
  Calls prog 134 #[.string s] w fun e w'=>e=.returned (.tuple #[.int .i64 ((num s).getD 0),.bool (num s).isSome])/\w'=w:=by
 have HT:Hid (Tab w):=hT
 clear hT
 by_cases h0:s.size=0
 ·have hn:num s=none:=by unfold num;rw [if_pos (.inl h0)]
  rw [hn]
  have he:=empty_yes h0
  unfold maxLen at hs
  go_enter func134,ntmps134
  go_wp2
  go_ret2
  exact ⟨rfl,rfl⟩
 have he:=empty_no h0
 by_cases h18:18<s.size
 ·have hn:num s=none:=by unfold num;rw [if_pos (.inr h18)]
  rw [hn]
  unfold maxLen at hs
  go_enter func134,ntmps134
  go_wp2
  go_ret2
  exact ⟨rfl,rfl⟩
 have hp:0<s.size:=by omega
 have hz:(s.extract 1 s.size).size<=maxLen:=by rw [cut_size];omega
 have c16:=wordOf_any (s.extract 1 s.size) 16 w HT.out hz (by decide) (by decide)
 have c2:=wordOf_any (s.extract 1 s.size) 2 w HT.out hz (by decide) (by decide)
 have c10:=wordOf_any s 10 w HT.out hs (by decide) (by decide)
 clear hz
 unfold maxLen at hs
 by_cases a1:s[0].toNat=36
 ·have hn:num s=base (s.extract 1 s.size) 16:=by unfold num;rw [if_neg (by omega),getD_at s hp,if_pos a1]
  rw [hn]
  have b1:((s[0].toNat:Int) == 36)=true:=by simp;omega
  clear hn c2 c10
  go_enter func134,ntmps134
  go_wp2_with (go_at_call 142;refine c16.mono ?_;rintro e w' ⟨rfl,rfl⟩)
  go_ret2
  exact ⟨rfl,rfl⟩
 by_cases a2:s[0].toNat=37
 ·have hn:num s=base (s.extract 1 s.size) 2:=by unfold num;rw [if_neg (by omega),getD_at s hp,if_neg a1,if_pos a2]
  rw [hn]
  have b1:((s[0].toNat:Int) == 36)=false:=by simp;omega
  have b2:((s[0].toNat:Int) == 37)=true:=by simp;omega
  clear hn c16 c10
  go_enter func134,ntmps134
  go_wp2_with (go_at_call 142;refine c2.mono ?_;rintro e w' ⟨rfl,rfl⟩)
  go_ret2
  exact ⟨rfl,rfl⟩
 ·have hn:num s=base s 10:=by unfold num;rw [if_neg (by omega),getD_at s hp,if_neg a1,if_neg a2]
  rw [hn]
  have b1:((s[0].toNat:Int) == 36)=false:=by simp;omega
  have b2:((s[0].toNat:Int) == 37)=false:=by simp;omega
  clear hn c16 c2
  go_enter func134,ntmps134
  go_wp2_with (go_at_call 142;refine c10.mono ?_;rintro e w' ⟨rfl,rfl⟩)
  go_ret2
  exact ⟨rfl,rfl⟩
theorem specNum_any (s:ByteArray) (w:World) (hs:s.size<=maxLen) :
  Calls prog 124 #[.string s] w fun e w'=>e=.returned (.tuple #[.int .i64 ((num s).getD 0),.bool (num s).isSome])/\w'=w:=by
 by_cases h18:18<s.size
 ·have hn:num s=none:=by unfold num;rw [if_pos (.inr h18)]
  rw [hn]
  unfold maxLen at hs
  go_enter func124,ntmps124
  go_wp2
  go_ret2
  exact ⟨rfl,rfl⟩
 by_cases h0:s.size=0
 ·have hn:num s=none:=by unfold num;rw [if_pos (.inl h0)]
  rw [hn]
  have he:=empty_yes h0
  unfold maxLen at hs
  go_enter func124,ntmps124
  go_wp2
  go_ret2
  exact ⟨rfl,rfl⟩
 have he:=empty_no h0
 have hp:0<s.size:=by omega
 have hz:(s.extract 1 s.size).size<=maxLen:=by rw [cut_size];omega
 have c16:=l1Base_any (s.extract 1 s.size) 16 w hz (by decide) (by decide)
 have c2:=l1Base_any (s.extract 1 s.size) 2 w hz (by decide) (by decide)
 have c10:=l1Base_any s 10 w hs (by decide) (by decide)
 clear hz
 unfold maxLen at hs
 by_cases a1:s[0].toNat=36
 ·have hn:num s=base (s.extract 1 s.size) 16:=by unfold num;rw [if_neg (by omega),getD_at s hp,if_pos a1]
  rw [hn]
  have b1:((s[0].toNat:Int) == 36)=true:=by simp;omega
  clear hn c2 c10
  go_enter func124,ntmps124
  go_wp2_with (go_at_call 138;refine c16.mono ?_;rintro e w' ⟨rfl,rfl⟩)
  go_ret2
  exact ⟨rfl,rfl⟩
 by_cases a2:s[0].toNat=37
 ·have hn:num s=base (s.extract 1 s.size) 2:=by unfold num;rw [if_neg (by omega),getD_at s hp,if_neg a1,if_pos a2]
  rw [hn]
  have b1:((s[0].toNat:Int) == 36)=false:=by simp;omega
  have b2:((s[0].toNat:Int) == 37)=true:=by simp;omega
  clear hn c16 c10
  go_enter func124,ntmps124
  go_wp2_with (go_at_call 138;refine c2.mono ?_;rintro e w' ⟨rfl,rfl⟩)
  go_ret2
  exact ⟨rfl,rfl⟩
 ·have hn:num s=base s 10:=by unfold num;rw [if_neg (by omega),getD_at s hp,if_neg a1,if_neg a2]
  rw [hn]
  have b1:((s[0].toNat:Int) == 36)=false:=by simp;omega
  have b2:((s[0].toNat:Int) == 37)=false:=by simp;omega
  clear hn c16 c2
  go_enter func124,ntmps124
  go_wp2_with (go_at_call 138;refine c10.mono ?_;rintro e w' ⟨rfl,rfl⟩)
  go_ret2
  exact ⟨rfl,rfl⟩
end Nums
namespace Qtail
open Go.RowKit
def anyT (P:Program) (md:Region.Mode) (ops:Array Oper) (C:World->Prop) (n:Nat) (L:Array Bool->Act->Prop):Nat->Array Bool->Act->Prop
 | 0,listed,a=>L listed a
 | f+1,listed,a =>
  Region.ready md ops listed ≠ []/\∀ i ∈ Region.ready md ops listed,i<n/\qOp P ops C i (anyT P md ops C n L f (listed.setIfInBounds i true)) a
theorem any_of_head {P:Program} {ops:Array Oper} {md:Region.Mode} {C:World->Prop} {n g:Nat} {L:Array Bool->Act->Prop} {Q':Exit->Act->World->Prop} (hL:∀ listed a w,C w->L listed a->wpAny P md ops Q' g listed a w) :
  ∀ (f:Nat) (listed:Array Bool) (a:Act) (w:World),C w->anyT P md ops C n L f listed a->wpAny P md ops Q' (f+g) listed a w
 | 0,listed,a,w,hw,h=>by rw [Nat.zero_add];exact hL _ _ _ hw h
 | f+1,listed,a,w,hw,h=>by
  rw [show f+1+g=(f+g)+1 by omega]
  exact ⟨fun h0=>absurd h0 h.1,fun i hi=>wpOp_of_qOp hw (fun a' w' hw' h'=>any_of_head hL f _ a' w' hw' h') (h.2 i hi).2⟩
theorem anyT_first {P:Program} {ops:Array Oper} {md:Region.Mode} {C:World->Prop} {n i:Nat} {oi:Oper} {v:Value} {L:Array Bool->Act->Prop} (hi:ops[i]? = some oi) (hsel:∀ (j:Nat) (o:Oper) cs b,ops[j]? = some o->o.op ≠ .select cs b)
  (hs:Region.sinkB md ops n=true) (hc:Region.chainB md ops n=true) (hn:n<ops.size) (hin:i<n)
  (hdone:∀ listed a,L listed a->∀ j ∈ Region.ready md ops listed,n<=j) :
  ∀ (f:Nat) (listed:Array Bool) (a:Act),HeadInv md ops n listed ->
   (∀ j oj,ops[j]? = some oj->j ≠ i->listed.getD j true=false->(∀ e ∈ oj.after,Region.binds md e=true->e.on ≠ i)->oi.apart ops oj=true) ->
   i ∈ Region.ready md ops listed->YieldsIn P ops C oi v a ->
   anyT P md ops C n L f (listed.setIfInBounds i true) (a.put oi.dst v)->anyT P md ops C n L (f+1) listed a:=by
 intro f
 induction f with
 | zero =>
  intro listed a inv _ hr hy H
  have hun:=(mem_ready.1 hr).1
  refine ⟨fun h=>(by rw [h] at hr;cases hr),fun j hj=>?_⟩
  have hjn:j<n:=by
   rcases Nat.lt_or_ge j n with h|h
   ·exact h
   ·exact absurd hj (tail_waits hs hc hn inv _ i rfl hin hun j h)
  refine ⟨hjn,?_⟩
  by_cases hji:j=i
  ·subst hji;exact hy.qOp hi H
  ·have:=hdone _ _ H j (ready_mono hj hji)
   omega
 | succ f ih =>
  intro listed a inv hfree hr hy H
  have hun:=(mem_ready.1 hr).1
  refine ⟨fun h=>(by rw [h] at hr;cases hr),fun j hj=>?_⟩
  have hjn:j<n:=by
   rcases Nat.lt_or_ge j n with h|h
   ·exact h
   ·exact absurd hj (tail_waits hs hc hn inv _ i rfl hin hun j h)
  refine ⟨hjn,?_⟩
  by_cases hji:j=i
  ·subst hji;exact hy.qOp hi H
  ·have h1:=(H.2 j (ready_mono hj hji)).2
   obtain ⟨hjun,oj,hoj,hall⟩:=mem_ready.1 hj
   have hnot:∀ e ∈ oj.after,Region.binds md e=true->e.on ≠ i:=fun e he hb heq=>by
    have h1:=hall e he hb
    rw [heq,getD_both hun] at h1
    cases h1
   have h2:=qOp_put hoj (hfree j oj hoj hji hjun hnot) (fun cs b=>hsel i oi cs b hi) (fun cs b=>hsel j oj cs b hoj) hy h1
   have hfree':∀ k ok,ops[k]? = some ok->k ≠ i->(listed.setIfInBounds j true).getD k true=false ->
     (∀ e ∈ ok.after,Region.binds md e=true->e.on ≠ i)->oi.apart ops ok=true:=fun k ok hk hki hun hno=>by
    refine hfree k ok hk hki ?_ hno
    by_cases hjk:j=k
    ·subst hjk;exact hjun
    ·rw [getD_set_ne true hjk] at hun;exact hun
   refine qOp_mono (fun a' h3=>ih (listed.setIfInBounds j true) a' (inv.set hj hjn) hfree' (ready_mono hr (Ne.symm hji)) h3.1 ?_) h2
   rw [Array.setIfInBounds_comm _ _ hji]
   exact h3.2
theorem anyT_lex {P:Program} {ops:Array Oper} {md:Region.Mode} {C:World->Prop} {n g:Nat} {Lq:Act->Prop} (hsel:Region.noSelect ops=true) (hs:Region.sinkB md ops n=true) (hc:Region.chainB md ops n=true) (hn:n<ops.size) :
  ∀ (l:List Oper) (k:Nat) (listed:Array Bool) (a:Act),(∀ j,j<l.length->l[j]? = ops[k+j]?)->k+l.length=n->HeadInv md ops n listed ->
  Region.lexHead md ops g l.length k listed=true->wpQuiet P ops C Lq l a ->
  anyT P md ops C n (fun listed' a'=>Region.seqB md ops g n listed'=true/\Lq a') l.length listed a
 | [],k,listed,a,_,hk,_,hB,h=>by
  have:k=n:=by simpa using hk
  subst this
  exact ⟨by simpa [Region.lexHead] using hB,h⟩
 | o :: l,k,listed,a,hl,hk,inv,hB,h=>by
  have h0:ops[k]? = some o:=by simpa using (hl 0 (by simp)).symm
  simp only [List.length_cons,Region.lexHead,Bool.and_eq_true] at hB
  obtain ⟨⟨hr,hf⟩,hB'⟩:=hB
  have hkn:k<n:=by simp only [List.length_cons] at hk;omega
  have hr':k ∈ Region.ready md ops listed:=by simpa using hr
  have hst:qOp P ops C k (wpQuiet P ops C Lq l) a:=by unfold qOp;simp only [h0];exact h
  obtain ⟨v,hy,hK⟩:=yieldsIn_of_qOp h0 hst
  exact anyT_first h0 (Region.noSelect_spec hsel) hs hc hn hkn (fun listed' a' hL=>seqB_ready hL.1) l.length listed a inv (Region.free_spec h0 hf) hr' hy
   (anyT_lex hsel hs hc hn l (k+1) _ _ (fun j hj=>by have:=hl (j+1) (by simp;omega);simpa [Nat.add_assoc,Nat.add_comm 1 j] using this) (by simp only [List.length_cons] at hk;omega) (inv.set hr' hkn) hB' hK)
theorem region_tail {P:Program} {C:World->Prop} {id:Nat} {Q:Exit->Act->World->Prop} {a:Act} {w:World} {l:List Oper} (n:Nat) (hm:P.follows .mixedOrders=true) (hB:Region.lexTailB .any l.toArray n=true) (hC:C { w with drawn:=w.drawn+1 })
  (h:wpQuiet P l.toArray C (fun a'=>∀ w',C w'->wpList P l.toArray Q (l.drop n) a' w') (l.take n) a):(Code.region id l.toArray true).wp P Q a w:=by
 simp only [Region.lexTailB,Bool.and_eq_true,decide_eq_true_eq] at hB
 obtain ⟨⟨⟨⟨hsel,hn⟩,hs⟩,hc⟩,hlex⟩:=hB
 have hn':n<l.length:=by simpa using hn
 have htl:(l.take n).length=n:=by simp;omega
 have hdl:(l.drop n).length=l.toArray.size-n:=by simp
 have inv0:HeadInv .any l.toArray n (Array.replicate l.toArray.size false) :=
  ⟨by simp,fun j oj _ hl=>(by rw [getD_replicate_false] at hl;cases hl),fun t _ ht=>getD_in (by simpa using ht) (getD_replicate_false _ _)⟩
 have H:=anyT_lex (md:=.any) (g:=l.toArray.size-n) hsel hs hc hn (l.take n) 0 _ a (fun j hj=>by
  have hj':j<n:=by rw [htl] at hj;exact hj
  simp [hj']) (by simpa using htl) inv0 (by rw [htl];exact hlex) h
 refine wp_region_any hm ?_
 have:=any_of_head (Q':=Q) (g:=l.toArray.size-n) (fun listed a' w' hw' hL=>by
  have:=wpAny_of_seq (md:=.any) (Q':=Q) (l.drop n) n listed a' w' (fun j=>by simp [List.getElem?_drop]) (by rw [hdl];exact hL.1) (hL.2 w' hw')
  rwa [hdl] at this) _ _ _ { w with drawn:=w.drawn+1 } hC H
 rw [htl,show n+(l.toArray.size-n)=l.toArray.size by omega] at this
 exact this
theorem tail_below {P:Program} {id:Nat} {Q:Exit->Act->World->Prop} {a:Act} {w:World} {l:List Oper} (n:Nat) (hm:P.follows .mixedOrders=true) (hB:Region.lexTailB .any l.toArray n=true)
  (h:wpQuiet P l.toArray (fun w'=>∃ p:Regrown,w'=Go.Sort.grow (redrawn w p.d) p.os) (fun a'=>∀ w',(∃ p:Regrown,w'=Go.Sort.grow (redrawn w p.d) p.os)->wpList P l.toArray Q (l.drop n) a' w') (l.take n) a):(Code.region id l.toArray true).wp P Q a w :=
 region_tail (C:=fun w'=>∃ p:Regrown,w'=Go.Sort.grow (redrawn w p.d) p.os) n hm hB ⟨⟨w.drawn+1,#[]⟩,by rw [Go.Sort.grow_empty];rfl⟩ h
end Qtail
namespace Namp
abbrev T:=List UInt8
def put:List T->T->List T
 | [],s=>[s]
 | x :: l,s=>if x<s then x :: put l s else if x=s then x :: l else s :: x :: l
theorem put_at:∀ (l:List T) (s:T) (k:Nat),k<=l.length->(∀ j (h:j<l.length),j<k->l[j]<s)->(∀ h:k<l.length,¬ l[k]<s)->put l s=if h:k<l.length then (if l[k]=s then l else l.take k ++ s :: l.drop k) else l ++ [s]
 | [],s,k,hk,_,_=>by
  rw [dif_neg (by simp)];rfl
 | x :: l,s,0,hk,_,h2=>by
  have h2:¬ x<s:=h2 (by simp)
  rw [dif_pos (by simp)]
  show (if x<s then _ else _)=_
  rw [if_neg h2]
  rfl
 | x :: l,s,k+1,hk,h1,h2=>by
  have hx:x<s:=h1 0 (by simp) (by omega)
  have ih:=put_at l s k (by simpa using hk) (fun j h hj=>h1 (j+1) (by simpa using h) (by omega)) (fun h=>h2 (by simpa using h))
  show (if x<s then x :: put l s else _)=_
  rw [if_pos hx,ih]
  by_cases hl:k<l.length
  ·rw [dif_pos hl,dif_pos (by simpa using hl)]
   show x :: (if l[k]=s then l else _)=if l[k]=s then _ else _
   split <;> simp
  ·rw [dif_neg hl,dif_neg (by simpa using hl)];simp
def Rise (l:List T):Prop:=l.Pairwise (·<·)
theorem lt_tri (a b:T) (h:¬ a<b) (h2:¬ a=b):b<a:=by
 rcases List.le_iff_lt_or_eq.1 (List.not_lt.1 h) with h'|h'
 ·exact h'
 ·exact absurd h'.symm h2
theorem mem_put:∀ (l:List T) (s x:T),x ∈ put l s ↔ x=s \/ x ∈ l
 | [],s,x=>by unfold put;simp
 | y :: l,s,x=>by
  unfold put
  split
  ·rw [List.mem_cons,mem_put l s x,List.mem_cons]
   constructor
   ·rintro (h|h|h)
    ·exact .inr (.inl h)
    ·exact .inl h
    ·exact .inr (.inr h)
   ·rintro (h|h|h)
    ·exact .inr (.inl h)
    ·exact .inl h
    ·exact .inr (.inr h)
  split
  ·rename_i h;subst h;simp
  ·simp
theorem rise_put:∀ (l:List T) (s:T),Rise l->Rise (put l s)
 | [],s,_=>by unfold put Rise;simp
 | y :: l,s,h=>by
  obtain ⟨h1,h2⟩:=List.pairwise_cons.1 h
  unfold put
  split
  ·rename_i hy
   refine List.pairwise_cons.2 ⟨fun x hx=>?_,rise_put l s h2⟩
   rcases (mem_put l s x).1 hx with rfl|hx
   ·exact hy
   ·exact h1 x hx
  split
  ·exact h
  ·rename_i ha hb
   have hs:=lt_tri y s ha hb
   refine List.pairwise_cons.2 ⟨fun x hx=>?_,h⟩
   rcases List.mem_cons.1 hx with rfl|hx
   ·exact hs
   ·exact List.lt_trans hs (h1 x hx)
theorem fold_put:∀ (N:List T) (l:List T),Rise l->Rise (N.foldl put l)/\∀ x,x ∈ N.foldl put l ↔ x ∈ N \/ x ∈ l
 | [],l,h=>⟨h,fun x=>by simp⟩
 | s :: N,l,h=>by
  obtain ⟨h1,h2⟩:=fold_put N (put l s) (rise_put l s h)
  refine ⟨h1,fun x=>?_⟩
  rw [List.foldl_cons,h2,mem_put,List.mem_cons]
  constructor
  ·rintro (h|h|h)
   ·exact .inl (.inr h)
   ·exact .inl (.inl h)
   ·exact .inr h
  ·rintro ((h|h)|h)
   ·exact .inr (.inl h)
   ·exact .inl h
   ·exact .inr (.inr h)
end Namp
end Go.Proofs.YtbofcepdckpkkaaGreatDoor
namespace Go.Proofs
open Go.Shelf
def Tryz.lays103_ren:Go.Shelf.Ren:=⟨fun|103=>74|210=>93|206=>115|n=>n,fun|9=>9|4=>4|24=>49|3=>3|n=>n,fun|n=>n⟩
theorem Tryz.lays103:Go.Proofs.Lays.n103 Tryz.prog Tryz.lays103_ren:={
 mixed:=by kernel_rfl
 f103:=Tryz.func74.trans (congrArg some (by kernel_rfl))
 f206:=Tryz.func115.trans (congrArg some (by kernel_rfl))
 f210:=Tryz.func93.trans (congrArg some (by kernel_rfl))
 t3:=Tryz.underlying3
 a3:=Tryz.isAgg3
 z3:=Tryz.sizeOf3
 v3:=Tryz.zeroValue3
 t4:=Tryz.underlying4
 a4:=Tryz.isAgg4
 z4:=Tryz.sizeOf4
 v4:=Tryz.zeroValue4
 t9:=Tryz.underlying9
 a9:=Tryz.isAgg9
 z9:=Tryz.sizeOf9
 v9:=Tryz.zeroValue9
 t24:=Tryz.underlying49
 a24:=Tryz.isAgg49
 z24:=Tryz.sizeOf49
 v24:=Tryz.zeroValue49 }
open Go.RowKit in
theorem Tryz.strings_CutPrefix (s p:ByteArray) (w:World) :
  Calls Tryz.prog 74 #[.string s,.string p] w fun e w'=>e=.returned (.tuple #[.string ⟨(Lib.trimPrefix s.data.toList p.data.toList).toArray⟩,.bool (Lib.hasPrefix s.data.toList p.data.toList)])/\w'=w:=Any.strings_CutPrefix Tryz.lays103 s p w
def Tryz.lays104_ren:Go.Shelf.Ren:=⟨fun|104=>75|211=>94|207=>116|n=>n,fun|9=>9|4=>4|24=>49|3=>3|n=>n,fun|n=>n⟩
theorem Tryz.lays104:Go.Proofs.Lays.n104 Tryz.prog Tryz.lays104_ren:={
 mixed:=by kernel_rfl
 f104:=Tryz.func75.trans (congrArg some (by kernel_rfl))
 f207:=Tryz.func116.trans (congrArg some (by kernel_rfl))
 f211:=Tryz.func94.trans (congrArg some (by kernel_rfl))
 t3:=Tryz.underlying3
 a3:=Tryz.isAgg3
 z3:=Tryz.sizeOf3
 v3:=Tryz.zeroValue3
 t4:=Tryz.underlying4
 a4:=Tryz.isAgg4
 z4:=Tryz.sizeOf4
 v4:=Tryz.zeroValue4
 t9:=Tryz.underlying9
 a9:=Tryz.isAgg9
 z9:=Tryz.sizeOf9
 v9:=Tryz.zeroValue9
 t24:=Tryz.underlying49
 a24:=Tryz.isAgg49
 z24:=Tryz.sizeOf49
 v24:=Tryz.zeroValue49 }
open Go.RowKit in
theorem Tryz.strings_CutSuffix (s p:ByteArray) (w:World) (hs:s.size<=9223372036854775807) :
  Calls Tryz.prog 75 #[.string s,.string p] w fun e w'=>e=.returned (.tuple #[.string ⟨(Lib.trimSuffix s.data.toList p.data.toList).toArray⟩,.bool (Lib.hasSuffix s.data.toList p.data.toList)])/\w'=w:=Any.strings_CutSuffix Tryz.lays104 s p w hs
def Tryz.lays145_ren:Go.Shelf.Ren:=⟨fun|145=>73|220=>92|219=>88|217=>107|225=>108|224=>109|267=>110|266=>125|314=>126|n=>n,fun|9=>9|4=>4|59=>97|3=>3|5=>5|46=>116|146=>142|51=>141|n=>n,fun|1=>9|n=>n⟩
theorem Tryz.lays145:Go.Proofs.Lays.n145 Tryz.prog Tryz.lays145_ren:={
 mixed:=by kernel_rfl
 f145:=Tryz.func73.trans (congrArg some (by kernel_rfl))
 f217:=Tryz.func107.trans (congrArg some (by kernel_rfl))
 f219:=Tryz.func88.trans (congrArg some (by kernel_rfl))
 f220:=Tryz.func92.trans (congrArg some (by kernel_rfl))
 f224:=Tryz.func109.trans (congrArg some (by kernel_rfl))
 f225:=Tryz.func108.trans (congrArg some (by kernel_rfl))
 f266:=Tryz.func125.trans (congrArg some (by kernel_rfl))
 f267:=Tryz.func110.trans (congrArg some (by kernel_rfl))
 f314:=Tryz.func126.trans (congrArg some (by kernel_rfl))
 t3:=Tryz.underlying3
 a3:=Tryz.isAgg3
 z3:=Tryz.sizeOf3
 v3:=Tryz.zeroValue3
 t4:=Tryz.underlying4
 a4:=Tryz.isAgg4
 z4:=Tryz.sizeOf4
 v4:=Tryz.zeroValue4
 t5:=Tryz.underlying5
 a5:=Tryz.isAgg5
 z5:=Tryz.sizeOf5
 v5:=Tryz.zeroValue5
 t9:=Tryz.underlying9
 a9:=Tryz.isAgg9
 z9:=Tryz.sizeOf9
 v9:=Tryz.zeroValue9
 t46:=Tryz.underlying116
 a46:=Tryz.isAgg116
 z46:=Tryz.sizeOf116
 v46:=Tryz.zeroValue116
 t51:=Tryz.underlying141
 a51:=Tryz.isAgg141
 z51:=Tryz.sizeOf141
 v51:=Tryz.zeroValue141
 t59:=Tryz.underlying97
 a59:=Tryz.isAgg97
 z59:=Tryz.sizeOf97
 v59:=Tryz.zeroValue97
 t146:=Tryz.underlying142
 a146:=Tryz.isAgg142
 z146:=Tryz.sizeOf142
 v146:=Tryz.zeroValue142
 g1:=by kernel_rfl }
open Go.RowKit Go.Lib in
theorem Tryz.strings_Cut (s sep:ByteArray) (m:Int) (w:World) (hs:s.size<4294967281) (hm:w.cell? ⟨9,0,none⟩=some (.int .i64 m)) :
  Calls Tryz.prog 73 #[.string s,.string sep] w fun e w'=>e=.returned (.tuple #[.string ⟨(Lib.cut s.data.toList sep.data.toList).1.toArray⟩,.string ⟨(Lib.cut s.data.toList sep.data.toList).2.1.toArray⟩,.bool (Lib.cut s.data.toList sep.data.toList).2.2])/\∃ n,w'=w.drewN n:=Any.strings_Cut Tryz.lays145 s sep m w hs hm
end Go.Proofs
namespace Go.Proofs.YtbofcepdckpkkaaGreatDoor
end Go.Proofs.YtbofcepdckpkkaaGreatDoor
