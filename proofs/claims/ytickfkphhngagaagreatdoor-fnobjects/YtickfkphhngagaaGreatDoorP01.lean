import Derived.WalkKit
import Derived.ShutString
import Derived.Outline
import Derived.WalkLawsBesides
import Derived.OwnWalkIn
import Derived.Lib.AppendStr
import Derived.Lib.UnsafeStr
import Derived.Laws.BytesArg
import Derived.Laws.OwnMore
import Derived.Laws.IdiomStrings
import Derived.RangeFuncBox
import Derived.StillTail
import Derived.Deep.Quiet
import Derived.Lib.QuietBelow
import Derived.Test.YtickfkphhngagaaGreatDoorP00
set_option linter.all false
set_option maxRecDepth 20000
set_option maxHeartbeats 8000000
open Go.ChangeShapes Go.WideShapes Go.ChangeAt Go.RowKit
open Go.Proofs.Tryz
namespace Go.Proofs.YtickfkphhngagaaGreatDoor
namespace Names
def letB (c:Int):Bool:=decide ((97<=c/\c<=122) \/ c=95 \/ c=46)
def decB (c:Int):Bool:=decide (48<=c/\c<=57)
def nbB (c:Int):Bool:=decide (((97<=c/\c<=122) \/ c=95 \/ c=46) \/ (48<=c/\c<=57))
theorem ret_bool {a b:Bool} (h:a=b):Ending.returned (.bool a)=.returned (.bool b):=by rw [h]
theorem letter_any (c:Int) (w:World) :
  Calls prog 94 #[.int .u8 c] w fun e w'=>e=.returned (.bool (letB c))/\w'=w:=by
 go_enter func94,ntmps94
 go_wp2
 all_goals go_ret
 all_goals exact ⟨ret_bool (by rw [Bool.eq_iff_iff];simp [letB];try omega),rfl⟩
theorem decimal_any (c:Int) (w:World) :
  Calls prog 119 #[.int .u8 c] w fun e w'=>e=.returned (.bool (decB c))/\w'=w:=by
 go_enter func119,ntmps119
 go_wp2
 all_goals go_ret
 all_goals exact ⟨ret_bool (by rw [Bool.eq_iff_iff];simp [decB];try omega),rfl⟩
theorem nameByte_any (c:Int) (w:World) :
  Calls prog 120 #[.int .u8 c] w fun e w'=>e=.returned (.bool (nbB c))/\w'=w:=by
 go_enter func120,ntmps120
 go_wp2
 all_goals go_ret
 all_goals exact ⟨ret_bool (by rw [Bool.eq_iff_iff];simp [nbB];try omega),rfl⟩
def upTo (s:ByteArray) (k:Nat):Prop:=∀ j (h:j<s.size),j<k->nbB (s[j].toNat:Int)=true
def nameB (s:ByteArray):Bool:=decide (1<=s.size/\s.size<=16/\(∀ h:0<s.size,decB (s[0].toNat:Int)=false)/\∀ j (h:j<s.size),nbB (s[j].toNat:Int)=true)
theorem name_no {s:ByteArray} (h:¬ (1<=s.size/\s.size<=16/\(∀ h:0<s.size,decB (s[0].toNat:Int)=false)/\∀ j (h:j<s.size),nbB (s[j].toNat:Int)=true)):nameB s=false:=decide_eq_false h
theorem name_yes {s:ByteArray} (h:1<=s.size/\s.size<=16/\(∀ h:0<s.size,decB (s[0].toNat:Int)=false)/\∀ j (h:j<s.size),nbB (s[j].toNat:Int)=true):nameB s=true:=decide_eq_true h
theorem empty_yes {s:ByteArray} (h:s.size=0):s.toList.isEmpty=true:=by
 rw [ByteArray.toList_eq,List.isEmpty_iff_length_eq_zero,Array.length_toList];exact h
theorem empty_no {s:ByteArray} (h:¬ s.size=0):s.toList.isEmpty=false:=by
 rw [ByteArray.toList_eq];cases e:s.data.toList with
 | nil=>exact absurd (by have:=congrArg List.length e;rw [Array.length_toList] at this;exact this) h
 | cons _ _=>rfl
theorem let_dec {c:Int} (h:nbB c=true):letB c = !decB c:=by
 unfold nbB at h;have h:=of_decide_eq_true h;unfold letB decB
 by_cases d:48<=c/\c<=57
 ·rw [decide_eq_true d,decide_eq_false (by omega)];rfl
 ·rw [decide_eq_false d,decide_eq_true (by omega)];rfl
theorem let_nb {c:Int} (h:letB c=true):nbB c=true/\decB c=false:=by
 unfold letB at h;have h:=of_decide_eq_true h;exact ⟨decide_eq_true (by omega),decide_eq_false (by omega)⟩
theorem implName_any (s:ByteArray) (w:World) (hs:s.size<=maxLen) :
  Calls prog 89 #[.string s] w fun e w'=>e=.returned (.bool (nameB s))/\w'=w:=by
 unfold maxLen at hs
 by_cases h0:s.size=0
 ·have hn:nameB s=false:=name_no (by omega)
  have he:=empty_yes h0
  go_enter func89,ntmps89
  go_wp2
  go_ret
  first|exact ⟨rfl,rfl⟩|exact ⟨ret_bool hn.symm,rfl⟩
 have he:=empty_no h0
 have hp:0<s.size:=by omega
 by_cases h16:16<s.size
 ·have hn:nameB s=false:=name_no (by omega)
  go_enter func89,ntmps89
  go_wp2
  go_ret
  first|exact ⟨rfl,rfl⟩|exact ⟨ret_bool hn.symm,rfl⟩
 by_cases hd:decB (s[0].toNat:Int)=true
 ·have hn:nameB s=false:=name_no (fun h=>by have:=h.2.2.1 hp;rw [hd] at this;cases this)
  go_enter func89,ntmps89
  go_wp2_with (go_at_call 119;refine (decimal_any _ _).mono ?_;rintro e w' ⟨rfl,rfl⟩)
  go_ret
  first|exact ⟨rfl,rfl⟩|exact ⟨ret_bool hn.symm,rfl⟩
 have hd':decB (s[0].toNat:Int)=false:=by simpa using hd
 clear hd
 go_enter func89,ntmps89
 go_wp2_with (go_at_call 119;refine (decimal_any _ _).mono ?_;rintro e w' ⟨rfl,rfl⟩)
 go_loop [3] (fun i=>∃ k:Nat,k<=s.size/\i=.int .i64 k/\upTo s k) (fun i=>s.size-(intOf i).toNat)
 case atStart=>exact ⟨0,Nat.zero_le _,rfl,fun j _ h=>absurd h (Nat.not_lt_zero _)⟩
 case round =>
  obtain ⟨k,hk,rfl,hu⟩:=hrel
  by_cases hlt:k<s.size
  ·by_cases hc:nbB (s[k].toNat:Int)=true
   ·go_wp2_with (go_at_call 120;refine (nameByte_any _ _).mono ?_;rintro e w' ⟨rfl,rfl⟩)
    go_round
    case rel =>
     refine ⟨k+1,by omega,by go_num,fun j hj h=>?_⟩
     by_cases e:j=k
     ·subst e;exact hc
     ·exact hu j hj (by omega)
    case measure=>simp [intOf];omega
   ·have hn:nameB s=false:=name_no (fun h=>hc (h.2.2.2 k hlt))
    have hc':nbB (s[k].toNat:Int)=false:=by simpa using hc
    clear hc
    go_wp2_with (go_at_call 120;refine (nameByte_any _ _).mono ?_;rintro e w' ⟨rfl,rfl⟩)
    go_ret
    first|exact ⟨rfl,rfl⟩|exact ⟨ret_bool hn.symm,rfl⟩
  ·have hn:nameB s=true:=name_yes ⟨by omega,by omega,fun _=>hd',fun j hj=>hu j hj (by omega)⟩
   go_wp2
   go_ret
   first|exact ⟨rfl,rfl⟩|exact ⟨ret_bool hn.symm,rfl⟩
theorem specName_any (s:ByteArray) (w:World) (hs:s.size<=maxLen) :
  Calls prog 48 #[.string s] w fun e w'=>e=.returned (.bool (nameB s))/\w'=w:=by
 unfold maxLen at hs
 by_cases h0:s.size<1
 ·have hn:nameB s=false:=name_no (by omega)
  go_enter func48,ntmps48
  go_wp2
  go_ret
  first|exact ⟨rfl,rfl⟩|exact ⟨ret_bool hn.symm,rfl⟩
 have hp:0<s.size:=by omega
 by_cases h16:16<s.size
 ·have hn:nameB s=false:=name_no (by omega)
  go_enter func48,ntmps48
  go_wp2
  go_ret
  first|exact ⟨rfl,rfl⟩|exact ⟨ret_bool hn.symm,rfl⟩
 by_cases hd:letB (s[0].toNat:Int)=true
 ·go_enter func48,ntmps48
  go_wp2_with (go_at_call 94;refine (letter_any _ _).mono ?_;rintro e w' ⟨rfl,rfl⟩)
  go_loop [3] (fun i=>∃ k:Nat,k<=s.size/\i=.int .i64 k/\upTo s k) (fun i=>s.size-(intOf i).toNat)
  case atStart=>exact ⟨0,Nat.zero_le _,rfl,fun j _ h=>absurd h (Nat.not_lt_zero _)⟩
  case round =>
   obtain ⟨k,hk,rfl,hu⟩:=hrel
   by_cases hlt:k<s.size
   ·by_cases hc:nbB (s[k].toNat:Int)=true
    ·have hcc:letB (s[k].toNat:Int)=true \/ (letB (s[k].toNat:Int)=false/\48<=(s[k].toNat:Int)/\(s[k].toNat:Int)<=57):=by
      by_cases l:letB (s[k].toNat:Int)=true
      ·exact .inl l
      ·refine .inr ⟨by simpa using l,?_⟩
       have:=let_dec hc
       rw [show letB (s[k].toNat:Int)=false by simpa using l] at this
       exact of_decide_eq_true (show decB (s[k].toNat:Int)=true by simpa using this.symm)
     rcases hcc with l|⟨l,l1,l2⟩
     all_goals
      go_wp2_with (go_at_call 94;refine (letter_any _ _).mono ?_;rintro e w' ⟨rfl,rfl⟩)
      go_round
      case rel =>
       refine ⟨k+1,by omega,by go_num,fun j hj h=>?_⟩
       by_cases e:j=k
       ·subst e;exact hc
       ·exact hu j hj (by omega)
      case measure=>simp [intOf];omega
    ·have hn:nameB s=false:=name_no (fun h=>hc (h.2.2.2 k hlt))
     have l:letB (s[k].toNat:Int)=false:=by
      by_cases l:letB (s[k].toNat:Int)=true
      ·exact absurd (let_nb l).1 hc
      ·simpa using l
     have hcc:(s[k].toNat:Int)<48 \/ 48<=(s[k].toNat:Int)/\57<(s[k].toNat:Int):=by
      have:¬ (48<=(s[k].toNat:Int)/\(s[k].toNat:Int)<=57):=fun d=>hc (decide_eq_true (.inr d))
      omega
     clear hc
     rcases hcc with d|⟨d1,d2⟩
     ·go_wp2_with (go_at_call 94;refine (letter_any _ _).mono ?_;rintro e w' ⟨rfl,rfl⟩)
      go_ret
      first|exact ⟨rfl,rfl⟩|exact ⟨ret_bool hn.symm,rfl⟩
     ·have d3:decide ((s[k].toNat:Int)<=57)=false:=decide_eq_false (by omega)
      go_wp2_with (go_at_call 94;refine (letter_any _ _).mono ?_;rintro e w' ⟨rfl,rfl⟩)
      go_ret
      first|exact ⟨rfl,rfl⟩|exact ⟨ret_bool hn.symm,rfl⟩
   ·have hn:nameB s=true:=name_yes ⟨by omega,by omega,fun _=>(let_nb hd).2,fun j hj=>hu j hj (by omega)⟩
    go_wp2
    go_ret
    first|exact ⟨rfl,rfl⟩|exact ⟨ret_bool hn.symm,rfl⟩
 ·have hd':letB (s[0].toNat:Int)=false:=by simpa using hd
  have hn:nameB s=false:=name_no (fun h=>by
   have a:=h.2.2.1 hp
   have b:=let_dec (h.2.2.2 0 hp)
   rw [a,hd'] at b;cases b)
  clear hd
  go_enter func48,ntmps48
  go_wp2_with (go_at_call 94;refine (letter_any _ _).mono ?_;rintro e w' ⟨rfl,rfl⟩)
  go_ret
  first|exact ⟨rfl,rfl⟩|exact ⟨ret_bool hn.symm,rfl⟩
end Names
namespace Nums
def digS (c:Int):Int:=if 48<=c/\c<=57 then c-48 else if 65<=c/\c<=70 then c-55 else 99
def digI (c:Int):Int:=if digS c=99 then -1 else digS c
def tab:List Int:=[48,49,50,51,52,53,54,55,56,57,65,66,67,68,69,70]
def Tab (w:World):Prop:=∀ i,i<16->w.cell? ⟨0,i,none⟩=some (.int .u8 (tab.getD i 0))
theorem ret_int {k:IntKind} {a b:Int} (h:a=b):Ending.returned (.int k a)=.returned (.int k b):=by rw [h]
theorem digI_tab:∀ k,k<16->digI (tab.getD k 0)=(k:Int):=by decide
theorem digI_none {c:Int} (h:∀ j,j<16->tab.getD j 0 ≠ c):digI c = -1:=by
 have e:digS c=99:=by
  unfold digS
  by_cases h1:48<=c/\c<=57
  ·exfalso
   have:c=48 \/ c=49 \/ c=50 \/ c=51 \/ c=52 \/ c=53 \/ c=54 \/ c=55 \/ c=56 \/ c=57:=by omega
   rcases this with rfl|rfl|rfl|rfl|rfl|rfl|rfl|rfl|rfl|rfl
   ·exact h 0 (by decide) rfl
   ·exact h 1 (by decide) rfl
   ·exact h 2 (by decide) rfl
   ·exact h 3 (by decide) rfl
   ·exact h 4 (by decide) rfl
   ·exact h 5 (by decide) rfl
   ·exact h 6 (by decide) rfl
   ·exact h 7 (by decide) rfl
   ·exact h 8 (by decide) rfl
   ·exact h 9 (by decide) rfl
  ·rw [if_neg h1]
   by_cases h2:65<=c/\c<=70
   ·exfalso
    have:c=65 \/ c=66 \/ c=67 \/ c=68 \/ c=69 \/ c=70:=by omega
    rcases this with rfl|rfl|rfl|rfl|rfl|rfl
    ·exact h 10 (by decide) rfl
    ·exact h 11 (by decide) rfl
    ·exact h 12 (by decide) rfl
    ·exact h 13 (by decide) rfl
    ·exact h 14 (by decide) rfl
    ·exact h 15 (by decide) rfl
   ·rw [if_neg h2]
 unfold digI;rw [if_pos e]
theorem digS_bd (c:Int):0<=digS c/\digS c<=99/\(digS c<=15 \/ digS c=99):=by unfold digS;split <;> (try split) <;> omega
theorem l1Digit_any (c:Int) (w:World) (h0:0<=c) (h1:c<=255) :
  Calls prog 98 #[.int .u8 c] w fun e w'=>e=.returned (.int .i64 (digS c))/\w'=w:=by
 have hc:c<48 \/ (48<=c/\c<=57) \/ (57<c/\c<65) \/ (65<=c/\c<=70) \/ 70<c:=by omega
 rcases hc with h|⟨h,h'⟩|⟨h,h'⟩|⟨h,h'⟩|h
 ·have hs:digS c=99:=by unfold digS;rw [if_neg (by omega),if_neg (by omega)]
  go_enter func98,ntmps98
  go_wp2
  go_ret
  first|exact ⟨rfl,rfl⟩|exact ⟨ret_int hs.symm,rfl⟩
 ·have hs:digS c=c-48:=by unfold digS;rw [if_pos ⟨h,h'⟩]
  have hd:decide (c<=57)=true:=decide_eq_true h'
  go_enter func98,ntmps98
  go_wp2
  go_ret
  first|exact ⟨rfl,rfl⟩|exact ⟨ret_int hs.symm,rfl⟩
 ·have hs:digS c=99:=by unfold digS;rw [if_neg (by omega),if_neg (by omega)]
  have hd:decide (c<=57)=false:=decide_eq_false (by omega)
  go_enter func98,ntmps98
  go_wp2
  go_ret
  first|exact ⟨rfl,rfl⟩|exact ⟨ret_int hs.symm,rfl⟩
 ·have hs:digS c=c-65+10:=by unfold digS;rw [if_neg (by omega),if_pos ⟨h,h'⟩];omega
  have hd:decide (c<=57)=false:=decide_eq_false (by omega)
  have hd':decide (c<=70)=true:=decide_eq_true h'
  go_enter func98,ntmps98
  go_wp2
  go_ret
  first|exact ⟨rfl,rfl⟩|exact ⟨ret_int hs.symm,rfl⟩
 ·have hs:digS c=99:=by unfold digS;rw [if_neg (by omega),if_neg (by omega)]
  have hd:decide (c<=57)=false:=decide_eq_false (by omega)
  have hd':decide (c<=70)=false:=decide_eq_false (by omega)
  go_enter func98,ntmps98
  go_wp2
  go_ret
  first|exact ⟨rfl,rfl⟩|exact ⟨ret_int hs.symm,rfl⟩
theorem digitOf_any (c:Int) (w:World) (hT:Tab w) :
  Calls prog 130 #[.int .u8 c] w fun e w'=>e=.returned (.int .i64 (digI c))/\w'=w:=by
 go_enter func130,ntmps130
 go_wp2
 go_loop [4] (fun i=>∃ k:Nat,k<=16/\i=.int .i64 k/\∀ j,j<k->tab.getD j 0 ≠ c) (fun i=>16-(intOf i).toNat)
 case atStart=>exact ⟨0,Nat.zero_le _,rfl,fun j h=>absurd h (Nat.not_lt_zero _)⟩
 case round =>
  obtain ⟨k,hk,rfl,hu⟩:=hrel
  by_cases hlt:k<16
  ·have hcell:=hT k hlt
   clear hT
   by_cases hc:tab.getD k 0=c
   ·have hd:digI c=(k:Int):=by rw [<- hc];exact digI_tab k hlt
    have HD:Hid (digI c=(k:Int)):=hd
    rw [hc] at hcell
    clear hc hd hu
    go_wp2
    go_ret
    exact ⟨ret_int HD.out.symm,rfl⟩
   ·have hb:(tab.getD k 0 == c)=false:=by simpa using hc
    have hT':∃ t,t=tab.getD k 0:=⟨_,rfl⟩
    obtain ⟨t,ht⟩:=hT'
    rw [<- ht] at hcell hb
    clear ht
    go_wp2
    go_round
    case rel =>
     refine ⟨k+1,by omega,by go_num,fun j h=>?_⟩
     by_cases e:j=k
     ·subst e;exact hc
     ·exact hu j (by omega)
    case measure=>simp [intOf];omega
  ·have hd:digI c = -1:=digI_none (fun j h=>hu j (by omega))
   have HD:Hid (digI c = -1):=hd
   clear hd hT
   go_wp2
   go_ret
   exact ⟨ret_int HD.out.symm,rfl⟩
def word (base:Int):Int->List UInt8->Option Int
 | n,[]=>some n
 | n,c :: r=>if base<=digS (c.toNat:Int) then none else if 65535<n*base+digS (c.toNat:Int) then none else word base (n*base+digS (c.toNat:Int)) r
def base (s:ByteArray) (b:Int):Option Int:=if s.size=0 then none else word b 0 s.data.toList
theorem drop_at (s:ByteArray) (k:Nat) (h:k<s.size):s.data.toList.drop k=s[k] :: s.data.toList.drop (k+1):=by
 rw [List.drop_eq_getElem_cons (by simpa using h)];rfl
theorem drop_end (s:ByteArray) (k:Nat) (h:s.size<=k):s.data.toList.drop k=[] :=
 List.drop_eq_nil_of_le (by rw [Array.length_toList];exact h)
theorem empty_yes {s:ByteArray} (h:s.size=0):s.toList.isEmpty=true:=by
 rw [ByteArray.toList_eq,List.isEmpty_iff_length_eq_zero,Array.length_toList];exact h
theorem empty_no {s:ByteArray} (h:¬ s.size=0):s.toList.isEmpty=false:=by
 rw [ByteArray.toList_eq];cases e:s.data.toList with
 | nil=>exact absurd (by have:=congrArg List.length e;rw [Array.length_toList] at this;exact this) h
 | cons _ _=>rfl
theorem mul_bd {m b:Int} (h0:0<=m) (h1:m<=65535) (hb0:2<=b) (hb1:b<=16):0<=m*b/\m*b<=1048560:=by
 constructor
 ·exact Int.mul_nonneg h0 (by omega)
 ·calc m*b<=65535*b:=Int.mul_le_mul_of_nonneg_right h1 (by omega)
   _<=65535*16:=Int.mul_le_mul_of_nonneg_left hb1 (by decide)
   _=1048560:=by decide
theorem wordOf_any (s:ByteArray) (b:Int) (w:World) (hT:Tab w) (hs:s.size<=maxLen) (hb0:2<=b) (hb1:b<=16) :
  Calls prog 182 #[.string s,.int .i64 b] w fun e w'=>e=.returned (.tuple #[.int .i64 ((base s b).getD 0),.bool (base s b).isSome])/\w'=w:=by
 unfold maxLen at hs
 by_cases h0:s.size=0
 ·have hn:base s b=none:=by unfold base;rw [if_pos h0]
  rw [hn]
  have he:=empty_yes h0
  clear hT
  go_enter func182,ntmps182
  go_wp2
  go_ret2
  exact ⟨rfl,rfl⟩
 have he:=empty_no h0
 have hw:base s b=word b 0 s.data.toList:=by unfold base;rw [if_neg h0]
 rw [hw]
 clear hw
 obtain ⟨r,hr⟩ : ∃ r,r=word b 0 s.data.toList:=⟨_,rfl⟩
 rw [<- hr]
 have HT:Hid (Tab w):=hT
 clear hT
 go_enter func182,ntmps182
 go_wp2
 go_loop [6,7] (fun n i=>∃ (k:Nat) (m:Int),k<=s.size/\0<=m/\m<=65535/\i=.int .i64 k/\n=.int .i64 m/\Hid (r=word b m (s.data.toList.drop k))) (fun _ i=>s.size-(intOf i).toNat)
 case atStart=>exact ⟨0,0,Nat.zero_le _,by omega,by omega,rfl,rfl,hr⟩
 case round =>
  clear hr
  obtain ⟨k,m,hk,hm0,hm1,rfl,rfl,hw⟩:=hrel
  have hmul:=mul_bd hm0 hm1 hb0 hb1
  obtain ⟨hmul0,hmul1⟩:=hmul
  by_cases hlt:k<s.size
  ·have hd:=digS_bd (s[k].toNat:Int)
   have hw':Hid (r=if b<=digS (s[k].toNat:Int) then none else if 65535<m*b+digS (s[k].toNat:Int) then none else word b (m*b+digS (s[k].toNat:Int)) (s.data.toList.drop (k+1))):=by
    have:=hw.out;rw [drop_at s k hlt] at this;exact this
   clear hw
   obtain ⟨d,hdd⟩ : ∃ d,d=digS (s[k].toNat:Int):=⟨_,rfl⟩
   rw [<- hdd] at hd hw'
   have hI:digI (s[k].toNat:Int) = -1/\d=99 \/ digI (s[k].toNat:Int)=d/\d<=15:=by
    unfold digI;rw [<- hdd]
    by_cases e:d=99
    ·exact .inl ⟨if_pos e,e⟩
    ·exact .inr ⟨if_neg e,by omega⟩
   clear hdd
   have cal:Calls prog 130 #[.int .u8 (s[k].toNat:Int)] w fun e w'=>e=.returned (.int .i64 (digI (s[k].toNat:Int)))/\w'=w:=digitOf_any _ w HT.out
   obtain ⟨hd0,-,-⟩:=hd
   rcases hI with ⟨e,e'⟩|⟨e,e'⟩
   ·rw [e] at cal
    have hw'':r=none:=by have:=hw'.out;rw [if_pos (by omega)] at this;exact this
    have HR:Hid (r=none):=hw''
    clear e e' hd0 hw' hw''
    go_wp2_with (go_at_call 130;refine cal.mono ?_;rintro e w' ⟨rfl,rfl⟩)
    go_ret2
    exact ⟨by rw [HR.out];rfl,rfl⟩
   ·rw [e] at cal
    clear e
    by_cases hbd:b<=d
    ·have HR:Hid (r=none):=by have:=hw'.out;rw [if_pos hbd] at this;exact this
     have hdb:decide (b<=d)=true:=decide_eq_true hbd
     clear hw'
     go_wp2_with (go_at_call 130;refine cal.mono ?_;rintro e w' ⟨rfl,rfl⟩)
     go_ret2
     exact ⟨by rw [HR.out];rfl,rfl⟩
    ·have hdb:decide (b<=d)=false:=decide_eq_false hbd
     by_cases hbig:65535<m*b+d
     ·have HR:Hid (r=none):=by have:=hw'.out;rw [if_neg hbd,if_pos hbig] at this;exact this
      clear hw'
      go_wp2_with (go_at_call 130;refine cal.mono ?_;rintro e w' ⟨rfl,rfl⟩)
      go_ret2
      exact ⟨by rw [HR.out];rfl,rfl⟩
     ·have HR:Hid (r=word b (m*b+d) (s.data.toList.drop (k+1))):=by have:=hw'.out;rw [if_neg hbd,if_neg hbig] at this;exact this
      clear hw'
      go_wp2_with (go_at_call 130;refine cal.mono ?_;rintro e w' ⟨rfl,rfl⟩)
      go_round
      case rel=>exact ⟨k+1,m*b+d,by omega,by omega,by omega,by go_num,rfl,HR⟩
      case measure=>simp [intOf];omega
  ·have HR:Hid (r=some m):=by have:=hw.out;rw [drop_end s k (by omega)] at this;exact this
   clear hw
   go_wp2
   go_ret2
   exact ⟨by rw [HR.out];rfl,rfl⟩
theorem l1Base_any (s:ByteArray) (b:Int) (w:World) (hs:s.size<=maxLen) (hb0:2<=b) (hb1:b<=16) :
  Calls prog 151 #[.string s,.int .i64 b] w fun e w'=>e=.returned (.tuple #[.int .i64 ((base s b).getD 0),.bool (base s b).isSome])/\w'=w:=by
 unfold maxLen at hs
 by_cases h0:s.size=0
 ·have hn:base s b=none:=by unfold base;rw [if_pos h0]
  rw [hn]
  have he:=empty_yes h0
  go_enter func151,ntmps151
  go_wp2
  go_loop [6,7] (fun n i=>i=.int .i64 0/\n=.int .i64 0) (fun _ _=>0)
  case atStart=>exact ⟨rfl,rfl⟩
  case round =>
   obtain ⟨rfl,rfl⟩:=hrel
   go_wp2
   go_ret2
   exact ⟨rfl,rfl⟩
 have he:=empty_no h0
 have hw:base s b=word b 0 s.data.toList:=by unfold base;rw [if_neg h0]
 rw [hw]
 clear hw
 obtain ⟨r,hr⟩ : ∃ r,r=word b 0 s.data.toList:=⟨_,rfl⟩
 rw [<- hr]
 go_enter func151,ntmps151
 go_wp2
 go_loop [6,7] (fun n i=>∃ (k:Nat) (m:Int),k<=s.size/\0<=m/\m<=65535/\i=.int .i64 k/\n=.int .i64 m/\Hid (r=word b m (s.data.toList.drop k))) (fun _ i=>s.size-(intOf i).toNat)
 case atStart=>exact ⟨0,0,Nat.zero_le _,by omega,by omega,rfl,rfl,hr⟩
 case round =>
  clear hr
  obtain ⟨k,m,hk,hm0,hm1,rfl,rfl,hw⟩:=hrel
  have hmul:=mul_bd hm0 hm1 hb0 hb1
  obtain ⟨hmul0,hmul1⟩:=hmul
  by_cases hlt:k<s.size
  ·have hd:=digS_bd (s[k].toNat:Int)
   have hw':Hid (r=if b<=digS (s[k].toNat:Int) then none else if 65535<m*b+digS (s[k].toNat:Int) then none else word b (m*b+digS (s[k].toNat:Int)) (s.data.toList.drop (k+1))):=by
    have:=hw.out;rw [drop_at s k hlt] at this;exact this
   clear hw
   have h8:(s[k].toNat:Int)<=255:=by have:=s[k].toNat_lt;omega
   have cal:Calls prog 98 #[.int .u8 (s[k].toNat:Int)] w fun e w'=>e=.returned (.int .i64 (digS (s[k].toNat:Int)))/\w'=w:=l1Digit_any _ w (by omega) h8
   obtain ⟨d,hdd⟩ : ∃ d,d=digS (s[k].toNat:Int):=⟨_,rfl⟩
   rw [<- hdd] at hd hw' cal
   obtain ⟨hd0,hd1,-⟩:=hd
   clear hdd h8
   by_cases hbd:b<=d
   ·have HR:Hid (r=none):=by have:=hw'.out;rw [if_pos hbd] at this;exact this
    clear hw'
    go_wp2_with (go_at_call 98;refine cal.mono ?_;rintro e w' ⟨rfl,rfl⟩)
    go_ret2
    exact ⟨by rw [HR.out];rfl,rfl⟩
   ·by_cases hbig:65535<m*b+d
    ·have HR:Hid (r=none):=by have:=hw'.out;rw [if_neg hbd,if_pos hbig] at this;exact this
     clear hw'
     go_wp2_with (go_at_call 98;refine cal.mono ?_;rintro e w' ⟨rfl,rfl⟩)
     go_ret2
     exact ⟨by rw [HR.out];rfl,rfl⟩
    ·have HR:Hid (r=word b (m*b+d) (s.data.toList.drop (k+1))):=by have:=hw'.out;rw [if_neg hbd,if_neg hbig] at this;exact this
     clear hw'
     go_wp2_with (go_at_call 98;refine cal.mono ?_;rintro e w' ⟨rfl,rfl⟩)
     go_round
     case rel=>exact ⟨k+1,m*b+d,by omega,by omega,by omega,by go_num,rfl,HR⟩
     case measure=>simp [intOf];omega
  ·have HR:Hid (r=some m):=by have:=hw.out;rw [drop_end s k (by omega)] at this;exact this
   clear hw
   go_wp2
   go_ret2
   exact ⟨by rw [HR.out];rfl,rfl⟩
def num (s:ByteArray):Option Int :=
 if s.size=0 \/ 18<s.size then none
 else if (s.data.getD 0 0).toNat=36 then base (s.extract 1 s.size) 16
 else if (s.data.getD 0 0).toNat=37 then base (s.extract 1 s.size) 2
 else base s 10
theorem getD_at (s:ByteArray) (h:0<s.size):s.data.getD 0 0=s[0]:=by
 show s.data.getD 0 0=s.data[0]
 rw [Array.getD_eq_getD_getElem?,Array.getElem?_eq_getElem h];rfl
theorem cut_size (s:ByteArray):(s.extract 1 s.size).size=s.size-1:=by rw [ByteArray.size_extract];omega
theorem implNum_any (s:ByteArray) (w:World) (hT:Tab w) (hs:s.size<=maxLen) :
  Calls prog 159 #[.string s] w fun e w'=>e=.returned (.tuple #[.int .i64 ((num s).getD 0),.bool (num s).isSome])/\w'=w:=by
 have HT:Hid (Tab w):=hT
 clear hT
 by_cases h0:s.size=0
 ·have hn:num s=none:=by unfold num;rw [if_pos (.inl h0)]
  rw [hn]
  have he:=empty_yes h0
  unfold maxLen at hs
  go_enter func159,ntmps159
  go_wp2
  go_ret2
  exact ⟨rfl,rfl⟩
 have he:=empty_no h0
 by_cases h18:18<s.size
 ·have hn:num s=none:=by unfold num;rw [if_pos (.inr h18)]
  rw [hn]
  unfold maxLen at hs
  go_enter func159,ntmps159
  go_wp2
  go_ret2
  exact ⟨rfl,rfl⟩
 have hp:0<s.size:=by omega
 have hz:(s.extract 1 s.size).size<=maxLen:=by rw [cut_size];omega
 have c16:=wordOf_any (s.extract 1 s.size) 16 w HT.out hz (by decide) (by decide)
 have c2:=wordOf_any (s.extract 1 s.size) 2 w HT.out hz (by decide) (by decide)
 have c10:=wordOf_any s 10 w HT.out hs (by decide) (by decide)
 clear hz
 unfold maxLen at hs
 by_cases a1:s[0].toNat=36
 ·have hn:num s=base (s.extract 1 s.size) 16:=by unfold num;rw [if_neg (by omega),getD_at s hp,if_pos a1]
  rw [hn]
  have b1:((s[0].toNat:Int) == 36)=true:=by simp;omega
  clear hn c2 c10
  go_enter func159,ntmps159
  go_wp2_with (go_at_call 182;refine c16.mono ?_;rintro e w' ⟨rfl,rfl⟩)
  go_ret2
  exact ⟨rfl,rfl⟩
 by_cases a2:s[0].toNat=37
 ·have hn:num s=base (s.extract 1 s.size) 2:=by unfold num;rw [if_neg (by omega),getD_at s hp,if_neg a1,if_pos a2]
  rw [hn]
  have b1:((s[0].toNat:Int) == 36)=false:=by simp;omega
  have b2:((s[0].toNat:Int) == 37)=true:=by simp;omega
  clear hn c16 c10
  go_enter func159,ntmps159
  go_wp2_with (go_at_call 182;refine c2.mono ?_;rintro e w' ⟨rfl,rfl⟩)
  go_ret2
  exact ⟨rfl,rfl⟩
 ·have hn:num s=base s 10:=by unfold num;rw [if_neg (by omega),getD_at s hp,if_neg a1,if_neg a2]
  rw [hn]
  have b1:((s[0].toNat:Int) == 36)=false:=by simp;omega
  have b2:((s[0].toNat:Int) == 37)=false:=by simp;omega
  clear hn c16 c2
  go_enter func159,ntmps159
  go_wp2_with (go_at_call 182;refine c10.mono ?_;rintro e w' ⟨rfl,rfl⟩)
  go_ret2
  exact ⟨rfl,rfl⟩
theorem specNum_any (s:ByteArray) (w:World) (hs:s.size<=maxLen) :
  Calls prog 124 #[.string s] w fun e w'=>e=.returned (.tuple #[.int .i64 ((num s).getD 0),.bool (num s).isSome])/\w'=w:=by
 by_cases h18:18<s.size
 ·have hn:num s=none:=by unfold num;rw [if_pos (.inr h18)]
  rw [hn]
  unfold maxLen at hs
  go_enter func124,ntmps124
  go_wp2
  go_ret2
  exact ⟨rfl,rfl⟩
 by_cases h0:s.size=0
 ·have hn:num s=none:=by unfold num;rw [if_pos (.inl h0)]
  rw [hn]
  have he:=empty_yes h0
  unfold maxLen at hs
  go_enter func124,ntmps124
  go_wp2
  go_ret2
  exact ⟨rfl,rfl⟩
 have he:=empty_no h0
 have hp:0<s.size:=by omega
 have hz:(s.extract 1 s.size).size<=maxLen:=by rw [cut_size];omega
 have c16:=l1Base_any (s.extract 1 s.size) 16 w hz (by decide) (by decide)
 have c2:=l1Base_any (s.extract 1 s.size) 2 w hz (by decide) (by decide)
 have c10:=l1Base_any s 10 w hs (by decide) (by decide)
 clear hz
 unfold maxLen at hs
 by_cases a1:s[0].toNat=36
 ·have hn:num s=base (s.extract 1 s.size) 16:=by unfold num;rw [if_neg (by omega),getD_at s hp,if_pos a1]
  rw [hn]
  have b1:((s[0].toNat:Int) == 36)=true:=by simp;omega
  clear hn c2 c10
  go_enter func124,ntmps124
  go_wp2_with (go_at_call 151;refine c16.mono ?_;rintro e w' ⟨rfl,rfl⟩)
  go_ret2
  exact ⟨rfl,rfl⟩
 by_cases a2:s[0].toNat=37
 ·have hn:num s=base (s.extract 1 s.size) 2:=by unfold num;rw [if_neg (by omega),getD_at s hp,if_neg a1,if_pos a2]
  rw [hn]
  have b1:((s[0].toNat:Int) == 36)=false:=by simp;omega
  have b2:((s[0].toNat:Int) == 37)=true:=by simp;omega
  clear hn c16 c10
  go_enter func124,ntmps124
  go_wp2_with (go_at_call 151;refine c2.mono ?_;rintro e w' ⟨rfl,rfl⟩)
  go_ret2
  exact ⟨rfl,rfl⟩
 ·have hn:num s=base s 10:=by unfold num;rw [if_neg (by omega),getD_at s hp,if_neg a1,if_neg a2]
  rw [hn]
  have b1:((s[0].toNat:Int) == 36)=false:=by simp;omega
  have b2:((s[0].toNat:Int) == 37)=false:=by simp;omega
  clear hn c16 c2
  go_enter func124,ntmps124
  go_wp2_with (go_at_call 151;refine c10.mono ?_;rintro e w' ⟨rfl,rfl⟩)
  go_ret2
  exact ⟨rfl,rfl⟩
end Nums
namespace Obuf
open Go.RowKit
theorem info5:(prog.info? 5).map (fun i=>(i.zero,i.size,i.bytes))=some (some (.int .u8 0),1,1):=by kernel_rfl
theorem str_own {W:World} {base:Nat} {v:Value} {l:List UInt8} (h:W.ownsRow base 5 1 v l.length (Lib.byteCells l)):(convert 32 9 v).run prog W=.ok (.string ⟨l.toArray⟩) W:=by
 rcases h.2 with ⟨rfl,h0⟩|⟨g,cap,cur,rfl,_,hg,hn,hm,hc,ht⟩
 ·obtain rfl:l=[]:=List.length_eq_zero_iff.1 h0
  exact run_convert_bytes_nil (P:=prog) _ 32 5 underlying32 underlying5 0 0 9 underlying9
 ·refine run_convert_bytes_back (P:=prog) W 32 9 5 ⟨g,0,none⟩ cap l underlying32 underlying5 underlying9 (fun j hj=>?_)
  refine h.cells (g:=g) rfl j _ ?_
  unfold Lib.byteCells
  rw [List.getElem?_map,List.getElem?_eq_getElem hj]
  rfl
end Obuf
namespace Qtail
open Go.RowKit
def anyT (P:Program) (md:Region.Mode) (ops:Array Oper) (C:World->Prop) (n:Nat) (L:Array Bool->Act->Prop):Nat->Array Bool->Act->Prop
 | 0,listed,a=>L listed a
 | f+1,listed,a =>
  Region.ready md ops listed ≠ []/\∀ i ∈ Region.ready md ops listed,i<n/\qOp P ops C i (anyT P md ops C n L f (listed.setIfInBounds i true)) a
theorem any_of_head {P:Program} {ops:Array Oper} {md:Region.Mode} {C:World->Prop} {n g:Nat} {L:Array Bool->Act->Prop} {Q':Exit->Act->World->Prop} (hL:∀ listed a w,C w->L listed a->wpAny P md ops Q' g listed a w) :
  ∀ (f:Nat) (listed:Array Bool) (a:Act) (w:World),C w->anyT P md ops C n L f listed a->wpAny P md ops Q' (f+g) listed a w
 | 0,listed,a,w,hw,h=>by rw [Nat.zero_add];exact hL _ _ _ hw h
 | f+1,listed,a,w,hw,h=>by
  rw [show f+1+g=(f+g)+1 by omega]
  exact ⟨fun h0=>absurd h0 h.1,fun i hi=>wpOp_of_qOp hw (fun a' w' hw' h'=>any_of_head hL f _ a' w' hw' h') (h.2 i hi).2⟩
theorem anyT_first {P:Program} {ops:Array Oper} {md:Region.Mode} {C:World->Prop} {n i:Nat} {oi:Oper} {v:Value} {L:Array Bool->Act->Prop} (hi:ops[i]? = some oi) (hsel:∀ (j:Nat) (o:Oper) cs b,ops[j]? = some o->o.op ≠ .select cs b)
  (hs:Region.sinkB md ops n=true) (hc:Region.chainB md ops n=true) (hn:n<ops.size) (hin:i<n)
  (hdone:∀ listed a,L listed a->∀ j ∈ Region.ready md ops listed,n<=j) :
  ∀ (f:Nat) (listed:Array Bool) (a:Act),HeadInv md ops n listed ->
   (∀ j oj,ops[j]? = some oj->j ≠ i->listed.getD j true=false->(∀ e ∈ oj.after,Region.binds md e=true->e.on ≠ i)->oi.apart ops oj=true) ->
   i ∈ Region.ready md ops listed->YieldsIn P ops C oi v a ->
   anyT P md ops C n L f (listed.setIfInBounds i true) (a.put oi.dst v)->anyT P md ops C n L (f+1) listed a:=by
 intro f
 induction f with
 | zero =>
  intro listed a inv _ hr hy H
  have hun:=(mem_ready.1 hr).1
  refine ⟨fun h=>(by rw [h] at hr;cases hr),fun j hj=>?_⟩
  have hjn:j<n:=by
   rcases Nat.lt_or_ge j n with h|h
   ·exact h
   ·exact absurd hj (tail_waits hs hc hn inv _ i rfl hin hun j h)
  refine ⟨hjn,?_⟩
  by_cases hji:j=i
  ·subst hji;exact hy.qOp hi H
  ·have:=hdone _ _ H j (ready_mono hj hji)
   omega
 | succ f ih =>
  intro listed a inv hfree hr hy H
  have hun:=(mem_ready.1 hr).1
  refine ⟨fun h=>(by rw [h] at hr;cases hr),fun j hj=>?_⟩
  have hjn:j<n:=by
   rcases Nat.lt_or_ge j n with h|h
   ·exact h
   ·exact absurd hj (tail_waits hs hc hn inv _ i rfl hin hun j h)
  refine ⟨hjn,?_⟩
  by_cases hji:j=i
  ·subst hji;exact hy.qOp hi H
  ·have h1:=(H.2 j (ready_mono hj hji)).2
   obtain ⟨hjun,oj,hoj,hall⟩:=mem_ready.1 hj
   have hnot:∀ e ∈ oj.after,Region.binds md e=true->e.on ≠ i:=fun e he hb heq=>by
    have h1:=hall e he hb
    rw [heq,getD_both hun] at h1
    cases h1
   have h2:=qOp_put hoj (hfree j oj hoj hji hjun hnot) (fun cs b=>hsel i oi cs b hi) (fun cs b=>hsel j oj cs b hoj) hy h1
   have hfree':∀ k ok,ops[k]? = some ok->k ≠ i->(listed.setIfInBounds j true).getD k true=false ->
     (∀ e ∈ ok.after,Region.binds md e=true->e.on ≠ i)->oi.apart ops ok=true:=fun k ok hk hki hun hno=>by
    refine hfree k ok hk hki ?_ hno
    by_cases hjk:j=k
    ·subst hjk;exact hjun
    ·rw [getD_set_ne true hjk] at hun;exact hun
   refine qOp_mono (fun a' h3=>ih (listed.setIfInBounds j true) a' (inv.set hj hjn) hfree' (ready_mono hr (Ne.symm hji)) h3.1 ?_) h2
   rw [Array.setIfInBounds_comm _ _ hji]
   exact h3.2
theorem anyT_lex {P:Program} {ops:Array Oper} {md:Region.Mode} {C:World->Prop} {n g:Nat} {Lq:Act->Prop} (hsel:Region.noSelect ops=true) (hs:Region.sinkB md ops n=true) (hc:Region.chainB md ops n=true) (hn:n<ops.size) :
  ∀ (l:List Oper) (k:Nat) (listed:Array Bool) (a:Act),(∀ j,j<l.length->l[j]? = ops[k+j]?)->k+l.length=n->HeadInv md ops n listed ->
  Region.lexHead md ops g l.length k listed=true->wpQuiet P ops C Lq l a ->
  anyT P md ops C n (fun listed' a'=>Region.seqB md ops g n listed'=true/\Lq a') l.length listed a
 | [],k,listed,a,_,hk,_,hB,h=>by
  have:k=n:=by simpa using hk
  subst this
  exact ⟨by simpa [Region.lexHead] using hB,h⟩
 | o :: l,k,listed,a,hl,hk,inv,hB,h=>by
  have h0:ops[k]? = some o:=by simpa using (hl 0 (by simp)).symm
  simp only [List.length_cons,Region.lexHead,Bool.and_eq_true] at hB
  obtain ⟨⟨hr,hf⟩,hB'⟩:=hB
  have hkn:k<n:=by simp only [List.length_cons] at hk;omega
  have hr':k ∈ Region.ready md ops listed:=by simpa using hr
  have hst:qOp P ops C k (wpQuiet P ops C Lq l) a:=by unfold qOp;simp only [h0];exact h
  obtain ⟨v,hy,hK⟩:=yieldsIn_of_qOp h0 hst
  exact anyT_first h0 (Region.noSelect_spec hsel) hs hc hn hkn (fun listed' a' hL=>seqB_ready hL.1) l.length listed a inv (Region.free_spec h0 hf) hr' hy
   (anyT_lex hsel hs hc hn l (k+1) _ _ (fun j hj=>by have:=hl (j+1) (by simp;omega);simpa [Nat.add_assoc,Nat.add_comm 1 j] using this) (by simp only [List.length_cons] at hk;omega) (inv.set hr' hkn) hB' hK)
theorem region_tail {P:Program} {C:World->Prop} {id:Nat} {Q:Exit->Act->World->Prop} {a:Act} {w:World} {l:List Oper} (n:Nat) (hm:P.follows .mixedOrders=true) (hB:Region.lexTailB .any l.toArray n=true) (hC:C { w with drawn:=w.drawn+1 })
  (h:wpQuiet P l.toArray C (fun a'=>∀ w',C w'->wpList P l.toArray Q (l.drop n) a' w') (l.take n) a):(Code.region id l.toArray true).wp P Q a w:=by
 simp only [Region.lexTailB,Bool.and_eq_true,decide_eq_true_eq] at hB
 obtain ⟨⟨⟨⟨hsel,hn⟩,hs⟩,hc⟩,hlex⟩:=hB
 have hn':n<l.length:=by simpa using hn
 have htl:(l.take n).length=n:=by simp;omega
 have hdl:(l.drop n).length=l.toArray.size-n:=by simp
 have inv0:HeadInv .any l.toArray n (Array.replicate l.toArray.size false) :=
  ⟨by simp,fun j oj _ hl=>(by rw [getD_replicate_false] at hl;cases hl),fun t _ ht=>getD_in (by simpa using ht) (getD_replicate_false _ _)⟩
 have H:=anyT_lex (md:=.any) (g:=l.toArray.size-n) hsel hs hc hn (l.take n) 0 _ a (fun j hj=>by
  have hj':j<n:=by rw [htl] at hj;exact hj
  simp [hj']) (by simpa using htl) inv0 (by rw [htl];exact hlex) h
 refine wp_region_any hm ?_
 have:=any_of_head (Q':=Q) (g:=l.toArray.size-n) (fun listed a' w' hw' hL=>by
  have:=wpAny_of_seq (md:=.any) (Q':=Q) (l.drop n) n listed a' w' (fun j=>by simp [List.getElem?_drop]) (by rw [hdl];exact hL.1) (hL.2 w' hw')
  rwa [hdl] at this) _ _ _ { w with drawn:=w.drawn+1 } hC H
 rw [htl,show n+(l.toArray.size-n)=l.toArray.size by omega] at this
 exact this
theorem tail_below {P:Program} {id:Nat} {Q:Exit->Act->World->Prop} {a:Act} {w:World} {l:List Oper} (n:Nat) (hm:P.follows .mixedOrders=true) (hB:Region.lexTailB .any l.toArray n=true)
  (h:wpQuiet P l.toArray (fun w'=>∃ p:Regrown,w'=Go.Sort.grow (redrawn w p.d) p.os) (fun a'=>∀ w',(∃ p:Regrown,w'=Go.Sort.grow (redrawn w p.d) p.os)->wpList P l.toArray Q (l.drop n) a' w') (l.take n) a):(Code.region id l.toArray true).wp P Q a w :=
 region_tail (C:=fun w'=>∃ p:Regrown,w'=Go.Sort.grow (redrawn w p.d) p.os) n hm hB ⟨⟨w.drawn+1,#[]⟩,by rw [Go.Sort.grow_empty];rfl⟩ h
end Qtail
namespace Signed
def inB (n low high:Int):Bool:=decide (low<=n/\n<=high)
theorem ret_int {k:IntKind} {a b:Int} (h:a=b):Ending.returned (.int k a)=.returned (.int k b):=by rw [h]
theorem ret_bool {a b:Bool} (h:a=b):Ending.returned (.bool a)=.returned (.bool b):=by rw [h]
theorem l1In_any (n low high:Int) (w:World) :
  Calls prog 49 #[.int .i64 n,.int .i64 low,.int .i64 high] w fun e w'=>e=.returned (.bool (inB n low high))/\w'=w:=by
 go_enter func49,ntmps49
 go_wp2
 all_goals go_ret
 all_goals exact ⟨ret_bool (by rw [Bool.eq_iff_iff];simp [inB];try omega),rfl⟩
end Signed
end Go.Proofs.YtickfkphhngagaaGreatDoor
