import Derived.Test.YtbofcepdckpkkaaGreatDoorP06
import Derived.Test.YtbofcepdckpkkaaGreatDoorP03
set_option linter.all false
set_option maxRecDepth 20000
set_option maxHeartbeats 8000000
open Go.ChangeShapes Go.WideShapes Go.ChangeAt Go.RowKit
open Go.Proofs.Tryz
namespace Go.Proofs.YtbofcepdckpkkaaGreatDoor
namespace Specx
open Names (nameB)
open Go.Proofs.YtbofcepdckpkkaaGreatDoor.Steps (nodeB inB)
open Go.Proofs.YtbofcepdckpkkaaGreatDoor.Stepx (Nodes takes run exprB)
theorem l1In_any (n low high:Int) (w:World) :
  Calls prog 33 #[.int .i64 n,.int .i64 low,.int .i64 high] w fun e w'=>e=.returned (.bool (inB n low high))/\w'=w:=by
 go_enter func33,ntmps33
 go_wp2
 all_goals go_ret
 all_goals exact ⟨Names.ret_bool (by rw [Bool.eq_iff_iff];simp [inB];try omega),rfl⟩
def takesS (k:Int):Int:=if 1<=k/\k<=3 then 0 else if 4<=k/\k<=7 then 1 else if 8<=k/\k<=17 then 2 else -1
theorem l2Takes_any (k:Int) (w:World) :
  Calls prog 104 #[.int .i64 k] w fun e w'=>e=.returned (.int .i64 (takesS k))/\w'=w:=by
 have hk:(1<=k/\k<=3) \/ (4<=k/\k<=7) \/ (8<=k/\k<=17) \/ (k<1 \/ 17<k):=by omega
 rcases hk with h|h|h|h
 ·have e1:inB k 1 3=true:=by simp [inB];omega
  have ht:Hid (takesS k=0):=by
   show takesS k=_
   unfold takesS
   repeat (first|rw [if_pos (by omega)]|rw [if_neg (by omega)])
  clear h
  go_enter func104,ntmps104
  go_wp2_with (go_at_call 33;refine (l1In_any _ _ _ _).mono ?_;rintro e w' ⟨rfl,rfl⟩)
  go_ret
  exact ⟨by rw [ht.out];rfl,rfl⟩
 ·have e1:inB k 1 3=false:=by simp [inB];omega
  have e2:inB k 4 7=true:=by simp [inB];omega
  have ht:Hid (takesS k=1):=by
   show takesS k=_
   unfold takesS
   repeat (first|rw [if_pos (by omega)]|rw [if_neg (by omega)])
  clear h
  go_enter func104,ntmps104
  go_wp2_with (go_at_call 33;refine (l1In_any _ _ _ _).mono ?_;rintro e w' ⟨rfl,rfl⟩)
  go_ret
  exact ⟨by rw [ht.out];rfl,rfl⟩
 ·have e1:inB k 1 3=false:=by simp [inB];omega
  have e2:inB k 4 7=false:=by simp [inB];omega
  have e3:inB k 8 17=true:=by simp [inB];omega
  have ht:Hid (takesS k=2):=by
   show takesS k=_
   unfold takesS
   repeat (first|rw [if_pos (by omega)]|rw [if_neg (by omega)])
  clear h
  go_enter func104,ntmps104
  go_wp2_with (go_at_call 33;refine (l1In_any _ _ _ _).mono ?_;rintro e w' ⟨rfl,rfl⟩)
  go_ret
  exact ⟨by rw [ht.out];rfl,rfl⟩
 ·have e1:inB k 1 3=false:=by simp [inB];omega
  have e2:inB k 4 7=false:=by simp [inB];omega
  have e3:inB k 8 17=false:=by simp [inB];omega
  have ht:Hid (takesS k = -1):=by
   show takesS k=_
   unfold takesS
   repeat (first|rw [if_pos (by omega)]|rw [if_neg (by omega)])
  clear h
  go_enter func104,ntmps104
  go_wp2_with (go_at_call 33;refine (l1In_any _ _ _ _).mono ?_;rintro e w' ⟨rfl,rfl⟩)
  go_ret
  exact ⟨by rw [ht.out];rfl,rfl⟩
theorem l2Node_any (k n:Int) (s:ByteArray) (w:World) (hs:s.size<=maxLen) :
  Calls prog 103 #[.agg #[.int .i64 k,.int .i64 n,.string s]] w fun e w'=>e=.returned (.bool (nodeB k n s))/\Below w.heap.size w w':=by
 have cN:=fun W=>Names.specName_any s W hs
 have cT:=fun W=>l2Takes_any k W
 clear hs
 have END:∀ o:Obj,Below w.heap.size w (w.alloc o):=fun o=>zAl _ _
 by_cases h1:k=1
 ·subst h1
  have hn:nodeB 1 n s=(inB n 0 65535 && s.toList.isEmpty):=by unfold nodeB;rw [if_pos rfl]
  rw [hn]
  clear hn
  cases hb:inB n 0 65535
  all_goals
   go_enter func103,ntmps103
   go_wp2_with (first|(go_at_call 33;refine (l1In_any _ _ _ _).mono ?_;rintro e w' ⟨rfl,rfl⟩)|(go_at_call 123;refine (cN _).mono ?_;rintro e w' ⟨rfl,rfl⟩)|(go_at_call 104;refine (cT _).mono ?_;rintro e w' ⟨rfl,rfl⟩))
   go_ret
   exact ⟨rfl,END _⟩
 have e1:(k == 1)=false:=by simpa using h1
 by_cases h2:k=2 \/ k=3
 ·have hn:nodeB k n s=((n == 0) && nameB s):=by unfold nodeB;rw [if_neg h1,if_pos h2]
  rw [hn]
  clear hn
  have hz:(n == 0)=true \/ (n == 0)=false:=by cases n == 0 <;> simp
  rcases h2 with rfl|rfl
  all_goals
   rcases hz with hz|hz
   all_goals
    rw [hz]
    go_enter func103,ntmps103
    go_wp2_with (first|(go_at_call 33;refine (l1In_any _ _ _ _).mono ?_;rintro e w' ⟨rfl,rfl⟩)|(go_at_call 123;refine (cN _).mono ?_;rintro e w' ⟨rfl,rfl⟩)|(go_at_call 104;refine (cT _).mono ?_;rintro e w' ⟨rfl,rfl⟩))
    go_ret
    exact ⟨rfl,END _⟩
 have e2:(k == 2)=false:=by simp;omega
 have e3:(k == 3)=false:=by simp;omega
 have hz:(n == 0)=true \/ (n == 0)=false:=by cases n == 0 <;> simp
 have he:s.toList.isEmpty=true \/ s.toList.isEmpty=false:=by cases s.toList.isEmpty <;> simp
 by_cases h4:4<=k/\k<=17
 ·have hn:nodeB k n s=((n == 0) && s.toList.isEmpty):=by unfold nodeB;rw [if_neg h1,if_neg h2,if_pos h4]
  have ht:0<takesS k:=by
   unfold takesS
   rw [if_neg (by omega)]
   by_cases h7:4<=k/\k<=7
   ·rw [if_pos h7];decide
   ·rw [if_neg h7,if_pos (by omega)];decide
  have hd:decide (0<takesS k)=true:=decide_eq_true ht
  rw [hn]
  clear hn h4
  generalize takesS k=tk at cT ht hd
  rcases hz with hz|hz
  all_goals
   rcases he with he|he
   all_goals
    rw [hz,he]
    go_enter func103,ntmps103
    go_wp2_with (first|(go_at_call 33;refine (l1In_any _ _ _ _).mono ?_;rintro e w' ⟨rfl,rfl⟩)|(go_at_call 123;refine (cN _).mono ?_;rintro e w' ⟨rfl,rfl⟩)|(go_at_call 104;refine (cT _).mono ?_;rintro e w' ⟨rfl,rfl⟩))
    go_ret
    exact ⟨rfl,END _⟩
 ·have hn:nodeB k n s=false:=by unfold nodeB;rw [if_neg h1,if_neg h2,if_neg h4]
  have ht:takesS k = -1:=by unfold takesS;rw [if_neg (by omega),if_neg (by omega),if_neg (by omega)]
  rw [hn]
  rw [ht] at cT
  clear hn h4 ht
  rcases hz with hz|hz
  all_goals
   rcases he with he|he
   all_goals
    go_enter func103,ntmps103
    go_wp2_with (first|(go_at_call 33;refine (l1In_any _ _ _ _).mono ?_;rintro e w' ⟨rfl,rfl⟩)|(go_at_call 123;refine (cN _).mono ?_;rintro e w' ⟨rfl,rfl⟩)|(go_at_call 104;refine (cT _).mono ?_;rintro e w' ⟨rfl,rfl⟩))
    go_ret
    exact ⟨rfl,END _⟩
theorem takes_eq {k n:Int} {s:ByteArray} (h:nodeB k n s=true):takesS k=takes k/\0<=takes k/\takes k<=2:=by
 unfold nodeB at h
 unfold takesS takes
 by_cases e1:k=1
 ·subst e1;decide
 rw [if_neg e1] at h
 by_cases e2:k=2 \/ k=3
 ·rcases e2 with rfl|rfl <;> decide
 rw [if_neg e2] at h
 by_cases e3:4<=k/\k<=17
 ·rw [if_neg (by omega),if_neg (show ¬ k<=3 by omega)]
  by_cases e4:k<=7
  ·rw [if_pos (by omega),if_pos e4];decide
  ·rw [if_neg (by omega),if_pos (by omega),if_neg e4];decide
 rw [if_neg e3] at h;cases h
theorem exprOk_any (a:Option Addr) (cap:Nat) (L:List Stepx.Node) (w:World) (hN:Nodes w a L) (hlen:L.length<=1048576) :
  Calls prog 82 #[.slice a L.length cap] w fun e w'=>e=.returned (.bool (exprB L))/\Below w.heap.size w w':=by
 obtain ⟨r,hr⟩ : ∃ r,r=run 0 L:=⟨_,rfl⟩
 have hx:exprB L=(decide (L.length<=30) && (r == some 1)):=by unfold exprB;rw [hr]
 rw [hx]
 clear hx
 obtain ⟨len,hl⟩ : ∃ len,len=L.length:=⟨_,rfl⟩
 have HL:Hid (len=L.length):=hl
 rw [<- hl] at hlen |-
 clear hl
 go_enter func82,ntmps82
 go_wp2
 go_loopw [3,4] (fun vs i wr=>∃ (k:Nat) (v:Int),k<=len/\i=.int .i64 k/\vs=.int .i64 v/\0<=v/\v<=k/\Hid (r=run v (L.drop k))/\Hid (Below w.heap.size w wr)) (fun _ i _=>len-(intOf i).toNat)
 case atStart=>exact ⟨0,0,Nat.zero_le _,rfl,rfl,by decide,by decide,hr,Below.refl _ _⟩
 case round =>
  clear hr
  obtain ⟨k,v,hk,rfl,rfl,hv0,hv1,hrun,hbel⟩:=hrel
  by_cases hlt:k<len
  ·have hkL:k<L.length:=by have:=HL.out;omega
   rcases hN with hnil|⟨b,off,rfl,hb,hc⟩
   ·exfalso;rw [hnil] at hkL;exact absurd hkL (by simp)
   obtain ⟨c0,c1,c2,hsz⟩ : wr.cell? ⟨b,off+k*3,none⟩=some (.int .i64 L[k].1)/\wr.cell? ⟨b,off+k*3+1,none⟩=some (.int .i64 L[k].2.1)/\wr.cell? ⟨b,off+k*3+2,none⟩=some (.string L[k].2.2)/\L[k].2.2.size<=maxLen:=by
    obtain ⟨d0,d1,d2,d3⟩:=hc k hkL
    exact ⟨(hbel.out.cell (p:=⟨b,_,none⟩) hb).trans d0,(hbel.out.cell (p:=⟨b,_,none⟩) hb).trans d1,(hbel.out.cell (p:=⟨b,_,none⟩) hb).trans d2,d3⟩
   have HD:Hid (r=run v (L[k] :: L.drop (k+1))):=by have:=hrun.out;rw [List.drop_eq_getElem_cons hkL] at this;exact this
   clear hc hrun
   have hbr:b<wr.heap.size:=Nat.lt_of_lt_of_le hb hbel.out.size
   obtain ⟨kd,n,s,hnode⟩ : ∃ kd n s,L[k]=(kd,n,s):=⟨_,_,_,rfl⟩
   rw [hnode] at c0 c1 c2 hsz HD
   simp only at c0 c1 c2 hsz
   clear hnode
   have HD:Hid (r=if nodeB kd n s=true/\takes kd<=v then run (v+(1-takes kd)) (L.drop (k+1)) else none):=HD
   have cs:=fun W=>l2Node_any kd n s W hsz
   have ct:=fun W=>l2Takes_any kd W
   cases hn:nodeB kd n s with
   | false =>
    rw [hn] at cs
    have HR:Hid (r=none):=by have:=HD.out;rw [if_neg (by rw [hn];simp)] at this;exact this
    clear HD hn
    go_wp2_with fail
    refine (cs _).mono ?_
    rintro e w1 ⟨rfl,hb1⟩
    go_wp2
    go_ret
    exact ⟨by rw [HR.out];simp,hbel.out.trans (hb1.mono hbel.out.size)⟩
   | true =>
    rw [hn] at cs
    obtain ⟨te,t0,t2⟩:=takes_eq hn
    rw [te] at ct
    have HD:Hid (r=if takes kd<=v then run (v+(1-takes kd)) (L.drop (k+1)) else none):=by
     have:=HD.out
     by_cases h:takes kd<=v
     ·rw [if_pos ⟨hn,h⟩] at this;show r=_;rw [if_pos h];exact this
     ·rw [if_neg (fun x=>h x.2)] at this;show r=_;rw [if_neg h];exact this
    clear hn te
    generalize takes kd=tk at ct HD t0 t2
    by_cases hov:v<tk
    ·have HR:Hid (r=none):=by have:=HD.out;rw [if_neg (by omega)] at this;exact this
     clear HD
     go_wp2_with fail
     refine (cs _).mono ?_
     rintro e w1 ⟨rfl,hb1⟩
     obtain ⟨c0',hz⟩ : w1.cell? ⟨b,off+k*3,none⟩=some (.int .i64 kd)/\b<w1.heap.size:=⟨(hb1.cell (p:=⟨b,_,none⟩) hbr).trans c0,Nat.lt_of_lt_of_le hbr hb1.size⟩
     have bel1:Hid (Below w.heap.size w w1):=hbel.out.trans (hb1.mono hbel.out.size)
     clear hb1 hbel
     go_wp2_with (go_at_call 104;refine (ct _).mono ?_;rintro e w' ⟨rfl,rfl⟩)
     go_ret
     exact ⟨by rw [HR.out];simp,bel1.out⟩
    ·have HR:Hid (r=run (v-tk+1) (L.drop (k+1))):=by have:=HD.out;rw [if_pos (by omega),show v+(1-tk)=v-tk+1 by omega] at this;exact this
     clear HD
     go_wp2_with fail
     refine (cs _).mono ?_
     rintro e w1 ⟨rfl,hb1⟩
     obtain ⟨c0',hz⟩ : w1.cell? ⟨b,off+k*3,none⟩=some (.int .i64 kd)/\b<w1.heap.size:=⟨(hb1.cell (p:=⟨b,_,none⟩) hbr).trans c0,Nat.lt_of_lt_of_le hbr hb1.size⟩
     have bel1:Hid (Below w.heap.size w w1):=hbel.out.trans (hb1.mono hbel.out.size)
     clear hb1 hbel
     go_wp2_with (go_at_call 104;refine (ct _).mono ?_;rintro e w' ⟨rfl,rfl⟩)
     go_roundw
     case rel=>exact ⟨k+1,_,by omega,by go_num,rfl,by omega,by omega,HR,bel1.out⟩
     case measure=>simp [intOf];omega
  ·have HR:Hid (r=some v):=by
    have:=hrun.out
    rw [List.drop_eq_nil_of_le (by have:=HL.out;omega)] at this
    exact this
   clear hrun hN
   by_cases h30:len<=30
   ·have d30:decide (len<=30)=true:=decide_eq_true h30
    go_wp2
    go_ret
    exact ⟨by rw [HR.out];first|rfl|(rw [d30];rfl),hbel.out⟩
   ·have d30:decide (len<=30)=false:=decide_eq_false h30
    go_wp2
    go_ret
    exact ⟨by first|rfl|(rw [d30];rfl),hbel.out⟩
end Specx
namespace Prsp
open Go.RowKit
abbrev St:=List UInt8 × List Stepx.Node
def runB (c:Int):Bool:=decide (((97<=c/\c<=122) \/ c=95 \/ c=46) \/ (48<=c/\c<=57) \/ (65<=c/\c<=70))
def hd (l:List UInt8):Int:=((l.headD 0).toNat:Int)
def isW (c:UInt8):Bool:=runB (c.toNat:Int)
def bs (l:List UInt8):ByteArray:=⟨l.toArray⟩
def E0:ByteArray:=⟨#[]⟩
def put (x:Stepx.Node) (s:St):Option St:=if s.2.length<30 then some (s.1,s.2 ++ [x]) else none
def close (s:St):Option St:=if hd s.1=41 then some (s.1.tail,s.2) else none
def wd (l:List UInt8):List UInt8:=l.takeWhile isW
def af (l:List UInt8):List UInt8:=l.dropWhile isW
def leafF (t:ByteArray) (s:St):Option St:=match Nums.num t with
 | some n=>put (1,n,E0) s
 | none=>if Names.nameB t=true then put (2,0,t) s else none
def bankF (s:St):Option St:=if Names.nameB (bs (wd s.1))=true then (put (3,0,bs (wd s.1)) (af s.1,s.2)).bind close else none
def brF (l:St->Option St) (s:St):Option St:=(l (s.1.tail,s.2)).bind close
def high:List UInt8:=[104,105,103,104]
def low:List UInt8:=[108,111,119]
def bank:List UInt8:=[98,97,110,107]
def signed (l:List UInt8):Bool:=decide (hd l=36 \/ hd l=37)
def opens (l:List UInt8) (t:List UInt8):Bool:=decide (hd (af l)=40/\wd l=t)
def wordF (l:St->Option St) (s:St):Option St :=
 if signed s.1=true then leafF (bs (s.1.take 1 ++ wd s.1.tail)) (af s.1.tail,s.2)
 else if opens s.1 high=true then (brF l (af s.1,s.2)).bind (put (6,0,E0))
 else if opens s.1 low=true then (brF l (af s.1,s.2)).bind (put (7,0,E0))
 else if opens s.1 bank=true then bankF ((af s.1).tail,s.2)
 else leafF (bs (wd s.1)) (af s.1,s.2)
def valueF (v l:St->Option St) (s:St):Option St :=
 if hd s.1=45 then (v (s.1.tail,s.2)).bind (put (4,0,E0))
 else if hd s.1=126 then (v (s.1.tail,s.2)).bind (put (5,0,E0))
 else if hd s.1=40 then brF l s
 else wordF l s
def opK (l:List UInt8):Int :=
 if l.take 2=[60,60] then 16 else if l.take 2=[62,62] then 17
 else if hd l=42 then 10 else if hd l=47 then 11 else if hd l=37 then 12 else if hd l=43 then 8 else if hd l=45 then 9
 else if hd l=38 then 13 else if hd l=94 then 14 else if hd l=124 then 15 else 0
def tgt (k:Int):Int:=if k=16 \/ k=17 then 4 else if 10<=k/\k<=12 then 6 else if k=8 \/ k=9 then 5 else if k=13 then 3 else if k=14 then 2 else if k=15 then 1 else 0
def opL (k:Int):Nat:=if 16<=k then 2 else 1
def stepF (lev:Int->St->Option St) (s:St):Option St:=(lev (tgt (opK s.1)+1) (s.1.drop (opL (opK s.1)),s.2)).bind (put (opK s.1,0,E0))
def loopF (lev:Int->St->Option St) (least:Int) (s:St):Option St :=
 if tgt (opK s.1)<least then some s else
 match stepF lev s with
 | none=>none
 | some s'=>if h:s'.1.length<s.1.length then loopF lev least s' else none
termination_by s.1.length
def both:Nat->(St->Option St) × (Int->St->Option St)
 | 0=>(fun _=>none,fun _ _=>none)
 | k+1=>(valueF (both k).1 ((both k).2 1),fun least s=>(valueF (both k).1 ((both k).2 1) s).bind (loopF (both k).2 least))
def val (k:Nat):St->Option St:=(both k).1
def lev (k:Nat):Int->St->Option St:=(both k).2
theorem val_succ (k:Nat) (s:St):val (k+1) s=valueF (val k) (lev k 1) s:=rfl
theorem lev_succ (k:Nat) (least:Int) (s:St):lev (k+1) least s=(val (k+1) s).bind (loopF (lev k) least):=rfl
theorem val_zero (s:St):val 0 s=none:=rfl
theorem lev_zero (least:Int) (s:St):lev 0 least s=none:=rfl
theorem loop_stop {f:Int->St->Option St} {least:Int} {s:St} (h:tgt (opK s.1)<least):loopF f least s=some s:=by rw [loopF,if_pos h]
theorem loop_go {f:Int->St->Option St} {least:Int} {s s':St} (h:¬ tgt (opK s.1)<least) (hs:stepF f s=some s') (hl:s'.1.length<s.1.length):loopF f least s=loopF f least s':=by
 rw [loopF,if_neg h,hs];simp only [dif_pos hl]
theorem loop_none {f:Int->St->Option St} {least:Int} {s:St} (h:¬ tgt (opK s.1)<least) (hs:stepF f s=none):loopF f least s=none:=by
 rw [loopF,if_neg h,hs]
def comp (k:Nat) (l:List UInt8):Option (List Stepx.Node):=match lev k 1 (l,[]) with
 | some ([],L)=>some L
 | _=>none
/- Where lists are drops of one text. -/
theorem hd_in (s:ByteArray) (k:Nat) (h:k<s.size):hd (s.data.toList.drop k)=(s[k].toNat:Int):=by rw [Nums.drop_at s k h];rfl
theorem hd_end (s:ByteArray) (k:Nat) (h:s.size<=k):hd (s.data.toList.drop k)=0:=by rw [Nums.drop_end s k h];rfl
theorem tl (s:ByteArray) (k:Nat):(s.data.toList.drop k).tail=s.data.toList.drop (k+1):=by rw [List.tail_drop]
theorem hd_lt (s:ByteArray) (k:Nat) (h:hd (s.data.toList.drop k) ≠ 0):k<s.size:=by
 rcases Nat.lt_or_ge k s.size with h'|h'
 ·exact h'
 ·exact absurd (hd_end s k h') h
theorem af_step (s:ByteArray) (k:Nat) (h:k<s.size) (hw:isW s[k]=true):af (s.data.toList.drop k)=af (s.data.toList.drop (k+1)):=by
 rw [Nums.drop_at s k h];unfold af;rw [List.dropWhile_cons,if_pos hw]
theorem af_stop (s:ByteArray) (k:Nat) (h:k<s.size) (hw:isW s[k]=false):af (s.data.toList.drop k)=s.data.toList.drop k:=by
 rw [Nums.drop_at s k h];unfold af;rw [List.dropWhile_cons,if_neg (by rw [hw];decide)]
theorem af_end (s:ByteArray) (k:Nat) (h:s.size<=k):af (s.data.toList.drop k)=s.data.toList.drop k:=by rw [Nums.drop_end s k h];rfl
theorem wd_af (l:List UInt8):wd l ++ af l=l:=List.takeWhile_append_dropWhile
theorem wd_take {s:ByteArray} {k j:Nat} (hk:k<=j) (hj:j<=s.size) (h:af (s.data.toList.drop k)=s.data.toList.drop j):wd (s.data.toList.drop k)=(s.data.toList.drop k).take (j-k):=by
 have e:=wd_af (s.data.toList.drop k)
 rw [h] at e
 have hl:(wd (s.data.toList.drop k)).length=j-k:=by
  have:=congrArg List.length e
  simp only [List.length_append,List.length_drop] at this
  have e2:s.data.toList.length=s.size:=rfl
  omega
 have t:=List.take_left' (l₂:=s.data.toList.drop j) hl
 rw [e] at t
 exact t.symm
theorem bs_extract (s:ByteArray) (k j:Nat):bs ((s.data.toList.drop k).take (j-k))=s.extract k j:=by
 refine ByteArray.ext (Array.ext' ?_)
 rw [ByteArray.data_extract,Array.toList_extract,List.extract_eq_take_drop]
 rfl
theorem bs_wd {s:ByteArray} {k j:Nat} (hk:k<=j) (hj:j<=s.size) (h:af (s.data.toList.drop k)=s.data.toList.drop j):bs (wd (s.data.toList.drop k))=s.extract k j:=by
 rw [wd_take hk hj h,bs_extract]
theorem drop_inj {s:ByteArray} {k j:Nat} (hk:k<=s.size) (hj:j<=s.size) (h:s.data.toList.drop k=s.data.toList.drop j):k=j:=by
 have:=congrArg List.length h
 simp only [List.length_drop] at this
 have e2:s.data.toList.length=s.size:=rfl
 omega
theorem drop_len (s:ByteArray) (k:Nat):(s.data.toList.drop k).length=s.size-k:=by rw [List.length_drop];rfl
theorem bs_list (s:ByteArray):bs s.data.toList=s:=rfl
end Prsp
namespace PartN
open Tabs (at8 regs pairs conds alus turns decs hex8)
def bits:List ByteArray:=[⟨#[]⟩,⟨#[98,105,116]⟩,⟨#[114,101,115]⟩,⟨#[115,101,116]⟩]
def stacks:List ByteArray:=[⟨#[98,99]⟩,⟨#[100,101]⟩,⟨#[104,108]⟩,⟨#[97,102]⟩]
def places:List ByteArray:=[⟨#[91,98,99,93]⟩,⟨#[91,100,101,93]⟩,⟨#[91,104,108,43,93]⟩,⟨#[91,104,108,45,93]⟩]
def Row (w:World) (g:Nat) (l:List ByteArray):Prop:=∀ i,i<l.length->w.cell? ⟨g,i,none⟩=some (.string (l.getD i ⟨#[]⟩))
structure Tables (w:World):Prop where
 alu:Row w 0 alus
 bit:Row w 1 bits
 cond:Row w 2 conds
 place:Row w 3 places
 pair:Row w 4 pairs
 stack:Row w 5 stacks
 reg:Row w 6 regs
 turn:Row w 7 turns
 hex:Nums.Tab w
theorem Row.at {w:World} {g:Nat} {l:List ByteArray} (h:Row w g l) {i:Int} (h0:0<=i) (h1:i.toNat<l.length):w.cell? ⟨g,i.toNat,none⟩=some (.string (at8 l i)):=h i.toNat h1
theorem Row.below {w w':World} {g:Nat} {l:List ByteArray} (h:Row w g l) (hl:0<l.length) (b:Below w.heap.size w w'):Row w' g l:=by
 have hlt:g<w.heap.size:=World.block_lt_of_cell? w ⟨g,0,none⟩ (h 0 hl)
 intro i hi
 rw [b.cell (p:=⟨g,i,none⟩) hlt]
 exact h i hi
theorem Tables.below {w w':World} (h:Tables w) (b:Below w.heap.size w w'):Tables w' :=
 ⟨h.alu.below (by decide) b,h.bit.below (by decide) b,h.cond.below (by decide) b,h.place.below (by decide) b,h.pair.below (by decide) b,h.stack.below (by decide) b,h.reg.below (by decide) b,h.turn.below (by decide) b,fun i hi=>by
  rw [b.cell (p:=⟨8,i,none⟩) (World.block_lt_of_cell? w ⟨8,i,none⟩ (h.hex i hi))]
  exact h.hex i hi⟩
def partS (l x y z p:Int):ByteArray :=
 if l=65 then at8 alus y else if l=66 then at8 bits x else if l=67 then at8 conds (y%4) else if l=72 then at8 hex8 y else if l=77 then at8 places p
 else if l=80 then at8 pairs p else if l=81 then at8 stacks p else if l=82 then at8 regs y else if l=83 then at8 regs z else if l=84 then at8 turns y else at8 decs y
theorem part_A (x y z p q:Int) (w:World) (hT:Tables w) (x0:0<=x) (x1:x<=3) (y0:0<=y) (y1:y<=7) (z0:0<=z) (z1:z<=7) (p0:0<=p) (p1:p<=3) :
  Calls prog 61 #[.int .u8 65,.agg #[.int .i64 x,.int .i64 y,.int .i64 z,.int .i64 p,.int .i64 q]] w fun e w'=>e=.returned (.string (at8 alus y))/\Below w.heap.size w w':=by
 have t:=hT.alu.at (i:=y) (by omega) (by show (y:Int).toNat<8;omega)
 have g0:0<w.heap.size:=World.block_lt_of_cell? w _ t
 have k0:0<=y:=by omega
 have k1:y<8:=by omega
 clear hT
 go_enter func61,ntmps61
 go_wp2
 go_ret
 exact ⟨rfl,zAl _ _⟩
theorem part_B (x y z p q:Int) (w:World) (hT:Tables w) (x0:0<=x) (x1:x<=3) (y0:0<=y) (y1:y<=7) (z0:0<=z) (z1:z<=7) (p0:0<=p) (p1:p<=3) :
  Calls prog 61 #[.int .u8 66,.agg #[.int .i64 x,.int .i64 y,.int .i64 z,.int .i64 p,.int .i64 q]] w fun e w'=>e=.returned (.string (at8 bits x))/\Below w.heap.size w w':=by
 have t:=hT.bit.at (i:=x) (by omega) (by show (x:Int).toNat<4;omega)
 have g0:1<w.heap.size:=World.block_lt_of_cell? w _ t
 have k0:0<=x:=by omega
 have k1:x<4:=by omega
 clear hT
 go_enter func61,ntmps61
 go_wp2
 go_ret
 exact ⟨rfl,zAl _ _⟩
theorem part_C (x y z p q:Int) (w:World) (hT:Tables w) (x0:0<=x) (x1:x<=3) (y0:0<=y) (y1:y<=7) (z0:0<=z) (z1:z<=7) (p0:0<=p) (p1:p<=3) :
  Calls prog 61 #[.int .u8 67,.agg #[.int .i64 x,.int .i64 y,.int .i64 z,.int .i64 p,.int .i64 q]] w fun e w'=>e=.returned (.string (at8 conds (y%4)))/\Below w.heap.size w w':=by
 have t:=hT.cond.at (i:=(y%4)) (by omega) (by show ((y%4):Int).toNat<4;omega)
 have g0:2<w.heap.size:=World.block_lt_of_cell? w _ t
 have k0:0<=(y%4):=by omega
 have k1:(y%4)<4:=by omega
 clear hT
 go_enter func61,ntmps61
 go_wp2
 go_ret
 exact ⟨rfl,zAl _ _⟩
theorem part_M (x y z p q:Int) (w:World) (hT:Tables w) (x0:0<=x) (x1:x<=3) (y0:0<=y) (y1:y<=7) (z0:0<=z) (z1:z<=7) (p0:0<=p) (p1:p<=3) :
  Calls prog 61 #[.int .u8 77,.agg #[.int .i64 x,.int .i64 y,.int .i64 z,.int .i64 p,.int .i64 q]] w fun e w'=>e=.returned (.string (at8 places p))/\Below w.heap.size w w':=by
 have t:=hT.place.at (i:=p) (by omega) (by show (p:Int).toNat<4;omega)
 have g0:3<w.heap.size:=World.block_lt_of_cell? w _ t
 have k0:0<=p:=by omega
 have k1:p<4:=by omega
 clear hT
 go_enter func61,ntmps61
 go_wp2
 go_ret
 exact ⟨rfl,zAl _ _⟩
theorem part_P (x y z p q:Int) (w:World) (hT:Tables w) (x0:0<=x) (x1:x<=3) (y0:0<=y) (y1:y<=7) (z0:0<=z) (z1:z<=7) (p0:0<=p) (p1:p<=3) :
  Calls prog 61 #[.int .u8 80,.agg #[.int .i64 x,.int .i64 y,.int .i64 z,.int .i64 p,.int .i64 q]] w fun e w'=>e=.returned (.string (at8 pairs p))/\Below w.heap.size w w':=by
 have t:=hT.pair.at (i:=p) (by omega) (by show (p:Int).toNat<4;omega)
 have g0:4<w.heap.size:=World.block_lt_of_cell? w _ t
 have k0:0<=p:=by omega
 have k1:p<4:=by omega
 clear hT
 go_enter func61,ntmps61
 go_wp2
 go_ret
 exact ⟨rfl,zAl _ _⟩
theorem part_Q (x y z p q:Int) (w:World) (hT:Tables w) (x0:0<=x) (x1:x<=3) (y0:0<=y) (y1:y<=7) (z0:0<=z) (z1:z<=7) (p0:0<=p) (p1:p<=3) :
  Calls prog 61 #[.int .u8 81,.agg #[.int .i64 x,.int .i64 y,.int .i64 z,.int .i64 p,.int .i64 q]] w fun e w'=>e=.returned (.string (at8 stacks p))/\Below w.heap.size w w':=by
 have t:=hT.stack.at (i:=p) (by omega) (by show (p:Int).toNat<4;omega)
 have g0:5<w.heap.size:=World.block_lt_of_cell? w _ t
 have k0:0<=p:=by omega
 have k1:p<4:=by omega
 clear hT
 go_enter func61,ntmps61
 go_wp2
 go_ret
 exact ⟨rfl,zAl _ _⟩
theorem part_R (x y z p q:Int) (w:World) (hT:Tables w) (x0:0<=x) (x1:x<=3) (y0:0<=y) (y1:y<=7) (z0:0<=z) (z1:z<=7) (p0:0<=p) (p1:p<=3) :
  Calls prog 61 #[.int .u8 82,.agg #[.int .i64 x,.int .i64 y,.int .i64 z,.int .i64 p,.int .i64 q]] w fun e w'=>e=.returned (.string (at8 regs y))/\Below w.heap.size w w':=by
 have t:=hT.reg.at (i:=y) (by omega) (by show (y:Int).toNat<8;omega)
 have g0:6<w.heap.size:=World.block_lt_of_cell? w _ t
 have k0:0<=y:=by omega
 have k1:y<8:=by omega
 clear hT
 go_enter func61,ntmps61
 go_wp2
 go_ret
 exact ⟨rfl,zAl _ _⟩
theorem part_S (x y z p q:Int) (w:World) (hT:Tables w) (x0:0<=x) (x1:x<=3) (y0:0<=y) (y1:y<=7) (z0:0<=z) (z1:z<=7) (p0:0<=p) (p1:p<=3) :
  Calls prog 61 #[.int .u8 83,.agg #[.int .i64 x,.int .i64 y,.int .i64 z,.int .i64 p,.int .i64 q]] w fun e w'=>e=.returned (.string (at8 regs z))/\Below w.heap.size w w':=by
 have t:=hT.reg.at (i:=z) (by omega) (by show (z:Int).toNat<8;omega)
 have g0:6<w.heap.size:=World.block_lt_of_cell? w _ t
 have k0:0<=z:=by omega
 have k1:z<8:=by omega
 clear hT
 go_enter func61,ntmps61
 go_wp2
 go_ret
 exact ⟨rfl,zAl _ _⟩
theorem part_T (x y z p q:Int) (w:World) (hT:Tables w) (x0:0<=x) (x1:x<=3) (y0:0<=y) (y1:y<=7) (z0:0<=z) (z1:z<=7) (p0:0<=p) (p1:p<=3) :
  Calls prog 61 #[.int .u8 84,.agg #[.int .i64 x,.int .i64 y,.int .i64 z,.int .i64 p,.int .i64 q]] w fun e w'=>e=.returned (.string (at8 turns y))/\Below w.heap.size w w':=by
 have t:=hT.turn.at (i:=y) (by omega) (by show (y:Int).toNat<8;omega)
 have g0:7<w.heap.size:=World.block_lt_of_cell? w _ t
 have k0:0<=y:=by omega
 have k1:y<8:=by omega
 clear hT
 go_enter func61,ntmps61
 go_wp2
 go_ret
 exact ⟨rfl,zAl _ _⟩
theorem hex_all:∀ y:Fin 8,Hex.hexS (8*(y.val:Int)) 2=at8 hex8 (y.val:Int):=by decide +kernel
theorem hex_at {y:Int} (y0:0<=y) (y1:y<=7):Hex.hexS (8*y) 2=at8 hex8 y:=by
 have:=hex_all ⟨y.toNat,by omega⟩
 rwa [show ((⟨y.toNat,by omega⟩ : Fin 8).val:Int)=y by show ((y.toNat:Nat):Int)=y;omega] at this
theorem dec_all:∀ y:Fin 8,(⟨(Lib.decDigits y.val).toArray⟩ : ByteArray)=at8 decs (y.val:Int):=by decide +kernel
theorem dec_at {y:Int} (y0:0<=y) (y1:y<=7):(⟨(Lib.decDigits y.toNat).toArray⟩ : ByteArray)=at8 decs y:=by
 have:=dec_all ⟨y.toNat,by omega⟩
 rwa [show ((⟨y.toNat,by omega⟩ : Fin 8).val:Int)=y by show ((y.toNat:Nat):Int)=y;omega] at this
theorem part_H (x y z p q:Int) (w:World) (hT:Tables w) (x0:0<=x) (x1:x<=3) (y0:0<=y) (y1:y<=7) (z0:0<=z) (z1:z<=7) (p0:0<=p) (p1:p<=3) :
  Calls prog 61 #[.int .u8 72,.agg #[.int .i64 x,.int .i64 y,.int .i64 z,.int .i64 p,.int .i64 q]] w fun e w'=>e=.returned (.string (at8 hex8 y))/\Below w.heap.size w w':=by
 have c:=fun w hT=>Hex.implHex_any (8*y) 2 w hT
 rw [hex_at y0 y1] at c
 have HT:Hid (Tables w):=hT
 have hk:wrap64 (8*y)=8*y:=by unfold wrap64;omega
 clear hT
 go_enter func61,ntmps61
 go_wp2_with fail
 refine (c _ (HT.out.below (zAl _ _)).hex).mono ?_
 rintro e w1 ⟨rfl,b1⟩
 have B1:Hid (Below _ _ w1):=b1
 clear b1
 go_wp2
 go_ret
 exact ⟨rfl,(zAl _ _).trans (B1.out.mono (by simp))⟩
theorem part_Y (x y z p q:Int) (w:World) (hT:Tables w) (x0:0<=x) (x1:x<=3) (y0:0<=y) (y1:y<=7) (z0:0<=z) (z1:z<=7) (p0:0<=p) (p1:p<=3) :
  Calls prog 61 #[.int .u8 89,.agg #[.int .i64 x,.int .i64 y,.int .i64 z,.int .i64 p,.int .i64 q]] w fun e w'=>e=.returned (.string (at8 decs y))/\Below w.heap.size w w':=by
 have c:=fun w=>Tryz.strconv_FormatInt_10_small y.toNat (by omega) w
 rw [dec_at y0 y1,show ((y.toNat:Nat):Int)=y by omega] at c
 clear hT
 go_enter func61,ntmps61
 go_wp2_with fail
 refine (c _).mono ?_
 rintro e w1 ⟨rfl,rfl⟩
 go_wp2
 go_ret
 exact ⟨rfl,zAl _ _⟩
def letters:List Int:=[65,66,67,72,77,80,81,82,83,84,89]
theorem part_any (l x y z p q:Int) (w:World) (hT:Tables w) (x0:0<=x) (x1:x<=3) (y0:0<=y) (y1:y<=7) (z0:0<=z) (z1:z<=7) (p0:0<=p) (p1:p<=3) (hl:l ∈ letters) :
  Calls prog 61 #[.int .u8 l,.agg #[.int .i64 x,.int .i64 y,.int .i64 z,.int .i64 p,.int .i64 q]] w fun e w'=>e=.returned (.string (partS l x y z p))/\Below w.heap.size w w':=by
 simp only [letters,List.mem_cons,List.mem_nil_iff,or_false] at hl
 rcases hl with rfl|rfl|rfl|rfl|rfl|rfl|rfl|rfl|rfl|rfl|rfl
 ·exact part_A x y z p q w hT x0 x1 y0 y1 z0 z1 p0 p1
 ·exact part_B x y z p q w hT x0 x1 y0 y1 z0 z1 p0 p1
 ·exact part_C x y z p q w hT x0 x1 y0 y1 z0 z1 p0 p1
 ·exact part_H x y z p q w hT x0 x1 y0 y1 z0 z1 p0 p1
 ·exact part_M x y z p q w hT x0 x1 y0 y1 z0 z1 p0 p1
 ·exact part_P x y z p q w hT x0 x1 y0 y1 z0 z1 p0 p1
 ·exact part_Q x y z p q w hT x0 x1 y0 y1 z0 z1 p0 p1
 ·exact part_R x y z p q w hT x0 x1 y0 y1 z0 z1 p0 p1
 ·exact part_S x y z p q w hT x0 x1 y0 y1 z0 z1 p0 p1
 ·exact part_T x y z p q w hT x0 x1 y0 y1 z0 z1 p0 p1
 ·exact part_Y x y z p q w hT x0 x1 y0 y1 z0 z1 p0 p1
end PartN
end Go.Proofs.YtbofcepdckpkkaaGreatDoor
