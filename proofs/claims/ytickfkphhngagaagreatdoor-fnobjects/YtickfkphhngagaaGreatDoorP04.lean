import Derived.Test.YtickfkphhngagaaGreatDoorP02
import Derived.Maps.AppendAt
import Derived.Laws.Strings2
import Derived.WalkMore
import Derived.ScopeJumps
import Derived.Laws.Strings3
set_option linter.all false
set_option maxRecDepth 20000
set_option maxHeartbeats 8000000
open Go.ChangeShapes Go.WideShapes Go.ChangeAt Go.RowKit
open Go.Proofs.Tryz
namespace Go.Proofs.YtickfkphhngagaaGreatDoor
namespace Steps
open Names (nameB)
def inB (n low high:Int):Bool:=decide (low<=n/\n<=high)
theorem isWord_any (n:Int) (w:World) :
  Calls prog 140 #[.int .i64 n] w fun e w'=>e=.returned (.bool (inB n 0 65535))/\w'=w:=by
 go_enter func140,ntmps140
 go_wp2
 all_goals go_ret
 all_goals exact ⟨Names.ret_bool (by rw [Bool.eq_iff_iff];simp [inB];try omega),rfl⟩
def nodeB (k n:Int) (s:ByteArray):Bool :=
 if k=1 then inB n 0 65535 && s.toList.isEmpty
 else if k=2 \/ k=3 then n == 0 && nameB s
 else if 4<=k/\k<=17 then n == 0 && s.toList.isEmpty
 else false
def stepV (k n:Int) (s:ByteArray):Value :=
 if k=1 then .iface 141 (.agg #[.int .i64 n])
 else if k=2 then .iface 143 (.agg #[.string s])
 else if k=3 then .iface 144 (.agg #[.string s])
 else if 4<=k/\k<=7 then .iface 146 (.agg #[.int .i64 k])
 else if 8<=k/\k<=17 then .iface 148 (.agg #[.int .i64 k])
 else .nilIface
theorem step1 (n:Int) (s:ByteArray) (w:World) (b:Bool) (hb:inB n 0 65535=b) :
  Calls prog 112 #[.agg #[.int .i64 1,.int .i64 n,.string s]] w fun e w'=>e=.returned (.tuple #[.iface 141 (.agg #[.int .i64 n]),.bool (b && s.toList.isEmpty)])/\Below w.heap.size w w':=by
 have c:=fun w=>isWord_any n w
 rw [hb] at c
 clear hb
 cases b with
 | true =>
  go_enter func112,ntmps112
  go_wp2
  go_quiet ((go_at_call 140;exact Calls.quiet_of_same (c _)))
  go_wp2
  go_ret2
  exact ⟨rfl,below_drewN (zAl _ _) _⟩
 | false =>
  go_enter func112,ntmps112
  go_wp2
  go_quiet ((go_at_call 140;exact Calls.quiet_of_same (c _)))
  go_wp2
  go_ret2
  exact ⟨rfl,below_drewN (zAl _ _) _⟩
theorem step2 (n:Int) (s:ByteArray) (w:World) (hs:s.size<=maxLen) (b:Bool) (hb:(n == 0)=b) :
  Calls prog 112 #[.agg #[.int .i64 2,.int .i64 n,.string s]] w fun e w'=>e=.returned (.tuple #[.iface 143 (.agg #[.string s]),.bool (b && nameB s)])/\Below w.heap.size w w':=by
 have c:=fun w=>Names.implName_any s w hs
 clear hs
 cases b with
 | true =>
  go_enter func112,ntmps112
  go_wp2
  go_quiet ((go_at_call 89;exact Calls.quiet_of_same (c _)))
  go_wp2
  go_ret2
  exact ⟨rfl,below_drewN (zAl _ _) _⟩
 | false =>
  go_enter func112,ntmps112
  go_wp2
  go_quiet ((go_at_call 89;exact Calls.quiet_of_same (c _)))
  go_wp2
  go_ret2
  exact ⟨rfl,below_drewN (zAl _ _) _⟩
theorem step3 (n:Int) (s:ByteArray) (w:World) (hs:s.size<=maxLen) (b:Bool) (hb:(n == 0)=b) :
  Calls prog 112 #[.agg #[.int .i64 3,.int .i64 n,.string s]] w fun e w'=>e=.returned (.tuple #[.iface 144 (.agg #[.string s]),.bool (b && nameB s)])/\Below w.heap.size w w':=by
 have c:=fun w=>Names.implName_any s w hs
 clear hs
 cases b with
 | true =>
  go_enter func112,ntmps112
  go_wp2
  go_quiet ((go_at_call 89;exact Calls.quiet_of_same (c _)))
  go_wp2
  go_ret2
  exact ⟨rfl,below_drewN (zAl _ _) _⟩
 | false =>
  go_enter func112,ntmps112
  go_wp2
  go_quiet ((go_at_call 89;exact Calls.quiet_of_same (c _)))
  go_wp2
  go_ret2
  exact ⟨rfl,below_drewN (zAl _ _) _⟩
theorem stepOne (k n:Int) (s:ByteArray) (w:World) (k0:4<=k) (k1:k<=7) (b:Bool) (hb:(n == 0)=b) :
  Calls prog 112 #[.agg #[.int .i64 k,.int .i64 n,.string s]] w fun e w'=>e=.returned (.tuple #[.iface 146 (.agg #[.int .i64 k]),.bool (b && s.toList.isEmpty)])/\Below w.heap.size w w':=by
 have e1:(k == 1)=false:=by simp;omega
 have e2:(k == 2)=false:=by simp;omega
 have e3:(k == 3)=false:=by simp;omega
 have d7:decide (k<=7)=true:=by simp;omega
 have d17:decide (k<=17)=true:=by simp;omega
 cases b with
 | true =>
  go_enter func112,ntmps112
  go_wp2
  go_quiet (fail)
  go_wp2
  go_ret2
  exact ⟨rfl,below_drewN (zAl _ _) _⟩
 | false =>
  go_enter func112,ntmps112
  go_wp2
  go_quiet (fail)
  go_wp2
  go_ret2
  exact ⟨rfl,below_drewN (zAl _ _) _⟩
theorem stepTwo (k n:Int) (s:ByteArray) (w:World) (k0:8<=k) (k1:k<=17) (b:Bool) (hb:(n == 0)=b) :
  Calls prog 112 #[.agg #[.int .i64 k,.int .i64 n,.string s]] w fun e w'=>e=.returned (.tuple #[.iface 148 (.agg #[.int .i64 k]),.bool (b && s.toList.isEmpty)])/\Below w.heap.size w w':=by
 have e1:(k == 1)=false:=by simp;omega
 have e2:(k == 2)=false:=by simp;omega
 have e3:(k == 3)=false:=by simp;omega
 have d7:decide (k<=7)=false:=by simp;omega
 have d17:decide (k<=17)=true:=by simp;omega
 cases b with
 | true =>
  go_enter func112,ntmps112
  go_wp2
  go_quiet (fail)
  go_wp2
  go_ret2
  exact ⟨rfl,below_drewN (zAl _ _) _⟩
 | false =>
  go_enter func112,ntmps112
  go_wp2
  go_quiet (fail)
  go_wp2
  go_ret2
  exact ⟨rfl,below_drewN (zAl _ _) _⟩
theorem stepNone (k n:Int) (s:ByteArray) (w:World) (hk:k<1 \/ 17<k) :
  Calls prog 112 #[.agg #[.int .i64 k,.int .i64 n,.string s]] w fun e w'=>e=.returned (.tuple #[.nilIface,.bool false])/\Below w.heap.size w w':=by
 have e1:(k == 1)=false:=by simp;omega
 have e2:(k == 2)=false:=by simp;omega
 have e3:(k == 3)=false:=by simp;omega
 rcases hk with hk|hk
 ·go_enter func112,ntmps112
  go_wp2
  go_ret2
  exact ⟨rfl,zAl _ _⟩
 ·have d7:decide (k<=7)=false:=by simp;omega
  have d17:decide (k<=17)=false:=by simp;omega
  go_enter func112,ntmps112
  go_wp2
  go_ret2
  exact ⟨rfl,zAl _ _⟩
theorem stepOf_any (k n:Int) (s:ByteArray) (w:World) (hs:s.size<=maxLen) :
  Calls prog 112 #[.agg #[.int .i64 k,.int .i64 n,.string s]] w fun e w'=>e=.returned (.tuple #[stepV k n s,.bool (nodeB k n s)])/\Below w.heap.size w w':=by
 unfold stepV nodeB
 by_cases h1:k=1
 ·subst h1
  rw [if_pos rfl,if_pos rfl]
  exact step1 n s w _ rfl
 rw [if_neg h1,if_neg h1]
 by_cases h2:k=2
 ·subst h2
  rw [if_pos rfl,if_pos (.inl rfl)]
  exact step2 n s w hs _ rfl
 rw [if_neg h2]
 by_cases h3:k=3
 ·subst h3
  rw [if_pos rfl,if_pos (.inr rfl)]
  exact step3 n s w hs _ rfl
 rw [if_neg h3,if_neg (show ¬ (k=2 \/ k=3) by omega)]
 by_cases h4:4<=k/\k<=7
 ·rw [if_pos h4,if_pos (show 4<=k/\k<=17 by omega)]
  exact stepOne k n s w h4.1 h4.2 _ rfl
 rw [if_neg h4]
 by_cases h5:8<=k/\k<=17
 ·rw [if_pos h5,if_pos (show 4<=k/\k<=17 by omega)]
  exact stepTwo k n s w h5.1 h5.2 _ rfl
 rw [if_neg h5,if_neg (show ¬ (4<=k/\k<=17) by omega)]
 exact stepNone k n s w (by omega)
end Steps
namespace Hex
open Nums (tab Tab)
def inB (n low high:Int):Bool:=decide (low<=n/\n<=high)
theorem ret_bool {a b:Bool} (h:a=b):Ending.returned (.bool a)=.returned (.bool b):=by rw [h]
theorem isWord_any (n:Int) (w:World) :
  Calls prog 140 #[.int .i64 n] w fun e w'=>e=.returned (.bool (inB n 0 65535))/\w'=w:=by
 go_enter func140,ntmps140
 go_wp2
 all_goals go_ret
 all_goals exact ⟨ret_bool (by rw [Bool.eq_iff_iff];simp [inB];try omega),rfl⟩
theorem l1In_any (n low high:Int) (w:World) :
  Calls prog 49 #[.int .i64 n,.int .i64 low,.int .i64 high] w fun e w'=>e=.returned (.bool (inB n low high))/\w'=w:=by
 go_enter func49,ntmps49
 go_wp2
 all_goals go_ret
 all_goals exact ⟨ret_bool (by rw [Bool.eq_iff_iff];simp [inB];try omega),rfl⟩
theorem size_pos {w:World} (hT:Tab w):0<w.heap.size:=by
 have h:=hT 0 (by decide)
 rcases Nat.lt_or_ge 0 w.heap.size with a|a
 ·exact a
 ·rw [World.cell?,Array.getElem?_eq_none a] at h;cases h
def digs (n:Int):Nat->List Int
 | 0=>[]
 | k+1=>digs (n / 16) k ++ [tab.getD (n%16).toNat 0]
abbrev hexs:ByteArray:=⟨#[48,49,50,51,52,53,54,55,56,57,65,66,67,68,69,70]⟩
def one (m:Int):ByteArray:=strOfNums [tab.getD m.toNat 0]
theorem one_size (m:Int):(one m).size=1:=by unfold one;rw [strOfNums_size];rfl
theorem slice_nat (u:World):∀ k:Nat,k<16->(Instr.slice 9 (.string hexs) (some (.int .i64 (k:Int))) (some (.int .i64 ((k:Int)+1))) none).run prog u=.ok (.string (one (k:Int))) u
 | 0,_=>by kernel_rfl
 | 1,_=>by kernel_rfl
 | 2,_=>by kernel_rfl
 | 3,_=>by kernel_rfl
 | 4,_=>by kernel_rfl
 | 5,_=>by kernel_rfl
 | 6,_=>by kernel_rfl
 | 7,_=>by kernel_rfl
 | 8,_=>by kernel_rfl
 | 9,_=>by kernel_rfl
 | 10,_=>by kernel_rfl
 | 11,_=>by kernel_rfl
 | 12,_=>by kernel_rfl
 | 13,_=>by kernel_rfl
 | 14,_=>by kernel_rfl
 | 15,_=>by kernel_rfl
 | k+16,h=>absurd h (by omega)
theorem slice_one (m:Int) (h0:0<=m) (h1:m<16) (u:World):(Instr.slice 9 (.string hexs) (some (.int .i64 m)) (some (.int .i64 (m+1))) none).run prog u=.ok (.string (one m)) u:=by
 obtain ⟨k,rfl⟩:=Int.eq_ofNat_of_zero_le h0
 exact slice_nat u k (by omega)
theorem str_append (a b:List Int):strOfNums a ++ strOfNums b=strOfNums (a ++ b):=by
 apply ByteArray.ext
 rw [ByteArray.data_append]
 simp [strOfNums]
theorem nil_str:(⟨#[]⟩ : ByteArray)=strOfNums []:=rfl
theorem dollar_str:(⟨#[36]⟩ : ByteArray)=strOfNums [36]:=rfl
def pw (d:Int):Int:=16 ^ d.toNat
def hexS (n d:Int):ByteArray:=if 1<=d/\d<=4/\0<=n/\n<=65535/\n / pw d=0 then strOfNums (36 :: digs n d.toNat) else ⟨#[]⟩
theorem hexS_no {n d:Int} (h:¬ (1<=d/\d<=4/\0<=n/\n<=65535/\n / pw d=0)):hexS n d=⟨#[]⟩:=if_neg h
theorem hexS_yes {n d:Int} (h:1<=d/\d<=4/\0<=n/\n<=65535/\n / pw d=0):hexS n d=strOfNums (36 :: digs n d.toNat):=if_pos h
theorem ret_str {a b:ByteArray} (h:a=b):Ending.returned (.string a)=.returned (.string b):=by rw [h]
set_option maxRecDepth 100000 in
theorem spec1y (n:Int) (w:World) (h0:0<=n) (h1:n<=65535) (hq:n / 16=0) :
  Calls prog 117 #[.int .i64 n,.int .i64 1] w fun e w'=>e=.returned (.string (strOfNums (36 :: digs n 1)))/\w'=w:=by
 have hb:¬ 0<n / 16:=by omega
 clear hq
 have hi:inB n 0 65535=true:=decide_eq_true ⟨h0,h1⟩
 have hd:inB 1 1 4=true:=rfl
 have s0:=slice_one (n%16) (by omega) (by omega)
 have z0:(one (n%16)).size=1:=one_size _
 go_enter func117,ntmps117
 go_wp2_with (go_at_call 49;refine (l1In_any _ _ _ _).mono ?_;rintro e w' ⟨rfl,rfl⟩)
 refine wp_loop_rounds 2 ?_
 rw [rounds_succ]
 go_wp2
 rw [rounds_succ]
 go_wp2
 go_ret
 exact ⟨ret_str (by rw [nil_str,dollar_str];simp only [one,str_append,digs,List.nil_append,List.cons_append]),rfl⟩
set_option maxRecDepth 100000 in
theorem spec1n (n:Int) (w:World) (h0:0<=n) (h1:n<=65535) (hq:¬ n / 16=0) :
  Calls prog 117 #[.int .i64 n,.int .i64 1] w fun e w'=>e=.returned (.string (⟨#[]⟩))/\w'=w:=by
 have hb:0<n / 16:=by omega
 clear hq
 have hi:inB n 0 65535=true:=decide_eq_true ⟨h0,h1⟩
 have hd:inB 1 1 4=true:=rfl
 have s0:=slice_one (n%16) (by omega) (by omega)
 have z0:(one (n%16)).size=1:=one_size _
 go_enter func117,ntmps117
 go_wp2_with (go_at_call 49;refine (l1In_any _ _ _ _).mono ?_;rintro e w' ⟨rfl,rfl⟩)
 refine wp_loop_rounds 2 ?_
 rw [rounds_succ]
 go_wp2
 rw [rounds_succ]
 go_wp2
 go_ret
 exact ⟨rfl,rfl⟩
set_option maxRecDepth 100000 in
theorem spec2y (n:Int) (w:World) (h0:0<=n) (h1:n<=65535) (hq:n / 16 / 16=0) :
  Calls prog 117 #[.int .i64 n,.int .i64 2] w fun e w'=>e=.returned (.string (strOfNums (36 :: digs n 2)))/\w'=w:=by
 have hb:¬ 0<n / 16 / 16:=by omega
 clear hq
 have hi:inB n 0 65535=true:=decide_eq_true ⟨h0,h1⟩
 have hd:inB 2 1 4=true:=rfl
 have s0:=slice_one (n%16) (by omega) (by omega)
 have z0:(one (n%16)).size=1:=one_size _
 have s1:=slice_one (n / 16%16) (by omega) (by omega)
 have z1:(one (n / 16%16)).size=1:=one_size _
 go_enter func117,ntmps117
 go_wp2_with (go_at_call 49;refine (l1In_any _ _ _ _).mono ?_;rintro e w' ⟨rfl,rfl⟩)
 refine wp_loop_rounds 3 ?_
 rw [rounds_succ]
 go_wp2
 rw [rounds_succ]
 go_wp2
 rw [rounds_succ]
 go_wp2
 go_ret
 exact ⟨ret_str (by rw [nil_str,dollar_str];simp only [one,str_append,digs,List.nil_append,List.cons_append]),rfl⟩
set_option maxRecDepth 100000 in
theorem spec2n (n:Int) (w:World) (h0:0<=n) (h1:n<=65535) (hq:¬ n / 16 / 16=0) :
  Calls prog 117 #[.int .i64 n,.int .i64 2] w fun e w'=>e=.returned (.string (⟨#[]⟩))/\w'=w:=by
 have hb:0<n / 16 / 16:=by omega
 clear hq
 have hi:inB n 0 65535=true:=decide_eq_true ⟨h0,h1⟩
 have hd:inB 2 1 4=true:=rfl
 have s0:=slice_one (n%16) (by omega) (by omega)
 have z0:(one (n%16)).size=1:=one_size _
 have s1:=slice_one (n / 16%16) (by omega) (by omega)
 have z1:(one (n / 16%16)).size=1:=one_size _
 go_enter func117,ntmps117
 go_wp2_with (go_at_call 49;refine (l1In_any _ _ _ _).mono ?_;rintro e w' ⟨rfl,rfl⟩)
 refine wp_loop_rounds 3 ?_
 rw [rounds_succ]
 go_wp2
 rw [rounds_succ]
 go_wp2
 rw [rounds_succ]
 go_wp2
 go_ret
 exact ⟨rfl,rfl⟩
set_option maxRecDepth 100000 in
theorem spec3y (n:Int) (w:World) (h0:0<=n) (h1:n<=65535) (hq:n / 16 / 16 / 16=0) :
  Calls prog 117 #[.int .i64 n,.int .i64 3] w fun e w'=>e=.returned (.string (strOfNums (36 :: digs n 3)))/\w'=w:=by
 have hb:¬ 0<n / 16 / 16 / 16:=by omega
 clear hq
 have hi:inB n 0 65535=true:=decide_eq_true ⟨h0,h1⟩
 have hd:inB 3 1 4=true:=rfl
 have s0:=slice_one (n%16) (by omega) (by omega)
 have z0:(one (n%16)).size=1:=one_size _
 have s1:=slice_one (n / 16%16) (by omega) (by omega)
 have z1:(one (n / 16%16)).size=1:=one_size _
 have s2:=slice_one (n / 16 / 16%16) (by omega) (by omega)
 have z2:(one (n / 16 / 16%16)).size=1:=one_size _
 go_enter func117,ntmps117
 go_wp2_with (go_at_call 49;refine (l1In_any _ _ _ _).mono ?_;rintro e w' ⟨rfl,rfl⟩)
 refine wp_loop_rounds 4 ?_
 rw [rounds_succ]
 go_wp2
 rw [rounds_succ]
 go_wp2
 rw [rounds_succ]
 go_wp2
 rw [rounds_succ]
 go_wp2
 go_ret
 exact ⟨ret_str (by rw [nil_str,dollar_str];simp only [one,str_append,digs,List.nil_append,List.cons_append]),rfl⟩
set_option maxRecDepth 100000 in
theorem spec3n (n:Int) (w:World) (h0:0<=n) (h1:n<=65535) (hq:¬ n / 16 / 16 / 16=0) :
  Calls prog 117 #[.int .i64 n,.int .i64 3] w fun e w'=>e=.returned (.string (⟨#[]⟩))/\w'=w:=by
 have hb:0<n / 16 / 16 / 16:=by omega
 clear hq
 have hi:inB n 0 65535=true:=decide_eq_true ⟨h0,h1⟩
 have hd:inB 3 1 4=true:=rfl
 have s0:=slice_one (n%16) (by omega) (by omega)
 have z0:(one (n%16)).size=1:=one_size _
 have s1:=slice_one (n / 16%16) (by omega) (by omega)
 have z1:(one (n / 16%16)).size=1:=one_size _
 have s2:=slice_one (n / 16 / 16%16) (by omega) (by omega)
 have z2:(one (n / 16 / 16%16)).size=1:=one_size _
 go_enter func117,ntmps117
 go_wp2_with (go_at_call 49;refine (l1In_any _ _ _ _).mono ?_;rintro e w' ⟨rfl,rfl⟩)
 refine wp_loop_rounds 4 ?_
 rw [rounds_succ]
 go_wp2
 rw [rounds_succ]
 go_wp2
 rw [rounds_succ]
 go_wp2
 rw [rounds_succ]
 go_wp2
 go_ret
 exact ⟨rfl,rfl⟩
set_option maxRecDepth 100000 in
theorem spec4y (n:Int) (w:World) (h0:0<=n) (h1:n<=65535) (hq:n / 16 / 16 / 16 / 16=0) :
  Calls prog 117 #[.int .i64 n,.int .i64 4] w fun e w'=>e=.returned (.string (strOfNums (36 :: digs n 4)))/\w'=w:=by
 have hb:¬ 0<n / 16 / 16 / 16 / 16:=by omega
 clear hq
 have hi:inB n 0 65535=true:=decide_eq_true ⟨h0,h1⟩
 have hd:inB 4 1 4=true:=rfl
 have s0:=slice_one (n%16) (by omega) (by omega)
 have z0:(one (n%16)).size=1:=one_size _
 have s1:=slice_one (n / 16%16) (by omega) (by omega)
 have z1:(one (n / 16%16)).size=1:=one_size _
 have s2:=slice_one (n / 16 / 16%16) (by omega) (by omega)
 have z2:(one (n / 16 / 16%16)).size=1:=one_size _
 have s3:=slice_one (n / 16 / 16 / 16%16) (by omega) (by omega)
 have z3:(one (n / 16 / 16 / 16%16)).size=1:=one_size _
 go_enter func117,ntmps117
 go_wp2_with (go_at_call 49;refine (l1In_any _ _ _ _).mono ?_;rintro e w' ⟨rfl,rfl⟩)
 refine wp_loop_rounds 5 ?_
 rw [rounds_succ]
 go_wp2
 rw [rounds_succ]
 go_wp2
 rw [rounds_succ]
 go_wp2
 rw [rounds_succ]
 go_wp2
 rw [rounds_succ]
 go_wp2
 go_ret
 exact ⟨ret_str (by rw [nil_str,dollar_str];simp only [one,str_append,digs,List.nil_append,List.cons_append]),rfl⟩
theorem spec4n (n:Int) (w:World) (_h0:0<=n) (_h1:n<=65535) (hq:¬ n / 16 / 16 / 16 / 16=0) :
  Calls prog 117 #[.int .i64 n,.int .i64 4] w fun e w'=>e=.returned (.string (⟨#[]⟩))/\w'=w:=absurd (by omega) hq
theorem specHex_any (n d:Int) (w:World) :
  Calls prog 117 #[.int .i64 n,.int .i64 d] w fun e w'=>e=.returned (.string (hexS n d))/\w'=w:=by
 by_cases hd:¬ (1<=d/\d<=4)
 ·rw [hexS_no (by omega)]
  have hi:inB d 1 4=false:=decide_eq_false hd
  clear hd
  go_enter func117,ntmps117
  go_wp2_with (go_at_call 49;refine (l1In_any _ _ _ _).mono ?_;rintro e w' ⟨rfl,rfl⟩)
  go_ret
  exact ⟨rfl,rfl⟩
 by_cases hn:0<=n/\n<=65535
 ·obtain ⟨h0,h1⟩:=hn
  have hdd:d=1 \/ d=2 \/ d=3 \/ d=4:=by omega
  rcases hdd with rfl|rfl|rfl|rfl
  ·have e:n / pw 1=n / 16:=by unfold pw;show n / (16 ^ 1)=_;omega
   by_cases hq:n / 16=0
   ·rw [hexS_yes ⟨by decide,by decide,h0,h1,by omega⟩]
    exact spec1y n w h0 h1 hq
   ·rw [hexS_no (fun h=>hq (by omega))]
    exact spec1n n w h0 h1 hq
  ·have e:n / pw 2=n / 16 / 16:=by unfold pw;show n / (16 ^ 2)=_;omega
   by_cases hq:n / 16 / 16=0
   ·rw [hexS_yes ⟨by decide,by decide,h0,h1,by omega⟩]
    exact spec2y n w h0 h1 hq
   ·rw [hexS_no (fun h=>hq (by omega))]
    exact spec2n n w h0 h1 hq
  ·have e:n / pw 3=n / 16 / 16 / 16:=by unfold pw;show n / (16 ^ 3)=_;omega
   by_cases hq:n / 16 / 16 / 16=0
   ·rw [hexS_yes ⟨by decide,by decide,h0,h1,by omega⟩]
    exact spec3y n w h0 h1 hq
   ·rw [hexS_no (fun h=>hq (by omega))]
    exact spec3n n w h0 h1 hq
  ·have e:n / pw 4=n / 16 / 16 / 16 / 16:=by unfold pw;show n / (16 ^ 4)=_;omega
   by_cases hq:n / 16 / 16 / 16 / 16=0
   ·rw [hexS_yes ⟨by decide,by decide,h0,h1,by omega⟩]
    exact spec4y n w h0 h1 hq
   ·rw [hexS_no (fun h=>hq (by omega))]
    exact spec4n n w h0 h1 hq
 ·rw [hexS_no (by omega)]
  have hi:inB n 0 65535=false:=decide_eq_false hn
  have hi':inB d 1 4=true:=decide_eq_true (Classical.not_not.1 hd)
  clear hn hd
  go_enter func117,ntmps117
  go_wp2_with (go_at_call 49;refine (l1In_any _ _ _ _).mono ?_;rintro e w' ⟨rfl,rfl⟩)
  go_ret
  exact ⟨rfl,rfl⟩
end Hex
namespace Fill
open Go.Deep
open Txts (Texts)
open Names (decB decimal_any ret_bool)
theorem infoB:(prog.info? 5).map (fun i=>(i.zero,i.size,i.bytes))=some (some (.int .u8 0),1,1):=by kernel_rfl
theorem ret_int {k:IntKind} {a b:Int} (h:a=b):Ending.returned (.int k a)=.returned (.int k b):=by rw [h]
def numAt (s:ByteArray) (k:Nat):Nat:=if h:k<s.size then s[k].toNat else 0
theorem numAt_of {s:ByteArray} {k:Nat} (h:k<s.size):numAt s k=s[k].toNat:=by unfold numAt;rw [dif_pos h]
theorem slice_one (s:ByteArray) (k:Nat) (h:k<s.size) (w:World):(Instr.slice 9 (.string s) (some (.int .i64 (k:Int))) (some (.int .i64 ((k:Int)+1))) none).run prog w=.ok (.string (s.extract k (k+1))) w:=by
 have:=run_slice_string (P:=prog) w 9 s .i64 .i64 (k:Int) ((k:Int)+1) underlying9 (by omega) (by omega) (by omega)
 rw [show ((k:Int)+1).toNat=k+1 by omega,Int.toNat_natCast] at this
 exact this
end Fill
namespace Cuts
open Go.Deep
open Txts (Texts)
open Fill (numAt numAt_of)
open Names (ret_bool empty_yes empty_no)
def cutI (s:ByteArray) (c:Int) (k:Nat):Nat:=if k<s.size then (if (numAt s k:Int)=c then k else cutI s c (k+1)) else s.size
termination_by s.size-k
decreasing_by omega
theorem cutI_end {s:ByteArray} {c:Int} {k:Nat} (h:¬ k<s.size):cutI s c k=s.size:=by rw [cutI,if_neg h]
theorem cutI_here {s:ByteArray} {c:Int} {k:Nat} (h:k<s.size) (hc:(s[k].toNat:Int)=c):cutI s c k=k:=by rw [cutI,if_pos h,if_pos (by rw [numAt_of h];exact hc)]
theorem cutI_next {s:ByteArray} {c:Int} {k:Nat} (h:k<s.size) (hc:¬ (s[k].toNat:Int)=c):cutI s c k=cutI s c (k+1):=by rw [cutI,if_pos h,if_neg (by rw [numAt_of h];exact hc)]
theorem cutI_le (s:ByteArray) (c:Int) (k:Nat):cutI s c k<=s.size:=by
 induction hn:s.size-k using Nat.strongRecOn generalizing k with
 | _ n ih =>
  rw [cutI]
  split
  ·split
   ·omega
   ·exact ih _ (by omega) _ rfl
  ·exact Nat.le_refl _
def cutF (s:ByteArray) (c:Int):Bool:=decide (cutI s c 0<s.size)
def cutA (s:ByteArray) (c:Int):ByteArray:=if cutF s c=true then s.extract 0 (cutI s c 0) else s
def cutB (s:ByteArray) (c:Int):ByteArray:=if cutF s c=true then s.extract (cutI s c 0+1) s.size else ⟨#[]⟩
theorem cutA_le (s:ByteArray) (c:Int):(cutA s c).size<=s.size:=by
 unfold cutA;split
 ·rw [ByteArray.size_extract];omega
 ·exact Nat.le_refl _
theorem cutB_lt {s:ByteArray} {c:Int} (h:cutF s c=true):(cutB s c).size<s.size:=by
 have:=of_decide_eq_true (show decide _=true from h)
 unfold cutB;rw [if_pos h,ByteArray.size_extract];omega
theorem cut_tuple {s:ByteArray} {c:Int} {k:Nat} (hlt:k<s.size) (h:cutI s c 0=k):(Value.tuple #[.string (s.extract 0 k),.string (s.extract (k+1) s.size),.bool true])=.tuple #[.string (cutA s c),.string (cutB s c),.bool (cutF s c)]:=by
 have hf:cutF s c=true:=decide_eq_true (by omega)
 unfold cutA cutB;rw [hf,if_pos rfl,if_pos rfl,h]
theorem cut_none {s:ByteArray} {c:Int} (h:cutI s c 0=s.size):(Value.tuple #[.string s,.string ⟨#[]⟩,.bool false])=.tuple #[.string (cutA s c),.string (cutB s c),.bool (cutF s c)]:=by
 have hf:cutF s c=false:=decide_eq_false (by omega)
 unfold cutA cutB;rw [hf];rfl
theorem slice_to (s:ByteArray) (k:Nat) (h:k<s.size) (w:World):(Instr.slice 9 (.string s) none (some (.int .i64 (k:Int))) none).run prog w=.ok (.string (s.extract 0 k)) w:=by
 have:=run_slice_string_h (P:=prog) (w:=w) (t:=9) (s:=s) underlying9 .i64 (k:Int) (by omega) (by omega)
 rw [Int.toNat_natCast] at this
 exact this
theorem slice_from (s:ByteArray) (k:Nat) (h:k<s.size) (w:World):(Instr.slice 9 (.string s) (some (.int .i64 ((k:Int)+1))) none none).run prog w=.ok (.string (s.extract (k+1) s.size)) w:=by
 have:=run_slice_string_l (P:=prog) (w:=w) (t:=9) (s:=s) underlying9 .i64 ((k:Int)+1) (by omega) (by omega)
 rw [show ((k:Int)+1).toNat=k+1 by omega] at this
 exact this
theorem ret3 {v u:Value} (h:v=u):Ending.returned v=.returned u:=by rw [h]
theorem l1Cut_any (s:ByteArray) (c:Int) (w:World) (hs:s.size<=1048576) :
  Calls prog 21 #[.string s,.int .u8 c] w fun e w'=>e=.returned (.tuple #[.string (cutA s c),.string (cutB s c),.bool (cutF s c)])/\∃ n,w'=w.drewN n:=by
 go_enter func21,ntmps21
 go_wp2
 go_loop [7] (fun i=>∃ (k:Nat),k<=s.size/\i=.int .i64 k/\Hid (cutI s c 0=cutI s c k)) (fun i=>s.size-(intOf i).toNat)
 case atStart=>exact ⟨0,Nat.zero_le _,rfl,rfl⟩
 case round =>
  obtain ⟨k,hk,rfl,hr⟩:=hrel
  by_cases hlt:k<s.size
  ·by_cases hc:(s[k].toNat:Int)=c
   ·have HT:=(show Hid _ from cut_tuple hlt (hr.out.trans (cutI_here hlt hc)))
    have s1:=slice_to s k hlt
    have s2:=slice_from s k hlt
    have k0:(0:Int)<=(k:Int):=by omega
    have k1:(k:Int)<=(s.size:Int):=by omega
    have k2:(0:Int)<=(k:Int)+1:=by omega
    have k3:(k:Int)+1<=(s.size:Int):=by omega
    have k4:IntKind.i64.wrap ((k:Int)+1)=(k:Int)+1:=by rw [IntKind.wrap_i64];omega
    have k5:((k:Int)+1).toNat=k+1:=by omega
    clear hr
    subst hc
    go_wp2_with fail
    go_quiet (fail)
    go_wp2
    go_ret3
    exact ⟨ret3 HT.out,_,rfl⟩
   ·have HR:Hid (cutI s c 0=cutI s c (k+1)):=hr.out.trans (cutI_next hlt hc)
    clear hr
    go_wp2
    go_round
    case rel=>exact ⟨k+1,by omega,by go_num,HR.out⟩
    case measure=>simp [intOf];omega
  ·have HT:=(show Hid _ from cut_none (hr.out.trans (cutI_end hlt)))
   clear hr
   go_wp2
   go_ret3
   exact ⟨ret3 HT.out,0,rfl⟩
end Cuts
namespace Rwor
open Go.Deep
open Txts (Texts infoS)
open Fill (numAt numAt_of)
open Names (ret_bool empty_yes empty_no)
open Cuts
theorem cutB_le (s:ByteArray) (c:Int):(cutB s c).size<=s.size:=by
 unfold cutB;split
 ·rw [ByteArray.size_extract];omega
 ·exact Nat.zero_le _
theorem cutA_all {s:ByteArray} {c:Int} (h:cutF s c=false):cutA s c=s:=by unfold cutA;rw [h];rfl
def wordsL:Nat->ByteArray->List ByteArray
 | 0,s=>[s]
 | r+1,s=>if 1<=r/\cutF s 32=true then cutA s 32 :: wordsL r (cutB s 32) else [s]
theorem words_succ (r:Nat) (s:ByteArray):wordsL (r+1) s=if 1<=r/\cutF s 32=true then cutA s 32 :: wordsL r (cutB s 32) else [s]:=rfl
theorem words_cut {r:Nat} {s:ByteArray} (h:1<=r) (D:List ByteArray):D ++ wordsL (r+1) s=(D ++ [cutA s 32]) ++ (if cutF s 32=true then wordsL r (cutB s 32) else []):=by
 rw [words_succ]
 cases hf:cutF s 32
 ·rw [if_neg (by simp),if_neg (by simp),cutA_all hf];simp
 ·rw [if_pos ⟨h,rfl⟩,if_pos rfl];simp
theorem words_last {s:ByteArray}:wordsL 1 s=[s]:=by rw [show (1:Nat)=0+1 from rfl,words_succ,if_neg (fun h=>absurd h.1 (by decide))]
theorem words_len (r:Nat):∀ s,(wordsL (r+1) s).length<=r+1:=by
 induction r with
 | zero=>intro s;rw [words_last];simp
 | succ r ih =>
  intro s
  rw [words_succ]
  split
  ·have:=ih (cutB s 32);simp only [List.length_cons];omega
  ·simp
theorem own_below {w w1:World} {base:Nat} {e:TypeId} {size:Nat} {v:Value} {n:Nat} {xs:List Value} (h:w.ownsRow base e size v n xs) (hb:Below w.heap.size w w1):w1.ownsRow base e size v n xs :=
 h.kept (row:=none) ⟨hb.os,hb.tape,hb.output,hb.size,fun k hk _=>hb.block k hk⟩ (by cases hv:Value.ownBlock v <;> simp)
def Owned (w w':World) (v:Value) (L:List ByteArray):Prop:=w'.ownsRow w.heap.size 9 1 v L.length (L.map Value.string)/\Below w.heap.size w w'
theorem own_snoc {w:World} {base n:Nat} {v:Value} {D:List ByteArray} {x:ByteArray} (h:w.ownsRow base 9 1 v (n+1) (D.map Value.string ++ [.string x])) (hn:n=D.length):w.ownsRow base 9 1 v (D ++ [x]).length ((D ++ [x]).map Value.string):=by
 rw [List.map_append,List.length_append];rw [hn] at h;exact h
theorem own_slice {w:World} {base n:Nat} {v:Value} {xs:List Value} (h:w.ownsRow base 9 1 v n xs):∃ po cap,v=.slice po n cap:=by
 rcases h.2 with ⟨hv,hn⟩|⟨g,cap,cur,hv,_⟩
 ·exact ⟨none,0,by rw [hv,hn]⟩
 ·exact ⟨_,_,hv⟩
def msr:Value->Value->Nat
 | .bool true,.string y=>y.size+1
 | _,_=>0
theorem specWords_any (M:Nat) (hM:M<100) (h1:1<=M) (s:ByteArray) (w:World) (hs:s.size<=1048576) :
  Calls prog 58 #[.string s,.int .i64 (M:Int)] w fun e w'=>∃ v,e=.returned v/\Owned w w' v (wordsL M s):=by
 obtain ⟨i0,hi,hz0,hz1,hz2⟩:=info_parts infoS
 have own0:Hid ((w.alloc (.cells #[] 9)).ownsRow w.heap.size 9 1 (.slice (some ⟨w.heap.size,0,none⟩) 0 0) 0 []):=World.ownsRow_lit w #[] 0 (Nat.le_refl _) (Nat.zero_le _) rfl
 have bel0:Hid (Below w.heap.size w (w.alloc (.cells #[] 9))):=zAl _ _
 obtain ⟨L,hL⟩ : ∃ L,L=wordsL M s:=⟨_,rfl⟩
 rw [<- hL]
 have HE:Hid (L=wordsL M s):=hL
 clear hL
 go_enter func58,ntmps58
 go_wp2
 go_loopw [0,5,6] (fun y v f wr=>∃ (D:List ByteArray) (y':ByteArray) (f':Bool) (r:Nat),y=.string y'/\f=.bool f'/\y'.size<=s.size/\D.length+r=M/\Hid (f'=true->1<=r)/\Hid (L=D ++ (if f'=true then wordsL r y' else []))/\Hid (wr.ownsRow w.heap.size 9 1 v D.length (D.map Value.string))/\Hid (Below w.heap.size w wr)) (fun y _ f _=>msr f y)
 case atStart=>exact ⟨[],s,true,M,rfl,rfl,Nat.le_refl _,by simp,fun _=>h1,HE.out,own0.out,bel0.out⟩
 case round =>
  obtain ⟨D,y,f,r,rfl,rfl,hy,hdr,hm,hr,hown,hbel⟩:=hrel
  clear HE own0 bel0
  cases f
  ·have HR:Hid (L=D):=(show L=D from by have:=hr.out;rw [if_neg (by decide),List.append_nil] at this;exact this)
   clear hr hm
   go_wp2
   go_ret
   exact ⟨_,rfl,by rw [HR.out];exact ⟨hown.out,hbel.out⟩⟩
  ·have hr1:=hm.out rfl
   obtain ⟨po,cap,rfl⟩:=own_slice hown.out
   have p1:IntKind.i64.wrap ((D.length:Int)+1)=(D.length:Int)+1:=by rw [IntKind.wrap_i64];omega
   by_cases hc:2<=r
   ·have HR:Hid (L=(D ++ [cutA y 32]) ++ (if cutF y 32=true then wordsL (r-1) (cutB y 32) else [])):=(show L=_ from by
     have:=hr.out
     rw [if_pos rfl,show r=(r-1)+1 by omega,words_cut (by omega)] at this
     exact this)
    have e0:decide ((D.length:Int)+1<(M:Int))=true:=decide_eq_true (by omega)
    have e0n:decide (D.length+1<M)=true:=decide_eq_true (by omega)
    have cp:=fun w=>l1Cut_any y 32 w (by omega)
    have hB:cutF y 32=true->(cutB y 32).size<y.size:=cutB_lt
    obtain ⟨x1,hx1⟩ : ∃ x,x=cutA y 32:=⟨_,rfl⟩
    obtain ⟨y1,hy1'⟩ : ∃ y',y'=cutB y 32:=⟨_,rfl⟩
    obtain ⟨f1,hf1⟩ : ∃ f,f=cutF y 32:=⟨_,rfl⟩
    have hy2:y1.size<=y.size:=by rw [hy1'];exact cutB_le _ _
    rw [<- hx1,<- hy1',<- hf1] at HR cp
    rw [<- hf1,<- hy1'] at hB
    have HB:=(show Hid _ from hB)
    clear hB hx1 hy1' hf1 hm hr
    go_wp2_with fail
    refine (cp _).mono ?_
    rintro e w1 ⟨rfl,n1,hw1⟩
    have b1:Hid (Below wr.heap.size wr w1):=by rw [hw1];exact below_drewN zRf _
    have own1:Hid (w1.ownsRow w.heap.size 9 1 (.slice po D.length cap) D.length (D.map Value.string)):=own_below hown.out b1.out
    have bel1:Hid (Below w.heap.size w w1):=hbel.out.trans (b1.out.mono hbel.out.size)
    clear hw1 cp hown hbel b1
    have hlt2:=own1.out.lt
    go_wp2_with (first|(at_builtin;refine wpList_append_own _ rfl (.tmp 22) (.tmp 24) 85 rfl w.heap.size 9 i0 (.string ⟨#[]⟩) 1 16 underlying85 hi hz0 hz1 hz2 rfl (by decide) _ _ _ rfl (own1.out.alloc _) ⟨w1.heap.size,0,none⟩ 1 1 [.string x1] rfl rfl (cell_one_new _ _ _) (by intro u hu;simp at hu;subst hu;rfl) (by unfold maxLen;omega) (by omega) (by have:=bel1.out.size;simp;omega) ?_;intro v' w2 hown' hgrow _)|go_in)
    go_wp2
    go_roundw
    case rel=>exact ⟨D ++ [x1],y1,f1,r-1,rfl,rfl,by omega,by simp;omega,fun h=>(show 1<=r-1 by omega),HR.out,own_snoc hown' rfl,(bel1.out.alloc bel1.out.size _).grown hgrow (by have:=bel1.out.size;simp;omega) (fun j hj=>(hlt2 j hj).1)⟩
    case measure=>cases f1 <;> simp [msr];have:=HB.out rfl;omega
   ·have h2:r=1:=by omega
    have HR:Hid (L=(D ++ [y]) ++ (if false=true then wordsL (r-1) y else [])):=(show L=_ from by
     have:=hr.out
     rw [if_pos rfl,h2,words_last] at this
     rw [this];simp)
    have e0:decide ((D.length:Int)+1<(M:Int))=false:=decide_eq_false (by omega)
    have e0n:decide (D.length+1<M)=false:=decide_eq_false (by omega)
    clear hm hr
    have hlt2:=hown.out.lt
    go_wp2_with (first|(at_builtin;refine wpList_append_own _ rfl (.tmp 22) (.tmp 24) 85 rfl w.heap.size 9 i0 (.string ⟨#[]⟩) 1 16 underlying85 hi hz0 hz1 hz2 rfl (by decide) _ _ _ rfl (hown.out.alloc _) ⟨wr.heap.size,0,none⟩ 1 1 [.string y] rfl rfl (cell_one_new _ _ _) (by intro u hu;simp at hu;subst hu;rfl) (by unfold maxLen;omega) (by omega) (by have:=hbel.out.size;simp;omega) ?_;intro v' w2 hown' hgrow _)|go_in)
    go_wp2
    go_roundw
    case rel=>exact ⟨D ++ [y],y,false,r-1,rfl,rfl,hy,by simp;omega,fun h=>absurd h (by decide),HR.out,own_snoc hown' rfl,(hbel.out.alloc hbel.out.size _).grown hgrow (by have:=hbel.out.size;simp;omega) (fun j hj=>(hlt2 j hj).1)⟩
    case measure=>simp [msr]
end Rwor
namespace Rlas
open Go.Deep
theorem last_none (db:Nat) (po:Option Addr) (cap:Nat) (w:World) (h0:w.cell? ⟨db,0,none⟩=some (.slice po 0 cap)) :
  Calls prog 105 #[.pointer (some ⟨db,0,none⟩)] w fun e w'=>e=.returned (.pointer none)/\∃ n,w'=w.drewN n:=by
 go_enter func105,ntmps105
 go_wp2
 go_ret
 exact ⟨rfl,0,rfl⟩
theorem last_some (db g m cap:Nat) (x:Value) (w:World) (hm:m<1048576) (h0:w.cell? ⟨db,0,none⟩=some (.slice (some ⟨g,0,none⟩) (m+1) cap)) (hx:w.cell? ⟨g,m,none⟩=some x) :
  Calls prog 105 #[.pointer (some ⟨db,0,none⟩)] w fun e w'=>e=.returned x/\∃ n,w'=w.drewN n:=by
 have e0:decide ((((m+1:Nat)):Int)=0)=false:=decide_eq_false (by omega)
 have e1:decide ((m:Int)+1=0)=false:=decide_eq_false (by omega)
 have p1:IntKind.i64.wrap ((m:Int)+1-1)=(m:Int):=by rw [IntKind.wrap_i64];omega
 have p2:IntKind.i64.wrap (((m+1:Nat):Int)-1)=(m:Int):=by rw [IntKind.wrap_i64];omega
 have k0:(0:Int)<=(m:Int):=by omega
 have k1:(m:Int)<((m+1:Nat):Int):=by omega
 have k2:(m:Int)<(m:Int)+1:=by omega
 go_enter func105,ntmps105
 go_wp2
 go_quiet (fail)
 go_wp2
 go_ret
 exact ⟨rfl,_,rfl⟩
end Rlas
end Go.Proofs.YtickfkphhngagaaGreatDoor
