import Derived.Test.YtepafieckjnkdaaGreatDoorP01
import Derived.Deep.QuietTactic
import Derived.BigQuiet
import Derived.LoopN
import Derived.Lib.ParseIntB
import Derived.Lib.ItoaNum
import Derived.Below
import Derived.Deep.Strs
import Derived.Deep.RegionWith
set_option linter.all false
set_option maxRecDepth 20000
set_option maxHeartbeats 8000000
open Go.ChangeShapes Go.WideShapes Go.ChangeAt Go.RowKit
open Go.Proofs.Tryz
namespace Go.Proofs.YtepafieckjnkdaaGreatDoor
namespace Steps
open Names (nameB)
def inB (n low high:Int):Bool:=decide (low<=n/\n<=high)
theorem isWord_any (n:Int) (w:World) :
  Calls prog 130 #[.int .i64 n] w fun e w'=>e=.returned (.bool (inB n 0 65535))/\w'=w:=by
 go_enter func130,ntmps130
 go_wp2
 all_goals go_ret
 all_goals exact ⟨Names.ret_bool (by rw [Bool.eq_iff_iff];simp [inB];try omega),rfl⟩
def nodeB (k n:Int) (s:ByteArray):Bool :=
 if k=1 then inB n 0 65535 && s.toList.isEmpty
 else if k=2 \/ k=3 then n == 0 && nameB s
 else if 4<=k/\k<=17 then n == 0 && s.toList.isEmpty
 else false
def stepV (k n:Int) (s:ByteArray):Value :=
 if k=1 then .iface 131 (.agg #[.int .i64 n])
 else if k=2 then .iface 133 (.agg #[.string s])
 else if k=3 then .iface 134 (.agg #[.string s])
 else if 4<=k/\k<=7 then .iface 136 (.agg #[.int .i64 k])
 else if 8<=k/\k<=17 then .iface 138 (.agg #[.int .i64 k])
 else .nilIface
theorem step1 (n:Int) (s:ByteArray) (w:World) (b:Bool) (hb:inB n 0 65535=b) :
  Calls prog 101 #[.agg #[.int .i64 1,.int .i64 n,.string s]] w fun e w'=>e=.returned (.tuple #[.iface 131 (.agg #[.int .i64 n]),.bool (b && s.toList.isEmpty)])/\Below w.heap.size w w':=by
 have c:=fun w=>isWord_any n w
 rw [hb] at c
 clear hb
 cases b with
 | true =>
  go_enter func101,ntmps101
  go_wp2
  go_quiet ((go_at_call 130;exact Calls.quiet_of_same (c _)))
  go_wp2
  go_ret2
  exact ⟨rfl,below_drewN (zAl _ _) _⟩
 | false =>
  go_enter func101,ntmps101
  go_wp2
  go_quiet ((go_at_call 130;exact Calls.quiet_of_same (c _)))
  go_wp2
  go_ret2
  exact ⟨rfl,below_drewN (zAl _ _) _⟩
theorem step2 (n:Int) (s:ByteArray) (w:World) (hs:s.size<=maxLen) (b:Bool) (hb:(n == 0)=b) :
  Calls prog 101 #[.agg #[.int .i64 2,.int .i64 n,.string s]] w fun e w'=>e=.returned (.tuple #[.iface 133 (.agg #[.string s]),.bool (b && nameB s)])/\Below w.heap.size w w':=by
 have c:=fun w=>Names.implName_any s w hs
 clear hs
 cases b with
 | true =>
  go_enter func101,ntmps101
  go_wp2
  go_quiet ((go_at_call 77;exact Calls.quiet_of_same (c _)))
  go_wp2
  go_ret2
  exact ⟨rfl,below_drewN (zAl _ _) _⟩
 | false =>
  go_enter func101,ntmps101
  go_wp2
  go_quiet ((go_at_call 77;exact Calls.quiet_of_same (c _)))
  go_wp2
  go_ret2
  exact ⟨rfl,below_drewN (zAl _ _) _⟩
theorem step3 (n:Int) (s:ByteArray) (w:World) (hs:s.size<=maxLen) (b:Bool) (hb:(n == 0)=b) :
  Calls prog 101 #[.agg #[.int .i64 3,.int .i64 n,.string s]] w fun e w'=>e=.returned (.tuple #[.iface 134 (.agg #[.string s]),.bool (b && nameB s)])/\Below w.heap.size w w':=by
 have c:=fun w=>Names.implName_any s w hs
 clear hs
 cases b with
 | true =>
  go_enter func101,ntmps101
  go_wp2
  go_quiet ((go_at_call 77;exact Calls.quiet_of_same (c _)))
  go_wp2
  go_ret2
  exact ⟨rfl,below_drewN (zAl _ _) _⟩
 | false =>
  go_enter func101,ntmps101
  go_wp2
  go_quiet ((go_at_call 77;exact Calls.quiet_of_same (c _)))
  go_wp2
  go_ret2
  exact ⟨rfl,below_drewN (zAl _ _) _⟩
theorem stepOne (k n:Int) (s:ByteArray) (w:World) (k0:4<=k) (k1:k<=7) (b:Bool) (hb:(n == 0)=b) :
  Calls prog 101 #[.agg #[.int .i64 k,.int .i64 n,.string s]] w fun e w'=>e=.returned (.tuple #[.iface 136 (.agg #[.int .i64 k]),.bool (b && s.toList.isEmpty)])/\Below w.heap.size w w':=by
 have e1:(k == 1)=false:=by simp;omega
 have e2:(k == 2)=false:=by simp;omega
 have e3:(k == 3)=false:=by simp;omega
 have d7:decide (k<=7)=true:=by simp;omega
 have d17:decide (k<=17)=true:=by simp;omega
 cases b with
 | true =>
  go_enter func101,ntmps101
  go_wp2
  go_quiet (fail)
  go_wp2
  go_ret2
  exact ⟨rfl,below_drewN (zAl _ _) _⟩
 | false =>
  go_enter func101,ntmps101
  go_wp2
  go_quiet (fail)
  go_wp2
  go_ret2
  exact ⟨rfl,below_drewN (zAl _ _) _⟩
theorem stepTwo (k n:Int) (s:ByteArray) (w:World) (k0:8<=k) (k1:k<=17) (b:Bool) (hb:(n == 0)=b) :
  Calls prog 101 #[.agg #[.int .i64 k,.int .i64 n,.string s]] w fun e w'=>e=.returned (.tuple #[.iface 138 (.agg #[.int .i64 k]),.bool (b && s.toList.isEmpty)])/\Below w.heap.size w w':=by
 have e1:(k == 1)=false:=by simp;omega
 have e2:(k == 2)=false:=by simp;omega
 have e3:(k == 3)=false:=by simp;omega
 have d7:decide (k<=7)=false:=by simp;omega
 have d17:decide (k<=17)=true:=by simp;omega
 cases b with
 | true =>
  go_enter func101,ntmps101
  go_wp2
  go_quiet (fail)
  go_wp2
  go_ret2
  exact ⟨rfl,below_drewN (zAl _ _) _⟩
 | false =>
  go_enter func101,ntmps101
  go_wp2
  go_quiet (fail)
  go_wp2
  go_ret2
  exact ⟨rfl,below_drewN (zAl _ _) _⟩
theorem stepNone (k n:Int) (s:ByteArray) (w:World) (hk:k<1 \/ 17<k) :
  Calls prog 101 #[.agg #[.int .i64 k,.int .i64 n,.string s]] w fun e w'=>e=.returned (.tuple #[.nilIface,.bool false])/\Below w.heap.size w w':=by
 have e1:(k == 1)=false:=by simp;omega
 have e2:(k == 2)=false:=by simp;omega
 have e3:(k == 3)=false:=by simp;omega
 rcases hk with hk|hk
 ·go_enter func101,ntmps101
  go_wp2
  go_ret2
  exact ⟨rfl,zAl _ _⟩
 ·have d7:decide (k<=7)=false:=by simp;omega
  have d17:decide (k<=17)=false:=by simp;omega
  go_enter func101,ntmps101
  go_wp2
  go_ret2
  exact ⟨rfl,zAl _ _⟩
theorem stepOf_any (k n:Int) (s:ByteArray) (w:World) (hs:s.size<=maxLen) :
  Calls prog 101 #[.agg #[.int .i64 k,.int .i64 n,.string s]] w fun e w'=>e=.returned (.tuple #[stepV k n s,.bool (nodeB k n s)])/\Below w.heap.size w w':=by
 unfold stepV nodeB
 by_cases h1:k=1
 ·subst h1
  rw [if_pos rfl,if_pos rfl]
  exact step1 n s w _ rfl
 rw [if_neg h1,if_neg h1]
 by_cases h2:k=2
 ·subst h2
  rw [if_pos rfl,if_pos (.inl rfl)]
  exact step2 n s w hs _ rfl
 rw [if_neg h2]
 by_cases h3:k=3
 ·subst h3
  rw [if_pos rfl,if_pos (.inr rfl)]
  exact step3 n s w hs _ rfl
 rw [if_neg h3,if_neg (show ¬ (k=2 \/ k=3) by omega)]
 by_cases h4:4<=k/\k<=7
 ·rw [if_pos h4,if_pos (show 4<=k/\k<=17 by omega)]
  exact stepOne k n s w h4.1 h4.2 _ rfl
 rw [if_neg h4]
 by_cases h5:8<=k/\k<=17
 ·rw [if_pos h5,if_pos (show 4<=k/\k<=17 by omega)]
  exact stepTwo k n s w h5.1 h5.2 _ rfl
 rw [if_neg h5,if_neg (show ¬ (4<=k/\k<=17) by omega)]
 exact stepNone k n s w (by omega)
end Steps
namespace Hex
open Nums (tab Tab)
def inB (n low high:Int):Bool:=decide (low<=n/\n<=high)
theorem ret_bool {a b:Bool} (h:a=b):Ending.returned (.bool a)=.returned (.bool b):=by rw [h]
theorem isWord_any (n:Int) (w:World) :
  Calls prog 130 #[.int .i64 n] w fun e w'=>e=.returned (.bool (inB n 0 65535))/\w'=w:=by
 go_enter func130,ntmps130
 go_wp2
 all_goals go_ret
 all_goals exact ⟨ret_bool (by rw [Bool.eq_iff_iff];simp [inB];try omega),rfl⟩
theorem l1In_any (n low high:Int) (w:World) :
  Calls prog 38 #[.int .i64 n,.int .i64 low,.int .i64 high] w fun e w'=>e=.returned (.bool (inB n low high))/\w'=w:=by
 go_enter func38,ntmps38
 go_wp2
 all_goals go_ret
 all_goals exact ⟨ret_bool (by rw [Bool.eq_iff_iff];simp [inB];try omega),rfl⟩
theorem size_pos {w:World} (hT:Tab w):0<w.heap.size:=by
 have h:=hT 0 (by decide)
 rcases Nat.lt_or_ge 0 w.heap.size with a|a
 ·exact a
 ·rw [World.cell?,Array.getElem?_eq_none a] at h;cases h
def digs (n:Int):Nat->List Int
 | 0=>[]
 | k+1=>digs (n / 16) k ++ [tab.getD (n%16).toNat 0]
abbrev hexs:ByteArray:=⟨#[48,49,50,51,52,53,54,55,56,57,65,66,67,68,69,70]⟩
def one (m:Int):ByteArray:=strOfNums [tab.getD m.toNat 0]
theorem one_size (m:Int):(one m).size=1:=by unfold one;rw [strOfNums_size];rfl
theorem slice_nat (u:World):∀ k:Nat,k<16->(Instr.slice 9 (.string hexs) (some (.int .i64 (k:Int))) (some (.int .i64 ((k:Int)+1))) none).run prog u=.ok (.string (one (k:Int))) u
 | 0,_=>by kernel_rfl
 | 1,_=>by kernel_rfl
 | 2,_=>by kernel_rfl
 | 3,_=>by kernel_rfl
 | 4,_=>by kernel_rfl
 | 5,_=>by kernel_rfl
 | 6,_=>by kernel_rfl
 | 7,_=>by kernel_rfl
 | 8,_=>by kernel_rfl
 | 9,_=>by kernel_rfl
 | 10,_=>by kernel_rfl
 | 11,_=>by kernel_rfl
 | 12,_=>by kernel_rfl
 | 13,_=>by kernel_rfl
 | 14,_=>by kernel_rfl
 | 15,_=>by kernel_rfl
 | k+16,h=>absurd h (by omega)
theorem slice_one (m:Int) (h0:0<=m) (h1:m<16) (u:World):(Instr.slice 9 (.string hexs) (some (.int .i64 m)) (some (.int .i64 (m+1))) none).run prog u=.ok (.string (one m)) u:=by
 obtain ⟨k,rfl⟩:=Int.eq_ofNat_of_zero_le h0
 exact slice_nat u k (by omega)
theorem str_append (a b:List Int):strOfNums a ++ strOfNums b=strOfNums (a ++ b):=by
 apply ByteArray.ext
 rw [ByteArray.data_append]
 simp [strOfNums]
theorem nil_str:(⟨#[]⟩ : ByteArray)=strOfNums []:=rfl
theorem dollar_str:(⟨#[36]⟩ : ByteArray)=strOfNums [36]:=rfl
def pw (d:Int):Int:=16 ^ d.toNat
def hexS (n d:Int):ByteArray:=if 1<=d/\d<=4/\0<=n/\n<=65535/\n / pw d=0 then strOfNums (36 :: digs n d.toNat) else ⟨#[]⟩
theorem hexS_no {n d:Int} (h:¬ (1<=d/\d<=4/\0<=n/\n<=65535/\n / pw d=0)):hexS n d=⟨#[]⟩:=if_neg h
theorem hexS_yes {n d:Int} (h:1<=d/\d<=4/\0<=n/\n<=65535/\n / pw d=0):hexS n d=strOfNums (36 :: digs n d.toNat):=if_pos h
theorem ret_str {a b:ByteArray} (h:a=b):Ending.returned (.string a)=.returned (.string b):=by rw [h]
set_option maxRecDepth 100000 in
theorem spec1y (n:Int) (w:World) (h0:0<=n) (h1:n<=65535) (hq:n / 16=0) :
  Calls prog 113 #[.int .i64 n,.int .i64 1] w fun e w'=>e=.returned (.string (strOfNums (36 :: digs n 1)))/\w'=w:=by
 have hb:¬ 0<n / 16:=by omega
 clear hq
 have hi:inB n 0 65535=true:=decide_eq_true ⟨h0,h1⟩
 have hd:inB 1 1 4=true:=rfl
 have s0:=slice_one (n%16) (by omega) (by omega)
 have z0:(one (n%16)).size=1:=one_size _
 go_enter func113,ntmps113
 go_wp2_with (go_at_call 38;refine (l1In_any _ _ _ _).mono ?_;rintro e w' ⟨rfl,rfl⟩)
 refine wp_loop_rounds 2 ?_
 rw [rounds_succ]
 go_wp2
 rw [rounds_succ]
 go_wp2
 go_ret
 exact ⟨ret_str (by rw [nil_str,dollar_str];simp only [one,str_append,digs,List.nil_append,List.cons_append]),rfl⟩
set_option maxRecDepth 100000 in
theorem spec1n (n:Int) (w:World) (h0:0<=n) (h1:n<=65535) (hq:¬ n / 16=0) :
  Calls prog 113 #[.int .i64 n,.int .i64 1] w fun e w'=>e=.returned (.string (⟨#[]⟩))/\w'=w:=by
 have hb:0<n / 16:=by omega
 clear hq
 have hi:inB n 0 65535=true:=decide_eq_true ⟨h0,h1⟩
 have hd:inB 1 1 4=true:=rfl
 have s0:=slice_one (n%16) (by omega) (by omega)
 have z0:(one (n%16)).size=1:=one_size _
 go_enter func113,ntmps113
 go_wp2_with (go_at_call 38;refine (l1In_any _ _ _ _).mono ?_;rintro e w' ⟨rfl,rfl⟩)
 refine wp_loop_rounds 2 ?_
 rw [rounds_succ]
 go_wp2
 rw [rounds_succ]
 go_wp2
 go_ret
 exact ⟨rfl,rfl⟩
set_option maxRecDepth 100000 in
theorem spec2y (n:Int) (w:World) (h0:0<=n) (h1:n<=65535) (hq:n / 16 / 16=0) :
  Calls prog 113 #[.int .i64 n,.int .i64 2] w fun e w'=>e=.returned (.string (strOfNums (36 :: digs n 2)))/\w'=w:=by
 have hb:¬ 0<n / 16 / 16:=by omega
 clear hq
 have hi:inB n 0 65535=true:=decide_eq_true ⟨h0,h1⟩
 have hd:inB 2 1 4=true:=rfl
 have s0:=slice_one (n%16) (by omega) (by omega)
 have z0:(one (n%16)).size=1:=one_size _
 have s1:=slice_one (n / 16%16) (by omega) (by omega)
 have z1:(one (n / 16%16)).size=1:=one_size _
 go_enter func113,ntmps113
 go_wp2_with (go_at_call 38;refine (l1In_any _ _ _ _).mono ?_;rintro e w' ⟨rfl,rfl⟩)
 refine wp_loop_rounds 3 ?_
 rw [rounds_succ]
 go_wp2
 rw [rounds_succ]
 go_wp2
 rw [rounds_succ]
 go_wp2
 go_ret
 exact ⟨ret_str (by rw [nil_str,dollar_str];simp only [one,str_append,digs,List.nil_append,List.cons_append]),rfl⟩
set_option maxRecDepth 100000 in
theorem spec2n (n:Int) (w:World) (h0:0<=n) (h1:n<=65535) (hq:¬ n / 16 / 16=0) :
  Calls prog 113 #[.int .i64 n,.int .i64 2] w fun e w'=>e=.returned (.string (⟨#[]⟩))/\w'=w:=by
 have hb:0<n / 16 / 16:=by omega
 clear hq
 have hi:inB n 0 65535=true:=decide_eq_true ⟨h0,h1⟩
 have hd:inB 2 1 4=true:=rfl
 have s0:=slice_one (n%16) (by omega) (by omega)
 have z0:(one (n%16)).size=1:=one_size _
 have s1:=slice_one (n / 16%16) (by omega) (by omega)
 have z1:(one (n / 16%16)).size=1:=one_size _
 go_enter func113,ntmps113
 go_wp2_with (go_at_call 38;refine (l1In_any _ _ _ _).mono ?_;rintro e w' ⟨rfl,rfl⟩)
 refine wp_loop_rounds 3 ?_
 rw [rounds_succ]
 go_wp2
 rw [rounds_succ]
 go_wp2
 rw [rounds_succ]
 go_wp2
 go_ret
 exact ⟨rfl,rfl⟩
set_option maxRecDepth 100000 in
theorem spec3y (n:Int) (w:World) (h0:0<=n) (h1:n<=65535) (hq:n / 16 / 16 / 16=0) :
  Calls prog 113 #[.int .i64 n,.int .i64 3] w fun e w'=>e=.returned (.string (strOfNums (36 :: digs n 3)))/\w'=w:=by
 have hb:¬ 0<n / 16 / 16 / 16:=by omega
 clear hq
 have hi:inB n 0 65535=true:=decide_eq_true ⟨h0,h1⟩
 have hd:inB 3 1 4=true:=rfl
 have s0:=slice_one (n%16) (by omega) (by omega)
 have z0:(one (n%16)).size=1:=one_size _
 have s1:=slice_one (n / 16%16) (by omega) (by omega)
 have z1:(one (n / 16%16)).size=1:=one_size _
 have s2:=slice_one (n / 16 / 16%16) (by omega) (by omega)
 have z2:(one (n / 16 / 16%16)).size=1:=one_size _
 go_enter func113,ntmps113
 go_wp2_with (go_at_call 38;refine (l1In_any _ _ _ _).mono ?_;rintro e w' ⟨rfl,rfl⟩)
 refine wp_loop_rounds 4 ?_
 rw [rounds_succ]
 go_wp2
 rw [rounds_succ]
 go_wp2
 rw [rounds_succ]
 go_wp2
 rw [rounds_succ]
 go_wp2
 go_ret
 exact ⟨ret_str (by rw [nil_str,dollar_str];simp only [one,str_append,digs,List.nil_append,List.cons_append]),rfl⟩
set_option maxRecDepth 100000 in
theorem spec3n (n:Int) (w:World) (h0:0<=n) (h1:n<=65535) (hq:¬ n / 16 / 16 / 16=0) :
  Calls prog 113 #[.int .i64 n,.int .i64 3] w fun e w'=>e=.returned (.string (⟨#[]⟩))/\w'=w:=by
 have hb:0<n / 16 / 16 / 16:=by omega
 clear hq
 have hi:inB n 0 65535=true:=decide_eq_true ⟨h0,h1⟩
 have hd:inB 3 1 4=true:=rfl
 have s0:=slice_one (n%16) (by omega) (by omega)
 have z0:(one (n%16)).size=1:=one_size _
 have s1:=slice_one (n / 16%16) (by omega) (by omega)
 have z1:(one (n / 16%16)).size=1:=one_size _
 have s2:=slice_one (n / 16 / 16%16) (by omega) (by omega)
 have z2:(one (n / 16 / 16%16)).size=1:=one_size _
 go_enter func113,ntmps113
 go_wp2_with (go_at_call 38;refine (l1In_any _ _ _ _).mono ?_;rintro e w' ⟨rfl,rfl⟩)
 refine wp_loop_rounds 4 ?_
 rw [rounds_succ]
 go_wp2
 rw [rounds_succ]
 go_wp2
 rw [rounds_succ]
 go_wp2
 rw [rounds_succ]
 go_wp2
 go_ret
 exact ⟨rfl,rfl⟩
set_option maxRecDepth 100000 in
theorem spec4y (n:Int) (w:World) (h0:0<=n) (h1:n<=65535) (hq:n / 16 / 16 / 16 / 16=0) :
  Calls prog 113 #[.int .i64 n,.int .i64 4] w fun e w'=>e=.returned (.string (strOfNums (36 :: digs n 4)))/\w'=w:=by
 have hb:¬ 0<n / 16 / 16 / 16 / 16:=by omega
 clear hq
 have hi:inB n 0 65535=true:=decide_eq_true ⟨h0,h1⟩
 have hd:inB 4 1 4=true:=rfl
 have s0:=slice_one (n%16) (by omega) (by omega)
 have z0:(one (n%16)).size=1:=one_size _
 have s1:=slice_one (n / 16%16) (by omega) (by omega)
 have z1:(one (n / 16%16)).size=1:=one_size _
 have s2:=slice_one (n / 16 / 16%16) (by omega) (by omega)
 have z2:(one (n / 16 / 16%16)).size=1:=one_size _
 have s3:=slice_one (n / 16 / 16 / 16%16) (by omega) (by omega)
 have z3:(one (n / 16 / 16 / 16%16)).size=1:=one_size _
 go_enter func113,ntmps113
 go_wp2_with (go_at_call 38;refine (l1In_any _ _ _ _).mono ?_;rintro e w' ⟨rfl,rfl⟩)
 refine wp_loop_rounds 5 ?_
 rw [rounds_succ]
 go_wp2
 rw [rounds_succ]
 go_wp2
 rw [rounds_succ]
 go_wp2
 rw [rounds_succ]
 go_wp2
 rw [rounds_succ]
 go_wp2
 go_ret
 exact ⟨ret_str (by rw [nil_str,dollar_str];simp only [one,str_append,digs,List.nil_append,List.cons_append]),rfl⟩
theorem spec4n (n:Int) (w:World) (_h0:0<=n) (_h1:n<=65535) (hq:¬ n / 16 / 16 / 16 / 16=0) :
  Calls prog 113 #[.int .i64 n,.int .i64 4] w fun e w'=>e=.returned (.string (⟨#[]⟩))/\w'=w:=absurd (by omega) hq
theorem specHex_any (n d:Int) (w:World) :
  Calls prog 113 #[.int .i64 n,.int .i64 d] w fun e w'=>e=.returned (.string (hexS n d))/\w'=w:=by
 by_cases hd:¬ (1<=d/\d<=4)
 ·rw [hexS_no (by omega)]
  have hi:inB d 1 4=false:=decide_eq_false hd
  clear hd
  go_enter func113,ntmps113
  go_wp2_with (go_at_call 38;refine (l1In_any _ _ _ _).mono ?_;rintro e w' ⟨rfl,rfl⟩)
  go_ret
  exact ⟨rfl,rfl⟩
 by_cases hn:0<=n/\n<=65535
 ·obtain ⟨h0,h1⟩:=hn
  have hdd:d=1 \/ d=2 \/ d=3 \/ d=4:=by omega
  rcases hdd with rfl|rfl|rfl|rfl
  ·have e:n / pw 1=n / 16:=by unfold pw;show n / (16 ^ 1)=_;omega
   by_cases hq:n / 16=0
   ·rw [hexS_yes ⟨by decide,by decide,h0,h1,by omega⟩]
    exact spec1y n w h0 h1 hq
   ·rw [hexS_no (fun h=>hq (by omega))]
    exact spec1n n w h0 h1 hq
  ·have e:n / pw 2=n / 16 / 16:=by unfold pw;show n / (16 ^ 2)=_;omega
   by_cases hq:n / 16 / 16=0
   ·rw [hexS_yes ⟨by decide,by decide,h0,h1,by omega⟩]
    exact spec2y n w h0 h1 hq
   ·rw [hexS_no (fun h=>hq (by omega))]
    exact spec2n n w h0 h1 hq
  ·have e:n / pw 3=n / 16 / 16 / 16:=by unfold pw;show n / (16 ^ 3)=_;omega
   by_cases hq:n / 16 / 16 / 16=0
   ·rw [hexS_yes ⟨by decide,by decide,h0,h1,by omega⟩]
    exact spec3y n w h0 h1 hq
   ·rw [hexS_no (fun h=>hq (by omega))]
    exact spec3n n w h0 h1 hq
  ·have e:n / pw 4=n / 16 / 16 / 16 / 16:=by unfold pw;show n / (16 ^ 4)=_;omega
   by_cases hq:n / 16 / 16 / 16 / 16=0
   ·rw [hexS_yes ⟨by decide,by decide,h0,h1,by omega⟩]
    exact spec4y n w h0 h1 hq
   ·rw [hexS_no (fun h=>hq (by omega))]
    exact spec4n n w h0 h1 hq
 ·rw [hexS_no (by omega)]
  have hi:inB n 0 65535=false:=decide_eq_false hn
  have hi':inB d 1 4=true:=decide_eq_true (Classical.not_not.1 hd)
  clear hn hd
  go_enter func113,ntmps113
  go_wp2_with (go_at_call 38;refine (l1In_any _ _ _ _).mono ?_;rintro e w' ⟨rfl,rfl⟩)
  go_ret
  exact ⟨rfl,rfl⟩
end Hex
namespace Qflo
open Go.RowKit
def lay (k:Nat) (o:Oper):Oper:={ o with after:=o.after.push ⟨k,.data⟩ }
def bound (ops:Array Oper) (k n:Nat):Array Oper:=ops.modify n (lay k)
theorem get_bound (ops:Array Oper) (k n i:Nat):(bound ops k n)[i]? = if n=i then (ops[i]?).map (lay k) else ops[i]?:=by
 unfold bound
 rw [Array.getElem?_modify]
theorem dst_bound (ops:Array Oper) (k n i:Nat):((bound ops k n)[i]?).bind (·.dst)=(ops[i]?).bind (·.dst):=by
 rw [get_bound]
 split
 ·cases ops[i]? <;> rfl
 ·rfl
theorem yielded_bound (ops:Array Oper) (k n:Nat) (t:Array Value):yielded (bound ops k n) t=yielded ops t:=by
 funext j
 unfold yielded
 rw [dst_bound]
theorem wpOp_bound {P:Program} {ops:Array Oper} {Q:Exit->Act->World->Prop} {k n i:Nat} {K:Act->World->Prop} {a:Act} {w:World}:wpOp P (bound ops k n) Q i K a w ↔ wpOp P ops Q i K a w:=by
 unfold wpOp
 rw [get_bound,yielded_bound]
 by_cases hn:n=i
 ·rw [if_pos hn]
  cases ops[i]? with
  | none=>exact Iff.rfl
  | some o=>exact Iff.rfl
 ·rw [if_neg hn]
theorem wpQuiet_bound {P:Program} {ops:Array Oper} {C:World->Prop} {k n:Nat}:∀ (l:List Oper) {Q:Act->Prop} {a:Act},wpQuiet P ops C Q l a->wpQuiet P (bound ops k n) C Q l a
 | [],_,_,h=>h
 | o :: l,Q,a,h=>by
  unfold wpQuiet at h |-
  rw [yielded_bound]
  split
  ·rename_i hw
   rw [if_pos hw] at h
   exact Oper.quiet_mono (fun a h=>wpQuiet_bound l h) h
  ·rename_i hw
   rw [if_neg hw] at h
   exact wpQuiet_bound l h
theorem wpList_bound {P:Program} {ops:Array Oper} {Q:Exit->Act->World->Prop} {k n:Nat}:∀ (l:List Oper) {a:Act} {w:World},wpList P ops Q l a w->wpList P (bound ops k n) Q l a w
 | [],_,_,h=>h
 | o :: l,a,w,h=>by
  unfold wpList at h |-
  rw [yielded_bound]
  split
  ·rename_i hw
   rw [if_pos hw] at h
   exact h.imp (Oper.wp_mono (fun a w h=>wpList_bound l h)) id
  ·rename_i hw
   rw [if_neg hw] at h
   exact wpList_bound l h
theorem wpList_lay {P:Program} {ops:Array Oper} {Q:Exit->Act->World->Prop} {k:Nat} {o:Oper} {l:List Oper} {a:Act} {w:World} (h:wpList P ops Q (o :: l) a w):wpList P ops Q (lay k o :: l) a w:=h
theorem ready_bound {md:Region.Mode} {ops:Array Oper} {listed:Array Bool} {k n j:Nat}:j ∈ Region.ready md (bound ops k n) listed ↔ j ∈ Region.ready md ops listed/\(j=n->listed.getD k false=true):=by
 rw [mem_ready,mem_ready,get_bound]
 constructor
 ·rintro ⟨h0,o,ho,hall⟩
  split at ho
  ·rename_i hn
   subst hn
   cases hq:ops[n]? with
   | none=>rw [hq] at ho;cases ho
   | some o1 =>
    rw [hq] at ho
    cases ho
    refine ⟨⟨h0,o1,rfl,fun e he hb=>hall e (Array.mem_push.2 (.inl he)) hb⟩,fun _=>hall ⟨k,.data⟩ (Array.mem_push.2 (.inr rfl)) rfl⟩
  ·rename_i hn
   exact ⟨⟨h0,o,ho,hall⟩,fun e=>absurd e.symm hn⟩
 ·rintro ⟨⟨h0,o,ho,hall⟩,hk⟩
  by_cases hn:n=j
  ·subst hn
   refine ⟨h0,lay k o,by rw [if_pos rfl,ho];rfl,fun e he hb=>?_⟩
   rcases Array.mem_push.1 he with he|rfl
   ·exact hall e he hb
   ·exact hk rfl
  ·exact ⟨h0,o,by rw [if_neg hn];exact ho,hall⟩
def follows (md:Region.Mode) (ops:Array Oper) (k n:Nat):Bool :=
 match ops[k]?,ops[n]? with
 | some ok,some on=>ok.after.all (fun e=>!Region.binds md e || on.after.any (fun d=>Region.binds md d && d.on == e.on)) && (match ok.op with|.extract ..=>true|_=>false) && ok.guard.isNone
 | _,_=>false
def before (md:Region.Mode) (ops:Array Oper) (k:Nat):Array Bool:=((List.range ops.size).map fun j=>Region.waitsFor md ops k j).toArray
theorem before_get {md:Region.Mode} {ops:Array Oper} {k j:Nat} (hj:j<ops.size):(before md ops k).getD j true=Region.waitsFor md ops k j:=by
 unfold before
 simp [hj]
theorem put_panic {Q:Exit->Act->World->Prop} (hQ:∀ (d:Tmp) v c a w,Q (.panic c) (a.put (some d) v) w->Q (.panic c) a w) (d:Option Tmp) (v:Value) (c) (a:Act) (w:World) (h:Q (.panic c) (a.put d v) w):Q (.panic c) a w:=by
 cases d with
 | none=>exact h
 | some d=>exact hQ d v c a w h
open Qtail in
theorem region_any {P:Program} {C:World->Prop} {Q:Exit->Act->World->Prop} {a:Act} {w:World} {l:List Oper} (n:Nat) (hB:Region.lexTailB .any l.toArray n=true) (hC:C { w with drawn:=w.drawn+1 })
  (h:wpQuiet P l.toArray C (fun a'=>∀ w',C w'->wpList P l.toArray Q (l.drop n) a' w') (l.take n) a):wpAny P .any l.toArray Q l.toArray.size (Array.replicate l.toArray.size false) a { w with drawn:=w.drawn+1 }:=by
 simp only [Region.lexTailB,Bool.and_eq_true,decide_eq_true_eq] at hB
 obtain ⟨⟨⟨⟨hsel,hn⟩,hs⟩,hc⟩,hlex⟩:=hB
 have hn':n<l.length:=by simpa using hn
 have htl:(l.take n).length=n:=by simp;omega
 have hdl:(l.drop n).length=l.toArray.size-n:=by simp
 have inv0:HeadInv .any l.toArray n (Array.replicate l.toArray.size false) :=
  ⟨by simp,fun j oj _ hl=>(by rw [getD_replicate_false] at hl;cases hl),fun t _ ht=>getD_in (by simpa using ht) (getD_replicate_false _ _)⟩
 have H:=anyT_lex (md:=.any) (g:=l.toArray.size-n) hsel hs hc hn (l.take n) 0 _ a (fun j hj=>by
  have hj':j<n:=by rw [htl] at hj;exact hj
  simp [hj']) (by simpa using htl) inv0 (by rw [htl];exact hlex) h
 have:=any_of_head (Q':=Q) (g:=l.toArray.size-n) (fun listed a' w' hw' hL=>by
  have:=wpAny_of_seq (md:=.any) (Q':=Q) (l.drop n) n listed a' w' (fun j=>by simp [List.getElem?_drop]) (by rw [hdl];exact hL.1) (hL.2 w' hw')
  rwa [hdl] at this) _ _ _ { w with drawn:=w.drawn+1 } hC H
 rw [htl,show n+(l.toArray.size-n)=l.toArray.size by omega] at this
 exact this
theorem wpQuiet_mono {P:Program} {ops:Array Oper} {C:World->Prop} {Q Q':Act->Prop} (hq:∀ a,Q a->Q' a):∀ (l:List Oper) (a:Act),wpQuiet P ops C Q l a->wpQuiet P ops C Q' l a
 | [],_,h=>hq _ h
 | o :: l,a,h=>by
  unfold wpQuiet at h |-
  split
  ·rename_i hw
   rw [if_pos hw] at h
   exact Oper.quiet_mono (fun a h=>wpQuiet_mono hq l a h) h
  ·rename_i hw
   rw [if_neg hw] at h
   exact wpQuiet_mono hq l _ h
end Qflo
namespace Pint
open Go.Lib
theorem pu_app (M:Nat):∀ (l r:List UInt8) (acc a:Nat),parseUintM M acc l=.ok a->parseUintM M acc (l ++ r)=parseUintM M a r
 | [],r,acc,a,h=>by
  have:acc=a:=by unfold parseUintM at h;cases h;rfl
  rw [this];rfl
 | c :: l,r,acc,a,h=>by
  unfold parseUintM at h
  show parseUintM M acc (c :: (l ++ r))=parseUintM M a r
  conv=>lhs;unfold parseUintM
  split at h
  ·rename_i h1
   rw [if_pos h1]
   split at h
   ·cases h
   ·rename_i h2
    rw [if_neg h2]
    split at h
    ·cases h
    ·rename_i h3
     rw [if_neg h3]
     exact pu_app M l r _ a h
  ·cases h
theorem dig_nat {u:Nat} (h:u<10):(UInt8.ofNat (48+u)).toNat=48+u:=by
 rw [UInt8.toNat_ofNat'];omega
theorem pu_one {M acc u:Nat} (hu:u<10) (h1:acc<1844674407370955162) (h2:acc*10+u<=M):parseUintM M acc [UInt8.ofNat (48+u)]=.ok (acc*10+u):=by
 unfold parseUintM
 rw [dig_nat hu,if_pos (by omega),if_neg (by omega),if_neg (by omega)]
 rw [show 48+u-48=u by omega]
 rfl
theorem pu_digits (M:Nat) (hM:M<18446744073709551616):∀ (k u:Nat),u<=k->u<=M->parseUintM M 0 (decDigits u)=.ok u
 | k,u,hk,h=>by
  rw [decDigits]
  by_cases h10:u<10
  ·rw [dif_pos h10]
   have:=pu_one (M:=M) (acc:=0) h10 (by omega) (by omega)
   rw [this];congr 1;omega
  ·rw [dif_neg h10]
   match k,hk with
   | 0,hk=>omega
   | k+1,hk =>
    have ih:=pu_digits M hM k (u / 10) (by omega) (by omega)
    rw [pu_app M _ _ 0 _ ih,pu_one (by omega) (by omega) (by omega)]
    congr 1;omega
theorem digits_ne (u:Nat):decDigits u ≠ []:=by
 rw [decDigits]
 split
 ·simp
 ·simp
theorem digits_hd:∀ (k u:Nat),u<=k->∃ c r,decDigits u=c :: r/\48<=c.toNat/\c.toNat<=57
 | k,u,hk=>by
  rw [decDigits]
  by_cases h10:u<10
  ·rw [dif_pos h10]
   exact ⟨_,[],rfl,by rw [dig_nat h10];omega,by rw [dig_nat h10];omega⟩
  ·rw [dif_neg h10]
   match k,hk with
   | 0,hk=>omega
   | k+1,hk =>
    obtain ⟨c,r,e,h1,h2⟩:=digits_hd k (u / 10) (by omega)
    rw [e]
    exact ⟨c,r ++ _,rfl,h1,h2⟩
theorem parse_itoa {n:Int} (h0:-4000000000<=n) (h1:n<=4000000000):parseIntB 64 (itoa n)=.ok n:=by
 unfold itoa
 by_cases hn:n<0
 ·rw [if_pos hn]
  unfold parseIntB
  have hp:parseUintB 64 (decDigits n.natAbs)=.ok n.natAbs:=by
   unfold parseUintB
   rw [if_neg (digits_ne _)]
   exact pu_digits (2 ^ 64-1) (by decide) _ _ (Nat.le_refl _) (by omega)
  simp only [show (45:UInt8).toNat=45 from rfl]
  rw [if_pos (.inr trivial),hp]
  simp only []
  rw [if_neg (by simp),if_neg (by omega),if_pos trivial]
  congr 1;omega
 ·rw [if_neg hn]
  obtain ⟨c,r,e,c0,c1⟩:=digits_hd n.toNat n.toNat (Nat.le_refl _)
  have hp:parseUintB 64 (decDigits n.toNat)=.ok n.toNat:=by
   unfold parseUintB
   rw [if_neg (digits_ne _)]
   exact pu_digits (2 ^ 64-1) (by decide) _ _ (Nat.le_refl _) (by omega)
  rw [e] at hp |-
  unfold parseIntB
  simp only []
  rw [if_neg (by omega),hp]
  simp only []
  rw [if_neg (by omega),if_neg (by omega),if_neg (by omega)]
  congr 1;omega
def digS:Nat->List UInt8->Option Nat
 | n,[]=>some n
 | n,c :: r=>if 48<=c.toNat/\c.toNat<=57 then digS (10*n+(c.toNat-48)) r else none
def numS (l:List UInt8):Option Int :=
 if l=[] \/ 11<l.length then none
 else if l.head? = some 45 then (if l.tail=[] then none else (digS 0 l.tail).map fun (n:Nat)=>-(n:Int)) else (digS 0 l).map fun (n:Nat)=>(n:Int)
theorem dS_app:∀ (l r:List UInt8) (n a:Nat),digS n l=some a->digS n (l ++ r)=digS a r
 | [],r,n,a,h=>by
  have:n=a:=by unfold digS at h;exact Option.some.inj h
  rw [this];rfl
 | c :: l,r,n,a,h=>by
  unfold digS at h
  show digS n (c :: (l ++ r))=digS a r
  conv=>lhs;unfold digS
  split at h
  ·rename_i h1
   rw [if_pos h1]
   exact dS_app l r _ a h
  ·cases h
theorem dS_digits:∀ (k u:Nat),u<=k->digS 0 (decDigits u)=some u
 | k,u,hk=>by
  rw [decDigits]
  by_cases h10:u<10
  ·rw [dif_pos h10]
   unfold digS
   rw [dig_nat h10,if_pos (by omega)]
   unfold digS
   congr 1;omega
  ·rw [dif_neg h10]
   match k,hk with
   | 0,hk=>omega
   | k+1,hk =>
    rw [dS_app _ _ 0 _ (dS_digits k (u / 10) (by omega))]
    unfold digS
    rw [dig_nat (by omega),if_pos (by omega)]
    unfold digS
    congr 1;omega
theorem numS_itoa {n:Int} (h:(itoa n).length<=11):numS (itoa n)=some n:=by
 unfold numS
 unfold itoa at h |-
 by_cases hn:n<0
 ·rw [if_pos hn] at h |-
  rw [if_neg (by simp only [List.length_cons] at h |-;simp;omega),if_pos (show (45 :: decDigits n.natAbs:List UInt8).head? = some 45 from rfl)]
  show (if decDigits n.natAbs=[] then none else (digS 0 (decDigits n.natAbs)).map fun (n:Nat)=>-(n:Int))=_
  rw [if_neg (digits_ne _),dS_digits _ _ (Nat.le_refl _)]
  show some (-(n.natAbs:Int))=some n
  congr 1;omega
 ·rw [if_neg hn] at h |-
  obtain ⟨c,r,e,c0,c1⟩:=digits_hd n.toNat n.toNat (Nat.le_refl _)
  rw [if_neg (by rintro (q|q);exact digits_ne _ q;omega),if_neg (by rw [e];intro q;have:=Option.some.inj q;subst this;exact absurd c0 (by decide)),dS_digits _ _ (Nat.le_refl _)]
  show some (n.toNat:Int)=some n
  congr 1;omega
end Pint
namespace Txts
open Go.Deep
def Texts (w:World) (a:Option Addr) (L:List ByteArray):Prop:=L=[] \/ ∃ b off,a=some ⟨b,off,none⟩/\b<w.heap.size/\∀ i (h:i<L.length),w.cell? ⟨b,off+i,none⟩=some (.string L[i])
theorem Texts.below {w w':World} {a:Option Addr} {L:List ByteArray} (h:Texts w a L) (hb:Below w.heap.size w w'):Texts w' a L:=by
 rcases h with h|⟨b,off,ha,hl,hc⟩
 ·exact .inl h
 ·exact .inr ⟨b,off,ha,Nat.lt_of_lt_of_le hl hb.size,fun i hi=>(hb.cell (p:=⟨b,_,none⟩) hl).trans (hc i hi)⟩
theorem infoS:(prog.info? 9).map (fun i=>(i.zero,i.size,i.bytes))=some (some (.string ⟨#[]⟩),1,16):=by kernel_rfl
end Txts
namespace Laie
open Go.ChangeShapes Go.WideShapes Go.RowKit
theorem iface {P:Program} {W:World} {name nm:String} {d:DataW Unit} {rest:List (String × DataW Unit)} {ps:List MemPlace} {g:Nat} {t:TypeId} {ms:Array (String × TypeId)}
  (hg:P.globalNamed name=some g) (hty:(P.globals[g]?).map (·.type)=some t) (ht:P.underlying t=some (.interface ms))
  (h:DataW.LaidVars P W ((name,.iface nm d) :: rest) ps):∃ u v,W.cell? ⟨g,0,none⟩=some (.iface u v):=by
 obtain ⟨g',t',cs,fuel,p,q,hg',ht',hvar,hd,_,_⟩:=h
 obtain rfl:=Option.some.inj (hg.symm.trans hg')
 obtain rfl:=Option.some.inj (hty.symm.trans ht')
 rw [World.var?_cell hg hvar 0]
 obtain ⟨l⟩:=cs
 cases fuel with
 | zero=>simp [DataW.trod] at hd
 | succ fuel =>
  simp only [DataW.trod,ht] at hd
  split at hd
  all_goals first
   | (cases hd;done)
   | (simp_all;done)
   | skip
  all_goals (rename_i hq;first|(exact ⟨_,_,by simp_all⟩)|skip)
end Laie
end Go.Proofs.YtepafieckjnkdaaGreatDoor
