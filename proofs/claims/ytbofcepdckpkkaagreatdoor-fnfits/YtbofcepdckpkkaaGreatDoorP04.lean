import Derived.Test.YtbofcepdckpkkaaGreatDoorP02
set_option linter.all false
set_option maxRecDepth 20000
set_option maxHeartbeats 8000000
open Go.ChangeShapes Go.WideShapes Go.ChangeAt Go.RowKit
open Go.Proofs.Tryz
namespace Go.Proofs.YtbofcepdckpkkaaGreatDoor
namespace Steps
open Names (nameB)
def inB (n low high:Int):Bool:=decide (low<=n/\n<=high)
theorem isWord_any (n:Int) (w:World) :
  Calls prog 58 #[.int .i64 n] w fun e w'=>e=.returned (.bool (inB n 0 65535))/\w'=w:=by
 go_enter func58,ntmps58
 go_wp2
 all_goals go_ret
 all_goals exact ⟨Names.ret_bool (by rw [Bool.eq_iff_iff];simp [inB];try omega),rfl⟩
def nodeB (k n:Int) (s:ByteArray):Bool :=
 if k=1 then inB n 0 65535 && s.toList.isEmpty
 else if k=2 \/ k=3 then n == 0 && nameB s
 else if 4<=k/\k<=17 then n == 0 && s.toList.isEmpty
 else false
end Steps
namespace Hex
open Nums (tab Tab)
def inB (n low high:Int):Bool:=decide (low<=n/\n<=high)
theorem ret_bool {a b:Bool} (h:a=b):Ending.returned (.bool a)=.returned (.bool b):=by rw [h]
theorem isWord_any (n:Int) (w:World) :
  Calls prog 58 #[.int .i64 n] w fun e w'=>e=.returned (.bool (inB n 0 65535))/\w'=w:=by
 go_enter func58,ntmps58
 go_wp2
 all_goals go_ret
 all_goals exact ⟨ret_bool (by rw [Bool.eq_iff_iff];simp [inB];try omega),rfl⟩
theorem l1In_any (n low high:Int) (w:World) :
  Calls prog 33 #[.int .i64 n,.int .i64 low,.int .i64 high] w fun e w'=>e=.returned (.bool (inB n low high))/\w'=w:=by
 go_enter func33,ntmps33
 go_wp2
 all_goals go_ret
 all_goals exact ⟨ret_bool (by rw [Bool.eq_iff_iff];simp [inB];try omega),rfl⟩
theorem size_pos {w:World} (hT:Tab w):8<w.heap.size:=by
 have h:=hT 0 (by decide)
 rcases Nat.lt_or_ge 8 w.heap.size with a|a
 ·exact a
 ·rw [World.cell?,Array.getElem?_eq_none a] at h;cases h
def digs (n:Int):Nat->List Int
 | 0=>[]
 | k+1=>digs (n / 16) k ++ [tab.getD (n%16).toNat 0]
abbrev hexs:ByteArray:=⟨#[48,49,50,51,52,53,54,55,56,57,65,66,67,68,69,70]⟩
def one (m:Int):ByteArray:=strOfNums [tab.getD m.toNat 0]
theorem one_size (m:Int):(one m).size=1:=by unfold one;rw [strOfNums_size];rfl
theorem slice_nat (u:World):∀ k:Nat,k<16->(Instr.slice 9 (.string hexs) (some (.int .i64 (k:Int))) (some (.int .i64 ((k:Int)+1))) none).run prog u=.ok (.string (one (k:Int))) u
 | 0,_=>by kernel_rfl
 | 1,_=>by kernel_rfl
 | 2,_=>by kernel_rfl
 | 3,_=>by kernel_rfl
 | 4,_=>by kernel_rfl
 | 5,_=>by kernel_rfl
 | 6,_=>by kernel_rfl
 | 7,_=>by kernel_rfl
 | 8,_=>by kernel_rfl
 | 9,_=>by kernel_rfl
 | 10,_=>by kernel_rfl
 | 11,_=>by kernel_rfl
 | 12,_=>by kernel_rfl
 | 13,_=>by kernel_rfl
 | 14,_=>by kernel_rfl
 | 15,_=>by kernel_rfl
 | k+16,h=>absurd h (by omega)
theorem slice_one (m:Int) (h0:0<=m) (h1:m<16) (u:World):(Instr.slice 9 (.string hexs) (some (.int .i64 m)) (some (.int .i64 (m+1))) none).run prog u=.ok (.string (one m)) u:=by
 obtain ⟨k,rfl⟩:=Int.eq_ofNat_of_zero_le h0
 exact slice_nat u k (by omega)
theorem str_append (a b:List Int):strOfNums a ++ strOfNums b=strOfNums (a ++ b):=by
 apply ByteArray.ext
 rw [ByteArray.data_append]
 simp [strOfNums]
theorem nil_str:(⟨#[]⟩ : ByteArray)=strOfNums []:=rfl
theorem dollar_str:(⟨#[36]⟩ : ByteArray)=strOfNums [36]:=rfl
def pw (d:Int):Int:=16 ^ d.toNat
def hexS (n d:Int):ByteArray:=if 1<=d/\d<=4/\0<=n/\n<=65535/\n / pw d=0 then strOfNums (36 :: digs n d.toNat) else ⟨#[]⟩
theorem hexS_no {n d:Int} (h:¬ (1<=d/\d<=4/\0<=n/\n<=65535/\n / pw d=0)):hexS n d=⟨#[]⟩:=if_neg h
theorem hexS_yes {n d:Int} (h:1<=d/\d<=4/\0<=n/\n<=65535/\n / pw d=0):hexS n d=strOfNums (36 :: digs n d.toNat):=if_pos h
theorem ret_str {a b:ByteArray} (h:a=b):Ending.returned (.string a)=.returned (.string b):=by rw [h]
set_option maxRecDepth 100000 in
theorem impl1y (n:Int) (w:World) (h0:0<=n) (h1:n<=65535) (hT:Tab w) (hq:n / 16=0) :
  Calls prog 68 #[.int .i64 n,.int .i64 1] w fun e w'=>e=.returned (.string (strOfNums (36 :: digs n 1)))/\Below w.heap.size w w':=by
 have hb:(n / 16 != 0)=false:=by simp;omega
 clear hq
 have hmk:∀ w,(Instr.makeSlice 22 (.int .i64 2) (.int .i64 2)).run prog w=.ok (.slice (some ⟨w.heap.size,0,none⟩) 2 2) (w.alloc (.cells #[.int .u8 0,.int .u8 0] 5)):=fun _=>by kernel_rfl
 have hi:inB n 0 65535=true:=decide_eq_true ⟨h0,h1⟩
 have hz:=size_pos hT
 have t0:=hT (n%16).toNat (by omega)
 obtain ⟨x0,hx0⟩ : ∃ x,x=tab.getD (n%16).toNat 0:=⟨_,rfl⟩
 rw [<- hx0] at t0
 have HX:Hid (digs n 1=[x0]):=by
  show digs n 1=_
  simp only [digs,List.nil_append]
  rw [<- hx0]
 clear hT hx0
 have hcv:∀ u:World,(convert 22 9 (.slice (some ⟨u.heap.size,0,none⟩) 2 2)).run prog (u.alloc (.cells #[.int .u8 36,.int .u8 x0] 5))=.ok (.string (strOfNums [36,x0])) (u.alloc (.cells #[.int .u8 36,.int .u8 x0] 5)):=fun u =>
  run_convert_bytes_arg _ 22 5 underlying22 underlying5 u.heap.size 0 2 2 [36,x0] rfl (fun i hi=>by
   rw [Nat.zero_add,World.cell?_alloc_new]
   match i,hi with
   | 0,_=>rfl
   | 1,_=>rfl) 9 underlying9
 go_enter func68,ntmps68
 go_wp2_with (go_at_call 58;refine (isWord_any _ _).mono ?_;rintro e w' ⟨rfl,rfl⟩)
 refine wp_loop_rounds 2 ?_
 rw [rounds_succ]
 go_wp2
 rw [rounds_succ]
 go_wp2
 go_ret
 exact ⟨by rw [HX.out];rfl,zAl _ _⟩
set_option maxRecDepth 100000 in
theorem impl1n (n:Int) (w:World) (h0:0<=n) (h1:n<=65535) (hT:Tab w) (hq:¬ n / 16=0) :
  Calls prog 68 #[.int .i64 n,.int .i64 1] w fun e w'=>e=.returned (.string (⟨#[]⟩))/\Below w.heap.size w w':=by
 have hb:(n / 16 != 0)=true:=by simp;omega
 clear hq
 have hmk:∀ w,(Instr.makeSlice 22 (.int .i64 2) (.int .i64 2)).run prog w=.ok (.slice (some ⟨w.heap.size,0,none⟩) 2 2) (w.alloc (.cells #[.int .u8 0,.int .u8 0] 5)):=fun _=>by kernel_rfl
 have hi:inB n 0 65535=true:=decide_eq_true ⟨h0,h1⟩
 have hz:=size_pos hT
 have t0:=hT (n%16).toNat (by omega)
 obtain ⟨x0,hx0⟩ : ∃ x,x=tab.getD (n%16).toNat 0:=⟨_,rfl⟩
 rw [<- hx0] at t0
 have HX:Hid (digs n 1=[x0]):=by
  show digs n 1=_
  simp only [digs,List.nil_append]
  rw [<- hx0]
 clear hT hx0
 go_enter func68,ntmps68
 go_wp2_with (go_at_call 58;refine (isWord_any _ _).mono ?_;rintro e w' ⟨rfl,rfl⟩)
 refine wp_loop_rounds 2 ?_
 rw [rounds_succ]
 go_wp2
 rw [rounds_succ]
 go_wp2
 go_ret
 exact ⟨rfl,zAl _ _⟩
set_option maxRecDepth 100000 in
theorem impl2y (n:Int) (w:World) (h0:0<=n) (h1:n<=65535) (hT:Tab w) (hq:n / 16 / 16=0) :
  Calls prog 68 #[.int .i64 n,.int .i64 2] w fun e w'=>e=.returned (.string (strOfNums (36 :: digs n 2)))/\Below w.heap.size w w':=by
 have hb:(n / 16 / 16 != 0)=false:=by simp;omega
 clear hq
 have hmk:∀ w,(Instr.makeSlice 22 (.int .i64 3) (.int .i64 3)).run prog w=.ok (.slice (some ⟨w.heap.size,0,none⟩) 3 3) (w.alloc (.cells #[.int .u8 0,.int .u8 0,.int .u8 0] 5)):=fun _=>by kernel_rfl
 have hi:inB n 0 65535=true:=decide_eq_true ⟨h0,h1⟩
 have hz:=size_pos hT
 have t0:=hT (n%16).toNat (by omega)
 have t1:=hT (n / 16%16).toNat (by omega)
 obtain ⟨x0,hx0⟩ : ∃ x,x=tab.getD (n%16).toNat 0:=⟨_,rfl⟩
 rw [<- hx0] at t0
 obtain ⟨x1,hx1⟩ : ∃ x,x=tab.getD (n / 16%16).toNat 0:=⟨_,rfl⟩
 rw [<- hx1] at t1
 have HX:Hid (digs n 2=[x1,x0]):=by
  show digs n 2=_
  simp only [digs,List.nil_append,List.cons_append]
  rw [<- hx0,<- hx1]
 clear hT hx0 hx1
 have hcv:∀ u:World,(convert 22 9 (.slice (some ⟨u.heap.size,0,none⟩) 3 3)).run prog (u.alloc (.cells #[.int .u8 36,.int .u8 x1,.int .u8 x0] 5))=.ok (.string (strOfNums [36,x1,x0])) (u.alloc (.cells #[.int .u8 36,.int .u8 x1,.int .u8 x0] 5)):=fun u =>
  run_convert_bytes_arg _ 22 5 underlying22 underlying5 u.heap.size 0 3 3 [36,x1,x0] rfl (fun i hi=>by
   rw [Nat.zero_add,World.cell?_alloc_new]
   match i,hi with
   | 0,_=>rfl
   | 1,_=>rfl
   | 2,_=>rfl) 9 underlying9
 go_enter func68,ntmps68
 go_wp2_with (go_at_call 58;refine (isWord_any _ _).mono ?_;rintro e w' ⟨rfl,rfl⟩)
 refine wp_loop_rounds 3 ?_
 rw [rounds_succ]
 go_wp2
 rw [rounds_succ]
 go_wp2
 rw [rounds_succ]
 go_wp2
 go_ret
 exact ⟨by rw [HX.out];rfl,zAl _ _⟩
set_option maxRecDepth 100000 in
theorem impl2n (n:Int) (w:World) (h0:0<=n) (h1:n<=65535) (hT:Tab w) (hq:¬ n / 16 / 16=0) :
  Calls prog 68 #[.int .i64 n,.int .i64 2] w fun e w'=>e=.returned (.string (⟨#[]⟩))/\Below w.heap.size w w':=by
 have hb:(n / 16 / 16 != 0)=true:=by simp;omega
 clear hq
 have hmk:∀ w,(Instr.makeSlice 22 (.int .i64 3) (.int .i64 3)).run prog w=.ok (.slice (some ⟨w.heap.size,0,none⟩) 3 3) (w.alloc (.cells #[.int .u8 0,.int .u8 0,.int .u8 0] 5)):=fun _=>by kernel_rfl
 have hi:inB n 0 65535=true:=decide_eq_true ⟨h0,h1⟩
 have hz:=size_pos hT
 have t0:=hT (n%16).toNat (by omega)
 have t1:=hT (n / 16%16).toNat (by omega)
 obtain ⟨x0,hx0⟩ : ∃ x,x=tab.getD (n%16).toNat 0:=⟨_,rfl⟩
 rw [<- hx0] at t0
 obtain ⟨x1,hx1⟩ : ∃ x,x=tab.getD (n / 16%16).toNat 0:=⟨_,rfl⟩
 rw [<- hx1] at t1
 have HX:Hid (digs n 2=[x1,x0]):=by
  show digs n 2=_
  simp only [digs,List.nil_append,List.cons_append]
  rw [<- hx0,<- hx1]
 clear hT hx0 hx1
 go_enter func68,ntmps68
 go_wp2_with (go_at_call 58;refine (isWord_any _ _).mono ?_;rintro e w' ⟨rfl,rfl⟩)
 refine wp_loop_rounds 3 ?_
 rw [rounds_succ]
 go_wp2
 rw [rounds_succ]
 go_wp2
 rw [rounds_succ]
 go_wp2
 go_ret
 exact ⟨rfl,zAl _ _⟩
set_option maxRecDepth 100000 in
theorem impl3y (n:Int) (w:World) (h0:0<=n) (h1:n<=65535) (hT:Tab w) (hq:n / 16 / 16 / 16=0) :
  Calls prog 68 #[.int .i64 n,.int .i64 3] w fun e w'=>e=.returned (.string (strOfNums (36 :: digs n 3)))/\Below w.heap.size w w':=by
 have hb:(n / 16 / 16 / 16 != 0)=false:=by simp;omega
 clear hq
 have hmk:∀ w,(Instr.makeSlice 22 (.int .i64 4) (.int .i64 4)).run prog w=.ok (.slice (some ⟨w.heap.size,0,none⟩) 4 4) (w.alloc (.cells #[.int .u8 0,.int .u8 0,.int .u8 0,.int .u8 0] 5)):=fun _=>by kernel_rfl
 have hi:inB n 0 65535=true:=decide_eq_true ⟨h0,h1⟩
 have hz:=size_pos hT
 have t0:=hT (n%16).toNat (by omega)
 have t1:=hT (n / 16%16).toNat (by omega)
 have t2:=hT (n / 16 / 16%16).toNat (by omega)
 obtain ⟨x0,hx0⟩ : ∃ x,x=tab.getD (n%16).toNat 0:=⟨_,rfl⟩
 rw [<- hx0] at t0
 obtain ⟨x1,hx1⟩ : ∃ x,x=tab.getD (n / 16%16).toNat 0:=⟨_,rfl⟩
 rw [<- hx1] at t1
 obtain ⟨x2,hx2⟩ : ∃ x,x=tab.getD (n / 16 / 16%16).toNat 0:=⟨_,rfl⟩
 rw [<- hx2] at t2
 have HX:Hid (digs n 3=[x2,x1,x0]):=by
  show digs n 3=_
  simp only [digs,List.nil_append,List.cons_append]
  rw [<- hx0,<- hx1,<- hx2]
 clear hT hx0 hx1 hx2
 have hcv:∀ u:World,(convert 22 9 (.slice (some ⟨u.heap.size,0,none⟩) 4 4)).run prog (u.alloc (.cells #[.int .u8 36,.int .u8 x2,.int .u8 x1,.int .u8 x0] 5))=.ok (.string (strOfNums [36,x2,x1,x0])) (u.alloc (.cells #[.int .u8 36,.int .u8 x2,.int .u8 x1,.int .u8 x0] 5)):=fun u =>
  run_convert_bytes_arg _ 22 5 underlying22 underlying5 u.heap.size 0 4 4 [36,x2,x1,x0] rfl (fun i hi=>by
   rw [Nat.zero_add,World.cell?_alloc_new]
   match i,hi with
   | 0,_=>rfl
   | 1,_=>rfl
   | 2,_=>rfl
   | 3,_=>rfl) 9 underlying9
 go_enter func68,ntmps68
 go_wp2_with (go_at_call 58;refine (isWord_any _ _).mono ?_;rintro e w' ⟨rfl,rfl⟩)
 refine wp_loop_rounds 4 ?_
 rw [rounds_succ]
 go_wp2
 rw [rounds_succ]
 go_wp2
 rw [rounds_succ]
 go_wp2
 rw [rounds_succ]
 go_wp2
 go_ret
 exact ⟨by rw [HX.out];rfl,zAl _ _⟩
set_option maxRecDepth 100000 in
theorem impl3n (n:Int) (w:World) (h0:0<=n) (h1:n<=65535) (hT:Tab w) (hq:¬ n / 16 / 16 / 16=0) :
  Calls prog 68 #[.int .i64 n,.int .i64 3] w fun e w'=>e=.returned (.string (⟨#[]⟩))/\Below w.heap.size w w':=by
 have hb:(n / 16 / 16 / 16 != 0)=true:=by simp;omega
 clear hq
 have hmk:∀ w,(Instr.makeSlice 22 (.int .i64 4) (.int .i64 4)).run prog w=.ok (.slice (some ⟨w.heap.size,0,none⟩) 4 4) (w.alloc (.cells #[.int .u8 0,.int .u8 0,.int .u8 0,.int .u8 0] 5)):=fun _=>by kernel_rfl
 have hi:inB n 0 65535=true:=decide_eq_true ⟨h0,h1⟩
 have hz:=size_pos hT
 have t0:=hT (n%16).toNat (by omega)
 have t1:=hT (n / 16%16).toNat (by omega)
 have t2:=hT (n / 16 / 16%16).toNat (by omega)
 obtain ⟨x0,hx0⟩ : ∃ x,x=tab.getD (n%16).toNat 0:=⟨_,rfl⟩
 rw [<- hx0] at t0
 obtain ⟨x1,hx1⟩ : ∃ x,x=tab.getD (n / 16%16).toNat 0:=⟨_,rfl⟩
 rw [<- hx1] at t1
 obtain ⟨x2,hx2⟩ : ∃ x,x=tab.getD (n / 16 / 16%16).toNat 0:=⟨_,rfl⟩
 rw [<- hx2] at t2
 have HX:Hid (digs n 3=[x2,x1,x0]):=by
  show digs n 3=_
  simp only [digs,List.nil_append,List.cons_append]
  rw [<- hx0,<- hx1,<- hx2]
 clear hT hx0 hx1 hx2
 go_enter func68,ntmps68
 go_wp2_with (go_at_call 58;refine (isWord_any _ _).mono ?_;rintro e w' ⟨rfl,rfl⟩)
 refine wp_loop_rounds 4 ?_
 rw [rounds_succ]
 go_wp2
 rw [rounds_succ]
 go_wp2
 rw [rounds_succ]
 go_wp2
 rw [rounds_succ]
 go_wp2
 go_ret
 exact ⟨rfl,zAl _ _⟩
set_option maxRecDepth 100000 in
theorem impl4y (n:Int) (w:World) (h0:0<=n) (h1:n<=65535) (hT:Tab w) (hq:n / 16 / 16 / 16 / 16=0) :
  Calls prog 68 #[.int .i64 n,.int .i64 4] w fun e w'=>e=.returned (.string (strOfNums (36 :: digs n 4)))/\Below w.heap.size w w':=by
 have hb:(n / 16 / 16 / 16 / 16 != 0)=false:=by simp;omega
 clear hq
 have hmk:∀ w,(Instr.makeSlice 22 (.int .i64 5) (.int .i64 5)).run prog w=.ok (.slice (some ⟨w.heap.size,0,none⟩) 5 5) (w.alloc (.cells #[.int .u8 0,.int .u8 0,.int .u8 0,.int .u8 0,.int .u8 0] 5)):=fun _=>by kernel_rfl
 have hi:inB n 0 65535=true:=decide_eq_true ⟨h0,h1⟩
 have hz:=size_pos hT
 have t0:=hT (n%16).toNat (by omega)
 have t1:=hT (n / 16%16).toNat (by omega)
 have t2:=hT (n / 16 / 16%16).toNat (by omega)
 have t3:=hT (n / 16 / 16 / 16%16).toNat (by omega)
 obtain ⟨x0,hx0⟩ : ∃ x,x=tab.getD (n%16).toNat 0:=⟨_,rfl⟩
 rw [<- hx0] at t0
 obtain ⟨x1,hx1⟩ : ∃ x,x=tab.getD (n / 16%16).toNat 0:=⟨_,rfl⟩
 rw [<- hx1] at t1
 obtain ⟨x2,hx2⟩ : ∃ x,x=tab.getD (n / 16 / 16%16).toNat 0:=⟨_,rfl⟩
 rw [<- hx2] at t2
 obtain ⟨x3,hx3⟩ : ∃ x,x=tab.getD (n / 16 / 16 / 16%16).toNat 0:=⟨_,rfl⟩
 rw [<- hx3] at t3
 have HX:Hid (digs n 4=[x3,x2,x1,x0]):=by
  show digs n 4=_
  simp only [digs,List.nil_append,List.cons_append]
  rw [<- hx0,<- hx1,<- hx2,<- hx3]
 clear hT hx0 hx1 hx2 hx3
 have hcv:∀ u:World,(convert 22 9 (.slice (some ⟨u.heap.size,0,none⟩) 5 5)).run prog (u.alloc (.cells #[.int .u8 36,.int .u8 x3,.int .u8 x2,.int .u8 x1,.int .u8 x0] 5))=.ok (.string (strOfNums [36,x3,x2,x1,x0])) (u.alloc (.cells #[.int .u8 36,.int .u8 x3,.int .u8 x2,.int .u8 x1,.int .u8 x0] 5)):=fun u =>
  run_convert_bytes_arg _ 22 5 underlying22 underlying5 u.heap.size 0 5 5 [36,x3,x2,x1,x0] rfl (fun i hi=>by
   rw [Nat.zero_add,World.cell?_alloc_new]
   match i,hi with
   | 0,_=>rfl
   | 1,_=>rfl
   | 2,_=>rfl
   | 3,_=>rfl
   | 4,_=>rfl) 9 underlying9
 go_enter func68,ntmps68
 go_wp2_with (go_at_call 58;refine (isWord_any _ _).mono ?_;rintro e w' ⟨rfl,rfl⟩)
 refine wp_loop_rounds 5 ?_
 rw [rounds_succ]
 go_wp2
 rw [rounds_succ]
 go_wp2
 rw [rounds_succ]
 go_wp2
 rw [rounds_succ]
 go_wp2
 rw [rounds_succ]
 go_wp2
 go_ret
 exact ⟨by rw [HX.out];rfl,zAl _ _⟩
theorem impl4n (n:Int) (w:World) (_h0:0<=n) (_h1:n<=65535) (_hT:Tab w) (hq:¬ n / 16 / 16 / 16 / 16=0) :
  Calls prog 68 #[.int .i64 n,.int .i64 4] w fun e w'=>e=.returned (.string (⟨#[]⟩))/\Below w.heap.size w w':=absurd (by omega) hq
set_option maxRecDepth 100000 in
theorem spec1y (n:Int) (w:World) (h0:0<=n) (h1:n<=65535) (hq:n / 16=0) :
  Calls prog 35 #[.int .i64 n,.int .i64 1] w fun e w'=>e=.returned (.string (strOfNums (36 :: digs n 1)))/\w'=w:=by
 have hb:¬ 0<n / 16:=by omega
 clear hq
 have hi:inB n 0 65535=true:=decide_eq_true ⟨h0,h1⟩
 have hd:inB 1 1 4=true:=rfl
 have s0:=slice_one (n%16) (by omega) (by omega)
 have z0:(one (n%16)).size=1:=one_size _
 go_enter func35,ntmps35
 go_wp2_with (go_at_call 33;refine (l1In_any _ _ _ _).mono ?_;rintro e w' ⟨rfl,rfl⟩)
 refine wp_loop_rounds 2 ?_
 rw [rounds_succ]
 go_wp2
 rw [rounds_succ]
 go_wp2
 go_ret
 exact ⟨ret_str (by rw [nil_str,dollar_str];simp only [one,str_append,digs,List.nil_append,List.cons_append]),rfl⟩
set_option maxRecDepth 100000 in
theorem spec1n (n:Int) (w:World) (h0:0<=n) (h1:n<=65535) (hq:¬ n / 16=0) :
  Calls prog 35 #[.int .i64 n,.int .i64 1] w fun e w'=>e=.returned (.string (⟨#[]⟩))/\w'=w:=by
 have hb:0<n / 16:=by omega
 clear hq
 have hi:inB n 0 65535=true:=decide_eq_true ⟨h0,h1⟩
 have hd:inB 1 1 4=true:=rfl
 have s0:=slice_one (n%16) (by omega) (by omega)
 have z0:(one (n%16)).size=1:=one_size _
 go_enter func35,ntmps35
 go_wp2_with (go_at_call 33;refine (l1In_any _ _ _ _).mono ?_;rintro e w' ⟨rfl,rfl⟩)
 refine wp_loop_rounds 2 ?_
 rw [rounds_succ]
 go_wp2
 rw [rounds_succ]
 go_wp2
 go_ret
 exact ⟨rfl,rfl⟩
set_option maxRecDepth 100000 in
theorem spec2y (n:Int) (w:World) (h0:0<=n) (h1:n<=65535) (hq:n / 16 / 16=0) :
  Calls prog 35 #[.int .i64 n,.int .i64 2] w fun e w'=>e=.returned (.string (strOfNums (36 :: digs n 2)))/\w'=w:=by
 have hb:¬ 0<n / 16 / 16:=by omega
 clear hq
 have hi:inB n 0 65535=true:=decide_eq_true ⟨h0,h1⟩
 have hd:inB 2 1 4=true:=rfl
 have s0:=slice_one (n%16) (by omega) (by omega)
 have z0:(one (n%16)).size=1:=one_size _
 have s1:=slice_one (n / 16%16) (by omega) (by omega)
 have z1:(one (n / 16%16)).size=1:=one_size _
 go_enter func35,ntmps35
 go_wp2_with (go_at_call 33;refine (l1In_any _ _ _ _).mono ?_;rintro e w' ⟨rfl,rfl⟩)
 refine wp_loop_rounds 3 ?_
 rw [rounds_succ]
 go_wp2
 rw [rounds_succ]
 go_wp2
 rw [rounds_succ]
 go_wp2
 go_ret
 exact ⟨ret_str (by rw [nil_str,dollar_str];simp only [one,str_append,digs,List.nil_append,List.cons_append]),rfl⟩
set_option maxRecDepth 100000 in
theorem spec2n (n:Int) (w:World) (h0:0<=n) (h1:n<=65535) (hq:¬ n / 16 / 16=0) :
  Calls prog 35 #[.int .i64 n,.int .i64 2] w fun e w'=>e=.returned (.string (⟨#[]⟩))/\w'=w:=by
 have hb:0<n / 16 / 16:=by omega
 clear hq
 have hi:inB n 0 65535=true:=decide_eq_true ⟨h0,h1⟩
 have hd:inB 2 1 4=true:=rfl
 have s0:=slice_one (n%16) (by omega) (by omega)
 have z0:(one (n%16)).size=1:=one_size _
 have s1:=slice_one (n / 16%16) (by omega) (by omega)
 have z1:(one (n / 16%16)).size=1:=one_size _
 go_enter func35,ntmps35
 go_wp2_with (go_at_call 33;refine (l1In_any _ _ _ _).mono ?_;rintro e w' ⟨rfl,rfl⟩)
 refine wp_loop_rounds 3 ?_
 rw [rounds_succ]
 go_wp2
 rw [rounds_succ]
 go_wp2
 rw [rounds_succ]
 go_wp2
 go_ret
 exact ⟨rfl,rfl⟩
set_option maxRecDepth 100000 in
theorem spec3y (n:Int) (w:World) (h0:0<=n) (h1:n<=65535) (hq:n / 16 / 16 / 16=0) :
  Calls prog 35 #[.int .i64 n,.int .i64 3] w fun e w'=>e=.returned (.string (strOfNums (36 :: digs n 3)))/\w'=w:=by
 have hb:¬ 0<n / 16 / 16 / 16:=by omega
 clear hq
 have hi:inB n 0 65535=true:=decide_eq_true ⟨h0,h1⟩
 have hd:inB 3 1 4=true:=rfl
 have s0:=slice_one (n%16) (by omega) (by omega)
 have z0:(one (n%16)).size=1:=one_size _
 have s1:=slice_one (n / 16%16) (by omega) (by omega)
 have z1:(one (n / 16%16)).size=1:=one_size _
 have s2:=slice_one (n / 16 / 16%16) (by omega) (by omega)
 have z2:(one (n / 16 / 16%16)).size=1:=one_size _
 go_enter func35,ntmps35
 go_wp2_with (go_at_call 33;refine (l1In_any _ _ _ _).mono ?_;rintro e w' ⟨rfl,rfl⟩)
 refine wp_loop_rounds 4 ?_
 rw [rounds_succ]
 go_wp2
 rw [rounds_succ]
 go_wp2
 rw [rounds_succ]
 go_wp2
 rw [rounds_succ]
 go_wp2
 go_ret
 exact ⟨ret_str (by rw [nil_str,dollar_str];simp only [one,str_append,digs,List.nil_append,List.cons_append]),rfl⟩
set_option maxRecDepth 100000 in
theorem spec3n (n:Int) (w:World) (h0:0<=n) (h1:n<=65535) (hq:¬ n / 16 / 16 / 16=0) :
  Calls prog 35 #[.int .i64 n,.int .i64 3] w fun e w'=>e=.returned (.string (⟨#[]⟩))/\w'=w:=by
 have hb:0<n / 16 / 16 / 16:=by omega
 clear hq
 have hi:inB n 0 65535=true:=decide_eq_true ⟨h0,h1⟩
 have hd:inB 3 1 4=true:=rfl
 have s0:=slice_one (n%16) (by omega) (by omega)
 have z0:(one (n%16)).size=1:=one_size _
 have s1:=slice_one (n / 16%16) (by omega) (by omega)
 have z1:(one (n / 16%16)).size=1:=one_size _
 have s2:=slice_one (n / 16 / 16%16) (by omega) (by omega)
 have z2:(one (n / 16 / 16%16)).size=1:=one_size _
 go_enter func35,ntmps35
 go_wp2_with (go_at_call 33;refine (l1In_any _ _ _ _).mono ?_;rintro e w' ⟨rfl,rfl⟩)
 refine wp_loop_rounds 4 ?_
 rw [rounds_succ]
 go_wp2
 rw [rounds_succ]
 go_wp2
 rw [rounds_succ]
 go_wp2
 rw [rounds_succ]
 go_wp2
 go_ret
 exact ⟨rfl,rfl⟩
set_option maxRecDepth 100000 in
theorem spec4y (n:Int) (w:World) (h0:0<=n) (h1:n<=65535) (hq:n / 16 / 16 / 16 / 16=0) :
  Calls prog 35 #[.int .i64 n,.int .i64 4] w fun e w'=>e=.returned (.string (strOfNums (36 :: digs n 4)))/\w'=w:=by
 have hb:¬ 0<n / 16 / 16 / 16 / 16:=by omega
 clear hq
 have hi:inB n 0 65535=true:=decide_eq_true ⟨h0,h1⟩
 have hd:inB 4 1 4=true:=rfl
 have s0:=slice_one (n%16) (by omega) (by omega)
 have z0:(one (n%16)).size=1:=one_size _
 have s1:=slice_one (n / 16%16) (by omega) (by omega)
 have z1:(one (n / 16%16)).size=1:=one_size _
 have s2:=slice_one (n / 16 / 16%16) (by omega) (by omega)
 have z2:(one (n / 16 / 16%16)).size=1:=one_size _
 have s3:=slice_one (n / 16 / 16 / 16%16) (by omega) (by omega)
 have z3:(one (n / 16 / 16 / 16%16)).size=1:=one_size _
 go_enter func35,ntmps35
 go_wp2_with (go_at_call 33;refine (l1In_any _ _ _ _).mono ?_;rintro e w' ⟨rfl,rfl⟩)
 refine wp_loop_rounds 5 ?_
 rw [rounds_succ]
 go_wp2
 rw [rounds_succ]
 go_wp2
 rw [rounds_succ]
 go_wp2
 rw [rounds_succ]
 go_wp2
 rw [rounds_succ]
 go_wp2
 go_ret
 exact ⟨ret_str (by rw [nil_str,dollar_str];simp only [one,str_append,digs,List.nil_append,List.cons_append]),rfl⟩
theorem spec4n (n:Int) (w:World) (_h0:0<=n) (_h1:n<=65535) (hq:¬ n / 16 / 16 / 16 / 16=0) :
  Calls prog 35 #[.int .i64 n,.int .i64 4] w fun e w'=>e=.returned (.string (⟨#[]⟩))/\w'=w:=absurd (by omega) hq
theorem implHex_any (n d:Int) (w:World) (hT:Tab w) :
  Calls prog 68 #[.int .i64 n,.int .i64 d] w fun e w'=>e=.returned (.string (hexS n d))/\Below w.heap.size w w':=by
 by_cases hd:d<1
 ·rw [hexS_no (by omega)]
  clear hT
  go_enter func68,ntmps68
  go_wp2
  go_ret
  exact ⟨rfl,Below.refl _ _⟩
 by_cases hd':4<d
 ·rw [hexS_no (by omega)]
  clear hT
  go_enter func68,ntmps68
  go_wp2
  go_ret
  exact ⟨rfl,Below.refl _ _⟩
 by_cases hn:0<=n/\n<=65535
 ·obtain ⟨h0,h1⟩:=hn
  have hdd:d=1 \/ d=2 \/ d=3 \/ d=4:=by omega
  rcases hdd with rfl|rfl|rfl|rfl
  ·have e:n / pw 1=n / 16:=by unfold pw;show n / (16 ^ 1)=_;omega
   by_cases hq:n / 16=0
   ·rw [hexS_yes ⟨by decide,by decide,h0,h1,by omega⟩]
    exact impl1y n w h0 h1 hT hq
   ·rw [hexS_no (fun h=>hq (by omega))]
    exact impl1n n w h0 h1 hT hq
  ·have e:n / pw 2=n / 16 / 16:=by unfold pw;show n / (16 ^ 2)=_;omega
   by_cases hq:n / 16 / 16=0
   ·rw [hexS_yes ⟨by decide,by decide,h0,h1,by omega⟩]
    exact impl2y n w h0 h1 hT hq
   ·rw [hexS_no (fun h=>hq (by omega))]
    exact impl2n n w h0 h1 hT hq
  ·have e:n / pw 3=n / 16 / 16 / 16:=by unfold pw;show n / (16 ^ 3)=_;omega
   by_cases hq:n / 16 / 16 / 16=0
   ·rw [hexS_yes ⟨by decide,by decide,h0,h1,by omega⟩]
    exact impl3y n w h0 h1 hT hq
   ·rw [hexS_no (fun h=>hq (by omega))]
    exact impl3n n w h0 h1 hT hq
  ·have e:n / pw 4=n / 16 / 16 / 16 / 16:=by unfold pw;show n / (16 ^ 4)=_;omega
   by_cases hq:n / 16 / 16 / 16 / 16=0
   ·rw [hexS_yes ⟨by decide,by decide,h0,h1,by omega⟩]
    exact impl4y n w h0 h1 hT hq
   ·rw [hexS_no (fun h=>hq (by omega))]
    exact impl4n n w h0 h1 hT hq
 ·rw [hexS_no (by omega)]
  have hi:inB n 0 65535=false:=decide_eq_false hn
  clear hn hT
  go_enter func68,ntmps68
  go_wp2_with (go_at_call 58;refine (isWord_any _ _).mono ?_;rintro e w' ⟨rfl,rfl⟩)
  go_ret
  exact ⟨rfl,Below.refl _ _⟩
theorem specHex_any (n d:Int) (w:World) :
  Calls prog 35 #[.int .i64 n,.int .i64 d] w fun e w'=>e=.returned (.string (hexS n d))/\w'=w:=by
 by_cases hd:¬ (1<=d/\d<=4)
 ·rw [hexS_no (by omega)]
  have hi:inB d 1 4=false:=decide_eq_false hd
  clear hd
  go_enter func35,ntmps35
  go_wp2_with (go_at_call 33;refine (l1In_any _ _ _ _).mono ?_;rintro e w' ⟨rfl,rfl⟩)
  go_ret
  exact ⟨rfl,rfl⟩
 by_cases hn:0<=n/\n<=65535
 ·obtain ⟨h0,h1⟩:=hn
  have hdd:d=1 \/ d=2 \/ d=3 \/ d=4:=by omega
  rcases hdd with rfl|rfl|rfl|rfl
  ·have e:n / pw 1=n / 16:=by unfold pw;show n / (16 ^ 1)=_;omega
   by_cases hq:n / 16=0
   ·rw [hexS_yes ⟨by decide,by decide,h0,h1,by omega⟩]
    exact spec1y n w h0 h1 hq
   ·rw [hexS_no (fun h=>hq (by omega))]
    exact spec1n n w h0 h1 hq
  ·have e:n / pw 2=n / 16 / 16:=by unfold pw;show n / (16 ^ 2)=_;omega
   by_cases hq:n / 16 / 16=0
   ·rw [hexS_yes ⟨by decide,by decide,h0,h1,by omega⟩]
    exact spec2y n w h0 h1 hq
   ·rw [hexS_no (fun h=>hq (by omega))]
    exact spec2n n w h0 h1 hq
  ·have e:n / pw 3=n / 16 / 16 / 16:=by unfold pw;show n / (16 ^ 3)=_;omega
   by_cases hq:n / 16 / 16 / 16=0
   ·rw [hexS_yes ⟨by decide,by decide,h0,h1,by omega⟩]
    exact spec3y n w h0 h1 hq
   ·rw [hexS_no (fun h=>hq (by omega))]
    exact spec3n n w h0 h1 hq
  ·have e:n / pw 4=n / 16 / 16 / 16 / 16:=by unfold pw;show n / (16 ^ 4)=_;omega
   by_cases hq:n / 16 / 16 / 16 / 16=0
   ·rw [hexS_yes ⟨by decide,by decide,h0,h1,by omega⟩]
    exact spec4y n w h0 h1 hq
   ·rw [hexS_no (fun h=>hq (by omega))]
    exact spec4n n w h0 h1 hq
 ·rw [hexS_no (by omega)]
  have hi:inB n 0 65535=false:=decide_eq_false hn
  have hi':inB d 1 4=true:=decide_eq_true (Classical.not_not.1 hd)
  clear hn hd
  go_enter func35,ntmps35
  go_wp2_with (go_at_call 33;refine (l1In_any _ _ _ _).mono ?_;rintro e w' ⟨rfl,rfl⟩)
  go_ret
  exact ⟨rfl,rfl⟩
end Hex
namespace Draw
open Rdr (Rd Post)
def dec (n:Int) (t:ByteArray):ByteArray:=if n<10 then strOfNums [48+n] ++ t else dec (n / 10) (strOfNums [48+n%10] ++ t)
termination_by n.toNat
decreasing_by omega
theorem dec_small {n:Int} {t:ByteArray} (h:n<10):dec n t=strOfNums [48+n] ++ t:=by rw [dec,if_pos h]
theorem dec_great {n:Int} {t:ByteArray} (h:¬ n<10):dec n t=dec (n / 10) (strOfNums [48+n%10] ++ t):=by rw [dec,if_neg h]
theorem one_size (x:Int):(strOfNums [x]).size=1:=strOfNums_size _
theorem cat_size (x:Int) (t:ByteArray):(strOfNums [x] ++ t).size=t.size+1:=by rw [ByteArray.size_append,one_size];omega
theorem l1Dec_any (n:Int) (w:World) (h0:0<=n) (h1:n<=1000000000) :
  Calls prog 36 #[.int .i64 n] w fun e w'=>e=.returned (.string (dec n ⟨#[]⟩))/\Below w.heap.size w w':=by
 have hcv:∀ (u:World) (x:Int),(convert 22 9 (.slice (some ⟨u.heap.size,0,none⟩) 1 1)).run prog (u.alloc (.cells #[.int .u8 x] 5))=.ok (.string (strOfNums [x])) (u.alloc (.cells #[.int .u8 x] 5)):=fun u x =>
  run_convert_bytes_arg _ 22 5 underlying22 underlying5 u.heap.size 0 1 1 [x] rfl (fun i hi=>by
   rw [Nat.zero_add,World.cell?_alloc_new]
   match i,hi with
   | 0,_=>rfl) 9 underlying9
 have hsz:=one_size
 obtain ⟨r,hr⟩ : ∃ r,r=dec n ⟨#[]⟩:=⟨_,rfl⟩
 rw [<- hr]
 go_enter func36,ntmps36
 go_wp2
 go_loopw [0,3] (fun v t wr=>∃ (m:Int) (s:ByteArray),0<=m/\(s.size:Int)+m<=n/\v=.int .i64 m/\t=.string s/\Hid (r=dec m s)/\Hid (Below w.heap.size w wr)) (fun v _ _=>(intOf v).toNat)
 case atStart=>exact ⟨n,⟨#[]⟩,h0,by show ((0:Nat):Int)+n<=n;omega,rfl,rfl,hr,Below.refl _ _⟩
 case round =>
  clear hr
  obtain ⟨m,s,hm0,hm1,rfl,rfl,hr,hb⟩:=hrel
  by_cases hlt:10<=m
  ·have HR:Hid (r=dec (m / 10) (strOfNums [48+m%10] ++ s)):=by have:=hr.out;rw [dec_great (by omega)] at this;exact this
   clear hr
   go_wp2
   go_roundw
   case rel=>exact ⟨m / 10,strOfNums [48+m%10] ++ s,by omega,by rw [cat_size];omega,rfl,rfl,HR,hb.out.alloc hb.out.size _⟩
   case measure=>simp [intOf];omega
  ·have HR:Hid (r=strOfNums [48+m] ++ s):=by have:=hr.out;rw [dec_small (by omega)] at this;exact this
   clear hr
   go_wp2
   go_ret
   exact ⟨by rw [HR.out];rfl,hb.out.alloc hb.out.size _⟩
theorem row_cell {W w1 w2:World} {rb:Nat} {C:Array Value} {T:TypeId} (hp:Post W rb w2) (hW:W.heap=(w1.alloc (.cells C T)).heap) (hl:rb<w1.heap.size) (i:Nat):w2.cell? ⟨w1.heap.size,i,none⟩=C[i]?:=by
 have e:w2.heap[w1.heap.size]? = (w1.alloc (.cells C T)).heap[w1.heap.size]?:=by
  rw [hp.2.block _ (by rw [hW];simp) (fun e=>by have:w1.heap.size=rb:=Option.some.inj e;omega),hW]
 exact (World.cell?_of_block (a:=⟨w1.heap.size,i,none⟩) e).trans (World.cell?_alloc_new _ _ _ _)
theorem row_text {W w1 w2:World} {rb:Nat} {T:TypeId} {C:List ByteArray} (k:Nat) (hp:Post W rb w2) (hW:W.heap=(w1.alloc (.cells (C.map Value.string).toArray T)).heap) (hl:rb<w1.heap.size) (hk:∀ t ∈ C,t.size<=k) {y:Int} (y0:0<=y) (y1:y<C.length) :
  ∃ t:ByteArray,t.size<=k/\w2.cell? ⟨w1.heap.size,y.toNat,none⟩=some (.string t):=by
 have h:y.toNat<C.length:=by omega
 refine ⟨C[y.toNat],hk _ (List.getElem_mem h),(row_cell hp hW hl y.toNat).trans ?_⟩
 simp [h]
theorem row_get {C:List ByteArray} (k:Nat) (hk:∀ t ∈ C,t.size<=k) {y:Int} (y0:0<=y) (y1:y<C.length):∃ t:ByteArray,t.size<=k/\∀ h,(C.map Value.string)[y.toNat]'h=.string t:=by
 have h:y.toNat<C.length:=by omega
 exact ⟨C[y.toNat],hk _ (List.getElem_mem h),fun h=>by simp⟩
theorem hurt_any (rb:Nat) (s:ByteArray) (w:World) (h:Rd w rb) (hs:s.size<=100000000) :
  Calls prog 15 #[.pointer (some ⟨rb,0,none⟩),.string s] w fun e w'=>(∃ t:ByteArray,t.size<=s.size+1/\e=.returned (.string t))/\Post w rb w':=by
 have H:Hid (Rd w rb):=h
 clear h
 go_enter func15,ntmps15
 go_wp2_with fail
 refine (Rdr.below_any _ _ _ H.out (by decide) (by decide)).mono ?_
 rintro e w1 ⟨⟨x,x0,x1,rfl⟩,hp⟩
 by_cases e1:x=1
 ·subst e1
  go_wp2_with fail
  refine (Rdr.below_any _ _ _ hp.1 (by omega) (by omega)).mono ?_
  rintro e w2 ⟨⟨y,y0,y1,rfl⟩,hp'⟩
  go_wp2
  go_ret
  exact ⟨⟨_,by rw [ByteArray.size_extract];omega,rfl⟩,hp.trans hp'⟩
 by_cases e2:x=2
 ·subst e2
  by_cases hz:0<s.size
  ·go_wp2_with fail
   refine (Rdr.below_any _ _ _ hp.1 (by omega) (by omega)).mono ?_
   rintro e w2 ⟨⟨y,y0,y1,rfl⟩,hp'⟩
   have hl:=hp'.1.lt
   obtain ⟨k,rfl⟩:=Int.eq_ofNat_of_zero_le y0
   have hk:k<s.size:=by omega
   have hk1:k+1<=s.size:=hk
   have hk0:k<=s.size:=Nat.le_of_lt hk
   have hwr:IntKind.i64.wrap ((k:Int)+1)=(k:Int)+1:=by rw [IntKind.wrap_i64];omega
   have hi0:(0:Int)<=(k:Int)+1:=by omega
   have hi1:(k:Int)+1<=(s.size:Int):=by omega
   have hi2:((k:Int)+1).toNat=k+1:=by omega
   have z1:(s.extract 0 k).size=k:=by rw [ByteArray.size_extract];omega
   have z2:(s.extract (k+1) s.size).size=s.size-(k+1):=by rw [ByteArray.size_extract];omega
   clear y0 y1
   go_wp2_with fail
   go_region_with (first
    | (go_at_call 14;refine (Rdr.below_any _ _ (w2.drew) ?rd (by decide) (by decide)).mono ?_;(case rd=>exact hp'.1.kept (fun _ _=>rfl));rintro e w3 ⟨⟨z,z0,z1,rfl⟩,hp3⟩;obtain ⟨t,ht,hc⟩:=row_get (C:=[⟨#[48]⟩,⟨#[97]⟩,⟨#[32]⟩,⟨#[44]⟩,⟨#[36]⟩,⟨#[43]⟩]) 1 (by decide) z0 z1;have hc:∀ h,([Value.string ⟨#[48]⟩,.string ⟨#[97]⟩,.string ⟨#[32]⟩,.string ⟨#[44]⟩,.string ⟨#[36]⟩,.string ⟨#[43]⟩]:List Value)[z.toNat]'h=.string t:=hc;have q1:¬ 9223372036854775807<k+t.size:=(by omega);have q2:¬ 9223372036854775807<k+t.size+(s.size-(k+1)):=(by omega))
    | (go_at_call 14;refine (Rdr.below_any _ _ _ ?rd (by decide) (by decide)).mono ?_;(case rd=>exact (hp'.alloc _).1.kept (fun _ _=>rfl));rintro e w3 ⟨⟨z,z0,z1,rfl⟩,hp3⟩;obtain ⟨t,ht,hc⟩:=row_text (C:=[⟨#[48]⟩,⟨#[97]⟩,⟨#[32]⟩,⟨#[44]⟩,⟨#[36]⟩,⟨#[43]⟩]) 1 hp3 rfl hl (by decide) z0 z1;have q1:¬ 9223372036854775807<k+t.size:=(by omega);have q2:¬ 9223372036854775807<k+t.size+(s.size-(k+1)):=(by omega)))
   all_goals go_wp2
   all_goals go_ret
   ·exact ⟨⟨s.extract 0 k ++ t ++ s.extract (k+1) s.size,by rw [ByteArray.size_append,ByteArray.size_append];omega,rfl⟩,hp.trans ((hp'.alloc _).trans ⟨hp3.1,⟨hp3.2.os,hp3.2.tape,hp3.2.output,hp3.2.size,hp3.2.block⟩⟩)⟩
   ·exact ⟨⟨s.extract 0 k ++ t ++ s.extract (k+1) s.size,by rw [ByteArray.size_append,ByteArray.size_append];omega,rfl⟩,hp.trans (hp'.trans (Post.alloc (w:=w2) ⟨hp3.1,⟨hp3.2.os,hp3.2.tape,hp3.2.output,hp3.2.size,hp3.2.block⟩⟩ _))⟩
  ·go_wp2
   go_ret
   exact ⟨⟨s,by omega,rfl⟩,hp⟩
 by_cases e3:x=3
 ·subst e3
  go_wp2_with fail
  refine (Rdr.below_any _ _ _ (hp.alloc _).1 (by decide) (by decide)).mono ?_
  rintro e w2 ⟨⟨y,y0,y1,rfl⟩,hp'⟩
  obtain ⟨t,ht,hc⟩:=row_text (C:=[⟨#[32]⟩,⟨#[48]⟩,⟨#[120]⟩]) 1 hp' rfl hp.1.lt (by decide) y0 y1
  go_wp2
  go_ret
  exact ⟨⟨s ++ t,by rw [ByteArray.size_append];omega,rfl⟩,(hp.alloc _).trans hp'⟩
 ·have b1:(x == 1)=false:=by simpa using e1
  have b2:(x == 2)=false:=by simpa using e2
  have b3:(x == 3)=false:=by simpa using e3
  go_wp2
  go_ret
  exact ⟨⟨s,by omega,rfl⟩,hp⟩
end Draw
end Go.Proofs.YtbofcepdckpkkaaGreatDoor
