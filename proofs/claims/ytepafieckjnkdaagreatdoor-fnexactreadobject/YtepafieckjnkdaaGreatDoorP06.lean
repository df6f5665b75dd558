import Derived.Test.YtepafieckjnkdaaGreatDoorP05
set_option linter.all false
set_option maxRecDepth 20000
set_option maxHeartbeats 8000000
open Go.ChangeShapes Go.WideShapes Go.ChangeAt Go.RowKit
open Go.Proofs.Tryz
namespace Go.Proofs.YtepafieckjnkdaaGreatDoor
namespace Nodm
open Go.Deep
open Go.Proofs.YtepafieckjnkdaaGreatDoor.Stepx (Nodes)
def cellsOf (L:List Stepx.Node):List Value:=L.flatMap fun x=>[.int .i64 x.1,.int .i64 x.2.1,.string x.2.2]
theorem cells_len (L:List Stepx.Node):(cellsOf L).length=L.length*3:=by
 unfold cellsOf
 induction L with
 | nil=>rfl
 | cons x L ih=>rw [List.flatMap_cons,List.length_append,ih,List.length_cons];simp;omega
theorem cells_snoc (L:List Stepx.Node) (x:Stepx.Node):cellsOf (L ++ [x])=cellsOf L ++ [.int .i64 x.1,.int .i64 x.2.1,.string x.2.2]:=by
 unfold cellsOf;rw [List.flatMap_append];rfl
theorem cells_at:∀ (L:List Stepx.Node) (i:Nat) (h:i<L.length),(cellsOf L)[i*3]? = some (.int .i64 L[i].1)/\(cellsOf L)[i*3+1]? = some (.int .i64 L[i].2.1)/\(cellsOf L)[i*3+2]? = some (.string L[i].2.2)
 | [],i,h=>absurd h (Nat.not_lt_zero _)
 | x :: L,0,_=>⟨rfl,rfl,rfl⟩
 | x :: L,i+1,h=>by
  have ih:=cells_at L i (by simpa using h)
  have e:cellsOf (x :: L)=.int .i64 x.1 :: .int .i64 x.2.1 :: .string x.2.2 :: cellsOf L:=rfl
  rw [e,show (i+1)*3=i*3+1+1+1 by omega]
  simp only [List.getElem?_cons_succ,List.getElem_cons_succ]
  exact ih
abbrev Own (w:World) (base:Nat) (v:Value) (L:List Stepx.Node):Prop:=w.ownsRow base 111 3 v L.length (cellsOf L)
theorem nodes_own {w:World} {base:Nat} {a:Option Addr} {n cap:Nat} {L:List Stepx.Node} (h:Own w base (.slice a n cap) L) (hz:∀ x ∈ L,x.2.2.size<=1048576):Nodes w a L:=by
 rcases h.2 with ⟨hv,h0⟩|⟨g,c,cur,hv,hb,hg,hn,hm,hs,ht⟩
 ·exact .inl (List.length_eq_zero_iff.1 h0)
 ·cases hv
  have hl:=(h.lt g rfl).2
  refine .inr ⟨g,0,rfl,hl,fun i hi=>?_⟩
  have hc:=h.cellAt
  obtain ⟨a1,a2,a3⟩:=cells_at L i hi
  rw [Nat.zero_add]
  refine ⟨(hc (i*3) (by omega)).trans a1,(hc (i*3+1) (by omega)).trans a2,(hc (i*3+2) (by omega)).trans a3,?_⟩
  have:=hz L[i] (List.getElem_mem hi)
  unfold maxLen;omega
theorem own_below {w w1:World} {base:Nat} {v:Value} {L:List Stepx.Node} (h:Own w base v L) (hb:Below w.heap.size w w1):Own w1 base v L :=
 h.kept (row:=none) ⟨hb.os,hb.tape,hb.output,hb.size,fun k hk _=>hb.block k hk⟩ (by cases hv:Value.ownBlock v <;> simp)
def dg (n:Int) (t:ByteArray):ByteArray:=if n<=0 then t else dg (n / 10) (strOfNums [48+n%10] ++ t)
termination_by n.toNat
decreasing_by omega
theorem dg_end {n:Int} {t:ByteArray} (h:n<=0):dg n t=t:=by rw [dg,if_pos h]
theorem dg_step {n:Int} {t:ByteArray} (h:¬ n<=0):dg n t=dg (n / 10) (strOfNums [48+n%10] ++ t):=by rw [dg,if_neg h]
def mark (k:Int):ByteArray:=⟨#[109]⟩ ++ dg k ⟨#[]⟩
theorem one_size (x:Int):(strOfNums [x]).size=1:=strOfNums_size _
theorem cat_size (x:Int) (t:ByteArray):(strOfNums [x] ++ t).size=t.size+1:=by rw [ByteArray.size_append,one_size];omega
theorem markText_any (n:Int) (w:World) (h0:0<n) (h1:n<=1000000000) :
  Calls prog 93 #[.int .i64 n] w fun e w'=>e=.returned (.string (mark n))/\Below w.heap.size w w':=by
 have hcv:∀ (u:World) (x:Int),(convert 22 9 (.slice (some ⟨u.heap.size,0,none⟩) 1 1)).run prog (u.alloc (.cells #[.int .u8 x] 5))=.ok (.string (strOfNums [x])) (u.alloc (.cells #[.int .u8 x] 5)):=fun u x =>
  run_convert_bytes_arg _ 22 5 underlying22 underlying5 u.heap.size 0 1 1 [x] rfl (fun i hi=>by
   rw [Nat.zero_add,World.cell?_alloc_new]
   match i,hi with
   | 0,_=>rfl) 9 underlying9
 have hsz:=one_size
 obtain ⟨r,hr⟩ : ∃ r,r=dg n ⟨#[]⟩:=⟨_,rfl⟩
 have hm:mark n=⟨#[109]⟩ ++ r:=by rw [hr];rfl
 rw [hm]
 clear hm
 go_enter func93,ntmps93
 go_wp2
 go_loopw [0,3] (fun v t wr=>∃ (m:Int) (s:ByteArray),0<=m/\(s.size:Int)+m<=n/\v=.int .i64 m/\t=.string s/\Hid (r=dg m s)/\Hid (Below w.heap.size w wr)) (fun v _ _=>(intOf v).toNat)
 case atStart=>exact ⟨n,⟨#[]⟩,by omega,by show ((0:Nat):Int)+n<=n;omega,rfl,rfl,hr,Below.refl _ _⟩
 case round =>
  clear hr
  obtain ⟨m,s,hm0,hm1,rfl,rfl,hr,hb⟩:=hrel
  by_cases hlt:0<m
  ·have HR:Hid (r=dg (m / 10) (strOfNums [48+m%10] ++ s)):=by have:=hr.out;rw [dg_step (by omega)] at this;exact this
   clear hr
   go_wp2
   go_roundw
   case rel=>exact ⟨m / 10,strOfNums [48+m%10] ++ s,by omega,by rw [cat_size];omega,rfl,rfl,HR,hb.out.alloc hb.out.size _⟩
   case measure=>simp [intOf];omega
  ·have HR:Hid (r=s):=by have:=hr.out;rw [dg_end (by omega)] at this;exact this
   clear hr
   go_wp2
   go_ret
   exact ⟨by rw [HR.out];rfl,hb.out⟩
theorem grown_of_below {w w1:World} (hb:Below w.heap.size w w1) (row:Option Nat):w.grownBy w1 row:=⟨hb.os,hb.tape,hb.output,hb.size,fun k hk _=>hb.block k hk⟩
theorem own_belowG {w w1:World} {base:Nat} {e:TypeId} {size:Nat} {v:Value} {n:Nat} {xs:List Value} (h:w.ownsRow base e size v n xs) (hb:Below w.heap.size w w1):w1.ownsRow base e size v n xs :=
 h.kept (grown_of_below hb none) (by cases hv:Value.ownBlock v <;> simp)
theorem grown_set (w:World) (g i:Nat) (u:Value):w.grownBy (w.setCell ⟨g,i,none⟩ u) (some g) :=
 ⟨rfl,rfl,rfl,by simp [World.setCell],fun k _ hk=>Below.heap_setCell _ _ _ _ (fun e=>hk (by rw [e]))⟩
def markS (i:Nat):Stepx.Node:=(1+3*(i:Int),2+3*(i:Int),mark (3+3*(i:Int)))
def marks (n:Nat):List Stepx.Node:=(List.range n).map markS
theorem marks_len (n:Nat):(marks n).length=n:=by unfold marks;simp
theorem marks_snoc (n:Nat):marks (n+1)=marks n ++ [markS n]:=by unfold marks;rw [List.range_succ,List.map_append];rfl
theorem cells_app (P R:List Stepx.Node):cellsOf (P ++ R)=cellsOf P ++ cellsOf R:=by unfold cellsOf;rw [List.flatMap_append]
theorem set3 (P R:List Stepx.Node) (x y:Stepx.Node) (k:Nat) (h:P.length=k):(((cellsOf (P ++ x :: R)).set (k*3) (.int .i64 y.1)).set (k*3+1) (.int .i64 y.2.1)).set (k*3+2) (.string y.2.2)=cellsOf (P ++ y :: R):=by
 have e:∀ z:Stepx.Node,cellsOf (P ++ z :: R)=cellsOf P ++ (.int .i64 z.1 :: .int .i64 z.2.1 :: .string z.2.2 :: cellsOf R):=fun z=>cells_app P (z :: R)
 have hl:(cellsOf P).length=k*3:=by rw [cells_len,h]
 rw [e,e]
 rw [List.set_append_right _ _ (by omega),List.set_append_right _ _ (by omega),List.set_append_right _ _ (by omega),hl]
 rw [show k*3-k*3=0 by omega,show k*3+1-k*3=1 by omega,show k*3+2-k*3=2 by omega]
 rfl
def mid (k:Nat) (L:List Stepx.Node):List Stepx.Node:=marks k ++ L.drop k
theorem mid_step {k:Nat} {L:List Stepx.Node} (h:k<L.length):(((cellsOf (mid k L)).set (k*3) (.int .i64 (1+3*(k:Int)))).set (k*3+1) (.int .i64 (2+3*(k:Int)))).set (k*3+2) (.string (mark (3+3*(k:Int))))=cellsOf (mid (k+1) L):=by
 unfold mid
 rw [List.drop_eq_getElem_cons h,marks_snoc,List.append_assoc]
 exact set3 (marks k) (L.drop (k+1)) L[k] (markS k) k (marks_len k)
theorem mid_end {L:List Stepx.Node}:mid L.length L=marks L.length:=by unfold mid;rw [List.drop_length,List.append_nil]
theorem marks_at (n k:Nat) (h:k<n):(cellsOf (marks n))[k*3]? = some (.int .i64 (1+3*(k:Int)))/\(cellsOf (marks n))[k*3+1]? = some (.int .i64 (2+3*(k:Int)))/\(cellsOf (marks n))[k*3+2]? = some (.string (mark (3+3*(k:Int)))):=by
 have h':=cells_at (marks n) k (by rw [marks_len];exact h)
 have e:(marks n)[k]'(by rw [marks_len];exact h)=markS k:=by unfold marks;simp
 rw [e] at h'
 exact h'
end Nodm
namespace Exts
open Go.Proofs.YtepafieckjnkdaaGreatDoor.Stepx (Nodes takes run exprB)
open Go.Proofs.YtepafieckjnkdaaGreatDoor.Steps (nodeB stepV)
open Optx Extx
def dec (n:Int) (t:ByteArray):ByteArray:=if n<10 then strOfNums [48+n] ++ t else dec (n / 10) (strOfNums [48+n%10] ++ t)
termination_by n.toNat
decreasing_by omega
theorem dec_small {n:Int} {t:ByteArray} (h:n<10):dec n t=strOfNums [48+n] ++ t:=by rw [dec,if_pos h]
theorem dec_great {n:Int} {t:ByteArray} (h:¬ n<10):dec n t=dec (n / 10) (strOfNums [48+n%10] ++ t):=by rw [dec,if_neg h]
theorem one_size (x:Int):(strOfNums [x]).size=1:=strOfNums_size _
theorem cat_size (x:Int) (t:ByteArray):(strOfNums [x] ++ t).size=t.size+1:=by rw [ByteArray.size_append,one_size];omega
theorem l1Dec_any (n:Int) (w:World) (h0:0<=n) (h1:n<=4000000000) :
  Calls prog 73 #[.int .i64 n] w fun e w'=>e=.returned (.string (dec n ⟨#[]⟩))/\Below w.heap.size w w':=by
 have hcv:∀ (u:World) (x:Int),(convert 22 9 (.slice (some ⟨u.heap.size,0,none⟩) 1 1)).run prog (u.alloc (.cells #[.int .u8 x] 5))=.ok (.string (strOfNums [x])) (u.alloc (.cells #[.int .u8 x] 5)):=fun u x =>
  run_convert_bytes_arg _ 22 5 underlying22 underlying5 u.heap.size 0 1 1 [x] rfl (fun i hi=>by
   rw [Nat.zero_add,World.cell?_alloc_new]
   match i,hi with
   | 0,_=>rfl) 9 underlying9
 have hsz:=one_size
 obtain ⟨r,hr⟩ : ∃ r,r=dec n ⟨#[]⟩:=⟨_,rfl⟩
 rw [<- hr]
 go_enter func73,ntmps73
 go_wp2
 go_loopw [0,3] (fun v t wr=>∃ (m:Int) (s:ByteArray),0<=m/\(s.size:Int)+m<=n/\v=.int .i64 m/\t=.string s/\Hid (r=dec m s)/\Hid (Below w.heap.size w wr)) (fun v _ _=>(intOf v).toNat)
 case atStart=>exact ⟨n,⟨#[]⟩,h0,by show ((0:Nat):Int)+n<=n;omega,rfl,rfl,hr,Below.refl _ _⟩
 case round =>
  clear hr
  obtain ⟨m,s,hm0,hm1,rfl,rfl,hr,hb⟩:=hrel
  by_cases hlt:10<=m
  ·have HR:Hid (r=dec (m / 10) (strOfNums [48+m%10] ++ s)):=by have:=hr.out;rw [dec_great (by omega)] at this;exact this
   clear hr
   go_wp2
   go_roundw
   case rel=>exact ⟨m / 10,strOfNums [48+m%10] ++ s,by omega,by rw [cat_size];omega,rfl,rfl,HR,hb.out.alloc hb.out.size _⟩
   case measure=>simp [intOf];omega
  ·have HR:Hid (r=strOfNums [48+m] ++ s):=by have:=hr.out;rw [dec_small (by omega)] at this;exact this
   clear hr
   go_wp2
   go_ret
   exact ⟨by rw [HR.out];rfl,hb.out.alloc hb.out.size _⟩
theorem dec_digits:∀ (k u:Nat) (t:ByteArray),u<=k->(dec (u:Int) t).data.toList=Lib.decDigits u ++ t.data.toList
 | k,u,t,hk=>by
  by_cases h:u<10
  ·rw [dec_small (by omega),Lib.decDigits,dif_pos h,ByteArray.data_append,Array.toList_append,strOfNums_data]
   have e:((48:Int)+(u:Int)).toNat=48+u:=by omega
   show [UInt8.ofNat ((48:Int)+(u:Int)).toNat] ++ _=_
   rw [e]
  ·match k,hk with
   | 0,hk=>omega
   | k+1,hk =>
    rw [dec_great (by omega),Lib.decDigits,dif_neg h]
    have e0:(u:Int) / 10=((u / 10:Nat):Int):=by omega
    rw [e0,dec_digits k (u / 10) _ (by omega),ByteArray.data_append,Array.toList_append,strOfNums_data,List.append_assoc]
    have e:((48:Int)+(u:Int)%10).toNat=48+u%10:=by omega
    show _ ++ ([UInt8.ofNat ((48:Int)+(u:Int)%10).toNat] ++ _)=_
    rw [e]
theorem dec_w {n:Int} (h0:0<=n):dec n ⟨#[]⟩=decW n:=by
 obtain ⟨u,rfl⟩ : ∃ u:Nat,n=(u:Int):=⟨n.toNat,by omega⟩
 apply ByteArray.ext
 apply Array.toList_inj.1
 rw [dec_digits u u _ (Nat.le_refl _)]
 unfold decW Lib.itoa
 rw [if_neg (by omega)]
 simp
def wordsA:Array Value:=#[.string ⟨#[]⟩,.string ⟨#[]⟩,.string ⟨#[]⟩,.string ⟨#[]⟩,.string ⟨#[110,101,103]⟩,.string ⟨#[110,111,116]⟩,.string ⟨#[104,105,103,104]⟩,.string ⟨#[108,111,119]⟩,.string ⟨#[43]⟩,.string ⟨#[45]⟩,.string ⟨#[42]⟩,.string ⟨#[47]⟩,.string ⟨#[37]⟩,.string ⟨#[38]⟩,.string ⟨#[94]⟩,.string ⟨#[124]⟩,.string ⟨#[60,60]⟩,.string ⟨#[62,62]⟩]
theorem l2Words_any (w:World):Calls prog 114 #[] w fun e w'=>e=.returned (.slice (some ⟨w.heap.size,0,none⟩) 18 18)/\w'=w.alloc (.cells wordsA 9):=by
 go_enter func114,ntmps114
 go_wp2
 go_ret
 exact ⟨rfl,rfl⟩
theorem words_at {kd:Int} (h4:4<=kd) (h17:kd<=17) (w:World):(w.alloc (.cells wordsA 9)).cell? ⟨w.heap.size,kd.toNat,none⟩=some (.string (opW kd)):=by
 rw [World.cell?_alloc_new]
 have:kd=4 \/ kd=5 \/ kd=6 \/ kd=7 \/ kd=8 \/ kd=9 \/ kd=10 \/ kd=11 \/ kd=12 \/ kd=13 \/ kd=14 \/ kd=15 \/ kd=16 \/ kd=17:=by omega
 rcases this with rfl|rfl|rfl|rfl|rfl|rfl|rfl|rfl|rfl|rfl|rfl|rfl|rfl|rfl <;> rfl
theorem join_snoc:∀ (X:List (List UInt8)) (x:List UInt8),X ≠ []->Lib.join (X ++ [x]) [32]=Lib.join X [32] ++ 32 :: x
 | [],_,h=>absurd rfl h
 | [y],x,_=>by unfold Lib.join;simp [List.intercalate]
 | y :: z :: X,x,_=>by
  have ih:=join_snoc (z :: X) x (by simp)
  have e:∀ (a b:List UInt8) (R:List (List UInt8)),Lib.join (a :: b :: R) [32]=a ++ 32 :: Lib.join (b :: R) [32]:=fun a b R=>by unfold Lib.join;simp [List.intercalate]
  rw [show (y :: z :: X) ++ [x]=y :: z :: (X ++ [x]) from rfl,e,e,show z :: (X ++ [x])=(z :: X) ++ [x] from rfl,ih]
  simp
def part (L:List Stepx.Node) (k:Nat):List UInt8:=Lib.join (((words L).take k).map (·.data.toList)) [32]
theorem part_step {L:List Stepx.Node} {k:Nat} (h:k<L.length):part L (k+1)=(if k=0 then [] else part L k ++ [32]) ++ (wordB L[k]).data.toList:=by
 have hk2:k<(words L).length:=by unfold words;rw [List.length_map];exact h
 have hw:=words_get hk2 h
 unfold part
 rw [List.take_succ_eq_append_getElem hk2,List.map_append,hw]
 by_cases h0:k=0
 ·subst h0
  rw [if_pos rfl]
  simp [Lib.join_one]
 ·rw [if_neg h0]
  show Lib.join (_ ++ [(wordB L[k]).data.toList]) [32]=_
  rw [join_snoc _ _ (by
   intro e
   have:=congrArg List.length e
   rw [List.length_map,List.length_take,Nat.min_eq_left (Nat.le_of_lt hk2)] at this
   exact h0 this)]
  simp
theorem grow {a b:World} (h:Below a.heap.size a b) (o:Obj):Below a.heap.size a (b.alloc o):=h.alloc h.size o
theorem specText_any (a:Option Addr) (cap:Nat) (L:List Stepx.Node) (w:World) (hN:Nodes w a L) (hlen:L.length<=1048576) :
  Calls prog 75 #[.slice a L.length cap] w fun e w'=>e=.returned (.string (exprT L))/\Below w.heap.size w w':=by
 have cs:=Specx.exprOk_any a cap L w hN hlen
 cases hx:exprB L with
 | false =>
  have e1:exprT L=⟨#[]⟩:=by unfold exprT;rw [hx];rfl
  rw [e1]
  rw [hx] at cs
  clear hN
  generalize L.length=len at *
  go_enter func75,ntmps75
  go_wp2_with fail
  refine cs.mono ?_
  rintro e w1 ⟨rfl,b1⟩
  have B1:Hid (Below w.heap.size w w1):=b1
  clear b1 cs
  go_wp2
  go_ret
  exact ⟨rfl,B1.out⟩
 | true =>
  have e1:exprT L=⟨(part L L.length).toArray⟩:=by
   unfold exprT part;rw [if_pos hx]
   rw [show (words L).take L.length=words L by
    have:(words L).length=L.length:=by unfold words;rw [List.length_map]
    rw [<- this];exact List.take_length]
  rw [e1]
  rw [hx] at cs
  have hrun:run 0 L=some 1:=by
   have:=hx
   unfold exprB at this
   simp at this
   exact this.2
  have hl30:L.length<=30:=by
   have:=hx
   unfold exprB at this
   simp at this
   exact this.1
  have HOK:Hid (∀ x ∈ L,NodeOk x):=nodes_ok hrun
  obtain ⟨b,off,rfl,hb,hc⟩ : ∃ b off,a=some ⟨b,off,none⟩/\b<w.heap.size/\∀ i (h:i<L.length),w.cell? ⟨b,off+i*3,none⟩=some (.int .i64 L[i].1)/\w.cell? ⟨b,off+i*3+1,none⟩=some (.int .i64 L[i].2.1)/\w.cell? ⟨b,off+i*3+2,none⟩=some (.string L[i].2.2)/\L[i].2.2.size<=maxLen:=by
   rcases hN with h|h
   ·exfalso;rw [h] at hrun;cases hrun
   ·exact h
  have HC:Hid (∀ i (h:i<L.length),w.cell? ⟨b,off+i*3,none⟩=some (.int .i64 L[i].1)/\w.cell? ⟨b,off+i*3+1,none⟩=some (.int .i64 L[i].2.1)/\w.cell? ⟨b,off+i*3+2,none⟩=some (.string L[i].2.2)/\L[i].2.2.size<=maxLen):=hc
  obtain ⟨R,hR⟩ : ∃ R:ByteArray,R=⟨(part L L.length).toArray⟩:=⟨_,rfl⟩
  have HR:Hid (R=⟨(part L L.length).toArray⟩):=hR
  rw [<- hR]
  clear hR e1 hc hrun hx
  obtain ⟨len,hl⟩ : ∃ len,len=L.length:=⟨_,rfl⟩
  have HL:Hid (len=L.length):=hl
  rw [<- hl] at hl30 cs |-
  clear hl hlen
  go_enter func75,ntmps75
  go_wp2_with fail
  refine cs.mono ?_
  rintro e w1 ⟨rfl,b1⟩
  have B1:Hid (Below w.heap.size w w1):=b1
  clear b1 cs
  have HZ:Hid (∀ i,part L i=part L i):=fun _=>rfl
  go_wp2_with fail
  go_loopw [3,4] (fun x i wr=>∃ (k:Nat) (sb:ByteArray),k<=len/\i=.int .i64 k/\x=.string sb/\Hid (sb.data.toList=part L k)/\sb.size<=22*k/\Hid (Below w.heap.size w wr)) (fun _ i _=>len-(intOf i).toNat)
  case atStart=>exact ⟨0,⟨#[]⟩,Nat.zero_le _,rfl,rfl,rfl,Nat.zero_le _,B1.out⟩
  case round =>
   clear HZ
   obtain ⟨k,sb,hk,rfl,rfl,hst,hss,hbel⟩:=hrel
   by_cases hlt:k<len
   ·have hkL:k<L.length:=by have:=HL.out;omega
    obtain ⟨c0,c1,c2⟩ : wr.cell? ⟨b,off+k*3,none⟩=some (.int .i64 L[k].1)/\wr.cell? ⟨b,off+k*3+1,none⟩=some (.int .i64 L[k].2.1)/\wr.cell? ⟨b,off+k*3+2,none⟩=some (.string L[k].2.2):=by
     obtain ⟨d0,d1,d2,d3⟩:=HC.out k hkL
     exact ⟨(hbel.out.cell (p:=⟨b,_,none⟩) hb).trans d0,(hbel.out.cell (p:=⟨b,_,none⟩) hb).trans d1,(hbel.out.cell (p:=⟨b,_,none⟩) hb).trans d2⟩
    have HP0:Hid (part L (k+1)=(if k=0 then [] else part L k ++ [32]) ++ (wordB L[k]).data.toList):=part_step hkL
    have hok:=HOK.out _ (List.getElem_mem hkL)
    have hwl:=word_len hok
    have k0:(0:Int)<=(k:Int):=by omega
    have k1:(k:Int)<(len:Int):=by omega
    obtain ⟨kd,n,s,hnode⟩ : ∃ kd n s,L[k]=(kd,n,s):=⟨_,_,_,rfl⟩
    rw [hnode] at c0 c1 c2 HP0 hok hwl
    simp only at c0 c1 c2
    have hnb:nodeB kd n s=true:=hok
    clear hnode hok
    by_cases hk0:¬ 0<k
    ·have g0:decide ((0:Int)<(k:Int))=false:=decide_eq_false (by omega)
     have HP:Hid (part L (k+1)=part L k ++ (wordB (kd,n,s)).data.toList):=by
      show _=_
      have e:part L k=[]:=by have:k=0:=(by omega);subst this;rfl
      have:=HP0.out;rw [if_pos (by omega)] at this;rw [this,e]
     clear HP0
     rcases kinds_of hnb with rfl|rfl|rfl|⟨k4,k7⟩|⟨k8,k17⟩
     ·have hw:=word_of hnb
      have cd:=fun W=>l1Dec_any n W hw.1 (by omega)
      rw [dec_w hw.1] at cd
      have hwd:wordB (1,n,s)=decW n:=rfl
      rw [hwd] at HP hwl
      generalize decW n=wd at cd HP hwl
      clear hwd hw
      go_wp2_with fail
      refine (cd _).mono ?_
      rintro e w3 ⟨rfl,b3⟩
      have B3:Hid (Below w.heap.size w w3):=hbel.out.trans (b3.mono hbel.out.size)
      clear b3 cd
      go_wp2_with fail
      go_roundw
      case rel=>exact ⟨k+1,_,by omega,by go_num,rfl,by show _=_;rw [HP.out];simp [ByteArray.data_append,hst.out],by simp only [ByteArray.size_append];have e1:(⟨#[32]⟩ : ByteArray).size=1:=rfl;have e2:(⟨#[35]⟩ : ByteArray).size=1:=rfl;omega,B3.out⟩
      case measure=>simp [intOf];omega
     ·have hwd:wordB (2,n,s)=s:=rfl
      rw [hwd] at HP hwl
      clear hwd
      go_wp2_with fail
      go_roundw
      case rel=>exact ⟨k+1,_,by omega,by go_num,rfl,by show _=_;rw [HP.out];simp [ByteArray.data_append,hst.out],by simp only [ByteArray.size_append];have e1:(⟨#[32]⟩ : ByteArray).size=1:=rfl;have e2:(⟨#[35]⟩ : ByteArray).size=1:=rfl;omega,hbel.out⟩
      case measure=>simp [intOf];omega
     ·have hsz:=name_of hnb (.inr rfl)
      have hwd:wordB (3,n,s)=⟨#[35]⟩ ++ s:=rfl
      rw [hwd] at HP hwl
      clear hwd
      go_wp2_with fail
      go_roundw
      case rel=>exact ⟨k+1,_,by omega,by go_num,rfl,by show _=_;rw [HP.out];simp [ByteArray.data_append,hst.out],by simp only [ByteArray.size_append];have e1:(⟨#[32]⟩ : ByteArray).size=1:=rfl;have e2:(⟨#[35]⟩ : ByteArray).size=1:=rfl;omega,hbel.out⟩
      case measure=>simp [intOf];omega
     ·have hwd:wordB (kd,n,s)=opW kd:=word_op (by omega)
      rw [hwd] at HP hwl
      clear hwd
      have hwa:=fun W=>words_at (kd:=kd) (by omega) (by omega) W
      obtain ⟨j,rfl⟩ : ∃ j:Nat,kd=(j:Int):=⟨kd.toNat,by omega⟩
      simp only [Int.toNat_natCast] at hwa
      generalize opW (j:Int)=wd at HP hwl hwa
      have j0:(0:Int)<=(j:Int):=by omega
      have j1:(j:Int)<18:=by omega
      have q1:((j:Int) == 1)=false:=by simp;omega
      have q2:((j:Int) == 2)=false:=by simp;omega
      have q3:((j:Int) == 3)=false:=by simp;omega
      have hcw:∀ o,(wr.alloc o).cell? ⟨b,off+k*3,none⟩=some (.int .i64 (j:Int)):=fun o=>(World.cell?_of_block (a:=⟨b,_,none⟩) (Below.heap_alloc _ _ _ (Nat.lt_of_lt_of_le hb hbel.out.size))).trans c0
      clear hnb
      go_wp2_with fail
      go_region_with (go_at_call 114;refine (l2Words_any _).mono ?_;rintro e w3 ⟨rfl,rfl⟩;have hw3:=hwa wr;have hwd:=hwa wr.drew)
      all_goals
       go_wp2_with fail
       go_roundw
       case rel=>exact ⟨k+1,_,by omega,by go_num,rfl,by show _=_;rw [HP.out];simp [ByteArray.data_append,hst.out],by simp only [ByteArray.size_append];have e1:(⟨#[32]⟩ : ByteArray).size=1:=rfl;have e2:(⟨#[35]⟩ : ByteArray).size=1:=rfl;omega,(grow hbel.out _).drew⟩
       case measure=>simp [intOf];omega
     ·have hwd:wordB (kd,n,s)=opW kd:=word_op (by omega)
      rw [hwd] at HP hwl
      clear hwd
      have hwa:=fun W=>words_at (kd:=kd) (by omega) (by omega) W
      obtain ⟨j,rfl⟩ : ∃ j:Nat,kd=(j:Int):=⟨kd.toNat,by omega⟩
      simp only [Int.toNat_natCast] at hwa
      generalize opW (j:Int)=wd at HP hwl hwa
      have j0:(0:Int)<=(j:Int):=by omega
      have j1:(j:Int)<18:=by omega
      have q1:((j:Int) == 1)=false:=by simp;omega
      have q2:((j:Int) == 2)=false:=by simp;omega
      have q3:((j:Int) == 3)=false:=by simp;omega
      have hcw:∀ o,(wr.alloc o).cell? ⟨b,off+k*3,none⟩=some (.int .i64 (j:Int)):=fun o=>(World.cell?_of_block (a:=⟨b,_,none⟩) (Below.heap_alloc _ _ _ (Nat.lt_of_lt_of_le hb hbel.out.size))).trans c0
      clear hnb
      go_wp2_with fail
      go_region_with (go_at_call 114;refine (l2Words_any _).mono ?_;rintro e w3 ⟨rfl,rfl⟩;have hw3:=hwa wr;have hwd:=hwa wr.drew)
      all_goals
       go_wp2_with fail
       go_roundw
       case rel=>exact ⟨k+1,_,by omega,by go_num,rfl,by show _=_;rw [HP.out];simp [ByteArray.data_append,hst.out],by simp only [ByteArray.size_append];have e1:(⟨#[32]⟩ : ByteArray).size=1:=rfl;have e2:(⟨#[35]⟩ : ByteArray).size=1:=rfl;omega,(grow hbel.out _).drew⟩
       case measure=>simp [intOf];omega
    ·have hk0:=Decidable.of_not_not hk0
     have g0:decide ((0:Int)<(k:Int))=true:=decide_eq_true (by omega)
     have HP:Hid (part L (k+1)=part L k ++ [32] ++ (wordB (kd,n,s)).data.toList):=by have:=HP0.out;rw [if_neg (by omega)] at this;exact this
     clear HP0
     rcases kinds_of hnb with rfl|rfl|rfl|⟨k4,k7⟩|⟨k8,k17⟩
     ·have hw:=word_of hnb
      have cd:=fun W=>l1Dec_any n W hw.1 (by omega)
      rw [dec_w hw.1] at cd
      have hwd:wordB (1,n,s)=decW n:=rfl
      rw [hwd] at HP hwl
      generalize decW n=wd at cd HP hwl
      clear hwd hw
      go_wp2_with fail
      refine (cd _).mono ?_
      rintro e w3 ⟨rfl,b3⟩
      have B3:Hid (Below w.heap.size w w3):=hbel.out.trans (b3.mono hbel.out.size)
      clear b3 cd
      go_wp2_with fail
      go_roundw
      case rel=>exact ⟨k+1,_,by omega,by go_num,rfl,by show _=_;rw [HP.out];simp [ByteArray.data_append,hst.out],by simp only [ByteArray.size_append];have e1:(⟨#[32]⟩ : ByteArray).size=1:=rfl;have e2:(⟨#[35]⟩ : ByteArray).size=1:=rfl;omega,B3.out⟩
      case measure=>simp [intOf];omega
     ·have hwd:wordB (2,n,s)=s:=rfl
      rw [hwd] at HP hwl
      clear hwd
      go_wp2_with fail
      go_roundw
      case rel=>exact ⟨k+1,_,by omega,by go_num,rfl,by show _=_;rw [HP.out];simp [ByteArray.data_append,hst.out],by simp only [ByteArray.size_append];have e1:(⟨#[32]⟩ : ByteArray).size=1:=rfl;have e2:(⟨#[35]⟩ : ByteArray).size=1:=rfl;omega,hbel.out⟩
      case measure=>simp [intOf];omega
     ·have hsz:=name_of hnb (.inr rfl)
      have hwd:wordB (3,n,s)=⟨#[35]⟩ ++ s:=rfl
      rw [hwd] at HP hwl
      clear hwd
      go_wp2_with fail
      go_roundw
      case rel=>exact ⟨k+1,_,by omega,by go_num,rfl,by show _=_;rw [HP.out];simp [ByteArray.data_append,hst.out],by simp only [ByteArray.size_append];have e1:(⟨#[32]⟩ : ByteArray).size=1:=rfl;have e2:(⟨#[35]⟩ : ByteArray).size=1:=rfl;omega,hbel.out⟩
      case measure=>simp [intOf];omega
     ·have hwd:wordB (kd,n,s)=opW kd:=word_op (by omega)
      rw [hwd] at HP hwl
      clear hwd
      have hwa:=fun W=>words_at (kd:=kd) (by omega) (by omega) W
      obtain ⟨j,rfl⟩ : ∃ j:Nat,kd=(j:Int):=⟨kd.toNat,by omega⟩
      simp only [Int.toNat_natCast] at hwa
      generalize opW (j:Int)=wd at HP hwl hwa
      have j0:(0:Int)<=(j:Int):=by omega
      have j1:(j:Int)<18:=by omega
      have q1:((j:Int) == 1)=false:=by simp;omega
      have q2:((j:Int) == 2)=false:=by simp;omega
      have q3:((j:Int) == 3)=false:=by simp;omega
      have hcw:∀ o,(wr.alloc o).cell? ⟨b,off+k*3,none⟩=some (.int .i64 (j:Int)):=fun o=>(World.cell?_of_block (a:=⟨b,_,none⟩) (Below.heap_alloc _ _ _ (Nat.lt_of_lt_of_le hb hbel.out.size))).trans c0
      clear hnb
      go_wp2_with fail
      go_region_with (go_at_call 114;refine (l2Words_any _).mono ?_;rintro e w3 ⟨rfl,rfl⟩;have hw3:=hwa wr;have hwd:=hwa wr.drew)
      all_goals
       go_wp2_with fail
       go_roundw
       case rel=>exact ⟨k+1,_,by omega,by go_num,rfl,by show _=_;rw [HP.out];simp [ByteArray.data_append,hst.out],by simp only [ByteArray.size_append];have e1:(⟨#[32]⟩ : ByteArray).size=1:=rfl;have e2:(⟨#[35]⟩ : ByteArray).size=1:=rfl;omega,(grow hbel.out _).drew⟩
       case measure=>simp [intOf];omega
     ·have hwd:wordB (kd,n,s)=opW kd:=word_op (by omega)
      rw [hwd] at HP hwl
      clear hwd
      have hwa:=fun W=>words_at (kd:=kd) (by omega) (by omega) W
      obtain ⟨j,rfl⟩ : ∃ j:Nat,kd=(j:Int):=⟨kd.toNat,by omega⟩
      simp only [Int.toNat_natCast] at hwa
      generalize opW (j:Int)=wd at HP hwl hwa
      have j0:(0:Int)<=(j:Int):=by omega
      have j1:(j:Int)<18:=by omega
      have q1:((j:Int) == 1)=false:=by simp;omega
      have q2:((j:Int) == 2)=false:=by simp;omega
      have q3:((j:Int) == 3)=false:=by simp;omega
      have hcw:∀ o,(wr.alloc o).cell? ⟨b,off+k*3,none⟩=some (.int .i64 (j:Int)):=fun o=>(World.cell?_of_block (a:=⟨b,_,none⟩) (Below.heap_alloc _ _ _ (Nat.lt_of_lt_of_le hb hbel.out.size))).trans c0
      clear hnb
      go_wp2_with fail
      go_region_with (go_at_call 114;refine (l2Words_any _).mono ?_;rintro e w3 ⟨rfl,rfl⟩;have hw3:=hwa wr;have hwd:=hwa wr.drew)
      all_goals
       go_wp2_with fail
       go_roundw
       case rel=>exact ⟨k+1,_,by omega,by go_num,rfl,by show _=_;rw [HP.out];simp [ByteArray.data_append,hst.out],by simp only [ByteArray.size_append];have e1:(⟨#[32]⟩ : ByteArray).size=1:=rfl;have e2:(⟨#[35]⟩ : ByteArray).size=1:=rfl;omega,(grow hbel.out _).drew⟩
       case measure=>simp [intOf];omega
   ·have e:k=len:=by omega
    subst e
    have HE:Hid (R=sb):=by
     show _=_
     rw [HR.out,<- HL.out,<- hst.out]
    go_wp2
    go_ret
    exact ⟨by rw [HE.out];rfl,hbel.out⟩
end Exts
namespace Nodw
open Go.Deep
open Go.Proofs.YtepafieckjnkdaaGreatDoor.Stepx (Nodes)
open Mirror (left)
def Row (N:Nat) (w:World) (a:Option Addr) (L:List Stepx.Node):Prop:=Nodes w a L/\(L=[] \/ ∃ p:Addr,a=some p/\N<=p.block)
theorem Row.kept {N:Nat} {w w':World} {a:Option Addr} {L:List Stepx.Node} (h:Row N w a L) (hk:∀ k,N<=k->k<w.heap.size->w'.heap[k]? = w.heap[k]?) (hs:w.heap.size<=w'.heap.size):Row N w' a L:=by
 rcases h with ⟨h|⟨b,off,rfl,hl,hc⟩,hn|⟨p,hp,hN⟩⟩
 ·exact ⟨.inl h,.inl hn⟩
 ·exact ⟨.inl h,.inl h⟩
 ·exact ⟨.inl hn,.inl hn⟩
 ·cases hp
  refine ⟨.inr ⟨b,off,rfl,Nat.lt_of_lt_of_le hl hs,fun i hi=>?_⟩,.inr ⟨_,rfl,hN⟩⟩
  have e:∀ i,w'.cell? ⟨b,i,none⟩=w.cell? ⟨b,i,none⟩:=fun i=>World.cell?_of_block (a:=⟨b,i,none⟩) (hk b hN hl)
  obtain ⟨d0,d1,d2,d3⟩:=hc i hi
  exact ⟨(e _).trans d0,(e _).trans d1,(e _).trans d2,d3⟩
theorem Row.mono {N N':Nat} {w:World} {a:Option Addr} {L:List Stepx.Node} (h:Row N w a L) (hN:N'<=N):Row N' w a L :=
 ⟨h.1,h.2.imp id fun ⟨p,hp,h2⟩=>⟨p,hp,Nat.le_trans hN h2⟩⟩
theorem Row.below {N:Nat} {w w':World} {a:Option Addr} {L:List Stepx.Node} (h:Row N w a L) (hb:Below w.heap.size w w'):Row N w' a L:=h.kept (fun k _ hk=>hb.block k hk) hb.size
def Small (L:List Stepx.Node):Prop:=L.length<=1048576
theorem eqXS_any (a a':Option Addr) (cap cap':Nat) (L:List Stepx.Node) (w:World) (hN:Row 0 w a L) (hN':Row 0 w a' L) (hsm:Small L) :
  Calls prog 92 #[.slice a L.length cap,.slice a' L.length cap'] w fun e w'=>e=.returned (.bool true)/\Below w.heap.size w w':=Mirror.eqENodeS_any a a' cap cap' L w hN.1 hN'.1 hsm
end Nodw
end Go.Proofs.YtepafieckjnkdaaGreatDoor
