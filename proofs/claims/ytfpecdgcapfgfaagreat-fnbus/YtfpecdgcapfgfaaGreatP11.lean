import Derived.Test.YtfpecdgcapfgfaaGreatP09
import Derived.Deep.DeepFit
set_option linter.all false
set_option maxRecDepth 20000
set_option maxHeartbeats 8000000
open Go.ChangeShapes Go.WideShapes Go.ChangeAt Go.RowKit
open Go.Proofs.Tryz
namespace Go.Proofs.YtfpecdgcapfgfaaGreat
namespace ReadI
open HolI LenX InsX
def byteAt (s:ByteArray) (i:Int):Int:=if h:i.toNat<s.size then ((s[i.toNat]'h).toNat:Int) else 0
theorem byteAt_eq {s:ByteArray} {i:Int} (h:i.toNat<s.size):((s[i.toNat]'h).toNat:Int)=byteAt s i:=by unfold byteAt;rw [dif_pos h]
theorem byteAt_bd (s:ByteArray) (i:Int):0<=byteAt s i/\byteAt s i<=255:=by
 unfold byteAt
 split
 ·rename_i h
  have:=(s[i.toNat]'h).toNat_lt
  omega
 ·omega
theorem ix (s:ByteArray) (i:Int) (h0:0<=i) (h1:i<s.size) (w:World):(Instr.index 9 (.string s) (.int .i64 i)).run prog w=.ok (.int .u8 (byteAt s i)) w:=by
 rw [run_index_string w 9 s .i64 i underlying9,dif_pos ⟨h0,h1⟩,byteAt_eq (by omega)]
theorem l3At_any (s:ByteArray) (i:Int) (h0:0<=i) (h1:i<s.size) (w:World) :
  Calls prog 107 #[.string s,.int .i64 i] w fun e w'=>e=.returned (.int .i64 (byteAt s i))/\w'=w:=by
 have x:=ix s i h0 h1
 have b:=byteAt_bd s i
 generalize byteAt s i=B at x b
 have hb0:=b.1
 have hb1:=b.2
 have hw:IntKind.i64.wrap B=B:=by rw [IntKind.wrap_i64];omega
 go_enter func107,ntmps107
 go_wp2
 go_ret
 exact ⟨rfl,rfl⟩
def lenC (c:Int):Int:=lenV (none? c false) false (hole c false)
def zeroI:Value:=.agg #[.int .i64 0,.bool false,.int .i64 0]
def immV (s:ByteArray) (a n:Int):Int:=if n=1 then 0 else if n=2 then byteAt s (a+1) else byteAt s (a+1)+256*byteAt s (a+2)
def readI (s:ByteArray) (a:Int):Value :=
 if a<0 \/ s.size<=a then zeroI
 else if byteAt s a=203 then (if s.size-a<2 then zeroI else .agg #[.int .i64 (byteAt s (a+1)),.bool true,.int .i64 0])
 else if lenC (byteAt s a)=0 \/ s.size-a<lenC (byteAt s a) then zeroI else .agg #[.int .i64 (byteAt s a),.bool false,.int .i64 (immV s a (lenC (byteAt s a)))]
def readN (s:ByteArray) (a:Int):Int :=
 if a<0 \/ s.size<=a then 0
 else if byteAt s a=203 then (if s.size-a<2 then 0 else 2)
 else if lenC (byteAt s a)=0 \/ s.size-a<lenC (byteAt s a) then 0 else lenC (byteAt s a)
theorem lenC_cases (c:Int):lenC c=0 \/ lenC c=1 \/ lenC c=2 \/ lenC c=3:=by
 unfold lenC lenV
 split
 ·exact .inl rfl
 rw [if_neg (by decide)]
 split
 ·exact .inr (.inl rfl)
 split
 ·exact .inr (.inr (.inr rfl))
 ·exact .inr (.inr (.inl rfl))
def Tup (v:Value) (n:Int):Ending:=.returned (.tuple #[v,.int .i64 n])
theorem fro {w w':World} {vs:Array Value} {T:TypeId} (h:Below (w.alloc (.cells vs T)).heap.size (w.alloc (.cells vs T)) w') (i:Nat):w'.frozen? ⟨w.heap.size,i,none⟩=false:=by
 rw [h.frozen (p:=⟨w.heap.size,i,none⟩) (by simp)]
 exact World.frozen?_alloc_new w vs T i
theorem box2 {w w':World} {o:Obj} {vs:Array Value} {T:TypeId} (h:Below ((w.alloc o).alloc (.cells vs T)).heap.size ((w.alloc o).alloc (.cells vs T)) w') (i:Nat) (v:Value) (hv:vs[i]? = some v):w'.cell? ⟨w.heap.size+1,i,none⟩=some v:=by
 have:=box (w:=w.alloc o) h i v hv
 rwa [World.size_alloc] at this
theorem fro2 {w w':World} {o:Obj} {vs:Array Value} {T:TypeId} (h:Below ((w.alloc o).alloc (.cells vs T)).heap.size ((w.alloc o).alloc (.cells vs T)) w') (i:Nat):w'.frozen? ⟨w.heap.size+1,i,none⟩=false:=by
 have:=fro (w:=w.alloc o) h i
 rwa [World.size_alloc] at this
theorem first2 {w w':World} {o:Obj} {vs:Array Value} {T:TypeId} (h:Below ((w.alloc (.cells vs T)).alloc o).heap.size ((w.alloc (.cells vs T)).alloc o) w'):Below (w.alloc (.cells vs T)).heap.size (w.alloc (.cells vs T)) w':=unbox h
theorem spec_out (s:ByteArray) (a:Int) (w:World) (hs:s.size<=1048576) (hb:a<=9223372036854775807) (h:a<0 \/ s.size<=a) :
  Calls prog 81 #[.string s,.int .i64 a] w fun e w'=>e=Tup zeroI 0/\Below w.heap.size w w':=by
 by_cases h0:a<0
 ·go_enter func81,ntmps81
  go_wp2
  exact bodyPost_ret (v:=.tuple #[.agg #[.int .i64 0,.bool false,.int .i64 0],.int .i64 0]) (by simp [results,results81,go_sem]) rfl ⟨rfl,zAl _ _⟩
 ·have hw:(s.size:Int)-a<1:=by omega
  ·have hk:wrap64 ((s.size:Int)-a)=(s.size:Int)-a:=by unfold wrap64;omega
   go_enter func81,ntmps81
   go_wp2
   exact bodyPost_ret (v:=.tuple #[.agg #[.int .i64 0,.bool false,.int .i64 0],.int .i64 0]) (by simp [results,results81,go_sem]) rfl ⟨rfl,zAl _ _⟩
theorem spec_cb (s:ByteArray) (a:Int) (w:World) (hs:s.size<=1048576) (h0:0<=a) (h1:a<s.size) (hc:byteAt s a=203) :
  Calls prog 81 #[.string s,.int .i64 a] w fun e w'=>e=Tup (readI s a) (readN s a)/\Below w.heap.size w w':=by
 have e1:readI s a=(if s.size-a<2 then zeroI else .agg #[.int .i64 (byteAt s (a+1)),.bool true,.int .i64 0]):=by unfold readI;rw [if_neg (by omega),if_pos hc]
 have e2:readN s a=(if s.size-a<2 then 0 else 2):=by unfold readN;rw [if_neg (by omega),if_pos hc]
 rw [e1,e2]
 clear e1 e2
 have hk:wrap64 ((s.size:Int)-a)=(s.size:Int)-a:=by unfold wrap64;omega
 have hk1:¬ (s.size:Int)-a<1:=by omega
 have c:=fun w=>l3At_any s a h0 h1 w
 rw [hc] at c
 clear hc
 by_cases h2:(s.size:Int)-a<2
 ·rw [if_pos h2,if_pos h2]
  go_enter func81,ntmps81
  go_wp2_with (go_at_call 107;refine (c _).mono ?_;rintro e w' ⟨rfl,hw⟩;subst hw)
  exact bodyPost_ret (v:=.tuple #[.agg #[.int .i64 0,.bool false,.int .i64 0],.int .i64 0]) (by simp [results,results81,go_sem]) rfl ⟨rfl,(zAl _ _).alloc (by simp) _⟩
 ·rw [if_neg h2,if_neg h2]
  have c2:=fun w=>l3At_any s (a+1) (by omega) (by omega) w
  have hka:wrap64 (a+1)=a+1:=by unfold wrap64;omega
  generalize byteAt s (a+1)=Y at c2
  go_enter func81,ntmps81
  go_wp2_with first|(go_at_call 107;go_fit (c _);rintro e w' ⟨rfl,hw⟩;subst hw)|(go_at_call 107;go_fit (c2 _);rintro e w' ⟨rfl,hw⟩;subst hw)
  exact bodyPost_ret (v:=.tuple #[.agg #[.int .i64 Y,.bool true,.int .i64 0],.int .i64 2]) (by simp [results,results81,go_sem]) rfl ⟨rfl,(zAl _ _).alloc (by simp) _⟩
theorem spec_n (s:ByteArray) (a n:Int) (w:World) (hs:s.size<=1048576) (h0:0<=a) (h1:a<s.size) (hc:¬ byteAt s a=203) (hn:lenC (byteAt s a)=n) (hcs:n=0 \/ n=1 \/ n=2 \/ n=3) :
  Calls prog 81 #[.string s,.int .i64 a] w fun e w'=>e=Tup (readI s a) (readN s a)/\Below w.heap.size w w':=by
 have e1:readI s a=(if n=0 \/ s.size-a<n then zeroI else .agg #[.int .i64 (byteAt s a),.bool false,.int .i64 (immV s a n)]):=by unfold readI;rw [if_neg (by omega),if_neg hc,hn]
 have e2:readN s a=(if n=0 \/ s.size-a<n then 0 else n):=by unfold readN;rw [if_neg (by omega),if_neg hc,hn]
 rw [e1,e2]
 clear e1 e2
 have hk:wrap64 ((s.size:Int)-a)=(s.size:Int)-a:=by unfold wrap64;omega
 have hk1:¬ (s.size:Int)-a<1:=by omega
 have c:=fun w=>l3At_any s a h0 h1 w
 have bd:=byteAt_bd s a
 have cl:=fun w=>length_any (byteAt s a) false w bd.1 bd.2
 have hd:lenV (decide ((Tmpl.tmplS (byteAt s a) false).size=0)) false (hole (byteAt s a) false)=n:=by
  rw [<- hn];unfold lenC none?
  rw [show Signed.inB (byteAt s a) 0 255=true from decide_eq_true bd,beqN]
  simp
 rw [hd] at cl
 clear hd hn bd
 have hy1:=byteAt_bd s (a+1)
 have hy2:=byteAt_bd s (a+2)
 by_cases hq:n=0 \/ (s.size:Int)-a<n
 ·rw [if_pos hq,if_pos hq]
  generalize byteAt s a=X at c cl hc
  go_enter func81,ntmps81
  go_wp2_with first|(go_at_call 107;go_fit (c _);rintro e w' ⟨rfl,hw⟩;subst hw)|fail
  refine (cl _).mono ?_
  rintro e w2 ⟨rfl,b2⟩
  have B2:Hid (Below _ _ w2):=b2
  have r0:=box (first2 b2) 0 _ rfl
  have r1:=box (first2 b2) 1 _ rfl
  have r2:=box (first2 b2) 2 _ rfl
  have f0:=fro (first2 b2) 0
  have f1:=fro (first2 b2) 1
  have f2:=fro (first2 b2) 2
  clear b2
  go_wp2
  all_goals
   exact bodyPost_ret (v:=.tuple #[.agg #[.int .i64 0,.bool false,.int .i64 0],.int .i64 0]) (by simp [results,results81,go_sem,r0,r1,r2]) rfl ⟨rfl,((((unbox (first2 B2.out)).setCell (p:=⟨w.heap.size,0,none⟩) (Nat.le_refl _) _).setCell (p:=⟨w.heap.size,1,none⟩) (Nat.le_refl _) _).setCell (p:=⟨w.heap.size,2,none⟩) (Nat.le_refl _) _)⟩
 ·rw [if_neg hq,if_neg hq]
  have g1:¬ n=0:=fun h=>hq (.inl h)
  have g2:¬ (s.size:Int)-a<n:=fun h=>hq (.inr h)
  have hn3:n=1 \/ n=2 \/ n=3:=by rcases hcs with h|h|h|h <;> omega
  clear hcs hq
  have hka:wrap64 (a+1)=a+1:=by unfold wrap64;omega
  have hkb:wrap64 (a+2)=a+2:=by unfold wrap64;omega
  rcases hn3 with rfl|rfl|rfl
  ·have ei:immV s a 1=0:=rfl
   rw [ei]
   generalize byteAt s a=X at c cl hc
   go_enter func81,ntmps81
   go_wp2_with first|(go_at_call 107;go_fit (c _);rintro e w' ⟨rfl,hw⟩;subst hw)|fail
   refine (cl _).mono ?_
   rintro e w2 ⟨rfl,b2⟩
   have B2:Hid (Below _ _ w2):=b2
   have r0:=box (first2 b2) 0 _ rfl
   have r1:=box (first2 b2) 1 _ rfl
   have r2:=box (first2 b2) 2 _ rfl
   have f0:=fro (first2 b2) 0
   have f1:=fro (first2 b2) 1
   have f2:=fro (first2 b2) 2
   have i0:=box2 b2 0 _ rfl
   have i1:=box2 b2 1 _ rfl
   have i2:=box2 b2 2 _ rfl
   have j2:=fro2 b2 2
   clear b2
   go_wp2
   exact bodyPost_ret (v:=.tuple #[.agg #[.int .i64 X,.bool false,.int .i64 0],.int .i64 1]) (by simp [results,results81,go_sem,r0,r1,r2]) rfl ⟨rfl,((((unbox (first2 B2.out)).setCell (p:=⟨w.heap.size,0,none⟩) (Nat.le_refl _) _).setCell (p:=⟨w.heap.size,1,none⟩) (Nat.le_refl _) _).setCell (p:=⟨w.heap.size,2,none⟩) (Nat.le_refl _) _)⟩
  ·have ei:immV s a 2=byteAt s (a+1):=rfl
   rw [ei]
   have c2:=fun w=>l3At_any s (a+1) (by omega) (by omega) w
   generalize byteAt s a=X at c cl hc
   generalize byteAt s (a+1)=Y at c2 hy1
   go_enter func81,ntmps81
   go_wp2_with first|(go_at_call 107;go_fit (c _);rintro e w' ⟨rfl,hw⟩;subst hw)|fail
   refine (cl _).mono ?_
   rintro e w2 ⟨rfl,b2⟩
   have B2:Hid (Below _ _ w2):=b2
   have r0:=box (first2 b2) 0 _ rfl
   have r1:=box (first2 b2) 1 _ rfl
   have r2:=box (first2 b2) 2 _ rfl
   have f0:=fro (first2 b2) 0
   have f1:=fro (first2 b2) 1
   have f2:=fro (first2 b2) 2
   have i0:=box2 b2 0 _ rfl
   have i1:=box2 b2 1 _ rfl
   have i2:=box2 b2 2 _ rfl
   have j2:=fro2 b2 2
   clear b2
   go_wp2_with (go_at_call 107;go_fit (c2 _);rintro e w' ⟨rfl,hw⟩;subst hw)
   exact bodyPost_ret (v:=.tuple #[.agg #[.int .i64 X,.bool false,.int .i64 Y],.int .i64 2]) (by simp [results,results81,go_sem,r0,r1,r2]) rfl ⟨rfl,(((((unbox (first2 B2.out)).setCell (p:=⟨w.heap.size+1,2,none⟩) (Nat.le_succ _) _).setCell (p:=⟨w.heap.size,0,none⟩) (Nat.le_refl _) _).setCell (p:=⟨w.heap.size,1,none⟩) (Nat.le_refl _) _).setCell (p:=⟨w.heap.size,2,none⟩) (Nat.le_refl _) _)⟩
  ·have ei:immV s a 3=byteAt s (a+1)+256*byteAt s (a+2):=rfl
   rw [ei]
   have c2:=fun w=>l3At_any s (a+1) (by omega) (by omega) w
   have c3:=fun w=>l3At_any s (a+2) (by omega) (by omega) w
   clear ei
   generalize byteAt s a=X at c cl hc
   generalize byteAt s (a+1)=Y at c2 hy1
   generalize byteAt s (a+2)=Z at c3 hy2
   have kz0:IntKind.i64.wrap (a+2)=a+2:=by rw [IntKind.wrap_i64];omega
   have kz1:IntKind.i64.wrap (256*Z)=256*Z:=by rw [IntKind.wrap_i64];omega
   have kz2:IntKind.i64.wrap (Y+256*Z)=Y+256*Z:=by rw [IntKind.wrap_i64];omega
   have hz1:wrap64 (256*Z)=256*Z:=by unfold wrap64;omega
   have hz2:wrap64 (Y+256*Z)=Y+256*Z:=by unfold wrap64;omega
   go_enter func81,ntmps81
   go_wp2_with first|(go_at_call 107;go_fit (c _);rintro e w' ⟨rfl,hw⟩;subst hw)|fail
   refine (cl _).mono ?_
   rintro e w2 ⟨rfl,b2⟩
   have B2:Hid (Below _ _ w2):=b2
   have r0:=box (first2 b2) 0 _ rfl
   have r1:=box (first2 b2) 1 _ rfl
   have r2:=box (first2 b2) 2 _ rfl
   have f0:=fro (first2 b2) 0
   have f1:=fro (first2 b2) 1
   have f2:=fro (first2 b2) 2
   have i0:=box2 b2 0 _ rfl
   have i1:=box2 b2 1 _ rfl
   have i2:=box2 b2 2 _ rfl
   have j2:=fro2 b2 2
   clear b2
   go_wp2_with first|(go_at_call 107;go_fit (c2 _);rintro e w' ⟨rfl,hw⟩;subst hw)|(go_at_call 107;go_fit (c3 _);rintro e w' ⟨rfl,hw⟩;subst hw)
   go_region_with (go_at_call 107;go_fit (c3 _);rintro e w' ⟨rfl,hw⟩;subst hw)
   all_goals go_wp2
   all_goals exact bodyPost_ret (v:=.tuple #[.agg #[.int .i64 X,.bool false,.int .i64 (Y+256*Z)],.int .i64 3]) (by simp [results,results81,go_sem,r0,r1,r2]) rfl ⟨rfl,Below.drew ((((((unbox (first2 B2.out)).setCell (p:=⟨w.heap.size+1,2,none⟩) (Nat.le_succ _) _).setCell (p:=⟨w.heap.size+1,2,none⟩) (Nat.le_succ _) _).setCell (p:=⟨w.heap.size,0,none⟩) (Nat.le_refl _) _).setCell (p:=⟨w.heap.size,1,none⟩) (Nat.le_refl _) _).setCell (p:=⟨w.heap.size,2,none⟩) (Nat.le_refl _) _)⟩
theorem specRead_any (s:ByteArray) (a:Int) (w:World) (hs:s.size<=1048576) (hb:a<=9223372036854775807) :
  Calls prog 81 #[.string s,.int .i64 a] w fun e w'=>e=Tup (readI s a) (readN s a)/\Below w.heap.size w w':=by
 by_cases h:a<0 \/ s.size<=a
 ·have e1:readI s a=zeroI:=by unfold readI;rw [if_pos h]
  have e2:readN s a=0:=by unfold readN;rw [if_pos h]
  rw [e1,e2]
  exact spec_out s a w hs hb h
 ·by_cases hc:byteAt s a=203
  ·exact spec_cb s a w hs (by omega) (by omega) hc
  ·exact spec_n s a _ w hs (by omega) (by omega) hc rfl (lenC_cases _)
end ReadI
namespace InsB
open Signed (isByte_any)
open Signed (inB l1In_any ret_bool)
open HoleX (n8 n16 e8 holeT holeP)
open HolI LenX InsX
def bytesV (code:Int) (cb:Bool) (imm:Int):ByteArray :=
 if okV code cb imm=false then ⟨#[]⟩ else if cb=true then strOfNums [203,code]
 else if (hole code cb).size=0 then strOfNums [code] else if hole code cb=n16 then strOfNums [code,imm%256,imm / 256] else strOfNums [code,imm]
theorem conv {W:World} {B n cap:Nat} (l:List Int) (hl:l.length=n) (h:∀ i (hi:i<n),W.cell? ⟨B,i,none⟩=some (.int .u8 (l.getD i 0))) :
  (convert 22 9 (.slice (some ⟨B,0,none⟩) n cap)).run prog W=.ok (.string (strOfNums l)) W:=by
 subst hl
 exact run_convert_bytes_arg _ 22 5 underlying22 underlying5 B 0 _ cap l rfl (fun i hi=>by rw [Nat.zero_add];exact h i hi) 9 underlying9
theorem conv1 (u:World) (x:Int):(convert 22 9 (.slice (some ⟨u.heap.size,0,none⟩) 1 1)).run prog (u.alloc (.cells #[.int .u8 x] 5))=.ok (.string (strOfNums [x])) (u.alloc (.cells #[.int .u8 x] 5)) :=
 conv [x] rfl (fun i hi=>by rw [World.cell?_alloc_new];match i,hi with|0,_=>rfl)
theorem conv2 (u:World) (x y:Int):(convert 22 9 (.slice (some ⟨u.heap.size,0,none⟩) 2 2)).run prog (u.alloc (.cells #[.int .u8 x,.int .u8 y] 5))=.ok (.string (strOfNums [x,y])) (u.alloc (.cells #[.int .u8 x,.int .u8 y] 5)) :=
 conv [x,y] rfl (fun i hi=>by rw [World.cell?_alloc_new];match i,hi with|0,_=>rfl|1,_=>rfl)
theorem conv3 (u:World) (x y z:Int):(convert 22 9 (.slice (some ⟨u.heap.size,0,none⟩) 3 3)).run prog (u.alloc (.cells #[.int .u8 x,.int .u8 y,.int .u8 z] 5))=.ok (.string (strOfNums [x,y,z])) (u.alloc (.cells #[.int .u8 x,.int .u8 y,.int .u8 z] 5)) :=
 conv [x,y,z] rfl (fun i hi=>by rw [World.cell?_alloc_new];match i,hi with|0,_=>rfl|1,_=>rfl|2,_=>rfl)
theorem ok_in {code:Int} {cb:Bool} {imm:Int} (h:okV code cb imm=true):none? code cb=false/\0<=code/\code<=255:=by
 cases hn:none? code cb
 ·obtain ⟨hb,_⟩:=some_impl hn
  obtain ⟨h0,h1⟩:=of_decide_eq_true hb
  exact ⟨rfl,h0,h1⟩
 ·unfold okV at h;rw [hn,if_pos rfl] at h;exact absurd h (by decide)
theorem V_no {code:Int} {imm:Int} (h:okV code false imm=true) (hx:hole code false=⟨#[]⟩):bytesV code false imm=strOfNums [code]/\lenV false false (hole code false)=1:=by
 unfold bytesV;rw [h,hx];exact ⟨rfl,rfl⟩
theorem V_16 {code:Int} {imm:Int} (h:okV code false imm=true) (hx:hole code false=⟨#[110,49,54]⟩):bytesV code false imm=strOfNums [code,imm%256,imm / 256]/\lenV false false (hole code false)=3/\0<=imm/\imm<=65535:=by
 have:=h
 rw [ok_n16 (ok_in h).1 hx] at this
 obtain ⟨h0,h1⟩:=of_decide_eq_true this
 unfold bytesV;rw [h,hx];exact ⟨rfl,rfl,h0,h1⟩
theorem V_8 {code:Int} {imm:Int} (h:okV code false imm=true) (hx:hole code false=⟨#[110,56]⟩):bytesV code false imm=strOfNums [code,imm]/\lenV false false (hole code false)=2/\0<=imm/\imm<=255:=by
 have:=h
 rw [ok_n8 (ok_in h).1 hx] at this
 obtain ⟨h0,h1⟩:=of_decide_eq_true this
 unfold bytesV;rw [h,hx];exact ⟨rfl,rfl,h0,h1⟩
theorem V_e {code:Int} {imm:Int} (h:okV code false imm=true) (hx:hole code false=⟨#[101,56]⟩):bytesV code false imm=strOfNums [code,imm]/\lenV false false (hole code false)=2/\0<=imm/\imm<=255:=by
 have:=h
 rw [ok_e8 (ok_in h).1 hx] at this
 obtain ⟨h0,h1⟩:=of_decide_eq_true this
 unfold bytesV;rw [h,hx];exact ⟨rfl,rfl,h0,h1⟩
theorem spec_1 (code imm:Int) (w:World) (h0:0<=code) (h1:code<=255) (e1:bytesV code false imm=strOfNums [code]) (e2:lenV false false (hole code false)=1)
  (co:∀ w,Calls prog 63 #[.agg #[.int .i64 code,.bool false,.int .i64 imm]] w fun e w'=>e=.returned (.bool true)/\Below w.heap.size w w') (cl:∀ w,Calls prog 64 #[.int .i64 code,.bool false] w fun e w'=>e=.returned (.int .i64 (lenV false false (hole code false)))/\Below w.heap.size w w') :
  Calls prog 53 #[.agg #[.int .i64 code,.bool false,.int .i64 imm]] w fun e w'=>e=.returned (.string (bytesV code false imm))/\Below w.heap.size w w':=by
 have hc:code%256=code:=by omega
 have cv1:=conv1
 have cv2:=conv2
 have cv3:=conv3
 rw [e1]
 rw [e2] at cl
 clear e1 e2
 go_enter func53,ntmps53
 go_wp2_with fail
 refine (co _).mono ?_
 rintro e w1 ⟨rfl,b1⟩
 have B1:Hid (Below _ _ w1):=b1
 have k0:=box b1 0 _ rfl
 have k1:=box b1 1 _ rfl
 have k2:=box b1 2 _ rfl
 clear b1 co
 go_wp2_with fail
 refine (cl _).mono ?_
 rintro e w2 ⟨rfl,b2⟩
 have B2:Hid (Below _ _ w2):=after B1.out b2
 clear b2 cl B1 k0 k1 k2
 have k0:=box B2.out 0 _ rfl
 have k2:=box B2.out 2 _ rfl
 go_wp2
 go_ret
 exact ⟨rfl,(unbox B2.out).alloc (unbox B2.out).size _⟩
theorem spec_2 (code imm:Int) (w:World) (h0:0<=code) (h1:code<=255) (e3:0<=imm) (e4:imm<=255) (e1:bytesV code false imm=strOfNums [code,imm]) (e2:lenV false false (hole code false)=2)
  (co:∀ w,Calls prog 63 #[.agg #[.int .i64 code,.bool false,.int .i64 imm]] w fun e w'=>e=.returned (.bool true)/\Below w.heap.size w w') (cl:∀ w,Calls prog 64 #[.int .i64 code,.bool false] w fun e w'=>e=.returned (.int .i64 (lenV false false (hole code false)))/\Below w.heap.size w w') :
  Calls prog 53 #[.agg #[.int .i64 code,.bool false,.int .i64 imm]] w fun e w'=>e=.returned (.string (bytesV code false imm))/\Below w.heap.size w w':=by
 have hc:code%256=code:=by omega
 have hi:imm%256=imm:=by omega
 have cv1:=conv1
 have cv2:=conv2
 have cv3:=conv3
 rw [e1]
 rw [e2] at cl
 clear e1 e2
 go_enter func53,ntmps53
 go_wp2_with fail
 refine (co _).mono ?_
 rintro e w1 ⟨rfl,b1⟩
 have B1:Hid (Below _ _ w1):=b1
 have k0:=box b1 0 _ rfl
 have k1:=box b1 1 _ rfl
 have k2:=box b1 2 _ rfl
 clear b1 co
 go_wp2_with fail
 refine (cl _).mono ?_
 rintro e w2 ⟨rfl,b2⟩
 have B2:Hid (Below _ _ w2):=after B1.out b2
 clear b2 cl B1 k0 k1 k2
 have k0:=box B2.out 0 _ rfl
 have k2:=box B2.out 2 _ rfl
 go_wp2
 go_ret
 exact ⟨rfl,(unbox B2.out).alloc (unbox B2.out).size _⟩
theorem spec_3 (code imm:Int) (w:World) (h0:0<=code) (h1:code<=255) (e3:0<=imm) (e4:imm<=65535) (e1:bytesV code false imm=strOfNums [code,imm%256,imm / 256]) (e2:lenV false false (hole code false)=3)
  (co:∀ w,Calls prog 63 #[.agg #[.int .i64 code,.bool false,.int .i64 imm]] w fun e w'=>e=.returned (.bool true)/\Below w.heap.size w w') (cl:∀ w,Calls prog 64 #[.int .i64 code,.bool false] w fun e w'=>e=.returned (.int .i64 (lenV false false (hole code false)))/\Below w.heap.size w w') :
  Calls prog 53 #[.agg #[.int .i64 code,.bool false,.int .i64 imm]] w fun e w'=>e=.returned (.string (bytesV code false imm))/\Below w.heap.size w w':=by
 have hc:code%256=code:=by omega
 have hi:imm / 256%256=imm / 256:=by omega
 have cv1:=conv1
 have cv2:=conv2
 have cv3:=conv3
 rw [e1]
 rw [e2] at cl
 clear e1 e2
 go_enter func53,ntmps53
 go_wp2_with fail
 refine (co _).mono ?_
 rintro e w1 ⟨rfl,b1⟩
 have B1:Hid (Below _ _ w1):=b1
 have k0:=box b1 0 _ rfl
 have k1:=box b1 1 _ rfl
 have k2:=box b1 2 _ rfl
 clear b1 co
 go_wp2_with fail
 refine (cl _).mono ?_
 rintro e w2 ⟨rfl,b2⟩
 have B2:Hid (Below _ _ w2):=after B1.out b2
 clear b2 cl B1 k0 k1 k2
 have k0:=box B2.out 0 _ rfl
 have k2:=box B2.out 2 _ rfl
 go_wp2
 go_ret
 exact ⟨rfl,(unbox B2.out).alloc (unbox B2.out).size _⟩
theorem specBytes_any (code:Int) (cb:Bool) (imm:Int) (w:World) :
  Calls prog 53 #[.agg #[.int .i64 code,.bool cb,.int .i64 imm]] w fun e w'=>e=.returned (.string (bytesV code cb imm))/\Below w.heap.size w w':=by
 have co:=fun w=>specOk_any code cb imm w
 cases ho:okV code cb imm
 ·have hv:bytesV code cb imm=⟨#[]⟩:=by unfold bytesV;rw [ho];rfl
  rw [hv]
  rw [ho] at co
  go_enter func53,ntmps53
  go_wp2_with fail
  refine (co _).mono ?_
  rintro e w1 ⟨rfl,b1⟩
  have B1:Hid (Below _ _ w1):=b1
  clear b1 co
  go_wp2
  go_ret
  exact ⟨rfl,unbox B1.out⟩
 rw [ho] at co
 obtain ⟨hn,h0,h1⟩:=ok_in ho
 have hc:code%256=code:=by omega
 have cv1:=conv1
 have cv2:=conv2
 have cv3:=conv3
 cases cb with
 | true =>
  have hv:bytesV code true imm=strOfNums [203,code]:=by unfold bytesV;rw [ho];rfl
  rw [hv]
  go_enter func53,ntmps53
  go_wp2_with fail
  refine (co _).mono ?_
  rintro e w1 ⟨rfl,b1⟩
  have B1:Hid (Below _ _ w1):=b1
  have k0:=box b1 0 _ rfl
  have k1:=box b1 1 _ rfl
  clear b1 co
  go_wp2
  go_ret
  exact ⟨rfl,(unbox B1.out).alloc (unbox B1.out).size _⟩
 | false =>
  have cl:=fun w=>length_any code false w h0 h1
  have hd:decide ((Tmpl.tmplS code false).size=0)=false:=by
   unfold none? at hn
   rw [show inB code 0 255=true from decide_eq_true ⟨h0,h1⟩,beqN] at hn
   simpa using hn
  rw [hd] at cl
  rcases hole_cases code false with hx|hx|hx|hx
  ·obtain ⟨e1,e2,e3,e4⟩:=V_8 ho hx
   exact spec_2 code imm w h0 h1 e3 e4 e1 e2 co cl
  ·obtain ⟨e1,e2,e3,e4⟩:=V_16 ho hx
   exact spec_3 code imm w h0 h1 e3 e4 e1 e2 co cl
  ·obtain ⟨e1,e2,e3,e4⟩:=V_e ho hx
   exact spec_2 code imm w h0 h1 e3 e4 e1 e2 co cl
  ·obtain ⟨e1,e2⟩:=V_no ho hx
   exact spec_1 code imm w h0 h1 e1 e2 co cl
end InsB
namespace DrawI
open Rdr (Rd Post)
open HoleX (n8 n16 e8 holeT holeP)
open HolI LenX InsX
open InsB
def I64 (x:Int):Prop:=(Lit.int .i64 x).wf=true
theorem I64.small {x:Int} (h0:0<=x) (h1:x<=65535):I64 x:=Rdr.wf_small (by omega) (by omega)
theorem postB {w w':World} {rb:Nat} (h:Rd w rb) (b:Below w.heap.size w w'):Post w rb w' :=
 ⟨h.kept fun k hk=>b.block k (Nat.lt_of_le_of_lt hk h.lt),⟨b.os,b.tape,b.output,b.size,fun k hk _=>b.block k hk⟩⟩
theorem postSet {w w':World} {rb:Nat} (h:Post w rb w') (hr:rb<w.heap.size) {p:Addr} (hb:w.heap.size<=p.block) (v:Value):Post w rb (w'.setCell p v) :=
 ⟨h.1.kept fun k hk=>Below.heap_setCell _ _ _ _ (by omega),⟨h.2.os,h.2.tape,h.2.output,by simpa [World.setCell] using h.2.size,fun k hk hne=>(Below.heap_setCell _ _ _ _ (by omega)).trans (h.2.block k hk hne)⟩⟩
def Box (w:World) (b:Nat) (c:Int) (q:Bool) (m:Int):Prop:=w.cell? ⟨b,0,none⟩=some (.int .i64 c)/\w.cell? ⟨b,1,none⟩=some (.bool q)/\w.cell? ⟨b,2,none⟩=some (.int .i64 m)/\∀ i,w.frozen? ⟨b,i,none⟩=false
theorem Box.lt {w:World} {b:Nat} {c:Int} {q:Bool} {m:Int} (h:Box w b c q m):b<w.heap.size:=World.block_lt_of_cell? w ⟨b,0,none⟩ h.1
theorem Box.kept {w w':World} {b:Nat} {c:Int} {q:Bool} {m:Int} (h:Box w b c q m) (hk:w'.heap[b]? = w.heap[b]?):Box w' b c q m :=
 ⟨(World.cell?_of_block (a:=⟨b,0,none⟩) hk).trans h.1,(World.cell?_of_block (a:=⟨b,1,none⟩) hk).trans h.2.1,(World.cell?_of_block (a:=⟨b,2,none⟩) hk).trans h.2.2.1,fun i=>(World.frozen?_of_block (a:=⟨b,i,none⟩) hk).trans (h.2.2.2 i)⟩
theorem Box.new (w:World) (c:Int) (q:Bool) (m:Int) (T:TypeId):Box (w.alloc (.cells #[.int .i64 c,.bool q,.int .i64 m] T)) w.heap.size c q m :=
 ⟨by rw [World.cell?_alloc_new];rfl,by rw [World.cell?_alloc_new];rfl,by rw [World.cell?_alloc_new];rfl,fun i=>World.frozen?_alloc_new w _ T i⟩
theorem Box.alloc {w:World} {b:Nat} {c:Int} {q:Bool} {m:Int} (h:Box w b c q m) (o:Obj):Box (w.alloc o) b c q m:=h.kept (Below.heap_alloc _ _ _ h.lt)
theorem Box.post {w w':World} {rb b:Nat} {c:Int} {q:Bool} {m:Int} (h:Box w b c q m) (hp:Post w rb w') (hne:b ≠ rb):Box w' b c q m:=h.kept (hp.2.block b h.lt (fun e=>hne (Option.some.inj e)))
theorem Box.below {w w':World} {b:Nat} {c:Int} {q:Bool} {m:Int} (h:Box w b c q m) (hb:Below w.heap.size w w'):Box w' b c q m:=h.kept (hb.block b h.lt)
theorem Box.other {w:World} {b d i:Nat} {c:Int} {q:Bool} {m:Int} (h:Box w b c q m) (hne:b ≠ d) (v:Value):Box (w.setCell ⟨d,i,none⟩ v) b c q m:=h.kept (Below.heap_setCell _ _ _ _ hne)
theorem Box.put {w:World} {b:Nat} {c:Int} {q:Bool} {m:Int} (h:Box w b c q m) (x:Int):Box (w.setCell ⟨b,2,none⟩ (.int .i64 x)) b c q x :=
 ⟨(World.cell?_setCell_other w _ _ _ (by simp)).trans h.1,(World.cell?_setCell_other w _ _ _ (by simp)).trans h.2.1,World.cell?_setCell_same w _ _ h.2.2.1,fun i=>by rw [World.frozen?_setCell];exact h.2.2.2 i⟩
theorem ins_any (rb:Nat) (w:World) (h:Rd w rb) :
  Calls prog 65 #[.pointer (some ⟨rb,0,none⟩)] w fun e w'=>(∃ (c:Int) (b:Bool) (m:Int),0<=c/\c<=255/\I64 m/\e=.returned (.agg #[.int .i64 c,.bool b,.int .i64 m]))/\Post w rb w':=by
 have H:Hid (Rd w rb):=h
 clear h
 go_enter func65,ntmps65
 go_wp2_with fail
 refine (Rdr.below_any _ _ _ ((Post.refl H.out).alloc _).1 (by decide) (by decide)).mono ?_
 rintro e w1 ⟨⟨c,c0,c1,rfl⟩,p1⟩
 go_wp2_with fail
 refine (Rdr.once_any _ _ _ p1.1 (by decide) (by decide)).mono ?_
 rintro e w2 ⟨⟨q,rfl⟩,p2⟩
 have HC:Hid (0<=c/\c<=255):=⟨c0,by omega⟩
 have hlt:=H.out.lt
 have BR:Hid (Box w2 w.heap.size 0 false 0):=((Box.new w 0 false 0 _).post p1 (Nat.ne_of_gt hlt)).post p2 (Nat.ne_of_gt hlt)
 have PW:Hid (Post w rb w2):=(((Post.refl H.out).alloc _).trans p1).trans p2
 have HN:Hid (rb<w.heap.size/\rb ≠ w2.heap.size/\w.heap.size<w2.heap.size):=⟨hlt,by have:=BR.out.lt;omega,BR.out.lt⟩
 have ct:=fun w=>Tmpl.template_any c q w HC.out.1 HC.out.2
 have tz:=Leng.tmpl_le c q HC.out.1 HC.out.2
 have ch:=fun w=>HoleX.hole_any (Tmpl.tmplS c q) w (by omega)
 unfold HoleX.ret at ch
 have hcs:=LenX.holeT_cases (Tmpl.tmplS c q)
 generalize holeP (Tmpl.tmplS c q)=V at ch
 generalize holeT (Tmpl.tmplS c q)=G at ch hcs
 generalize Tmpl.tmplS c q=T at ct ch
 clear tz hlt p1 p2 c0 c1
 go_wp2_with fail
 refine (ct _).mono ?_
 rintro e w3 ⟨rfl,b3⟩
 have BI:Hid (Box w3 w2.heap.size c q 0):=(Box.new w2 c q 0 _).below b3
 have BR:Hid (Box w3 w.heap.size 0 false 0):=(BR.out.alloc _).below b3
 have PW:Hid (Post w rb w3):=(PW.out.alloc _).trans (postB (PW.out.alloc _).1 b3)
 clear b3 ct
 generalize w2.heap.size=ib at BI HN
 obtain ⟨i0,i1,i2,iff⟩:=BI.out
 obtain ⟨r0,r1,r2,rf⟩:=BR.out
 have if2:=iff 2
 have rf0:=rf 0
 have rf1:=rf 1
 have rf2:=rf 2
 clear iff rf
 go_wp2_with fail
 refine (ch _).mono ?_
 rintro e w4 ⟨rfl,b4⟩
 clear i0 i1 i2 if2 r0 r1 r2 rf0 rf1 rf2
 have BI:=zHd (BI.out.below b4)
 have BR:=zHd (BR.out.below b4)
 have PW:Hid (Post w rb w4):=PW.out.trans (postB PW.out.1 b4)
 clear b4 ch
 obtain ⟨i0,i1,i2,iff⟩:=BI.out
 obtain ⟨r0,r1,r2,rf⟩:=BR.out
 have if2:=iff 2
 have rf0:=rf 0
 have rf1:=rf 1
 have rf2:=rf 2
 clear iff rf
 rcases hcs with rfl|rfl|rfl|rfl
 ·go_wp2_with fail
  refine (Rdr.byte_any _ _ PW.out.1).mono ?_
  rintro e w5 ⟨⟨x,x0,x1,rfl⟩,p5⟩
  clear i0 i1 i2 if2 r0 r1 r2 rf0 rf1 rf2
  have HX:Hid (I64 x):=I64.small x0 (by omega)
  have hwx:IntKind.i64.wrap x=x:=by rw [IntKind.wrap_i64];omega
  have BI:Hid (Box w5 ib c q 0):=BI.out.post p5 (Ne.symm HN.out.2.1)
  have BR:Hid (Box w5 w.heap.size 0 false 0):=BR.out.post p5 (Nat.ne_of_gt HN.out.1)
  have PW:Hid (Post w rb w5):=PW.out.trans p5
  clear p5 x0 x1
  obtain ⟨i0,i1,i2,iff⟩:=BI.out
  obtain ⟨r0,r1,r2,rf⟩:=BR.out
  have if2:=iff 2
  have rf0:=rf 0
  have rf1:=rf 1
  have rf2:=rf 2
  clear iff rf
  go_wp2_with fail
  clear i0 i1 i2 if2 r0 r1 r2 rf0 rf1 rf2
  have BR:Hid (Box (w5.setCell ⟨ib,2,none⟩ (.int .i64 x)) w.heap.size 0 false 0):=BR.out.other (Nat.ne_of_lt HN.out.2.2) _
  have BI:Hid (Box (w5.setCell ⟨ib,2,none⟩ (.int .i64 x)) ib c q x):=BI.out.put x
  have PW:Hid (Post w rb (w5.setCell ⟨ib,2,none⟩ (.int .i64 x))):=postSet PW.out HN.out.1 (p:=⟨ib,2,none⟩) (Nat.le_of_lt HN.out.2.2) _
  generalize w5.setCell ⟨ib,2,none⟩ (.int .i64 x)=w5s at BR BI PW |-
  obtain ⟨i0,i1,i2,iff⟩:=BI.out
  obtain ⟨r0,r1,r2,rf⟩:=BR.out
  have if2:=iff 2
  have rf0:=rf 0
  have rf1:=rf 1
  have rf2:=rf 2
  clear iff rf
  refine (Rdr.once_any _ _ _ PW.out.1 (by decide) (by decide)).mono ?_
  rintro e w6 ⟨⟨q2,rfl⟩,p6⟩
  clear i0 i1 i2 if2 r0 r1 r2 rf0 rf1 rf2
  have BI:Hid (Box w6 ib c q x):=BI.out.post p6 (Ne.symm HN.out.2.1)
  have BR:Hid (Box w6 w.heap.size 0 false 0):=BR.out.post p6 (Nat.ne_of_gt HN.out.1)
  have PW:Hid (Post w rb w6):=PW.out.trans p6
  clear p6
  obtain ⟨i0,i1,i2,iff⟩:=BI.out
  obtain ⟨r0,r1,r2,rf⟩:=BR.out
  have if2:=iff 2
  have rf0:=rf 0
  have rf1:=rf 1
  have rf2:=rf 2
  clear iff rf
  cases q2 with
  | false =>
   go_wp2
   exact bodyPost_ret (v:=.agg #[.int .i64 c,.bool q,.int .i64 x]) (by simp [results,results65,go_sem,r0,r1,r2]) rfl ⟨⟨c,q,x,HC.out.1,HC.out.2,HX.out,rfl⟩,postSet (postSet (postSet PW.out HN.out.1 (p:=⟨w.heap.size,0,none⟩) (Nat.le_refl _) _) HN.out.1 (p:=⟨w.heap.size,1,none⟩) (Nat.le_refl _) _) HN.out.1 (p:=⟨w.heap.size,2,none⟩) (Nat.le_refl _) _⟩
  | true =>
   go_wp2_with fail
   refine (Rdr.off_any _ _ _ _ PW.out.1 (by decide) (by decide) (by decide)).mono ?_
   rintro e w7 ⟨⟨y,hy,rfl⟩,p7⟩
   clear i0 i1 i2 if2 r0 r1 r2 rf0 rf1 rf2
   have HY:Hid (I64 y):=hy
   clear hy
   have BI:Hid (Box w7 ib c q x):=BI.out.post p7 (Ne.symm HN.out.2.1)
   have BR:Hid (Box w7 w.heap.size 0 false 0):=BR.out.post p7 (Nat.ne_of_gt HN.out.1)
   have PW:Hid (Post w rb (w7.setCell ⟨ib,2,none⟩ (.int .i64 y))):=postSet (PW.out.trans p7) HN.out.1 (p:=⟨ib,2,none⟩) (Nat.le_of_lt HN.out.2.2) _
   clear p7
   obtain ⟨i0,i1,i2,iff⟩:=BI.out
   obtain ⟨r0,r1,r2,rf⟩:=BR.out
   have if2:=iff 2
   have rf0:=rf 0
   have rf1:=rf 1
   have rf2:=rf 2
   clear iff rf
   have hne:¬ ib=w.heap.size:=Nat.ne_of_gt HN.out.2.2
   have hne2:¬ w.heap.size=ib:=Nat.ne_of_lt HN.out.2.2
   go_wp2
   exact bodyPost_ret (v:=.agg #[.int .i64 c,.bool q,.int .i64 y]) (by simp [results,results65,go_sem,r0,r1,r2]) rfl ⟨⟨c,q,y,HC.out.1,HC.out.2,HY.out,rfl⟩,postSet (postSet (postSet PW.out HN.out.1 (p:=⟨w.heap.size,0,none⟩) (Nat.le_refl _) _) HN.out.1 (p:=⟨w.heap.size,1,none⟩) (Nat.le_refl _) _) HN.out.1 (p:=⟨w.heap.size,2,none⟩) (Nat.le_refl _) _⟩
 ·go_wp2_with fail
  refine (Rdr.below_any _ _ _ PW.out.1 (by decide) (by decide)).mono ?_
  rintro e w5 ⟨⟨x,x0,x1,rfl⟩,p5⟩
  clear i0 i1 i2 if2 r0 r1 r2 rf0 rf1 rf2
  have HX:Hid (I64 x):=I64.small x0 (by omega)
  have hwx:IntKind.i64.wrap x=x:=by rw [IntKind.wrap_i64];omega
  have BI:Hid (Box w5 ib c q 0):=BI.out.post p5 (Ne.symm HN.out.2.1)
  have BR:Hid (Box w5 w.heap.size 0 false 0):=BR.out.post p5 (Nat.ne_of_gt HN.out.1)
  have PW:Hid (Post w rb w5):=PW.out.trans p5
  clear p5 x0 x1
  obtain ⟨i0,i1,i2,iff⟩:=BI.out
  obtain ⟨r0,r1,r2,rf⟩:=BR.out
  have if2:=iff 2
  have rf0:=rf 0
  have rf1:=rf 1
  have rf2:=rf 2
  clear iff rf
  go_wp2_with fail
  clear i0 i1 i2 if2 r0 r1 r2 rf0 rf1 rf2
  have BR:Hid (Box (w5.setCell ⟨ib,2,none⟩ (.int .i64 x)) w.heap.size 0 false 0):=BR.out.other (Nat.ne_of_lt HN.out.2.2) _
  have BI:Hid (Box (w5.setCell ⟨ib,2,none⟩ (.int .i64 x)) ib c q x):=BI.out.put x
  have PW:Hid (Post w rb (w5.setCell ⟨ib,2,none⟩ (.int .i64 x))):=postSet PW.out HN.out.1 (p:=⟨ib,2,none⟩) (Nat.le_of_lt HN.out.2.2) _
  generalize w5.setCell ⟨ib,2,none⟩ (.int .i64 x)=w5s at BR BI PW |-
  obtain ⟨i0,i1,i2,iff⟩:=BI.out
  obtain ⟨r0,r1,r2,rf⟩:=BR.out
  have if2:=iff 2
  have rf0:=rf 0
  have rf1:=rf 1
  have rf2:=rf 2
  clear iff rf
  refine (Rdr.once_any _ _ _ PW.out.1 (by decide) (by decide)).mono ?_
  rintro e w6 ⟨⟨q2,rfl⟩,p6⟩
  clear i0 i1 i2 if2 r0 r1 r2 rf0 rf1 rf2
  have BI:Hid (Box w6 ib c q x):=BI.out.post p6 (Ne.symm HN.out.2.1)
  have BR:Hid (Box w6 w.heap.size 0 false 0):=BR.out.post p6 (Nat.ne_of_gt HN.out.1)
  have PW:Hid (Post w rb w6):=PW.out.trans p6
  clear p6
  obtain ⟨i0,i1,i2,iff⟩:=BI.out
  obtain ⟨r0,r1,r2,rf⟩:=BR.out
  have if2:=iff 2
  have rf0:=rf 0
  have rf1:=rf 1
  have rf2:=rf 2
  clear iff rf
  cases q2 with
  | false =>
   go_wp2
   exact bodyPost_ret (v:=.agg #[.int .i64 c,.bool q,.int .i64 x]) (by simp [results,results65,go_sem,r0,r1,r2]) rfl ⟨⟨c,q,x,HC.out.1,HC.out.2,HX.out,rfl⟩,postSet (postSet (postSet PW.out HN.out.1 (p:=⟨w.heap.size,0,none⟩) (Nat.le_refl _) _) HN.out.1 (p:=⟨w.heap.size,1,none⟩) (Nat.le_refl _) _) HN.out.1 (p:=⟨w.heap.size,2,none⟩) (Nat.le_refl _) _⟩
  | true =>
   go_wp2_with fail
   refine (Rdr.off_any _ _ _ _ PW.out.1 (by decide) (by decide) (by decide)).mono ?_
   rintro e w7 ⟨⟨y,hy,rfl⟩,p7⟩
   clear i0 i1 i2 if2 r0 r1 r2 rf0 rf1 rf2
   have HY:Hid (I64 y):=hy
   clear hy
   have BI:Hid (Box w7 ib c q x):=BI.out.post p7 (Ne.symm HN.out.2.1)
   have BR:Hid (Box w7 w.heap.size 0 false 0):=BR.out.post p7 (Nat.ne_of_gt HN.out.1)
   have PW:Hid (Post w rb (w7.setCell ⟨ib,2,none⟩ (.int .i64 y))):=postSet (PW.out.trans p7) HN.out.1 (p:=⟨ib,2,none⟩) (Nat.le_of_lt HN.out.2.2) _
   clear p7
   obtain ⟨i0,i1,i2,iff⟩:=BI.out
   obtain ⟨r0,r1,r2,rf⟩:=BR.out
   have if2:=iff 2
   have rf0:=rf 0
   have rf1:=rf 1
   have rf2:=rf 2
   clear iff rf
   have hne:¬ ib=w.heap.size:=Nat.ne_of_gt HN.out.2.2
   have hne2:¬ w.heap.size=ib:=Nat.ne_of_lt HN.out.2.2
   go_wp2
   exact bodyPost_ret (v:=.agg #[.int .i64 c,.bool q,.int .i64 y]) (by simp [results,results65,go_sem,r0,r1,r2]) rfl ⟨⟨c,q,y,HC.out.1,HC.out.2,HY.out,rfl⟩,postSet (postSet (postSet PW.out HN.out.1 (p:=⟨w.heap.size,0,none⟩) (Nat.le_refl _) _) HN.out.1 (p:=⟨w.heap.size,1,none⟩) (Nat.le_refl _) _) HN.out.1 (p:=⟨w.heap.size,2,none⟩) (Nat.le_refl _) _⟩
 ·go_wp2_with fail
  refine (Rdr.byte_any _ _ PW.out.1).mono ?_
  rintro e w5 ⟨⟨x,x0,x1,rfl⟩,p5⟩
  clear i0 i1 i2 if2 r0 r1 r2 rf0 rf1 rf2
  have HX:Hid (I64 x):=I64.small x0 (by omega)
  have hwx:IntKind.i64.wrap x=x:=by rw [IntKind.wrap_i64];omega
  have BI:Hid (Box w5 ib c q 0):=BI.out.post p5 (Ne.symm HN.out.2.1)
  have BR:Hid (Box w5 w.heap.size 0 false 0):=BR.out.post p5 (Nat.ne_of_gt HN.out.1)
  have PW:Hid (Post w rb w5):=PW.out.trans p5
  clear p5 x0 x1
  obtain ⟨i0,i1,i2,iff⟩:=BI.out
  obtain ⟨r0,r1,r2,rf⟩:=BR.out
  have if2:=iff 2
  have rf0:=rf 0
  have rf1:=rf 1
  have rf2:=rf 2
  clear iff rf
  go_wp2_with fail
  clear i0 i1 i2 if2 r0 r1 r2 rf0 rf1 rf2
  have BR:Hid (Box (w5.setCell ⟨ib,2,none⟩ (.int .i64 x)) w.heap.size 0 false 0):=BR.out.other (Nat.ne_of_lt HN.out.2.2) _
  have BI:Hid (Box (w5.setCell ⟨ib,2,none⟩ (.int .i64 x)) ib c q x):=BI.out.put x
  have PW:Hid (Post w rb (w5.setCell ⟨ib,2,none⟩ (.int .i64 x))):=postSet PW.out HN.out.1 (p:=⟨ib,2,none⟩) (Nat.le_of_lt HN.out.2.2) _
  generalize w5.setCell ⟨ib,2,none⟩ (.int .i64 x)=w5s at BR BI PW |-
  obtain ⟨i0,i1,i2,iff⟩:=BI.out
  obtain ⟨r0,r1,r2,rf⟩:=BR.out
  have if2:=iff 2
  have rf0:=rf 0
  have rf1:=rf 1
  have rf2:=rf 2
  clear iff rf
  refine (Rdr.once_any _ _ _ PW.out.1 (by decide) (by decide)).mono ?_
  rintro e w6 ⟨⟨q2,rfl⟩,p6⟩
  clear i0 i1 i2 if2 r0 r1 r2 rf0 rf1 rf2
  have BI:Hid (Box w6 ib c q x):=BI.out.post p6 (Ne.symm HN.out.2.1)
  have BR:Hid (Box w6 w.heap.size 0 false 0):=BR.out.post p6 (Nat.ne_of_gt HN.out.1)
  have PW:Hid (Post w rb w6):=PW.out.trans p6
  clear p6
  obtain ⟨i0,i1,i2,iff⟩:=BI.out
  obtain ⟨r0,r1,r2,rf⟩:=BR.out
  have if2:=iff 2
  have rf0:=rf 0
  have rf1:=rf 1
  have rf2:=rf 2
  clear iff rf
  cases q2 with
  | false =>
   go_wp2
   exact bodyPost_ret (v:=.agg #[.int .i64 c,.bool q,.int .i64 x]) (by simp [results,results65,go_sem,r0,r1,r2]) rfl ⟨⟨c,q,x,HC.out.1,HC.out.2,HX.out,rfl⟩,postSet (postSet (postSet PW.out HN.out.1 (p:=⟨w.heap.size,0,none⟩) (Nat.le_refl _) _) HN.out.1 (p:=⟨w.heap.size,1,none⟩) (Nat.le_refl _) _) HN.out.1 (p:=⟨w.heap.size,2,none⟩) (Nat.le_refl _) _⟩
  | true =>
   go_wp2_with fail
   refine (Rdr.off_any _ _ _ _ PW.out.1 (by decide) (by decide) (by decide)).mono ?_
   rintro e w7 ⟨⟨y,hy,rfl⟩,p7⟩
   clear i0 i1 i2 if2 r0 r1 r2 rf0 rf1 rf2
   have HY:Hid (I64 y):=hy
   clear hy
   have BI:Hid (Box w7 ib c q x):=BI.out.post p7 (Ne.symm HN.out.2.1)
   have BR:Hid (Box w7 w.heap.size 0 false 0):=BR.out.post p7 (Nat.ne_of_gt HN.out.1)
   have PW:Hid (Post w rb (w7.setCell ⟨ib,2,none⟩ (.int .i64 y))):=postSet (PW.out.trans p7) HN.out.1 (p:=⟨ib,2,none⟩) (Nat.le_of_lt HN.out.2.2) _
   clear p7
   obtain ⟨i0,i1,i2,iff⟩:=BI.out
   obtain ⟨r0,r1,r2,rf⟩:=BR.out
   have if2:=iff 2
   have rf0:=rf 0
   have rf1:=rf 1
   have rf2:=rf 2
   clear iff rf
   have hne:¬ ib=w.heap.size:=Nat.ne_of_gt HN.out.2.2
   have hne2:¬ w.heap.size=ib:=Nat.ne_of_lt HN.out.2.2
   go_wp2
   exact bodyPost_ret (v:=.agg #[.int .i64 c,.bool q,.int .i64 y]) (by simp [results,results65,go_sem,r0,r1,r2]) rfl ⟨⟨c,q,y,HC.out.1,HC.out.2,HY.out,rfl⟩,postSet (postSet (postSet PW.out HN.out.1 (p:=⟨w.heap.size,0,none⟩) (Nat.le_refl _) _) HN.out.1 (p:=⟨w.heap.size,1,none⟩) (Nat.le_refl _) _) HN.out.1 (p:=⟨w.heap.size,2,none⟩) (Nat.le_refl _) _⟩
 ·go_wp2_with fail
  refine (Rdr.once_any _ _ _ PW.out.1 (by decide) (by decide)).mono ?_
  rintro e w6 ⟨⟨q2,rfl⟩,p6⟩
  clear i0 i1 i2 if2 r0 r1 r2 rf0 rf1 rf2
  have BI:Hid (Box w6 ib c q 0):=BI.out.post p6 (Ne.symm HN.out.2.1)
  have BR:Hid (Box w6 w.heap.size 0 false 0):=BR.out.post p6 (Nat.ne_of_gt HN.out.1)
  have PW:Hid (Post w rb w6):=PW.out.trans p6
  clear p6
  obtain ⟨i0,i1,i2,iff⟩:=BI.out
  obtain ⟨r0,r1,r2,rf⟩:=BR.out
  have if2:=iff 2
  have rf0:=rf 0
  have rf1:=rf 1
  have rf2:=rf 2
  clear iff rf
  cases q2 with
  | false =>
   go_wp2
   exact bodyPost_ret (v:=.agg #[.int .i64 c,.bool q,.int .i64 0]) (by simp [results,results65,go_sem,r0,r1,r2]) rfl ⟨⟨c,q,0,HC.out.1,HC.out.2,I64.small (by omega) (by omega),rfl⟩,postSet (postSet (postSet PW.out HN.out.1 (p:=⟨w.heap.size,0,none⟩) (Nat.le_refl _) _) HN.out.1 (p:=⟨w.heap.size,1,none⟩) (Nat.le_refl _) _) HN.out.1 (p:=⟨w.heap.size,2,none⟩) (Nat.le_refl _) _⟩
  | true =>
   go_wp2_with fail
   refine (Rdr.off_any _ _ _ _ PW.out.1 (by decide) (by decide) (by decide)).mono ?_
   rintro e w7 ⟨⟨y,hy,rfl⟩,p7⟩
   clear i0 i1 i2 if2 r0 r1 r2 rf0 rf1 rf2
   have HY:Hid (I64 y):=hy
   clear hy
   have BI:Hid (Box w7 ib c q 0):=BI.out.post p7 (Ne.symm HN.out.2.1)
   have BR:Hid (Box w7 w.heap.size 0 false 0):=BR.out.post p7 (Nat.ne_of_gt HN.out.1)
   have PW:Hid (Post w rb (w7.setCell ⟨ib,2,none⟩ (.int .i64 y))):=postSet (PW.out.trans p7) HN.out.1 (p:=⟨ib,2,none⟩) (Nat.le_of_lt HN.out.2.2) _
   clear p7
   obtain ⟨i0,i1,i2,iff⟩:=BI.out
   obtain ⟨r0,r1,r2,rf⟩:=BR.out
   have if2:=iff 2
   have rf0:=rf 0
   have rf1:=rf 1
   have rf2:=rf 2
   clear iff rf
   have hne:¬ ib=w.heap.size:=Nat.ne_of_gt HN.out.2.2
   have hne2:¬ w.heap.size=ib:=Nat.ne_of_lt HN.out.2.2
   go_wp2
   exact bodyPost_ret (v:=.agg #[.int .i64 c,.bool q,.int .i64 y]) (by simp [results,results65,go_sem,r0,r1,r2]) rfl ⟨⟨c,q,y,HC.out.1,HC.out.2,HY.out,rfl⟩,postSet (postSet (postSet PW.out HN.out.1 (p:=⟨w.heap.size,0,none⟩) (Nat.le_refl _) _) HN.out.1 (p:=⟨w.heap.size,1,none⟩) (Nat.le_refl _) _) HN.out.1 (p:=⟨w.heap.size,2,none⟩) (Nat.le_refl _) _⟩
theorem bytesV_le (c:Int) (b:Bool) (m:Int):(bytesV c b m).size<=3:=by
 unfold bytesV
 repeat' split
 all_goals (first|(rw [strOfNums_size];simp)|decide)
theorem bytes_any (code:Int) (cb:Bool) (imm:Int) (w:World) :
  Calls prog 53 #[.agg #[.int .i64 code,.bool cb,.int .i64 imm]] w fun e w'=>(∃ s:ByteArray,s.size<=3/\e=.returned (.string s))/\Below w.heap.size w w' :=
 (specBytes_any code cb imm w).mono fun e w' ⟨he,hb⟩=>⟨⟨_,bytesV_le code cb imm,he⟩,hb⟩
end DrawI
namespace DrawP
open Rdr (Rd Post)
open HolI DrawI Fixa
def Ins3 (e:Ending):Prop:=∃ (c:Int) (b:Bool) (m:Int),e=.returned (.agg #[.int .i64 c,.bool b,.int .i64 m])
theorem plain_any (rb:Nat) (w:World) (h:Rd w rb) :
  Calls prog 54 #[.pointer (some ⟨rb,0,none⟩)] w fun e w'=>Ins3 e/\Post w rb w':=by
 have H:Hid (Rd w rb):=h
 clear h
 go_enter func54,ntmps54
 go_wp2_with fail
 refine (ins_any _ _ ((Post.refl H.out).alloc _).1).mono ?_
 rintro e w1 ⟨⟨c,b,m,c0,c1,hm,rfl⟩,p1⟩
 have hlt:=H.out.lt
 have BR:Hid (Box w1 w.heap.size 0 false 0):=(Box.new w 0 false 0 _).post p1 (Nat.ne_of_gt hlt)
 have PW:Hid (Post w rb w1):=((Post.refl H.out).alloc _).trans p1
 have HN:Hid (rb<w.heap.size/\rb ≠ w1.heap.size/\w.heap.size<w1.heap.size):=⟨hlt,by have:=BR.out.lt;omega,BR.out.lt⟩
 have m1:m<=9223372036854775807:=by unfold I64 at hm;simp [Lit.wf] at hm;omega
 clear hlt p1 hm
 go_upto_region 2 with fail
 have BI:Hid (Box (w1.alloc (.cells #[.int .i64 c,.bool b,.int .i64 m] 76)) w1.heap.size c b m):=Box.new _ _ _ _ _
 have BR:Hid (Box (w1.alloc (.cells #[.int .i64 c,.bool b,.int .i64 m] 76)) w.heap.size 0 false 0):=BR.out.alloc _
 have PW:Hid (Post w rb (w1.alloc (.cells #[.int .i64 c,.bool b,.int .i64 m] 76))):=PW.out.alloc _
 generalize w1.alloc (.cells #[.int .i64 c,.bool b,.int .i64 m] 76)=w2 at BI BR PW |-
 generalize w1.heap.size=ib at BI HN |-
 obtain ⟨i0,i1,i2,iff⟩:=BI.out
 obtain ⟨r0,r1,r2,rf⟩:=BR.out
 have if0:=iff 0
 have if1:=iff 1
 have if2:=iff 2
 have rf0:=rf 0
 have rf1:=rf 1
 have rf2:=rf 2
 clear iff rf
 cases b with
 | true =>
  go_wp2
  exact bodyPost_ret (v:=.agg #[.int .i64 c,.bool true,.int .i64 m]) (by simp [results,results54,go_sem,r0,r1,r2]) rfl ⟨⟨_,_,_,rfl⟩,postSet (postSet (postSet PW.out HN.out.1 (p:=⟨w.heap.size,0,none⟩) (Nat.le_refl _) _) HN.out.1 (p:=⟨w.heap.size,1,none⟩) (Nat.le_refl _) _) HN.out.1 (p:=⟨w.heap.size,2,none⟩) (Nat.le_refl _) _⟩
 | false =>
  go_wp2_with fail
  clear i0 i1 i2 if0 if1 if2 r0 r1 r2 rf0 rf1 rf2
  refine (Rdr.once_any _ _ _ PW.out.1 (by decide) (by decide)).mono ?_
  rintro e w3 ⟨⟨q,rfl⟩,p3⟩
  have BI:Hid (Box w3 ib c false m):=BI.out.post p3 (Ne.symm HN.out.2.1)
  have BR:Hid (Box w3 w.heap.size 0 false 0):=BR.out.post p3 (Nat.ne_of_gt HN.out.1)
  have PW:Hid (Post w rb w3):=PW.out.trans p3
  clear p3
  obtain ⟨i0,i1,i2,iff⟩:=BI.out
  obtain ⟨r0,r1,r2,rf⟩:=BR.out
  have if0:=iff 0
  have if1:=iff 1
  have if2:=iff 2
  have rf0:=rf 0
  have rf1:=rf 1
  have rf2:=rf 2
  clear iff rf
  cases q with
  | true =>
   go_wp2
   exact bodyPost_ret (v:=.agg #[.int .i64 c,.bool false,.int .i64 m]) (by simp [results,results54,go_sem,r0,r1,r2]) rfl ⟨⟨_,_,_,rfl⟩,postSet (postSet (postSet PW.out HN.out.1 (p:=⟨w.heap.size,0,none⟩) (Nat.le_refl _) _) HN.out.1 (p:=⟨w.heap.size,1,none⟩) (Nat.le_refl _) _) HN.out.1 (p:=⟨w.heap.size,2,none⟩) (Nat.le_refl _) _⟩
  | false =>
   go_wp2_with fail
   clear i0 i1 i2 if0 if1 if2 r0 r1 r2 rf0 rf1 rf2
   refine (Rdr.below_any _ _ _ PW.out.1 (by decide) (by decide)).mono ?_
   rintro e w4 ⟨⟨y,y0,y1,rfl⟩,p4⟩
   have BI:Hid (Box w4 ib c false m):=BI.out.post p4 (Ne.symm HN.out.2.1)
   have BR:Hid (Box w4 w.heap.size 0 false 0):=BR.out.post p4 (Nat.ne_of_gt HN.out.1)
   have PW:Hid (Post w rb w4):=PW.out.trans p4
   clear p4
   obtain ⟨i0,i1,i2,iff⟩:=BI.out
   obtain ⟨r0,r1,r2,rf⟩:=BR.out
   have if0:=iff 0
   have if1:=iff 1
   have if2:=iff 2
   have rf0:=rf 0
   have rf1:=rf 1
   have rf2:=rf 2
   clear iff rf
   rcases (show y=0 \/ y=1 \/ y=2 \/ y=3 \/ y=4 \/ 5<=y from by omega) with rfl|rfl|rfl|rfl|rfl|hy
   ·go_wp2_with fail
    clear i0 i1 i2 if0 if1 if2 r0 r1 r2 rf0 rf1 rf2
    refine (Rdr.byte_any _ _ PW.out.1).mono ?_
    rintro e w5 ⟨⟨x,x0,x1,rfl⟩,p5⟩
    have BI:Hid (Box w5 ib c false m):=BI.out.post p5 (Ne.symm HN.out.2.1)
    have BR:Hid (Box w5 w.heap.size 0 false 0):=BR.out.post p5 (Nat.ne_of_gt HN.out.1)
    have PW:Hid (Post w rb w5):=PW.out.trans p5
    clear p5
    obtain ⟨i0,i1,i2,iff⟩:=BI.out
    obtain ⟨r0,r1,r2,rf⟩:=BR.out
    have if0:=iff 0
    have if1:=iff 1
    have if2:=iff 2
    have rf0:=rf 0
    have rf1:=rf 1
    have rf2:=rf 2
    clear iff rf
    go_wp2
    exact bodyPost_ret (v:=.agg #[.int .i64 62,.bool false,.int .i64 x]) (by simp [results,results54,go_sem,r0,r1,r2]) rfl ⟨⟨_,_,_,rfl⟩,postSet (postSet (postSet PW.out HN.out.1 (p:=⟨w.heap.size,0,none⟩) (Nat.le_refl _) _) HN.out.1 (p:=⟨w.heap.size,1,none⟩) (Nat.le_refl _) _) HN.out.1 (p:=⟨w.heap.size,2,none⟩) (Nat.le_refl _) _⟩
   ·go_wp2_with fail
    clear i0 i1 i2 if0 if1 if2 r0 r1 r2 rf0 rf1 rf2
    refine (Rdr.below_any _ _ _ (PW.out.alloc _).1 (by decide) (by decide)).mono ?_
    rintro e w5 ⟨⟨q,q0,q1,rfl⟩,p5⟩
    obtain ⟨z,hc⟩ : ∃ z:Int,w5.cell? ⟨w4.heap.size,q.toNat,none⟩=some (.int .i64 z):=by
     have hl:=PW.out.1.lt
     have e:∀ i:Nat,w5.cell? ⟨w4.heap.size,i,none⟩=#[Value.int .i64 49152,.int .i64 65408,.int .i64 256,.int .i64 128,.int .i64 40960][i]?:=fun i =>
      (World.cell?_of_block (a:=⟨w4.heap.size,i,none⟩) (p5.2.block _ (by simp) (fun e=>by have:w4.heap.size=rb:=Option.some.inj e;omega))).trans (World.cell?_alloc_new _ _ _ _)
     rcases (show q=0 \/ q=1 \/ q=2 \/ q=3 \/ q=4 from by omega) with rfl|rfl|rfl|rfl|rfl
     ·exact ⟨_,e 0⟩
     ·exact ⟨_,e 1⟩
     ·exact ⟨_,e 2⟩
     ·exact ⟨_,e 3⟩
     ·exact ⟨_,e 4⟩
    have BI:Hid (Box w5 ib c false m):=(BI.out.alloc _).post p5 (Ne.symm HN.out.2.1)
    have BR:Hid (Box w5 w.heap.size 0 false 0):=(BR.out.alloc _).post p5 (Nat.ne_of_gt HN.out.1)
    have PW:Hid (Post w rb w5):=(PW.out.alloc _).trans p5
    clear p5
    obtain ⟨i0,i1,i2,iff⟩:=BI.out
    obtain ⟨r0,r1,r2,rf⟩:=BR.out
    have if0:=iff 0
    have if1:=iff 1
    have if2:=iff 2
    have rf0:=rf 0
    have rf1:=rf 1
    have rf2:=rf 2
    clear iff rf
    go_wp2
    exact bodyPost_ret (v:=.agg #[.int .i64 33,.bool false,.int .i64 z]) (by simp [results,results54,go_sem,r0,r1,r2]) rfl ⟨⟨_,_,_,rfl⟩,postSet (postSet (postSet PW.out HN.out.1 (p:=⟨w.heap.size,0,none⟩) (Nat.le_refl _) _) HN.out.1 (p:=⟨w.heap.size,1,none⟩) (Nat.le_refl _) _) HN.out.1 (p:=⟨w.heap.size,2,none⟩) (Nat.le_refl _) _⟩
   ·go_wp2
    exact bodyPost_ret (v:=.agg #[.int .i64 119,.bool false,.int .i64 0]) (by simp [results,results54,go_sem,r0,r1,r2]) rfl ⟨⟨_,_,_,rfl⟩,postSet (postSet (postSet PW.out HN.out.1 (p:=⟨w.heap.size,0,none⟩) (Nat.le_refl _) _) HN.out.1 (p:=⟨w.heap.size,1,none⟩) (Nat.le_refl _) _) HN.out.1 (p:=⟨w.heap.size,2,none⟩) (Nat.le_refl _) _⟩
   ·go_wp2
    exact bodyPost_ret (v:=.agg #[.int .i64 224,.bool false,.int .i64 1]) (by simp [results,results54,go_sem,r0,r1,r2]) rfl ⟨⟨_,_,_,rfl⟩,postSet (postSet (postSet PW.out HN.out.1 (p:=⟨w.heap.size,0,none⟩) (Nat.le_refl _) _) HN.out.1 (p:=⟨w.heap.size,1,none⟩) (Nat.le_refl _) _) HN.out.1 (p:=⟨w.heap.size,2,none⟩) (Nat.le_refl _) _⟩
   ·go_wp2_with fail
    clear i0 i1 i2 if0 if1 if2 r0 r1 r2 rf0 rf1 rf2
    refine (Rdr.below_any _ _ _ (PW.out.alloc _).1 (by decide) (by decide)).mono ?_
    rintro e w5 ⟨⟨q,q0,q1,rfl⟩,p5⟩
    obtain ⟨z,hc⟩ : ∃ z:Int,w5.cell? ⟨w4.heap.size,q.toNat,none⟩=some (.int .i64 z):=by
     have hl:=PW.out.1.lt
     have e:∀ i:Nat,w5.cell? ⟨w4.heap.size,i,none⟩=#[Value.int .i64 49152,.int .i64 65281,.int .i64 130,.int .i64 10,.int .i64 300,.int .i64 40961][i]?:=fun i =>
      (World.cell?_of_block (a:=⟨w4.heap.size,i,none⟩) (p5.2.block _ (by simp) (fun e=>by have:w4.heap.size=rb:=Option.some.inj e;omega))).trans (World.cell?_alloc_new _ _ _ _)
     rcases (show q=0 \/ q=1 \/ q=2 \/ q=3 \/ q=4 \/ q=5 from by omega) with rfl|rfl|rfl|rfl|rfl|rfl
     ·exact ⟨_,e 0⟩
     ·exact ⟨_,e 1⟩
     ·exact ⟨_,e 2⟩
     ·exact ⟨_,e 3⟩
     ·exact ⟨_,e 4⟩
     ·exact ⟨_,e 5⟩
    have BI:Hid (Box w5 ib c false m):=(BI.out.alloc _).post p5 (Ne.symm HN.out.2.1)
    have BR:Hid (Box w5 w.heap.size 0 false 0):=(BR.out.alloc _).post p5 (Nat.ne_of_gt HN.out.1)
    have PW:Hid (Post w rb w5):=(PW.out.alloc _).trans p5
    clear p5
    obtain ⟨i0,i1,i2,iff⟩:=BI.out
    obtain ⟨r0,r1,r2,rf⟩:=BR.out
    have if0:=iff 0
    have if1:=iff 1
    have if2:=iff 2
    have rf0:=rf 0
    have rf1:=rf 1
    have rf2:=rf 2
    clear iff rf
    go_wp2
    exact bodyPost_ret (v:=.agg #[.int .i64 234,.bool false,.int .i64 z]) (by simp [results,results54,go_sem,r0,r1,r2]) rfl ⟨⟨_,_,_,rfl⟩,postSet (postSet (postSet PW.out HN.out.1 (p:=⟨w.heap.size,0,none⟩) (Nat.le_refl _) _) HN.out.1 (p:=⟨w.heap.size,1,none⟩) (Nat.le_refl _) _) HN.out.1 (p:=⟨w.heap.size,2,none⟩) (Nat.le_refl _) _⟩
   ·have hne:¬ ib=w.heap.size:=Nat.ne_of_gt HN.out.2.2
    have hne2:¬ w.heap.size=ib:=Nat.ne_of_lt HN.out.2.2
    by_cases h1:192<=c
    ·by_cases h2:511<m
     ·have h2d:decide (511<m)=true:=decide_eq_true h2
      go_upto_region 17 with fail
      clear i0 i1 i2 if0 if1 if2 r0 r1 r2 rf0 rf1 rf2
      obtain ⟨z,hz⟩ : ∃ z:Int,z=m%40:=⟨_,rfl⟩
      have BR:Hid (Box (w4.setCell ⟨ib,2,none⟩ (.int .i64 (m%40))) w.heap.size 0 false 0):=BR.out.other (Nat.ne_of_lt HN.out.2.2) _
      have BI:Hid (Box (w4.setCell ⟨ib,2,none⟩ (.int .i64 (m%40))) ib c false (m%40)):=BI.out.put _
      have PW:Hid (Post w rb (w4.setCell ⟨ib,2,none⟩ (.int .i64 (m%40)))):=postSet PW.out HN.out.1 (p:=⟨ib,2,none⟩) (Nat.le_of_lt HN.out.2.2) _
      generalize w4.setCell ⟨ib,2,none⟩ (.int .i64 (m%40))=w6 at BR BI PW |-
      obtain ⟨i0,i1,i2,iff⟩:=BI.out
      obtain ⟨r0,r1,r2,rf⟩:=BR.out
      have if0:=iff 0
      have if1:=iff 1
      have if2:=iff 2
      have rf0:=rf 0
      have rf1:=rf 1
      have rf2:=rf 2
      clear iff rf
      go_wp2
      exact bodyPost_ret (v:=.agg #[.int .i64 c,.bool false,.int .i64 (m%40)]) (by simp [results,results54,go_sem,r0,r1,r2]) rfl ⟨⟨_,_,_,rfl⟩,postSet (postSet (postSet PW.out HN.out.1 (p:=⟨w.heap.size,0,none⟩) (Nat.le_refl _) _) HN.out.1 (p:=⟨w.heap.size,1,none⟩) (Nat.le_refl _) _) HN.out.1 (p:=⟨w.heap.size,2,none⟩) (Nat.le_refl _) _⟩
     ·have h2d:decide (511<m)=false:=decide_eq_false h2
      go_wp2
      exact bodyPost_ret (v:=.agg #[.int .i64 c,.bool false,.int .i64 m]) (by simp [results,results54,go_sem,r0,r1,r2]) rfl ⟨⟨_,_,_,rfl⟩,postSet (postSet (postSet PW.out HN.out.1 (p:=⟨w.heap.size,0,none⟩) (Nat.le_refl _) _) HN.out.1 (p:=⟨w.heap.size,1,none⟩) (Nat.le_refl _) _) HN.out.1 (p:=⟨w.heap.size,2,none⟩) (Nat.le_refl _) _⟩
    ·go_wp2
     exact bodyPost_ret (v:=.agg #[.int .i64 c,.bool false,.int .i64 m]) (by simp [results,results54,go_sem,r0,r1,r2]) rfl ⟨⟨_,_,_,rfl⟩,postSet (postSet (postSet PW.out HN.out.1 (p:=⟨w.heap.size,0,none⟩) (Nat.le_refl _) _) HN.out.1 (p:=⟨w.heap.size,1,none⟩) (Nat.le_refl _) _) HN.out.1 (p:=⟨w.heap.size,2,none⟩) (Nat.le_refl _) _⟩
theorem Row.post {w w':World} {rb B:Nat} {l:List UInt8} (h:Row w B l) (p:Post w rb w') (hne:B ≠ rb):Row w' B l:=h.kept (p.2.block B h.lt (fun e=>hne (Option.some.inj e)))
theorem post_of_copy {w w1 w2:World} {rb B:Nat} (h:Post w rb w1) (hr:rb<B) (hw:w.heap.size<=B) (b:∀ (Q:Nat) (w0:World),Q<=B->Below Q w0 w1->Below Q w0 w2):Post w rb w2:=by
 have b1:=b B w1 (Nat.le_refl _) zRf
 exact ⟨h.1.kept fun k hk=>b1.block k (by omega),⟨b1.os.trans h.2.os,b1.tape.trans h.2.tape,b1.output.trans h.2.output,Nat.le_trans h.2.size b1.size,fun k hk hne=>(b1.block k (by omega)).trans (h.2.block k hk hne)⟩⟩
theorem slice_lh (B N:Nat) (a c:Nat) (h1:a<=c) (h2:c<=N) (h3:a<N) (w:World):(Instr.slice 22 (.slice (some ⟨B,0,none⟩) N N) (some (.int .i64 (a:Int))) (some (.int .i64 (c:Int))) none).run prog w=.ok (.slice (some ⟨B,a,none⟩) (c-a) (N-a)) w:=by
 have hz:=hsz w
 rw [run_slice_lh (P:=prog) (w:=w) 22 (some ⟨B,0,none⟩) N N underlying22 .i64 .i64 (a:Int) (c:Int) (by omega) (by omega) (by omega)]
 have hz':(sizeOf (prog.elem 22)).run prog w=.ok 1 w:=hz
 rw [hz']
 have e:(⟨B,0,none⟩ : Addr).add a=⟨B,a,none⟩:=by unfold Addr.add;split <;> simp_all
 simp [Result.andThen,sliced,e]
 omega
theorem slice_l (B N:Nat) (a:Nat) (h3:a<N) (w:World):(Instr.slice 22 (.slice (some ⟨B,0,none⟩) N N) (some (.int .i64 (a:Int))) none none).run prog w=.ok (.slice (some ⟨B,a,none⟩) (N-a) (N-a)) w:=by
 have hz:=hsz w
 rw [run_slice_l (P:=prog) (w:=w) 22 (some ⟨B,0,none⟩) N N underlying22 .i64 (a:Int) (by omega) (by omega)]
 have hz':(sizeOf (prog.elem 22)).run prog w=.ok 1 w:=hz
 rw [hz']
 have e:(⟨B,0,none⟩ : Addr).add a=⟨B,a,none⟩:=by unfold Addr.add;split <;> simp_all
 simp [Result.andThen,sliced,e]
 omega
theorem add_at (B j:Nat):(⟨B,1,none⟩ : Addr).add j=⟨B,j+1,none⟩:=by
 have e0:(⟨B,1,none⟩ : Addr).add j=⟨B,1+j,none⟩:=by unfold Addr.add;split <;> simp_all
 rw [e0,Nat.add_comm]
theorem str_tail {w:World} {B:Nat} {l:List UInt8} (h:Row w B l) (n cap:Nat) (hn:l.length=n+1):(convert 22 9 (.slice (some ⟨B,1,none⟩) n cap)).run prog w=.ok (.string ⟨l.tail.toArray⟩) w:=by
 have hl:l.tail.length=n:=by simp;omega
 subst hl
 exact run_convert_bytes_back (P:=prog) w 22 9 5 ⟨B,1,none⟩ cap l.tail underlying22 underlying5 underlying9 (fun j hj=>by
  have ea:=add_at B j
  have hj':j+1<l.length:=by omega
  rw [ea,cell_at h (j+1) hj']
  simp)
theorem rom_any (rb:Nat) (w:World) (h:Rd w rb) :
  Calls prog 34 #[.pointer (some ⟨rb,0,none⟩)] w fun e w'=>(∃ s:ByteArray,s.size<=1024/\e=.returned (.string s))/\Post w rb w':=by
 have H:Hid (Rd w rb):=h
 have hlt:=h.lt
 clear h
 go_enter func34,ntmps34
 go_wp2_with fail
 refine (Rdr.below_any _ _ _ H.out (by decide) (by decide)).mono ?_
 rintro e w1 ⟨⟨x,x0,x1,rfl⟩,p1⟩
 obtain ⟨n,hn⟩ : ∃ n:Nat,(n:Int)=2+x:=⟨(2+x).toNat,by omega⟩
 have n0:2<=n:=by omega
 have n1:n<=4:=by omega
 obtain ⟨o,hm⟩:=made (n*256) (by omega)
 have hm1:∀ u:World,(Instr.makeSlice 22 (.int .i64 ((2+x)*256)) (.int .i64 ((2+x)*256))).run prog u=.ok (.slice (some ⟨u.heap.size,0,none⟩) (n*256) (n*256)) (u.alloc o):=fun u=>by
  have:=(hm u).1
  rwa [show ((n*256:Nat):Int)=(2+x)*256 by omega] at this
 have R1:Hid (Row (w1.alloc o) w1.heap.size (List.replicate (n*256) 0)):=(hm w1).2
 have PW:Hid (Post w rb (w1.alloc o)):=p1.alloc _
 have HB:Hid (rb<w1.heap.size/\w.heap.size<=w1.heap.size):=⟨Nat.lt_of_lt_of_le hlt p1.2.size,p1.2.size⟩
 clear hm p1
 go_upto_region 3 with fail
 generalize w1.alloc o=w2 at R1 PW |-
 generalize w1.heap.size=B at R1 HB |-
 clear hm1
 go_wp2_with fail
 go_loopw [5] (fun k wr=>∃ (k':Nat) (l:List UInt8),k'<=n/\k=.int .i64 k'/\Hid (l.length=n*256)/\Hid (Row wr B l)/\Hid (Post w rb wr)) (fun k _=>n-(intOf k).toNat)
 case atStart=>exact ⟨0,_,Nat.zero_le _,rfl,by show _=_;simp,R1,PW⟩
 case round =>
 clear R1 PW
 obtain ⟨k,l,hk,rfl,LL,RR,PW⟩:=hrel
 by_cases hkn:k<n
 ·have hkx:(k:Int)<2+x:=by omega
  go_wp2_with fail
  refine (Rdr.below_any _ _ _ PW.out.1 (by decide) (by decide)).mono ?_
  rintro e w3 ⟨⟨y,y0,y1,rfl⟩,p3⟩
  have RR:Hid (Row w3 B l):=Row.post RR.out p3 (by have:=HB.out.1;omega)
  have PW:Hid (Post w rb w3):=PW.out.trans p3
  clear p3
  go_wp2_with fail
  go_loopw [6,7] (fun at_ i wr=>∃ (a' i':Nat) (l:List UInt8),i'<=16/\k*256<=a'/\a'+3*i'<=k*256+48/\at_=.int .i64 a'/\i=.int .i64 i'/\Hid (l.length=n*256)/\Hid (Row wr B l)/\Hid (Post w rb wr)) (fun _ i _=>(intOf i).toNat)
  case atStart=>exact ⟨k*256,(1+y).toNat,l,by omega,Nat.le_refl _,by omega,by first|rfl|(congr 1;omega),by first|rfl|(congr 1;omega),LL,RR,PW⟩
  case round =>
  clear LL RR PW
  obtain ⟨a,i,l,hi,ha0,ha1,rfl,rfl,LL,RR,PW⟩:=hrel
  by_cases hi0:0<i
  ·have hi0':(0:Int)<(i:Int):=by omega
   go_wp2_with fail
   refine (plain_any _ _ PW.out.1).mono ?_
   rintro e w4 ⟨⟨c,b,m,rfl⟩,p4⟩
   have RR:Hid (Row w4 B l):=Row.post RR.out p4 (by have:=HB.out.1;omega)
   have PW:Hid (Post w rb w4):=PW.out.trans p4
   clear p4
   go_wp2_with fail
   refine (bytes_any _ _ _ _).mono ?_
   rintro e w5 ⟨⟨s,hs,rfl⟩,b5⟩
   have RR:=zHd (RR.out.below b5)
   have PW:Hid (Post w rb w5):=PW.out.trans (postB PW.out.1 b5)
   clear b5
   have sl:=fun w=>slice_lh B (n*256) a ((k+1)*256) (by omega) (by omega) (by omega) w
   rw [show (((k+1)*256:Nat):Int)=((k:Int)+1)*256 by omega] at sl
   obtain ⟨w6,hc,r6,b6⟩:=copy_at RR.out a ((k+1)*256-a) (n*256-a) s (by omega) (by have:=LL.out;omega)
   have R6:Hid (Row w6 B (over l a s.data.toList)):=r6
   have L6:Hid ((over l a s.data.toList).length=n*256):=by
    show _=_
    rw [over_length _ _ _ (by have:=LL.out;have:s.data.toList.length=s.size:=Array.length_toList;omega)]
    exact LL.out
   have P6:Hid (Post w rb w6):=post_of_copy PW.out HB.out.1 HB.out.2 b6
   clear r6 b6 RR PW LL
   go_wp2_with fail
   go_roundw
   case rel=>exact ⟨a+s.size,i-1,_,by omega,by omega,by omega,by first|rfl|(congr 1;omega),by first|rfl|(congr 1;omega),L6,R6,P6⟩
   case measure=>simp [intOf];omega
  ·have hi0':¬ (0:Int)<(i:Int):=by omega
   go_wp2_with fail
   go_roundw
   case rel=>exact ⟨k+1,l,by omega,by go_num,LL,RR,PW⟩
   case measure=>simp [intOf];omega
 have hkx:¬ (k:Int)<2+x:=by omega
 go_wp2_with fail
 refine (Rdr.once_any _ _ _ PW.out.1 (by decide) (by decide)).mono ?_
 rintro e w7 ⟨⟨q,rfl⟩,p7⟩
 have RR:Hid (Row w7 B l):=Row.post RR.out p7 (by have:=HB.out.1;omega)
 have PW:Hid (Post w rb w7):=PW.out.trans p7
 clear p7
 cases q with
 | true =>
  have sl:=fun w=>slice_l B (n*256) 1 (by omega) w
  have sc:=str_tail RR.out (n*256-1) (n*256-1) (by have:=LL.out;omega)
  have HS:Hid ((⟨l.tail.toArray⟩ : ByteArray).size<=1024):=by show l.tail.toArray.size<=1024;have:=LL.out;simp;omega
  generalize (⟨l.tail.toArray⟩ : ByteArray)=S at sc HS
  go_wp2
  go_ret
  exact ⟨⟨S,HS.out,rfl⟩,PW.out⟩
 | false =>
  have sc:=str_at RR.out (n*256) (n*256) LL.out
  have HS:Hid ((⟨l.toArray⟩ : ByteArray).size<=1024):=by show l.toArray.size<=1024;have:=LL.out;simp;omega
  generalize (⟨l.toArray⟩ : ByteArray)=S at sc HS
  go_wp2
  go_ret
  exact ⟨⟨S,HS.out,rfl⟩,PW.out⟩
end DrawP
end Go.Proofs.YtfpecdgcapfgfaaGreat
