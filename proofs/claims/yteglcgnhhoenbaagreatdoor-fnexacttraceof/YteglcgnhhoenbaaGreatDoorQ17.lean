import Derived.Test.YteglcgnhhoenbaaGreatDoorQ14
import Derived.Deep.WholeRow
import Derived.Deep.DeepFit
import Derived.Lib.AppendIntMem
set_option linter.all false
set_option maxRecDepth 20000
set_option maxHeartbeats 8000000
open Go.ChangeShapes Go.WideShapes Go.ChangeAt Go.RowKit
open Go.Proofs.Tryz
namespace Go.Proofs.YteglcgnhhoenbaaGreatDoor
namespace MachB
open Go.Deep
open Signed (inB aG aB aC aE)
open Carts CartK CartL CartM CartR CartS CartX Outs Mach MachT MachO MachK
theorem fS (n:Int) (w:World) :
  Calls prog 163 #[.int .i64 n] w fun e w'=>e=.returned (.bool (inB n 49152 49407))/\w'=w:=by
 go_enter func163,ntmps163
 go_wp2
 all_goals go_ret
 all_goals exact ⟨aB (by rw [Bool.eq_iff_iff];simp [inB];try omega),rfl⟩
theorem gR (n:Int) (w:World) :
  Calls prog 164 #[.int .i64 n] w fun e w'=>e=.returned (.bool (inB n 65408 65534))/\w'=w:=by
 go_enter func164,ntmps164
 go_wp2
 all_goals go_ret
 all_goals exact ⟨aB (by rw [Bool.eq_iff_iff];simp [inB];try omega),rfl⟩
def aHE (rom:ByteArray) (kind bank:Int) (ram:ByteArray) (rb:Int) (on:Bool) (mode:Int) (work high:ByteArray) (addr:Int):Int :=
 if inB addr 49152 49407=true then aH work (addr-49152) else if inB addr 65408 65534=true then aH high (addr-65408) else rdV rom (bank%eZ rom.size) ram (gX kind rb mode) on addr
theorem pG (ra rf rB rC rD rE rH rL sp pc:Int) (ime hal:Bool) (rom:ByteArray) (kind bank:Int) (ram:ByteArray) (rb:Int) (on:Bool) (mode:Int) (work high:ByteArray) (po:Option Addr) (L:List Int) (cap:Nat) (cyc:Int) (B:Nat) (addr:Int) (w:World) (kB:w.heap[B]? = some (.cells #[.int .i64 ra,.int .i64 rf,.int .i64 rB,.int .i64 rC,.int .i64 rD,.int .i64 rE,.int .i64 rH,.int .i64 rL,.int .i64 sp,.int .i64 pc,.bool ime,.bool hal,.string rom,.int .i64 kind,.int .i64 bank,.string ram,.int .i64 rb,.bool on,.int .i64 mode,.string work,.string high,.slice po L.length cap,.int .i64 cyc] 30)) (h:okB rom kind bank ram rb on mode=true) (hw:work.size=256) (hh:high.size=127) (a0:0<=addr) :
  Calls prog 134 #[.pointer (some ⟨B,0,none⟩),.int .i64 addr] w fun e w'=>e=.returned (.int .i64 (aHE rom kind bank ram rb on mode work high addr))/\Below w.heap.size w w':=by
 have m19:=cel kB 19 _ rfl;have m20:=cel kB 20 _ rfl;have m12:=cel kB 12 _ rfl;have m13:=cel kB 13 _ rfl;have m14:=cel kB 14 _ rfl;have m15:=cel kB 15 _ rfl;have m16:=cel kB 16 _ rfl;have m17:=cel kB 17 _ rfl;have m18:=cel kB 18 _ rfl;have c1:=fun w=>fS addr w
 have c2:=fun w=>gR addr w
 have c3:=fun w=>qQ rom kind bank ram rb on mode addr w h a0
 unfold aHE;clear kB
 cases h1:inB addr 49152 49407 with
 | true =>
  obtain ⟨q0,q1⟩:=u7 h1;have hi:(addr-49152).toNat<work.size:=by omega
  have hb:=dF hi;have i0:0<=addr-49152:=by omega
  have i1:addr-49152<(work.size:Int):=by omega
  rw [h1] at c1
  rw [if_pos rfl];clear h1 hw hh c3 h
  go_enter func134,ntmps134
  go_wp2_with (go_at_call 163;refine (c1 _).mono ?_;rintro e w' ⟨rfl,rfl⟩)
  go_ret;exact ⟨aG hb,Below.refl _ _⟩
 | false =>
  rw [h1] at c1
  rw [if_neg (by decide)]
  cases h2:inB addr 65408 65534 with
  | true =>
   obtain ⟨q0,q1⟩:=u7 h2;have hi:(addr-65408).toNat<high.size:=by omega
   have hb:=dF hi;have i0:0<=addr-65408:=by omega
   have i1:addr-65408<(high.size:Int):=by omega
   rw [h2] at c2
   rw [if_pos rfl];clear h1 h2 hw hh c3 h
   go_enter func134,ntmps134
   go_wp2_with first|(go_at_call 163;refine (c1 _).mono ?_;rintro e w' ⟨rfl,rfl⟩)|(go_at_call 164;refine (c2 _).mono ?_;rintro e w' ⟨rfl,rfl⟩)
   go_ret;exact ⟨aG hb,Below.refl _ _⟩
  | false =>
   rw [h2] at c2
   rw [if_neg (by decide)];obtain ⟨v,hv⟩ : ∃ v,v=rdV rom (bank%eZ rom.size) ram (gX kind rb mode) on addr:=⟨_,rfl⟩
   rw [<- hv] at c3 |-
   clear h1 h2 hw hh h hv
   go_enter func134,ntmps134
   go_wp2_with first|(go_at_call 163;refine (c1 _).mono ?_;rintro e w' ⟨rfl,rfl⟩)|(go_at_call 164;refine (c2 _).mono ?_;rintro e w' ⟨rfl,rfl⟩)|(go_at_call 165;refine (c3 _).mono ?_;rintro e w' ⟨rfl,hb⟩)
   go_ret;exact ⟨rfl,by assumption⟩
theorem aBP (ra rf rB rC rD rE rH rL sp pc:Int) (ime hal:Bool) (rom:ByteArray) (kind bank:Int) (ram:ByteArray) (rb:Int) (on:Bool) (mode:Int) (work high:ByteArray) (po:Option Addr) (L:List Int) (cap:Nat) (cyc:Int) (addr:Int) (w:World) (z1:rom.size<=maxLen) (h:okB rom kind bank ram rb on mode=true) (hw:work.size=256) (hh:high.size=127) (a0:0<=addr) :
  Calls prog 100 #[.agg #[.int .i64 ra,.int .i64 rf,.int .i64 rB,.int .i64 rC,.int .i64 rD,.int .i64 rE,.int .i64 rH,.int .i64 rL,.int .i64 sp,.int .i64 pc,.bool ime,.bool hal,.string rom,.int .i64 kind,.int .i64 bank,.string ram,.int .i64 rb,.bool on,.int .i64 mode,.string work,.string high,.slice po L.length cap,.int .i64 cyc],.int .i64 addr] w fun e w'=>e=.returned (.int .i64 (aHE rom kind bank ram rb on mode work high addr))/\Below w.heap.size w w':=by
 have c3:=fun w=>qR rom kind bank ram rb on mode addr w z1 h a0
 unfold aHE
 cases h1:inB addr 49152 49407 with
 | true =>
  obtain ⟨q0,q1⟩:=u7 h1;have hi:(addr-49152).toNat<work.size:=by omega
  have hb:=dF hi;have i0:0<=addr-49152:=by omega
  have i1:addr-49152<(work.size:Int):=by omega
  rw [if_pos rfl];clear hw hh c3 h
  go_enter func100,ntmps100
  go_wp2_with (go_at_call 42;refine (aE _ _ _ _).mono ?_;rintro e w' ⟨rfl,rfl⟩)
  go_ret;exact ⟨aG hb,by repeat (with_reducible first|exact zRf|refine zGr ?_ _|refine below_drewN ?_ _|refine Below.drew ?_)⟩
 | false =>
  rw [if_neg (by decide)]
  cases h2:inB addr 65408 65534 with
  | true =>
   obtain ⟨q0,q1⟩:=u7 h2;have hi:(addr-65408).toNat<high.size:=by omega
   have hb:=dF hi;have i0:0<=addr-65408:=by omega
   have i1:addr-65408<(high.size:Int):=by omega
   rw [if_pos rfl];clear hw hh c3 h
   go_enter func100,ntmps100
   go_wp2_with (go_at_call 42;refine (aE _ _ _ _).mono ?_;rintro e w' ⟨rfl,rfl⟩)
   go_ret;exact ⟨aG hb,by repeat (with_reducible first|exact zRf|refine zGr ?_ _|refine below_drewN ?_ _|refine Below.drew ?_)⟩
  | false =>
   rw [if_neg (by decide)];obtain ⟨v,hv⟩ : ∃ v,v=rdV rom (bank%eZ rom.size) ram (gX kind rb mode) on addr:=⟨_,rfl⟩
   rw [<- hv] at c3 |-
   clear hw hh h hv
   go_enter func100,ntmps100
   go_wp2_with first|(go_at_call 42;refine (aE _ _ _ _).mono ?_;rintro e w' ⟨rfl,rfl⟩)|(go_at_call 151;refine (c3 _).mono ?_;rintro e w' ⟨rfl,hb⟩)
   go_ret;exact ⟨rfl,after (by repeat (with_reducible first|exact zRf|refine zGr ?_ _|refine below_drewN ?_ _|refine Below.drew ?_)) hb⟩
theorem aHF {ra rf rB rC rD rE rH rL sp pc:Int} {cart:Bool} {work high:Nat} {L:List Int} {cyc:Int} (h:okM ra rf rB rC rD rE rH rL sp pc cart work high L cyc=true):cart=true/\work=256/\high=127:=by
 unfold okM at h
 simp only [Bool.and_eq_true,beq_iff_eq] at h
 exact ⟨h.1.1.1.1.1.1.2,h.1.1.1.1.1.2,h.1.1.1.1.2⟩
end MachB
namespace ReadI
open HolI LenX InsX
def aH (s:ByteArray) (i:Int):Int:=if h:i.toNat<s.size then ((s[i.toNat]'h).toNat:Int) else 0
theorem lA {s:ByteArray} {i:Int} (h:i.toNat<s.size):((s[i.toNat]'h).toNat:Int)=aH s i:=by unfold aH;rw [dif_pos h]
theorem bH (s:ByteArray) (i:Int):0<=aH s i/\aH s i<=255:=by
 unfold aH;split
 ·rename_i h
  have:=(s[i.toNat]'h).toNat_lt
  omega
 ·omega
theorem ix (s:ByteArray) (i:Int) (h0:0<=i) (h1:i<s.size) (w:World):(Instr.index 9 (.string s) (.int .i64 i)).run prog w=.ok (.int .u8 (aH s i)) w:=by
 rw [run_index_string w 9 s .i64 i underlying9,dif_pos ⟨h0,h1⟩,lA (by omega)]
theorem iU (s:ByteArray) (i:Int) (h0:0<=i) (h1:i<s.size) (w:World) :
  Calls prog 152 #[.string s,.int .i64 i] w fun e w'=>e=.returned (.int .i64 (aH s i))/\w'=w:=by
 have x:=ix s i h0 h1;have b:=bH s i;generalize aH s i=B at x b
 have hb0:=b.1;have hb1:=b.2;have hw:IntKind.i64.wrap B=B:=by rw [x6];omega
 go_enter func152,ntmps152
 go_wp2;go_ret;exact ⟨rfl,rfl⟩
def gJ (c:Int):Int:=mX (bV c false) false (dM c false)
def jY:Value:=.agg #[.int .i64 0,.bool false,.int .i64 0]
def oL (s:ByteArray) (a n:Int):Int:=if n=1 then 0 else if n=2 then aH s (a+1) else aH s (a+1)+256*aH s (a+2)
def dZ (s:ByteArray) (a:Int):Value :=
 if a<0 \/ s.size<=a then jY
 else if aH s a=203 then (if s.size-a<2 then jY else .agg #[.int .i64 (aH s (a+1)),.bool true,.int .i64 0])
 else if gJ (aH s a)=0 \/ s.size-a<gJ (aH s a) then jY else .agg #[.int .i64 (aH s a),.bool false,.int .i64 (oL s a (gJ (aH s a)))]
def dD (s:ByteArray) (a:Int):Int :=
 if a<0 \/ s.size<=a then 0
 else if aH s a=203 then (if s.size-a<2 then 0 else 2)
 else if gJ (aH s a)=0 \/ s.size-a<gJ (aH s a) then 0 else gJ (aH s a)
theorem jO (c:Int):gJ c=0 \/ gJ c=1 \/ gJ c=2 \/ gJ c=3:=by
 unfold gJ mX;split
 ·exact .inl rfl
 rw [if_neg (by decide)];split
 ·exact .inr (.inl rfl)
 split
 ·exact .inr (.inr (.inr rfl))
 ·exact .inr (.inr (.inl rfl))
def Tup (v:Value) (n:Int):Ending:=.returned (.tuple #[v,.int .i64 n])
theorem fro {w w':World} {vs:Array Value} {T:TypeId} (h:Below (w.alloc (.cells vs T)).heap.size (w.alloc (.cells vs T)) w') (i:Nat):w'.frozen? ⟨w.heap.size,i,none⟩=false:=by
 rw [h.frozen (p:=⟨w.heap.size,i,none⟩) (by simp)];exact World.frozen?_alloc_new w vs T i
theorem uY {w w':World} {o:Obj} {vs:Array Value} {T:TypeId} (h:Below ((w.alloc o).alloc (.cells vs T)).heap.size ((w.alloc o).alloc (.cells vs T)) w') (i:Nat) (v:Value) (hv:vs[i]? = some v):w'.cell? ⟨w.heap.size+1,i,none⟩=some v:=by
 have:=box (w:=w.alloc o) h i v hv
 rwa [World.size_alloc] at this
theorem bBA {w w':World} {o:Obj} {vs:Array Value} {T:TypeId} (h:Below ((w.alloc o).alloc (.cells vs T)).heap.size ((w.alloc o).alloc (.cells vs T)) w') (i:Nat):w'.frozen? ⟨w.heap.size+1,i,none⟩=false:=by
 have:=fro (w:=w.alloc o) h i
 rwa [World.size_alloc] at this
theorem cY {w w':World} {o:Obj} {vs:Array Value} {T:TypeId} (h:Below ((w.alloc (.cells vs T)).alloc o).heap.size ((w.alloc (.cells vs T)).alloc o) w'):Below (w.alloc (.cells vs T)).heap.size (w.alloc (.cells vs T)) w':=cW h
theorem aLS (s:ByteArray) (a:Int) (w:World) (hs:s.size<=1048576) (hb:a<=9223372036854775807) (h:a<0 \/ s.size<=a) :
  Calls prog 101 #[.string s,.int .i64 a] w fun e w'=>e=Tup jY 0/\Below w.heap.size w w':=by
 by_cases h0:a<0
 ·go_enter func101,ntmps101
  go_wp2;exact bodyPost_ret (v:=.tuple #[.agg #[.int .i64 0,.bool false,.int .i64 0],.int .i64 0]) (by simp [results,results101,go_sem]) rfl ⟨rfl,zAl _ _⟩
 ·have hw:(s.size:Int)-a<1:=by omega
  ·have hk:wrap64 ((s.size:Int)-a)=(s.size:Int)-a:=by unfold wrap64;omega
   go_enter func101,ntmps101
   go_wp2;exact bodyPost_ret (v:=.tuple #[.agg #[.int .i64 0,.bool false,.int .i64 0],.int .i64 0]) (by simp [results,results101,go_sem]) rfl ⟨rfl,zAl _ _⟩
theorem aSR (s:ByteArray) (a:Int) (w:World) (hs:s.size<=1048576) (h0:0<=a) (h1:a<s.size) (hc:aH s a=203) :
  Calls prog 101 #[.string s,.int .i64 a] w fun e w'=>e=Tup (dZ s a) (dD s a)/\Below w.heap.size w w':=by
 have e1:dZ s a=(if s.size-a<2 then jY else .agg #[.int .i64 (aH s (a+1)),.bool true,.int .i64 0]):=by unfold dZ;rw [if_neg (by omega),if_pos hc]
 have e2:dD s a=(if s.size-a<2 then 0 else 2):=by unfold dD;rw [if_neg (by omega),if_pos hc]
 rw [e1,e2];clear e1 e2;have hk:wrap64 ((s.size:Int)-a)=(s.size:Int)-a:=by unfold wrap64;omega
 have hk1:¬ (s.size:Int)-a<1:=by omega
 have c:=fun w=>iU s a h0 h1 w
 rw [hc] at c
 clear hc
 by_cases h2:(s.size:Int)-a<2
 ·rw [if_pos h2,if_pos h2]
  go_enter func101,ntmps101
  go_wp2_with (go_at_call 152;refine (c _).mono ?_;rintro e w' ⟨rfl,hw⟩;subst hw)
  exact bodyPost_ret (v:=.tuple #[.agg #[.int .i64 0,.bool false,.int .i64 0],.int .i64 0]) (by simp [results,results101,go_sem]) rfl ⟨rfl,(zAl _ _).alloc (by simp) _⟩
 ·rw [if_neg h2,if_neg h2]
  have c2:=fun w=>iU s (a+1) (by omega) (by omega) w
  have hka:wrap64 (a+1)=a+1:=by unfold wrap64;omega
  generalize aH s (a+1)=Y at c2
  go_enter func101,ntmps101
  go_wp2_with first|(go_at_call 152;go_fit (c _);rintro e w' ⟨rfl,hw⟩;subst hw)|(go_at_call 152;go_fit (c2 _);rintro e w' ⟨rfl,hw⟩;subst hw)
  exact bodyPost_ret (v:=.tuple #[.agg #[.int .i64 Y,.bool true,.int .i64 0],.int .i64 2]) (by simp [results,results101,go_sem]) rfl ⟨rfl,(zAl _ _).alloc (by simp) _⟩
theorem bBB (s:ByteArray) (a n:Int) (w:World) (hs:s.size<=1048576) (h0:0<=a) (h1:a<s.size) (hc:¬ aH s a=203) (hn:gJ (aH s a)=n) (hcs:n=0 \/ n=1 \/ n=2 \/ n=3) :
  Calls prog 101 #[.string s,.int .i64 a] w fun e w'=>e=Tup (dZ s a) (dD s a)/\Below w.heap.size w w':=by
 have e1:dZ s a=(if n=0 \/ s.size-a<n then jY else .agg #[.int .i64 (aH s a),.bool false,.int .i64 (oL s a n)]):=by unfold dZ;rw [if_neg (by omega),if_neg hc,hn]
 have e2:dD s a=(if n=0 \/ s.size-a<n then 0 else n):=by unfold dD;rw [if_neg (by omega),if_neg hc,hn]
 rw [e1,e2];clear e1 e2;have hk:wrap64 ((s.size:Int)-a)=(s.size:Int)-a:=by unfold wrap64;omega
 have hk1:¬ (s.size:Int)-a<1:=by omega
 have c:=fun w=>iU s a h0 h1 w
 have bd:=bH s a;have cl:=fun w=>jL (aH s a) false w bd.1 bd.2
 have hd:mX (decide ((Tmpl.aY (aH s a) false).size=0)) false (dM (aH s a) false)=n:=by
  rw [<- hn];unfold gJ bV;rw [show Signed.inB (aH s a) 0 255=true from x9 bd,aSK]
  simp
 rw [hd] at cl
 clear hd hn bd;have hy1:=bH s (a+1);have hy2:=bH s (a+2)
 by_cases hq:n=0 \/ (s.size:Int)-a<n
 ·rw [if_pos hq,if_pos hq]
  generalize aH s a=X at c cl hc
  go_enter func101,ntmps101
  go_wp2_with first|(go_at_call 152;go_fit (c _);rintro e w' ⟨rfl,hw⟩;subst hw)|fail
  refine (cl _).mono ?_;rintro e w2 ⟨rfl,b2⟩;have B2:Hid (Below _ _ w2):=b2;have r0:=box (cY b2) 0 _ rfl;have r1:=box (cY b2) 1 _ rfl;have r2:=box (cY b2) 2 _ rfl;have f0:=fro (cY b2) 0;have f1:=fro (cY b2) 1;have f2:=fro (cY b2) 2;clear b2;go_wp2
  all_goals
   exact bodyPost_ret (v:=.tuple #[.agg #[.int .i64 0,.bool false,.int .i64 0],.int .i64 0]) (by simp [results,results101,go_sem,r0,r1,r2]) rfl ⟨rfl,((((cW (cY B2.out)).setCell (p:=⟨w.heap.size,0,none⟩) (Nat.le_refl _) _).setCell (p:=⟨w.heap.size,1,none⟩) (Nat.le_refl _) _).setCell (p:=⟨w.heap.size,2,none⟩) (Nat.le_refl _) _)⟩
 ·rw [if_neg hq,if_neg hq]
  have g1:¬ n=0:=fun h=>hq (.inl h)
  have g2:¬ (s.size:Int)-a<n:=fun h=>hq (.inr h)
  have hn3:n=1 \/ n=2 \/ n=3:=by rcases hcs with h|h|h|h <;> omega
  clear hcs hq;have hka:wrap64 (a+1)=a+1:=by unfold wrap64;omega
  have hkb:wrap64 (a+2)=a+2:=by unfold wrap64;omega
  rcases hn3 with rfl|rfl|rfl
  ·have ei:oL s a 1=0:=rfl
   rw [ei];generalize aH s a=X at c cl hc
   go_enter func101,ntmps101
   go_wp2_with first|(go_at_call 152;go_fit (c _);rintro e w' ⟨rfl,hw⟩;subst hw)|fail
   refine (cl _).mono ?_;rintro e w2 ⟨rfl,b2⟩;have B2:Hid (Below _ _ w2):=b2;have r0:=box (cY b2) 0 _ rfl;have r1:=box (cY b2) 1 _ rfl;have r2:=box (cY b2) 2 _ rfl;have f0:=fro (cY b2) 0;have f1:=fro (cY b2) 1;have f2:=fro (cY b2) 2;have i0:=uY b2 0 _ rfl;have i1:=uY b2 1 _ rfl;have i2:=uY b2 2 _ rfl;have j2:=bBA b2 2;clear b2;go_wp2;exact bodyPost_ret (v:=.tuple #[.agg #[.int .i64 X,.bool false,.int .i64 0],.int .i64 1]) (by simp [results,results101,go_sem,r0,r1,r2]) rfl ⟨rfl,((((cW (cY B2.out)).setCell (p:=⟨w.heap.size,0,none⟩) (Nat.le_refl _) _).setCell (p:=⟨w.heap.size,1,none⟩) (Nat.le_refl _) _).setCell (p:=⟨w.heap.size,2,none⟩) (Nat.le_refl _) _)⟩
  ·have ei:oL s a 2=aH s (a+1):=rfl
   rw [ei];have c2:=fun w=>iU s (a+1) (by omega) (by omega) w
   generalize aH s a=X at c cl hc
   generalize aH s (a+1)=Y at c2 hy1
   go_enter func101,ntmps101
   go_wp2_with first|(go_at_call 152;go_fit (c _);rintro e w' ⟨rfl,hw⟩;subst hw)|fail
   refine (cl _).mono ?_;rintro e w2 ⟨rfl,b2⟩;have B2:Hid (Below _ _ w2):=b2;have r0:=box (cY b2) 0 _ rfl;have r1:=box (cY b2) 1 _ rfl;have r2:=box (cY b2) 2 _ rfl;have f0:=fro (cY b2) 0;have f1:=fro (cY b2) 1;have f2:=fro (cY b2) 2;have i0:=uY b2 0 _ rfl;have i1:=uY b2 1 _ rfl;have i2:=uY b2 2 _ rfl;have j2:=bBA b2 2;clear b2
   go_wp2_with (go_at_call 152;go_fit (c2 _);rintro e w' ⟨rfl,hw⟩;subst hw)
   exact bodyPost_ret (v:=.tuple #[.agg #[.int .i64 X,.bool false,.int .i64 Y],.int .i64 2]) (by simp [results,results101,go_sem,r0,r1,r2]) rfl ⟨rfl,(((((cW (cY B2.out)).setCell (p:=⟨w.heap.size+1,2,none⟩) (Nat.le_succ _) _).setCell (p:=⟨w.heap.size,0,none⟩) (Nat.le_refl _) _).setCell (p:=⟨w.heap.size,1,none⟩) (Nat.le_refl _) _).setCell (p:=⟨w.heap.size,2,none⟩) (Nat.le_refl _) _)⟩
  ·have ei:oL s a 3=aH s (a+1)+256*aH s (a+2):=rfl
   rw [ei];have c2:=fun w=>iU s (a+1) (by omega) (by omega) w
   have c3:=fun w=>iU s (a+2) (by omega) (by omega) w
   clear ei;generalize aH s a=X at c cl hc
   generalize aH s (a+1)=Y at c2 hy1
   generalize aH s (a+2)=Z at c3 hy2
   have kz0:IntKind.i64.wrap (a+2)=a+2:=by rw [x6];omega
   have kz1:IntKind.i64.wrap (256*Z)=256*Z:=by rw [x6];omega
   have kz2:IntKind.i64.wrap (Y+256*Z)=Y+256*Z:=by rw [x6];omega
   have hz1:wrap64 (256*Z)=256*Z:=by unfold wrap64;omega
   have hz2:wrap64 (Y+256*Z)=Y+256*Z:=by unfold wrap64;omega
   go_enter func101,ntmps101
   go_wp2_with first|(go_at_call 152;go_fit (c _);rintro e w' ⟨rfl,hw⟩;subst hw)|fail
   refine (cl _).mono ?_;rintro e w2 ⟨rfl,b2⟩;have B2:Hid (Below _ _ w2):=b2;have r0:=box (cY b2) 0 _ rfl;have r1:=box (cY b2) 1 _ rfl;have r2:=box (cY b2) 2 _ rfl;have f0:=fro (cY b2) 0;have f1:=fro (cY b2) 1;have f2:=fro (cY b2) 2;have i0:=uY b2 0 _ rfl;have i1:=uY b2 1 _ rfl;have i2:=uY b2 2 _ rfl;have j2:=bBA b2 2;clear b2
   go_wp2_with first|(go_at_call 152;go_fit (c2 _);rintro e w' ⟨rfl,hw⟩;subst hw)|(go_at_call 152;go_fit (c3 _);rintro e w' ⟨rfl,hw⟩;subst hw)
   go_region_with (go_at_call 152;go_fit (c3 _);rintro e w' ⟨rfl,hw⟩;subst hw)
   all_goals go_wp2
   all_goals exact bodyPost_ret (v:=.tuple #[.agg #[.int .i64 X,.bool false,.int .i64 (Y+256*Z)],.int .i64 3]) (by simp [results,results101,go_sem,r0,r1,r2]) rfl ⟨rfl,Below.drew ((((((cW (cY B2.out)).setCell (p:=⟨w.heap.size+1,2,none⟩) (Nat.le_succ _) _).setCell (p:=⟨w.heap.size+1,2,none⟩) (Nat.le_succ _) _).setCell (p:=⟨w.heap.size,0,none⟩) (Nat.le_refl _) _).setCell (p:=⟨w.heap.size,1,none⟩) (Nat.le_refl _) _).setCell (p:=⟨w.heap.size,2,none⟩) (Nat.le_refl _) _)⟩
theorem uZ (s:ByteArray) (a:Int) (w:World) (hs:s.size<=1048576) (hb:a<=9223372036854775807) :
  Calls prog 101 #[.string s,.int .i64 a] w fun e w'=>e=Tup (dZ s a) (dD s a)/\Below w.heap.size w w':=by
 by_cases h:a<0 \/ s.size<=a
 ·have e1:dZ s a=jY:=by unfold dZ;rw [if_pos h]
  have e2:dD s a=0:=by unfold dD;rw [if_pos h]
  rw [e1,e2];exact aLS s a w hs hb h
 ·by_cases hc:aH s a=203
  ·exact aSR s a w hs (by omega) (by omega) hc
  ·exact bBB s a _ w hs (by omega) (by omega) hc rfl (jO _)
end ReadI
namespace ReadJ
open HolI LenX InsX ReadI
theorem lE (s:ByteArray) (a k:Int) (h0:0<=a) (hk:0<=k) (h:a+k<s.size):aH (s.extract a.toNat s.size) k=aH s (a+k):=by
 have hz:(s.extract a.toNat s.size).size=s.size-a.toNat:=by simp
 unfold aH;rw [dif_pos (by omega),dif_pos (by omega)]
 congr 2
 simp only [ByteArray.getElem_extract]
 congr 1
 omega
theorem qX (s:ByteArray) (a:Int) (h0:0<=a) (h1:a<=s.size) (w:World):(Instr.slice 9 (.string s) (some (.int .i64 a)) none none).run prog w=.ok (.string (s.extract a.toNat s.size)) w :=
 run_slice_string_l w (t:=9) (s:=s) underlying9 .i64 a h0 h1
theorem aLT (s:ByteArray) (a:Int) (w:World) (h:a<0 \/ s.size<=a) :
  Calls prog 135 #[.string s,.int .i64 a] w fun e w'=>e=Tup jY 0/\Below w.heap.size w w':=by
 by_cases h0:a<0
 ·go_enter func135,ntmps135
  go_wp2;exact bodyPost_ret (v:=.tuple #[.agg #[.int .i64 0,.bool false,.int .i64 0],.int .i64 0]) (by simp [results,results135,go_sem]) rfl ⟨rfl,zAl _ _⟩
 ·have hw:(s.size:Int)<=a:=by omega
  go_enter func135,ntmps135
  go_wp2;exact bodyPost_ret (v:=.tuple #[.agg #[.int .i64 0,.bool false,.int .i64 0],.int .i64 0]) (by simp [results,results135,go_sem]) rfl ⟨rfl,zAl _ _⟩
theorem vA (s:ByteArray) (a:Int) (w:World) (hs:s.size<=1048576) (h0:0<=a) (h1:a<s.size) (hc:aH s a=203) :
  Calls prog 135 #[.string s,.int .i64 a] w fun e w'=>e=Tup (dZ s a) (dD s a)/\Below w.heap.size w w':=by
 have e1:dZ s a=(if s.size-a<2 then jY else .agg #[.int .i64 (aH s (a+1)),.bool true,.int .i64 0]):=by unfold dZ;rw [if_neg (by omega),if_pos hc]
 have e2:dD s a=(if s.size-a<2 then 0 else 2):=by unfold dD;rw [if_neg (by omega),if_pos hc]
 rw [e1,e2];clear e1 e2;have sl:=qX s a h0 (by omega);have hz:((s.extract a.toNat s.size).size:Int)=s.size-a:=by simp;omega
 have x0:=ix (s.extract a.toNat s.size) 0 (by omega) (by omega);rw [lE s a 0 h0 (by omega) (by omega),Int.add_zero,hc] at x0
 by_cases h2:(s.size:Int)-a<2
 ·rw [if_pos h2,if_pos h2]
  generalize s.extract a.toNat s.size=R at sl hz x0
  rw [<- hz] at h2
  have hz1:(0:Int)<(R.size:Int):=by omega
  clear hz hc
  go_enter func135,ntmps135
  go_wp2;exact bodyPost_ret (v:=.tuple #[.agg #[.int .i64 0,.bool false,.int .i64 0],.int .i64 0]) (by simp [results,results135,go_sem]) rfl ⟨rfl,zAl _ _⟩
 ·rw [if_neg h2,if_neg h2]
  have x1:=ix (s.extract a.toNat s.size) 1 (by omega) (by omega);rw [lE s a 1 h0 (by omega) (by omega)] at x1
  have hy:=bH s (a+1);generalize aH s (a+1)=Y at x1 hy
  generalize s.extract a.toNat s.size=R at sl hz x0 x1
  rw [<- hz] at h2
  have hz1:(0:Int)<(R.size:Int):=by omega
  have hz2:(1:Int)<(R.size:Int):=by omega
  have hw:IntKind.i64.wrap Y=Y:=by rw [x6];omega
  have hw':wrap64 Y=Y:=by unfold wrap64;omega
  clear hz hc
  go_enter func135,ntmps135
  go_wp2;exact bodyPost_ret (v:=.tuple #[.agg #[.int .i64 Y,.bool true,.int .i64 0],.int .i64 2]) (by simp [results,results135,go_sem]) rfl ⟨rfl,zAl _ _⟩
theorem bBC (s:ByteArray) (a n:Int) (w:World) (hm:MaxL w) (hs:s.size<=1048576) (h0:0<=a) (h1:a<s.size) (hc:¬ aH s a=203) (hn:gJ (aH s a)=n) (hcs:n=0 \/ n=1 \/ n=2 \/ n=3) :
  Calls prog 135 #[.string s,.int .i64 a] w fun e w'=>e=Tup (dZ s a) (dD s a)/\Below w.heap.size w w':=by
 have e1:dZ s a=(if n=0 \/ s.size-a<n then jY else .agg #[.int .i64 (aH s a),.bool false,.int .i64 (oL s a n)]):=by unfold dZ;rw [if_neg (by omega),if_neg hc,hn]
 have e2:dD s a=(if n=0 \/ s.size-a<n then 0 else n):=by unfold dD;rw [if_neg (by omega),if_neg hc,hn]
 rw [e1,e2];clear e1 e2;have HM:Hid (MaxL w):=hm;have sl:=qX s a h0 (by omega);have hz:((s.extract a.toNat s.size).size:Int)=s.size-a:=by simp;omega
 have x0:=ix (s.extract a.toNat s.size) 0 (by omega) (by omega);rw [lE s a 0 h0 (by omega) (by omega),Int.add_zero] at x0
 have bd:=bH s a;have cl:=fun w hm=>qV (aH s a) false w hm
 have hd:mX (bV (aH s a) false) false (dM (aH s a) false)=n:=hn;rw [hd] at cl
 clear hd hn hm;have hy1:=bH s (a+1);have hy2:=bH s (a+2)
 by_cases hq:n=0 \/ (s.size:Int)-a<n
 ·rw [if_pos hq,if_pos hq]
  generalize aH s a=X at x0 cl hc bd
  generalize s.extract a.toNat s.size=R at sl hz x0
  rw [<- hz] at hq
  have hz1:(0:Int)<(R.size:Int):=by omega
  have hw:IntKind.i64.wrap X=X:=by rw [x6];omega
  have hw':wrap64 X=X:=by unfold wrap64;omega
  clear hz
  go_enter func135,ntmps135
  go_wp2_with fail
  refine (cl _ (HM.out.below (zAl _ _))).mono ?_;rintro e w2 ⟨rfl,b2⟩;have B2:Hid (Below _ _ w2):=b2;have r0:=box b2 0 _ rfl;have r1:=box b2 1 _ rfl;have r2:=box b2 2 _ rfl;have f0:=fro b2 0;have f1:=fro b2 1;have f2:=fro b2 2;clear b2;go_wp2
  all_goals exact bodyPost_ret (v:=.tuple #[.agg #[.int .i64 0,.bool false,.int .i64 0],.int .i64 0]) (by simp [results,results135,go_sem,r0,r1,r2]) rfl ⟨rfl,((((cW B2.out).setCell (p:=⟨w.heap.size,0,none⟩) (Nat.le_refl _) _).setCell (p:=⟨w.heap.size,1,none⟩) (Nat.le_refl _) _).setCell (p:=⟨w.heap.size,2,none⟩) (Nat.le_refl _) _)⟩
 ·rw [if_neg hq,if_neg hq]
  have g1:¬ n=0:=fun h=>hq (.inl h)
  have g2:¬ ((s.extract a.toNat s.size).size:Int)<n:=fun h=>hq (.inr (by omega))
  have hn3:n=1 \/ n=2 \/ n=3:=by rcases hcs with h|h|h|h <;> omega
  clear hcs hq;have hw:IntKind.i64.wrap (aH s a)=aH s a:=by rw [x6];omega
  have hw':wrap64 (aH s a)=aH s a:=by unfold wrap64;omega
  rcases hn3 with rfl|rfl|rfl
  ·have ei:oL s a 1=0:=rfl
   rw [ei];clear ei;generalize aH s a=X at x0 cl hc bd hw hw'
   generalize s.extract a.toNat s.size=R at sl hz x0 g2
   have hz1:(0:Int)<(R.size:Int):=by omega
   clear hz
   go_enter func135,ntmps135
   go_wp2_with fail
   refine (cl _ (HM.out.below (zAl _ _))).mono ?_;rintro e w2 ⟨rfl,b2⟩;have B2:Hid (Below _ _ w2):=b2;have r0:=box b2 0 _ rfl;have r1:=box b2 1 _ rfl;have r2:=box b2 2 _ rfl;have f0:=fro b2 0;have f1:=fro b2 1;have f2:=fro b2 2;clear b2;go_wp2;refine wp_loop_rounds 1 ?_;rw [rounds_succ];go_wp2;exact bodyPost_ret (v:=.tuple #[.agg #[.int .i64 X,.bool false,.int .i64 0],.int .i64 1]) (by simp [results,results135,go_sem,r0,r1,r2]) rfl ⟨rfl,((((cW B2.out).setCell (p:=⟨w.heap.size,0,none⟩) (Nat.le_refl _) _).setCell (p:=⟨w.heap.size,1,none⟩) (Nat.le_refl _) _).setCell (p:=⟨w.heap.size,2,none⟩) (Nat.le_refl _) _)⟩
  ·have ei:oL s a 2=aH s (a+1):=rfl
   rw [ei];clear ei;have x1:=ix (s.extract a.toNat s.size) 1 (by omega) (by omega);rw [lE s a 1 h0 (by omega) (by omega)] at x1
   generalize aH s a=X at x0 cl hc bd hw hw'
   generalize aH s (a+1)=Y at x1 hy1
   generalize s.extract a.toNat s.size=R at sl hz x0 x1 g2
   have hz1:(0:Int)<(R.size:Int):=by omega
   have hz2:(1:Int)<(R.size:Int):=by omega
   have hv:IntKind.i64.wrap Y=Y:=by rw [x6];omega
   have hv':wrap64 Y=Y:=by unfold wrap64;omega
   clear hz
   go_enter func135,ntmps135
   go_wp2_with fail
   refine (cl _ (HM.out.below (zAl _ _))).mono ?_;rintro e w2 ⟨rfl,b2⟩;have B2:Hid (Below _ _ w2):=b2;have r0:=box b2 0 _ rfl;have r1:=box b2 1 _ rfl;have r2:=box b2 2 _ rfl;have f0:=fro b2 0;have f1:=fro b2 1;have f2:=fro b2 2;clear b2;go_wp2;refine wp_loop_rounds 2 ?_;rw [rounds_succ];go_wp2;rw [rounds_succ];go_wp2;exact bodyPost_ret (v:=.tuple #[.agg #[.int .i64 X,.bool false,.int .i64 Y],.int .i64 2]) (by simp [results,results135,go_sem,r0,r1,r2]) rfl ⟨rfl,((((cW B2.out).setCell (p:=⟨w.heap.size,0,none⟩) (Nat.le_refl _) _).setCell (p:=⟨w.heap.size,1,none⟩) (Nat.le_refl _) _).setCell (p:=⟨w.heap.size,2,none⟩) (Nat.le_refl _) _)⟩
  ·have ei:oL s a 3=aH s (a+1)+256*aH s (a+2):=rfl
   rw [ei];clear ei;have x1:=ix (s.extract a.toNat s.size) 1 (by omega) (by omega);rw [lE s a 1 h0 (by omega) (by omega)] at x1
   have x2:=ix (s.extract a.toNat s.size) 2 (by omega) (by omega);rw [lE s a 2 h0 (by omega) (by omega)] at x2
   generalize aH s a=X at x0 cl hc bd hw hw'
   generalize aH s (a+1)=Y at x1 hy1
   generalize aH s (a+2)=Z at x2 hy2
   generalize s.extract a.toNat s.size=R at sl hz x0 x1 x2 g2
   have hz1:(0:Int)<(R.size:Int):=by omega
   have hz2:(1:Int)<(R.size:Int):=by omega
   have hz3:(2:Int)<(R.size:Int):=by omega
   have hv:IntKind.i64.wrap Y=Y:=by rw [x6];omega
   have hv':wrap64 Y=Y:=by unfold wrap64;omega
   have hu:IntKind.i64.wrap Z=Z:=by rw [x6];omega
   have hu':wrap64 Z=Z:=by unfold wrap64;omega
   have ha:wrap64 (Z*256)=Z*256:=by unfold wrap64;omega
   have hb:wrap64 (Z*256+Y)=Z*256+Y:=by unfold wrap64;omega
   have ha':IntKind.i64.wrap (Z*256)=Z*256:=by rw [x6];omega
   have hb':IntKind.i64.wrap (Z*256+Y)=Z*256+Y:=by rw [x6];omega
   have HE:Hid (Y+256*Z=Z*256+Y):=by show Y+256*Z=Z*256+Y;omega
   clear hz
   go_enter func135,ntmps135
   go_wp2_with fail
   refine (cl _ (HM.out.below (zAl _ _))).mono ?_;rintro e w2 ⟨rfl,b2⟩;have B2:Hid (Below _ _ w2):=b2;have r0:=box b2 0 _ rfl;have r1:=box b2 1 _ rfl;have r2:=box b2 2 _ rfl;have f0:=fro b2 0;have f1:=fro b2 1;have f2:=fro b2 2;clear b2;go_wp2;refine wp_loop_rounds 3 ?_;rw [rounds_succ];go_wp2;rw [rounds_succ];go_wp2;rw [rounds_succ];go_wp2;exact bodyPost_ret (v:=.tuple #[.agg #[.int .i64 X,.bool false,.int .i64 (Z*256+Y)],.int .i64 3]) (by simp [results,results135,go_sem,r0,r1,r2]) rfl ⟨by rw [HE.out];rfl,((((cW B2.out).setCell (p:=⟨w.heap.size,0,none⟩) (Nat.le_refl _) _).setCell (p:=⟨w.heap.size,1,none⟩) (Nat.le_refl _) _).setCell (p:=⟨w.heap.size,2,none⟩) (Nat.le_refl _) _)⟩
theorem vB (s:ByteArray) (a:Int) (w:World) (hm:MaxL w) (hs:s.size<=1048576) :
  Calls prog 135 #[.string s,.int .i64 a] w fun e w'=>e=Tup (dZ s a) (dD s a)/\Below w.heap.size w w':=by
 by_cases h:a<0 \/ s.size<=a
 ·have e1:dZ s a=jY:=by unfold dZ;rw [if_pos h]
  have e2:dD s a=0:=by unfold dD;rw [if_pos h]
  rw [e1,e2];exact aLT s a w h
 ·by_cases hc:aH s a=203
  ·exact vA s a w hs (by omega) (by omega) hc
  ·exact bBC s a _ w hm hs (by omega) (by omega) hc rfl (jO _)
theorem iV (s:ByteArray) (a:Int):∃ (c:Int) (b:Bool) (m:Int),dZ s a=.agg #[.int .i64 c,.bool b,.int .i64 m]:=by
 unfold dZ jY;split
 ·exact ⟨_,_,_,rfl⟩
 split
 ·split
  ·exact ⟨_,_,_,rfl⟩
  ·exact ⟨_,_,_,rfl⟩
 split
 ·exact ⟨_,_,_,rfl⟩
 ·exact ⟨_,_,_,rfl⟩
end ReadJ
namespace Texi
open Signed (inB aE aC sgn)
open HoleX (n8 n16 e8 eG eQ)
open HolI LenX InsX
def Pow (w:World):Prop:=Lib.TabIs prog w "internal/strconv.uint64pow10" .u64 Lib.pow10Tab
theorem bLB:prog.globalNamed "internal/strconv.uint64pow10" = some 12:=by kernel_rfl
theorem Pow.below {w w':World} (h:Pow w) (b:Below w.heap.size w w'):Pow w':=by
 unfold Pow Lib.TabIs World.var? at *
 rw [bLB] at h |-
 simp only [Option.bind_some] at h |-
 have hlt:12<w.heap.size:=by
  rcases Nat.lt_or_ge 12 w.heap.size with h'|h'
  ·exact h'
  ·rw [Array.getElem?_eq_none h'] at h;cases h
 rw [b.block _ hlt];exact h
def pV (h:ByteArray) (imm:Int):ByteArray:=if h=n16 then Hex.dP imm 4 else if h=e8 then Deci.iK (sgn imm) else Hex.dP imm 2
theorem dI (n:Int):-128<=sgn n/\sgn n<=127:=by
 unfold sgn;split
 ·omega
 split
 ·omega
 ·omega
theorem aLU (imm:Int) (w:World) (hT:PartN.Tables w) :
  Calls prog 150 #[.string ⟨#[110,49,54]⟩,.int .i64 imm] w fun e w'=>e=.returned (.string (Hex.dP imm 4))/\Below w.heap.size w w':=by
 have c:=Hex.fZ imm 4 w hT.hex;clear hT;generalize Hex.dP imm 4=V at c |-
 go_enter func150,ntmps150
 go_wp2_with fail
 refine c.mono ?_;rintro e w1 ⟨rfl,b1⟩;have B1:Hid (Below w.heap.size w w1):=b1;clear b1;go_wp2;go_ret;exact ⟨rfl,B1.out⟩
theorem aSS (imm:Int) (w:World) (hT:PartN.Tables w) :
  Calls prog 150 #[.string ⟨#[110,56]⟩,.int .i64 imm] w fun e w'=>e=.returned (.string (Hex.dP imm 2))/\Below w.heap.size w w':=by
 have c:=Hex.fZ imm 2 w hT.hex;clear hT;generalize Hex.dP imm 2=V at c |-
 go_enter func150,ntmps150
 go_wp2_with fail
 refine c.mono ?_;rintro e w1 ⟨rfl,b1⟩;have B1:Hid (Below w.heap.size w w1):=b1;clear b1;go_wp2;go_ret;exact ⟨rfl,B1.out⟩
theorem aST (imm:Int) (w:World) (hP:Pow w) :
  Calls prog 150 #[.string ⟨#[101,56]⟩,.int .i64 imm] w fun e w'=>e=.returned (.string (Deci.iK (sgn imm)))/\Below w.heap.size w w':=by
 have cs:=fun w=>Signed.fF imm w
 have bd:=dI imm;generalize sgn imm=m at cs bd |-
 have c:Calls prog 232 #[.int .i64 m,.int .i64 10] w fun e w'=>e=.returned (.string (Deci.iK m))/\Below w.heap.size w w' :=
  (Tryz.strconv_FormatInt_10 m (by omega) (by omega) w hP).mono (by
   rintro e w' ⟨rfl,k,os,rfl⟩;exact ⟨by rw [Deci.aRO bd.1 bd.2],Lib.below_grow _ _ (Nat.le_refl _) k os⟩)
 clear hP;generalize Deci.iK m=V at c |-
 go_enter func150,ntmps150
 go_wp2_with first|(go_at_call 212;refine (cs _).mono ?_;rintro e w' ⟨rfl,hw⟩;have hw:=hw.symm;subst hw)|fail
 refine c.mono ?_;rintro e w1 ⟨rfl,b1⟩;have B1:Hid (Below w.heap.size w w1):=b1;clear b1 c;go_wp2;go_ret;exact ⟨rfl,B1.out⟩
theorem aLV:∀ (c:Fin 256) (b:Bool),¬ (Tmpl.aY (c.val:Int) b).size=0->fB (Tmpl.aY (c.val:Int) b)=eG (Tmpl.aY (c.val:Int) b) /\
  (¬ (eG (Tmpl.aY (c.val:Int) b)).size=0->Lib.countB (Tmpl.aY (c.val:Int) b) (eG (Tmpl.aY (c.val:Int) b))=1/\Lib.replaceNum (Tmpl.aY (c.val:Int) b).data.toList (eG (Tmpl.aY (c.val:Int) b)).data.toList 1=1 /\
   Lib.index (Tmpl.aY (c.val:Int) b).data.toList (eG (Tmpl.aY (c.val:Int) b)).data.toList=eQ (Tmpl.aY (c.val:Int) b)/\0<=eQ (Tmpl.aY (c.val:Int) b)/\(eQ (Tmpl.aY (c.val:Int) b)).toNat+(eG (Tmpl.aY (c.val:Int) b)).size<=(Tmpl.aY (c.val:Int) b).size):=by decide +kernel
def put (T h new:ByteArray) (p:Int):ByteArray:=T.extract 0 p.toNat ++ new ++ T.extract (p.toNat+h.size) T.size
theorem put_eq (T h new:ByteArray) (p:Int) (h0:0<=p) (h1:p.toNat+h.size<=T.size) (hi:Lib.index T.data.toList h.data.toList=p):(⟨(Lib.replaceK h.data.toList new.data.toList 1 T.data.toList).toArray⟩ : ByteArray)=put T h new p:=by
 rw [Lib.replaceK_hit _ _ 0 _ p.toNat (by rw [hi];omega)]
 apply ByteArray.ext
 apply Array.ext'
 unfold put;simp only [ByteArray.data_append,ByteArray.data_extract,Array.toList_append,Array.toList_extract,Lib.replaceK,List.extract_eq_take_drop,List.drop_zero,Nat.sub_zero];have e1:h.data.toList.length=h.size:=Array.length_toList;have e2:T.data.toList.length=T.size:=Array.length_toList;rw [e1,List.take_of_length_le (l:=List.drop (p.toNat+h.size) T.data.toList) (by rw [List.length_drop];omega)]
def fP (code:Int) (cb:Bool) (imm:Int):ByteArray:=if okV code cb imm=false then ⟨#[]⟩ else if (dM code cb).size=0 then Tmpl.aY code cb else put (Tmpl.aY code cb) (dM code cb) (pV (dM code cb) imm) (eQ (Tmpl.aY code cb))
theorem aEP {code:Int} {cb:Bool} {imm:Int} (h:okV code cb imm=true):0<=code/\code<=255/\¬ (Tmpl.aY code cb).size=0/\fB (Tmpl.aY code cb)=dM code cb/\(Tmpl.aY code cb).size<=40/\TmplI.aAX code cb=Tmpl.aY code cb /\
  (¬ (dM code cb).size=0->Lib.countB (Tmpl.aY code cb) (dM code cb)=1/\Lib.replaceNum (Tmpl.aY code cb).data.toList (dM code cb).data.toList 1=1/\Lib.index (Tmpl.aY code cb).data.toList (dM code cb).data.toList=eQ (Tmpl.aY code cb)/\0<=eQ (Tmpl.aY code cb)/\(eQ (Tmpl.aY code cb)).toNat+(dM code cb).size<=(Tmpl.aY code cb).size):=by
 have hn:bV code cb=false:=by
  cases hn:bV code cb
  ·rfl
  ·unfold okV at h;rw [hn,if_pos rfl] at h;exact absurd h (by decide)
 obtain ⟨hb,_⟩:=oJ hn;obtain ⟨h0,h1⟩:=u7 hb;have hz:¬ (Tmpl.aY code cb).size=0:=by
  unfold bV at hn
  rw [hb,aSK] at hn
  simpa using hn
 have ha:=aLV ⟨code.toNat,by omega⟩ cb;rw [show ((⟨code.toNat,by omega⟩ : Fin 256).val:Int)=code by show ((code.toNat:Nat):Int)=code;omega] at ha
 obtain ⟨a1,a2⟩:=ha hz;exact ⟨h0,h1,hz,a1,Leng.jK code cb h0 h1,by unfold TmplI.aAX;rw [if_pos hb],a2⟩
theorem bBD:∀ k:Fin 256,Deci.iK ((k.val:Int)-128) ≠ ⟨#[101,56]⟩/\(Deci.iK ((k.val:Int)-128)).size<=5:=by decide +kernel
theorem lF {m:Int} (h0:-128<=m) (h1:m<=127):Deci.iK m ≠ ⟨#[101,56]⟩/\(Deci.iK m).size<=5:=by
 have:=bBD ⟨(m+128).toNat,by omega⟩
 rwa [show (((⟨(m+128).toNat,by omega⟩ : Fin 256).val:Int)-128)=m by show (((m+128).toNat:Nat):Int)-128=m;omega] at this
theorem mZ:∀ (k:Nat) (n:Int),(Hex.eB n k).length=k
 | 0,_=>rfl
 | k+1,n=>by
  simp only [Hex.eB,List.length_append,List.length_cons,List.length_nil];rw [mZ k]
theorem iW (n d:Int) (hd:0<=d):(Hex.dP n d).size=0 \/ (Hex.dP n d).size=d.toNat+1:=by
 unfold Hex.dP;split
 ·right;rw [strOfNums_size,List.length_cons,mZ]
 ·left;rfl
theorem bGW (imm:Int):(⟨#[110,56]⟩ : ByteArray) ≠ Hex.dP imm 2/\(Hex.dP imm 2).size<=5:=by
 have:=iW imm 2 (by omega)
 refine ⟨fun h=>?_,by omega⟩;rw [<- h] at this
 revert this
 decide
theorem bBE (imm:Int):(⟨#[110,49,54]⟩ : ByteArray) ≠ Hex.dP imm 4/\(Hex.dP imm 4).size<=5:=by
 have:=iW imm 4 (by omega)
 refine ⟨fun h=>?_,by omega⟩;rw [<- h] at this
 revert this
 decide
end Texi
namespace Texj
open Signed (inB aE aC sgn)
open HoleX (n8 n16 e8 eG eQ)
open HolI LenX InsX Texi
theorem vC (code:Int) (cb:Bool) (imm:Int) (w:World) (hT:PartN.Tables w) (hP:Pow w) (hm:MaxL w) :
  Calls prog 99 #[.agg #[.int .i64 code,.bool cb,.int .i64 imm]] w fun e w'=>e=.returned (.string (fP code cb imm))/\Below w.heap.size w w':=by
 have HX:Hid (PartN.Tables w/\Pow w/\MaxL w):=⟨hT,hP,hm⟩;clear hT hP hm;have co:=fun w hm=>lY code cb imm w hm
 cases ho:okV code cb imm
 ·have hv:fP code cb imm=⟨#[]⟩:=by unfold fP;rw [ho];rfl
  rw [hv];rw [ho] at co
  go_enter func99,ntmps99
  go_wp2_with fail
  refine (co _ (HX.out.2.2.below (zAl _ _))).mono ?_;rintro e w1 ⟨rfl,b1⟩;have B1:Hid (Below _ _ w1):=b1;clear b1 co;go_wp2;go_ret;exact ⟨rfl,cW B1.out⟩
 rw [ho] at co
 obtain ⟨h0,h1,hz,hh,hs,ht,ha⟩:=aEP ho;have hv:fP code cb imm=(if (dM code cb).size=0 then Tmpl.aY code cb else put (Tmpl.aY code cb) (dM code cb) (pV (dM code cb) imm) (eQ (Tmpl.aY code cb))):=by unfold fP;rw [ho];rfl
 rw [hv];have ct:=fun w hT=>TmplI.oH code cb w hT
 rw [ht] at ct
 have ch:=fun w hm=>lZ (Tmpl.aY code cb) w (by omega) hm
 rw [hh] at ch
 have HA:Hid _:=ha;have hcs:=jN code cb;clear hv hh ht hz ha ho;generalize eQ (Tmpl.aY code cb)=P at HA |-
 generalize Tmpl.aY code cb=T at ct ch hs HA |-
 generalize dM code cb=G at ch hcs HA |-
 go_enter func99,ntmps99
 go_wp2_with fail
 refine (co _ (HX.out.2.2.below (zAl _ _))).mono ?_;rintro e w1 ⟨rfl,b1⟩;have B1:Hid (Below _ _ w1):=b1;have k0:=box b1 0 _ rfl;have k1:=box b1 1 _ rfl;clear b1 co
 go_wp2_with fail
 refine (ct _ (HX.out.1.below (cW B1.out))).mono ?_;rintro e w2 ⟨rfl,b2⟩;have B2:Hid (Below _ _ w2):=after B1.out b2;clear b2 ct B1 k0 k1
 go_wp2_with fail
 refine (ch _ (HX.out.2.2.below (cW B2.out))).mono ?_;rintro e w3 ⟨rfl,b3⟩;have B3:Hid (Below _ _ w3):=after B2.out b3;have k2:=box B3.out 2 _ rfl;clear b3 ch B2;rcases hcs with rfl|rfl|rfl|rfl
 ·have hne:=bGW imm
  obtain ⟨a1,a2,a3,a4,a5⟩:=HA.out (by decide);have cf:=fun w hT=>aSS imm w hT
  have HP:Hid ((if (⟨#[110,56]⟩ : ByteArray).size=0 then T else put T ⟨#[110,56]⟩ (pV ⟨#[110,56]⟩ imm) P)=⟨(Lib.replaceK (⟨#[110,56]⟩ : ByteArray).data.toList (Hex.dP imm 2).data.toList 1 T.data.toList).toArray⟩):=(put_eq T ⟨#[110,56]⟩ (Hex.dP imm 2) P a4 a5 a3).symm;generalize (Hex.dP imm 2)=V at cf hne HP
  go_wp2_with fail
  refine (cf _ (HX.out.1.below (cW B3.out))).mono ?_;rintro e w4 ⟨rfl,b4⟩;have B4:Hid (Below _ _ w4):=after B3.out b4;clear b4 cf B3 k2;obtain ⟨mm,hmm⟩:=HX.out.2.2.below (cW B4.out);have cr:=Tryz.strings_Replace_some T ⟨#[110,56]⟩ V 1 mm w4 (by omega) hmm (by decide) hne.1 (by decide) (by rw [a1];decide) (by rw [a1];have:=hne.2;omega);rw [a2] at cr
  clear hmm a1 a2 a3 a4 a5 hne
  go_wp2_with fail
  refine cr.mono ?_;rintro e w5 ⟨rfl,b5⟩;have B5:Hid (Below _ _ w5):=after B4.out b5;clear b5 cr B4;go_wp2;go_ret;exact ⟨congrArg (fun s=>Ending.returned (.string s)) HP.out.symm,cW B5.out⟩
 ·have hne:=bBE imm
  obtain ⟨a1,a2,a3,a4,a5⟩:=HA.out (by decide);have cf:=fun w hT=>aLU imm w hT
  have HP:Hid ((if (⟨#[110,49,54]⟩ : ByteArray).size=0 then T else put T ⟨#[110,49,54]⟩ (pV ⟨#[110,49,54]⟩ imm) P)=⟨(Lib.replaceK (⟨#[110,49,54]⟩ : ByteArray).data.toList (Hex.dP imm 4).data.toList 1 T.data.toList).toArray⟩):=(put_eq T ⟨#[110,49,54]⟩ (Hex.dP imm 4) P a4 a5 a3).symm;generalize (Hex.dP imm 4)=V at cf hne HP
  go_wp2_with fail
  refine (cf _ (HX.out.1.below (cW B3.out))).mono ?_;rintro e w4 ⟨rfl,b4⟩;have B4:Hid (Below _ _ w4):=after B3.out b4;clear b4 cf B3 k2;obtain ⟨mm,hmm⟩:=HX.out.2.2.below (cW B4.out);have cr:=Tryz.strings_Replace_some T ⟨#[110,49,54]⟩ V 1 mm w4 (by omega) hmm (by decide) hne.1 (by decide) (by rw [a1];decide) (by rw [a1];have:=hne.2;omega);rw [a2] at cr
  clear hmm a1 a2 a3 a4 a5 hne
  go_wp2_with fail
  refine cr.mono ?_;rintro e w5 ⟨rfl,b5⟩;have B5:Hid (Below _ _ w5):=after B4.out b5;clear b5 cr B4;go_wp2;go_ret;exact ⟨congrArg (fun s=>Ending.returned (.string s)) HP.out.symm,cW B5.out⟩
 ·have hne:=(⟨(lF (dI imm).1 (dI imm).2).1.symm,(lF (dI imm).1 (dI imm).2).2⟩ : (⟨#[101,56]⟩ : ByteArray) ≠ Deci.iK (sgn imm)/\(Deci.iK (sgn imm)).size<=5)
  obtain ⟨a1,a2,a3,a4,a5⟩:=HA.out (by decide);have cf:=fun w hT=>aST imm w hT
  have HP:Hid ((if (⟨#[101,56]⟩ : ByteArray).size=0 then T else put T ⟨#[101,56]⟩ (pV ⟨#[101,56]⟩ imm) P)=⟨(Lib.replaceK (⟨#[101,56]⟩ : ByteArray).data.toList (Deci.iK (sgn imm)).data.toList 1 T.data.toList).toArray⟩):=(put_eq T ⟨#[101,56]⟩ (Deci.iK (sgn imm)) P a4 a5 a3).symm;generalize (Deci.iK (sgn imm))=V at cf hne HP
  go_wp2_with fail
  refine (cf _ (HX.out.2.1.below (cW B3.out))).mono ?_;rintro e w4 ⟨rfl,b4⟩;have B4:Hid (Below _ _ w4):=after B3.out b4;clear b4 cf B3 k2;obtain ⟨mm,hmm⟩:=HX.out.2.2.below (cW B4.out);have cr:=Tryz.strings_Replace_some T ⟨#[101,56]⟩ V 1 mm w4 (by omega) hmm (by decide) hne.1 (by decide) (by rw [a1];decide) (by rw [a1];have:=hne.2;omega);rw [a2] at cr
  clear hmm a1 a2 a3 a4 a5 hne
  go_wp2_with fail
  refine cr.mono ?_;rintro e w5 ⟨rfl,b5⟩;have B5:Hid (Below _ _ w5):=after B4.out b5;clear b5 cr B4;go_wp2;go_ret;exact ⟨congrArg (fun s=>Ending.returned (.string s)) HP.out.symm,cW B5.out⟩
 ·clear HA
  go_wp2;go_ret;exact ⟨rfl,cW B3.out⟩
theorem vE (code:Int) (cb:Bool) (imm:Int) (w:World) :
  Calls prog 52 #[.agg #[.int .i64 code,.bool cb,.int .i64 imm]] w fun e w'=>e=.returned (.string (fP code cb imm))/\Below w.heap.size w w':=by
 have co:=fun w=>jE code cb imm w
 cases ho:okV code cb imm
 ·have hv:fP code cb imm=⟨#[]⟩:=by unfold fP;rw [ho];rfl
  rw [hv];rw [ho] at co
  go_enter func52,ntmps52
  go_wp2_with fail
  refine (co _).mono ?_;rintro e w1 ⟨rfl,b1⟩;have B1:Hid (Below _ _ w1):=b1;clear b1 co;go_wp2;go_ret;exact ⟨rfl,cW B1.out⟩
 rw [ho] at co
 obtain ⟨h0,h1,hz,hh,hs,ht,ha⟩:=aEP ho;have hv:fP code cb imm=(if (dM code cb).size=0 then Tmpl.aY code cb else put (Tmpl.aY code cb) (dM code cb) (pV (dM code cb) imm) (eQ (Tmpl.aY code cb))):=by unfold fP;rw [ho];rfl
 rw [hv];have ct:=fun w=>Tmpl.gH code cb w h0 h1
 have ch:=fun w=>HoleX.kL (Tmpl.aY code cb) w (by omega)
 unfold HoleX.ret at ch
 rw [show eG (Tmpl.aY code cb)=dM code cb from rfl] at ch
 have HA:Hid _:=ha;have hcs:=jN code cb;clear hv hh ht hz ha ho;generalize eQ (Tmpl.aY code cb)=P at HA ch |-
 generalize Tmpl.aY code cb=T at ct ch hs HA |-
 generalize dM code cb=G at ch hcs HA |-
 go_enter func52,ntmps52
 go_wp2_with fail
 refine (co _).mono ?_;rintro e w1 ⟨rfl,b1⟩;have B1:Hid (Below _ _ w1):=b1;have k0:=box b1 0 _ rfl;have k1:=box b1 1 _ rfl;clear b1 co
 go_wp2_with fail
 refine (ct _).mono ?_;rintro e w2 ⟨rfl,b2⟩;have B2:Hid (Below _ _ w2):=after B1.out b2;clear b2 ct B1 k0 k1
 go_wp2_with fail
 refine (ch _).mono ?_;rintro e w3 ⟨rfl,b3⟩;have B3:Hid (Below _ _ w3):=after B2.out b3;have k2:=box B3.out 2 _ rfl;clear b3 ch B2;rcases hcs with rfl|rfl|rfl|rfl
 ·obtain ⟨a1,a2,a3,a4,a5⟩:=HA.out (by decide)
  clear a1 a2 a3 HA;have a5:P.toNat+2<=T.size:=a5;have HP:Hid ((if (⟨#[110,56]⟩ : ByteArray).size=0 then T else put T ⟨#[110,56]⟩ (pV ⟨#[110,56]⟩ imm) P)=T.extract 0 P.toNat ++ Hex.dP imm 2 ++ T.extract (P.toNat+2) T.size):=rfl;have cx:=fun w=>Hex.iB imm 2 w
  have zv:=iW imm 2 (by omega);have zv:(Hex.dP imm 2).size<=5:=by omega
  generalize Hex.dP imm 2=V at cx zv HP
  have s1:∀ w,(Instr.slice 9 (.string T) none (some (.int .i64 P)) none).run prog w=.ok (.string (T.extract 0 P.toNat)) w:=fun w=>run_slice_string_h w (t:=9) (s:=T) underlying9 .i64 P a4 (by omega)
  have s2:∀ w,(Instr.slice 9 (.string T) (some (.int .i64 (P+2))) none none).run prog w=.ok (.string (T.extract (P.toNat+2) T.size)) w:=fun w=>by
   have:=run_slice_string_l w (t:=9) (s:=T) underlying9 .i64 (P+2) (by omega) (by omega)
   rwa [show (P+2).toNat=P.toNat+2 by omega] at this
  have z1:(T.extract 0 P.toNat).size<=40:=by simp;omega
  have z2:(T.extract (P.toNat+2) T.size).size<=40:=by simp;omega
  generalize T.extract 0 P.toNat=A1 at s1 z1 HP
  generalize T.extract (P.toNat+2) T.size=A2 at s2 z2 HP
  have q1:¬ 9223372036854775807<A1.size+V.size:=by omega
  have q2:¬ 9223372036854775807<A1.size+V.size+A2.size:=by omega
  have p0:0<=P:=a4;have p1:P<=(T.size:Int):=by omega
  have p2:0<=P+2:=by omega
  have p3:P+2<=(T.size:Int):=by omega
  have p4:IntKind.i64.wrap (P+2)=P+2:=by rw [x6];omega
  have p5:wrap64 (P+2)=P+2:=by unfold wrap64;omega
  clear a4 a5
  go_wp2_with fail
  go_region_with (first
   | (go_at_call 51;refine (cx _).mono ?_;rintro e w4 ⟨rfl,rfl⟩;have B4:Hid (Below _ _ w3.drew):=B3.out.drew)
   | fail)
  all_goals
   go_wp2;go_ret;exact ⟨congrArg (fun s=>Ending.returned (.string s)) HP.out.symm,cW B4.out⟩
 ·obtain ⟨a1,a2,a3,a4,a5⟩:=HA.out (by decide)
  clear a1 a2 a3 HA;have a5:P.toNat+3<=T.size:=a5;have HP:Hid ((if (⟨#[110,49,54]⟩ : ByteArray).size=0 then T else put T ⟨#[110,49,54]⟩ (pV ⟨#[110,49,54]⟩ imm) P)=T.extract 0 P.toNat ++ Hex.dP imm 4 ++ T.extract (P.toNat+3) T.size):=rfl;have cx:=fun w=>Hex.iB imm 4 w
  have zv:=iW imm 4 (by omega);have zv:(Hex.dP imm 4).size<=5:=by omega
  generalize Hex.dP imm 4=V at cx zv HP
  have s1:∀ w,(Instr.slice 9 (.string T) none (some (.int .i64 P)) none).run prog w=.ok (.string (T.extract 0 P.toNat)) w:=fun w=>run_slice_string_h w (t:=9) (s:=T) underlying9 .i64 P a4 (by omega)
  have s2:∀ w,(Instr.slice 9 (.string T) (some (.int .i64 (P+3))) none none).run prog w=.ok (.string (T.extract (P.toNat+3) T.size)) w:=fun w=>by
   have:=run_slice_string_l w (t:=9) (s:=T) underlying9 .i64 (P+3) (by omega) (by omega)
   rwa [show (P+3).toNat=P.toNat+3 by omega] at this
  have z1:(T.extract 0 P.toNat).size<=40:=by simp;omega
  have z2:(T.extract (P.toNat+3) T.size).size<=40:=by simp;omega
  generalize T.extract 0 P.toNat=A1 at s1 z1 HP
  generalize T.extract (P.toNat+3) T.size=A2 at s2 z2 HP
  have q1:¬ 9223372036854775807<A1.size+V.size:=by omega
  have q2:¬ 9223372036854775807<A1.size+V.size+A2.size:=by omega
  have p0:0<=P:=a4;have p1:P<=(T.size:Int):=by omega
  have p2:0<=P+3:=by omega
  have p3:P+3<=(T.size:Int):=by omega
  have p4:IntKind.i64.wrap (P+3)=P+3:=by rw [x6];omega
  have p5:wrap64 (P+3)=P+3:=by unfold wrap64;omega
  clear a4 a5
  go_wp2_with fail
  go_region_with (first
   | (go_at_call 51;refine (cx _).mono ?_;rintro e w4 ⟨rfl,rfl⟩;have B4:Hid (Below _ _ w3.drew):=B3.out.drew)
   | fail)
  all_goals
   go_wp2;go_ret;exact ⟨congrArg (fun s=>Ending.returned (.string s)) HP.out.symm,cW B4.out⟩
 ·obtain ⟨a1,a2,a3,a4,a5⟩:=HA.out (by decide)
  clear a1 a2 a3 HA;have a5:P.toNat+2<=T.size:=a5;have HP:Hid ((if (⟨#[101,56]⟩ : ByteArray).size=0 then T else put T ⟨#[101,56]⟩ (pV ⟨#[101,56]⟩ imm) P)=T.extract 0 P.toNat ++ Deci.iK (sgn imm) ++ T.extract (P.toNat+2) T.size):=rfl;have cg:=fun w=>Signed.cR imm w
  have cx:=fun w=>Deci.tR (sgn imm) w (dI imm).1 (dI imm).2
  have zv:=(lF (dI imm).1 (dI imm).2).2;generalize Deci.iK (sgn imm)=V at cx zv HP
  generalize sgn imm=g at cx cg
  have s1:∀ w,(Instr.slice 9 (.string T) none (some (.int .i64 P)) none).run prog w=.ok (.string (T.extract 0 P.toNat)) w:=fun w=>run_slice_string_h w (t:=9) (s:=T) underlying9 .i64 P a4 (by omega)
  have s2:∀ w,(Instr.slice 9 (.string T) (some (.int .i64 (P+2))) none none).run prog w=.ok (.string (T.extract (P.toNat+2) T.size)) w:=fun w=>by
   have:=run_slice_string_l w (t:=9) (s:=T) underlying9 .i64 (P+2) (by omega) (by omega)
   rwa [show (P+2).toNat=P.toNat+2 by omega] at this
  have z1:(T.extract 0 P.toNat).size<=40:=by simp;omega
  have z2:(T.extract (P.toNat+2) T.size).size<=40:=by simp;omega
  generalize T.extract 0 P.toNat=A1 at s1 z1 HP
  generalize T.extract (P.toNat+2) T.size=A2 at s2 z2 HP
  have q1:¬ 9223372036854775807<A1.size+V.size:=by omega
  have q2:¬ 9223372036854775807<A1.size+V.size+A2.size:=by omega
  have p0:0<=P:=a4;have p1:P<=(T.size:Int):=by omega
  have p2:0<=P+2:=by omega
  have p3:P+2<=(T.size:Int):=by omega
  have p4:IntKind.i64.wrap (P+2)=P+2:=by rw [x6];omega
  have p5:wrap64 (P+2)=P+2:=by unfold wrap64;omega
  clear a4 a5
  go_wp2_with fail
  go_region_with (first
   | (go_at_call 106;refine (cg _).mono ?_;rintro e w' ⟨rfl,hw⟩;have hw:=hw.symm;subst hw)
   | (go_at_call 105;refine (cx _).mono ?_;rintro e w4 ⟨rfl,b4⟩;have B4:Hid (Below _ _ w4):=(by first|exact after B3.out.drew b4|exact after B3.out b4);clear b4)
   | fail)
  all_goals
   go_wp2;go_ret;exact ⟨congrArg (fun s=>Ending.returned (.string s)) HP.out.symm,cW B4.out⟩
 ·clear HA
  go_wp2;go_ret;exact ⟨rfl,cW B3.out⟩
end Texj
end Go.Proofs.YteglcgnhhoenbaaGreatDoor
