import Derived.Test.YtbofcepdckpkkaaGreatDoorP17
import Derived.Deep.AppendLies
import Derived.Test.YtbofcepdckpkkaaGreatDoorP11
set_option linter.all false
set_option maxRecDepth 20000
set_option maxHeartbeats 8000000
open Go.ChangeShapes Go.WideShapes Go.ChangeAt Go.RowKit
open Go.Proofs.Tryz
namespace Go.Proofs.YtbofcepdckpkkaaGreatDoor
namespace Fitb
open Go.Deep
abbrev c0:List Value:=[.string ⟨#[97,102]⟩,.string ⟨#[97]⟩]
abbrev c1:List Value:=[.string ⟨#[98]⟩,.string ⟨#[99]⟩,.string ⟨#[100]⟩,.string ⟨#[101]⟩,.string ⟨#[104]⟩,.string ⟨#[108]⟩,.string ⟨#[91,104,108,93]⟩,.string ⟨#[97]⟩]
abbrev c2:List Value:=[.string ⟨#[98,99]⟩,.string ⟨#[100,101]⟩,.string ⟨#[104,108]⟩,.string ⟨#[115,112]⟩]
abbrev c3:List Value:=[.string ⟨#[110,122]⟩,.string ⟨#[122]⟩,.string ⟨#[110,99]⟩,.string ⟨#[99]⟩]
def wordsB:List ByteArray:=[⟨#[97,102]⟩,⟨#[97]⟩,⟨#[98]⟩,⟨#[99]⟩,⟨#[100]⟩,⟨#[101]⟩,⟨#[104]⟩,⟨#[108]⟩,⟨#[91,104,108,93]⟩,⟨#[97]⟩,⟨#[98,99]⟩,⟨#[100,101]⟩,⟨#[104,108]⟩,⟨#[115,112]⟩,⟨#[110,122]⟩,⟨#[122]⟩,⟨#[110,99]⟩,⟨#[99]⟩]
def held (s:ByteArray):Bool:=wordsB.any fun t=>t.toList == s.toList
theorem infoT:(prog.info? 9).map (fun i=>(i.zero,i.size,i.bytes))=some (some (.string ⟨#[]⟩),1,16):=by kernel_rfl
theorem newA (W:World) (cs:List Value) (t:TypeId):∀ j u,cs[j]? = some u->(W.alloc (.cells cs.toArray t)).cell? ((⟨W.heap.size,0,none⟩ : Addr).add j)=some u:=fun j u hu=>by
 have e:(⟨W.heap.size,0,none⟩ : Addr).add j=⟨W.heap.size,j,none⟩:=by unfold Addr.add;split <;> simp_all
 rw [e,World.cell?_alloc_new,List.getElem?_toArray];exact hu
theorem below_grow {N:Nat} {w W W':World} {row:Option Nat} (h:Below N w W) (hN:N<=w.heap.size) (hr:∀ g,row=some g->N<=g) (hg:W.grownBy W' row):Below N w W' :=
 ⟨hg.os.trans h.os,hg.tape.trans h.tape,hg.output.trans h.output,Nat.le_trans h.size hg.size,fun k hk=>(hg.block k (Nat.lt_of_lt_of_le (Nat.lt_of_lt_of_le hk hN) h.size) (fun e=>by have:=hr k e.symm;omega)).trans (h.block k hk)⟩
theorem one_c {cs:List Value} (h:cs.all (·.oneCell')=true):∀ u ∈ cs,u.oneCell'=true:=List.all_eq_true.1 h
theorem held_any (s:ByteArray) (w:World):Calls prog 52 #[.string s] w fun e w'=>e=.returned (.bool (held s))/\Below w.heap.size w w':=by
 obtain ⟨i0,hi,hz0,hz1,hz2⟩:=info_parts infoT
 obtain ⟨w1,hw1⟩ : ∃ u,u=w.alloc (.cells c0.toArray 9):=⟨_,rfl⟩
 have O1:Hid (w1.ownsRow w.heap.size 9 1 (.slice (some ⟨w.heap.size,0,none⟩) 2 2) 2 c0):=(by rw [hw1];exact World.ownsRow_lit w c0.toArray 2 (Nat.le_refl _) (by decide) rfl)
 have B1:Hid (Below w.heap.size w w1):=(by rw [hw1];exact zAl _ _)
 go_enter func52,ntmps52
 go_wp2_with fail
 rw [show w.alloc (.cells #[.string ⟨#[97,102]⟩,.string ⟨#[97]⟩] 9)=w1 from hw1.symm]
 clear hw1
 refine (Tabs.regs_any w1).mono ?_
 rintro e w2 ⟨rfl,rfl⟩
 have HB1:Hid (w.heap.size<=w1.heap.size):=B1.out.size
 go_wp2_with (at_builtin;refine wpList_append_lies _ rfl (.tmp 5) (.tmp 6) 40 rfl w.heap.size 9 i0 (.string ⟨#[]⟩) 1 16 underlying40 hi hz0 hz1 hz2 rfl (by decide) (.slice (some ⟨w.heap.size,0,none⟩) 2 2) 2 c0 rfl (O1.out.alloc _) ⟨w1.heap.size,0,none⟩ 8 8 c1 rfl rfl (newA w1 c1 9) (one_c rfl) (by decide) (by decide) (by decide) (by have:=HB1.out;simp;omega) _ rfl ?_)
 intro g3 k3 w3 o3 r3 _ _
 have O3:Hid (w3.ownsRow w.heap.size 9 1 (.slice (some ⟨g3,0,none⟩) 10 k3) 10 (c0 ++ c1)):=o3
 have B3:Hid (Below w.heap.size w w3):=below_grow (B1.out.alloc B1.out.size _) (Nat.le_refl _) (fun g hg=>by cases hg;exact Nat.le_refl _) r3
 clear o3 r3 O1 B1 HB1
 go_wp2_with fail
 refine (Tabs.pairs_any w3).mono ?_
 rintro e w4 ⟨rfl,rfl⟩
 have HB3:Hid (w.heap.size<=w3.heap.size):=B3.out.size
 go_wp2_with (at_builtin;refine wpList_append_lies _ rfl (.tmp 7) (.tmp 8) 40 rfl w.heap.size 9 i0 (.string ⟨#[]⟩) 1 16 underlying40 hi hz0 hz1 hz2 rfl (by decide) (.slice (some ⟨g3,0,none⟩) 10 k3) 10 (c0 ++ c1) rfl (O3.out.alloc _) ⟨w3.heap.size,0,none⟩ 4 4 c2 rfl rfl (newA w3 c2 9) (one_c rfl) (by decide) (by decide) (by decide) (by have:=HB3.out;simp;omega) _ rfl ?_)
 intro g5 k5 w5 o5 r5 _ _
 have O5:Hid (w5.ownsRow w.heap.size 9 1 (.slice (some ⟨g5,0,none⟩) 14 k5) 14 (c0 ++ c1 ++ c2)):=o5
 have L3:Hid (w.heap.size<=g3):=(O3.out.lt g3 rfl).1
 have B5:Hid (Below w.heap.size w w5):=below_grow (B3.out.alloc B3.out.size _) (Nat.le_refl _) (fun g hg=>by cases hg;exact L3.out) r5
 clear o5 r5 O3 B3 HB3 L3
 go_wp2_with fail
 refine (Tabs.conds_any w5).mono ?_
 rintro e w6 ⟨rfl,rfl⟩
 have HB5:Hid (w.heap.size<=w5.heap.size):=B5.out.size
 go_wp2_with (at_builtin;refine wpList_append_lies _ rfl (.tmp 9) (.tmp 10) 40 rfl w.heap.size 9 i0 (.string ⟨#[]⟩) 1 16 underlying40 hi hz0 hz1 hz2 rfl (by decide) (.slice (some ⟨g5,0,none⟩) 14 k5) 14 (c0 ++ c1 ++ c2) rfl (O5.out.alloc _) ⟨w5.heap.size,0,none⟩ 4 4 c3 rfl rfl (newA w5 c3 9) (one_c rfl) (by decide) (by decide) (by decide) (by have:=HB5.out;simp;omega) _ rfl ?_)
 intro g7 k7 w7 o7 r7 _ _
 have O7:Hid (w7.ownsRow w.heap.size 9 1 (.slice (some ⟨g7,0,none⟩) 18 k7) 18 (wordsB.map Value.string)):=o7
 have L5:Hid (w.heap.size<=g5):=(O5.out.lt g5 rfl).1
 have B7:Hid (Below w.heap.size w w7):=below_grow (B5.out.alloc B5.out.size _) (Nat.le_refl _) (fun g hg=>by cases hg;exact L5.out) r7
 clear o7 r7 O5 B5 HB5 L5
 have HW:Hid (wordsB.length=18):=rfl
 have CE:Hid (∀ k (h:k<wordsB.length),w7.cell? ⟨g7,k,none⟩=some (.string wordsB[k])):=fun k h=>by
  have:=O7.out.cellAt k (by have:=HW.out;omega)
  rw [this,List.getElem?_map,List.getElem?_eq_getElem h];rfl
 obtain ⟨ws,hws⟩ : ∃ l,l=wordsB:=⟨_,rfl⟩
 have HS:Hid (held s=ws.any fun t=>t.toList == s.toList):=by show _=_;rw [hws];rfl
 rw [<- hws] at CE HW
 obtain ⟨n,hn⟩ : ∃ n:Nat,n=18:=⟨_,rfl⟩
 have HN:Hid (ws.length=n):=HW.out.trans hn.symm
 clear hws O7 HW
 go_wp2_with fail
 go_loopw [4] (fun i wr=>∃ k:Nat,k<=18/\i=.int .i64 k/\Hid ((ws.take k).any (fun t=>t.toList == s.toList)=false)/\wr=w7) (fun i _=>18-(intOf i).toNat)
 case atStart=>exact ⟨0,Nat.zero_le _,rfl,rfl,rfl⟩
 case round =>
  obtain ⟨k,hk,rfl,hno,rfl⟩:=hrel
  by_cases hlt:k<18
  ·have hkL:k<ws.length:=by have:=HN.out;omega
   have d0:=CE.out k hkL
   have EX:Hid ((ws.take (k+1)).any (fun t=>t.toList == s.toList)=(ws[k].toList == s.toList)):=(show _=_ from by
    have h:(ws.take k).any (fun t=>t.toList == s.toList)=false:=hno.out
    rw [List.take_add_one,List.getElem?_eq_getElem hkL,List.any_append,h]
    simp)
   have EY:(ws[k].toList == s.toList)=true->ws.any (fun t=>t.toList == s.toList)=true:=fun h=>List.any_eq_true.2 ⟨ws[k],List.getElem_mem hkL,h⟩
   have k0:(0:Int)<=(k:Int):=by omega
   have k1:(k:Int)<18:=by omega
   generalize ws[k]=t at *
   cases hq:(t.toList == s.toList) with
   | true =>
    have EZ:Hid (held s=true):=HS.out.trans (EY hq)
    clear EY
    go_wp2_with fail
    go_ret
    exact ⟨by rw [EZ.out];rfl,B7.out⟩
   | false =>
    have EW:Hid ((ws.take (k+1)).any (fun t=>t.toList == s.toList)=false):=EX.out.trans hq
    clear EY EX
    go_wp2_with fail
    go_roundw
    case rel=>exact ⟨k+1,by omega,by go_num,EW.out,trivial⟩
    case measure=>simp [intOf];omega
  ·have EX:Hid (held s=false):=(show _=_ from by
    have h:(ws.take k).any (fun t=>t.toList == s.toList)=false:=hno.out
    rw [List.take_of_length_le (by have:=HN.out;omega)] at h
    exact HS.out.trans h)
   go_wp2_with fail
   go_ret
   exact ⟨by rw [EX.out];rfl,B7.out⟩
end Fitb
namespace Leng
open Signed (inB l1In_any)
open Tmpl Hole
theorem empty_yes {s:ByteArray} (h:s.size=0):s.toList.isEmpty=true:=by
 rw [ByteArray.toList_eq,List.isEmpty_iff_length_eq_zero,Array.length_toList];exact h
theorem empty_no {s:ByteArray} (h:¬ s.size=0):s.toList.isEmpty=false:=by
 rw [ByteArray.toList_eq];cases e:s.data.toList with
 | nil=>exact absurd (by have:=congrArg List.length e;rw [Array.length_toList] at this;exact this) h
 | cons _ _=>rfl
theorem tmpl_all:∀ (c:Fin 256) (b:Bool),(tmplS (c.val:Int) b).size<=40:=by decide +kernel
theorem tmpl_le (code:Int) (cb:Bool) (h0:0<=code) (h1:code<=255):(tmplS code cb).size<=40:=by
 have:=tmpl_all ⟨code.toNat,by omega⟩ cb
 rwa [show ((⟨code.toNat,by omega⟩ : Fin 256).val:Int)=code by show ((code.toNat:Nat):Int)=code;omega] at this
def NumOf (T:ByteArray) (e:Ending):Prop:=∃ n:Int,e=.returned (.int .i64 n)/\(n=0 ↔ T.size=0)/\0<=n/\n<=3
theorem length_any (code:Int) (cb:Bool) (w:World) (h0:0<=code) (h1:code<=255) :
  Calls prog 71 #[.int .i64 code,.bool cb] w fun e w'=>NumOf (tmplS code cb) e/\Below w.heap.size w w':=by
 have c:=fun w=>template_any code cb w h0 h1
 have hz:=tmpl_le code cb h0 h1
 generalize tmplS code cb=T at c hz |-
 go_enter func71,ntmps71
 go_wp2_with fail
 refine (c _).mono ?_
 rintro e w1 ⟨rfl,b1⟩
 have B1:Hid (Below w.heap.size w w1):=b1
 clear b1 c
 by_cases he:T.size=0
 ·have h':=empty_yes he
  go_wp2
  go_ret
  exact ⟨⟨0,rfl,by omega,by omega,by omega⟩,B1.out⟩
 have h':=empty_no he
 cases cb with
 | true =>
  go_wp2
  go_ret
  exact ⟨⟨2,rfl,by omega,by omega,by omega⟩,B1.out⟩
 | false =>
  go_wp2_with fail
  refine (hole_any T _ (by omega)).mono ?_
  rintro e w2 ⟨⟨i,h,rfl⟩,b2⟩
  have B2:Hid (Below w.heap.size w w2):=B1.out.trans (b2.mono B1.out.size)
  clear b2 B1
  go_wp2
  all_goals
   go_ret
   exact ⟨⟨_,rfl,by omega,by omega,by omega⟩,B2.out⟩
theorem lengthOf_out (code:Int) (cb:Bool) (w:World) (h:inB code 0 255=false) :
  Calls prog 32 #[.int .i64 code,.bool cb] w fun e w'=>e=.returned (.int .i64 0)/\w'=w:=by
 have ci:=fun w=>l1In_any code 0 255 w
 rw [h] at ci
 go_enter func32,ntmps32
 go_wp2_with (go_at_call 33;refine (ci _).mono ?_;rintro e w' ⟨rfl,hw'⟩;have hw':=hw'.symm;subst hw')
 go_ret
 exact ⟨rfl,rfl⟩
end Leng
namespace LenX
open Signed (inB l1In_any)
open Leng (empty_yes empty_no tmpl_le)
open HoleX (n8 n16 e8 holeT holeP)
open HolI
theorem holeT_cases (s:ByteArray):holeT s=⟨#[110,56]⟩ \/ holeT s=⟨#[110,49,54]⟩ \/ holeT s=⟨#[101,56]⟩ \/ holeT s=⟨#[]⟩:=by
 unfold holeT
 split
 ·exact .inr (.inl rfl)
 split
 ·exact .inl rfl
 split
 ·exact .inr (.inr (.inl rfl))
 ·exact .inr (.inr (.inr rfl))
theorem beqN (n:Nat):(n == 0)=decide (n=0):=by by_cases h:n=0 <;> simp [h]
theorem beqZ (n:Int):(n == 0)=decide (n=0):=by by_cases h:n=0 <;> simp [h]
def lenV (z:Bool) (cb:Bool) (h:ByteArray):Int:=if z=true then 0 else if cb=true then 2 else if h.size=0 then 1 else if h=n16 then 3 else 2
def none? (code:Int) (cb:Bool):Bool:=!inB code 0 255 || (Tmpl.tmplS code cb).size == 0
def hole (code:Int) (cb:Bool):ByteArray:=holeT (Tmpl.tmplS code cb)
theorem same_all:∀ (c:Fin 256) (b:Bool),((Tmpl.tmplS (c.val:Int) b).size=0 ↔ (Shape.shapeR (c.val:Int) b).size=0)/\holeI (Shape.shapeR (c.val:Int) b)=holeT (Tmpl.tmplS (c.val:Int) b)/\(Shape.shapeR (c.val:Int) b).size<=40:=by decide +kernel
theorem same_at (code:Int) (cb:Bool) (h0:0<=code) (h1:code<=255):((Tmpl.tmplS code cb).size=0 ↔ (Shape.shapeR code cb).size=0)/\holeI (Shape.shapeR code cb)=holeT (Tmpl.tmplS code cb)/\(Shape.shapeR code cb).size<=40:=by
 have:=same_all ⟨code.toNat,by omega⟩ cb
 rwa [show ((⟨code.toNat,by omega⟩ : Fin 256).val:Int)=code by show ((code.toNat:Nat):Int)=code;omega] at this
theorem shape_in {code:Int} {cb:Bool} (h:inB code 0 255=true):Shape.shape code cb=Shape.shapeR code cb:=by unfold Shape.shape;rw [if_pos h]
theorem shape_out {code:Int} {cb:Bool} (h:inB code 0 255=false):Shape.shape code cb=⟨#[]⟩:=by unfold Shape.shape;rw [h];rfl
theorem implLength_any (code:Int) (cb:Bool) (w:World) (hm:MaxL w) :
  Calls prog 9 #[.int .i64 code,.bool cb] w fun e w'=>e=.returned (.int .i64 (lenV (none? code cb) cb (hole code cb)))/\Below w.heap.size w w':=by
 have c:=fun w=>Shape.shapeOf_any code cb w
 cases hb:inB code 0 255
 ·have hz:(Shape.shape code cb).size=0:=by rw [shape_out hb];rfl
  have he:=empty_yes hz
  have hn:none? code cb=true:=by unfold none?;rw [hb];rfl
  rw [hn]
  generalize Shape.shape code cb=T at c he
  go_enter func9,ntmps9
  go_wp2_with fail
  refine (c _).mono ?_
  rintro e w1 ⟨rfl,b1⟩
  have B1:Hid (Below w.heap.size w w1):=b1
  clear b1 c
  go_wp2
  go_ret
  exact ⟨rfl,B1.out⟩
 obtain ⟨h0,h1⟩:=of_decide_eq_true hb
 obtain ⟨h2,h3,h4⟩:=same_at code cb h0 h1
 have hn:none? code cb=(decide ((Shape.shapeR code cb).size=0)):=by
  unfold none?;rw [hb];show (_ == 0)=_;rw [beqN];exact decide_eq_decide.2 h2
 have hh:hole code cb=holeI (Shape.shapeR code cb):=h3.symm
 rw [hn,hh]
 rw [shape_in hb] at c
 clear hn hh h2 h3 hb
 generalize Shape.shapeR code cb=T at c h4 |-
 by_cases hz:T.size=0
 ·have he:=empty_yes hz
  rw [show decide (T.size=0)=true from decide_eq_true hz]
  go_enter func9,ntmps9
  go_wp2_with fail
  refine (c _).mono ?_
  rintro e w1 ⟨rfl,b1⟩
  have B1:Hid (Below w.heap.size w w1):=b1
  clear b1 c
  go_wp2
  go_ret
  exact ⟨rfl,B1.out⟩
 have he:=empty_no hz
 rw [show decide (T.size=0)=false from decide_eq_false hz]
 have ch:=fun w hm=>holeOf_any T w (by omega) hm
 have HM:Hid (MaxL w):=hm
 clear hm
 cases cb with
 | true =>
  go_enter func9,ntmps9
  go_wp2_with fail
  refine (c _).mono ?_
  rintro e w1 ⟨rfl,b1⟩
  have B1:Hid (Below w.heap.size w w1):=b1
  clear b1 c
  go_wp2
  go_ret
  exact ⟨rfl,B1.out⟩
 | false =>
  rcases holeI_cases T with hx|hx|hx|hx
  all_goals
   rw [hx] at ch |-
   go_enter func9,ntmps9
   go_wp2_with fail
   refine (c _).mono ?_
   rintro e w1 ⟨rfl,b1⟩
   have B1:Hid (Below w.heap.size w w1):=b1
   clear b1 c
   go_wp2_with fail
   refine (ch _ (HM.out.below B1.out)).mono ?_
   rintro e w2 ⟨rfl,b2⟩
   have B2:Hid (Below w.heap.size w w2):=B1.out.trans (b2.mono B1.out.size)
   clear b2 ch B1
   go_wp2
   go_ret
   exact ⟨rfl,B2.out⟩
theorem length_any (code:Int) (cb:Bool) (w:World) (h0:0<=code) (h1:code<=255) :
  Calls prog 71 #[.int .i64 code,.bool cb] w fun e w'=>e=.returned (.int .i64 (lenV (decide ((Tmpl.tmplS code cb).size=0)) cb (hole code cb)))/\Below w.heap.size w w':=by
 have c:=fun w=>Tmpl.template_any code cb w h0 h1
 have hz:=tmpl_le code cb h0 h1
 unfold hole
 generalize Tmpl.tmplS code cb=T at c hz |-
 by_cases he:T.size=0
 ·have h':=empty_yes he
  rw [show decide (T.size=0)=true from decide_eq_true he]
  go_enter func71,ntmps71
  go_wp2_with fail
  refine (c _).mono ?_
  rintro e w1 ⟨rfl,b1⟩
  have B1:Hid (Below w.heap.size w w1):=b1
  clear b1 c
  go_wp2
  go_ret
  exact ⟨rfl,B1.out⟩
 have h':=empty_no he
 rw [show decide (T.size=0)=false from decide_eq_false he]
 have ch:=fun w=>HoleX.hole_any T w (by omega)
 cases cb with
 | true =>
  go_enter func71,ntmps71
  go_wp2_with fail
  refine (c _).mono ?_
  rintro e w1 ⟨rfl,b1⟩
  have B1:Hid (Below w.heap.size w w1):=b1
  clear b1 c
  go_wp2
  go_ret
  exact ⟨rfl,B1.out⟩
 | false =>
  unfold HoleX.ret at ch
  rcases holeT_cases T with hx|hx|hx|hx
  all_goals
   rw [hx] at ch |-
   go_enter func71,ntmps71
   go_wp2_with fail
   refine (c _).mono ?_
   rintro e w1 ⟨rfl,b1⟩
   have B1:Hid (Below w.heap.size w w1):=b1
   clear b1 c
   go_wp2_with fail
   refine (ch _).mono ?_
   rintro e w2 ⟨rfl,b2⟩
   have B2:Hid (Below w.heap.size w w2):=B1.out.trans (b2.mono B1.out.size)
   clear b2 ch B1
   go_wp2
   go_ret
   exact ⟨rfl,B2.out⟩
theorem specLength_any (code:Int) (cb:Bool) (w:World) :
  Calls prog 32 #[.int .i64 code,.bool cb] w fun e w'=>e=.returned (.int .i64 (lenV (none? code cb) cb (hole code cb)))/\Below w.heap.size w w':=by
 cases hb:inB code 0 255
 ·have hn:none? code cb=true:=by unfold none?;rw [hb];rfl
  rw [hn]
  refine (Leng.lengthOf_out code cb w hb).mono ?_
  rintro e w' ⟨rfl,rfl⟩
  exact ⟨rfl,Below.refl _ _⟩
 obtain ⟨h0,h1⟩:=of_decide_eq_true hb
 have c:=fun w=>length_any code cb w h0 h1
 have ci:=fun w=>l1In_any code 0 255 w
 rw [hb] at ci
 have hn:none? code cb=decide ((Tmpl.tmplS code cb).size=0):=by unfold none?;rw [hb];show (_ == 0)=_;rw [beqN]
 rw [hn]
 generalize lenV (decide ((Tmpl.tmplS code cb).size=0)) cb (hole code cb)=V at c |-
 go_enter func32,ntmps32
 go_wp2_with (first|(go_at_call 33;refine (ci _).mono ?_;rintro e w' ⟨rfl,hw'⟩;have hw':=hw'.symm;subst hw')|fail)
 refine (c _).mono ?_
 rintro e w1 ⟨rfl,b1⟩
 have B1:Hid (Below w.heap.size w w1):=b1
 clear b1
 go_wp2
 go_ret
 exact ⟨rfl,B1.out⟩
end LenX
namespace TmplI
open Signed (inB)
open PartN Bld
def one (x y z p:Int) (b:UInt8):List UInt8:=if 65<=b.toNat/\b.toNat<=90 then (partS (b.toNat:Int) x y z p).data.toList else [b]
def outL (x y z p:Int) (l:List UInt8):List UInt8:=l.flatMap (one x y z p)
theorem out_snoc (x y z p:Int) (l:List UInt8) (b:UInt8):outL x y z p (l ++ [b])=outL x y z p l ++ one x y z p b:=by simp [outL]
theorem at8_le {l:List ByteArray} (h:∀ s ∈ l,s.size<=5) (i:Int):(Tabs.at8 l i).size<=5:=by
 unfold Tabs.at8
 rw [List.getD_eq_getElem?_getD]
 cases hx:l[i.toNat]? with
 | none=>decide
 | some s=>exact h s (List.mem_of_getElem? hx)
theorem part_le (l x y z p:Int):(partS l x y z p).size<=5:=by
 unfold partS
 repeat' split
 all_goals exact at8_le (by decide) _
theorem one_le (x y z p:Int) (b:UInt8):(one x y z p b).length<=5:=by
 unfold one
 split
 ·have:=part_le (b.toNat:Int) x y z p
  rw [Array.length_toList]
  exact this
 ·simp
theorem out_le (x y z p:Int) (l:List UInt8):(outL x y z p l).length<=5*l.length:=by
 induction l with
 | nil=>exact Nat.le_refl _
 | cons b r ih =>
  have:=one_le x y z p b
  simp only [outL,List.flatMap_cons,List.length_append,List.length_cons] at ih |-
  omega
theorem isGreat_any (n:Int) (w:World) :
  Calls prog 59 #[.int .u8 n] w fun e w'=>e=.returned (.bool (decide (65<=n/\n<=90)))/\w'=w:=by
 go_enter func59,ntmps59
 go_wp2
 all_goals
  go_ret
  exact ⟨Signed.ret_bool (by first|(simp;omega)|simp_all),rfl⟩
theorem holds_below {B b:Nat} {bs:List Value} {w w':World} (h:Holds B b bs w) (hb:Below w.heap.size w w'):Holds B b bs w':=by
 have go:∀ p,Lib.BuilderAt 83 5 B b p bs w->Lib.BuilderAt 83 5 B b p bs w':=fun p hp=>by
  have hl:=hp.lt
  obtain ⟨hB,v,hbk,hown,hne⟩:=hp
  exact ⟨hB,v,(hb.block b hl).trans hbk,hown.kept (row:=none) ⟨hb.os,hb.tape,hb.output,hb.size,fun k hk _=>hb.block k hk⟩ (by cases hv:Value.ownBlock v <;> simp),hne⟩
 exact h.imp (go _) (go _)
theorem undrew {w w2:World} (h:Below w.drew.heap.size w.drew w2):Below w.heap.size w w2:=⟨h.os,h.tape,h.output,h.size,h.block⟩
theorem holds_new (w:World):Holds w.heap.size w.heap.size [] (w.alloc (.cells #[.pointer none,.slice none 0 0] 83)) :=
 .inl ⟨Nat.le_refl _,_,(MapKept.heap_alloc w _).1,World.ownsRow_nil _ _ _ _,by simp [Value.ownBlock]⟩
theorem holds_lt {B b:Nat} {bs:List Value} {w:World} (h:Holds B b bs w):b<w.heap.size:=h.elim (·.lt) (·.lt)
theorem loop_any (T:ByteArray) (code:Int) (cb:Bool) (w:World) (hT:PartN.Tables w) (he:T.toList.isEmpty=false) (hz:T.size<=40) (hL:∀ b ∈ T.data.toList,65<=b.toNat/\b.toNat<=90->(b.toNat:Int) ∈ letters)
  (c:∀ w,Calls prog 25 #[.int .i64 code,.bool cb] w fun e w'=>e=.returned (.string T)/\Below w.heap.size w w') (h0:0<=code) (h1:code<=255) :
  Calls prog 28 #[.int .i64 code,.bool cb] w fun e w'=>e=.returned (.string ⟨(outL (code / 64) (code / 8%8) (code%8) (code / 8%8 / 2) T.data.toList).toArray⟩)/\Below w.heap.size w w':=by
 have HT:Hid (PartN.Tables w):=hT
 have HL:Hid (∀ b ∈ T.data.toList,65<=b.toNat/\b.toNat<=90->(b.toNat:Int) ∈ letters):=hL
 clear hT hL
 have cp:=fun w=>Shape.partsOf_any code w h0 h1
 have HR:Hid ((0<=code / 64/\code / 64<=3)/\(0<=code / 8%8/\code / 8%8<=7)/\(0<=code%8/\code%8<=7)/\(0<=code / 8%8 / 2/\code / 8%8 / 2<=3)):=by
  show _/\_/\_/\_
  omega
 generalize code / 64=x at cp HR |-
 generalize code / 8%8%2=q at cp
 generalize code / 8%8 / 2=p at cp HR |-
 generalize code / 8%8=y at cp HR |-
 generalize code%8=z at cp HR |-
 clear h0 h1
 go_enter func28,ntmps28
 go_wp2_with fail
 refine (c _).mono ?_
 rintro e w1 ⟨rfl,b1⟩
 have B1:Hid (Below w.heap.size w w1):=b1
 clear b1 c
 go_wp2_with fail
 refine (cp _).mono ?_
 rintro e w2 ⟨rfl,b2⟩
 have B2:Hid (Below w.heap.size w w2):=B1.out.trans (b2.mono B1.out.size)
 clear b2 B1 cp
 go_wp2_with fail
 have HH:Hid (Holds (w2.heap.size+1) (w2.heap.size+1) [] ((w2.alloc (.cells #[.int .i64 x,.int .i64 y,.int .i64 z,.int .i64 p,.int .i64 q] 76)).alloc (.cells #[.pointer none,.slice none 0 0] 83))):=by
  have:=holds_new (w2.alloc (.cells #[.int .i64 x,.int .i64 y,.int .i64 z,.int .i64 p,.int .i64 q] 76))
  rwa [World.size_alloc] at this
 have BW:Hid (Below w.heap.size w ((w2.alloc (.cells #[.int .i64 x,.int .i64 y,.int .i64 z,.int .i64 p,.int .i64 q] 76)).alloc (.cells #[.pointer none,.slice none 0 0] 83))):=(B2.out.alloc B2.out.size _).alloc (B2.out.alloc B2.out.size _).size _
 have CB:Hid (∀ wr,Below (w2.heap.size+1) ((w2.alloc (.cells #[.int .i64 x,.int .i64 y,.int .i64 z,.int .i64 p,.int .i64 q] 76)).alloc (.cells #[.pointer none,.slice none 0 0] 83)) wr->(wr.cell? ⟨w2.heap.size,0,none⟩=some (.int .i64 x)/\wr.cell? ⟨w2.heap.size,1,none⟩=some (.int .i64 y)/\wr.cell? ⟨w2.heap.size,2,none⟩=some (.int .i64 z)/\wr.cell? ⟨w2.heap.size,3,none⟩=some (.int .i64 p)/\wr.cell? ⟨w2.heap.size,4,none⟩=some (.int .i64 q))):=fun wr hb=>by
  have e:∀ k v,(#[.int .i64 x,.int .i64 y,.int .i64 z,.int .i64 p,.int .i64 q]:Array Value)[k]? = some v->wr.cell? ⟨w2.heap.size,k,none⟩=some v:=fun k v hv=>by
   rw [hb.cell (p:=⟨w2.heap.size,k,none⟩) (by simp),World.cell?_of_block (a:=⟨w2.heap.size,k,none⟩) (w:=w2.alloc (.cells #[.int .i64 x,.int .i64 y,.int .i64 z,.int .i64 p,.int .i64 q] 76)) (Below.heap_alloc _ _ _ (by simp)),World.cell?_alloc_new]
   exact hv
  exact ⟨e 0 _ rfl,e 1 _ rfl,e 2 _ rfl,e 3 _ rfl,e 4 _ rfl⟩
 have HO:Hid (w.heap.size<=w2.heap.size+1/\w2.heap.size+1<=((w2.alloc (.cells #[.int .i64 x,.int .i64 y,.int .i64 z,.int .i64 p,.int .i64 q] 76)).alloc (.cells #[.pointer none,.slice none 0 0] 83)).heap.size):=⟨by have:=B2.out.size;omega,by simp⟩
 generalize (w2.alloc (.cells #[.int .i64 x,.int .i64 y,.int .i64 z,.int .i64 p,.int .i64 q] 76)).alloc (.cells #[.pointer none,.slice none 0 0] 83)=W at HH BW CB HO |-
 generalize w2.heap.size=ib at HH CB HO |-
 clear B2
 have hsz:(T.data.toList).length=T.size:=Array.length_toList
 go_loopw [18] (fun i wr=>∃ k:Nat,k<=T.size/\i=.int .i64 k/\Hid (Holds (ib+1) (ib+1) (Lib.byteCells (outL x y z p (T.data.toList.take k))) wr)/\Hid (Below (ib+1) W wr)) (fun i _=>T.size-(intOf i).toNat)
 case atStart=>exact ⟨0,Nat.zero_le _,rfl,HH.out,Below.refl _ _⟩
 case round =>
  obtain ⟨k,hk,rfl,HR1,HB⟩:=hrel
  have HW:Hid (Below w.heap.size w wr):=BW.out.trans (HB.out.mono HO.out.1)
  by_cases hlt:k<T.size
  ·have hlt':(k:Int)<(T.size:Int):=by omega
   obtain ⟨b,hb⟩ : ∃ b,T.data.toList[k]? = some b:=⟨T.data.toList[k]'(by omega),List.getElem?_eq_getElem (by omega)⟩
   have xi:∀ w,(Instr.index 9 (.string T) (.int .i64 (k:Int))).run prog w=.ok (.int .u8 (b.toNat:Int)) w:=fun w=>by
    rw [run_index_string w 9 T .i64 (k:Int) underlying9,dif_pos ⟨by omega,hlt'⟩]
    have:T[(k:Int).toNat]'(by omega)=b:=by
     rw [List.getElem?_eq_getElem (by omega)] at hb
     have:=Option.some.inj hb
     rw [<- this]
     simp only [Int.toNat_natCast]
     show T.data[k]=_
     rw [Array.getElem_toList]
    rw [this]
   have HS:Hid (outL x y z p (T.data.toList.take (k+1))=outL x y z p (T.data.toList.take k) ++ one x y z p b):=by
    show _=_
    rw [List.take_add_one,hb]
    exact out_snoc x y z p _ b
   have HN:Hid ((outL x y z p (T.data.toList.take k)).length<=200):=by
    show _<=_
    have:=out_le x y z p (T.data.toList.take k)
    rw [List.length_take] at this
    omega
   have HM:Hid (k<T.size/\b ∈ T.data.toList):=⟨hlt,List.mem_of_getElem? hb⟩
   obtain ⟨a0,a1,a2,a3,a4⟩:=CB.out wr HB.out
   have hg:=fun w=>isGreat_any (b.toNat:Int) w
   clear hb hk hlt
   by_cases hgr:65<=b.toNat/\b.toNat<=90
   ·rw [show decide ((65:Int)<=(b.toNat:Int)/\(b.toNat:Int)<=90)=true from decide_eq_true (by omega)] at hg
    have HE:Hid (one x y z p b=(partS (b.toNat:Int) x y z p).data.toList):=by show _=_;unfold one;rw [if_pos hgr]
    have HP:=part_le (b.toNat:Int) x y z p
    have ca:=fun w hT=>part_any (b.toNat:Int) x y z p q w hT HR.out.1.1 HR.out.1.2 HR.out.2.1.1 HR.out.2.1.2 HR.out.2.2.1.1 HR.out.2.2.1.2 HR.out.2.2.2.1 HR.out.2.2.2.2 (HL.out b HM.out.2 hgr)
    generalize partS (b.toNat:Int) x y z p=P at HE HP ca
    clear hgr
    go_wp2_with (go_at_call 59;refine (hg _).mono ?_;rintro e w' ⟨rfl,hw⟩;subst hw)
    go_region_with (first
     | (go_at_call 61;refine (ca _ (HT.out.below HW.out.drew)).mono ?_;rintro e w4 ⟨rfl,b4⟩;have HH4:Hid (Holds (ib+1) (ib+1) (Lib.byteCells (outL x y z p (T.data.toList.take k))) w4):=holds_below HR1.out (undrew b4);have HB4:Hid (Below (ib+1) W w4):=HB.out.trans ((undrew b4).mono (Nat.le_of_lt (holds_lt HR1.out)));clear b4)
     | (go_at_call 60;refine (str_any _ _ _ P _ HH4.out (by rw [Lib.byteCells_length];have:=HN.out;omega) (Nat.le_of_lt (holds_lt HH4.out))).mono ?_;rintro e w5 ⟨rfl,h5,b5⟩;have HH5:Hid (Holds (ib+1) (ib+1) (Lib.byteCells (outL x y z p (T.data.toList.take (k+1)))) w5):=(by show Holds _ _ _ _;rw [HS.out,Lib.byteCells_append,HE.out];exact h5);have HB5:Hid (Below (ib+1) W w5):=HB4.out.trans b5;clear h5 b5)
     | fail)
    all_goals
     go_wp2_with fail
     go_roundw
     case rel=>exact ⟨k+1,HM.out.1,by go_num,HH5.out,HB5.out⟩
     case measure=>have:=HM.out.1;simp [intOf];omega
   ·rw [show decide ((65:Int)<=(b.toNat:Int)/\(b.toNat:Int)<=90)=false from decide_eq_false (by omega)] at hg
    have HE:Hid (one x y z p b=[b]):=by show _=_;unfold one;rw [if_neg hgr]
    clear hgr
    go_wp2_with first
     | (go_at_call 59;refine (hg _).mono ?_;rintro e w' ⟨rfl,hw⟩;subst hw)
     | (go_at_call 62;refine (byte_any _ _ _ _ _ HR1.out (by rw [Lib.byteCells_length];have:=HN.out;omega) (Nat.le_of_lt (holds_lt HR1.out))).mono ?_;rintro e w5 ⟨rfl,h5,b5⟩;have HH5:Hid (Holds (ib+1) (ib+1) (Lib.byteCells (outL x y z p (T.data.toList.take (k+1)))) w5):=(by show Holds _ _ _ _;rw [HS.out,Lib.byteCells_append,HE.out];exact h5);have HB5:Hid (Below (ib+1) W w5):=HB.out.trans b5;clear h5 b5)
    go_roundw
    case rel=>exact ⟨k+1,HM.out.1,by go_num,HH5.out,HB5.out⟩
    case measure=>have:=HM.out.1;simp [intOf];omega
  ·have hk2:k=T.size:=by omega
   subst hk2
   have HE:Hid (T.data.toList.take T.size=T.data.toList):=by show _=_;rw [<- hsz];exact List.take_length
   go_wp2_with (go_at_call 63;refine (Tryz.Builder_String_any _ _ _ _ HR1.out (Nat.le_of_lt (holds_lt HR1.out))).mono ?_;rintro e w5 ⟨rfl,b5⟩;have B5:Hid (Below w.heap.size w w5):=HW.out.trans (b5.mono HO.out.1);clear b5)
   go_ret
   exact ⟨by rw [HE.out];rfl,B5.out⟩
theorem empty_any (code:Int) (cb:Bool) (w:World) (T:ByteArray) (he:T.toList.isEmpty=true)
  (c:∀ w,Calls prog 25 #[.int .i64 code,.bool cb] w fun e w'=>e=.returned (.string T)/\Below w.heap.size w w') :
  Calls prog 28 #[.int .i64 code,.bool cb] w fun e w'=>e=.returned (.string ⟨#[]⟩)/\Below w.heap.size w w':=by
 go_enter func28,ntmps28
 go_wp2_with fail
 refine (c _).mono ?_
 rintro e w1 ⟨rfl,b1⟩
 have B1:Hid (Below w.heap.size w w1):=b1
 clear b1 c
 go_wp2
 go_ret
 exact ⟨rfl,B1.out⟩
theorem all_same:∀ (c:Fin 256) (b:Bool),((Shape.shapeR (c.val:Int) b).size=0->(Tmpl.tmplS (c.val:Int) b).size=0)/\(Shape.shapeR (c.val:Int) b).size<=40/\(∀ x ∈ (Shape.shapeR (c.val:Int) b).data.toList,65<=x.toNat/\x.toNat<=90->(x.toNat:Int) ∈ letters) /\
  (¬ (Shape.shapeR (c.val:Int) b).size=0->(⟨(outL ((c.val:Int) / 64) ((c.val:Int) / 8%8) ((c.val:Int)%8) ((c.val:Int) / 8%8 / 2) (Shape.shapeR (c.val:Int) b).data.toList).toArray⟩ : ByteArray)=Tmpl.tmplS (c.val:Int) b):=by decide +kernel
def tmpl (code:Int) (cb:Bool):ByteArray:=if inB code 0 255=true then Tmpl.tmplS code cb else ⟨#[]⟩
theorem implTemplate_any (code:Int) (cb:Bool) (w:World) (hT:PartN.Tables w) :
  Calls prog 28 #[.int .i64 code,.bool cb] w fun e w'=>e=.returned (.string (tmpl code cb))/\Below w.heap.size w w':=by
 have c:=fun w=>Shape.shapeOf_any code cb w
 cases hb:inB code 0 255
 ·have e1:tmpl code cb=⟨#[]⟩:=by unfold tmpl;rw [hb];rfl
  have e2:Shape.shape code cb=⟨#[]⟩:=by unfold Shape.shape;rw [hb];rfl
  rw [e1]
  rw [e2] at c
  exact empty_any code cb w ⟨#[]⟩ (by rw [ByteArray.toList_eq];rfl) c
 ·obtain ⟨h0,h1⟩:=of_decide_eq_true hb
  have e1:tmpl code cb=Tmpl.tmplS code cb:=by unfold tmpl;rw [if_pos hb]
  have e2:Shape.shape code cb=Shape.shapeR code cb:=by unfold Shape.shape;rw [if_pos hb]
  obtain ⟨a1,a2,a3,a4⟩:=all_same ⟨code.toNat,by omega⟩ cb
  rw [show ((⟨code.toNat,by omega⟩ : Fin 256).val:Int)=code by show ((code.toNat:Nat):Int)=code;omega] at a1 a2 a3 a4
  rw [e1]
  rw [e2] at c
  by_cases hz:(Shape.shapeR code cb).size=0
  ·have:Tmpl.tmplS code cb=⟨#[]⟩:=by
    have:=a1 hz
    apply ByteArray.ext
    exact Array.eq_empty_of_size_eq_zero this
   rw [this]
   exact empty_any code cb w _ (by rw [ByteArray.toList_eq,List.isEmpty_iff_length_eq_zero,Array.length_toList];exact hz) c
  ·rw [<- a4 hz]
   exact loop_any _ code cb w hT (by
    rw [ByteArray.toList_eq]
    cases e:(Shape.shapeR code cb).data.toList with
    | nil=>exact absurd (by have:=congrArg List.length e;rw [Array.length_toList] at this;exact this) hz
    | cons _ _=>rfl) a2 a3 c h0 h1
end TmplI
namespace Hurs
open Rdr (Rd Post)
open Prsm Cmps Draw
theorem sz_ext (s:ByteArray) (i j:Nat):sz (s.extract i j)<=sz s:=by
 unfold sz sp
 rw [ByteArray.data_extract,Array.toList_extract,List.extract_eq_take_drop]
 exact ((List.take_sublist _ _).trans (List.drop_sublist _ _)).countP_le
theorem sz_one {t:ByteArray} (h:t.size<=1):sz t<=1:=Nat.le_trans (List.countP_le_length (p:=spc) (l:=t.data.toList)) h
theorem sz_cat {s t:ByteArray} (h:t.size<=1):sz (s ++ t)<=sz s+1:=by rw [sz_app];have:=sz_one h;omega
theorem sz_cut {s t:ByteArray} {k:Nat} (hk:k<s.size) (h:t.size<=1):sz (s.extract 0 k ++ t ++ s.extract (k+1) s.size)<=sz s+1:=by
 rw [sz_app,sz_app]
 have h1:=sz_one h
 have h2:sz (s.extract 0 k)+sz (s.extract (k+1) s.size)<=sz s:=by
  unfold sz sp
  rw [ByteArray.data_extract,Array.toList_extract,List.extract_eq_take_drop,ByteArray.data_extract,Array.toList_extract,List.extract_eq_take_drop,<- List.countP_append]
  refine List.Sublist.countP_le ?_
  rw [List.drop_zero]
  have e:s.data.toList=s.data.toList.take k ++ s.data.toList.drop k:=(List.take_append_drop _ _).symm
  conv=>rhs;rw [e]
  refine List.Sublist.append (List.take_sublist_take_left (by omega)) ?_
  refine (List.take_sublist _ _).trans ?_
  rw [show k+1=k+1 from rfl,<- List.drop_drop]
  exact List.drop_sublist _ _
 omega
theorem hurt_any (rb:Nat) (s:ByteArray) (w:World) (h:Rd w rb) (hs:s.size<=100000000) :
  Calls prog 15 #[.pointer (some ⟨rb,0,none⟩),.string s] w fun e w'=>(∃ t:ByteArray,(t.size<=s.size+1/\sz t<=sz s+1)/\e=.returned (.string t))/\Post w rb w':=by
 have H:Hid (Rd w rb):=h
 clear h
 go_enter func15,ntmps15
 go_wp2_with fail
 refine (Rdr.below_any _ _ _ H.out (by decide) (by decide)).mono ?_
 rintro e w1 ⟨⟨x,x0,x1,rfl⟩,hp⟩
 by_cases e1:x=1
 ·subst e1
  go_wp2_with fail
  refine (Rdr.below_any _ _ _ hp.1 (by omega) (by omega)).mono ?_
  rintro e w2 ⟨⟨y,y0,y1,rfl⟩,hp'⟩
  go_wp2
  go_ret
  exact ⟨⟨_,⟨by rw [ByteArray.size_extract];omega,Nat.le_succ_of_le (sz_ext _ _ _)⟩,rfl⟩,hp.trans hp'⟩
 by_cases e2:x=2
 ·subst e2
  by_cases hz:0<s.size
  ·go_wp2_with fail
   refine (Rdr.below_any _ _ _ hp.1 (by omega) (by omega)).mono ?_
   rintro e w2 ⟨⟨y,y0,y1,rfl⟩,hp'⟩
   have hl:=hp'.1.lt
   obtain ⟨k,rfl⟩:=Int.eq_ofNat_of_zero_le y0
   have hk:k<s.size:=by omega
   have hk1:k+1<=s.size:=hk
   have hk0:k<=s.size:=Nat.le_of_lt hk
   have hwr:IntKind.i64.wrap ((k:Int)+1)=(k:Int)+1:=by rw [IntKind.wrap_i64];omega
   have hi0:(0:Int)<=(k:Int)+1:=by omega
   have hi1:(k:Int)+1<=(s.size:Int):=by omega
   have hi2:((k:Int)+1).toNat=k+1:=by omega
   have z1:(s.extract 0 k).size=k:=by rw [ByteArray.size_extract];omega
   have z2:(s.extract (k+1) s.size).size=s.size-(k+1):=by rw [ByteArray.size_extract];omega
   clear y0 y1
   go_wp2_with fail
   go_region_with (first
    | (go_at_call 14;refine (Rdr.below_any _ _ (w2.drew) ?rd (by decide) (by decide)).mono ?_;(case rd=>exact hp'.1.kept (fun _ _=>rfl));rintro e w3 ⟨⟨z,z0,z1,rfl⟩,hp3⟩;obtain ⟨t,ht,hc⟩:=row_get (C:=[⟨#[48]⟩,⟨#[97]⟩,⟨#[32]⟩,⟨#[44]⟩,⟨#[36]⟩,⟨#[43]⟩]) 1 (by decide) z0 z1;have hc:∀ h,([Value.string ⟨#[48]⟩,.string ⟨#[97]⟩,.string ⟨#[32]⟩,.string ⟨#[44]⟩,.string ⟨#[36]⟩,.string ⟨#[43]⟩]:List Value)[z.toNat]'h=.string t:=hc;have q1:¬ 9223372036854775807<k+t.size:=(by omega);have q2:¬ 9223372036854775807<k+t.size+(s.size-(k+1)):=(by omega))
    | (go_at_call 14;refine (Rdr.below_any _ _ _ ?rd (by decide) (by decide)).mono ?_;(case rd=>exact (hp'.alloc _).1.kept (fun _ _=>rfl));rintro e w3 ⟨⟨z,z0,z1,rfl⟩,hp3⟩;obtain ⟨t,ht,hc⟩:=row_text (C:=[⟨#[48]⟩,⟨#[97]⟩,⟨#[32]⟩,⟨#[44]⟩,⟨#[36]⟩,⟨#[43]⟩]) 1 hp3 rfl hl (by decide) z0 z1;have q1:¬ 9223372036854775807<k+t.size:=(by omega);have q2:¬ 9223372036854775807<k+t.size+(s.size-(k+1)):=(by omega)))
   all_goals go_wp2
   all_goals go_ret
   ·exact ⟨⟨s.extract 0 k ++ t ++ s.extract (k+1) s.size,⟨by rw [ByteArray.size_append,ByteArray.size_append];omega,sz_cut hk ht⟩,rfl⟩,hp.trans ((hp'.alloc _).trans ⟨hp3.1,⟨hp3.2.os,hp3.2.tape,hp3.2.output,hp3.2.size,hp3.2.block⟩⟩)⟩
   ·exact ⟨⟨s.extract 0 k ++ t ++ s.extract (k+1) s.size,⟨by rw [ByteArray.size_append,ByteArray.size_append];omega,sz_cut hk ht⟩,rfl⟩,hp.trans (hp'.trans (Post.alloc (w:=w2) ⟨hp3.1,⟨hp3.2.os,hp3.2.tape,hp3.2.output,hp3.2.size,hp3.2.block⟩⟩ _))⟩
  ·go_wp2
   go_ret
   exact ⟨⟨s,⟨by omega,by omega⟩,rfl⟩,hp⟩
 by_cases e3:x=3
 ·subst e3
  go_wp2_with fail
  refine (Rdr.below_any _ _ _ (hp.alloc _).1 (by decide) (by decide)).mono ?_
  rintro e w2 ⟨⟨y,y0,y1,rfl⟩,hp'⟩
  obtain ⟨t,ht,hc⟩:=row_text (C:=[⟨#[32]⟩,⟨#[48]⟩,⟨#[120]⟩]) 1 hp' rfl hp.1.lt (by decide) y0 y1
  go_wp2
  go_ret
  exact ⟨⟨s ++ t,⟨by rw [ByteArray.size_append];omega,sz_cat ht⟩,rfl⟩,(hp.alloc _).trans hp'⟩
 ·have b1:(x == 1)=false:=by simpa using e1
  have b2:(x == 2)=false:=by simpa using e2
  have b3:(x == 3)=false:=by simpa using e3
  go_wp2
  go_ret
  exact ⟨⟨s,⟨by omega,by omega⟩,rfl⟩,hp⟩
end Hurs
end Go.Proofs.YtbofcepdckpkkaaGreatDoor
