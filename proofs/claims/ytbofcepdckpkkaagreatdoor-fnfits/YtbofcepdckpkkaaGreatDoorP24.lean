import Derived.Test.YtbofcepdckpkkaaGreatDoorP23
set_option linter.all false
set_option maxRecDepth 20000
set_option maxHeartbeats 8000000
open Go.ChangeShapes Go.WideShapes Go.ChangeAt Go.RowKit
open Go.Proofs.Tryz
namespace Go.Proofs.YtbofcepdckpkkaaGreatDoor
namespace Fitd
open Go.Deep
open Cmxd (outC compV)
open Fita Fitb Fitc
open Signed (inB)
open HoleX (n8 n16 e8 holeT holeP)
open HolI LenX InsX Texi Fits Like
open Stepx (Nodes exprB)
def oI (s:ByteArray) (code:Int):Option (List Stepx.Node) :=
 if (hole code false).size=0 then none else if stands s (Like.ahead code false) (Like.behind code false)=true then hexV 31 (inner s (Like.ahead code false) (Like.behind code false)) else none
def OutO (X:Option (List Stepx.Node)) (h:ByteArray) (w:World) (e:Ending) (w':World):Prop :=
 (match X with
  | none=>e=.returned (.tuple #[.string ⟨#[]⟩,.slice none 0 0,.bool false])
  | some L=>∃ (a:Option Addr) (cap:Nat),e=.returned (.tuple #[.string h,.slice a L.length cap,.bool true])/\Nodm.Own w' w.heap.size (.slice a L.length cap) L/\L.length<=30/\exprB L=true/\∀ x ∈ L,x.2.2.size<=16)/\Below w.heap.size w w'
theorem OutO.no {X:Option (List Stepx.Node)} {h:ByteArray} {w w':World} (e:X=none) (hb:Below w.heap.size w w'):OutO X h w (.returned (.tuple #[.string ⟨#[]⟩,.slice none 0 0,.bool false])) w':=by rw [e];exact ⟨rfl,hb⟩
theorem OutO.yes {X:Option (List Stepx.Node)} {h:ByteArray} {w w':World} {a:Option Addr} {len cap:Nat} {L:List Stepx.Node} (e:X=some L) (hn:len=L.length) (ho:Nodm.Own w' w.heap.size (.slice a L.length cap) L) (hl:len<=30) (hx:exprB L=true/\∀ x ∈ L,x.2.2.size<=16) (hb:Below w.heap.size w w'):OutO X h w (.returned (.tuple #[.string h,.slice a len cap,.bool true])) w':=by
 subst hn;rw [e];exact ⟨⟨a,cap,rfl,ho,hl,hx.1,hx.2⟩,hb⟩
theorem inner_le (s A Z:ByteArray):(inner s A Z).size<=s.size:=by
 unfold inner
 have h1:=Lib.trimSuffix_le (Lib.trimPrefix s.data.toList A.data.toList) Z.data.toList
 have h2:=Lib.trimPrefix_le s.data.toList A.data.toList
 have h3:s.data.toList.length=s.size:=Array.length_toList
 show (Lib.trimSuffix (Lib.trimPrefix s.data.toList A.data.toList) Z.data.toList).toArray.size<=_
 rw [List.size_toArray]
 omega
theorem tab_below {w w':World} (h:Nums.Tab w) (hb:Below w.heap.size w w'):Nums.Tab w':=fun i hi =>
 (hb.cell (p:=⟨8,i,none⟩) (World.block_lt_of_cell? w ⟨8,0,none⟩ (h 0 (by decide)))).trans (h i hi)
structure Tx (w:World):Prop where
 part:PartN.Tables w
 hex:Nums.Tab w
 ml:MaxL w
theorem Tx.below {w w':World} (h:Tx w) (hb:Below w.heap.size w w'):Tx w':=⟨h.part.below hb,tab_below h.hex hb,h.ml.below hb⟩
theorem open_any (s:ByteArray) (code:Int) (w:World) (hT:Tx w) (hs:s.size<=1000) (h0:0<=code) (h1:code<=255) :
  Calls prog 20 #[.string s,.int .i64 code] w (OutO (oI s code) (hole code false) w):=by
 have HX:Hid (Tx w):=hT
 clear hT
 have ct:=fun w hT=>TmplI.implTemplate_any code false w hT
 have ht:TmplI.tmpl code false=Tmpl.tmplS code false:=by unfold TmplI.tmpl;rw [if_pos (show inB code 0 255=true from decide_eq_true ⟨h0,h1⟩)]
 rw [ht] at ct
 have hz:=Leng.tmpl_le code false h0 h1
 obtain ⟨a1,a2⟩:=cut_at code false h0 h1
 have ch:=fun w hm=>holeOf_any (Tmpl.tmplS code false) w (by omega) hm
 rw [a1] at ch
 by_cases hh:(hole code false).size=0
 ·have ev:Hid (oI s code=none):=(show _=_ from by unfold oI;rw [if_pos hh])
  have he:=Leng.empty_yes hh
  clear a1 a2 ht hh
  generalize hole code false=G at ch he |-
  generalize Tmpl.tmplS code false=T at ct ch hz
  go_enter func20,ntmps20
  go_wp2_with fail
  refine (ct _ HX.out.part).mono ?_
  rintro e w1 ⟨rfl,b1⟩
  have B1:Hid (Below w.heap.size w w1):=b1
  clear b1 ct
  go_wp2_with fail
  refine (ch _ (HX.out.ml.below B1.out)).mono ?_
  rintro e w2 ⟨rfl,b2⟩
  have B2:Hid (Below w.heap.size w w2):=B1.out.trans (b2.mono B1.out.size)
  clear b2 ch
  go_wp2_with fail
  exact bodyPost_ret (v:=.tuple #[.string ⟨#[]⟩,.slice none 0 0,.bool false]) (by simp [results,results20,go_sem]) rfl (OutO.no ev.out B2.out)
 ·obtain ⟨a3,a4⟩:=a2 hh
  have he:=Leng.empty_no hh
  have chi:=fun w hm=>inHole_any s (Tmpl.tmplS code false) (hole code false) (Like.ahead code false) (Like.behind code false) w hm (by omega) hz a3 a4
  have ev:oI s code=if stands s (Like.ahead code false) (Like.behind code false)=true then hexV 31 (inner s (Like.ahead code false) (Like.behind code false)) else none:=by unfold oI;rw [if_neg hh]
  have hin:=inner_le s (Like.ahead code false) (Like.behind code false)
  generalize inner s (Like.ahead code false) (Like.behind code false)=I at chi ev hin
  obtain ⟨st,hst⟩ : ∃ q,stands s (Like.ahead code false) (Like.behind code false)=q:=⟨_,rfl⟩
  rw [hst] at chi ev
  have EV:Hid (oI s code=if st=true then hexV 31 I else none):=ev
  have cc:=fun w hT=>Ximh.compiled_any I w hT (by omega)
  clear a1 a2 a3 a4 ht hh hst ev
  generalize hole code false=G at ch he chi |-
  generalize Tmpl.tmplS code false=T at ct ch hz chi
  obtain ⟨X,hX⟩ : ∃ X,X=compV 31 I:=⟨_,rfl⟩
  have HV:Hid (hexV 31 I=X.bind fun L=>if regL L=true then none else some L):=(by show _=_;rw [hX];rfl)
  rw [<- hX] at cc
  clear hX
  go_enter func20,ntmps20
  go_wp2_with fail
  refine (ct _ HX.out.part).mono ?_
  rintro e w1 ⟨rfl,b1⟩
  have B1:Hid (Below w.heap.size w w1):=b1
  clear b1 ct
  go_wp2_with fail
  refine (ch _ (HX.out.ml.below B1.out)).mono ?_
  rintro e w2 ⟨rfl,b2⟩
  have B2:Hid (Below w.heap.size w w2):=B1.out.trans (b2.mono B1.out.size)
  clear b2 ch B1
  go_wp2_with fail
  refine (chi _ (HX.out.ml.below B2.out)).mono ?_
  rintro e w3 ⟨rfl,b3⟩
  have B3:Hid (Below w.heap.size w w3):=B2.out.trans (b3.mono B2.out.size)
  clear b3 chi B2
  cases st with
  | false =>
   have EN:Hid (oI s code=none):=EV.out
   clear EV HV
   go_wp2_with fail
   exact bodyPost_ret (v:=.tuple #[.string ⟨#[]⟩,.slice none 0 0,.bool false]) (by simp [results,results20,go_sem]) rfl (OutO.no EN.out B3.out)
  | true =>
   have EN:Hid (oI s code=hexV 31 I):=EV.out
   clear EV
   go_wp2_with fail
   refine (cc _ (tab_below HX.out.hex B3.out)).mono ?_
   cases X with
   | none =>
    rintro e w4 ⟨rfl,b4⟩
    have B4:Hid (Below w.heap.size w w4):=B3.out.trans (b4.mono B3.out.size)
    have EM:Hid (oI s code=none):=EN.out.trans HV.out
    clear b4 EN HV
    go_wp2_with fail
    exact bodyPost_ret (v:=.tuple #[.string ⟨#[]⟩,.slice none 0 0,.bool false]) (by simp [results,results20,go_sem]) rfl (OutO.no EM.out B4.out)
   | some L =>
    rintro e w4 ⟨⟨a,cap,rfl,ho,hl,hx,hzz⟩,b4⟩
    have B4:Hid (Below w.heap.size w w4):=B3.out.trans (b4.mono B3.out.size)
    have O4:Hid (Nodm.Own w4 w.heap.size (.slice a L.length cap) L):=Cmxd.own_low ho B3.out.size
    have N4:Hid (Nodes w4 a L):=Nodm.nodes_own ho (fun x hx=>Nat.le_trans (hzz x hx) (by decide))
    have HE:Hid (exprB L=true/\∀ x ∈ L,x.2.2.size<=16):=⟨hx,hzz⟩
    have cr:=fun w h=>namesReg_any a cap L w h (by omega)
    have EM:oI s code=if regL L=true then none else some L:=EN.out.trans HV.out
    obtain ⟨len,hlen⟩ : ∃ n,n=L.length:=⟨_,rfl⟩
    have HLN:Hid (len=L.length):=hlen
    rw [<- hlen] at hl |-
    rw [<- hlen] at cr
    obtain ⟨q,hq⟩ : ∃ q,regL L=q:=⟨_,rfl⟩
    rw [hq] at cr EM
    have EM:Hid (oI s code=if q=true then none else some L):=EM
    clear b4 EN HV ho hx hzz hlen hq
    cases q with
    | true =>
     have EZ:Hid (oI s code=none):=EM.out
     clear EM
     go_wp2_with fail
     refine (cr _ N4.out).mono ?_
     rintro e w5 ⟨rfl,b5⟩
     have B5:Hid (Below w.heap.size w w5):=B4.out.trans (b5.mono B4.out.size)
     clear b5
     go_wp2_with fail
     exact bodyPost_ret (v:=.tuple #[.string ⟨#[]⟩,.slice none 0 0,.bool false]) (by simp [results,results20,go_sem]) rfl (OutO.no EZ.out B5.out)
    | false =>
     have EZ:Hid (oI s code=some L):=EM.out
     clear EM
     go_wp2_with fail
     refine (cr _ N4.out).mono ?_
     rintro e w5 ⟨rfl,b5⟩
     have B5:Hid (Below w.heap.size w w5):=B4.out.trans (b5.mono B4.out.size)
     have O5:Hid (Nodm.Own w5 w.heap.size (.slice a L.length cap) L):=Nodm.own_below O4.out b5
     clear b5
     go_wp2_with fail
     exact bodyPost_ret (v:=.tuple #[.string G,.slice a len cap,.bool true]) (by simp [results,results20,go_sem]) rfl (OutO.yes EZ.out HLN.out O5.out hl HE.out B5.out)
end Fitd
namespace Rinst
open HoleX (n8 n16 e8 holeT holeP)
open HolI LenX InsX Texi Fits Like
def firstK (f:Nat->Bool):Nat->Nat->Option Nat
 | 0,_=>none
 | n+1,k=>if f k=true then some k else firstK f n (k+1)
def codeK (k:Nat):Int:=((k%256:Nat):Int)
def cbK (k:Nat):Bool:=decide (256<=k)
theorem firstK_hit {f:Nat->Bool} {k:Nat} (hk:k<512) (h:f k=true) (e:firstK f 512 0=firstK f (512-k) k):firstK f 512 0=some k:=by
 rw [e,show 512-k=(511-k)+1 by omega,firstK,if_pos h]
theorem firstK_next {f:Nat->Bool} {k:Nat} (hk:k<512) (h:f k=false) (e:firstK f 512 0=firstK f (512-k) k):firstK f 512 0=firstK f (512-(k+1)) (k+1):=by
 rw [e,show 512-k=(512-(k+1))+1 by omega,firstK,if_neg (by rw [h];decide)]
end Rinst
namespace Fite
open Signed (inB)
open HoleX (n8 n16 e8 holeT holeP)
open HolI LenX InsX Texi Fits Like Rinst Fitd
def T (k:Nat):ByteArray:=Tmpl.tmplS (codeK k) (cbK k)
def hK (k:Nat):ByteArray:=hole (codeK k) (cbK k)
theorem code_bd (k:Nat):0<=codeK k/\codeK k<=255:=by unfold codeK;omega
def wK (s:ByteArray) (k:Nat):Bool:=!decide (s.size=0) && (decide ((hK k).size=0) && (T k).toList == s.toList)
def outW:Option Nat->Ending
 | none=>.returned (.tuple #[.agg #[.int .i64 0,.bool false,.int .i64 0],.bool false])
 | some k=>.returned (.tuple #[.agg #[.int .i64 (codeK k),.bool (cbK k),.int .i64 0],.bool true])
theorem outW_some (k:Nat):outW (some k)=.returned (.tuple #[.agg #[.int .i64 (codeK k),.bool (cbK k),.int .i64 0],.bool true]):=rfl
theorem firstK_no {f:Nat->Bool} (h:∀ k,f k=false):∀ n k,firstK f n k=none
 | 0,_=>rfl
 | n+1,k=>by rw [firstK,if_neg (by rw [h k];decide)];exact firstK_no h n (k+1)
theorem eq_of_lists {X Y:ByteArray} (h:(X.toList == Y.toList)=true):X=Y:=by
 have:=eq_of_beq h
 rw [ByteArray.toList_eq,ByteArray.toList_eq] at this
 exact ByteArray.ext (Array.ext' this)
theorem holeI_T (k:Nat):holeI (T k)=hK k:=(cut_at (codeK k) (cbK k) (code_bd k).1 (code_bd k).2).1
theorem wK_empty {s:ByteArray} (h:s.size=0) (k:Nat):wK s k=false:=by unfold wK;rw [decide_eq_true h];rfl
theorem wK_hole {s:ByteArray} (h:¬ (holeI s).size=0) (k:Nat):wK s k=false:=by
 cases hw:wK s k with
 | false=>rfl
 | true =>
  exfalso
  unfold wK at hw
  simp only [Bool.and_eq_true,decide_eq_true_eq] at hw
  have e:=eq_of_lists hw.2.2
  apply h
  rw [<- e,holeI_T]
  exact hw.2.1
theorem wK_eq {s:ByteArray} (h0:¬ s.size=0) (h:(holeI s).size=0) (k:Nat):wK s k=((T k).toList == s.toList):=by
 unfold wK
 rw [decide_eq_false h0]
 cases hq:(T k).toList == s.toList with
 | false=>rw [Bool.and_false,Bool.and_false]
 | true =>
  have e:=eq_of_lists hq
  rw [<- e,holeI_T] at h
  rw [decide_eq_true h];rfl
theorem whole_any (s:ByteArray) (w:World) (hT:Tx w) (hs:s.size<=1000) :
  Calls prog 19 #[.string s] w fun e w'=>e=outW (firstK (wK s) 512 0)/\Below w.heap.size w w':=by
 have HX:Hid (Tx w):=hT
 have ch:=fun w hm=>holeOf_any s w hs hm
 have HB:Hid (Below w.heap.size w (w.alloc (.cells #[.int .i64 0,.bool false,.int .i64 0] 26))):=zAl _ _
 have HS:Hid (Below (w.alloc (.cells #[.int .i64 0,.bool false,.int .i64 0] 26)).heap.size (w.alloc (.cells #[.int .i64 0,.bool false,.int .i64 0] 26)) (w.alloc (.cells #[.int .i64 0,.bool false,.int .i64 0] 26))):=Below.refl _ _
 clear hT
 by_cases hz:s.size=0
 ·have he:=Leng.empty_yes hz
  have HN:Hid (firstK (wK s) 512 0=none):=firstK_no (wK_empty hz) _ _
  have r0:=box HS.out 0 _ rfl
  have r1:=box HS.out 1 _ rfl
  have r2:=box HS.out 2 _ rfl
  have f0:=fro HS.out 0
  have f1:=fro HS.out 1
  have f2:=fro HS.out 2
  clear ch hz
  go_enter func19,ntmps19
  go_wp2
  rw [HN.out]
  exact bodyPost_ret (v:=.tuple #[.agg #[.int .i64 0,.bool false,.int .i64 0],.bool false]) (by simp [results,results19,go_sem,r0,r1,r2]) rfl ⟨rfl,HB.out⟩
 have he:=Leng.empty_no hz
 by_cases hh:(holeI s).size=0
 ·have hi:=Leng.empty_yes hh
  have WK:Hid (∀ k,wK s k=((T k).toList == s.toList)):=wK_eq hz hh
  have x0:∀ w:World,(Instr.index 68 (.agg #[.bool false,.bool true]) (.int .i64 0)).run prog w=.ok (.bool false) w:=fun _=>by kernel_rfl
  have x1:∀ w:World,(Instr.index 68 (.agg #[.bool false,.bool true]) (.int .i64 1)).run prog w=.ok (.bool true) w:=fun _=>by kernel_rfl
  have HI:Hid ((holeI s).size=0):=hh
  generalize holeI s=G at ch hi
  clear hz hh
  go_enter func19,ntmps19
  go_wp2_with fail
  refine (ch _ (HX.out.ml.below HB.out)).mono ?_
  rintro e w1 ⟨rfl,b1⟩
  have B1:Hid (Below (w.alloc (.cells #[.int .i64 0,.bool false,.int .i64 0] 26)).heap.size (w.alloc (.cells #[.int .i64 0,.bool false,.int .i64 0] 26)) w1):=b1
  clear b1 ch HB HS
  go_wp2_with fail
  go_loopw [16] (fun i wr=>((i=.int .i64 0/\Hid (firstK (wK s) 512 0=firstK (wK s) (512-0) 0)) \/ (i=.int .i64 1/\Hid (firstK (wK s) 512 0=firstK (wK s) (512-256) 256)) \/ (i=.int .i64 2/\Hid (firstK (wK s) 512 0=none)))/\Hid (Below (w.alloc (.cells #[.int .i64 0,.bool false,.int .i64 0] 26)).heap.size (w.alloc (.cells #[.int .i64 0,.bool false,.int .i64 0] 26)) wr)) (fun i _=>2-(intOf i).toNat)
  case atStart=>exact ⟨.inl ⟨rfl,rfl⟩,B1.out⟩
  case round =>
   clear B1
   obtain ⟨hi,hb⟩:=hrel
   rcases hi with ⟨rfl,ha⟩|⟨rfl,ha⟩|⟨rfl,ha⟩
   ·go_wp2_with fail
    go_loopw [19] (fun i wr=>∃ m:Nat,m<=256/\i=.int .i64 m/\Hid (firstK (wK s) 512 0=firstK (wK s) (512-m) m)/\Hid (Below (w.alloc (.cells #[.int .i64 0,.bool false,.int .i64 0] 26)).heap.size (w.alloc (.cells #[.int .i64 0,.bool false,.int .i64 0] 26)) wr)) (fun i _=>256-(intOf i).toNat)
    case atStart=>exact ⟨0,Nat.zero_le _,rfl,rfl,hb⟩
    case round =>
     clear ha hb
     obtain ⟨m,hm,rfl,ha,hb⟩:=hrel
     by_cases hlt:m<256
     ·have k1:(m:Int)<256:=by omega
      have HM:Hid (m<256):=hlt
      have cl:=fun w hT=>TmplI.implTemplate_any (m:Int) false w hT
      have ht:TmplI.tmpl (m:Int) false=Tmpl.tmplS (m:Int) false:=by unfold TmplI.tmpl;rw [if_pos (show inB (m:Int) 0 255=true from decide_eq_true ⟨by omega,by omega⟩)]
      rw [ht] at cl
      clear hm hlt ht
      have HF:Hid (wK s m=((Tmpl.tmplS (m:Int) false).toList == s.toList)/\codeK m=(m:Int)/\cbK m=false):=by
       have:=HM.out
       have e1:codeK m=(m:Int):=by unfold codeK;omega
       have e2:cbK m=false:=by unfold cbK;simp;try omega
       exact ⟨by rw [WK.out];unfold T;rw [e1,e2],e1,e2⟩
      generalize Tmpl.tmplS (m:Int) false=V at cl HF
      obtain ⟨F,hF⟩ : ∃ q,(V.toList == s.toList)=q:=⟨_,rfl⟩
      rw [hF] at HF
      go_wp2_with fail
      refine (cl _ (HX.out.below (unbox hb.out)).part).mono ?_
      rintro e w2 ⟨rfl,b2⟩
      have BL:Hid (Below (w.alloc (.cells #[.int .i64 0,.bool false,.int .i64 0] 26)).heap.size (w.alloc (.cells #[.int .i64 0,.bool false,.int .i64 0] 26)) w2):=after hb.out b2
      clear b2 cl
      cases F with
      | false =>
       go_wp2_with fail
       go_roundw
       case rel=>exact ⟨m+1,HM.out,by go_num,firstK_next (k:=m) (by have:=HM.out;omega) HF.out.1 ha.out,BL.out⟩
       case measure=>have:=HM.out;simp [intOf];omega
      | true =>
       have r0:=box BL.out 0 _ rfl
       have r1:=box BL.out 1 _ rfl
       have r2:=box BL.out 2 _ rfl
       have f0:=fro BL.out 0
       have f1:=fro BL.out 1
       have f2:=fro BL.out 2
       have HQ:Hid (outW (firstK (wK s) 512 0)=.returned (.tuple #[.agg #[.int .i64 (m:Int),.bool false,.int .i64 0],.bool true])):=by
        show _=_
        rw [firstK_hit (k:=m) (by have:=HM.out;omega) HF.out.1 ha.out]
        rw [outW_some,HF.out.2.1,HF.out.2.2]
       go_wp2
       exact bodyPost_ret (v:=.tuple #[.agg #[.int .i64 (m:Int),.bool false,.int .i64 0],.bool true]) (by simp [results,results19,go_sem,r0,r1,r2]) rfl ⟨HQ.out.symm,(((unbox BL.out).setCell (p:=⟨w.heap.size,0,none⟩) (Nat.le_refl _) _).setCell (p:=⟨w.heap.size,1,none⟩) (Nat.le_refl _) _).setCell (p:=⟨w.heap.size,2,none⟩) (Nat.le_refl _) _⟩
     ·have HM:Hid (m=256):=by show m=256;omega
      have k1:¬ (m:Int)<256:=by omega
      clear hm hlt
      go_wp2_with fail
      go_roundw
      case rel =>
       refine ⟨(.inr (.inl ⟨rfl,?_⟩)),hb⟩
       have:=ha.out
       rw [HM.out] at this
       exact this
      case measure=>simp [intOf]
   ·go_wp2_with fail
    go_loopw [19] (fun i wr=>∃ m:Nat,m<=256/\i=.int .i64 m/\Hid (firstK (wK s) 512 0=firstK (wK s) (512-(256+m)) (256+m))/\Hid (Below (w.alloc (.cells #[.int .i64 0,.bool false,.int .i64 0] 26)).heap.size (w.alloc (.cells #[.int .i64 0,.bool false,.int .i64 0] 26)) wr)) (fun i _=>256-(intOf i).toNat)
    case atStart=>exact ⟨0,Nat.zero_le _,rfl,ha,hb⟩
    case round =>
     clear ha hb
     obtain ⟨m,hm,rfl,ha,hb⟩:=hrel
     by_cases hlt:m<256
     ·have k1:(m:Int)<256:=by omega
      have HM:Hid (m<256):=hlt
      have cl:=fun w hT=>TmplI.implTemplate_any (m:Int) true w hT
      have ht:TmplI.tmpl (m:Int) true=Tmpl.tmplS (m:Int) true:=by unfold TmplI.tmpl;rw [if_pos (show inB (m:Int) 0 255=true from decide_eq_true ⟨by omega,by omega⟩)]
      rw [ht] at cl
      clear hm hlt ht
      have HF:Hid (wK s (256+m)=((Tmpl.tmplS (m:Int) true).toList == s.toList)/\codeK (256+m)=(m:Int)/\cbK (256+m)=true):=by
       have:=HM.out
       have e1:codeK (256+m)=(m:Int):=by unfold codeK;omega
       have e2:cbK (256+m)=true:=by unfold cbK;simp;try omega
       exact ⟨by rw [WK.out];unfold T;rw [e1,e2],e1,e2⟩
      generalize Tmpl.tmplS (m:Int) true=V at cl HF
      obtain ⟨F,hF⟩ : ∃ q,(V.toList == s.toList)=q:=⟨_,rfl⟩
      rw [hF] at HF
      go_wp2_with fail
      refine (cl _ (HX.out.below (unbox hb.out)).part).mono ?_
      rintro e w2 ⟨rfl,b2⟩
      have BL:Hid (Below (w.alloc (.cells #[.int .i64 0,.bool false,.int .i64 0] 26)).heap.size (w.alloc (.cells #[.int .i64 0,.bool false,.int .i64 0] 26)) w2):=after hb.out b2
      clear b2 cl
      cases F with
      | false =>
       go_wp2_with fail
       go_roundw
       case rel=>exact ⟨m+1,HM.out,by go_num,firstK_next (k:=(256+m)) (by have:=HM.out;omega) HF.out.1 ha.out,BL.out⟩
       case measure=>have:=HM.out;simp [intOf];omega
      | true =>
       have r0:=box BL.out 0 _ rfl
       have r1:=box BL.out 1 _ rfl
       have r2:=box BL.out 2 _ rfl
       have f0:=fro BL.out 0
       have f1:=fro BL.out 1
       have f2:=fro BL.out 2
       have HQ:Hid (outW (firstK (wK s) 512 0)=.returned (.tuple #[.agg #[.int .i64 (m:Int),.bool true,.int .i64 0],.bool true])):=by
        show _=_
        rw [firstK_hit (k:=(256+m)) (by have:=HM.out;omega) HF.out.1 ha.out]
        rw [outW_some,HF.out.2.1,HF.out.2.2]
       go_wp2
       exact bodyPost_ret (v:=.tuple #[.agg #[.int .i64 (m:Int),.bool true,.int .i64 0],.bool true]) (by simp [results,results19,go_sem,r0,r1,r2]) rfl ⟨HQ.out.symm,(((unbox BL.out).setCell (p:=⟨w.heap.size,0,none⟩) (Nat.le_refl _) _).setCell (p:=⟨w.heap.size,1,none⟩) (Nat.le_refl _) _).setCell (p:=⟨w.heap.size,2,none⟩) (Nat.le_refl _) _⟩
     ·have HM:Hid (m=256):=by show m=256;omega
      have k1:¬ (m:Int)<256:=by omega
      clear hm hlt
      go_wp2_with fail
      go_roundw
      case rel =>
       refine ⟨(.inr (.inr ⟨rfl,?_⟩)),hb⟩
       have:=ha.out
       rw [HM.out] at this
       exact this
      case measure=>simp [intOf]
   ·have r0:=box hb.out 0 _ rfl
    have r1:=box hb.out 1 _ rfl
    have r2:=box hb.out 2 _ rfl
    have f0:=fro hb.out 0
    have f1:=fro hb.out 1
    have f2:=fro hb.out 2
    go_wp2
    rw [ha.out]
    exact bodyPost_ret (v:=.tuple #[.agg #[.int .i64 0,.bool false,.int .i64 0],.bool false]) (by simp [results,results19,go_sem,r0,r1,r2]) rfl ⟨rfl,(((unbox hb.out).setCell (p:=⟨w.heap.size,0,none⟩) (Nat.le_refl _) _).setCell (p:=⟨w.heap.size,1,none⟩) (Nat.le_refl _) _).setCell (p:=⟨w.heap.size,2,none⟩) (Nat.le_refl _) _⟩
 ·have hi:=Leng.empty_no hh
  have HN:Hid (firstK (wK s) 512 0=none):=firstK_no (wK_hole hh) _ _
  generalize holeI s=G at ch hi
  clear hz hh
  go_enter func19,ntmps19
  go_wp2_with fail
  refine (ch _ (HX.out.ml.below HB.out)).mono ?_
  rintro e w1 ⟨rfl,b1⟩
  have B1:Hid (Below (w.alloc (.cells #[.int .i64 0,.bool false,.int .i64 0] 26)).heap.size (w.alloc (.cells #[.int .i64 0,.bool false,.int .i64 0] 26)) w1):=b1
  have r0:=box B1.out 0 _ rfl
  have r1:=box B1.out 1 _ rfl
  have r2:=box B1.out 2 _ rfl
  have f0:=fro B1.out 0
  have f1:=fro B1.out 1
  have f2:=fro B1.out 2
  clear b1 ch
  go_wp2
  rw [HN.out]
  exact bodyPost_ret (v:=.tuple #[.agg #[.int .i64 0,.bool false,.int .i64 0],.bool false]) (by simp [results,results19,go_sem,r0,r1,r2]) rfl ⟨rfl,(((unbox B1.out).setCell (p:=⟨w.heap.size,0,none⟩) (Nat.le_refl _) _).setCell (p:=⟨w.heap.size,1,none⟩) (Nat.le_refl _) _).setCell (p:=⟨w.heap.size,2,none⟩) (Nat.le_refl _) _⟩
end Fite
namespace Fitf
open HolI LenX InsX Texi Fits Like Rinst Fitd Fite
open Stepx (Nodes exprB)
theorem outW_none:outW none=.returned (.tuple #[.agg #[.int .i64 0,.bool false,.int .i64 0],.bool false]):=rfl
theorem fk_hit {f:Nat->Bool} {N k:Nat} (hk:k<N) (h:f k=true) (e:firstK f N 0=firstK f (N-k) k):firstK f N 0=some k:=by
 rw [e,show N-k=(N-k-1)+1 by omega,firstK,if_pos h]
theorem fk_next {f:Nat->Bool} {N k:Nat} (hk:k<N) (h:f k=false) (e:firstK f N 0=firstK f (N-k) k):firstK f N 0=firstK f (N-(k+1)) (k+1):=by
 rw [e,show N-k=(N-(k+1))+1 by omega,firstK,if_neg (by rw [h];decide)]
structure R where
 c:Int
 b:Bool
 h:ByteArray
 l:List Stepx.Node
 f:Bool
def r0:R:=⟨0,false,⟨#[]⟩,[],false⟩
def rW (k:Nat):R:=⟨codeK k,cbK k,⟨#[]⟩,[],true⟩
def rO (k:Nat) (L:List Stepx.Node):R:=⟨(k:Int),false,hole (k:Int) false,L,true⟩
def oB (O:Int->Option (List Stepx.Node)) (k:Nat):Bool:=(O (k:Int)).isSome
def fitO (O:Int->Option (List Stepx.Node)):Option Nat->R
 | none=>r0
 | some k=>rO k ((O (k:Int)).getD [])
def fitW (X:R):Option Nat->R
 | none=>X
 | some k=>rW k
def fitG (O:Int->Option (List Stepx.Node)) (s:ByteArray):R:=if 80<s.size then r0 else fitW (fitO O (firstK (oB O) 256 0)) (firstK (wK s) 512 0)
def Told (r:R) (w:World) (e:Ending) (w':World):Prop :=
 (∃ (a:Option Addr) (cap:Nat),e=.returned (.tuple #[.agg #[.int .i64 r.c,.bool r.b,.int .i64 0],.string r.h,.slice a r.l.length cap,.bool r.f])/\Nodes w' a r.l/\r.l.length<=30)/\Below w.heap.size w w'
theorem told0 {r:R} {w w':World} (e:r=r0) (hb:Below w.heap.size w w'):Told r w (.returned (.tuple #[.agg #[.int .i64 0,.bool false,.int .i64 0],.string ⟨#[]⟩,.slice none 0 0,.bool false])) w':=by
 rw [e];exact ⟨⟨none,0,rfl,.inl rfl,Nat.zero_le _⟩,hb⟩
theorem toldW {r:R} {w w':World} {c:Int} {b:Bool} (e:r=⟨c,b,⟨#[]⟩,[],true⟩) (hb:Below w.heap.size w w'):Told r w (.returned (.tuple #[.agg #[.int .i64 c,.bool b,.int .i64 0],.string ⟨#[]⟩,.slice none 0 0,.bool true])) w':=by
 rw [e];exact ⟨⟨none,0,rfl,.inl rfl,Nat.zero_le _⟩,hb⟩
theorem toldO {r:R} {w w':World} {m:Int} {G:ByteArray} {a:Option Addr} {len cap:Nat} {L:List Stepx.Node} (e:r=⟨m,false,G,L,true⟩) (hn:len=L.length) (hN:Nodes w' a L) (hl:len<=30) (hb:Below w.heap.size w w'):Told r w (.returned (.tuple #[.agg #[.int .i64 m,.bool false,.int .i64 0],.string G,.slice a len cap,.bool true])) w':=by
 subst hn;rw [e];exact ⟨⟨a,cap,rfl,hN,hl⟩,hb⟩
theorem set3 {w W:World} (h:Below w.heap.size w W) (x y z:Value):Below w.heap.size w (((W.setCell ⟨w.heap.size,0,none⟩ x).setCell ⟨w.heap.size,1,none⟩ y).setCell ⟨w.heap.size,2,none⟩ z) :=
 ((h.setCell (p:=⟨w.heap.size,0,none⟩) (Nat.le_refl _) _).setCell (p:=⟨w.heap.size,1,none⟩) (Nat.le_refl _) _).setCell (p:=⟨w.heap.size,2,none⟩) (Nat.le_refl _) _
theorem nodes_set3 {w W W2:World} {a:Option Addr} {cap:Nat} {L:List Stepx.Node} (h:Below (w.alloc (.cells #[.int .i64 0,.bool false,.int .i64 0] 26)).heap.size (w.alloc (.cells #[.int .i64 0,.bool false,.int .i64 0] 26)) W2)
  (ho:Nodm.Own W2 W.heap.size (.slice a L.length cap) L) (hz:∀ x ∈ L,x.2.2.size<=1048576) (hs:w.heap.size+1<=W.heap.size) (x y z:Value):Nodes (((W2.setCell ⟨w.heap.size,0,none⟩ x).setCell ⟨w.heap.size,1,none⟩ y).setCell ⟨w.heap.size,2,none⟩ z) a L:=by
 refine Nodm.nodes_own (w:=((W2.setCell ⟨w.heap.size,0,none⟩ x).setCell ⟨w.heap.size,1,none⟩ y).setCell ⟨w.heap.size,2,none⟩ z) (base:=W.heap.size) (n:=L.length) (cap:=cap) ?_ hz
 have ne:∀ g,(Value.slice a L.length cap).ownBlock=some g->g ≠ w.heap.size:=fun g hg=>by
  have:=(ho.lt g hg).1;omega
 have ne':(Value.slice a L.length cap).ownBlock=none \/ (Value.slice a L.length cap).ownBlock ≠ some w.heap.size:=by
  cases hv:(Value.slice a L.length cap).ownBlock with
  | none=>exact .inl rfl
  | some g=>exact .inr fun e=>ne g hv (Option.some.inj e)
 exact ((ho.kept (Rdr.grown_set _ _ _ _) ne').kept (Rdr.grown_set _ _ _ _) ne').kept (Rdr.grown_set _ _ _ _) ne'
theorem implFit_any (s:ByteArray) (w:World) (hT:Tx w) (hs:s.size<=1048576) :
  Calls prog 6 #[.string s] w (Told (fitG (oI s) s) w):=by
 have HX:Hid (Tx w):=hT
 have HB:Hid (Below w.heap.size w (w.alloc (.cells #[.int .i64 0,.bool false,.int .i64 0] 26))):=zAl _ _
 clear hT
 by_cases hz:80<s.size
 ·have HN:Hid (fitG (oI s) s=r0):=if_pos hz
  have hz':(80:Int)<(s.size:Int):=by omega
  go_enter func6,ntmps6
  go_wp2
  exact bodyPost_ret (v:=.tuple #[.agg #[.int .i64 0,.bool false,.int .i64 0],.string ⟨#[]⟩,.slice none 0 0,.bool false]) (by simp [results,results6,go_sem]) rfl (told0 HN.out HB.out)
 ·have hz':¬ (80:Int)<(s.size:Int):=by omega
  have cw:=fun w hT=>whole_any s w hT (by omega)
  have co:=fun w hT k h0 h1=>open_any s k w hT (by omega) h0 h1
  have FG:fitG (oI s) s=fitW (fitO (oI s) (firstK (oB (oI s)) 256 0)) (firstK (wK s) 512 0):=if_neg hz
  generalize firstK (wK s) 512 0=X at cw FG
  generalize hR:fitG (oI s) s=R at FG |-
  have FH:Hid (R=fitW (fitO (oI s) (firstK (oB (oI s)) 256 0)) X):=FG
  clear hR FG
  cases X with
  | some k =>
   have FR:Hid (R=⟨codeK k,cbK k,⟨#[]⟩,[],true⟩):=FH.out
   simp only [outW_some] at cw
   generalize codeK k=c at cw FR
   generalize cbK k=b at cw FR
   clear FH co
   go_enter func6,ntmps6
   go_wp2_with fail
   refine (cw _ (HX.out.below HB.out)).mono ?_
   rintro e w1 ⟨rfl,b1⟩
   have B1:Hid (Below (w.alloc (.cells #[.int .i64 0,.bool false,.int .i64 0] 26)).heap.size (w.alloc (.cells #[.int .i64 0,.bool false,.int .i64 0] 26)) w1):=b1
   have B2:Hid (Below (w.alloc (.cells #[.int .i64 0,.bool false,.int .i64 0] 26)).heap.size (w.alloc (.cells #[.int .i64 0,.bool false,.int .i64 0] 26)) (w1.alloc (.cells #[.int .i64 c,.bool b,.int .i64 0] 26))):=b1.alloc b1.size _
   have r0:=box B2.out 0 _ rfl
   have r1:=box B2.out 1 _ rfl
   have r2:=box B2.out 2 _ rfl
   have f0:=fro B2.out 0
   have f1:=fro B2.out 1
   have f2:=fro B2.out 2
   clear b1 cw
   go_wp2
   all_goals exact bodyPost_ret (v:=.tuple #[.agg #[.int .i64 c,.bool b,.int .i64 0],.string ⟨#[]⟩,.slice none 0 0,.bool true]) (by simp [results,results6,go_sem,r0,r1,r2]) rfl (toldW FR.out (set3 (unbox B2.out) _ _ _))
  | none =>
   have FO:Hid (R=fitO (oI s) (firstK (oB (oI s)) 256 0)):=FH.out
   simp only [outW_none] at cw
   clear FH
   go_enter func6,ntmps6
   go_wp2_with fail
   refine (cw _ (HX.out.below HB.out)).mono ?_
   rintro e w1 ⟨rfl,b1⟩
   have B2:Hid (Below (w.alloc (.cells #[.int .i64 0,.bool false,.int .i64 0] 26)).heap.size (w.alloc (.cells #[.int .i64 0,.bool false,.int .i64 0] 26)) (w1.alloc (.cells #[.int .i64 0,.bool false,.int .i64 0] 26))):=b1.alloc b1.size _
   clear b1 cw HB
   go_wp2_with fail
   go_loopw [23] (fun i wr=>∃ m:Nat,m<=256/\i=.int .i64 m/\Hid (firstK (oB (oI s)) 256 0=firstK (oB (oI s)) (256-m) m)/\Hid (Below (w.alloc (.cells #[.int .i64 0,.bool false,.int .i64 0] 26)).heap.size (w.alloc (.cells #[.int .i64 0,.bool false,.int .i64 0] 26)) wr)) (fun i _=>256-(intOf i).toNat)
   case atStart=>exact ⟨0,Nat.zero_le _,rfl,rfl,B2.out⟩
   case round =>
    clear B2
    obtain ⟨m,hm,rfl,ha,hb⟩:=hrel
    by_cases hlt:m<256
    ·have k1:(m:Int)<256:=by omega
     have HM:Hid (m<256):=hlt
     have c1:=fun w hT=>co w hT (m:Int) (by omega) (by omega)
     obtain ⟨Y,hY⟩ : ∃ Y,oI s (m:Int)=Y:=⟨_,rfl⟩
     have HY:Hid (oI s (m:Int)=Y):=hY
     rw [hY] at c1
     obtain ⟨G,hG⟩ : ∃ G,hole (m:Int) false=G:=⟨_,rfl⟩
     have HG:Hid (hole (m:Int) false=G):=hG
     rw [hG] at c1
     clear hm hlt hY hG
     go_wp2_with fail
     refine (c1 _ (HX.out.below (unbox hb.out))).mono ?_
     cases Y with
     | none =>
      rintro e w2 ⟨rfl,b2⟩
      have BL:Hid (Below (w.alloc (.cells #[.int .i64 0,.bool false,.int .i64 0] 26)).heap.size (w.alloc (.cells #[.int .i64 0,.bool false,.int .i64 0] 26)) w2):=after hb.out b2
      clear b2 c1
      go_wp2_with fail
      go_roundw
      case rel=>exact ⟨m+1,HM.out,by go_num,fk_next HM.out (by unfold oB;rw [HY.out];rfl) ha.out,BL.out⟩
      case measure=>have:=HM.out;simp [intOf];omega
     | some L =>
      rintro e w2 ⟨⟨a,cap,rfl,ho,hl,hx,hzz⟩,b2⟩
      have BL:Hid (Below (w.alloc (.cells #[.int .i64 0,.bool false,.int .i64 0] 26)).heap.size (w.alloc (.cells #[.int .i64 0,.bool false,.int .i64 0] 26)) w2):=after hb.out b2
      have N2:Hid (Nodes w2 a L):=Nodm.nodes_own ho (fun x hx=>Nat.le_trans (hzz x hx) (by decide))
      have FR:Hid (R=⟨(m:Int),false,G,L,true⟩):=(show _=_ from by
       rw [FO.out,fk_hit HM.out (by unfold oB;rw [HY.out];rfl) ha.out]
       show (⟨(m:Int),false,hole (m:Int) false,(oI s (m:Int)).getD [],true⟩ : Fitf.R)=_
       rw [HY.out,HG.out];rfl)
      obtain ⟨len,hlen⟩ : ∃ n,n=L.length:=⟨_,rfl⟩
      have HLN:Hid (len=L.length):=hlen
      rw [<- hlen] at hl |-
      have r0:=box BL.out 0 _ rfl
      have r1:=box BL.out 1 _ rfl
      have r2:=box BL.out 2 _ rfl
      have f0:=fro BL.out 0
      have f1:=fro BL.out 1
      have f2:=fro BL.out 2
      have HNN:Hid (∀ x y z:Value,Nodes (((w2.setCell ⟨w.heap.size,0,none⟩ x).setCell ⟨w.heap.size,1,none⟩ y).setCell ⟨w.heap.size,2,none⟩ z) a L):=fun x y z=>nodes_set3 BL.out ho (fun x hx=>Nat.le_trans (hzz x hx) (by decide)) (by simpa using hb.out.size) x y z
      clear b2 c1 ho hx hzz hlen
      go_wp2
      all_goals exact bodyPost_ret (v:=.tuple #[.agg #[.int .i64 (m:Int),.bool false,.int .i64 0],.string G,.slice a len cap,.bool true]) (by simp [results,results6,go_sem,r0,r1,r2]) rfl (toldO FR.out HLN.out (HNN.out _ _ _) hl (set3 (unbox BL.out) _ _ _))
    ·have HM:Hid (m=256):=by show m=256;omega
     have k1:¬ (m:Int)<256:=by omega
     have FR:Hid (R=r0):=(show _=_ from by
      have h:=ha.out
      rw [HM.out] at h
      rw [FO.out,h];rfl)
     have r0:=box hb.out 0 _ rfl
     have r1:=box hb.out 1 _ rfl
     have r2:=box hb.out 2 _ rfl
     have f0:=fro hb.out 0
     have f1:=fro hb.out 1
     have f2:=fro hb.out 2
     clear hm hlt
     go_wp2
     all_goals exact bodyPost_ret (v:=.tuple #[.agg #[.int .i64 0,.bool false,.int .i64 0],.string ⟨#[]⟩,.slice none 0 0,.bool false]) (by simp [results,results6,go_sem,r0,r1,r2]) rfl (told0 FR.out (set3 (unbox hb.out) _ _ _))
end Fitf
namespace Rinsu
open HoleX (n8 n16 e8 holeT holeP)
open HolI LenX InsX Texi Fits Like Rinst Fitz
def valS (s:ByteArray) (code:Int) (cb:Bool):Int:=if (fitT s (Tmpl.tmplS code cb)).size=0 then 0 else im (fitT s (Tmpl.tmplS code cb))
def flagS (s:ByteArray) (code:Int) (cb:Bool):Bool :=
 if cb=false/\(Tmpl.tmplS code cb).size=0 then false
 else if fits s (Tmpl.tmplS code cb)=false then false
 else (textV code cb (valS s code cb)).toList == s.toList
theorem hp_all:∀ (c:Fin 256) (b:Bool),0<=holeP (Tmpl.tmplS (c.val:Int) b)->(holeP (Tmpl.tmplS (c.val:Int) b)).toNat+(holeT (Tmpl.tmplS (c.val:Int) b)).size<=(Tmpl.tmplS (c.val:Int) b).size:=by decide +kernel
theorem hp_at (code:Int) (cb:Bool) (h0:0<=code) (h1:code<=255):0<=holeP (Tmpl.tmplS code cb)->(holeP (Tmpl.tmplS code cb)).toNat+(holeT (Tmpl.tmplS code cb)).size<=(Tmpl.tmplS code cb).size:=by
 have:=hp_all ⟨code.toNat,by omega⟩ cb
 rwa [show ((⟨code.toNat,by omega⟩ : Fin 256).val:Int)=code by show ((code.toNat:Nat):Int)=code;omega] at this
theorem fitT_le (s T:ByteArray):(fitT s T).size<=s.size:=by
 unfold fitT
 split
 ·exact Nat.zero_le _
 split
 ·simp;omega
 ·exact Nat.zero_le _
end Rinsu
end Go.Proofs.YtbofcepdckpkkaaGreatDoor
