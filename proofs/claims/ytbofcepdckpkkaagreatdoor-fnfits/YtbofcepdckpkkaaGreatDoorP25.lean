import Derived.Test.YtbofcepdckpkkaaGreatDoorP24
set_option linter.all false
set_option maxRecDepth 20000
set_option maxHeartbeats 8000000
open Go.ChangeShapes Go.WideShapes Go.ChangeAt Go.RowKit
open Go.Proofs.Tryz
namespace Go.Proofs.YtbofcepdckpkkaaGreatDoor
namespace Same
open Signed (inB)
open HoleX (n8 n16 e8 holeT holeP)
open HolI LenX InsX Texi Fits Like Rinst Fitz Rinsu
theorem two_all:∀ c:Fin 256,(im (newV n8 (c.val:Int))=(c.val:Int)/\hv (newV n8 (c.val:Int))=(c.val:Int)/\0<(newV n8 (c.val:Int)).size)/\(im (newV e8 (c.val:Int))=(c.val:Int)/\hv (newV e8 (c.val:Int))=(c.val:Int)/\0<(newV e8 (c.val:Int)).size):=by decide +kernel
theorem two_at {v:Int} (h0:0<=v) (h1:v<=255):(im (newV n8 v)=v/\hv (newV n8 v)=v/\0<(newV n8 v).size)/\(im (newV e8 v)=v/\hv (newV e8 v)=v/\0<(newV e8 v).size):=by
 have:=two_all ⟨v.toNat,by omega⟩
 rwa [show ((⟨v.toNat,by omega⟩ : Fin 256).val:Int)=v by show ((v.toNat:Nat):Int)=v;omega] at this
theorem dollar (l:List Int):Lib.hasPrefix (strOfNums (36 :: l)).data.toList minus.data.toList=false:=by
 rw [strOfNums_data,List.map_cons]
 rfl
theorem dollar0 (l:List Int):((strOfNums (36 :: l)).data.getD 0 0).toNat=36:=rfl
theorem four_at {v:Int} (h0:0<=v) (h1:v<=65535):im (newV n16 v)=v/\hv (newV n16 v)=v/\0<(newV n16 v).size:=by
 have hg:(1:Int)<=4/\(4:Int)<=4/\0<=v/\v<=65535/\v / Hex.pw 4=0:=⟨by decide,by decide,h0,h1,by unfold Hex.pw;show v / (16 ^ 4)=0;omega⟩
 have e:newV n16 v=Hex.hexS v 4:=rfl
 obtain ⟨e1,e2⟩:=Hexn.num_hex hg
 rw [e]
 have hd:Hex.hexS v 4=strOfNums (36 :: Hex.digs v (4:Int).toNat):=Hex.hexS_yes hg
 refine ⟨?_,?_,by omega⟩
 ·unfold im
  rw [if_neg (fun h=>by rw [hd,dollar0] at h;exact absurd h.2 (by decide)),e1]
  rfl
 ·have hp:Lib.hasPrefix (Hex.hexS v 4).data.toList minus.data.toList=false:=by rw [hd];exact dollar _
  have ht:(⟨(Lib.trimPrefix (Hex.hexS v 4).data.toList minus.data.toList).toArray⟩ : ByteArray)=Hex.hexS v 4:=by
   unfold Lib.trimPrefix
   rw [if_neg (by rw [hp];decide)]
  unfold hv
  rw [ht,e1,if_neg (by rw [hp];decide)]
  rfl
theorem ok_hole {code:Int} {cb:Bool} {v:Int} (ho:okV code cb v=true) (hh:¬ (hole code cb).size=0):im (newV (hole code cb) v)=v/\hv (newV (hole code cb) v)=v/\0<(newV (hole code cb) v).size:=by
 unfold okV at ho
 split at ho
 ·cases ho
 rcases hole_cases code cb with h|h|h|h
 ·rw [h] at ho |-
  rw [if_neg (by decide)] at ho
  have:=of_decide_eq_true ho
  exact (two_at this.1 this.2).1
 ·rw [h] at ho |-
  rw [if_pos (by decide)] at ho
  have:=of_decide_eq_true ho
  exact four_at this.1 this.2
 ·rw [h] at ho |-
  rw [if_neg (by decide)] at ho
  have:=of_decide_eq_true ho
  exact (two_at this.1 this.2).2
 ·rw [h] at hh
  exact absurd rfl hh
theorem ext_of {X Y:ByteArray} (h:X.data.toList=Y.data.toList):X=Y:=by
 apply ByteArray.ext
 exact Array.ext' h
theorem ex_of (X:ByteArray) (i j:Nat):(X.extract i j).data.toList=(X.data.toList.drop i).take (j-i):=by
 simp only [ByteArray.data_extract,Array.toList_extract,List.extract_eq_take_drop]
theorem len_of (X:ByteArray):X.data.toList.length=X.size:=Array.length_toList
theorem around {s A N Z:ByteArray} (h:s=A ++ N ++ Z):stands s A Z=true/\inner s A Z=N/\s.size=A.size+N.size+Z.size/\s.extract 0 A.size=A/\s.extract (s.size-Z.size) s.size=Z/\s.extract A.size (s.size-Z.size)=N:=by
 have hl:s.data.toList=A.data.toList ++ (N.data.toList ++ Z.data.toList):=by
  rw [h];simp only [ByteArray.data_append,Array.toList_append,List.append_assoc]
 have hz:s.size=A.size+N.size+Z.size:=by
  rw [<- len_of s,hl,List.length_append,List.length_append,len_of,len_of,len_of];omega
 have hp:Lib.hasPrefix s.data.toList A.data.toList=true:=by
  unfold Lib.hasPrefix
  rw [hl,List.isPrefixOf_iff_prefix]
  exact List.prefix_append _ _
 have ht:Lib.trimPrefix s.data.toList A.data.toList=N.data.toList ++ Z.data.toList:=by
  unfold Lib.trimPrefix
  rw [if_pos hp,hl,List.drop_left]
 have hq:Lib.hasSuffix (N.data.toList ++ Z.data.toList) Z.data.toList=true:=by
  unfold Lib.hasSuffix
  rw [List.isSuffixOf_iff_suffix]
  exact List.suffix_append _ _
 have hu:Lib.trimSuffix (N.data.toList ++ Z.data.toList) Z.data.toList=N.data.toList:=by
  unfold Lib.trimSuffix
  rw [if_pos hq,List.length_append,Nat.add_sub_cancel,List.take_left]
 refine ⟨?_,?_,hz,?_,?_,?_⟩
 ·unfold stands
  rw [ht,hp,hq];rfl
 ·unfold inner
  rw [ht,hu]
 ·apply ext_of
  rw [ex_of,hl,List.drop_zero,Nat.sub_zero,<- len_of A,List.take_left]
 ·apply ext_of
  rw [ex_of,hl,hz,show A.size+N.size+Z.size-Z.size=A.size+N.size by omega,<- List.append_assoc]
  rw [show A.size+N.size=(A.data.toList ++ N.data.toList).length by rw [List.length_append,len_of,len_of],List.drop_left]
  exact List.take_of_length_le (by rw [len_of,List.length_append,len_of,len_of];omega)
 ·apply ext_of
  rw [ex_of,hl,hz,show A.size+N.size+Z.size-Z.size-A.size=N.size by omega,<- len_of A,List.drop_left,<- len_of N,List.take_left]
theorem eq_of_lists {X Y:ByteArray} (h:(X.toList == Y.toList)=true):X=Y:=by
 have:=eq_of_beq h
 rw [ByteArray.toList_eq,ByteArray.toList_eq] at this
 exact ext_of this
theorem lists_self (X:ByteArray):(X.toList == X.toList)=true:=beq_self_eq_true _
theorem sign_all:∀ (c:Fin 256) (b:Bool),((hole (c.val:Int) b).size=0->holeP (Tmpl.tmplS (c.val:Int) b)<0)/\(¬ (hole (c.val:Int) b).size=0->0<=holeP (Tmpl.tmplS (c.val:Int) b)/\¬ (Tmpl.tmplS (c.val:Int) b).size=0):=by decide +kernel
theorem sign_at (code:Int) (cb:Bool) (h0:0<=code) (h1:code<=255):((hole code cb).size=0->holeP (Tmpl.tmplS code cb)<0)/\(¬ (hole code cb).size=0->0<=holeP (Tmpl.tmplS code cb)/\¬ (Tmpl.tmplS code cb).size=0):=by
 have:=sign_all ⟨code.toNat,by omega⟩ cb
 rwa [show ((⟨code.toNat,by omega⟩ : Fin 256).val:Int)=code by show ((code.toNat:Nat):Int)=code;omega] at this
theorem key {s:ByteArray} {code:Int} {cb:Bool} {v:Int} (hs:¬ s.size=0) (h0:0<=code) (h1:code<=255) (hh:¬ (hole code cb).size=0) (hx:textV code cb v=s):flagI s code cb=true/\valI s code cb=v/\flagS s code cb=true/\valS s code cb=v:=by
 have ho:okV code cb v=true:=by
  cases hb:okV code cb v with
  | true=>rfl
  | false =>
   exfalso
   apply hs
   rw [<- hx]
   unfold textV
   rw [if_pos hb]
   rfl
 obtain ⟨hp,hT⟩:=(sign_at code cb h0 h1).2 hh
 have hpp:=hp_at code cb h0 h1 hp
 obtain ⟨k1,k2,k3⟩:=ok_hole ho hh
 have hs1:s=Like.ahead code cb ++ newV (hole code cb) v ++ behind code cb:=by
  rw [<- hx]
  unfold textV
  rw [if_neg (by rw [ho];decide),if_neg hh]
  rfl
 obtain ⟨a1,a2,a3,a4,a5,a6⟩:=around hs1
 have hA:(Like.ahead code cb).size=(holeP (Tmpl.tmplS code cb)).toNat:=by
  unfold Like.ahead
  rw [ByteArray.size_extract]
  omega
 have hZ:tailT (Tmpl.tmplS code cb)=behind code cb:=rfl
 have hf:fits s (Tmpl.tmplS code cb)=true:=by
  unfold fits
  rw [hZ,if_neg (by omega),if_neg (by omega),<- hA,a4,a5,if_neg (by
   rw [hA]
   rw [show (Tmpl.tmplS code cb).extract 0 (holeP (Tmpl.tmplS code cb)).toNat=Like.ahead code cb from rfl,lists_self]
   decide)]
  exact lists_self _
 have hft:fitT s (Tmpl.tmplS code cb)=newV (hole code cb) v:=by
  unfold fitT
  rw [if_neg (by omega),if_pos hf,hZ,<- hA,a6]
 have hvI:hv (inner s (Like.ahead code cb) (behind code cb))=v:=by rw [a2,k2]
 have hvS:valS s code cb=v:=by
  unfold valS
  rw [hft,if_neg (by omega),k1]
 refine ⟨?_,?_,?_,hvS⟩
 ·unfold flagI
  rw [if_neg hh,a1,hvI,hx]
  exact lists_self _
 ·unfold valI
  rw [if_neg hh,if_pos a1,hvI]
 ·unfold flagS
  rw [if_neg (fun h=>hT h.2),if_neg (by rw [hf];decide),hvS,hx]
  exact lists_self _
theorem same (s:ByteArray) (code:Int) (cb:Bool) (hs:¬ s.size=0) (h0:0<=code) (h1:code<=255):flagI s code cb=flagS s code cb/\(flagI s code cb=true->valI s code cb=valS s code cb):=by
 by_cases hh:(hole code cb).size=0
 ·have hn:=(sign_at code cb h0 h1).1 hh
  have eI:flagI s code cb=(s.toList == (Tmpl.tmplS code cb).toList):=by unfold flagI;rw [if_pos hh]
  have vI:valI s code cb=0:=by unfold valI;rw [if_pos hh]
  have eF:fits s (Tmpl.tmplS code cb)=(s.toList == (Tmpl.tmplS code cb).toList):=by unfold fits;rw [if_pos hn]
  have eT:fitT s (Tmpl.tmplS code cb)=⟨#[]⟩:=by unfold fitT;rw [if_pos hn]
  have vS:valS s code cb=0:=by unfold valS;rw [eT];rfl
  refine ⟨?_,fun _=>by rw [vI,vS]⟩
  rw [eI]
  cases hb:s.toList == (Tmpl.tmplS code cb).toList with
  | false =>
   unfold flagS
   rw [eF,hb]
   split <;> rfl
  | true =>
   have he:=eq_of_lists hb
   have hT:¬ (Tmpl.tmplS code cb).size=0:=by rw [<- he];exact hs
   have ho:okV code cb 0=true:=by
    unfold okV
    rw [if_neg (by unfold none?;rw [show inB code 0 255=true from decide_eq_true ⟨h0,h1⟩];simpa using hT),if_pos hh]
    rfl
   have hx:textV code cb 0=s:=by
    unfold textV
    rw [if_neg (by rw [ho];decide),if_pos hh,he]
   unfold flagS
   rw [if_neg (fun h=>hT h.2),eF,hb,if_neg (by decide),vS,hx]
   exact (lists_self _).symm
 ·rcases Bool.eq_false_or_eq_true (flagI s code cb) with hI|hI
  ·have hx:textV code cb (hv (inner s (Like.ahead code cb) (behind code cb)))=s:=by
    unfold flagI at hI
    rw [if_neg hh,Bool.and_eq_true] at hI
    exact eq_of_lists hI.2
   obtain ⟨b1,b2,b3,b4⟩:=key hs h0 h1 hh hx
   exact ⟨hI.trans b3.symm,fun _=>b2.trans b4.symm⟩
  ·refine ⟨?_,fun h=>absurd (hI.symm.trans h) (by decide)⟩
   rcases Bool.eq_false_or_eq_true (flagS s code cb) with hS|hS
   ·exfalso
    have hx:textV code cb (valS s code cb)=s:=by
     unfold flagS at hS
     split at hS
     ·cases hS
     split at hS
     ·cases hS
     exact eq_of_lists hS
    exact absurd (hI.symm.trans (key hs h0 h1 hh hx).1) (by decide)
   ·exact hI.trans hS.symm
theorem code_bd (k:Nat):0<=codeK k/\codeK k<=255:=by unfold codeK;omega
end Same
namespace Fitg
open HoleX (n8 n16 e8 holeT holeP)
open Cmxd (outC compV)
open HolI LenX InsX Texi Fits Like Fitz Rinst Fitc Fitd Fite Fitf
open Stepx (Nodes exprB)
def oS (s:ByteArray) (code:Int):Option (List Stepx.Node) :=
 if (hole code false).size=0 then none else if fits s (Tmpl.tmplS code false)=true then hexV 30 (fitT s (Tmpl.tmplS code false)) else none
theorem cond_w {s:ByteArray} {k:Nat} (h:(T k).toList.isEmpty=true):wK s k=false:=by
 cases hw:wK s k with
 | false=>rfl
 | true =>
  exfalso
  unfold wK at hw
  simp only [Bool.and_eq_true,Bool.not_eq_true',decide_eq_false_iff_not] at hw
  have e:=eq_of_lists hw.2.2
  apply hw.1
  rw [<- e]
  rw [ByteArray.toList_eq,List.isEmpty_iff_length_eq_zero,Array.length_toList] at h
  exact h
theorem cond_h {s:ByteArray} {k:Nat} (h:¬ holeP (T k)<0):wK s k=false:=by
 have hh:¬ (hK k).size=0:=fun e=>h ((Same.sign_at (codeK k) (cbK k) (code_bd k).1 (code_bd k).2).1 e)
 unfold wK
 rw [decide_eq_false hh]
 cases decide (s.size=0) <;> rfl
theorem cond_y {s:ByteArray} {k:Nat} (h0:(T k).toList.isEmpty=false) (h:holeP (T k)<0):wK s k=((T k).toList == s.toList):=by
 have hh:(hK k).size=0:=by
  apply Classical.byContradiction
  intro e
  have:=((Same.sign_at (codeK k) (cbK k) (code_bd k).1 (code_bd k).2).2 e).1
  have e2:holeP (T k)=holeP (Tmpl.tmplS (codeK k) (cbK k)):=rfl
  omega
 unfold wK
 rw [decide_eq_true hh]
 cases hq:(T k).toList == s.toList with
 | false=>cases decide (s.size=0) <;> rfl
 | true =>
  have e:=eq_of_lists hq
  have hs:¬ s.size=0:=fun e2=>by
   rw [<- e] at e2
   rw [ByteArray.toList_eq] at h0
   rw [List.isEmpty_iff_length_eq_zero.2 (by rw [Array.length_toList];exact e2)] at h0
   cases h0
  rw [decide_eq_false hs];rfl
theorem specFit_any (s:ByteArray) (w:World) (hs:s.size<=1048576) :
  Calls prog 7 #[.string s] w (Fitf.Told (fitG (oS s) s) w):=by
 have HB:Hid (Below w.heap.size w (w.alloc (.cells #[.int .i64 0,.bool false,.int .i64 0] 26))):=zAl _ _
 by_cases hz:80<s.size
 ·have HN:Hid (fitG (oS s) s=r0):=if_pos hz
  have hz':(80:Int)<(s.size:Int):=by omega
  go_enter func7,ntmps7
  go_wp2
  exact bodyPost_ret (v:=.tuple #[.agg #[.int .i64 0,.bool false,.int .i64 0],.string ⟨#[]⟩,.slice none 0 0,.bool false]) (by simp [results,results7,go_sem]) rfl (told0 HN.out HB.out)
 ·have hz':¬ (80:Int)<(s.size:Int):=by omega
  have FG:fitG (oS s) s=fitW (fitO (oS s) (firstK (oB (oS s)) 256 0)) (firstK (wK s) 512 0):=if_neg hz
  generalize hR:fitG (oS s) s=R at FG |-
  have FH:Hid (R=fitW (fitO (oS s) (firstK (oB (oS s)) 256 0)) (firstK (wK s) 512 0)):=FG
  have HS:Hid (s.size<=80):=(show s.size<=80 from by omega)
  have B1:Hid (Below (w.alloc (.cells #[.int .i64 0,.bool false,.int .i64 0] 26)).heap.size (w.alloc (.cells #[.int .i64 0,.bool false,.int .i64 0] 26)) (w.alloc (.cells #[.int .i64 0,.bool false,.int .i64 0] 26))):=Below.refl _ _
  clear hR FG hz HB
  go_enter func7,ntmps7
  go_wp2_with fail
  go_loopw [6] (fun i wr=>∃ k:Nat,k<=512/\i=.int .i64 k/\Hid (firstK (wK s) 512 0=firstK (wK s) (512-k) k)/\Hid (Below (w.alloc (.cells #[.int .i64 0,.bool false,.int .i64 0] 26)).heap.size (w.alloc (.cells #[.int .i64 0,.bool false,.int .i64 0] 26)) wr)) (fun i _=>512-(intOf i).toNat)
  case atStart=>exact ⟨0,Nat.zero_le _,rfl,rfl,B1.out⟩
  case round =>
   clear B1
   obtain ⟨k,hk,rfl,ha,hb⟩:=hrel
   by_cases hlt:k<512
   ·have HM:Hid (k<512):=hlt
    have k1:(k:Int)<512:=by omega
    obtain ⟨C,hC⟩ : ∃ C:Int,C=codeK k:=⟨_,rfl⟩
    have c0:0<=C:=by rw [hC];exact (code_bd k).1
    have c1:C<=255:=by rw [hC];exact (code_bd k).2
    have k2:(k:Int).tmod 256=C:=by rw [hC,Int.tmod_eq_emod_of_nonneg (by omega)];unfold codeK;omega
    obtain ⟨cb,hcb⟩ : ∃ cb,cbK k=cb:=⟨_,rfl⟩
    have k4:decide ((256:Int)<=(k:Int))=cb:=by rw [<- hcb];unfold cbK;exact decide_eq_decide.2 (by omega)
    have HR:Hid (codeK k=C/\cbK k=cb):=⟨hC.symm,hcb⟩
    have HTk:Hid (T k=Tmpl.tmplS C cb):=(show _=_ from by unfold T;rw [HR.out.1,HR.out.2])
    have hz2:=Leng.tmpl_le C cb c0 c1
    have ct:=fun w=>Tmpl.template_any C cb w c0 c1
    have ch:=fun w=>HoleX.hole_any (Tmpl.tmplS C cb) w (by omega)
    unfold HoleX.ret at ch
    have BK:Hid (Below (wr.alloc (.cells #[.int .i64 C,.bool cb,.int .i64 0] 26)).heap.size (wr.alloc (.cells #[.int .i64 C,.bool cb,.int .i64 0] 26)) (wr.alloc (.cells #[.int .i64 C,.bool cb,.int .i64 0] 26))):=Below.refl _ _
    have BA:Hid (Below (w.alloc (.cells #[.int .i64 0,.bool false,.int .i64 0] 26)).heap.size (w.alloc (.cells #[.int .i64 0,.bool false,.int .i64 0] 26)) (wr.alloc (.cells #[.int .i64 C,.bool cb,.int .i64 0] 26))):=hb.out.alloc hb.out.size _
    clear hC hcb hk hlt c0 c1 hz2
    generalize Tmpl.tmplS C cb=V at ct ch HTk
    generalize hP:holeP V=P at ch
    have HP:Hid (holeP V=P):=hP
    generalize holeT V=G at ch
    clear hP
    go_wp2_with fail
    refine (ct _).mono ?_
    rintro e w1 ⟨rfl,b⟩
    have BK:Hid (Below _ _ w1):=after BK.out b
    clear b ct
    have i0:=box BK.out 0 _ rfl
    have i1:=box BK.out 1 _ rfl
    have i2:=box BK.out 2 _ rfl
    go_wp2_with fail
    refine (ch _).mono ?_
    rintro e w2 ⟨rfl,b⟩
    have BK:Hid (Below _ _ w2):=after BK.out b
    have BL:Hid (Below (w.alloc (.cells #[.int .i64 0,.bool false,.int .i64 0] 26)).heap.size (w.alloc (.cells #[.int .i64 0,.bool false,.int .i64 0] 26)) w2):=after BA.out BK.out
    clear b ch i0 i1 i2
    have i0:=box BK.out 0 _ rfl
    have i1:=box BK.out 1 _ rfl
    have i2:=box BK.out 2 _ rfl
    cases hE:V.toList.isEmpty with
    | true =>
     have HF:Hid (wK s k=false):=cond_w (by rw [HTk.out];exact hE)
     go_wp2_with fail
     all_goals
      go_roundw
     case rel=>exact ⟨k+1,HM.out,by go_num,firstK_next (k:=k) HM.out HF.out ha.out,BL.out⟩
     case measure=>have:=HM.out;simp [intOf];omega
    | false =>
     by_cases hp:P<0
     ·have HF:Hid (wK s k=(V.toList == s.toList)):=(show _=_ from by
       have h:=cond_y (s:=s) (k:=k) (by rw [HTk.out];exact hE) (by rw [HTk.out,HP.out];exact hp)
       rw [HTk.out] at h;exact h)
      have dp:decide (P<0)=true:=decide_eq_true hp
      cases hq:V.toList == s.toList with
      | false =>
       have HG:Hid (wK s k=false):=HF.out.trans hq
       go_wp2_with fail
       all_goals
        go_roundw
       case rel=>exact ⟨k+1,HM.out,by go_num,firstK_next (k:=k) HM.out HG.out ha.out,BL.out⟩
       case measure=>have:=HM.out;simp [intOf];omega
      | true =>
       have HG:Hid (wK s k=true):=HF.out.trans hq
       have FR:Hid (R=⟨C,cb,⟨#[]⟩,[],true⟩):=(show _=_ from by
        rw [FH.out,firstK_hit (k:=k) HM.out HG.out ha.out]
        show rW k=_
        unfold rW
        rw [HR.out.1,HR.out.2])
       have r0:=box BL.out 0 _ rfl
       have r1:=box BL.out 1 _ rfl
       have r2:=box BL.out 2 _ rfl
       have f0:=fro BL.out 0
       have f1:=fro BL.out 1
       have f2:=fro BL.out 2
       go_wp2
       all_goals exact bodyPost_ret (v:=.tuple #[.agg #[.int .i64 C,.bool cb,.int .i64 0],.string ⟨#[]⟩,.slice none 0 0,.bool true]) (by simp [results,results7,go_sem,r0,r1,r2]) rfl (toldW FR.out (set3 (unbox BL.out) _ _ _))
     ·have HF:Hid (wK s k=false):=cond_h (by rw [HTk.out,HP.out];exact hp)
      have dp:decide (P<0)=false:=decide_eq_false hp
      go_wp2_with fail
      all_goals
       go_roundw
      case rel=>exact ⟨k+1,HM.out,by go_num,firstK_next (k:=k) HM.out HF.out ha.out,BL.out⟩
      case measure=>have:=HM.out;simp [intOf];omega
   ·have k1:¬ (k:Int)<512:=by omega
    have FO:Hid (R=fitO (oS s) (firstK (oB (oS s)) 256 0)):=(show _=_ from by
     have h:=ha.out
     rw [show k=512 by omega] at h
     rw [FH.out,h];rfl)
    have B2:Hid (Below (w.alloc (.cells #[.int .i64 0,.bool false,.int .i64 0] 26)).heap.size (w.alloc (.cells #[.int .i64 0,.bool false,.int .i64 0] 26)) wr):=hb.out
    clear ha hb hk hlt FH
    go_wp2_with fail
    go_loopw [11] (fun i wr=>∃ m:Nat,m<=256/\i=.int .i64 m/\Hid (firstK (oB (oS s)) 256 0=firstK (oB (oS s)) (256-m) m)/\Hid (Below (w.alloc (.cells #[.int .i64 0,.bool false,.int .i64 0] 26)).heap.size (w.alloc (.cells #[.int .i64 0,.bool false,.int .i64 0] 26)) wr)) (fun i _=>256-(intOf i).toNat)
    case atStart=>exact ⟨0,Nat.zero_le _,rfl,rfl,B2.out⟩
    case round =>
     clear B2 k1
     obtain ⟨m,hm,rfl,ha,hb⟩:=hrel
     by_cases hlt:m<256
     ·have k1:(m:Int)<256:=by omega
      have HM:Hid (m<256):=hlt
      have c0:(0:Int)<=(m:Int):=by omega
      have c1:(m:Int)<=255:=by omega
      have hz2:=Leng.tmpl_le (m:Int) false c0 c1
      have ct:=fun w=>Tmpl.template_any (m:Int) false w c0 c1
      have ch:=fun w=>HoleX.hole_any (Tmpl.tmplS (m:Int) false) w (by omega)
      unfold HoleX.ret at ch
      have hpp:=Rinsu.hp_at (m:Int) false c0 c1
      have cf:=fun w=>fits_any s (Tmpl.tmplS (m:Int) false) w (by have:=HS.out;omega) (by omega) hpp
      have hle:=Rinsu.fitT_le s (Tmpl.tmplS (m:Int) false)
      have ce:=fun w=>l10Expr_any (fitT s (Tmpl.tmplS (m:Int) false)) w (by have:=HS.out;omega)
      have sg:=Same.sign_at (m:Int) false c0 c1
      have HY:oS s (m:Int)=if (hole (m:Int) false).size=0 then none else if fits s (Tmpl.tmplS (m:Int) false)=true then hexV 30 (fitT s (Tmpl.tmplS (m:Int) false)) else none:=rfl
      have eh:holeT (Tmpl.tmplS (m:Int) false)=hole (m:Int) false:=rfl
      rw [eh] at ch
      obtain ⟨Y,hY⟩ : ∃ Y,oS s (m:Int)=Y:=⟨_,rfl⟩
      have HYh:Hid (oS s (m:Int)=Y):=hY
      rw [hY] at HY
      obtain ⟨G,hG⟩ : ∃ G,hole (m:Int) false=G:=⟨_,rfl⟩
      have HG:Hid (hole (m:Int) false=G):=hG
      rw [hG] at HY ch sg
      clear hm hlt hY hG hpp hle hz2 eh c0 c1
      generalize hfi:fits s (Tmpl.tmplS (m:Int) false)=fi at cf HY
      generalize fitT s (Tmpl.tmplS (m:Int) false)=I at cf HY ce
      clear hfi
      generalize Tmpl.tmplS (m:Int) false=V at ct ch cf sg
      generalize holeP V=P at ch sg
      go_wp2_with fail
      refine (ct _).mono ?_
      rintro e w1 ⟨rfl,b⟩
      have B1:Hid (Below (w.alloc (.cells #[.int .i64 0,.bool false,.int .i64 0] 26)).heap.size (w.alloc (.cells #[.int .i64 0,.bool false,.int .i64 0] 26)) w1):=after hb.out b
      clear b ct
      go_wp2_with fail
      refine (ch _).mono ?_
      rintro e w2 ⟨rfl,b⟩
      have B2:Hid (Below (w.alloc (.cells #[.int .i64 0,.bool false,.int .i64 0] 26)).heap.size (w.alloc (.cells #[.int .i64 0,.bool false,.int .i64 0] 26)) w2):=after B1.out b
      clear b ch B1
      by_cases hh:G.size=0
      ·have hp:P<0:=sg.1 hh
       have dp:decide (P<0)=true:=decide_eq_true hp
       have HN:Hid (oB (oS s) m=false):=(show _=_ from by
        unfold oB
        rw [HYh.out,HY,if_pos hh];rfl)
       clear HY
       cases hE:V.toList.isEmpty with
       | true =>
        go_wp2_with fail
        all_goals
         go_roundw
        case rel=>exact ⟨m+1,HM.out,by go_num,fk_next HM.out HN.out ha.out,B2.out⟩
        case measure=>have:=HM.out;simp [intOf];omega
       | false =>
        go_wp2_with fail
        all_goals
         go_roundw
        case rel=>exact ⟨m+1,HM.out,by go_num,fk_next HM.out HN.out ha.out,B2.out⟩
        case measure=>have:=HM.out;simp [intOf];omega
      ·obtain ⟨hp,hV⟩:=sg.2 hh
       have dp:decide (P<0)=false:=decide_eq_false (by omega)
       have hE:=Leng.empty_no hV
       rw [if_neg hh] at HY
       clear sg hV hh hp
       go_wp2_with fail
       refine (cf _).mono ?_
       rintro e w3 ⟨rfl,b⟩
       have B3:Hid (Below (w.alloc (.cells #[.int .i64 0,.bool false,.int .i64 0] 26)).heap.size (w.alloc (.cells #[.int .i64 0,.bool false,.int .i64 0] 26)) w3):=after B2.out b
       clear b cf B2
       cases fi with
       | false =>
        have HN:Hid (oB (oS s) m=false):=(show _=_ from by
         unfold oB
         rw [HYh.out,HY];rfl)
        clear HY
        go_wp2_with fail
        all_goals
         go_roundw
        case rel=>exact ⟨m+1,HM.out,by go_num,fk_next HM.out HN.out ha.out,B3.out⟩
        case measure=>have:=HM.out;simp [intOf];omega
       | true =>
        have HY2:Y=hexV 30 I:=HY
        rw [<- HY2] at ce
        clear HY HY2
        go_wp2_with fail
        refine (ce _).mono ?_
        cases Y with
        | none =>
         rintro e w4 ⟨rfl,b⟩
         have B4:Hid (Below (w.alloc (.cells #[.int .i64 0,.bool false,.int .i64 0] 26)).heap.size (w.alloc (.cells #[.int .i64 0,.bool false,.int .i64 0] 26)) w4):=after B3.out b
         clear b ce B3
         go_wp2_with fail
         all_goals
          go_roundw
         case rel=>exact ⟨m+1,HM.out,by go_num,fk_next HM.out (by unfold oB;rw [HYh.out];rfl) ha.out,B4.out⟩
         case measure=>have:=HM.out;simp [intOf];omega
        | some L =>
         rintro e w4 ⟨⟨a,cap,rfl,ho,hl,hx,hzz⟩,b⟩
         have BL:Hid (Below (w.alloc (.cells #[.int .i64 0,.bool false,.int .i64 0] 26)).heap.size (w.alloc (.cells #[.int .i64 0,.bool false,.int .i64 0] 26)) w4):=after B3.out b
         have FR:Hid (R=⟨(m:Int),false,G,L,true⟩):=(show _=_ from by
          rw [FO.out,fk_hit HM.out (by unfold oB;rw [HYh.out];rfl) ha.out]
          show (⟨(m:Int),false,hole (m:Int) false,(oS s (m:Int)).getD [],true⟩ : Fitf.R)=_
          rw [HYh.out,HG.out];rfl)
         obtain ⟨len,hlen⟩ : ∃ n,n=L.length:=⟨_,rfl⟩
         have HLN:Hid (len=L.length):=hlen
         rw [<- hlen] at hl |-
         have r0:=box BL.out 0 _ rfl
         have r1:=box BL.out 1 _ rfl
         have r2:=box BL.out 2 _ rfl
         have f0:=fro BL.out 0
         have f1:=fro BL.out 1
         have f2:=fro BL.out 2
         have HNN:Hid (∀ x y z:Value,Nodes (((w4.setCell ⟨w.heap.size,0,none⟩ x).setCell ⟨w.heap.size,1,none⟩ y).setCell ⟨w.heap.size,2,none⟩ z) a L):=fun x y z=>nodes_set3 BL.out ho (fun x hx=>Nat.le_trans (hzz x hx) (by decide)) (by simpa using B3.out.size) x y z
         clear b ce ho hx hzz hlen B3
         go_wp2
         all_goals exact bodyPost_ret (v:=.tuple #[.agg #[.int .i64 (m:Int),.bool false,.int .i64 0],.string G,.slice a len cap,.bool true]) (by simp [results,results7,go_sem,r0,r1,r2]) rfl (toldO FR.out HLN.out (HNN.out _ _ _) hl (set3 (unbox BL.out) _ _ _))
     ·have HM:Hid (m=256):=by show m=256;omega
      have k1:¬ (m:Int)<256:=by omega
      have FR:Hid (R=Fitf.r0):=(show _=_ from by
       have h:=ha.out
       rw [HM.out] at h
       rw [FO.out,h];rfl)
      have r0:=box hb.out 0 _ rfl
      have r1:=box hb.out 1 _ rfl
      have r2:=box hb.out 2 _ rfl
      have f0:=fro hb.out 0
      have f1:=fro hb.out 1
      have f2:=fro hb.out 2
      clear hm hlt
      go_wp2
      all_goals exact bodyPost_ret (v:=.tuple #[.agg #[.int .i64 0,.bool false,.int .i64 0],.string ⟨#[]⟩,.slice none 0 0,.bool false]) (by simp [results,results7,go_sem,r0,r1,r2]) rfl (told0 FR.out (set3 (unbox hb.out) _ _ _))
end Fitg
namespace Fith
open HoleX (n8 n16 e8 holeT holeP)
open Cmxd (compV)
open HolI LenX InsX Texi Fits Fitz Rinst Fitc Fitd Fite Fitf Fitg
theorem comp_same {t:ByteArray} (h:Cmps.sz t<30):compV 31 t=compV 30 t:=by
 unfold compV
 rw [Prsm.comp_more (k:=30) (show Prsm.sp t.data.toList<30 from h)]
theorem ext_of {X Y:ByteArray} (h:X.data.toList=Y.data.toList):X=Y:=ByteArray.ext (Array.ext' h)
theorem stand_split {s A Z:ByteArray} (h:stands s A Z=true):s=A ++ inner s A Z ++ Z:=by
 unfold stands at h
 rw [Bool.and_eq_true] at h
 obtain ⟨h1,h2⟩:=h
 have h1':A.data.toList <+: s.data.toList:=List.isPrefixOf_iff_prefix.1 h1
 obtain ⟨r,hr⟩:=h1'
 have ht:Lib.trimPrefix s.data.toList A.data.toList=r:=by
  unfold Lib.trimPrefix
  rw [if_pos h1,<- hr,List.drop_left]
 rw [ht] at h2
 have h2':Z.data.toList <:+ r:=List.isSuffixOf_iff_suffix.1 h2
 obtain ⟨q,hq⟩:=h2'
 have hu:Lib.trimSuffix r Z.data.toList=q:=by
  unfold Lib.trimSuffix
  rw [if_pos h2,<- hq,List.length_append,Nat.add_sub_cancel,List.take_left]
 apply ext_of
 unfold inner
 rw [ht,hu]
 simp only [ByteArray.data_append,Array.toList_append,List.append_assoc]
 rw [hq,hr]
theorem ahead_size {code:Int} (h0:0<=code) (h1:code<=255) (hh:¬ (hole code false).size=0):(Like.ahead code false).size=(holeP (Tmpl.tmplS code false)).toNat:=by
 have hp:=((Same.sign_at code false h0 h1).2 hh).1
 have hpp:=Rinsu.hp_at code false h0 h1 hp
 unfold Like.ahead
 rw [ByteArray.size_extract]
 omega
theorem split_fits {s N:ByteArray} {code:Int} (h0:0<=code) (h1:code<=255) (hh:¬ (hole code false).size=0) (hN:0<N.size) (h:s=Like.ahead code false ++ N ++ Like.behind code false) :
  fits s (Tmpl.tmplS code false)=true/\fitT s (Tmpl.tmplS code false)=N:=by
 have hp:=((Same.sign_at code false h0 h1).2 hh).1
 obtain ⟨a1,a2,a3,a4,a5,a6⟩:=Same.around h
 have hA:=ahead_size h0 h1 hh
 have hZ:tailT (Tmpl.tmplS code false)=Like.behind code false:=rfl
 have hf:fits s (Tmpl.tmplS code false)=true:=by
  unfold fits
  rw [hZ,if_neg (by omega),if_neg (by omega),<- hA,a4,a5,if_neg (by
   rw [hA]
   rw [show (Tmpl.tmplS code false).extract 0 (holeP (Tmpl.tmplS code false)).toNat=Like.ahead code false from rfl,Same.lists_self]
   decide)]
  exact Same.lists_self _
 refine ⟨hf,?_⟩
 unfold fitT
 rw [if_neg (by omega),if_pos hf,hZ,<- hA,a6]
theorem cat_ext {s A Z:ByteArray} (h1:s.extract 0 A.size=A) (h2:s.extract (s.size-Z.size) s.size=Z) (h3:A.size+Z.size<=s.size):s=A ++ s.extract A.size (s.size-Z.size) ++ Z:=by
 conv=>lhs;rw [show s=s.extract 0 s.size from (ByteArray.extract_zero_size).symm]
 conv=>rhs;rw [<- h1]
 apply ext_of
 have e:s.extract (s.size-Z.size) s.size=Z:=h2
 rw [show ((s.extract 0 A.size ++ s.extract (s.extract 0 A.size).size (s.size-Z.size)) ++ Z)=((s.extract 0 A.size ++ s.extract A.size (s.size-Z.size)) ++ s.extract (s.size-Z.size) s.size) from by rw [h1,e]]
 simp only [ByteArray.data_append,Array.toList_append,ByteArray.data_extract,Array.toList_extract,List.extract_eq_take_drop]
 have l:s.data.toList.length=s.size:=rfl
 rw [List.drop_zero,Nat.sub_zero,Nat.sub_zero,List.take_of_length_le (by omega)]
 have e1:(s.data.toList.drop A.size).take (s.size-Z.size-A.size) ++ (s.data.toList.drop (s.size-Z.size)).take (s.size-(s.size-Z.size))=s.data.toList.drop A.size:=by
  rw [List.take_of_length_le (l:=s.data.toList.drop (s.size-Z.size)) (by rw [List.length_drop];omega)]
  have d:s.data.toList.drop (s.size-Z.size)=(s.data.toList.drop A.size).drop (s.size-Z.size-A.size):=by
   rw [List.drop_drop];congr 1;omega
  rw [d,List.take_append_drop]
 rw [List.append_assoc,e1,List.take_append_drop]
theorem fits_split {s:ByteArray} {code:Int} (h0:0<=code) (h1:code<=255) (hh:¬ (hole code false).size=0) (h:fits s (Tmpl.tmplS code false)=true) :
  s=Like.ahead code false ++ fitT s (Tmpl.tmplS code false) ++ Like.behind code false:=by
 have hp:=((Same.sign_at code false h0 h1).2 hh).1
 have hA:=ahead_size h0 h1 hh
 have hZ:tailT (Tmpl.tmplS code false)=Like.behind code false:=rfl
 have hT:fitT s (Tmpl.tmplS code false)=s.extract (Like.ahead code false).size (s.size-(Like.behind code false).size):=by
  unfold fitT
  rw [if_neg (by omega),if_pos h,hZ,hA]
 unfold fits at h
 rw [hZ,if_neg (by omega)] at h
 split at h
 ·cases h
 split at h
 ·cases h
 rename_i hl he
 have he:((s.extract 0 (holeP (Tmpl.tmplS code false)).toNat).toList == ((Tmpl.tmplS code false).extract 0 (holeP (Tmpl.tmplS code false)).toNat).toList)=true:=by simpa using he
 have e1:=Fite.eq_of_lists he
 have e2:=Fite.eq_of_lists h
 rw [hT]
 refine cat_ext ?_ e2 (by omega)
 rw [hA]
 exact e1
theorem hex_empty {N:ByteArray} (h:N.size=0) (n:Nat):hexV n N=none:=by
 have e:N=⟨#[]⟩:=ByteArray.ext (Array.eq_empty_of_size_eq_zero h)
 subst e
 have c:compV n ⟨#[]⟩=none:=by
  unfold compV
  rw [if_neg (by decide)]
  show Prsp.comp n []=none
  match n with
  | 0=>rfl
  | n+1 =>
   unfold Prsp.comp
   rw [Prsp.lev_succ,Prsp.val_succ]
   rfl
 unfold hexV
 rw [c];rfl
theorem same_o {s:ByteArray} (hz:Cmps.sz s<30) {code:Int} (h0:0<=code) (h1:code<=255):oI s code=oS s code:=by
 unfold oI oS
 by_cases hh:(hole code false).size=0
 ·rw [if_pos hh,if_pos hh]
 rw [if_neg hh,if_neg hh]
 cases hf:fits s (Tmpl.tmplS code false) with
 | true =>
  have hs:=fits_split h0 h1 hh hf
  obtain ⟨a1,a2,_⟩:=Same.around hs
  rw [if_pos a1,a2,if_pos rfl]
  unfold hexV
  rw [comp_same (by
   have e:Cmps.sz s=Cmps.sz (Like.ahead code false)+Cmps.sz (fitT s (Tmpl.tmplS code false))+Cmps.sz (Like.behind code false):=by
    conv=>lhs;rw [hs]
    rw [Cmps.sz_app,Cmps.sz_app]
   omega)]
 | false =>
  refine Eq.trans ?_ (if_neg (by decide)).symm
  split
  ·rename_i hst
   have hs:=stand_split hst
   by_cases hN:0<(inner s (Like.ahead code false) (Like.behind code false)).size
   ·have:=(split_fits h0 h1 hh hN hs).1
    rw [hf] at this;cases this
   ·exact hex_empty (by omega) 31
  ·rfl
theorem firstK_eq {f g:Nat->Bool}:∀ (n k:Nat),(∀ j,k<=j->j<k+n->f j=g j)->firstK f n k=firstK g n k
 | 0,_,_=>rfl
 | n+1,k,h=>by
  rw [firstK,firstK,h k (Nat.le_refl _) (by omega),firstK_eq n (k+1) (fun j h1 h2=>h j (by omega) (by omega))]
theorem firstK_lt {f:Nat->Bool}:∀ (n k j:Nat),firstK f n k=some j->k<=j/\j<k+n/\f j=true
 | 0,_,_,h=>by cases h
 | n+1,k,j,h=>by
  rw [firstK] at h
  split at h
  ·rename_i hf;cases h;exact ⟨Nat.le_refl _,by omega,hf⟩
  ·have:=firstK_lt n (k+1) j h;exact ⟨by omega,by omega,this.2.2⟩
theorem fit_small {O:Int->Option (List Stepx.Node)} {s:ByteArray} (h:¬ 80<s.size) {X Y:Option Nat} (hX:firstK (oB O) 256 0=X) (hY:firstK (wK s) 512 0=Y):fitG O s=fitW (fitO O X) Y:=by
 subst hX;subst hY;exact if_neg h
theorem fitO_same {O P:Int->Option (List Stepx.Node)} (h:∀ k:Nat,k<256->O (k:Int)=P (k:Int)):∀ {X:Option Nat},(∀ k,X=some k->k<256)->fitO O X=fitO P X
 | none,_=>rfl
 | some k,hX=>by
  show rO k ((O (k:Int)).getD [])=rO k ((P (k:Int)).getD [])
  rw [h k (hX k rfl)]
theorem same_fit {s:ByteArray} (hz:80<s.size \/ Cmps.sz s<30):fitG (oI s) s=fitG (oS s) s:=by
 by_cases h8:80<s.size
 ·exact (if_pos h8:fitG (oI s) s=r0).trans (if_pos h8:fitG (oS s) s=r0).symm
 ·have hz:Cmps.sz s<30:=hz.resolve_left h8
  have e:∀ k:Nat,k<256->oI s (k:Int)=oS s (k:Int):=fun k hk=>same_o hz (by omega) (by omega)
  have f:=firstK_eq (f:=oB (oI s)) (g:=oB (oS s)) 256 0 fun j _ h2=>by unfold oB;rw [e j (by omega)]
  obtain ⟨X,hX⟩ : ∃ X,firstK (oB (oS s)) 256 0=X:=⟨_,rfl⟩
  obtain ⟨Y,hY⟩ : ∃ Y,firstK (wK s) 512 0=Y:=⟨_,rfl⟩
  have hlt:∀ k,X=some k->k<256:=fun k h=>by
   have:=(firstK_lt 256 0 k (hX.trans h)).2.1
   omega
  exact (fit_small h8 (f.trans hX) hY).trans ((congrArg (fun x=>fitW x Y) (fitO_same e hlt)).trans (fit_small h8 hX hY).symm)
end Fith
namespace Rinsw
open HoleX (n8 n16 e8 holeT holeP)
open HolI LenX InsX Texi Fits Like Rinst Fitz Rinsu Same
theorem firstK_no {f:Nat->Bool} (h:∀ k,f k=false):∀ n k:Nat,firstK f n k=none
 | 0,_=>rfl
 | n+1,k=>by
  unfold firstK
  rw [if_neg (by rw [h];decide)]
  exact firstK_no h n (k+1)
end Rinsw
end Go.Proofs.YtbofcepdckpkkaaGreatDoor
