/- For every code the law FnRunPieces answers true: of the drawn machine and number impl.RunFor answers as spec.RunFor does, and so many steps are the ones and then the others; the code read and nothing old written; no condition. -/
import Derived.Test.YtnjolmbdbgbmbaaGreatDoorCards
import Derived.Test.YtnjolmbdbgbmbaaGreatDoorTie
import Derived.ChangeOld
import Derived.ChangeVars
import Derived.OpenVars
import Derived.Deep.DeepHandedRow
import Derived.Test.YtnjolmbdbgbmbaaGreatDoorP42
import Derived.HandedShaped
set_option linter.all false
set_option maxRecDepth 20000
set_option maxHeartbeats 8000000
open Go.ChangeShapes Go.WideShapes Go.ChangeAt Go.RowKit
open Go.Proofs.Tryz
namespace Go.Proofs.YtnjolmbdbgbmbaaGreatDoor.fnRunPieces
open Go.ChangeMaps (open_string shut_string)
theorem own:ownKnob prog.godebug=none:=by kernel_rfl
theorem laidOut:laidOutB prog=true:=by kernel_rfl
theorem rowed:varsRowed prog Rows.fnRunPiecesSpec.vars=true:=by kernel_rfl
def IsRow (k:IntKind) (w:World) (a:Option Addr) (len cap:Nat) (zs:List Int):Prop :=
 (a=none/\len=0/\cap=0/\zs=[]) \/
 ∃ x,a=some x/\len<=cap/\cap<=maxLen/\zs.length=cap/\(∀ i,i<zs.length->w.cell? (x.add i)=some (.int k (zs.getD i 0)))/\∀ n ∈ zs,(Lit.int k n).wf=true
theorem tables {W:World} (h:laidMetH prog Rows.fnRunPiecesRow.laid W):Stpi.Tb W:=by
 obtain ⟨q0,L0,_⟩ : laidMet prog Rows.fnRunPiecesRow.laid W:=h
 have t0:=Laid.txts (P:=prog) (l:=[[98,99],[100,101],[104,108],[97,102]]) (show prog.globalNamed "loop.example/g00460/impl.stackNames" = some 0 by kernel_rfl) (show (prog.globals[0]?).map (·.type)=some 189 by kernel_rfl) underlying189 underlying9 (by kernel_rfl) (by kernel_rfl) L0
 obtain ⟨q1,L1⟩:=Laid.skip L0
 have t1:=Laid.txts (P:=prog) (l:=[[],[98,105,116],[114,101,115],[115,101,116]]) (show prog.globalNamed "loop.example/g00460/impl.bitNames" = some 1 by kernel_rfl) (show (prog.globals[1]?).map (·.type)=some 189 by kernel_rfl) underlying189 underlying9 (by kernel_rfl) (by kernel_rfl) L1
 obtain ⟨q2,L2⟩:=Laid.skip L1
 exact ⟨fun i hi=>(t0 i hi).trans (by match i,hi with|0,_=>rfl|1,_=>rfl|2,_=>rfl|3,_=>rfl),fun i hi=>(t1 i hi).trans (by match i,hi with|0,_=>rfl|1,_=>rfl|2,_=>rfl|3,_=>rfl)⟩
open Busw Busx Busy Boxs Boxm Runp
theorem toRow {k:IntKind} {w:World} {a:Option Addr} {len cap:Nat} {zs:List Int} (h:IsRow k w a len cap zs):Rdr.IsRow k w a len cap zs:=h
theorem walk (w:World) (a0:Option Addr) (len0 cap0:Nat) (z0:List Int) (w0:IsRow .u8 w a0 len0 cap0 z0) (hT:Stpi.Tb w) (hm:HolI.MaxL w) :
  Calls prog 10 #[.slice a0 len0 cap0] w fun e w'=>e=.returned (.bool true)/\Below w.heap.size w w':=by
 have H:Hid (Rdr.IsRow .u8 w a0 len0 cap0 z0):=toRow w0
 have HM:Hid (Stpi.Tb w/\HolI.MaxL w):=⟨hT,hm⟩
 have hz:=zeroM
 obtain ⟨cZ,hcZ⟩ : ∃ c,c=cellsM Z0 none 0:=⟨_,rfl⟩
 rw [<- hcZ] at hz
 have HZ:Hid (cZ=cellsM Z0 none 0):=hcZ
 clear w0 hT hm hcZ
 have cb:=Rdr.big_any a0 len0 cap0 w H.out.len
 by_cases hbig:Rdr.bigB len0=true
 ·rw [hbig] at cb
  go_enter func10,ntmps10
  go_wp2_with (go_at_call 25;refine cb.mono ?_;rintro e wx ⟨rfl,hwx⟩;rw [hwx];clear hwx wx)
  go_ret
  exact ⟨rfl,Below.refl _ _⟩
 have hbig:Rdr.bigB len0=false:=by simpa using hbig
 rw [hbig] at cb
 go_enter func10,ntmps10
 go_wp2_with fail
 refine cb.mono ?_
 rintro e wx ⟨rfl,hwx⟩
 rw [hwx]
 clear hwx wx cb hbig
 go_wp2_with fail
 refine Calls.mono (drawRunFor_any _ _ _ _ _ H.out) ?_
 rintro e w1 ⟨m,po,cap,n,rfl,n0,n1,hsm,own,hb⟩
 have HS:Hid (Sm m):=hsm
 have OW:Hid (w1.ownsRow w.heap.size 2 1 (.slice po m.out.length cap) m.out.length (outC m.out)):=own
 have HLEN:Hid (len0<=maxLen):=H.out.len
 clear hsm own H
 have V:Hid (Below w.heap.size w w1):=hb
 clear hb
 rename_i hK
 refine hK _ _ ?_
 clear hK
 refine wpList_plain rfl (fun K hK=>?_)
 go_simp
 refine hK _ _ ?_
 clear hK
 refine wpList_plain rfl (fun K hK=>?_)
 go_simp
 refine hK _ _ ?_
 clear hK
 refine wpList_plain rfl (fun K hK=>?_)
 go_simp
 refine hK _ _ ?_
 clear hK
 refine wpList_plain rfl (fun K hK=>?_)
 go_simp
 refine hK _ _ ?_
 clear hK
 refine wpList_store_row rfl 33 _ _ rfl w1.heap.size (cellsM m po cap) rfl rfl _ _ (heap_alloc_last w1 _) (infoMs _ _ _) (by rw [HZ.out,size_M,size_M]) (one_M _ _ _) ?_
 rw [World.setRow_alloc_new]
 obtain ⟨u1,hu⟩ : ∃ u,u=w1.alloc (.cells (cellsM m po cap) 33):=⟨_,rfl⟩
 obtain ⟨b1,hbb⟩ : ∃ b,b=w1.heap.size:=⟨_,rfl⟩
 have X1:Hid (Bx u1 b1 m po cap):=by show Bx _ _ _ _ _;rw [hu,hbb];exact Bx.new OW.out
 have V:Hid (Below w.heap.size w u1):=by show Below _ _ _;rw [hu];exact zGr V.out _
 go_upto_region 4 with fail
 rw [<- hu,<- hbb]
 clear hu hbb OW
 have HL:Hid ((runV m n).1.out.length<=1048576):=runV_len HS.out
 obtain ⟨R,hR⟩ : ∃ R,R=(runV m n).1:=⟨_,rfl⟩
 obtain ⟨cd,hcd⟩ : ∃ c,c=(runV m n).2.1:=⟨_,rfl⟩
 obtain ⟨st,hst⟩ : ∃ c,c=(runV m n).2.2:=⟨_,rfl⟩
 rw [<- hR] at HL
 have HE:Hid (R=(runV m n).1/\cd=(runV m n).2.1/\st=(runV m n).2.2):=⟨hR,hcd,hst⟩
 clear hR hcd hst
 go_upto_region 4 with fail
 refine wp_region_list ?_
 refine wpList_load_row rfl 33 _ rfl b1 rfl _ _ (0,0) _ X1.out.box underlying33 rfl (infoMs _ _ _) ?_
 go_wp2_with fail
 refine Calls.mono (Runi.implRun_any m po cap n _ HS.out X1.out.sl (HM.out.1.below V.out) (HM.out.2.below V.out)) ?_
 rintro e w2 ⟨⟨p2,c2,rfl,own⟩,hb⟩
 rw [<- HE.out.1,<- HE.out.2.1,<- HE.out.2.2]
 rw [<- HE.out.1] at own
 have OW:Hid (w2.ownsRow u1.heap.size 2 1 (.slice p2 R.out.length c2) R.out.length (outC R.out)):=own
 clear own
 have X1:=zHd (X1.out.below hb)
 have V:=zHd (CartL.after V.out hb)
 clear hb
 rename_i hK
 refine hK _ _ ?_
 clear hK
 refine wpList_plain rfl (fun K hK=>?_)
 go_simp
 refine hK _ _ ?_
 clear hK
 refine wpList_plain rfl (fun K hK=>?_)
 go_simp
 refine hK _ _ ?_
 clear hK
 refine wpList_plain rfl (fun K hK=>?_)
 go_simp
 refine hK _ _ ?_
 clear hK
 refine wpList_plain rfl (fun K hK=>?_)
 go_simp
 refine hK _ _ ?_
 clear hK
 refine wpList_plain rfl (fun K hK=>?_)
 go_simp
 refine hK _ _ ?_
 clear hK
 refine wpList_store_row rfl 33 _ _ rfl w2.heap.size (cellsM R p2 c2) rfl rfl _ _ (heap_alloc_last w2 _) (infoMs _ _ _) (by rw [HZ.out,size_M,size_M]) (one_M _ _ _) ?_
 rw [World.setRow_alloc_new]
 obtain ⟨u2,hu⟩ : ∃ u,u=w2.alloc (.cells (cellsM R p2 c2) 33):=⟨_,rfl⟩
 obtain ⟨b2,hbb⟩ : ∃ b,b=w2.heap.size:=⟨_,rfl⟩
 have X2:Hid (Bx u2 b2 R p2 c2):=by show Bx _ _ _ _ _;rw [hu,hbb];exact Bx.new OW.out
 have X1:Hid (Bx u2 b1 m po cap):=by show Bx _ _ _ _ _;rw [hu];exact X1.out.alloc _
 have V:Hid (Below w.heap.size w u2):=by show Below _ _ _;rw [hu];exact zGr V.out _
 go_upto_region 5 with fail
 rw [<- hu,<- hbb]
 clear hu hbb OW
 go_upto_region 5 with fail
 refine wp_region_list ?_
 refine wpList_load_row rfl 33 _ rfl b1 rfl _ _ (0,0) _ X1.out.box underlying33 rfl (infoMs _ _ _) ?_
 go_wp2_with fail
 refine Calls.mono (Runs.specRun_any m po cap n _ HS.out X1.out.sl) ?_
 rintro e w3 ⟨⟨p3,c3,rfl,own⟩,hb⟩
 rw [<- HE.out.1,<- HE.out.2.1,<- HE.out.2.2]
 rw [<- HE.out.1] at own
 have OW:Hid (w3.ownsRow u2.heap.size 2 1 (.slice p3 R.out.length c3) R.out.length (outC R.out)):=own
 clear own
 have X1:=zHd (X1.out.below hb)
 have X2:=zHd (X2.out.below hb)
 have V:=zHd (CartL.after V.out hb)
 clear hb
 rename_i hK
 refine hK _ _ ?_
 clear hK
 refine wpList_plain rfl (fun K hK=>?_)
 go_simp
 refine hK _ _ ?_
 clear hK
 refine wpList_plain rfl (fun K hK=>?_)
 go_simp
 refine hK _ _ ?_
 clear hK
 refine wpList_plain rfl (fun K hK=>?_)
 go_simp
 refine hK _ _ ?_
 clear hK
 refine wpList_plain rfl (fun K hK=>?_)
 go_simp
 refine hK _ _ ?_
 clear hK
 refine wpList_plain rfl (fun K hK=>?_)
 go_simp
 refine hK _ _ ?_
 clear hK
 refine wpList_store_row rfl 33 _ _ rfl w3.heap.size (cellsM R p3 c3) rfl rfl _ _ (heap_alloc_last w3 _) (infoMs _ _ _) (by rw [HZ.out,size_M,size_M]) (one_M _ _ _) ?_
 rw [World.setRow_alloc_new]
 obtain ⟨u3,hu⟩ : ∃ u,u=w3.alloc (.cells (cellsM R p3 c3) 33):=⟨_,rfl⟩
 obtain ⟨b3,hbb⟩ : ∃ b,b=w3.heap.size:=⟨_,rfl⟩
 have X3:Hid (Bx u3 b3 R p3 c3):=by show Bx _ _ _ _ _;rw [hu,hbb];exact Bx.new OW.out
 have X1:Hid (Bx u3 b1 m po cap):=by show Bx _ _ _ _ _;rw [hu];exact X1.out.alloc _
 have X2:Hid (Bx u3 b2 R p2 c2):=by show Bx _ _ _ _ _;rw [hu];exact X2.out.alloc _
 have V:Hid (Below w.heap.size w u3):=by show Below _ _ _;rw [hu];exact zGr V.out _
 go_upto_region 6 with fail
 rw [<- hu,<- hbb]
 clear hu hbb OW
 refine wp_region_list ?_
 refine wpList_plain rfl (fun K hK=>?_)
 go_simp
 refine hK _ _ ?_
 clear hK
 refine wpList_plain rfl (fun K hK=>?_)
 go_simp
 refine hK _ _ ?_
 clear hK
 refine wpList_plain rfl (fun K hK=>?_)
 go_simp
 refine hK _ _ ?_
 clear hK
 refine wpList_plain rfl (fun K hK=>?_)
 go_simp
 refine hK _ _ ?_
 clear hK
 refine wpList_step fun K hK=>?_
 rw [if_pos (by rfl)]
 go_simp
 refine hK _ _ ?_
 clear hK
 refine wpList_step fun K hK=>?_
 rw [if_pos (by rfl)]
 go_simp
 refine hK _ _ ?_
 clear hK
 refine wpList_step fun K hK=>?_
 rw [if_pos (by rfl)]
 go_simp
 refine hK _ _ ?_
 clear hK
 refine wpList_plain rfl (fun K hK=>?_)
 go_simp
 refine hK _ _ ?_
 clear hK
 refine wpList_plain rfl (fun K hK=>?_)
 go_simp
 refine hK _ _ ?_
 clear hK
 refine wpList_step fun K hK=>?_
 rw [if_pos (by rfl)]
 refine wp_load_row 33 _ rfl b2 rfl _ _ (0,0) _ X2.out.box underlying33 rfl (infoMs _ _ _) ?_
 refine hK _ _ ?_
 clear hK
 refine wpList_step fun K hK=>?_
 rw [if_pos (by rfl)]
 refine wp_load_row 33 _ rfl b3 rfl _ _ (0,0) _ X3.out.box underlying33 rfl (infoMs _ _ _) ?_
 refine hK _ _ ?_
 clear hK
 go_wp2_with fail
 refine Calls.mono (Samm.sameM_any _ _ _ _ _ _ X2.out.sl.row X3.out.sl.row HL.out) ?_
 rintro e w4 ⟨rfl,hb⟩
 have X1:=zHd (X1.out.below hb)
 have X2:=zHd (X2.out.below hb)
 have X3:=zHd (X3.out.below hb)
 have V:=zHd (CartL.after V.out hb)
 clear hb
 by_cases h3:cd=3
 ·have e3:(cd == 3)=true:=by simpa using h3
  go_upto_region 7 with fail
  refine wp_region_list ?_
  refine wpList_plain rfl (fun K hK=>?_)
  go_simp
  refine hK _ _ ?_
  clear hK
  refine wpList_plain rfl (fun K hK=>?_)
  go_simp
  refine hK _ _ ?_
  clear hK
  refine wpList_plain rfl (fun K hK=>?_)
  go_simp
  refine hK _ _ ?_
  clear hK
  refine wpList_plain rfl (fun K hK=>?_)
  go_simp
  refine hK _ _ ?_
  clear hK
  refine wpList_step fun K hK=>?_
  rw [if_pos (by rfl)]
  go_simp
  refine hK _ _ ?_
  clear hK
  refine wpList_step fun K hK=>?_
  rw [if_pos (by rfl)]
  go_simp
  refine hK _ _ ?_
  clear hK
  refine wpList_step fun K hK=>?_
  rw [if_pos (by rfl)]
  go_simp
  refine hK _ _ ?_
  clear hK
  refine wpList_plain rfl (fun K hK=>?_)
  go_simp
  refine hK _ _ ?_
  clear hK
  refine wpList_plain rfl (fun K hK=>?_)
  go_simp
  refine hK _ _ ?_
  clear hK
  refine wpList_step fun K hK=>?_
  rw [if_pos (by rfl)]
  refine wp_load_row 33 _ rfl b2 rfl _ _ (0,0) _ X2.out.box underlying33 rfl (infoMs _ _ _) ?_
  refine hK _ _ ?_
  clear hK
  refine wpList_step fun K hK=>?_
  rw [if_pos (by rfl)]
  refine wp_load_row 33 _ rfl b3 rfl _ _ (0,0) _ X3.out.box underlying33 rfl (infoMs _ _ _) ?_
  refine hK _ _ ?_
  clear hK
  go_wp2_with fail
  refine Calls.mono (Samm.sameM_any _ _ _ _ _ _ X2.out.sl.row X3.out.sl.row HL.out) ?_
  rintro e w5 ⟨rfl,hb⟩
  have V:=zHd (CartL.after V.out hb)
  clear hb
  go_wp2
  go_ret
  exact ⟨rfl,V.out⟩
 have e3:(cd == 3)=false:=by simpa using h3
 obtain ⟨k,hk⟩ : ∃ k:Int,k=(len0:Int)%(n+1):=⟨_,rfl⟩
 have k0:0<=k:=by rw [hk];exact Int.emod_nonneg _ (by omega)
 have k1:k<=n:=by have:=Int.emod_lt_of_pos (len0:Int) (show 0<n+1 by omega);omega
 have HP:Hid (_):=Runr.pieces HS.out (by rw [<- HE.out.2.1];exact h3) k0 k1
 have d0:IntKind.i64.wrap (n+1)=n+1:=by rw [IntKind.wrap_i64];omega
 have d1:(len0:Int).tmod (n+1)=k:=by rw [hk,Int.tmod_eq_emod_of_nonneg (by omega)]
 have d2:¬ n+1=0:=by omega
 have d3:IntKind.i64.wrap (len0:Int)=len0:=by have:=HLEN.out;unfold maxLen at this;rw [IntKind.wrap_i64];omega
 have d4:IntKind.i64.wrap k=k:=by rw [IntKind.wrap_i64];omega
 have d5:IntKind.i64.wrap (n-k)=n-k:=by rw [IntKind.wrap_i64];omega
 clear hk
 go_upto_region 9 with fail
 have HLa:Hid ((runV m k).1.out.length<=1048576):=runV_len HS.out
 have HSa:Hid (Sm (runV m k).1):=Mnew.sm_run HS.out
 obtain ⟨Ra,hR⟩ : ∃ R,R=(runV m k).1:=⟨_,rfl⟩
 obtain ⟨one,hcd⟩ : ∃ c,c=(runV m k).2.1:=⟨_,rfl⟩
 obtain ⟨fst,hst⟩ : ∃ c,c=(runV m k).2.2:=⟨_,rfl⟩
 rw [<- hR] at HLa HSa
 have HEa:Hid (Ra=(runV m k).1/\one=(runV m k).2.1/\fst=(runV m k).2.2):=⟨hR,hcd,hst⟩
 clear hR hcd hst

 refine wp_region_list ?_
 refine wpList_load_row rfl 33 _ rfl b1 rfl _ _ (0,0) _ X1.out.box underlying33 rfl (infoMs _ _ _) ?_
 go_wp2_with fail
 refine Calls.mono (Runi.implRun_any m po cap k _ HS.out X1.out.sl (HM.out.1.below V.out) (HM.out.2.below V.out)) ?_
 rintro e w5 ⟨⟨p5,c5,rfl,own⟩,hb⟩
 rw [<- HEa.out.1,<- HEa.out.2.1,<- HEa.out.2.2]
 rw [<- HEa.out.1] at own
 have OW:Hid (w5.ownsRow w4.heap.size 2 1 (.slice p5 Ra.out.length c5) Ra.out.length (outC Ra.out)):=own
 clear own
 have X1:=zHd (X1.out.below hb)
 have X2:=zHd (X2.out.below hb)
 have X3:=zHd (X3.out.below hb)
 have V:=zHd (CartL.after V.out hb)
 clear hb
 rename_i hK
 refine hK _ _ ?_
 clear hK
 refine wpList_plain rfl (fun K hK=>?_)
 go_simp
 refine hK _ _ ?_
 clear hK
 refine wpList_plain rfl (fun K hK=>?_)
 go_simp
 refine hK _ _ ?_
 clear hK
 refine wpList_plain rfl (fun K hK=>?_)
 go_simp
 refine hK _ _ ?_
 clear hK
 refine wpList_plain rfl (fun K hK=>?_)
 go_simp
 refine hK _ _ ?_
 clear hK
 refine wpList_plain rfl (fun K hK=>?_)
 go_simp
 refine hK _ _ ?_
 clear hK
 refine wpList_store_row rfl 33 _ _ rfl w5.heap.size (cellsM Ra p5 c5) rfl rfl _ _ (heap_alloc_last w5 _) (infoMs _ _ _) (by rw [HZ.out,size_M,size_M]) (one_M _ _ _) ?_
 rw [World.setRow_alloc_new]
 obtain ⟨u5,hu⟩ : ∃ u,u=w5.alloc (.cells (cellsM Ra p5 c5) 33):=⟨_,rfl⟩
 obtain ⟨b5,hbb⟩ : ∃ b,b=w5.heap.size:=⟨_,rfl⟩
 have X5:Hid (Bx u5 b5 Ra p5 c5):=by show Bx _ _ _ _ _;rw [hu,hbb];exact Bx.new OW.out
 have X1:Hid (Bx u5 b1 m po cap):=by show Bx _ _ _ _ _;rw [hu];exact X1.out.alloc _
 have X2:Hid (Bx u5 b2 R p2 c2):=by show Bx _ _ _ _ _;rw [hu];exact X2.out.alloc _
 have X3:Hid (Bx u5 b3 R p3 c3):=by show Bx _ _ _ _ _;rw [hu];exact X3.out.alloc _
 have V:Hid (Below w.heap.size w u5):=by show Below _ _ _;rw [hu];exact zGr V.out _
 go_upto_region 10 with fail
 rw [<- hu,<- hbb]
 clear hu hbb OW
 by_cases h1:one=0
 ·have e1:(one != 0)=false:=by simp [h1]
  have HP2:=HP.out.2 (by rw [<- HEa.out.2.1];exact h1)
  rw [<- HEa.out.1,<- HEa.out.2.2,<- HE.out.1,<- HE.out.2.1,<- HE.out.2.2] at HP2
  have HP2:Hid (_):=HP2
  have HLb:Hid ((runV Ra (n-k)).1.out.length<=1048576):=runV_len HSa.out
  go_upto_region 12 with fail
  refine wp_region_list ?_
  refine wpList_load_row rfl 33 _ rfl b5 rfl _ _ (0,0) _ X5.out.box underlying33 rfl (infoMs _ _ _) ?_
  go_wp2_with fail
  refine Calls.mono (Runi.implRun_any Ra p5 c5 (n-k) _ HSa.out X5.out.sl (HM.out.1.below V.out) (HM.out.2.below V.out)) ?_
  rintro e w6 ⟨⟨p6,c6,rfl,own⟩,hb⟩
  obtain ⟨f1,f2,f3⟩:=HP2.out
  rw [f1,f2]
  rw [f1] at own
  obtain ⟨rest,hrest⟩ : ∃ x,x=(runV Ra (n-k)).2.2:=⟨_,rfl⟩
  rw [<- hrest]
  rw [<- hrest] at f3
  have F3:Hid (fst+rest=st):=f3
  have OW:Hid (w6.ownsRow u5.heap.size 2 1 (.slice p6 R.out.length c6) R.out.length (outC R.out)):=own
  clear own f1 f2 f3 hrest HP2
  have X1:=zHd (X1.out.below hb)
  have X2:=zHd (X2.out.below hb)
  have X3:=zHd (X3.out.below hb)
  have X5:=zHd (X5.out.below hb)
  have V:=zHd (CartL.after V.out hb)
  clear hb
  rename_i hK
  refine hK _ _ ?_
  clear hK
  refine wpList_plain rfl (fun K hK=>?_)
  go_simp
  refine hK _ _ ?_
  clear hK
  refine wpList_plain rfl (fun K hK=>?_)
  go_simp
  refine hK _ _ ?_
  clear hK
  refine wpList_plain rfl (fun K hK=>?_)
  go_simp
  refine hK _ _ ?_
  clear hK
  refine wpList_plain rfl (fun K hK=>?_)
  go_simp
  refine hK _ _ ?_
  clear hK
  refine wpList_plain rfl (fun K hK=>?_)
  go_simp
  refine hK _ _ ?_
  clear hK
  refine wpList_store_row rfl 33 _ _ rfl w6.heap.size (cellsM R p6 c6) rfl rfl _ _ (heap_alloc_last w6 _) (infoMs _ _ _) (by rw [HZ.out,size_M,size_M]) (one_M _ _ _) ?_
  rw [World.setRow_alloc_new]
  obtain ⟨u6,hu⟩ : ∃ u,u=w6.alloc (.cells (cellsM R p6 c6) 33):=⟨_,rfl⟩
  obtain ⟨b6,hbb⟩ : ∃ b,b=w6.heap.size:=⟨_,rfl⟩
  have X6:Hid (Bx u6 b6 R p6 c6):=by show Bx _ _ _ _ _;rw [hu,hbb];exact Bx.new OW.out
  have X1:Hid (Bx u6 b1 m po cap):=by show Bx _ _ _ _ _;rw [hu];exact X1.out.alloc _
  have X2:Hid (Bx u6 b2 R p2 c2):=by show Bx _ _ _ _ _;rw [hu];exact X2.out.alloc _
  have X3:Hid (Bx u6 b3 R p3 c3):=by show Bx _ _ _ _ _;rw [hu];exact X3.out.alloc _
  have X5:Hid (Bx u6 b5 Ra p5 c5):=by show Bx _ _ _ _ _;rw [hu];exact X5.out.alloc _
  have V:Hid (Below w.heap.size w u6):=by show Below _ _ _;rw [hu];exact zGr V.out _
  go_upto_region 13 with fail
  rw [<- hu,<- hbb]
  clear hu hbb OW
  have hsum:=F3.out
  have e5:IntKind.i64.wrap (fst+rest)=st:=by rw [hsum];have:=Runr.run_bd HS.out (by rw [<- HE.out.2.1];exact h3);rw [<- HE.out.2.2] at this;rw [IntKind.wrap_i64];omega
  have F4:Hid (fst+rest=st):=hsum
  clear hsum
  refine wp_region_list ?_
  refine wpList_plain rfl (fun K hK=>?_)
  go_simp
  refine hK _ _ ?_
  clear hK
  refine wpList_plain rfl (fun K hK=>?_)
  go_simp
  refine hK _ _ ?_
  clear hK
  refine wpList_plain rfl (fun K hK=>?_)
  go_simp
  refine hK _ _ ?_
  clear hK
  refine wpList_plain rfl (fun K hK=>?_)
  go_simp
  refine hK _ _ ?_
  clear hK
  refine wpList_step fun K hK=>?_
  rw [if_pos (by rfl)]
  go_simp
  refine hK _ _ ?_
  clear hK
  refine wpList_step fun K hK=>?_
  rw [if_pos (by rfl)]
  go_simp
  refine hK _ _ ?_
  clear hK
  refine wpList_step fun K hK=>?_
  rw [if_pos (by rfl)]
  go_simp
  refine hK _ _ ?_
  clear hK
  refine wpList_step fun K hK=>?_
  rw [if_pos (by rfl)]
  go_simp
  refine hK _ _ ?_
  clear hK
  refine wpList_step fun K hK=>?_
  rw [if_pos (by rfl)]
  go_simp
  refine hK _ _ ?_
  clear hK
  refine wpList_plain rfl (fun K hK=>?_)
  go_simp
  refine hK _ _ ?_
  clear hK
  refine wpList_plain rfl (fun K hK=>?_)
  go_simp
  refine hK _ _ ?_
  clear hK
  refine wpList_step fun K hK=>?_
  rw [if_pos (by rfl)]
  refine wp_load_row 33 _ rfl b6 rfl _ _ (0,0) _ X6.out.box underlying33 rfl (infoMs _ _ _) ?_
  refine hK _ _ ?_
  clear hK
  refine wpList_step fun K hK=>?_
  rw [if_pos (by rfl)]
  refine wp_load_row 33 _ rfl b2 rfl _ _ (0,0) _ X2.out.box underlying33 rfl (infoMs _ _ _) ?_
  refine hK _ _ ?_
  clear hK
  go_wp2_with fail
  refine Calls.mono (Samm.sameM_any _ _ _ _ _ _ X6.out.sl.row X2.out.sl.row HL.out) ?_
  rintro e w7 ⟨rfl,hb⟩
  have V:=zHd (CartL.after V.out hb)
  clear hb
  go_wp2
  go_ret
  exact ⟨rfl,V.out⟩
 have e1:(one != 0)=true:=by simpa using h1
 have HP1:=HP.out.1 (by rw [<- HEa.out.2.1];exact h1)
 obtain ⟨g1,g2,g3⟩ : Ra=R/\one=cd/\fst=st:=by
  refine ⟨?_,?_,?_⟩
  ·rw [HEa.out.1,HE.out.1,HP1]
  ·rw [HEa.out.2.1,HE.out.2.1,HP1]
  ·rw [HEa.out.2.2,HE.out.2.2,HP1]
 rw [g1] at X5
 clear HP1
 go_upto_region 11 with fail
 rw [g2,g3]
 refine wp_region_list ?_
 refine wpList_plain rfl (fun K hK=>?_)
 go_simp
 refine hK _ _ ?_
 clear hK
 refine wpList_plain rfl (fun K hK=>?_)
 go_simp
 refine hK _ _ ?_
 clear hK
 refine wpList_plain rfl (fun K hK=>?_)
 go_simp
 refine hK _ _ ?_
 clear hK
 refine wpList_plain rfl (fun K hK=>?_)
 go_simp
 refine hK _ _ ?_
 clear hK
 refine wpList_step fun K hK=>?_
 rw [if_pos (by rfl)]
 go_simp
 refine hK _ _ ?_
 clear hK
 refine wpList_step fun K hK=>?_
 rw [if_pos (by rfl)]
 go_simp
 refine hK _ _ ?_
 clear hK
 refine wpList_step fun K hK=>?_
 rw [if_pos (by rfl)]
 go_simp
 refine hK _ _ ?_
 clear hK
 refine wpList_plain rfl (fun K hK=>?_)
 go_simp
 refine hK _ _ ?_
 clear hK
 refine wpList_plain rfl (fun K hK=>?_)
 go_simp
 refine hK _ _ ?_
 clear hK
 refine wpList_step fun K hK=>?_
 rw [if_pos (by rfl)]
 refine wp_load_row 33 _ rfl b5 rfl _ _ (0,0) _ X5.out.box underlying33 rfl (infoMs _ _ _) ?_
 refine hK _ _ ?_
 clear hK
 refine wpList_step fun K hK=>?_
 rw [if_pos (by rfl)]
 refine wp_load_row 33 _ rfl b2 rfl _ _ (0,0) _ X2.out.box underlying33 rfl (infoMs _ _ _) ?_
 refine hK _ _ ?_
 clear hK
 go_wp2_with fail
 refine Calls.mono (Samm.sameM_any _ _ _ _ _ _ X5.out.sl.row X2.out.sl.row HL.out) ?_
 rintro e w6 ⟨rfl,hb⟩
 have V:=zHd (CartL.after V.out hb)
 clear hb
 go_wp2
 go_ret
 exact ⟨rfl,V.out⟩
set_option maxRecDepth 100000 in
theorem contract (H:Type) (enc:TypeId × Value->H) (W:World) (base:Nat) (args:Array Value) (ds gs:List (DataW H)) (before:List MemPlace)
  (hval:∀ (j:Nat) t v,Tryz.f10.params[j]? = some t->args[j]? = some v->Value.okWide prog W .any base t v)
  (hW:DataW.Whole enc prog Tryz.f10.params.toList Rows.fnRunPiecesSpec.vars false W args.toList ds gs before) (hL:laidMetH prog Rows.fnRunPiecesRow.laid W) (hsh:W.ShapedOpen prog) :
  Calls prog 10 args W fun e W'=>∃ v,e=.returned v/\Rows.fnRunPiecesSpec.post enc prog Tryz.f10 false true false false W args v W':=by
 have hW':=hW
 obtain ⟨p,q,hA0,hV,hbef,hfz,hnd⟩:=hW
 have hA:DataW.TrodAll enc prog W 0 (fun _=>true) true Tryz.f10.params.toList args.toList ds p:=hA0
 have hVk:DataW.TrodVars enc prog W (fun _=>true) Rows.fnRunPiecesSpec.vars gs q:=hV
 rw [Tryz.params10] at hA hval
 obtain ⟨v0,vs0,d0,ds0,p0,q0,hargs,rfl,rfl,h0,r0⟩:=trodAll_cons hA
 obtain ⟨rfl,rfl,rfl⟩:=trodAll_nil r0
 obtain rfl:args=#[v0]:=by cases args;simp_all
 obtain ⟨g1,g2,rfl⟩ : ∃ g1 g2,gs=[g1,g2]:=by
  have hl:=Laid.vars_len hVk
  match gs,hl with
  | [g1,g2],_=>exact ⟨_,_,rfl⟩
 obtain ⟨a0,len0,cap0,rfl⟩:=okWide_slice underlying48 (hval 0 48 v0 rfl rfl)
 have k0:=h0
 have lt0:∀ x ∈ p0,x.block<W.heap.size:=by obtain ⟨m,hm⟩:=k0;exact DataW.trod_lt m _ _ _ hm
 obtain ⟨z0,w0⟩ : ∃ zs,IsRow .u8 W a0 len0 cap0 zs:=by
  obtain ⟨fuel,hf⟩:=h0
  rcases open_ints underlying48 underlying5 (by kernel_rfl) hf with ⟨hcs,_⟩|⟨x,l,c,zs,hcs,_,hl,hm,hz,_,hcell,hwz⟩
  ·simp [Value.cells] at hcs
   obtain ⟨rfl,rfl,rfl⟩:=hcs
   exact ⟨[],.inl ⟨rfl,rfl,rfl,rfl⟩⟩
  ·simp [Value.cells] at hcs
   obtain ⟨rfl,rfl,rfl⟩:=hcs
   exact ⟨zs,.inr ⟨_,rfl,hl,hm,by simpa using hz,hcell,hwz⟩⟩
 clear hA0
 refine (walk W a0 len0 cap0 z0 w0 (tables hL) (Tryz.laysM144.s1_3 W hsh)).mono fun e W' ⟨he,bel⟩=>?_
 subst he
 exact ⟨_,rfl,_,_,_,[],_,q,hW',trodAll_mk1 (shut_bool underlying4 _),(trodAll_cons_mk (Below.trod laidOut (by kernel_rfl) (of_decide_eq_true (by kernel_rfl)) k0 bel lt0) trodAll_mk0),Below.trodVars laidOut bel rowed hVk,bel.frame _,fun h=>by cases h⟩
noncomputable def laidWorld (os:Os):World :=
 { World.holding prog os ⟨#[],#[],[]⟩ with heap:=(fun h=>h.modify 0 fun|.cells _ t frozen=>.cells #[.string ⟨#[98,99]⟩,.string ⟨#[100,101]⟩,.string ⟨#[104,108]⟩,.string ⟨#[97,102]⟩] t frozen|o=>o) <| (fun h=>h.modify 1 fun|.cells _ t frozen=>.cells #[.string ⟨#[]⟩,.string ⟨#[98,105,116]⟩,.string ⟨#[114,101,115]⟩,.string ⟨#[115,101,116]⟩] t frozen|o=>o) <| (World.holding prog os ⟨#[],#[],[]⟩).heap }
theorem laid_met (os:Os):laidMet prog Rows.fnRunPiecesRow.laid ((laidWorld os).forCall (fun _ _=>0) ⟨#[],#[.slice none 0 0],[]⟩).memory :=
 laidMet_of_run' 8 (by kernel_rfl) (by kernel_rfl)
theorem reads (os:Os) {H:Type} (enc:TypeId × Value->H):∃ places,DataW.whole enc prog ((laidWorld os).forCall (fun _ _=>0) ⟨#[],#[.slice none 0 0],[]⟩).memory Tryz.f10.params.toList Rows.fnRunPiecesSpec.vars false [.slice none 0 0] 8=some ([.nil],[.agg [.lit (.string [98,99]),.lit (.string [100,101]),.lit (.string [104,108]),.lit (.string [97,102])],.agg [.lit (.string []),.lit (.string [98,105,116]),.lit (.string [114,101,115]),.lit (.string [115,101,116])]],places) :=
 ⟨MemPlace.row ⟨0,0,none⟩ 4 ++ MemPlace.row ⟨1,0,none⟩ 4,by kernel_rfl⟩
set_option maxRecDepth 100000 in
theorem lifted (os:Os) (started:os.Started) (H:Type) (enc:TypeId × Value->H) (F:Stop.Interp) :
  ReturnsInHanded {} Tryz.checked os 10 .any ((OpenSpec.ofChange Rows.fnRunPiecesSpec).preRow enc prog Tryz.f10 Rows.fnRunPiecesRow.domain false Rows.fnRunPiecesRow.laid) (((OpenSpec.ofChange Rows.fnRunPiecesSpec).at F).post enc prog Tryz.f10 false true false false):=by
 obtain ⟨places,hx⟩:=reads os enc
 refine returnsInHanded_of_row (C:=Tryz.checked) (s:=OpenSpec.ofChange Rows.fnRunPiecesSpec) own started (by kernel_rfl) func10
  (witness_row_at (enc:=enc) (C:=Tryz.checked) false (laidWorld os) #[.slice none 0 0] rfl (by kernel_rfl) (by kernel_rfl) (by kernel_rfl)
   (OpenSpec.preRow_of_cond 8 hx (by kernel_rfl) (fun k hk=>by cases hk) (by kernel_rfl) (laid_met os))) ?_
 intro W base args ds gs before hval hW _ _ _ hL hsh _
 exact contract H enc W base args ds gs before hval hW hL hsh
theorem said:Rows.FnRunPiecesSaid :=
 OpenClaim.holds_of_cond 10 Tryz.f10 rfl rfl rfl rfl rfl rfl rfl ⟨rfl,rfl,rfl,rfl,rfl⟩ rfl rfl rfl rfl rfl (by kernel_rfl) func10 (by kernel_rfl)
  (of_decide_eq_true (by kernel_rfl)) (by unfold Func.isWrapper;first|(rw [if_pos (by decide +kernel)];kernel_rfl)|(rw [if_neg (by decide +kernel)];exact ⟨rfl,rfl⟩))
  (fun os started H enc _ F=>by rw [OpenClaim.pre_eq_preRow];exact lifted os started H enc F)
theorem plain (f:FuncId) (fn:Func) (hf:Tryz.pinned.checked.prog.funcNamed "loop.example/g00460/laws.FnRunPieces" = some f) (hfn:Tryz.pinned.checked.prog.funcs[f]? = some fn) :
  true=Tryz.pinned.checked.prog.looks []/\∀ (j:Nat) t,fn.params[j]? = some t->Tryz.pinned.checked.prog.wantsStandIn t=false:=by
 obtain rfl:f=10:=Option.some.inj ((show prog.funcNamed "loop.example/g00460/laws.FnRunPieces" = some 10 by kernel_rfl).symm.trans hf) |>.symm
 obtain rfl:fn=Tryz.f10:=(Option.some.inj (func10.symm.trans hfn)).symm
 refine ⟨by kernel_rfl,fun j t ht=>?_⟩
 rw [Tryz.params10] at ht
 have h:t=48:=by simpa using Array.mem_of_getElem? ht
 subst h
 exact (show prog.wantsStandIn 48=false by kernel_rfl)
theorem card:Rows.FnRunPiecesCardSaid :=
 Claim7.holds_tied_plain_at .later [] _ _ _ _ said (fun _ h=>by cases h) (by kernel_rfl) (fun _ h=>by cases h) fnRunPieces_row_tie rfl ⟨rfl,rfl⟩ (by kernel_rfl) rfl plain (by kernel_rfl)
end Go.Proofs.YtnjolmbdbgbmbaaGreatDoor.fnRunPieces
namespace Go.Proofs.YtnjolmbdbgbmbaaGreatDoor
theorem fnRunPieces_holds:Rows.FnRunPiecesCardSaid:=fnRunPieces.card
end Go.Proofs.YtnjolmbdbgbmbaaGreatDoor
