/- For every code the law FnBus answers true: of the drawn machine, address and byte impl.BusWrite answers as spec.BusWrite does, of the other drawn machine and address impl.BusRead as spec.BusRead; what is written into the memory that works is read, all else of it as it was; what is told out stands behind all that was; the code read and nothing old written; no condition. -/
import Derived.ChangeOld
import Derived.Test.YtfpecdgcapfgfaaGreatP27
import Derived.Deep.MidRow
import Derived.OrdersHeld
set_option linter.all false
set_option maxRecDepth 20000
set_option maxHeartbeats 8000000
open Go.ChangeShapes Go.WideShapes Go.ChangeAt Go.RowKit
open Go.Proofs.Tryz
namespace Go.Proofs.YtfpecdgcapfgfaaGreat.fnBus
open Go.ChangeMaps (open_string shut_string)
theorem own:ownKnob prog.godebug=none:=by kernel_rfl
theorem laidOut:laidOutB prog=true:=by kernel_rfl
def IsRow (k:IntKind) (w:World) (a:Option Addr) (len cap:Nat) (zs:List Int):Prop :=
 (a=none/\len=0/\cap=0/\zs=[]) \/
 ∃ x,a=some x/\len<=cap/\cap<=maxLen/\zs.length=cap/\(∀ i,i<zs.length->w.cell? (x.add i)=some (.int k (zs.getD i 0)))/\∀ n ∈ zs,(Lit.int k n).wf=true
open Busw Busx Busy Boxs Boxb Runp
theorem toRow {k:IntKind} {w:World} {a:Option Addr} {len cap:Nat} {zs:List Int} (h:IsRow k w a len cap zs):Rdr.IsRow k w a len cap zs:=h
def Pst (W0 W:World) (B0:Nat):Prop:=Below B0 W0 W/\B0<=W.heap.size
theorem Pst.alloc {W0 W:World} {B0:Nat} (h:Pst W0 W B0) (o:Obj):Pst W0 (W.alloc o) B0:=⟨h.1.alloc h.2 o,Nat.le_trans h.2 (by simp)⟩
theorem Pst.grown {W0 W W':World} {B0:Nat} {r:Option Nat} (h:Pst W0 W B0) (g:W.grownBy W' r) (hr:∀ j,r=some j->B0<=j):Pst W0 W' B0:=⟨h.1.grown g h.2 hr,Nat.le_trans h.2 g.size⟩
theorem Pst.below {W0 W W':World} {B0:Nat} (h:Pst W0 W B0) (b:Below W.heap.size W W'):Pst W0 W' B0:=⟨h.1.trans (b.mono h.2),Nat.le_trans h.2 b.size⟩
def Cel (W:World) (g:Nat) (v:Int):Prop:=W.cell? ⟨g,0,none⟩=some (.int .i64 v)/\g<W.heap.size
theorem Cel.new (W:World) (v:Int):Cel (W.alloc (.cells #[.int .i64 v] 2)) W.heap.size v:=⟨World.cell?_alloc_new _ _ _ _,by simp⟩
theorem Cel.alloc {W:World} {g:Nat} {v:Int} (h:Cel W g v) (o:Obj):Cel (W.alloc o) g v:=⟨(((Below.refl W.heap.size W).alloc (Nat.le_refl _) _).cell (p:=⟨g,0,none⟩) h.2).trans h.1,Nat.lt_of_lt_of_le h.2 (by simp)⟩
theorem Cel.grown {W W':World} {g gB:Nat} {v:Int} (h:Cel W g v) (k:W.grownBy W' (some gB)) (hn:g ≠ gB):Cel W' g v:=⟨(World.cell?_of_block (a:=⟨g,0,none⟩) (k.block g h.2 (fun e=>hn (Option.some.inj e)))).trans h.1,Nat.lt_of_lt_of_le h.2 k.size⟩
def Emp (W:World) (B0 g:Nat):Prop:=W.ownsRow B0 2 1 (.slice (some ⟨g,0,none⟩) 0 0) 0 []/\g<W.heap.size/\B0<=g
theorem Emp.new (W:World) {B0:Nat} (h:B0<=W.heap.size):Emp (W.alloc (.cells #[] 2)) B0 W.heap.size:=⟨World.ownsRow_lit W #[] 0 h (Nat.zero_le _) rfl,by simp,h⟩
theorem Emp.alloc {W:World} {B0 g:Nat} (h:Emp W B0 g) (o:Obj):Emp (W.alloc o) B0 g:=⟨h.1.alloc _,Nat.lt_of_lt_of_le h.2.1 (by simp),h.2.2⟩
theorem own_ge {W:World} {B0 n:Nat} {v:Value} {xs:List Value} (h:W.ownsRow B0 2 1 v n xs):∀ j,v.ownBlock=some j->B0<=j:=fun j hj=>(h.lt j hj).1
theorem cel_at {W:World} {g:Nat} {v:Int} (h:Cel W g v):∀ j u,([.int .i64 v]:List Value)[j]? = some u->W.cell? ((⟨g,0,none⟩ : Addr).add j)=some u:=fun j u hu=>by
 match j,hu with
 | 0,hu=>cases hu;rw [Addr.add_lit];exact h.1
 | j+1,hu=>simp at hu
theorem opH {P:Program} {ops:Array Oper} {Q:Exit->Act->World->Prop} {S:World->Prop} {md:Region.Mode} {fuel:Nat} {listed:Array Bool} {a:Act} {w:World} {i:Nat} {o:Oper} (ho:ops[i]? = some o) (hw:Region.wanted o (yielded ops a.tmps)=true)
  (h:∀ K':Act->World->Prop,(∀ a' w',S w'->wpAnyH P md ops Q S fuel (listed.setIfInBounds i true) a' w'->K' a' w')->Oper.wp P o a w K' Q):wpOp P ops Q i (fun a' w'=>S w'/\wpAnyH P md ops Q S fuel (listed.setIfInBounds i true) a' w') a w:=by
 unfold wpOp
 simp only [ho,hw,if_true]
 exact .inl (h _ fun a' w' hs h'=>⟨hs,h'⟩)
abbrev SB (b1 b2:Nat) (m R:M) (po p2:Option Addr) (cap c2:Nat) (W:World):Prop:=Bx W b1 m po cap/\Bx W b2 R p2 c2
theorem sOf {W0 W':World} {b1 b2 B0:Nat} {m R:M} {po p2:Option Addr} {cap c2:Nat} (h1:Bx W0 b1 m po cap) (h2:Bx W0 b2 R p2 c2) (hB:B0=W0.heap.size) (h:Pst W0 W' B0):SB b1 b2 m R po p2 cap c2 W':=by
 subst hB;exact ⟨h1.below h.1,h2.below h.1⟩
theorem walk (w:World) (a0:Option Addr) (len0 cap0:Nat) (z0:List Int) (w0:IsRow .u8 w a0 len0 cap0 z0) :
  Calls prog 3 #[.slice a0 len0 cap0] w fun e w'=>e=.returned (.bool true)/\Below w.heap.size w w':=by
 have H:Hid (Rdr.IsRow .u8 w a0 len0 cap0 z0):=toRow w0
 have hz:=zeroM
 obtain ⟨cZ,hcZ⟩ : ∃ c,c=cellsM Z0 none 0:=⟨_,rfl⟩
 rw [<- hcZ] at hz
 have HZ:Hid (cZ=cellsM Z0 none 0):=hcZ
 clear w0 hcZ
 have cb:=Rdr.big_any a0 len0 cap0 w H.out.len
 by_cases hbig:Rdr.bigB len0=true
 ·rw [hbig] at cb
  go_enter func3,ntmps3
  go_wp2_with (go_at_call 4;refine cb.mono ?_;rintro e wx ⟨rfl,hwx⟩;rw [hwx];clear hwx wx)
  go_ret
  exact ⟨rfl,Below.refl _ _⟩
 have hbig:Rdr.bigB len0=false:=by simpa using hbig
 rw [hbig] at cb
 go_enter func3,ntmps3
 go_wp2_with fail
 refine cb.mono ?_
 rintro e wx ⟨rfl,hwx⟩
 rw [hwx]
 clear hwx wx cb hbig
 go_wp2_with fail
 refine Calls.mono (drawBusW_any _ _ _ _ _ H.out) ?_
 rintro e w1 ⟨m,po,cap,addr,v,rfl,hsm,own,hb⟩
 have HS:Hid (Sm m):=hsm
 have OW:Hid (w1.ownsRow w.heap.size 2 1 (.slice po m.out.length cap) m.out.length (outC m.out)):=own
 clear hsm own
 have V:Hid (Below w.heap.size w w1):=hb
 clear hb
 rename_i hK
 refine hK _ _ ?_
 clear hK
 refine wpList_plain rfl (fun K hK=>?_)
 go_simp
 refine hK _ _ ?_
 clear hK
 refine wpList_plain rfl (fun K hK=>?_)
 go_simp
 refine hK _ _ ?_
 clear hK
 refine wpList_plain rfl (fun K hK=>?_)
 go_simp
 refine hK _ _ ?_
 clear hK
 refine wpList_plain rfl (fun K hK=>?_)
 go_simp
 refine hK _ _ ?_
 clear hK
 refine wpList_plain rfl (fun K hK=>?_)
 go_simp
 refine hK _ _ ?_
 clear hK
 refine wpList_store_row rfl 30 _ _ rfl w1.heap.size (cellsM m po cap) rfl rfl _ _ (heap_alloc_last w1 _) (infoMs _ _ _) (by rw [HZ.out,size_M,size_M]) (one_M _ _ _) ?_
 rw [World.setRow_alloc_new]
 obtain ⟨u1,hu⟩ : ∃ u,u=w1.alloc (.cells (cellsM m po cap) 30):=⟨_,rfl⟩
 obtain ⟨b1,hbb⟩ : ∃ b,b=w1.heap.size:=⟨_,rfl⟩
 have X1:Hid (Bx u1 b1 m po cap):=by show Bx _ _ _ _ _;rw [hu,hbb];exact Bx.new OW.out
 have V:Hid (Below w.heap.size w u1):=by show Below _ _ _;rw [hu];exact zGr V.out _
 go_upto_region 4 with fail
 rw [<- hu,<- hbb]
 clear hu hbb OW
 have HP:Hid (∀ n,bwM m addr v=some n->Bput.Put m n addr v):=fun n h=>Bput.put_of HS.out h
 have HSR:Hid (Sm ((bwM m addr v).getD Z0)):=(show Sm _ from by
  cases h:bwM m addr v with
  | none=>exact Mnew.sm_zero
  | some n=>exact (HP.out n h).sm)
 obtain ⟨R,hR⟩ : ∃ R,R=(bwM m addr v).getD Z0:=⟨_,rfl⟩
 obtain ⟨f,hf⟩ : ∃ f,f=(bwM m addr v).isSome:=⟨_,rfl⟩
 rw [<- hR] at HSR
 have HE:Hid (R=(bwM m addr v).getD Z0/\f=(bwM m addr v).isSome):=⟨hR,hf⟩
 have HL:Hid (R.out.length<=1048576):=HSR.out.out
 clear hR hf
 go_upto_region 4 with fail
 refine wp_region_list ?_
 refine wpList_load_row rfl 30 _ rfl b1 rfl _ _ (0,0) _ X1.out.box underlying30 rfl (infoMs _ _ _) ?_
 go_wp2_with fail
 refine Calls.mono (Calls.mono (implBW_any m po cap addr v _ HS.out X1.out.sl) fun e w' h=>Busl.told_of h) ?_
 rintro e w2 ⟨⟨p2,c2,rfl,own⟩,hb⟩
 rw [<- HE.out.1,<- HE.out.2]
 rw [<- HE.out.1] at own
 have OW:Hid (w2.ownsRow u1.heap.size 2 1 (.slice p2 R.out.length c2) R.out.length (outC R.out)):=own
 clear own
 have X1:=zHd (X1.out.below hb)
 have V:=zHd (CartL.after V.out hb)
 clear hb
 rename_i hK
 refine hK _ _ ?_
 clear hK
 refine wpList_plain rfl (fun K hK=>?_)
 go_simp
 refine hK _ _ ?_
 clear hK
 refine wpList_plain rfl (fun K hK=>?_)
 go_simp
 refine hK _ _ ?_
 clear hK
 refine wpList_plain rfl (fun K hK=>?_)
 go_simp
 refine hK _ _ ?_
 clear hK
 refine wpList_plain rfl (fun K hK=>?_)
 go_simp
 refine hK _ _ ?_
 clear hK
 refine wpList_store_row rfl 30 _ _ rfl w2.heap.size (cellsM R p2 c2) rfl rfl _ _ (heap_alloc_last w2 _) (infoMs _ _ _) (by rw [HZ.out,size_M,size_M]) (one_M _ _ _) ?_
 rw [World.setRow_alloc_new]
 obtain ⟨u2,hu⟩ : ∃ u,u=w2.alloc (.cells (cellsM R p2 c2) 30):=⟨_,rfl⟩
 obtain ⟨b2,hbb⟩ : ∃ b,b=w2.heap.size:=⟨_,rfl⟩
 have X2:Hid (Bx u2 b2 R p2 c2):=by show Bx _ _ _ _ _;rw [hu,hbb];exact Bx.new OW.out
 have X1:Hid (Bx u2 b1 m po cap):=by show Bx _ _ _ _ _;rw [hu];exact X1.out.alloc _
 have V:Hid (Below w.heap.size w u2):=by show Below _ _ _;rw [hu];exact zGr V.out _
 go_upto_region 5 with fail
 rw [<- hu,<- hbb]
 clear hu hbb OW
 go_upto_region 5 with fail
 refine wp_region_list ?_
 refine wpList_load_row rfl 30 _ rfl b1 rfl _ _ (0,0) _ X1.out.box underlying30 rfl (infoMs _ _ _) ?_
 go_wp2_with fail
 refine Calls.mono (Calls.mono (Busz.specBW_any m po cap addr v _ HS.out X1.out.sl) fun e w' h=>Busl.told_of h) ?_
 rintro e w3 ⟨⟨p3,c3,rfl,own⟩,hb⟩
 rw [<- HE.out.1,<- HE.out.2]
 rw [<- HE.out.1] at own
 have OW:Hid (w3.ownsRow u2.heap.size 2 1 (.slice p3 R.out.length c3) R.out.length (outC R.out)):=own
 clear own
 have X1:=zHd (X1.out.below hb)
 have X2:=zHd (X2.out.below hb)
 have V:=zHd (CartL.after V.out hb)
 clear hb
 rename_i hK
 refine hK _ _ ?_
 clear hK
 refine wpList_plain rfl (fun K hK=>?_)
 go_simp
 refine hK _ _ ?_
 clear hK
 refine wpList_plain rfl (fun K hK=>?_)
 go_simp
 refine hK _ _ ?_
 clear hK
 refine wpList_plain rfl (fun K hK=>?_)
 go_simp
 refine hK _ _ ?_
 clear hK
 refine wpList_plain rfl (fun K hK=>?_)
 go_simp
 refine hK _ _ ?_
 clear hK
 refine wpList_store_row rfl 30 _ _ rfl w3.heap.size (cellsM R p3 c3) rfl rfl _ _ (heap_alloc_last w3 _) (infoMs _ _ _) (by rw [HZ.out,size_M,size_M]) (one_M _ _ _) ?_
 rw [World.setRow_alloc_new]
 obtain ⟨u3,hu⟩ : ∃ u,u=w3.alloc (.cells (cellsM R p3 c3) 30):=⟨_,rfl⟩
 obtain ⟨b3,hbb⟩ : ∃ b,b=w3.heap.size:=⟨_,rfl⟩
 have X3:Hid (Bx u3 b3 R p3 c3):=by show Bx _ _ _ _ _;rw [hu,hbb];exact Bx.new OW.out
 have X1:Hid (Bx u3 b1 m po cap):=by show Bx _ _ _ _ _;rw [hu];exact X1.out.alloc _
 have X2:Hid (Bx u3 b2 R p2 c2):=by show Bx _ _ _ _ _;rw [hu];exact X2.out.alloc _
 have V:Hid (Below w.heap.size w u3):=by show Below _ _ _;rw [hu];exact zGr V.out _
 go_upto_region 6 with fail
 rw [<- hu,<- hbb]
 clear hu hbb OW
 go_wp2_with fail
 refine Calls.mono (drawBusR_any _ _ _ _ _ (H.out.below V.out)) ?_
 rintro e w4 ⟨mx,px,cx,ax,rfl,hsx,own,hb⟩
 have HSX:Hid (Sm mx):=hsx
 have OW:Hid (w4.ownsRow u3.heap.size 2 1 (.slice px mx.out.length cx) mx.out.length (outC mx.out)):=own
 clear hsx own H
 have X1:=zHd (X1.out.below hb)
 have X2:=zHd (X2.out.below hb)
 have X3:=zHd (X3.out.below hb)
 have V:=zHd (CartL.after V.out hb)
 clear hb
 rename_i hK
 refine hK _ _ ?_
 clear hK
 refine wpList_plain rfl (fun K hK=>?_)
 go_simp
 refine hK _ _ ?_
 clear hK
 refine wpList_plain rfl (fun K hK=>?_)
 go_simp
 refine hK _ _ ?_
 clear hK
 refine wpList_plain rfl (fun K hK=>?_)
 go_simp
 refine hK _ _ ?_
 clear hK
 refine wpList_plain rfl (fun K hK=>?_)
 go_simp
 refine hK _ _ ?_
 clear hK
 refine wpList_store_row rfl 30 _ _ rfl w4.heap.size (cellsM mx px cx) rfl rfl _ _ (heap_alloc_last w4 _) (infoMs _ _ _) (by rw [HZ.out,size_M,size_M]) (one_M _ _ _) ?_
 rw [World.setRow_alloc_new]
 obtain ⟨u4,hu⟩ : ∃ u,u=w4.alloc (.cells (cellsM mx px cx) 30):=⟨_,rfl⟩
 obtain ⟨b4,hbb⟩ : ∃ b,b=w4.heap.size:=⟨_,rfl⟩
 have X4:Hid (Bx u4 b4 mx px cx):=by show Bx _ _ _ _ _;rw [hu,hbb];exact Bx.new OW.out
 have X1:Hid (Bx u4 b1 m po cap):=by show Bx _ _ _ _ _;rw [hu];exact X1.out.alloc _
 have X2:Hid (Bx u4 b2 R p2 c2):=by show Bx _ _ _ _ _;rw [hu];exact X2.out.alloc _
 have X3:Hid (Bx u4 b3 R p3 c3):=by show Bx _ _ _ _ _;rw [hu];exact X3.out.alloc _
 have V:Hid (Below w.heap.size w u4):=by show Below _ _ _;rw [hu];exact zGr V.out _
 go_upto_region 7 with fail
 rw [<- hu,<- hbb]
 clear hu hbb OW
 cases hff:f
 ·have HFF:Hid (f=false):=hff
  clear HP
  have k0:Sta.Rg 9 #[.agg (cellsM R p2 c2),.agg (cellsM R p3 c3)] u4 (.bool true):=Sta.rg fun W hb=>Samm.sameM_any _ _ _ _ _ W (X2.out.below hb).sl.row (X3.out.below hb).sl.row HL.out
  have k1:Sta.Rg 10 #[.agg (cellsM mx px cx),.int .i64 ax] u4 (.int .i64 (Bput.rdA mx ax)):=Sta.rg fun W hb=>Bput.implRd_M mx px cx ax W HSX.out (X4.out.below hb).sl
  have k2:Sta.Rg 11 #[.agg (cellsM mx px cx),.int .i64 ax] u4 (.int .i64 (Bput.rdA mx ax)):=Sta.rg fun W hb=>Bput.specRd_M mx px cx ax W HSX.out (X4.out.below hb).sl
  generalize Bput.rdA mx ax=ra at k1 k2
  have l2:=fun d os=>(X2.out.below (below_regrown u4 d os)).load
  have l3:=fun d os=>(X3.out.below (below_regrown u4 d os)).load
  have l4:=fun d os=>(X4.out.below (below_regrown u4 d os)).load
  generalize cellsM R p2 c2=cB at k0 l2
  generalize cellsM R p3 c3=cC at k0 l3
  generalize cellsM mx px cx=cD at k1 k2 l4
  refine wp_region_quiet_below (by kernel_rfl) (by kernel_rfl) ?_
  repeat (first|(go_big_quiet_step (first|fail|with_reducible exact k0 _ _|with_reducible exact k1 _ _|with_reducible exact k2 _ _))|(refine Stps.wpQuiet_load (by rfl) 30 _ rfl ⟨b2,0,none⟩ rfl _ (fun W hW=>by obtain ⟨⟨d,o⟩,rfl⟩:=hW;exact l2 d o) ?_;simp only [Act.put,List.setIfInBounds_toArray,List.set_cons_succ,List.set_cons_zero])|(refine Stps.wpQuiet_load (by rfl) 30 _ rfl ⟨b3,0,none⟩ rfl _ (fun W hW=>by obtain ⟨⟨d,o⟩,rfl⟩:=hW;exact l3 d o) ?_;simp only [Act.put,List.setIfInBounds_toArray,List.set_cons_succ,List.set_cons_zero])|(refine Stps.wpQuiet_load (by rfl) 30 _ rfl ⟨b4,0,none⟩ rfl _ (fun W hW=>by obtain ⟨⟨d,o⟩,rfl⟩:=hW;exact l4 d o) ?_;simp only [Act.put,List.setIfInBounds_toArray,List.set_cons_succ,List.set_cons_zero]))
  refine wpQuiet_nil ?_
  intro _ hw'
  obtain ⟨⟨dq,osq⟩,hw''⟩:=hw'
  subst hw''
  obtain ⟨u5,hz5⟩ : ∃ u,u=Go.Sort.grow (redrawn u4 dq) osq:=⟨_,rfl⟩
  have hr5:=below_regrown u4 dq osq
  rw [<- hz5] at hr5
  rw [<- hz5]
  have X1:=zHd (X1.out.below hr5)
  have X2:=zHd (X2.out.below hr5)
  have X3:=zHd (X3.out.below hr5)
  have V:=zHd (CartL.after V.out hr5)
  clear hz5 hr5 k0 k1 k2 l2 l3 l4 X4
  go_upto_region 8 with fail
  refine wp_region_list ?_
  refine wpList_plain rfl (fun K hK=>?_)
  go_simp
  refine hK _ _ ?_
  clear hK
  refine wpList_plain rfl (fun K hK=>?_)
  go_simp
  refine hK _ _ ?_
  clear hK
  refine wpList_plain rfl (fun K hK=>?_)
  go_simp
  refine hK _ _ ?_
  clear hK
  refine wpList_plain rfl (fun K hK=>?_)
  go_simp
  refine hK _ _ ?_
  clear hK
  refine wpList_step fun K hK=>?_
  rw [if_pos (by rfl)]
  refine wp_load_row 30 _ rfl b2 rfl _ _ (0,0) _ X2.out.box underlying30 rfl (infoMs _ _ _) ?_
  refine hK _ _ ?_
  clear hK
  refine wpList_step fun K hK=>?_
  rw [if_pos (by rfl)]
  refine wp_load_row 30 _ rfl b3 rfl _ _ (0,0) _ X3.out.box underlying30 rfl (infoMs _ _ _) ?_
  refine hK _ _ ?_
  clear hK
  go_wp2_with fail
  refine Calls.mono (Samm.sameM_any _ _ _ _ _ _ X2.out.sl.row X3.out.sl.row HL.out) ?_
  rintro e w6 ⟨rfl,hb⟩
  have V:=zHd (CartL.after V.out hb)
  clear hb
  go_wp2
  go_ret
  exact ⟨rfl,V.out⟩
 have HB:Hid (bwM m addr v=some R):=(show _=_ from by
  obtain ⟨e1,e2⟩:=HE.out
  cases h:bwM m addr v with
  | none=>rw [h,hff] at e2;cases e2
  | some n=>rw [h] at e1;rw [e1];rfl)
 have HPT:Hid (Bput.Put m R addr v):=HP.out R HB.out
 clear HP HE hff
 have k0:Sta.Rg 9 #[.agg (cellsM R p2 c2),.agg (cellsM R p3 c3)] u4 (.bool true):=Sta.rg fun W hb=>Samm.sameM_any _ _ _ _ _ W (X2.out.below hb).sl.row (X3.out.below hb).sl.row HL.out
 have k1:Sta.Rg 10 #[.agg (cellsM mx px cx),.int .i64 ax] u4 (.int .i64 (Bput.rdA mx ax)):=Sta.rg fun W hb=>Bput.implRd_M mx px cx ax W HSX.out (X4.out.below hb).sl
 have k2:Sta.Rg 11 #[.agg (cellsM mx px cx),.int .i64 ax] u4 (.int .i64 (Bput.rdA mx ax)):=Sta.rg fun W hb=>Bput.specRd_M mx px cx ax W HSX.out (X4.out.below hb).sl
 generalize Bput.rdA mx ax=ra at k1 k2
 have l2:=fun d os=>(X2.out.below (below_regrown u4 d os)).load
 have l3:=fun d os=>(X3.out.below (below_regrown u4 d os)).load
 have l4:=fun d os=>(X4.out.below (below_regrown u4 d os)).load
 generalize cellsM R p2 c2=cB at k0 l2
 generalize cellsM R p3 c3=cC at k0 l3
 generalize cellsM mx px cx=cD at k1 k2 l4
 refine wp_region_quiet_below (by kernel_rfl) (by kernel_rfl) ?_
 repeat (first|(go_big_quiet_step (first|fail|with_reducible exact k0 _ _|with_reducible exact k1 _ _|with_reducible exact k2 _ _))|(refine Stps.wpQuiet_load (by rfl) 30 _ rfl ⟨b2,0,none⟩ rfl _ (fun W hW=>by obtain ⟨⟨d,o⟩,rfl⟩:=hW;exact l2 d o) ?_;simp only [Act.put,List.setIfInBounds_toArray,List.set_cons_succ,List.set_cons_zero])|(refine Stps.wpQuiet_load (by rfl) 30 _ rfl ⟨b3,0,none⟩ rfl _ (fun W hW=>by obtain ⟨⟨d,o⟩,rfl⟩:=hW;exact l3 d o) ?_;simp only [Act.put,List.setIfInBounds_toArray,List.set_cons_succ,List.set_cons_zero])|(refine Stps.wpQuiet_load (by rfl) 30 _ rfl ⟨b4,0,none⟩ rfl _ (fun W hW=>by obtain ⟨⟨d,o⟩,rfl⟩:=hW;exact l4 d o) ?_;simp only [Act.put,List.setIfInBounds_toArray,List.set_cons_succ,List.set_cons_zero]))
 refine wpQuiet_nil ?_
 intro _ hw'
 obtain ⟨⟨dq,osq⟩,hw''⟩:=hw'
 subst hw''
 obtain ⟨u5,hz5⟩ : ∃ u,u=Go.Sort.grow (redrawn u4 dq) osq:=⟨_,rfl⟩
 have hr5:=below_regrown u4 dq osq
 rw [<- hz5] at hr5
 rw [<- hz5]
 have X1:=zHd (X1.out.below hr5)
 have X2:=zHd (X2.out.below hr5)
 have X3:=zHd (X3.out.below hr5)
 have V:=zHd (CartL.after V.out hr5)
 clear hz5 hr5 k0 k1 k2 l2 l3 l4 X4
 clear X3
 go_wp2_with fail
 go_loopw [12] (fun a wr=>∃ k:Nat,k<=52/\a=.int .i64 (49152+5*(k:Int))/\Hid (Bx wr b1 m po cap)/\Hid (Bx wr b2 R p2 c2)/\Hid (Below w.heap.size w wr)) (fun a _=>(49412-(intOf a)).toNat)
 case atStart=>exact ⟨0,by decide,rfl,X1.out,X2.out,V.out⟩
 case round =>
  clear X1 X2 V
  obtain ⟨k,hk,rfl,X1,X2,V⟩:=hrel
  by_cases hlt:k<52
  ·have hw0:=HPT.out.work (49152+5*(k:Int)) (by omega) (by omega)
   have c1:=fun W (h:Sl W po m.out cap)=>Bput.implRd_M m po cap (49152+5*(k:Int)) W HS.out h
   have c2':=fun W (h:Sl W p2 R.out c2)=>Bput.implRd_M R p2 c2 (49152+5*(k:Int)) W HSR.out h
   have dl:decide (49152+5*(k:Int)<49408)=true:=decide_eq_true (by omega)
   have dk:IntKind.i64.wrap (49152+5*(k:Int)+5)=49152+5*((k+1:Nat):Int):=by rw [IntKind.wrap_i64];omega
   generalize Bput.rdA R (49152+5*(k:Int))=yR at c2' hw0
   generalize Bput.rdA m (49152+5*(k:Int))=yM at c1 hw0
   have HMS:Hid ((49412-(49152+5*((k+1:Nat):Int))).toNat<(49412-(49152+5*(k:Int))).toNat):=(show _<_ from by omega)
   have HKK:Hid (k<52):=hlt
   generalize 49152+5*(k:Int)=aa at *
   go_upto_region 12 with fail
   refine wp_region_list ?_
   refine wpList_load_row rfl 30 _ rfl b1 rfl _ _ (0,0) _ X1.out.box underlying30 rfl (infoMs _ _ _) ?_
   go_wp2_with fail
   refine Calls.mono (c1 _ X1.out.sl) ?_
   rintro e w6 ⟨rfl,hb⟩
   have X1:=zHd (X1.out.below hb)
   have X2:=zHd (X2.out.below hb)
   have V:=zHd (CartL.after V.out hb)
   clear hb c1
   by_cases ha:aa=addr
   ·rw [if_pos ha] at hw0
    subst hw0
    have ea:(aa == addr)=true:=by simpa using ha
    have HAA:Hid (aa=addr):=ha
    clear ha
    go_upto_region 15 with fail
    refine wp_region_list ?_
    refine wpList_load_row rfl 30 _ rfl b2 rfl _ _ (0,0) _ X2.out.box underlying30 rfl (infoMs _ _ _) ?_
    go_wp2_with fail
    refine Calls.mono (c2' _ X2.out.sl) ?_
    rintro e w7 ⟨rfl,hb⟩
    have X1:=zHd (X1.out.below hb)
    have X2:=zHd (X2.out.below hb)
    have V:=zHd (CartL.after V.out hb)
    clear hb c2'
    go_wp2
    go_roundw
    case rel=>exact ⟨k+1,by have:=HKK.out;omega,by go_num,X1.out,X2.out,V.out⟩
    case measure=>exact HMS.out
   ·rw [if_neg ha] at hw0
    subst hw0
    have ea:(aa == addr)=false:=by simpa using ha
    have HAA:Hid (¬ aa=addr):=ha
    clear ha
    go_upto_region 15 with fail
    refine wp_region_list ?_
    refine wpList_load_row rfl 30 _ rfl b2 rfl _ _ (0,0) _ X2.out.box underlying30 rfl (infoMs _ _ _) ?_
    go_wp2_with fail
    refine Calls.mono (c2' _ X2.out.sl) ?_
    rintro e w7 ⟨rfl,hb⟩
    have X1:=zHd (X1.out.below hb)
    have X2:=zHd (X2.out.below hb)
    have V:=zHd (CartL.after V.out hb)
    clear hb c2'
    go_wp2
    go_roundw
    case rel=>exact ⟨k+1,by have:=HKK.out;omega,by go_num,X1.out,X2.out,V.out⟩
    case measure=>exact HMS.out
  ·have hke:k=52:=by omega
   subst hke
   have dl:decide (49152+5*((52:Nat):Int)<49408)=false:=by decide
   have HNO:Hid (m.out.length<=1048576):=HS.out.out
   by_cases hA:49152<=addr/\addr<49408
   ·obtain ⟨hA0,hA1⟩:=hA
    have x0:decide (49152<=addr)=true:=decide_eq_true hA0
    have x1:decide (addr<49408)=true:=decide_eq_true hA1
    have hne:¬ addr=65281:=by omega
    have HAD:Hid (49152<=addr/\addr<49408):=⟨hA0,hA1⟩
    clear hA0 hA1
    have hbk:=HPT.out.back (.inl ⟨HAD.out.1,by have:=HAD.out.2;omega⟩)
    have c3:=fun W (h:Sl W p2 R.out c2)=>Bput.implRd_M R p2 c2 addr W HSR.out h
    rw [hbk] at c3
    clear hbk
    go_upto_region 18 with fail
    refine wp_region_list ?_
    refine wpList_plain rfl (fun K hK=>?_)
    go_simp
    refine hK _ _ ?_
    clear hK
    refine wpList_plain rfl (fun K hK=>?_)
    go_simp
    refine hK _ _ ?_
    clear hK
    refine wpList_step fun K hK=>?_
    rw [if_pos (by rfl)]
    refine wp_load_row 30 _ rfl b2 rfl _ _ (0,0) _ X2.out.box underlying30 rfl (infoMs _ _ _) ?_
    refine hK _ _ ?_
    clear hK
    go_wp2_with fail
    refine Calls.mono (c3 _ X2.out.sl) ?_
    rintro e w8 ⟨rfl,hb⟩
    clear c3
    have X1:=zHd (X1.out.below hb)
    have X2:=zHd (X2.out.below hb)
    have V:=zHd (CartL.after V.out hb)
    clear hb
    have en:(addr == 65281)=false:=by simpa using hne
    have ho:=HPT.out.same hne
    have HNE:Hid (¬ addr=65281):=hne
    go_upto_region 22 with fail
    refine wp_region_list ?_
    refine wpList_load_row rfl 30 _ rfl b2 rfl _ _ (0,0) _ X2.out.box underlying30 rfl (infoMs _ _ _) ?_
    go_wp2_with fail
    refine Calls.mono (implOk_M R p2 c2 _ HSR.out X2.out.sl) ?_
    rintro e w9 ⟨rfl,hb⟩
    rw [HPT.out.ok]
    have X1:=zHd (X1.out.below hb)
    have X2:=zHd (X2.out.below hb)
    have V:=zHd (CartL.after V.out hb)
    clear hb
    have a21:=celM X2.out.box 21 (.slice p2 R.out.length c2) rfl
    rw [ho] at a21
    have b21:=celM X1.out.box 21 (.slice po m.out.length cap) rfl
    have HXR:Hid (Outs.Row w9 p2 m.out):=(show Outs.Row _ _ _ from by rw [<- ho];exact X2.out.sl.row)
    clear ho
    go_wp2_with fail
    refine Calls.mono (Samm.sameInts_any p2 po c2 cap m.out _ HXR.out X1.out.sl.row HNO.out) ?_
    rintro e w10 ⟨rfl,n10,hw10⟩
    have hb:Below w9.heap.size w9 w10:=by rw [hw10];exact below_drewN zRf _
    clear hw10 HXR a21 b21
    have X1:=zHd (X1.out.below hb)
    have X2:=zHd (X2.out.below hb)
    have V:=zHd (CartL.after V.out hb)
    clear hb
    have p0:=celM X2.out.box 0 (.int .i64 R.ra) rfl
    rw [HPT.out.stay.ra] at p0
    have q0:=celM X1.out.box 0 (.int .i64 m.ra) rfl
    have p1:=celM X2.out.box 1 (.int .i64 R.rf) rfl
    rw [HPT.out.stay.rf] at p1
    have q1:=celM X1.out.box 1 (.int .i64 m.rf) rfl
    have p2:=celM X2.out.box 2 (.int .i64 R.rB) rfl
    rw [HPT.out.stay.rB] at p2
    have q2:=celM X1.out.box 2 (.int .i64 m.rB) rfl
    have p3:=celM X2.out.box 3 (.int .i64 R.rC) rfl
    rw [HPT.out.stay.rC] at p3
    have q3:=celM X1.out.box 3 (.int .i64 m.rC) rfl
    have p4:=celM X2.out.box 4 (.int .i64 R.rD) rfl
    rw [HPT.out.stay.rD] at p4
    have q4:=celM X1.out.box 4 (.int .i64 m.rD) rfl
    have p5:=celM X2.out.box 5 (.int .i64 R.rE) rfl
    rw [HPT.out.stay.rE] at p5
    have q5:=celM X1.out.box 5 (.int .i64 m.rE) rfl
    have p6:=celM X2.out.box 6 (.int .i64 R.rH) rfl
    rw [HPT.out.stay.rH] at p6
    have q6:=celM X1.out.box 6 (.int .i64 m.rH) rfl
    have p7:=celM X2.out.box 7 (.int .i64 R.rL) rfl
    rw [HPT.out.stay.rL] at p7
    have q7:=celM X1.out.box 7 (.int .i64 m.rL) rfl
    have p8:=celM X2.out.box 8 (.int .i64 R.sp) rfl
    rw [HPT.out.stay.sp] at p8
    have q8:=celM X1.out.box 8 (.int .i64 m.sp) rfl
    have p9:=celM X2.out.box 9 (.int .i64 R.pc) rfl
    rw [HPT.out.stay.pc] at p9
    have q9:=celM X1.out.box 9 (.int .i64 m.pc) rfl
    have p10:=celM X2.out.box 10 (.bool R.ime) rfl
    rw [HPT.out.stay.ime] at p10
    have q10:=celM X1.out.box 10 (.bool m.ime) rfl
    have p11:=celM X2.out.box 11 (.bool R.hal) rfl
    rw [HPT.out.stay.hal] at p11
    have q11:=celM X1.out.box 11 (.bool m.hal) rfl
    have p12:=celM X2.out.box 12 (.string R.rom) rfl
    rw [HPT.out.stay.rom] at p12
    have q12:=celM X1.out.box 12 (.string m.rom) rfl
    generalize m.ra=zra at p0 q0
    generalize m.rf=zrf at p1 q1
    generalize m.rB=zrB at p2 q2
    generalize m.rC=zrC at p3 q3
    generalize m.rD=zrD at p4 q4
    generalize m.rE=zrE at p5 q5
    generalize m.rH=zrH at p6 q6
    generalize m.rL=zrL at p7 q7
    generalize m.sp=zsp at p8 q8
    generalize m.pc=zpc at p9 q9
    generalize m.ime=zime at p10 q10
    generalize m.hal=zhal at p11 q11
    generalize m.rom=zrom at p12 q12
    go_wp2
    go_ret
    exact ⟨rfl,V.out⟩
   by_cases hB:65408<=addr/\addr<65535
   ·obtain ⟨hB0,hB1⟩:=hB
    have x0:decide (49152<=addr)=true:=decide_eq_true (by omega)
    have x1:decide (addr<49408)=false:=decide_eq_false (by omega)
    have x2:decide (65408<=addr)=true:=decide_eq_true hB0
    have x3:decide (addr<65535)=true:=decide_eq_true hB1
    have hne:¬ addr=65281:=by omega
    have HAD:Hid (65408<=addr/\addr<65535):=⟨hB0,hB1⟩
    clear hB0 hB1 hA
    have hbk:=HPT.out.back (.inr ⟨HAD.out.1,by have:=HAD.out.2;omega⟩)
    have c3:=fun W (h:Sl W p2 R.out c2)=>Bput.implRd_M R p2 c2 addr W HSR.out h
    rw [hbk] at c3
    clear hbk
    go_upto_region 18 with fail
    refine wp_region_list ?_
    refine wpList_plain rfl (fun K hK=>?_)
    go_simp
    refine hK _ _ ?_
    clear hK
    refine wpList_plain rfl (fun K hK=>?_)
    go_simp
    refine hK _ _ ?_
    clear hK
    refine wpList_step fun K hK=>?_
    rw [if_pos (by rfl)]
    refine wp_load_row 30 _ rfl b2 rfl _ _ (0,0) _ X2.out.box underlying30 rfl (infoMs _ _ _) ?_
    refine hK _ _ ?_
    clear hK
    go_wp2_with fail
    refine Calls.mono (c3 _ X2.out.sl) ?_
    rintro e w8 ⟨rfl,hb⟩
    clear c3
    have X1:=zHd (X1.out.below hb)
    have X2:=zHd (X2.out.below hb)
    have V:=zHd (CartL.after V.out hb)
    clear hb
    have en:(addr == 65281)=false:=by simpa using hne
    have ho:=HPT.out.same hne
    have HNE:Hid (¬ addr=65281):=hne
    go_upto_region 22 with fail
    refine wp_region_list ?_
    refine wpList_load_row rfl 30 _ rfl b2 rfl _ _ (0,0) _ X2.out.box underlying30 rfl (infoMs _ _ _) ?_
    go_wp2_with fail
    refine Calls.mono (implOk_M R p2 c2 _ HSR.out X2.out.sl) ?_
    rintro e w9 ⟨rfl,hb⟩
    rw [HPT.out.ok]
    have X1:=zHd (X1.out.below hb)
    have X2:=zHd (X2.out.below hb)
    have V:=zHd (CartL.after V.out hb)
    clear hb
    have a21:=celM X2.out.box 21 (.slice p2 R.out.length c2) rfl
    rw [ho] at a21
    have b21:=celM X1.out.box 21 (.slice po m.out.length cap) rfl
    have HXR:Hid (Outs.Row w9 p2 m.out):=(show Outs.Row _ _ _ from by rw [<- ho];exact X2.out.sl.row)
    clear ho
    go_wp2_with fail
    refine Calls.mono (Samm.sameInts_any p2 po c2 cap m.out _ HXR.out X1.out.sl.row HNO.out) ?_
    rintro e w10 ⟨rfl,n10,hw10⟩
    have hb:Below w9.heap.size w9 w10:=by rw [hw10];exact below_drewN zRf _
    clear hw10 HXR a21 b21
    have X1:=zHd (X1.out.below hb)
    have X2:=zHd (X2.out.below hb)
    have V:=zHd (CartL.after V.out hb)
    clear hb
    have p0:=celM X2.out.box 0 (.int .i64 R.ra) rfl
    rw [HPT.out.stay.ra] at p0
    have q0:=celM X1.out.box 0 (.int .i64 m.ra) rfl
    have p1:=celM X2.out.box 1 (.int .i64 R.rf) rfl
    rw [HPT.out.stay.rf] at p1
    have q1:=celM X1.out.box 1 (.int .i64 m.rf) rfl
    have p2:=celM X2.out.box 2 (.int .i64 R.rB) rfl
    rw [HPT.out.stay.rB] at p2
    have q2:=celM X1.out.box 2 (.int .i64 m.rB) rfl
    have p3:=celM X2.out.box 3 (.int .i64 R.rC) rfl
    rw [HPT.out.stay.rC] at p3
    have q3:=celM X1.out.box 3 (.int .i64 m.rC) rfl
    have p4:=celM X2.out.box 4 (.int .i64 R.rD) rfl
    rw [HPT.out.stay.rD] at p4
    have q4:=celM X1.out.box 4 (.int .i64 m.rD) rfl
    have p5:=celM X2.out.box 5 (.int .i64 R.rE) rfl
    rw [HPT.out.stay.rE] at p5
    have q5:=celM X1.out.box 5 (.int .i64 m.rE) rfl
    have p6:=celM X2.out.box 6 (.int .i64 R.rH) rfl
    rw [HPT.out.stay.rH] at p6
    have q6:=celM X1.out.box 6 (.int .i64 m.rH) rfl
    have p7:=celM X2.out.box 7 (.int .i64 R.rL) rfl
    rw [HPT.out.stay.rL] at p7
    have q7:=celM X1.out.box 7 (.int .i64 m.rL) rfl
    have p8:=celM X2.out.box 8 (.int .i64 R.sp) rfl
    rw [HPT.out.stay.sp] at p8
    have q8:=celM X1.out.box 8 (.int .i64 m.sp) rfl
    have p9:=celM X2.out.box 9 (.int .i64 R.pc) rfl
    rw [HPT.out.stay.pc] at p9
    have q9:=celM X1.out.box 9 (.int .i64 m.pc) rfl
    have p10:=celM X2.out.box 10 (.bool R.ime) rfl
    rw [HPT.out.stay.ime] at p10
    have q10:=celM X1.out.box 10 (.bool m.ime) rfl
    have p11:=celM X2.out.box 11 (.bool R.hal) rfl
    rw [HPT.out.stay.hal] at p11
    have q11:=celM X1.out.box 11 (.bool m.hal) rfl
    have p12:=celM X2.out.box 12 (.string R.rom) rfl
    rw [HPT.out.stay.rom] at p12
    have q12:=celM X1.out.box 12 (.string m.rom) rfl
    generalize m.ra=zra at p0 q0
    generalize m.rf=zrf at p1 q1
    generalize m.rB=zrB at p2 q2
    generalize m.rC=zrC at p3 q3
    generalize m.rD=zrD at p4 q4
    generalize m.rE=zrE at p5 q5
    generalize m.rH=zrH at p6 q6
    generalize m.rL=zrL at p7 q7
    generalize m.sp=zsp at p8 q8
    generalize m.pc=zpc at p9 q9
    generalize m.ime=zime at p10 q10
    generalize m.hal=zhal at p11 q11
    generalize m.rom=zrom at p12 q12
    go_wp2
    go_ret
    exact ⟨rfl,V.out⟩
   by_cases hne:addr=65281
   ·have x0:decide (49152<=addr)=true:=decide_eq_true (by omega)
    have x1:decide (addr<49408)=false:=decide_eq_false (by omega)
    have x2:decide (65408<=addr)=false:=decide_eq_false (by omega)
    have HAD:Hid (¬ (49152<=addr/\addr<49408)/\¬ (65408<=addr/\addr<65535)):=⟨hA,hB⟩
    have HNQ:Hid (addr=65281):=hne
    clear hA hB hne
    go_upto_region 20 with fail
    clear x0 x1 x2
    have hne:=HNQ.out
    have en:(addr == 65281)=true:=by simpa using hne
    obtain ⟨hro,ho100⟩:=HPT.out.out hne
    have HRO:Hid (R.out=m.out ++ [v]):=hro
    have HO100:Hid (m.out.length<100):=ho100
    have HNE:Hid (addr=65281):=hne
    obtain ⟨i0,hi,hz0,hz1,hz2⟩:=Busw.info_parts Busw.info2
    clear hro ho100 hne
    go_upto_region 21 with fail
    refine wp_region_held (S:=SB b1 b2 m R po p2 cap c2) (by kernel_rfl) ?_
    try (change wpAnyH _ _ _ _ _ _ _ _ (World.drew _))
    obtain ⟨W0,hW0⟩ : ∃ u,u=World.drew wr:=⟨_,rfl⟩
    have X1:Hid (Bx W0 b1 m po cap):=(show Bx _ _ _ _ _ from by rw [hW0];exact X1.out.below zRf.drew)
    have X2:Hid (Bx W0 b2 R p2 c2):=(show Bx _ _ _ _ _ from by rw [hW0];exact X2.out.below zRf.drew)
    have V:Hid (Below w.heap.size w W0):=(show Below _ _ _ from by rw [hW0];exact V.out.drew)
    rw [<- hW0]
    clear hW0
    obtain ⟨B0,hB0⟩ : ∃ n,n=W0.heap.size:=⟨_,rfl⟩
    have HB0:Hid (B0=W0.heap.size):=hB0
    have PS:Hid (Pst W0 W0 B0):=(show Pst _ _ _ from by rw [hB0];exact ⟨Below.refl _ _,Nat.le_refl _⟩)
    clear hB0
    refine wpAnyH_take (i:=0) (v:=?ve1001) rfl (by kernel_rfl) (by kernel_rfl) (by kernel_rfl) (fun _ _ _ h=>h) (Or.inl ⟨by rfl,?hye1001⟩) (sOf X1.out X2.out HB0.out PS.out) ?reste1001
    case hye1001=>(intro w hS;go_simp;try with_reducible rfl)
    refine wpAnyH_take (i:=3) (v:=?ve1002) rfl (by kernel_rfl) (by kernel_rfl) (by kernel_rfl) (fun _ _ _ h=>h) (Or.inl ⟨by rfl,?hye1002⟩) (sOf X1.out X2.out HB0.out PS.out) ?reste1002
    case hye1002=>(intro w hS;go_simp;try with_reducible rfl)
    go_simp
    refine wpAnyH_take (i:=6) (v:=?ve1003) rfl (by kernel_rfl) (by kernel_rfl) (by kernel_rfl) (fun _ _ _ h=>h) (Or.inl ⟨by rfl,?hye1003⟩) (sOf X1.out X2.out HB0.out PS.out) ?reste1003
    case hye1003=>(intro w hS;go_simp;try with_reducible rfl)
    refine wpAnyH_take (i:=1) (v:=?ve1004) rfl (by kernel_rfl) (by kernel_rfl) (by kernel_rfl) (fun _ _ _ h=>h) (Or.inl ⟨by rfl,?hye1004⟩) (sOf X1.out X2.out HB0.out PS.out) ?reste1004
    case hye1004=>(intro w hS;have c21:=celM hS.2.box 21 (.slice p2 R.out.length c2) rfl;go_simp;try with_reducible rfl)
    refine wpAnyH_take (i:=4) (v:=?ve1005) rfl (by kernel_rfl) (by kernel_rfl) (by kernel_rfl) (fun _ _ _ h=>h) (Or.inl ⟨by rfl,?hye1005⟩) (sOf X1.out X2.out HB0.out PS.out) ?reste1005
    case hye1005=>(intro w hS;have c21:=celM hS.1.box 21 (.slice po m.out.length cap) rfl;go_simp;try with_reducible rfl)
    go_simp
    refine wpAnyH_all (rs:=[2,7]) (by kernel_rfl) (by simp) (List.forall_mem_cons.2 ⟨?_,List.forall_mem_cons.2 ⟨?_,fun _ h=>absurd h List.not_mem_nil⟩⟩)
    ·refine opH rfl (by rfl) (fun K hK=>?_)
     go_simp
     refine hK _ _ (sOf X1.out X2.out HB0.out (PS.out.alloc _)) ?_
     clear hK
     obtain ⟨Y1,hn⟩ : ∃ u,u=W0.alloc (.cells #[] 2):=⟨_,rfl⟩
     obtain ⟨gB,hg⟩ : ∃ g,g=W0.heap.size:=⟨_,rfl⟩
     have EM:Hid (Emp Y1 B0 gB):=(show Emp _ _ _ from by rw [hn,hg];exact Emp.new _ PS.out.2)
     have PS:Hid (Pst W0 Y1 B0):=(show Pst _ _ _ from by rw [hn];exact PS.out.alloc _)
     rw [<- hn,<- hg]
     clear hn hg
     refine wpAnyH_all (rs:=[5,7]) (by kernel_rfl) (by simp) (List.forall_mem_cons.2 ⟨?_,List.forall_mem_cons.2 ⟨?_,fun _ h=>absurd h List.not_mem_nil⟩⟩)
     ·refine opH rfl (by rfl) (fun K hK=>?_)
      refine Bput.wp_append_sl (.tmp 114) (.tmp 116) rfl B0 _ 0 [] rfl EM.out.1 po m.out cap rfl (X1.out.below (by have h:=PS.out.1;rwa [HB0.out] at h)).sl (by have:=HO100.out;omega) PS.out.2 ?_
      intro vD Y2 hown hgrow
      refine hK _ _ (sOf X1.out X2.out HB0.out (PS.out.grown hgrow (own_ge EM.out.1))) ?_
      clear hK
      have OD:Hid (Y2.ownsRow B0 2 1 vD m.out.length (outC m.out)):=(show World.ownsRow _ _ _ _ _ _ _ from by have h:=hown;rwa [Nat.zero_add,List.nil_append] at h)
      have PS:Hid (Pst W0 Y2 B0):=PS.out.grown hgrow (own_ge EM.out.1)
      clear hown hgrow EM
      refine wpAnyH_all (rs:=[7]) (by kernel_rfl) (by simp) (List.forall_mem_cons.2 ⟨?_,fun _ h=>absurd h List.not_mem_nil⟩)
      refine opH rfl (by rfl) (fun K hK=>?_)
      go_simp
      refine hK _ _ (sOf X1.out X2.out HB0.out (PS.out.alloc _)) ?_
      clear hK
      obtain ⟨Y3,hn⟩ : ∃ u,u=Y2.alloc (.cells #[.int .i64 v] 2):=⟨_,rfl⟩
      obtain ⟨gE,hg⟩ : ∃ g,g=Y2.heap.size:=⟨_,rfl⟩
      have OD:Hid (Y3.ownsRow B0 2 1 vD m.out.length (outC m.out)):=(show World.ownsRow _ _ _ _ _ _ _ from by rw [hn];exact OD.out.alloc _)
      have CE:Hid (Cel Y3 gE v):=(show Cel _ _ _ from by rw [hn,hg];exact Cel.new _ _)
      have PS:Hid (Pst W0 Y3 B0):=(show Pst _ _ _ from by rw [hn];exact PS.out.alloc _)
      rw [<- hn,<- hg]
      clear hn hg
      refine wpAnyH_all (rs:=[8]) (by kernel_rfl) (by simp) (List.forall_mem_cons.2 ⟨?_,fun _ h=>absurd h List.not_mem_nil⟩)
      refine opH rfl (by rfl) (fun K hK=>?_)
      refine wp_append_own Y3 (.tmp 117) (.tmp 119) 28 rfl B0 2 i0 (.int .i64 0) 1 8 underlying28 hi hz0 hz1 hz2 rfl (by decide) vD m.out.length (outC m.out) rfl OD.out ⟨gE,0,none⟩ 1 1 [.int .i64 v] rfl rfl (cel_at CE.out) (by intro u hu;simp at hu;subst hu;rfl) (by have:=HO100.out;unfold maxLen;omega) (by have:=HO100.out;omega) PS.out.2 ?_
      intro vF Y4 hown hgrow _
      refine hK _ _ (sOf X1.out X2.out HB0.out (PS.out.grown hgrow (own_ge OD.out))) ?_
      clear hK
      have OF:Hid (Y4.ownsRow B0 2 1 vF R.out.length (outC R.out)):=(show World.ownsRow _ _ _ _ _ _ _ from by rw [HRO.out];have h:=hown;simpa [outC] using h)
      have PS:Hid (Pst W0 Y4 B0):=PS.out.grown hgrow (own_ge OD.out)
      clear hown hgrow OD CE
      refine wpAnyH_all (rs:=[9]) (by kernel_rfl) (by simp) (List.forall_mem_cons.2 ⟨?_,fun _ h=>absurd h List.not_mem_nil⟩)
      refine opH rfl (by rfl) (fun K hK=>?_)
      obtain ⟨pF,cF,rfl⟩:=own_slice OF.out
      go_wp2_with fail
      refine Calls.mono (Samm.sameInts_any p2 pF c2 cF R.out _ (X2.out.below (by have h:=PS.out.1;rwa [HB0.out] at h)).sl.row (own_sl OF.out rfl).row HL.out) ?_
      rintro e Y5 ⟨rfl,nn,hwn⟩
      have PS:Hid (Pst W0 Y5 B0):=PS.out.below (by rw [hwn];exact below_drewN zRf _)
      clear hwn OF
      refine hK _ _ (sOf X1.out X2.out HB0.out (PS.out)) ?_
      clear hK
      refine wpAnyH_take (i:=10) (v:=?ve1006) rfl (by kernel_rfl) (by kernel_rfl) (by kernel_rfl) (fun _ _ _ h=>h) (Or.inl ⟨by rfl,?hye1006⟩) (sOf X1.out X2.out HB0.out PS.out) ?reste1006
      case hye1006=>(intro w hS;go_simp;try with_reducible rfl)
      refine wpAnyH_all (rs:=[11]) (by kernel_rfl) (by simp) (List.forall_mem_cons.2 ⟨?_,fun _ h=>absurd h List.not_mem_nil⟩)
      refine opH rfl (by rfl) (fun K hK=>?_)
      refine wp_load_row 30 _ rfl b2 rfl _ _ (0,0) _ (X2.out.below (by have h:=PS.out.1;rwa [HB0.out] at h)).box underlying30 rfl (infoMs _ _ _) ?_
      refine hK _ _ (sOf X1.out X2.out HB0.out (PS.out)) ?_
      clear hK
      refine wpAnyH_all (rs:=[12]) (by kernel_rfl) (by simp) (List.forall_mem_cons.2 ⟨?_,fun _ h=>absurd h List.not_mem_nil⟩)
      refine opH rfl (by rfl) (fun K hK=>?_)
      go_wp2_with fail
      refine Calls.mono (implOk_M R p2 c2 _ HSR.out (X2.out.below (by have h:=PS.out.1;rwa [HB0.out] at h)).sl) ?_
      rintro e Z9 ⟨rfl,hb⟩
      rw [HPT.out.ok]
      have PS:=zHd (PS.out.below hb)
      clear hb
      refine hK _ _ (sOf X1.out X2.out HB0.out (PS.out)) ?_
      clear hK
      refine wpAnyH_take (i:=13) (v:=?ve1007) rfl (by kernel_rfl) (by kernel_rfl) (by kernel_rfl) (fun _ _ _ h=>h) (Or.inl ⟨by rfl,?hye1007⟩) (sOf X1.out X2.out HB0.out PS.out) ?reste1007
      case hye1007=>(intro w hS;go_simp;try with_reducible rfl)
      refine wpAnyH_take (i:=14) (v:=?ve1008) rfl (by kernel_rfl) (by kernel_rfl) (by kernel_rfl) (fun _ _ _ h=>h) (Or.inl ⟨by rfl,?hye1008⟩) (sOf X1.out X2.out HB0.out PS.out) ?reste1008
      case hye1008=>(intro w hS;go_simp;try with_reducible rfl)
      refine wpAnyH_done (by kernel_rfl) ?_ _
      have VF:Hid (Below w.heap.size w Z9):=V.out.trans (PS.out.1.mono (by rw [HB0.out];exact V.out.size))
      go_wp2
      go_ret
      exact ⟨rfl,VF.out⟩
     ·refine opH rfl (by rfl) (fun K hK=>?_)
      go_simp
      refine hK _ _ (sOf X1.out X2.out HB0.out (PS.out.alloc _)) ?_
      clear hK
      obtain ⟨Y2,hn⟩ : ∃ u,u=Y1.alloc (.cells #[.int .i64 v] 2):=⟨_,rfl⟩
      obtain ⟨gE,hg⟩ : ∃ g,g=Y1.heap.size:=⟨_,rfl⟩
      have NB:Hid (gE ≠ gB):=(show gE ≠ gB from by have:=EM.out.2.1;omega)
      have EM:Hid (Emp Y2 B0 gB):=(show Emp _ _ _ from by rw [hn];exact EM.out.alloc _)
      have CE:Hid (Cel Y2 gE v):=(show Cel _ _ _ from by rw [hn,hg];exact Cel.new _ _)
      have PS:Hid (Pst W0 Y2 B0):=(show Pst _ _ _ from by rw [hn];exact PS.out.alloc _)
      rw [<- hn,<- hg]
      clear hn hg
      refine wpAnyH_all (rs:=[5]) (by kernel_rfl) (by simp) (List.forall_mem_cons.2 ⟨?_,fun _ h=>absurd h List.not_mem_nil⟩)
      refine opH rfl (by rfl) (fun K hK=>?_)
      refine Bput.wp_append_sl (.tmp 114) (.tmp 116) rfl B0 _ 0 [] rfl EM.out.1 po m.out cap rfl (X1.out.below (by have h:=PS.out.1;rwa [HB0.out] at h)).sl (by have:=HO100.out;omega) PS.out.2 ?_
      intro vD Y3 hown hgrow
      refine hK _ _ (sOf X1.out X2.out HB0.out (PS.out.grown hgrow (own_ge EM.out.1))) ?_
      clear hK
      have OD:Hid (Y3.ownsRow B0 2 1 vD m.out.length (outC m.out)):=(show World.ownsRow _ _ _ _ _ _ _ from by have h:=hown;rwa [Nat.zero_add,List.nil_append] at h)
      have PS:Hid (Pst W0 Y3 B0):=PS.out.grown hgrow (own_ge EM.out.1)
      have CE:Hid (Cel Y3 gE v):=CE.out.grown hgrow NB.out
      clear hown hgrow EM
      refine wpAnyH_all (rs:=[8]) (by kernel_rfl) (by simp) (List.forall_mem_cons.2 ⟨?_,fun _ h=>absurd h List.not_mem_nil⟩)
      refine opH rfl (by rfl) (fun K hK=>?_)
      refine wp_append_own Y3 (.tmp 117) (.tmp 119) 28 rfl B0 2 i0 (.int .i64 0) 1 8 underlying28 hi hz0 hz1 hz2 rfl (by decide) vD m.out.length (outC m.out) rfl OD.out ⟨gE,0,none⟩ 1 1 [.int .i64 v] rfl rfl (cel_at CE.out) (by intro u hu;simp at hu;subst hu;rfl) (by have:=HO100.out;unfold maxLen;omega) (by have:=HO100.out;omega) PS.out.2 ?_
      intro vF Y4 hown hgrow _
      refine hK _ _ (sOf X1.out X2.out HB0.out (PS.out.grown hgrow (own_ge OD.out))) ?_
      clear hK
      have OF:Hid (Y4.ownsRow B0 2 1 vF R.out.length (outC R.out)):=(show World.ownsRow _ _ _ _ _ _ _ from by rw [HRO.out];have h:=hown;simpa [outC] using h)
      have PS:Hid (Pst W0 Y4 B0):=PS.out.grown hgrow (own_ge OD.out)
      clear hown hgrow OD CE
      refine wpAnyH_all (rs:=[9]) (by kernel_rfl) (by simp) (List.forall_mem_cons.2 ⟨?_,fun _ h=>absurd h List.not_mem_nil⟩)
      refine opH rfl (by rfl) (fun K hK=>?_)
      obtain ⟨pF,cF,rfl⟩:=own_slice OF.out
      go_wp2_with fail
      refine Calls.mono (Samm.sameInts_any p2 pF c2 cF R.out _ (X2.out.below (by have h:=PS.out.1;rwa [HB0.out] at h)).sl.row (own_sl OF.out rfl).row HL.out) ?_
      rintro e Y5 ⟨rfl,nn,hwn⟩
      have PS:Hid (Pst W0 Y5 B0):=PS.out.below (by rw [hwn];exact below_drewN zRf _)
      clear hwn OF
      refine hK _ _ (sOf X1.out X2.out HB0.out (PS.out)) ?_
      clear hK
      refine wpAnyH_take (i:=10) (v:=?ve1009) rfl (by kernel_rfl) (by kernel_rfl) (by kernel_rfl) (fun _ _ _ h=>h) (Or.inl ⟨by rfl,?hye1009⟩) (sOf X1.out X2.out HB0.out PS.out) ?reste1009
      case hye1009=>(intro w hS;go_simp;try with_reducible rfl)
      refine wpAnyH_all (rs:=[11]) (by kernel_rfl) (by simp) (List.forall_mem_cons.2 ⟨?_,fun _ h=>absurd h List.not_mem_nil⟩)
      refine opH rfl (by rfl) (fun K hK=>?_)
      refine wp_load_row 30 _ rfl b2 rfl _ _ (0,0) _ (X2.out.below (by have h:=PS.out.1;rwa [HB0.out] at h)).box underlying30 rfl (infoMs _ _ _) ?_
      refine hK _ _ (sOf X1.out X2.out HB0.out (PS.out)) ?_
      clear hK
      refine wpAnyH_all (rs:=[12]) (by kernel_rfl) (by simp) (List.forall_mem_cons.2 ⟨?_,fun _ h=>absurd h List.not_mem_nil⟩)
      refine opH rfl (by rfl) (fun K hK=>?_)
      go_wp2_with fail
      refine Calls.mono (implOk_M R p2 c2 _ HSR.out (X2.out.below (by have h:=PS.out.1;rwa [HB0.out] at h)).sl) ?_
      rintro e Z9 ⟨rfl,hb⟩
      rw [HPT.out.ok]
      have PS:=zHd (PS.out.below hb)
      clear hb
      refine hK _ _ (sOf X1.out X2.out HB0.out (PS.out)) ?_
      clear hK
      refine wpAnyH_take (i:=13) (v:=?ve1010) rfl (by kernel_rfl) (by kernel_rfl) (by kernel_rfl) (fun _ _ _ h=>h) (Or.inl ⟨by rfl,?hye1010⟩) (sOf X1.out X2.out HB0.out PS.out) ?reste1010
      case hye1010=>(intro w hS;go_simp;try with_reducible rfl)
      refine wpAnyH_take (i:=14) (v:=?ve1011) rfl (by kernel_rfl) (by kernel_rfl) (by kernel_rfl) (fun _ _ _ h=>h) (Or.inl ⟨by rfl,?hye1011⟩) (sOf X1.out X2.out HB0.out PS.out) ?reste1011
      case hye1011=>(intro w hS;go_simp;try with_reducible rfl)
      refine wpAnyH_done (by kernel_rfl) ?_ _
      have VF:Hid (Below w.heap.size w Z9):=V.out.trans (PS.out.1.mono (by rw [HB0.out];exact V.out.size))
      go_wp2
      go_ret
      exact ⟨rfl,VF.out⟩
    ·refine opH rfl (by rfl) (fun K hK=>?_)
     go_simp
     refine hK _ _ (sOf X1.out X2.out HB0.out (PS.out.alloc _)) ?_
     clear hK
     obtain ⟨Y1,hn⟩ : ∃ u,u=W0.alloc (.cells #[.int .i64 v] 2):=⟨_,rfl⟩
     obtain ⟨gE,hg⟩ : ∃ g,g=W0.heap.size:=⟨_,rfl⟩
     have CE:Hid (Cel Y1 gE v):=(show Cel _ _ _ from by rw [hn,hg];exact Cel.new _ _)
     have PS:Hid (Pst W0 Y1 B0):=(show Pst _ _ _ from by rw [hn];exact PS.out.alloc _)
     rw [<- hn,<- hg]
     clear hn hg
     refine wpAnyH_all (rs:=[2]) (by kernel_rfl) (by simp) (List.forall_mem_cons.2 ⟨?_,fun _ h=>absurd h List.not_mem_nil⟩)
     refine opH rfl (by rfl) (fun K hK=>?_)
     go_simp
     refine hK _ _ (sOf X1.out X2.out HB0.out (PS.out.alloc _)) ?_
     clear hK
     obtain ⟨Y2,hn⟩ : ∃ u,u=Y1.alloc (.cells #[] 2):=⟨_,rfl⟩
     obtain ⟨gB,hg⟩ : ∃ g,g=Y1.heap.size:=⟨_,rfl⟩
     have NB:Hid (gE ≠ gB):=(show gE ≠ gB from by have:=CE.out.2;omega)
     have CE:Hid (Cel Y2 gE v):=(show Cel _ _ _ from by rw [hn];exact CE.out.alloc _)
     have EM:Hid (Emp Y2 B0 gB):=(show Emp _ _ _ from by rw [hn,hg];exact Emp.new _ PS.out.2)
     have PS:Hid (Pst W0 Y2 B0):=(show Pst _ _ _ from by rw [hn];exact PS.out.alloc _)
     rw [<- hn,<- hg]
     clear hn hg
     refine wpAnyH_all (rs:=[5]) (by kernel_rfl) (by simp) (List.forall_mem_cons.2 ⟨?_,fun _ h=>absurd h List.not_mem_nil⟩)
     refine opH rfl (by rfl) (fun K hK=>?_)
     refine Bput.wp_append_sl (.tmp 114) (.tmp 116) rfl B0 _ 0 [] rfl EM.out.1 po m.out cap rfl (X1.out.below (by have h:=PS.out.1;rwa [HB0.out] at h)).sl (by have:=HO100.out;omega) PS.out.2 ?_
     intro vD Y3 hown hgrow
     refine hK _ _ (sOf X1.out X2.out HB0.out (PS.out.grown hgrow (own_ge EM.out.1))) ?_
     clear hK
     have OD:Hid (Y3.ownsRow B0 2 1 vD m.out.length (outC m.out)):=(show World.ownsRow _ _ _ _ _ _ _ from by have h:=hown;rwa [Nat.zero_add,List.nil_append] at h)
     have PS:Hid (Pst W0 Y3 B0):=PS.out.grown hgrow (own_ge EM.out.1)
     have CE:Hid (Cel Y3 gE v):=CE.out.grown hgrow NB.out
     clear hown hgrow EM
     refine wpAnyH_all (rs:=[8]) (by kernel_rfl) (by simp) (List.forall_mem_cons.2 ⟨?_,fun _ h=>absurd h List.not_mem_nil⟩)
     refine opH rfl (by rfl) (fun K hK=>?_)
     refine wp_append_own Y3 (.tmp 117) (.tmp 119) 28 rfl B0 2 i0 (.int .i64 0) 1 8 underlying28 hi hz0 hz1 hz2 rfl (by decide) vD m.out.length (outC m.out) rfl OD.out ⟨gE,0,none⟩ 1 1 [.int .i64 v] rfl rfl (cel_at CE.out) (by intro u hu;simp at hu;subst hu;rfl) (by have:=HO100.out;unfold maxLen;omega) (by have:=HO100.out;omega) PS.out.2 ?_
     intro vF Y4 hown hgrow _
     refine hK _ _ (sOf X1.out X2.out HB0.out (PS.out.grown hgrow (own_ge OD.out))) ?_
     clear hK
     have OF:Hid (Y4.ownsRow B0 2 1 vF R.out.length (outC R.out)):=(show World.ownsRow _ _ _ _ _ _ _ from by rw [HRO.out];have h:=hown;simpa [outC] using h)
     have PS:Hid (Pst W0 Y4 B0):=PS.out.grown hgrow (own_ge OD.out)
     clear hown hgrow OD CE
     refine wpAnyH_all (rs:=[9]) (by kernel_rfl) (by simp) (List.forall_mem_cons.2 ⟨?_,fun _ h=>absurd h List.not_mem_nil⟩)
     refine opH rfl (by rfl) (fun K hK=>?_)
     obtain ⟨pF,cF,rfl⟩:=own_slice OF.out
     go_wp2_with fail
     refine Calls.mono (Samm.sameInts_any p2 pF c2 cF R.out _ (X2.out.below (by have h:=PS.out.1;rwa [HB0.out] at h)).sl.row (own_sl OF.out rfl).row HL.out) ?_
     rintro e Y5 ⟨rfl,nn,hwn⟩
     have PS:Hid (Pst W0 Y5 B0):=PS.out.below (by rw [hwn];exact below_drewN zRf _)
     clear hwn OF
     refine hK _ _ (sOf X1.out X2.out HB0.out (PS.out)) ?_
     clear hK
     refine wpAnyH_take (i:=10) (v:=?ve1012) rfl (by kernel_rfl) (by kernel_rfl) (by kernel_rfl) (fun _ _ _ h=>h) (Or.inl ⟨by rfl,?hye1012⟩) (sOf X1.out X2.out HB0.out PS.out) ?reste1012
     case hye1012=>(intro w hS;go_simp;try with_reducible rfl)
     refine wpAnyH_all (rs:=[11]) (by kernel_rfl) (by simp) (List.forall_mem_cons.2 ⟨?_,fun _ h=>absurd h List.not_mem_nil⟩)
     refine opH rfl (by rfl) (fun K hK=>?_)
     refine wp_load_row 30 _ rfl b2 rfl _ _ (0,0) _ (X2.out.below (by have h:=PS.out.1;rwa [HB0.out] at h)).box underlying30 rfl (infoMs _ _ _) ?_
     refine hK _ _ (sOf X1.out X2.out HB0.out (PS.out)) ?_
     clear hK
     refine wpAnyH_all (rs:=[12]) (by kernel_rfl) (by simp) (List.forall_mem_cons.2 ⟨?_,fun _ h=>absurd h List.not_mem_nil⟩)
     refine opH rfl (by rfl) (fun K hK=>?_)
     go_wp2_with fail
     refine Calls.mono (implOk_M R p2 c2 _ HSR.out (X2.out.below (by have h:=PS.out.1;rwa [HB0.out] at h)).sl) ?_
     rintro e Z9 ⟨rfl,hb⟩
     rw [HPT.out.ok]
     have PS:=zHd (PS.out.below hb)
     clear hb
     refine hK _ _ (sOf X1.out X2.out HB0.out (PS.out)) ?_
     clear hK
     refine wpAnyH_take (i:=13) (v:=?ve1013) rfl (by kernel_rfl) (by kernel_rfl) (by kernel_rfl) (fun _ _ _ h=>h) (Or.inl ⟨by rfl,?hye1013⟩) (sOf X1.out X2.out HB0.out PS.out) ?reste1013
     case hye1013=>(intro w hS;go_simp;try with_reducible rfl)
     refine wpAnyH_take (i:=14) (v:=?ve1014) rfl (by kernel_rfl) (by kernel_rfl) (by kernel_rfl) (fun _ _ _ h=>h) (Or.inl ⟨by rfl,?hye1014⟩) (sOf X1.out X2.out HB0.out PS.out) ?reste1014
     case hye1014=>(intro w hS;go_simp;try with_reducible rfl)
     refine wpAnyH_done (by kernel_rfl) ?_ _
     have VF:Hid (Below w.heap.size w Z9):=V.out.trans (PS.out.1.mono (by rw [HB0.out];exact V.out.size))
     go_wp2
     go_ret
     exact ⟨rfl,VF.out⟩
   have key:(decide (49152<=addr)=false/\decide (65408<=addr)=false) \/ (decide (49152<=addr)=true/\decide (addr<49408)=false/\decide (65408<=addr)=false) \/ (decide (49152<=addr)=true/\decide (addr<49408)=false/\decide (65408<=addr)=true/\decide (addr<65535)=false):=by
    by_cases h1:49152<=addr
    ·by_cases h2:65408<=addr
     ·exact .inr (.inr ⟨decide_eq_true h1,decide_eq_false (by omega),decide_eq_true h2,decide_eq_false (by omega)⟩)
     ·exact .inr (.inl ⟨decide_eq_true h1,decide_eq_false (by omega),decide_eq_false h2⟩)
    ·exact .inl ⟨decide_eq_false h1,decide_eq_false (by omega)⟩
   have HAD:Hid (¬ (49152<=addr/\addr<49408)/\¬ (65408<=addr/\addr<65535)):=⟨hA,hB⟩
   clear hA hB
   rcases key with ⟨x0,x2⟩|⟨x0,x1,x2⟩|⟨x0,x1,x2,x3⟩
   all_goals go_upto_region 20 with fail
   all_goals clear x0 x2
   all_goals (try clear x1)
   all_goals (try clear x3)
   all_goals
    have en:(addr == 65281)=false:=by simpa using hne
    have ho:=HPT.out.same hne
    have HNE:Hid (¬ addr=65281):=hne
    go_upto_region 22 with fail
    refine wp_region_list ?_
    refine wpList_load_row rfl 30 _ rfl b2 rfl _ _ (0,0) _ X2.out.box underlying30 rfl (infoMs _ _ _) ?_
    go_wp2_with fail
    refine Calls.mono (implOk_M R p2 c2 _ HSR.out X2.out.sl) ?_
    rintro e w9 ⟨rfl,hb⟩
    rw [HPT.out.ok]
    have X1:=zHd (X1.out.below hb)
    have X2:=zHd (X2.out.below hb)
    have V:=zHd (CartL.after V.out hb)
    clear hb
    have a21:=celM X2.out.box 21 (.slice p2 R.out.length c2) rfl
    rw [ho] at a21
    have b21:=celM X1.out.box 21 (.slice po m.out.length cap) rfl
    have HXR:Hid (Outs.Row w9 p2 m.out):=(show Outs.Row _ _ _ from by rw [<- ho];exact X2.out.sl.row)
    clear ho
    go_wp2_with fail
    refine Calls.mono (Samm.sameInts_any p2 po c2 cap m.out _ HXR.out X1.out.sl.row HNO.out) ?_
    rintro e w10 ⟨rfl,n10,hw10⟩
    have hb:Below w9.heap.size w9 w10:=by rw [hw10];exact below_drewN zRf _
    clear hw10 HXR a21 b21
    have X1:=zHd (X1.out.below hb)
    have X2:=zHd (X2.out.below hb)
    have V:=zHd (CartL.after V.out hb)
    clear hb
    have p0:=celM X2.out.box 0 (.int .i64 R.ra) rfl
    rw [HPT.out.stay.ra] at p0
    have q0:=celM X1.out.box 0 (.int .i64 m.ra) rfl
    have p1:=celM X2.out.box 1 (.int .i64 R.rf) rfl
    rw [HPT.out.stay.rf] at p1
    have q1:=celM X1.out.box 1 (.int .i64 m.rf) rfl
    have p2:=celM X2.out.box 2 (.int .i64 R.rB) rfl
    rw [HPT.out.stay.rB] at p2
    have q2:=celM X1.out.box 2 (.int .i64 m.rB) rfl
    have p3:=celM X2.out.box 3 (.int .i64 R.rC) rfl
    rw [HPT.out.stay.rC] at p3
    have q3:=celM X1.out.box 3 (.int .i64 m.rC) rfl
    have p4:=celM X2.out.box 4 (.int .i64 R.rD) rfl
    rw [HPT.out.stay.rD] at p4
    have q4:=celM X1.out.box 4 (.int .i64 m.rD) rfl
    have p5:=celM X2.out.box 5 (.int .i64 R.rE) rfl
    rw [HPT.out.stay.rE] at p5
    have q5:=celM X1.out.box 5 (.int .i64 m.rE) rfl
    have p6:=celM X2.out.box 6 (.int .i64 R.rH) rfl
    rw [HPT.out.stay.rH] at p6
    have q6:=celM X1.out.box 6 (.int .i64 m.rH) rfl
    have p7:=celM X2.out.box 7 (.int .i64 R.rL) rfl
    rw [HPT.out.stay.rL] at p7
    have q7:=celM X1.out.box 7 (.int .i64 m.rL) rfl
    have p8:=celM X2.out.box 8 (.int .i64 R.sp) rfl
    rw [HPT.out.stay.sp] at p8
    have q8:=celM X1.out.box 8 (.int .i64 m.sp) rfl
    have p9:=celM X2.out.box 9 (.int .i64 R.pc) rfl
    rw [HPT.out.stay.pc] at p9
    have q9:=celM X1.out.box 9 (.int .i64 m.pc) rfl
    have p10:=celM X2.out.box 10 (.bool R.ime) rfl
    rw [HPT.out.stay.ime] at p10
    have q10:=celM X1.out.box 10 (.bool m.ime) rfl
    have p11:=celM X2.out.box 11 (.bool R.hal) rfl
    rw [HPT.out.stay.hal] at p11
    have q11:=celM X1.out.box 11 (.bool m.hal) rfl
    have p12:=celM X2.out.box 12 (.string R.rom) rfl
    rw [HPT.out.stay.rom] at p12
    have q12:=celM X1.out.box 12 (.string m.rom) rfl
    generalize m.ra=zra at p0 q0
    generalize m.rf=zrf at p1 q1
    generalize m.rB=zrB at p2 q2
    generalize m.rC=zrC at p3 q3
    generalize m.rD=zrD at p4 q4
    generalize m.rE=zrE at p5 q5
    generalize m.rH=zrH at p6 q6
    generalize m.rL=zrL at p7 q7
    generalize m.sp=zsp at p8 q8
    generalize m.pc=zpc at p9 q9
    generalize m.ime=zime at p10 q10
    generalize m.hal=zhal at p11 q11
    generalize m.rom=zrom at p12 q12
    go_wp2
    go_ret
    exact ⟨rfl,V.out⟩
set_option maxRecDepth 100000 in
theorem lifted (os:Os) (started:os.Started) (H:Type) (enc:TypeId × Value->H) :
  ReturnsInHanded {} Tryz.checked os 3 .any (Rows.fnBusSpec.pre6 enc prog Tryz.f3 Rows.fnBusRow.domain false) (Rows.fnBusSpec.post enc prog Tryz.f3 false true false false):=by
 refine returnsInHanded_of_change (C:=Tryz.checked) own started (by kernel_rfl) func3
  (ChangeSpec.witness6 (enc:=enc) (C:=Tryz.checked) false ⟨#[],#[.slice none 0 0],[]⟩ 8 (by kernel_rfl) (by kernel_rfl) (by kernel_rfl) (by kernel_rfl)) ?_
 intro W base args ds gs before hval0 hW hcnd _
 have hval:∀ (j:Nat) t v,Tryz.f3.params[j]? = some t->args[j]? = some v->Value.okWide prog W .any base t v:=hval0
 have hW':=hW
 obtain ⟨p,q,hA0,hV,rfl,hfz,hnd⟩:=hW
 have hA:DataW.TrodAll enc prog W 0 (fun _=>true) true Tryz.f3.params.toList args.toList ds p:=hA0
 rw [Tryz.params3] at hA hval
 obtain ⟨v0,vs0,d0,ds0,p0,q0,hargs,rfl,rfl,h0,r0⟩:=trodAll_cons hA
 obtain ⟨rfl,rfl,rfl⟩:=trodAll_nil r0
 obtain rfl:args=#[v0]:=by cases args;simp_all
 obtain ⟨rfl,rfl⟩:=trodVars_none hV
 obtain ⟨a0,len0,cap0,rfl⟩:=okWide_slice underlying22 (hval 0 22 v0 rfl rfl)
 have k0:=h0
 have lt0:∀ x ∈ p0,x.block<W.heap.size:=by obtain ⟨m,hm⟩:=k0;exact DataW.trod_lt m _ _ _ hm
 obtain ⟨z0,w0⟩ : ∃ zs,IsRow .u8 W a0 len0 cap0 zs:=by
  obtain ⟨fuel,hf⟩:=h0
  rcases open_ints underlying22 underlying5 (by kernel_rfl) hf with ⟨hcs,_⟩|⟨x,l,c,zs,hcs,_,hl,hm,hz,_,hcell,hwz⟩
  ·simp [Value.cells] at hcs
   obtain ⟨rfl,rfl,rfl⟩:=hcs
   exact ⟨[],.inl ⟨rfl,rfl,rfl,rfl⟩⟩
  ·simp [Value.cells] at hcs
   obtain ⟨rfl,rfl,rfl⟩:=hcs
   exact ⟨zs,.inr ⟨_,rfl,hl,hm,by simpa using hz,hcell,hwz⟩⟩
 clear hA0 hval0
 refine (walk W a0 len0 cap0 z0 w0).mono fun e W' ⟨he,bel⟩=>?_
 subst he
 exact ⟨_,rfl,_,_,_,[],_,[],hW',trodAll_mk1 (shut_bool underlying4 _),(trodAll_cons_mk (Below.trod laidOut (by kernel_rfl) (of_decide_eq_true (by kernel_rfl)) k0 bel lt0) trodAll_mk0),rfl,bel.frame _,fun h=>by cases h⟩
theorem over:Rows.fnBusRow.holds Tryz.pinned (OpenSpec.ofChange Rows.fnBusSpec) :=
 OpenClaim.holds_of_wide 3 Tryz.f3 rfl rfl rfl rfl rfl rfl rfl ⟨rfl,rfl,rfl,rfl,rfl⟩ rfl rfl rfl rfl rfl (by kernel_rfl) func3 (by kernel_rfl)
  (of_decide_eq_true (by kernel_rfl)) (by unfold Func.isWrapper;first|(rw [if_pos (by decide +kernel)];kernel_rfl)|(rw [if_neg (by decide +kernel)];exact ⟨rfl,rfl⟩))
  (fun os started H enc _=>lifted os started H enc)
end Go.Proofs.YtfpecdgcapfgfaaGreat.fnBus
namespace Go.Proofs.YtfpecdgcapfgfaaGreat
theorem fnBus_holds:Rows.FnBusSaid:=fnBus.over
end Go.Proofs.YtfpecdgcapfgfaaGreat
