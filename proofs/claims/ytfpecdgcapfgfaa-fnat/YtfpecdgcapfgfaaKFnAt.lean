/- For every code the law FnAt answers true: of the drawn machine impl.At answers as spec.At does; where it is right, that is its place, and the bank that is mapped there; the code read and nothing old written; no condition. -/
import Derived.ChangeOld
import Derived.Test.YtfpecdgcapfgfaaP25
import Derived.Deep.MidRow
set_option linter.all false
set_option maxRecDepth 20000
set_option maxHeartbeats 8000000
open Go.ChangeShapes Go.WideShapes Go.ChangeAt Go.RowKit
open Go.Proofs.Try
namespace Go.Proofs.Ytfpecdgcapfgfaa.fnAt
open Go.ChangeMaps (open_string shut_string)
theorem own:ownKnob prog.godebug=none:=by kernel_rfl
theorem laidOut:laidOutB prog=true:=by kernel_rfl
def IsRow (k:IntKind) (w:World) (a:Option Addr) (len cap:Nat) (zs:List Int):Prop :=
 (a=none/\len=0/\cap=0/\zs=[]) \/
 ∃ x,a=some x/\len<=cap/\cap<=maxLen/\zs.length=cap/\(∀ i,i<zs.length->w.cell? (x.add i)=some (.int k (zs.getD i 0)))/\∀ n ∈ zs,(Lit.int k n).wf=true
open Busw Busx Busy Boxs Boxm Runp
theorem toRow {k:IntKind} {w:World} {a:Option Addr} {len cap:Nat} {zs:List Int} (h:IsRow k w a len cap zs):Rdr.IsRow k w a len cap zs:=h
theorem load_int {w:World} {p:Addr} {z:Int} (h:w.cell? p=some (.int .i64 z)):(loadVar 2 p).run prog w=.ok (.int .i64 z) w:=by
 simp [loadVar,go_sem,h]
theorem walk (w:World) (a0:Option Addr) (len0 cap0:Nat) (z0:List Int) (w0:IsRow .u8 w a0 len0 cap0 z0) :
  Calls prog 3 #[.slice a0 len0 cap0] w fun e w'=>e=.returned (.bool true)/\Below w.heap.size w w':=by
 have H:Hid (Rdr.IsRow .u8 w a0 len0 cap0 z0):=toRow w0
 have hz:=zeroM
 obtain ⟨cZ,hcZ⟩ : ∃ c,c=cellsM Z0 none 0:=⟨_,rfl⟩
 rw [<- hcZ] at hz
 have HZ:Hid (cZ=cellsM Z0 none 0):=hcZ
 clear w0 hcZ
 have cb:=Rdr.big_any a0 len0 cap0 w H.out.len
 by_cases hbig:Rdr.bigB len0=true
 ·rw [hbig] at cb
  go_enter func3,ntmps3
  go_wp2_with (go_at_call 4;refine cb.mono ?_;rintro e wx ⟨rfl,hwx⟩;rw [hwx];clear hwx wx)
  go_ret
  exact ⟨rfl,Below.refl _ _⟩
 have hbig:Rdr.bigB len0=false:=by simpa using hbig
 rw [hbig] at cb
 go_enter func3,ntmps3
 go_wp2_with fail
 refine cb.mono ?_
 rintro e wx ⟨rfl,hwx⟩
 rw [hwx]
 clear hwx wx cb hbig
 go_wp2_with fail
 refine Calls.mono (drawAt_any _ _ _ _ _ H.out) ?_
 rintro e w1 ⟨m,po,cap,rfl,hsm,own,hb⟩
 have HS:Hid (Sm m):=hsm
 have OW:Hid (w1.ownsRow w.heap.size 2 1 (.slice po m.out.length cap) m.out.length (outC m.out)):=own
 clear hsm own H
 have V:Hid (Below w.heap.size w w1):=hb
 clear hb
 rename_i hK
 refine hK _ _ ?_
 clear hK
 refine wpList_plain rfl (fun K hK=>?_)
 go_simp
 refine hK _ _ ?_
 clear hK
 refine wpList_store_row rfl 30 _ _ rfl w1.heap.size (cellsM m po cap) rfl rfl _ _ (heap_alloc_last w1 _) (infoMs _ _ _) (by rw [HZ.out,size_M,size_M]) (one_M _ _ _) ?_
 rw [World.setRow_alloc_new]
 obtain ⟨u1,hu⟩ : ∃ u,u=w1.alloc (.cells (cellsM m po cap) 30):=⟨_,rfl⟩
 obtain ⟨b1,hbb⟩ : ∃ b,b=w1.heap.size:=⟨_,rfl⟩
 have X1:Hid (Bx u1 b1 m po cap):=by show Bx _ _ _ _ _;rw [hu,hbb];exact Bx.new OW.out
 have V:Hid (Below w.heap.size w u1):=by show Below _ _ _;rw [hu];exact zGr V.out _
 go_upto_region 4 with fail
 rw [<- hu,<- hbb]
 clear hu hbb OW
 have HAT:Hid (∀ h:okMM m=true,_):=fun h=>Atm.at_ok h HS.out
 obtain ⟨bk,hbk⟩ : ∃ x,x=Atm.bankM m:=⟨_,rfl⟩
 obtain ⟨ad,had⟩ : ∃ x,x=Atm.addrM m:=⟨_,rfl⟩
 have ci:=fun W (h:Sl W po m.out cap)=>Atm.implAt_M m po cap W HS.out h
 have cs:=fun W (h:Sl W po m.out cap)=>Atm.specAt_M m po cap W HS.out h
 rw [<- hbk,<- had] at ci cs HAT
 clear hbk had
 refine wp_region_list ?_
 refine wpList_load_row rfl 30 _ rfl b1 rfl _ _ (0,0) _ X1.out.box underlying30 rfl (infoMs _ _ _) ?_
 go_wp2_with fail
 refine Calls.mono (ci _ X1.out.sl) ?_
 rintro e w2 ⟨rfl,hb⟩
 clear ci
 have X1:=zHd (X1.out.below hb)
 have V:=zHd (CartL.after V.out hb)
 clear hb
 go_upto_region 5 with fail
 obtain ⟨u2,hu⟩ : ∃ u,u=w2.alloc (.cells #[.int .i64 bk,.int .i64 ad] 33):=⟨_,rfl⟩
 obtain ⟨b2,hbb⟩ : ∃ b,b=w2.heap.size:=⟨_,rfl⟩
 have S2:Hid (u2.heap[b2]? = some (.cells #[.int .i64 bk,.int .i64 ad] 33)):=by show u2.heap[b2]? = _;rw [hu,hbb];exact heap_alloc_last _ _
 have X1:Hid (Bx u2 b1 m po cap):=by show Bx _ _ _ _ _;rw [hu];exact X1.out.alloc _
 have V:Hid (Below w.heap.size w u2):=by show Below _ _ _;rw [hu];exact zGr V.out _
 rw [<- hu,<- hbb]
 clear hu hbb
 cases hok:okMM m
 ·have k1:Sta.Rg 7 #[.agg (cellsM m po cap)] u2 (.agg #[.int .i64 bk,.int .i64 ad]):=Sta.rg fun W hb=>cs W (X1.out.below hb).sl
  have k2:Sta.Rg 8 #[.agg (cellsM m po cap)] u2 (.bool (okMM m)):=Sta.rg fun W hb=>specOk_M m po cap W HS.out (X1.out.below hb).sl
  have l1:=fun d os=>(X1.out.below (below_regrown u2 d os)).load
  have l2:=fun d os=>run_loadVar_row (P:=prog) (Go.Sort.grow (redrawn u2 d) os) b2 33 33 _ (0,0) _ (((below_regrown u2 d os).block b2 (zLo S2.out)).trans S2.out) underlying33 rfl (by kernel_rfl)
  rw [hok] at k2
  generalize cellsM m po cap=cA at l1 k1 k2
  refine wp_region_quiet_below (by kernel_rfl) (by kernel_rfl) ?_
  repeat (first|(go_big_quiet_step (first|fail|with_reducible exact k1 _ _|with_reducible exact k2 _ _))|(refine Stps.wpQuiet_load (by rfl) 30 _ rfl ⟨b1,0,none⟩ rfl _ (fun W hW=>by obtain ⟨⟨d,o⟩,rfl⟩:=hW;exact l1 d o) ?_;simp only [Act.put,List.setIfInBounds_toArray,List.set_cons_succ,List.set_cons_zero])|(refine Stps.wpQuiet_load (by rfl) 33 _ rfl ⟨b2,0,none⟩ rfl _ (fun W hW=>by obtain ⟨⟨d,o⟩,rfl⟩:=hW;exact l2 d o) ?_;simp only [Act.put,List.setIfInBounds_toArray,List.set_cons_succ,List.set_cons_zero]))
  refine wpQuiet_nil ?_
  intro _ hw'
  obtain ⟨⟨dq,osq⟩,hw''⟩:=hw'
  subst hw''
  obtain ⟨u3,hz3⟩ : ∃ u,u=Go.Sort.grow (redrawn u2 dq) osq:=⟨_,rfl⟩
  have hr3:=below_regrown u2 dq osq
  rw [<- hz3] at hr3
  rw [<- hz3]
  have X1:=zHd (X1.out.below hr3)
  have S2:Hid (u3.heap[b2]? = some (.cells #[.int .i64 bk,.int .i64 ad] 33)):=(hr3.block b2 (zLo S2.out)).trans S2.out
  have V:=zHd (CartL.after V.out hr3)
  clear hz3 hr3
  clear k1 k2 l1 l2
  go_upto_region 6 with fail
  have k1x:Sta.Rg 7 #[.agg (cellsM m po cap)] u3 (.agg #[.int .i64 bk,.int .i64 ad]):=Sta.rg fun W hb=>cs W (X1.out.below hb).sl
  have k2x:Sta.Rg 8 #[.agg (cellsM m po cap)] u3 (.bool (okMM m)):=Sta.rg fun W hb=>specOk_M m po cap W HS.out (X1.out.below hb).sl
  have l1x:=fun d os=>(X1.out.below (below_regrown u3 d os)).load
  have l2x:=fun d os=>run_loadVar_row (P:=prog) (Go.Sort.grow (redrawn u3 d) os) b2 33 33 _ (0,0) _ (((below_regrown u3 d os).block b2 (zLo S2.out)).trans S2.out) underlying33 rfl (by kernel_rfl)
  clear k2x
  generalize cellsM m po cap=cB at l1x k1x
  refine wp_region_quiet_below (by kernel_rfl) (by kernel_rfl) ?_
  repeat (first|(go_big_quiet_step (first|fail|with_reducible exact k1x _ _))|(refine Stps.wpQuiet_load (by rfl) 30 _ rfl ⟨b1,0,none⟩ rfl _ (fun W hW=>by obtain ⟨⟨d,o⟩,rfl⟩:=hW;exact l1x d o) ?_;simp only [Act.put,List.setIfInBounds_toArray,List.set_cons_succ,List.set_cons_zero])|(refine Stps.wpQuiet_load (by rfl) 33 _ rfl ⟨b2,0,none⟩ rfl _ (fun W hW=>by obtain ⟨⟨d,o⟩,rfl⟩:=hW;exact l2x d o) ?_;simp only [Act.put,List.setIfInBounds_toArray,List.set_cons_succ,List.set_cons_zero]))
  refine wpQuiet_nil ?_
  intro _ hw'
  obtain ⟨⟨dq,osq⟩,hw''⟩:=hw'
  subst hw''
  obtain ⟨u4,hz3⟩ : ∃ u,u=Go.Sort.grow (redrawn u3 dq) osq:=⟨_,rfl⟩
  have hr3:=below_regrown u3 dq osq
  rw [<- hz3] at hr3
  rw [<- hz3]
  have X1:=zHd (X1.out.below hr3)
  have S2:Hid (u4.heap[b2]? = some (.cells #[.int .i64 bk,.int .i64 ad] 33)):=(hr3.block b2 (zLo S2.out)).trans S2.out
  have V:=zHd (CartL.after V.out hr3)
  clear hz3 hr3
  clear k1x l1x l2x
  go_wp2
  go_ret
  exact ⟨rfl,V.out⟩
 have k1:Sta.Rg 7 #[.agg (cellsM m po cap)] u2 (.agg #[.int .i64 bk,.int .i64 ad]):=Sta.rg fun W hb=>cs W (X1.out.below hb).sl
 have k2:Sta.Rg 8 #[.agg (cellsM m po cap)] u2 (.bool (okMM m)):=Sta.rg fun W hb=>specOk_M m po cap W HS.out (X1.out.below hb).sl
 have l1:=fun d os=>(X1.out.below (below_regrown u2 d os)).load
 have l2:=fun d os=>run_loadVar_row (P:=prog) (Go.Sort.grow (redrawn u2 d) os) b2 33 33 _ (0,0) _ (((below_regrown u2 d os).block b2 (zLo S2.out)).trans S2.out) underlying33 rfl (by kernel_rfl)
 rw [hok] at k2
 generalize cellsM m po cap=cA at l1 k1 k2
 refine wp_region_quiet_below (by kernel_rfl) (by kernel_rfl) ?_
 repeat (first|(go_big_quiet_step (first|fail|with_reducible exact k1 _ _|with_reducible exact k2 _ _))|(refine Stps.wpQuiet_load (by rfl) 30 _ rfl ⟨b1,0,none⟩ rfl _ (fun W hW=>by obtain ⟨⟨d,o⟩,rfl⟩:=hW;exact l1 d o) ?_;simp only [Act.put,List.setIfInBounds_toArray,List.set_cons_succ,List.set_cons_zero])|(refine Stps.wpQuiet_load (by rfl) 33 _ rfl ⟨b2,0,none⟩ rfl _ (fun W hW=>by obtain ⟨⟨d,o⟩,rfl⟩:=hW;exact l2 d o) ?_;simp only [Act.put,List.setIfInBounds_toArray,List.set_cons_succ,List.set_cons_zero]))
 refine wpQuiet_nil ?_
 intro _ hw'
 obtain ⟨⟨dq,osq⟩,hw''⟩:=hw'
 subst hw''
 obtain ⟨u3,hz3⟩ : ∃ u,u=Go.Sort.grow (redrawn u2 dq) osq:=⟨_,rfl⟩
 have hr3:=below_regrown u2 dq osq
 rw [<- hz3] at hr3
 rw [<- hz3]
 have X1:=zHd (X1.out.below hr3)
 have S2:Hid (u3.heap[b2]? = some (.cells #[.int .i64 bk,.int .i64 ad] 33)):=(hr3.block b2 (zLo S2.out)).trans S2.out
 have V:=zHd (CartL.after V.out hr3)
 clear hz3 hr3
 clear k1 k2 l1 l2 cs
 obtain ⟨e1,e2,e3,e4⟩:=HAT.out hok
 clear HAT
 have a9:=celM X1.out.box 9 (.int .i64 m.pc) rfl
 have s0:u3.cell? ⟨b2,0,none⟩=some (.int .i64 bk):=MachT.cel S2.out 0 _ rfl
 have s1:u3.cell? ⟨b2,1,none⟩=some (.int .i64 ad):=MachT.cel S2.out 1 _ rfl
 by_cases h1:m.pc<256
 ·have d1:decide (m.pc<256)=true:=decide_eq_true h1
  have e:=e2 h1
  subst e1 e
  clear e2 e3 e4 hok
  go_wp2
  go_ret
  exact ⟨rfl,V.out⟩
 have d1:decide (m.pc<256)=false:=decide_eq_false h1
 by_cases h2:m.pc<512
 ·have d2:decide (m.pc<512)=true:=decide_eq_true h2
  have e:=e3 (by omega) h2
  subst e1 e
  clear e2 e3 e4 hok
  have CAP:Hid (Bx u3 b1 m po cap):=X1.out
  have l3:∀ d os,(loadVar 27 ⟨b1,12,none⟩).run prog (Go.Sort.grow (redrawn u3 d) os)=.ok (.agg #[.string m.rom,.int .i64 m.kind,.int .i64 m.bank,.string m.ram,.int .i64 m.rb,.bool m.on,.int .i64 m.mode]) (Go.Sort.grow (redrawn u3 d) os):=fun d os=>run_loadVar_mid _ b1 12 27 [.string m.rom,.int .i64 m.kind,.int .i64 m.bank,.string m.ram,.int .i64 m.rb,.bool m.on,.int .i64 m.mode] _ (by
   have hb:=(CAP.out.below (below_regrown u3 d os)).box
   intro j v hv
   match j,hv with
   | 0,hv=>cases hv;exact celM hb 12 _ rfl
   | 1,hv=>cases hv;exact celM hb 13 _ rfl
   | 2,hv=>cases hv;exact celM hb 14 _ rfl
   | 3,hv=>cases hv;exact celM hb 15 _ rfl
   | 4,hv=>cases hv;exact celM hb 16 _ rfl
   | 5,hv=>cases hv;exact celM hb 17 _ rfl
   | 6,hv=>cases hv;exact celM hb 18 _ rfl
   | j+7,hv=>simp at hv) underlying27 rfl (by kernel_rfl)
  have k3:Sta.Rg 9 #[.agg #[.string m.rom,.int .i64 m.kind,.int .i64 m.bank,.string m.ram,.int .i64 m.rb,.bool m.on,.int .i64 m.mode]] u3 (.int .i64 (CartM.mappedV m.rom m.kind m.bank m.ram m.rb m.on m.mode)):=Sta.rg fun W hb=>CartM.implMapped_any m.rom m.kind m.bank m.ram m.rb m.on m.mode W HS.out.rom HS.out.ram
  generalize CartM.mappedV m.rom m.kind m.bank m.ram m.rb m.on m.mode=mv at k3 s0
  have l4:=fun d os=>load_int (((below_regrown u3 d os).cell (p:=⟨b2,0,none⟩) (zLo S2.out)).trans s0)
  have l5:=fun d os=>load_int (((below_regrown u3 d os).cell (p:=⟨b2,1,none⟩) (zLo S2.out)).trans s1)
  have l6:=fun d os=>load_int (((below_regrown u3 d os).cell (p:=⟨b1,9,none⟩) (zLo X1.out.box)).trans a9)
  go_upto_region 10 with fail
  refine wp_region_quiet_below (by kernel_rfl) (by kernel_rfl) ?_
  repeat (first|(go_big_quiet_step (first|fail|with_reducible exact k3 _ _))|(refine Stps.wpQuiet_load (by rfl) 27 _ rfl ⟨b1,12,none⟩ rfl _ (fun W hW=>by obtain ⟨⟨d,o⟩,rfl⟩:=hW;exact l3 d o) ?_;simp only [Act.put,List.setIfInBounds_toArray,List.set_cons_succ,List.set_cons_zero])|(refine Stps.wpQuiet_load (by rfl) 2 _ rfl ⟨b2,0,none⟩ rfl _ (fun W hW=>by obtain ⟨⟨d,o⟩,rfl⟩:=hW;exact l4 d o) ?_;simp only [Act.put,List.setIfInBounds_toArray,List.set_cons_succ,List.set_cons_zero])|(refine Stps.wpQuiet_load (by rfl) 2 _ rfl ⟨b2,1,none⟩ rfl _ (fun W hW=>by obtain ⟨⟨d,o⟩,rfl⟩:=hW;exact l5 d o) ?_;simp only [Act.put,List.setIfInBounds_toArray,List.set_cons_succ,List.set_cons_zero])|(refine Stps.wpQuiet_load (by rfl) 2 _ rfl ⟨b1,9,none⟩ rfl _ (fun W hW=>by obtain ⟨⟨d,o⟩,rfl⟩:=hW;exact l6 d o) ?_;simp only [Act.put,List.setIfInBounds_toArray,List.set_cons_succ,List.set_cons_zero]))
  refine wpQuiet_nil ?_
  intro _ hw'
  obtain ⟨⟨dq,osq⟩,hw''⟩:=hw'
  subst hw''
  have V:Hid (Below w.heap.size w (Go.Sort.grow (redrawn u3 dq) osq)):=CartL.after V.out (below_regrown u3 dq osq)
  go_wp2
  go_ret
  exact ⟨rfl,V.out⟩
 have d2:decide (m.pc<512)=false:=decide_eq_false h2
 have e:=e4 (by omega) (by omega)
 subst e1 e
 clear e2 e3 e4 hok
 go_wp2
 go_ret
 exact ⟨rfl,V.out⟩
set_option maxRecDepth 100000 in
theorem lifted (os:Os) (started:os.Started) (H:Type) (enc:TypeId × Value->H) :
  ReturnsInHanded {} Try.checked os 3 .any (Rows.fnAtSpec.pre6 enc prog Try.f3 Rows.fnAtRow.domain false) (Rows.fnAtSpec.post enc prog Try.f3 false true false false):=by
 refine returnsInHanded_of_change (C:=Try.checked) own started (by kernel_rfl) func3
  (ChangeSpec.witness6 (enc:=enc) (C:=Try.checked) false ⟨#[],#[.slice none 0 0],[]⟩ 8 (by kernel_rfl) (by kernel_rfl) (by kernel_rfl) (by kernel_rfl)) ?_
 intro W base args ds gs before hval0 hW hcnd _
 have hval:∀ (j:Nat) t v,Try.f3.params[j]? = some t->args[j]? = some v->Value.okWide prog W .any base t v:=hval0
 have hW':=hW
 obtain ⟨p,q,hA0,hV,rfl,hfz,hnd⟩:=hW
 have hA:DataW.TrodAll enc prog W 0 (fun _=>true) true Try.f3.params.toList args.toList ds p:=hA0
 rw [Try.params3] at hA hval
 obtain ⟨v0,vs0,d0,ds0,p0,q0,hargs,rfl,rfl,h0,r0⟩:=trodAll_cons hA
 obtain ⟨rfl,rfl,rfl⟩:=trodAll_nil r0
 obtain rfl:args=#[v0]:=by cases args;simp_all
 obtain ⟨rfl,rfl⟩:=trodVars_none hV
 obtain ⟨a0,len0,cap0,rfl⟩:=okWide_slice underlying22 (hval 0 22 v0 rfl rfl)
 have k0:=h0
 have lt0:∀ x ∈ p0,x.block<W.heap.size:=by obtain ⟨m,hm⟩:=k0;exact DataW.trod_lt m _ _ _ hm
 obtain ⟨z0,w0⟩ : ∃ zs,IsRow .u8 W a0 len0 cap0 zs:=by
  obtain ⟨fuel,hf⟩:=h0
  rcases open_ints underlying22 underlying5 (by kernel_rfl) hf with ⟨hcs,_⟩|⟨x,l,c,zs,hcs,_,hl,hm,hz,_,hcell,hwz⟩
  ·simp [Value.cells] at hcs
   obtain ⟨rfl,rfl,rfl⟩:=hcs
   exact ⟨[],.inl ⟨rfl,rfl,rfl,rfl⟩⟩
  ·simp [Value.cells] at hcs
   obtain ⟨rfl,rfl,rfl⟩:=hcs
   exact ⟨zs,.inr ⟨_,rfl,hl,hm,by simpa using hz,hcell,hwz⟩⟩
 clear hA0 hval0
 refine (walk W a0 len0 cap0 z0 w0).mono fun e W' ⟨he,bel⟩=>?_
 subst he
 exact ⟨_,rfl,_,_,_,[],_,[],hW',trodAll_mk1 (shut_bool underlying4 _),(trodAll_cons_mk (Below.trod laidOut (by kernel_rfl) (of_decide_eq_true (by kernel_rfl)) k0 bel lt0) trodAll_mk0),rfl,bel.frame _,fun h=>by cases h⟩
theorem over:Rows.fnAtRow.holds Try.pinned (OpenSpec.ofChange Rows.fnAtSpec) :=
 OpenClaim.holds_of_wide 3 Try.f3 rfl rfl rfl rfl rfl rfl rfl ⟨rfl,rfl,rfl,rfl,rfl⟩ rfl rfl rfl rfl rfl (by kernel_rfl) func3 (by kernel_rfl)
  (of_decide_eq_true (by kernel_rfl)) (by unfold Func.isWrapper;first|(rw [if_pos (by decide +kernel)];kernel_rfl)|(rw [if_neg (by decide +kernel)];exact ⟨rfl,rfl⟩))
  (fun os started H enc _=>lifted os started H enc)
end Go.Proofs.Ytfpecdgcapfgfaa.fnAt
namespace Go.Proofs.Ytfpecdgcapfgfaa
theorem fnAt_holds:Rows.FnAtSaid:=fnAt.over
end Go.Proofs.Ytfpecdgcapfgfaa
