/-
  Contracts and facts of ours, joined: Stdf.
-/
import Derived.Test.YtkfehdkjeodbmaaGreatDoorP28
import Derived.Test.YtkfehdkjeodbmaaGreatDoorP09
import Derived.Laws.AppendOwn
import Derived.Laws.OwnMore
import Derived.Test.YtkfehdkjeodbmaaGreatDoorP00
set_option linter.unusedVariables false
set_option linter.unusedSimpArgs false
set_option maxRecDepth 20000
set_option maxHeartbeats 8000000
open Go.ChangeShapes Go.WideShapes Go.ChangeAt Go.RowKit
open Go.Proofs.Tryz
namespace Go.Proofs.YtkfehdkjeodbmaaGreatDoor.Stdf
open Go.Deep
open Signed (inB sgn ret_int ret_bool)
open Busw Busx Busy Stpp Stpq Stps Stph Stpo
structure Fe (w W:World) (cM:Array Value) (v:Value) (k:Nat) (xs:List Value):Prop where
 box:W.heap[w.heap.size]? = some (.cells cM 33)
 res:W.heap[w.heap.size+1]? = some (.cells #[.int .i64 0,.bool false,.int .i64 0] 77)
 bel:Below w.heap.size w W
 own:W.ownsRow (w.heap.size+2) 5 1 v k xs
 sz:w.heap.size+2<=W.heap.size
theorem Fe.below {w W W':World} {cM:Array Value} {v:Value} {k:Nat} {xs:List Value} (h:Fe w W cM v k xs) (hb:Below W.heap.size W W'):Fe w W' cM v k xs :=
 ⟨(hb.block _ (zLo h.box)).trans h.box,(hb.block _ (zLo h.res)).trans h.res,HolI.after h.bel hb,h.own.kept (row:=none) ⟨hb.os,hb.tape,hb.output,hb.size,fun k hk _=>hb.block k hk⟩ (by cases hv:v.ownBlock <;> simp),Nat.le_trans h.sz hb.size⟩
theorem Fe.grown {w W W':World} {cM:Array Value} {v v':Value} {k k':Nat} {xs xs':List Value} (h:Fe w W cM v k xs) (hg:W.grownBy W' v.ownBlock) (ho:W'.ownsRow (w.heap.size+2) 5 1 v' k' xs'):Fe w W' cM v' k' xs':=by
 have hs:=h.sz
 have hne:∀ b,b<w.heap.size+2->some b ≠ v.ownBlock:=fun b hb e=>by have:=(h.own.lt b e.symm).1;omega
 exact ⟨(hg.block _ (by omega) (hne _ (by omega))).trans h.box,(hg.block _ (by omega) (hne _ (by omega))).trans h.res,⟨hg.os.trans h.bel.os,hg.tape.trans h.bel.tape,hg.output.trans h.bel.output,Nat.le_trans h.bel.size hg.size,fun k hk=>(hg.block k (by have:=h.bel.size;omega) (hne k (by omega))).trans (h.bel.block k hk)⟩,ho,Nat.le_trans hs hg.size⟩
theorem info5:(prog.info? 5).map (fun i=>(i.zero,i.size,i.bytes))=some (some (.int .u8 0),1,1):=by kernel_rfl
theorem Fe.str {w W:World} {cM:Array Value} {v:Value} {a b c:UInt8} (h:Fe w W cM v 3 [.int .u8 (a.toNat:Int),.int .u8 (b.toNat:Int),.int .u8 (c.toNat:Int)]):(convert 109 9 v).run prog W=.ok (.string ⟨#[a,b,c]⟩) W:=by
 rcases h.own.2 with ⟨_,h0⟩|⟨g,cap,cur,rfl,_,hg,hcap,_,hsz,htake⟩
 ·cases h0
 ·refine run_convert_bytes_back (P:=prog) W 109 9 5 ⟨g,0,none⟩ cap [a,b,c] underlying109 underlying5 underlying9 (fun j hj=>?_)
  have ea:(⟨g,0,none⟩ : Addr).add j=⟨g,j,none⟩:=by unfold Addr.add;split <;> simp_all
  rw [ea,cell_of_row W g j _ _ _ hg]
  have hj3:j<3:=hj
  have e1:cur[j]? = cur.toList[j]?:=by simp
  have e2:cur.toList[j]? = (cur.toList.take (3*1))[j]?:=by rw [List.getElem?_take,if_pos (by omega)]
  rw [e1,e2,htake]
  match j,hj with
  | 0,_=>rfl
  | 1,_=>rfl
  | 2,_=>rfl
theorem fetchS (m:M) (po:Option Addr) (cap:Nat) (w:World) (hr:Rt m) (hp:0<=m.pc/\m.pc<=65535) :
  Calls prog 47 #[.agg (cellsM m po cap)] w fun e w'=>e=.returned (.tuple #[ReadI.readI (fetch m) 0,.int .i64 (ReadI.readN (fetch m) 0)])/\Below w.heap.size w w':=by
 obtain ⟨i0,hi,hz0,hz1,hz2⟩:=Busw.info_parts info5
 have CR:Hid (∀ W a,0<=a->Calls prog 70 #[.agg (cellsM m po cap),.int .i64 a] W fun e w'=>e=.returned (.int .i64 (rd m a))/\Below W.heap.size W w'):=fun W a ha=>l6Read_M m po cap a W hr ha
 have e0:=u_eq m 0
 have e1:=u_eq m 1
 have e2:=u_eq m 2
 rw [show m.pc+0=m.pc by omega] at e0
 obtain ⟨c,cb,imm,hI⟩:=ReadJ.readI_agg (fetch m) 0
 have CI:Hid (∀ W,Calls prog 71 #[.string (fetch m),.int .i64 0] W fun e w'=>e=.returned (.tuple #[.agg #[.int .i64 c,.bool cb,.int .i64 imm],.int .i64 (ReadI.readN (fetch m) 0)])/\Below W.heap.size W w'):=fun W=>by
  have h:=ReadI.specRead_any (fetch m) 0 W (by rw [fetch_size];decide) (by decide)
  unfold ReadI.Tup at h
  rw [hI] at h
  exact h
 rw [hI]
 generalize ReadI.readN (fetch m) 0=n at *
 have hF:fetch m=⟨#[u m 0,u m 1,u m 2]⟩:=rfl
 rw [hF] at CI
 have b0:=(u m 0).toNat_lt
 have b1:=(u m 1).toNat_lt
 have b2:=(u m 2).toNat_lt
 generalize u m 0=u0 at *
 generalize u m 1=u1 at *
 generalize u m 2=u2 at *
 have z0:IntKind.u8.wrap (u0.toNat:Int)=u0.toNat:=by rw [IntKind.wrap_u8];omega
 have z1:IntKind.u8.wrap (u1.toNat:Int)=u1.toNat:=by rw [IntKind.wrap_u8];omega
 have z2:IntKind.u8.wrap (u2.toNat:Int)=u2.toNat:=by rw [IntKind.wrap_u8];omega
 have d0:IntKind.i64.wrap m.pc=m.pc:=by rw [IntKind.wrap_i64];omega
 have d0':wrap64 m.pc=m.pc:=by unfold wrap64;omega
 have d1:IntKind.i64.wrap (m.pc+1)=m.pc+1:=by rw [IntKind.wrap_i64];omega
 have d2:IntKind.i64.wrap (m.pc+2)=m.pc+2:=by rw [IntKind.wrap_i64];omega
 have t0:m.pc.tmod 65536=m.pc%65536:=Int.tmod_eq_emod_of_nonneg hp.1
 have t1:(m.pc+1).tmod 65536=(m.pc+1)%65536:=Int.tmod_eq_emod_of_nonneg (by omega)
 have t2:(m.pc+2).tmod 65536=(m.pc+2)%65536:=Int.tmod_eq_emod_of_nonneg (by omega)
 have H0:Hid (∀ W,Calls prog 70 #[.agg (cellsM m po cap),.int .i64 (m.pc%65536)] W fun e w'=>e=.returned (.int .i64 (u0.toNat:Int))/\Below W.heap.size W w'):=fun W=>by rw [e0];exact CR.out W _ (by omega)
 have H1:Hid (∀ W,Calls prog 70 #[.agg (cellsM m po cap),.int .i64 ((m.pc+1)%65536)] W fun e w'=>e=.returned (.int .i64 (u1.toNat:Int))/\Below W.heap.size W w'):=fun W=>by rw [e1];exact CR.out W _ (by omega)
 have H2:Hid (∀ W,Calls prog 70 #[.agg (cellsM m po cap),.int .i64 ((m.pc+2)%65536)] W fun e w'=>e=.returned (.int .i64 (u2.toNat:Int))/\Below W.heap.size W w'):=fun W=>by rw [e2];exact CR.out W _ (by omega)
 obtain ⟨cM,hcM⟩ : ∃ c,c=cellsM m po cap:=⟨_,rfl⟩
 have HIM:Hid ((prog.info? 33).map (·.size)=some cM.size):=hcM ▸ infoMs m po cap
 have HPC:Hid (∀ (W:World),W.heap[w.heap.size]? = some (.cells cM 33)->W.cell? ⟨w.heap.size,9,none⟩=some (.int .i64 m.pc)):=fun W h=>by rw [hcM] at h;exact celM h 9 _ rfl
 rw [<- hcM] at H0 H1 H2 |-
 obtain ⟨W0,hW0⟩ : ∃ u,u=((w.alloc (.cells cM 33)).alloc (.cells #[.int .i64 0,.bool false,.int .i64 0] 77)).alloc (.cells #[] 5):=⟨_,rfl⟩
 have F0:Hid (Fe w W0 cM (.slice (some ⟨w.heap.size+2,0,none⟩) 0 0) 0 []):=by
  have hs1:((w.alloc (.cells cM 33)).alloc (.cells #[.int .i64 0,.bool false,.int .i64 0] 77)).heap.size=w.heap.size+2:=by simp
  have ho:=World.ownsRow_lit (base:=w.heap.size+2) (e:=5) (size:=1) ((w.alloc (.cells cM 33)).alloc (.cells #[.int .i64 0,.bool false,.int .i64 0] 77)) #[] 0 (by rw [hs1];exact Nat.le_refl _) (Nat.zero_le _) rfl
  rw [hs1] at ho
  have h2:=heap_alloc_last (w.alloc (.cells cM 33)) (.cells #[.int .i64 0,.bool false,.int .i64 0] 77)
  simp only [World.size_alloc] at h2
  rw [hW0]
  exact ⟨by rw [alloc_kept _ _ (by simp;omega),alloc_kept _ _ (by simp)];exact heap_alloc_last w _,by rw [alloc_kept _ _ (by simp)];exact h2,by repeat (with_reducible first|exact zRf|refine zGr ?_ _|refine below_drewN ?_ _|refine Below.drew ?_),ho,by simp⟩
 clear hcM hp hr CR e0 e1 e2 b0 b1 b2 hI hF
 go_enter func47,ntmps47
 go_wp2_with fail
 rw [<- hW0]
 clear hW0
 refine wp_loop_rounds 4 ?_
 rw [rounds_succ]
 have q9:=HPC.out _ F0.out.box
 go_upto_region 5 with fail
 refine wp_region_list ?_
 refine wpList_plain rfl (fun K hK=>?_)
 go_simp
 refine hK _ _ ?_
 clear hK
 refine wpList_load_row rfl 33 _ rfl w.heap.size rfl _ _ (0,0) _ F0.out.box underlying33 rfl HIM.out ?_
 go_wp2_with fail
 refine Calls.mono (H0.out _) ?_
 rintro e x0 ⟨rfl,hb⟩
 have G0:=zHd (F0.out.below hb)
 have GA0:Hid (Fe w (x0.alloc (.cells #[.int .u8 (u0.toNat:Int)] 5)) cM (.slice (some ⟨w.heap.size+2,0,none⟩) 0 0) 0 []):=G0.out.below (zAl _ _)
 clear hb F0 H0 q9 G0
 go_wp2_with (at_builtin;refine wpList_append_own _ rfl _ _ 109 rfl (w.heap.size+2) 5 i0 (.int .u8 0) 1 1 underlying109 hi hz0 hz1 hz2 rfl (by decide) _ _ _ rfl GA0.out.own ⟨x0.heap.size,0,none⟩ 1 1 [.int .u8 (u0.toNat:Int)] rfl rfl ?a0 ?b0 ?c0 ?d0 ?e0 ?_)
 case a0 =>
  intro j uu hj
  match j,hj with
  | 0,hj=>simp at hj;subst hj;simp [Addr.add]
 case b0=>intro uu hu;simp at hu;subst hu;rfl
 case c0=>unfold maxLen;omega
 case d0=>omega
 case e0=>exact GA0.out.sz
 intro v1 W1 hown hgrow _
 have F1:Hid (Fe w W1 cM v1 1 [.int .u8 (u0.toNat:Int)]):=GA0.out.grown hgrow hown
 clear hown hgrow GA0
 go_wp2_with fail
 rw [rounds_succ]
 have q9:=HPC.out _ F1.out.box
 go_upto_region 5 with fail
 refine wp_region_list ?_
 refine wpList_plain rfl (fun K hK=>?_)
 go_simp
 refine hK _ _ ?_
 clear hK
 refine wpList_load_row rfl 33 _ rfl w.heap.size rfl _ _ (0,0) _ F1.out.box underlying33 rfl HIM.out ?_
 go_wp2_with fail
 refine Calls.mono (H1.out _) ?_
 rintro e x1 ⟨rfl,hb⟩
 have G1:=zHd (F1.out.below hb)
 have GA1:Hid (Fe w (x1.alloc (.cells #[.int .u8 (u1.toNat:Int)] 5)) cM v1 1 [.int .u8 (u0.toNat:Int)]):=G1.out.below (zAl _ _)
 clear hb F1 H1 q9 G1
 go_wp2_with (at_builtin;refine wpList_append_own _ rfl _ _ 109 rfl (w.heap.size+2) 5 i0 (.int .u8 0) 1 1 underlying109 hi hz0 hz1 hz2 rfl (by decide) _ _ _ rfl GA1.out.own ⟨x1.heap.size,0,none⟩ 1 1 [.int .u8 (u1.toNat:Int)] rfl rfl ?a1 ?b1 ?c1 ?d1 ?e1 ?_)
 case a1 =>
  intro j uu hj
  match j,hj with
  | 0,hj=>simp at hj;subst hj;simp [Addr.add]
 case b1=>intro uu hu;simp at hu;subst hu;rfl
 case c1=>unfold maxLen;omega
 case d1=>omega
 case e1=>exact GA1.out.sz
 intro v2 W2 hown hgrow _
 have F2:Hid (Fe w W2 cM v2 2 [.int .u8 (u0.toNat:Int),.int .u8 (u1.toNat:Int)]):=GA1.out.grown hgrow hown
 clear hown hgrow GA1
 go_wp2_with fail
 rw [rounds_succ]
 have q9:=HPC.out _ F2.out.box
 go_upto_region 5 with fail
 refine wp_region_list ?_
 refine wpList_plain rfl (fun K hK=>?_)
 go_simp
 refine hK _ _ ?_
 clear hK
 refine wpList_load_row rfl 33 _ rfl w.heap.size rfl _ _ (0,0) _ F2.out.box underlying33 rfl HIM.out ?_
 go_wp2_with fail
 refine Calls.mono (H2.out _) ?_
 rintro e x2 ⟨rfl,hb⟩
 have G2:=zHd (F2.out.below hb)
 have GA2:Hid (Fe w (x2.alloc (.cells #[.int .u8 (u2.toNat:Int)] 5)) cM v2 2 [.int .u8 (u0.toNat:Int),.int .u8 (u1.toNat:Int)]):=G2.out.below (zAl _ _)
 clear hb F2 H2 q9 G2
 go_wp2_with (at_builtin;refine wpList_append_own _ rfl _ _ 109 rfl (w.heap.size+2) 5 i0 (.int .u8 0) 1 1 underlying109 hi hz0 hz1 hz2 rfl (by decide) _ _ _ rfl GA2.out.own ⟨x2.heap.size,0,none⟩ 1 1 [.int .u8 (u2.toNat:Int)] rfl rfl ?a2 ?b2 ?c2 ?d2 ?e2 ?_)
 case a2 =>
  intro j uu hj
  match j,hj with
  | 0,hj=>simp at hj;subst hj;simp [Addr.add]
 case b2=>intro uu hu;simp at hu;subst hu;rfl
 case c2=>unfold maxLen;omega
 case d2=>omega
 case e2=>exact GA2.out.sz
 intro v3 W3 hown hgrow _
 have F3:Hid (Fe w W3 cM v3 3 [.int .u8 (u0.toNat:Int),.int .u8 (u1.toNat:Int),.int .u8 (u2.toNat:Int)]):=GA2.out.grown hgrow hown
 clear hown hgrow GA2
 go_wp2_with fail
 rw [rounds_succ]
 have hs:=F3.out.str
 go_wp2_with fail
 refine Calls.mono (CI.out _) ?_
 rintro e w4 ⟨rfl,hb⟩
 have F4:=F3.out.below hb
 have hR:=F4.res
 have r0:=(cell_of_row w4 (w.heap.size+1) 0 _ _ _ hR).trans rfl
 have r1:=(cell_of_row w4 (w.heap.size+1) 1 _ _ _ hR).trans rfl
 have r2:=(cell_of_row w4 (w.heap.size+1) 2 _ _ _ hR).trans rfl
 have g0:=frozen_of_row w4 (w.heap.size+1) 0 _ _ hR
 have g1:=frozen_of_row w4 (w.heap.size+1) 1 _ _ hR
 have g2:=frozen_of_row w4 (w.heap.size+1) 2 _ _ hR
 have lR:w.heap.size+1<w4.heap.size:=(zLo hR)
 have B4:Hid (Below w.heap.size w w4):=F4.bel
 clear hR hb F4 F3 CI hs
 go_wp2_with fail
 refine bodyPost_ret (v:=.tuple #[.agg #[.int .i64 c,.bool cb,.int .i64 imm],.int .i64 n]) (by simp [results,results47,go_sem,r0,r1,r2,lR]) rfl ⟨rfl,?_⟩
 exact ((B4.out.setCell (by simp) _).setCell (by simp) _).setCell (by simp) _
end Go.Proofs.YtkfehdkjeodbmaaGreatDoor.Stdf
