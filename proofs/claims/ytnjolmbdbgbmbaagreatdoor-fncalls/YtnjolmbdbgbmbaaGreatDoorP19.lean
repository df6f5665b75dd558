/-
  Contracts and facts of ours, joined: ReadJ, Stph, Cyc, CycD, CycE, CycS, CycQ, CycO, CycA, CycB.
-/
import Derived.Test.YtnjolmbdbgbmbaaGreatDoorP18
import Derived.Laws.IdiomStrings
import Derived.Test.YtnjolmbdbgbmbaaGreatDoorP10
import Derived.Laws.EntriesVeiled
import Derived.Test.YtnjolmbdbgbmbaaGreatDoorP07
import Derived.Test.YtnjolmbdbgbmbaaGreatDoorP00
set_option linter.unusedVariables false
set_option linter.unusedSimpArgs false
set_option maxRecDepth 20000
set_option maxHeartbeats 8000000
open Go.ChangeShapes Go.WideShapes Go.ChangeAt Go.RowKit
open Go.Proofs.Tryz
namespace Go.Proofs.YtnjolmbdbgbmbaaGreatDoor.ReadJ
open HolI LenX ReadI
theorem rest_ix (s:ByteArray) (a k:Int) (h0:0<=a) (hk:0<=k) (h:a+k<s.size):byteAt (s.extract a.toNat s.size) k=byteAt s (a+k):=by
 have hz:(s.extract a.toNat s.size).size=s.size-a.toNat:=by simp
 unfold byteAt
 rw [dif_pos (by omega),dif_pos (by omega)]
 congr 2
 simp only [ByteArray.getElem_extract]
 congr 1
 omega
theorem slice_rest (s:ByteArray) (a:Int) (h0:0<=a) (h1:a<=s.size) (w:World):(Instr.slice 9 (.string s) (some (.int .i64 a)) none none).run prog w=.ok (.string (s.extract a.toNat s.size)) w :=
 run_slice_string_l w (t:=9) (s:=s) underlying9 .i64 a h0 h1
theorem impl_out (s:ByteArray) (a:Int) (w:World) (h:a<0 \/ s.size<=a) :
  Calls prog 36 #[.string s,.int .i64 a] w fun e w'=>e=Tup zeroI 0/\Below w.heap.size w w':=by
 by_cases h0:a<0
 ·go_enter func36,ntmps36
  go_wp2
  exact bodyPost_ret (v:=.tuple #[.agg #[.int .i64 0,.bool false,.int .i64 0],.int .i64 0]) (by simp [results,results36,go_sem]) rfl ⟨rfl,zAl _ _⟩
 ·have hw:(s.size:Int)<=a:=by omega
  go_enter func36,ntmps36
  go_wp2
  exact bodyPost_ret (v:=.tuple #[.agg #[.int .i64 0,.bool false,.int .i64 0],.int .i64 0]) (by simp [results,results36,go_sem]) rfl ⟨rfl,zAl _ _⟩
theorem impl_cb (s:ByteArray) (a:Int) (w:World) (hs:s.size<=1048576) (h0:0<=a) (h1:a<s.size) (hc:byteAt s a=203) :
  Calls prog 36 #[.string s,.int .i64 a] w fun e w'=>e=Tup (readI s a) (readN s a)/\Below w.heap.size w w':=by
 have e1:readI s a=(if s.size-a<2 then zeroI else .agg #[.int .i64 (byteAt s (a+1)),.bool true,.int .i64 0]):=by unfold readI;rw [if_neg (by omega),if_pos hc]
 have e2:readN s a=(if s.size-a<2 then 0 else 2):=by unfold readN;rw [if_neg (by omega),if_pos hc]
 rw [e1,e2]
 clear e1 e2
 have sl:=slice_rest s a h0 (by omega)
 have hz:((s.extract a.toNat s.size).size:Int)=s.size-a:=by simp;omega
 have x0:=ix (s.extract a.toNat s.size) 0 (by omega) (by omega)
 rw [rest_ix s a 0 h0 (by omega) (by omega),Int.add_zero,hc] at x0
 by_cases h2:(s.size:Int)-a<2
 ·rw [if_pos h2,if_pos h2]
  generalize s.extract a.toNat s.size=R at sl hz x0
  rw [<- hz] at h2
  have hz1:(0:Int)<(R.size:Int):=by omega
  clear hz hc
  go_enter func36,ntmps36
  go_wp2
  exact bodyPost_ret (v:=.tuple #[.agg #[.int .i64 0,.bool false,.int .i64 0],.int .i64 0]) (by simp [results,results36,go_sem]) rfl ⟨rfl,zAl _ _⟩
 ·rw [if_neg h2,if_neg h2]
  have x1:=ix (s.extract a.toNat s.size) 1 (by omega) (by omega)
  rw [rest_ix s a 1 h0 (by omega) (by omega)] at x1
  have hy:=byteAt_bd s (a+1)
  generalize byteAt s (a+1)=Y at x1 hy
  generalize s.extract a.toNat s.size=R at sl hz x0 x1
  rw [<- hz] at h2
  have hz1:(0:Int)<(R.size:Int):=by omega
  have hz2:(1:Int)<(R.size:Int):=by omega
  have hw:IntKind.i64.wrap Y=Y:=by rw [IntKind.wrap_i64];omega
  have hw':wrap64 Y=Y:=by unfold wrap64;omega
  clear hz hc
  go_enter func36,ntmps36
  go_wp2
  exact bodyPost_ret (v:=.tuple #[.agg #[.int .i64 Y,.bool true,.int .i64 0],.int .i64 2]) (by simp [results,results36,go_sem]) rfl ⟨rfl,zAl _ _⟩
theorem impl_n (s:ByteArray) (a n:Int) (w:World) (hm:MaxL w) (hs:s.size<=1048576) (h0:0<=a) (h1:a<s.size) (hc:¬ byteAt s a=203) (hn:lenC (byteAt s a)=n) (hcs:n=0 \/ n=1 \/ n=2 \/ n=3) :
  Calls prog 36 #[.string s,.int .i64 a] w fun e w'=>e=Tup (readI s a) (readN s a)/\Below w.heap.size w w':=by
 have e1:readI s a=(if n=0 \/ s.size-a<n then zeroI else .agg #[.int .i64 (byteAt s a),.bool false,.int .i64 (immV s a n)]):=by unfold readI;rw [if_neg (by omega),if_neg hc,hn]
 have e2:readN s a=(if n=0 \/ s.size-a<n then 0 else n):=by unfold readN;rw [if_neg (by omega),if_neg hc,hn]
 rw [e1,e2]
 clear e1 e2
 have HM:Hid (MaxL w):=hm
 have sl:=slice_rest s a h0 (by omega)
 have hz:((s.extract a.toNat s.size).size:Int)=s.size-a:=by simp;omega
 have x0:=ix (s.extract a.toNat s.size) 0 (by omega) (by omega)
 rw [rest_ix s a 0 h0 (by omega) (by omega),Int.add_zero] at x0
 have bd:=byteAt_bd s a
 have cl:=fun w hm=>implLength_any (byteAt s a) false w hm
 have hd:lenV (none? (byteAt s a) false) false (hole (byteAt s a) false)=n:=hn
 rw [hd] at cl
 clear hd hn hm
 have hy1:=byteAt_bd s (a+1)
 have hy2:=byteAt_bd s (a+2)
 by_cases hq:n=0 \/ (s.size:Int)-a<n
 ·rw [if_pos hq,if_pos hq]
  generalize byteAt s a=X at x0 cl hc bd
  generalize s.extract a.toNat s.size=R at sl hz x0
  rw [<- hz] at hq
  have hz1:(0:Int)<(R.size:Int):=by omega
  have hw:IntKind.i64.wrap X=X:=by rw [IntKind.wrap_i64];omega
  have hw':wrap64 X=X:=by unfold wrap64;omega
  clear hz
  go_enter func36,ntmps36
  go_wp2_with fail
  refine (cl _ (HM.out.below (zAl _ _))).mono ?_
  rintro e w2 ⟨rfl,b2⟩
  have B2:Hid (Below _ _ w2):=b2
  have r0:=box b2 0 _ rfl
  have r1:=box b2 1 _ rfl
  have r2:=box b2 2 _ rfl
  have f0:=fro b2 0
  have f1:=fro b2 1
  have f2:=fro b2 2
  clear b2
  go_wp2
  all_goals exact bodyPost_ret (v:=.tuple #[.agg #[.int .i64 0,.bool false,.int .i64 0],.int .i64 0]) (by simp [results,results36,go_sem,r0,r1,r2]) rfl ⟨rfl,((((unbox B2.out).setCell (p:=⟨w.heap.size,0,none⟩) (Nat.le_refl _) _).setCell (p:=⟨w.heap.size,1,none⟩) (Nat.le_refl _) _).setCell (p:=⟨w.heap.size,2,none⟩) (Nat.le_refl _) _)⟩
 ·rw [if_neg hq,if_neg hq]
  have g1:¬ n=0:=fun h=>hq (.inl h)
  have g2:¬ ((s.extract a.toNat s.size).size:Int)<n:=fun h=>hq (.inr (by omega))
  have hn3:n=1 \/ n=2 \/ n=3:=by rcases hcs with h|h|h|h <;> omega
  clear hcs hq
  have hw:IntKind.i64.wrap (byteAt s a)=byteAt s a:=by rw [IntKind.wrap_i64];omega
  have hw':wrap64 (byteAt s a)=byteAt s a:=by unfold wrap64;omega
  rcases hn3 with rfl|rfl|rfl
  ·have ei:immV s a 1=0:=rfl
   rw [ei]
   clear ei
   generalize byteAt s a=X at x0 cl hc bd hw hw'
   generalize s.extract a.toNat s.size=R at sl hz x0 g2
   have hz1:(0:Int)<(R.size:Int):=by omega
   clear hz
   go_enter func36,ntmps36
   go_wp2_with fail
   refine (cl _ (HM.out.below (zAl _ _))).mono ?_
   rintro e w2 ⟨rfl,b2⟩
   have B2:Hid (Below _ _ w2):=b2
   have r0:=box b2 0 _ rfl
   have r1:=box b2 1 _ rfl
   have r2:=box b2 2 _ rfl
   have f0:=fro b2 0
   have f1:=fro b2 1
   have f2:=fro b2 2
   clear b2
   go_wp2
   refine wp_loop_rounds 1 ?_
   rw [rounds_succ]
   go_wp2
   exact bodyPost_ret (v:=.tuple #[.agg #[.int .i64 X,.bool false,.int .i64 0],.int .i64 1]) (by simp [results,results36,go_sem,r0,r1,r2]) rfl ⟨rfl,((((unbox B2.out).setCell (p:=⟨w.heap.size,0,none⟩) (Nat.le_refl _) _).setCell (p:=⟨w.heap.size,1,none⟩) (Nat.le_refl _) _).setCell (p:=⟨w.heap.size,2,none⟩) (Nat.le_refl _) _)⟩
  ·have ei:immV s a 2=byteAt s (a+1):=rfl
   rw [ei]
   clear ei
   have x1:=ix (s.extract a.toNat s.size) 1 (by omega) (by omega)
   rw [rest_ix s a 1 h0 (by omega) (by omega)] at x1
   generalize byteAt s a=X at x0 cl hc bd hw hw'
   generalize byteAt s (a+1)=Y at x1 hy1
   generalize s.extract a.toNat s.size=R at sl hz x0 x1 g2
   have hz1:(0:Int)<(R.size:Int):=by omega
   have hz2:(1:Int)<(R.size:Int):=by omega
   have hv:IntKind.i64.wrap Y=Y:=by rw [IntKind.wrap_i64];omega
   have hv':wrap64 Y=Y:=by unfold wrap64;omega
   clear hz
   go_enter func36,ntmps36
   go_wp2_with fail
   refine (cl _ (HM.out.below (zAl _ _))).mono ?_
   rintro e w2 ⟨rfl,b2⟩
   have B2:Hid (Below _ _ w2):=b2
   have r0:=box b2 0 _ rfl
   have r1:=box b2 1 _ rfl
   have r2:=box b2 2 _ rfl
   have f0:=fro b2 0
   have f1:=fro b2 1
   have f2:=fro b2 2
   clear b2
   go_wp2
   refine wp_loop_rounds 2 ?_
   rw [rounds_succ]
   go_wp2
   rw [rounds_succ]
   go_wp2
   exact bodyPost_ret (v:=.tuple #[.agg #[.int .i64 X,.bool false,.int .i64 Y],.int .i64 2]) (by simp [results,results36,go_sem,r0,r1,r2]) rfl ⟨rfl,((((unbox B2.out).setCell (p:=⟨w.heap.size,0,none⟩) (Nat.le_refl _) _).setCell (p:=⟨w.heap.size,1,none⟩) (Nat.le_refl _) _).setCell (p:=⟨w.heap.size,2,none⟩) (Nat.le_refl _) _)⟩
  ·have ei:immV s a 3=byteAt s (a+1)+256*byteAt s (a+2):=rfl
   rw [ei]
   clear ei
   have x1:=ix (s.extract a.toNat s.size) 1 (by omega) (by omega)
   rw [rest_ix s a 1 h0 (by omega) (by omega)] at x1
   have x2:=ix (s.extract a.toNat s.size) 2 (by omega) (by omega)
   rw [rest_ix s a 2 h0 (by omega) (by omega)] at x2
   generalize byteAt s a=X at x0 cl hc bd hw hw'
   generalize byteAt s (a+1)=Y at x1 hy1
   generalize byteAt s (a+2)=Z at x2 hy2
   generalize s.extract a.toNat s.size=R at sl hz x0 x1 x2 g2
   have hz1:(0:Int)<(R.size:Int):=by omega
   have hz2:(1:Int)<(R.size:Int):=by omega
   have hz3:(2:Int)<(R.size:Int):=by omega
   have hv:IntKind.i64.wrap Y=Y:=by rw [IntKind.wrap_i64];omega
   have hv':wrap64 Y=Y:=by unfold wrap64;omega
   have hu:IntKind.i64.wrap Z=Z:=by rw [IntKind.wrap_i64];omega
   have hu':wrap64 Z=Z:=by unfold wrap64;omega
   have ha:wrap64 (Z*256)=Z*256:=by unfold wrap64;omega
   have hb:wrap64 (Z*256+Y)=Z*256+Y:=by unfold wrap64;omega
   have ha':IntKind.i64.wrap (Z*256)=Z*256:=by rw [IntKind.wrap_i64];omega
   have hb':IntKind.i64.wrap (Z*256+Y)=Z*256+Y:=by rw [IntKind.wrap_i64];omega
   have HE:Hid (Y+256*Z=Z*256+Y):=by show Y+256*Z=Z*256+Y;omega
   clear hz
   go_enter func36,ntmps36
   go_wp2_with fail
   refine (cl _ (HM.out.below (zAl _ _))).mono ?_
   rintro e w2 ⟨rfl,b2⟩
   have B2:Hid (Below _ _ w2):=b2
   have r0:=box b2 0 _ rfl
   have r1:=box b2 1 _ rfl
   have r2:=box b2 2 _ rfl
   have f0:=fro b2 0
   have f1:=fro b2 1
   have f2:=fro b2 2
   clear b2
   go_wp2
   refine wp_loop_rounds 3 ?_
   rw [rounds_succ]
   go_wp2
   rw [rounds_succ]
   go_wp2
   rw [rounds_succ]
   go_wp2
   exact bodyPost_ret (v:=.tuple #[.agg #[.int .i64 X,.bool false,.int .i64 (Z*256+Y)],.int .i64 3]) (by simp [results,results36,go_sem,r0,r1,r2]) rfl ⟨by rw [HE.out];rfl,((((unbox B2.out).setCell (p:=⟨w.heap.size,0,none⟩) (Nat.le_refl _) _).setCell (p:=⟨w.heap.size,1,none⟩) (Nat.le_refl _) _).setCell (p:=⟨w.heap.size,2,none⟩) (Nat.le_refl _) _)⟩
theorem implRead_any (s:ByteArray) (a:Int) (w:World) (hm:MaxL w) (hs:s.size<=1048576) :
  Calls prog 36 #[.string s,.int .i64 a] w fun e w'=>e=Tup (readI s a) (readN s a)/\Below w.heap.size w w':=by
 by_cases h:a<0 \/ s.size<=a
 ·have e1:readI s a=zeroI:=by unfold readI;rw [if_pos h]
  have e2:readN s a=0:=by unfold readN;rw [if_pos h]
  rw [e1,e2]
  exact impl_out s a w h
 ·by_cases hc:byteAt s a=203
  ·exact impl_cb s a w hs (by omega) (by omega) hc
  ·exact impl_n s a _ w hm hs (by omega) (by omega) hc rfl (lenC_cases _)
theorem readI_agg (s:ByteArray) (a:Int):∃ (c:Int) (b:Bool) (m:Int),readI s a=.agg #[.int .i64 c,.bool b,.int .i64 m]:=by
 unfold readI zeroI
 split
 ·exact ⟨_,_,_,rfl⟩
 split
 ·split
  ·exact ⟨_,_,_,rfl⟩
  ·exact ⟨_,_,_,rfl⟩
 split
 ·exact ⟨_,_,_,rfl⟩
 ·exact ⟨_,_,_,rfl⟩
end Go.Proofs.YtnjolmbdbgbmbaaGreatDoor.ReadJ
namespace Go.Proofs.YtnjolmbdbgbmbaaGreatDoor.Stph
open Go.Deep
open Signed (inB sgn ret_int ret_bool)
open Busw Busx Stpp Stpq Stpi Stpj
def u (m:M) (k:Int):UInt8:=UInt8.ofNat (rd m ((m.pc+k)%65536)).toNat
theorem u_eq (m:M) (k:Int):((u m k).toNat:Int)=rd m ((m.pc+k)%65536):=by
 have h:=rd_bd m ((m.pc+k)%65536)
 unfold u
 rw [UInt8.toNat_ofNat']
 omega
def fetch (m:M):ByteArray:=⟨#[u m 0,u m 1,u m 2]⟩
theorem fetch_size (m:M):(fetch m).size=3:=rfl
theorem string_at {w:World} {A:Nat} {a b c:UInt8} {T:TypeId} (h:w.heap[A]? = some (.cells #[.int .u8 (a.toNat:Int),.int .u8 (b.toNat:Int),.int .u8 (c.toNat:Int)] T)):(convert 48 9 (.slice (some ⟨A,0,none⟩) 3 3)).run prog w=.ok (.string ⟨#[a,b,c]⟩) w :=
 run_convert_bytes_back (P:=prog) w 48 9 5 ⟨A,0,none⟩ 3 [a,b,c] underlying48 underlying5 underlying9 (fun j hj=>by
  have ea:(⟨A,0,none⟩ : Addr).add j=⟨A,j,none⟩:=by unfold Addr.add;split <;> simp_all
  rw [ea,cell_of_row w A j _ _ _ h]
  match j,hj with
  | 0,_=>rfl
  | 1,_=>rfl
  | 2,_=>rfl)
theorem insAt_any (m:M) (po:Option Addr) (cap B:Nat) (w:World) (hb:w.heap[B]? = some (.cells (cellsM m po cap) 33 (0,0))) (hr:Rt m) (hp:0<=m.pc/\m.pc<=65535) (hm:HolI.MaxL w) :
  Calls prog 92 #[.pointer (some ⟨B,0,none⟩)] w fun e w'=>e=.returned (.tuple #[ReadI.readI (fetch m) 0,.int .i64 (ReadI.readN (fetch m) 0)])/\Below w.heap.size w w':=by
 have lB:B<w.heap.size:=(zLo hb)
 have CR:Hid (∀ W a,Below w.heap.size w W->Calls prog 75 #[.pointer (some ⟨B,0,none⟩),.int .i64 (a%65536)] W fun e w'=>e=.returned (.int .i64 (rd m (a%65536)))/\Below W.heap.size W w'):=fun W a hW=>by
  have hb2:=(hW.block _ lB).trans hb
  rw [cells_def] at hb2
  exact MachB.readBus_any m.ra m.rf m.rB m.rC m.rD m.rE m.rH m.rL m.sp m.pc m.ime m.hal m.rom m.kind m.bank m.ram m.rb m.on m.mode m.work m.high po m.out cap m.cyc B _ W hb2 hr.cart hr.work hr.high (word_bd a).1
 have CW:=fun a w=>wrapped_any a w
 have PC:Hid (∀ W,Below w.heap.size w W->W.cell? ⟨B,9,none⟩=some (.int .i64 m.pc)):=fun W hW=>celM ((hW.block _ lB).trans hb) 9 _ rfl
 have HM:Hid (HolI.MaxL w):=hm
 have d1:IntKind.i64.wrap (m.pc+1)=m.pc+1:=by rw [IntKind.wrap_i64];omega
 have d2:IntKind.i64.wrap (m.pc+2)=m.pc+2:=by rw [IntKind.wrap_i64];omega
 have e0:=u_eq m 0
 have e1:=u_eq m 1
 have e2:=u_eq m 2
 rw [show m.pc+0=m.pc by omega] at e0
 obtain ⟨c,cb,imm,hI⟩:=ReadJ.readI_agg (fetch m) 0
 have CI:Hid (∀ W,Below w.heap.size w W->Calls prog 36 #[.string (fetch m),.int .i64 0] W fun e w'=>e=.returned (.tuple #[.agg #[.int .i64 c,.bool cb,.int .i64 imm],.int .i64 (ReadI.readN (fetch m) 0)])/\Below W.heap.size W w'):=fun W hW=>by
  have h:=ReadJ.implRead_any (fetch m) 0 W (hm.below hW) (by rw [fetch_size];decide)
  unfold ReadI.Tup at h
  rw [hI] at h
  exact h
 rw [hI]
 generalize ReadI.readN (fetch m) 0=n at *
 have hF:fetch m=⟨#[u m 0,u m 1,u m 2]⟩:=rfl
 rw [hF] at CI
 have b0:=(u m 0).toNat_lt
 have b1:=(u m 1).toNat_lt
 have b2:=(u m 2).toNat_lt
 generalize u m 0=u0 at *
 generalize u m 1=u1 at *
 generalize u m 2=u2 at *
 have z0:IntKind.u8.wrap (u0.toNat:Int)=u0.toNat:=by rw [IntKind.wrap_u8];omega
 have z1:IntKind.u8.wrap (u1.toNat:Int)=u1.toNat:=by rw [IntKind.wrap_u8];omega
 have z2:IntKind.u8.wrap (u2.toNat:Int)=u2.toNat:=by rw [IntKind.wrap_u8];omega
 have CR0:=fun W hW=>(CR.out W m.pc hW)
 have CR1:=fun W hW=>(CR.out W (m.pc+1) hW)
 have CR2:=fun W hW=>(CR.out W (m.pc+2) hW)
 rw [<- e0] at CR0
 rw [<- e1] at CR1
 rw [<- e2] at CR2
 have H0:Hid (∀ W,Below w.heap.size w W->Calls prog 75 #[.pointer (some ⟨B,0,none⟩),.int .i64 (m.pc%65536)] W fun e w'=>e=.returned (.int .i64 (u0.toNat:Int))/\Below W.heap.size W w'):=CR0
 have H1:Hid (∀ W,Below w.heap.size w W->Calls prog 75 #[.pointer (some ⟨B,0,none⟩),.int .i64 ((m.pc+1)%65536)] W fun e w'=>e=.returned (.int .i64 (u1.toNat:Int))/\Below W.heap.size W w'):=CR1
 have H2:Hid (∀ W,Below w.heap.size w W->Calls prog 75 #[.pointer (some ⟨B,0,none⟩),.int .i64 ((m.pc+2)%65536)] W fun e w'=>e=.returned (.int .i64 (u2.toNat:Int))/\Below W.heap.size W w'):=CR2
 have d0:IntKind.i64.wrap m.pc=m.pc:=by rw [IntKind.wrap_i64];omega
 have d0':wrap64 m.pc=m.pc:=by first|(unfold wrap64;omega)|(rw [<- wrap_i64_64];exact d0)
 have a0:Below w.heap.size w ((w.alloc (.cells #[.int .i64 0,.bool false,.int .i64 0] 59)).alloc (.cells #[.int .u8 0,.int .u8 0,.int .u8 0] 156)):=by repeat (with_reducible first|exact zRf|refine zGr ?_ _|refine below_drewN ?_ _|refine Below.drew ?_)
 have A0:Hid (Below w.heap.size w ((w.alloc (.cells #[.int .i64 0,.bool false,.int .i64 0] 59)).alloc (.cells #[.int .u8 0,.int .u8 0,.int .u8 0] 156))):=a0
 have HA:Hid (((w.alloc (.cells #[.int .i64 0,.bool false,.int .i64 0] 59)).alloc (.cells #[.int .u8 0,.int .u8 0,.int .u8 0] 156)).heap[w.heap.size+1]? = some (.cells #[.int .u8 0,.int .u8 0,.int .u8 0] 156)):=by show _=_;have h:=heap_alloc_new (w.alloc (.cells #[.int .i64 0,.bool false,.int .i64 0] 59)) (.cells #[.int .u8 0,.int .u8 0,.int .u8 0] 156);rw [show (w.alloc (.cells #[.int .i64 0,.bool false,.int .i64 0] 59)).heap.size=w.heap.size+1 by simp] at h;exact h
 have HRr:Hid (((w.alloc (.cells #[.int .i64 0,.bool false,.int .i64 0] 59)).alloc (.cells #[.int .u8 0,.int .u8 0,.int .u8 0] 156)).heap[w.heap.size]? = some (.cells #[.int .i64 0,.bool false,.int .i64 0] 59)):=by show _=_;rw [alloc_kept _ _ (by simp)];exact heap_alloc_new w _
 have q0:=PC.out _ A0.out
 clear a0
 clear hF CR0 CR1 CR2 e0 e1 e2 CR hI hm hp hr hb b0 b1 b2
 go_enter func92,ntmps92
 go_wp2_with fail
 refine wp_loop_rounds 4 ?_
 rw [rounds_succ]
 go_wp2_with (go_at_call 94;refine (CW _ _).mono ?_;rintro e w' ⟨rfl,hw'⟩;have hw':=hw'.symm;subst hw')
 refine Calls.mono (H0.out _ A0.out) ?_
 rintro e w1 ⟨rfl,hb⟩
 have hx:=(hb.block _ (zLo HA.out)).trans HA.out
 have hR:=(hb.block _ (zLo HRr.out)).trans HRr.out
 have k0:=(cell_of_row w1 (w.heap.size+1) 0 _ _ _ hx).trans rfl
 have f0:=frozen_of_row w1 (w.heap.size+1) 0 _ _ hx
 have X0:Hid ((w1.setCell ⟨w.heap.size+1,0,none⟩ (.int .u8 (u0.toNat:Int))).heap[w.heap.size+1]? = some (.cells #[.int .u8 (u0.toNat:Int),.int .u8 0,.int .u8 0] 156)):=(heap_setCell_same _ _ _ _ _ _ hx).trans rfl
 have R0:Hid ((w1.setCell ⟨w.heap.size+1,0,none⟩ (.int .u8 (u0.toNat:Int))).heap[w.heap.size]? = some (.cells #[.int .i64 0,.bool false,.int .i64 0] 59)):=(Below.heap_setCell _ _ _ _ (by simp)).trans hR
 have bB:=(HolI.after A0.out hb).setCell (p:=⟨w.heap.size+1,0,none⟩) (by simp) (.int .u8 (u0.toNat:Int))
 have B0:Hid (Below w.heap.size w (w1.setCell ⟨w.heap.size+1,0,none⟩ (.int .u8 (u0.toNat:Int)))):=bB
 have q1:=PC.out _ bB
 clear hx hb hR bB H0 HA HRr A0 q0
 go_wp2_with (go_at_call 94;refine (CW _ _).mono ?_;rintro e w' ⟨rfl,hw'⟩;have hw':=hw'.symm;subst hw')
 rw [rounds_succ]
 go_wp2_with (go_at_call 94;refine (CW _ _).mono ?_;rintro e w' ⟨rfl,hw'⟩;have hw':=hw'.symm;subst hw')
 refine Calls.mono (H1.out _ B0.out) ?_
 rintro e w2 ⟨rfl,hb⟩
 have hx:=(hb.block _ (zLo X0.out)).trans X0.out
 have hR:=(hb.block _ (zLo R0.out)).trans R0.out
 have k1:=(cell_of_row w2 (w.heap.size+1) 1 _ _ _ hx).trans rfl
 have f1:=frozen_of_row w2 (w.heap.size+1) 1 _ _ hx
 have X1:Hid ((w2.setCell ⟨w.heap.size+1,1,none⟩ (.int .u8 (u1.toNat:Int))).heap[w.heap.size+1]? = some (.cells #[.int .u8 (u0.toNat:Int),.int .u8 (u1.toNat:Int),.int .u8 0] 156)):=(heap_setCell_same _ _ _ _ _ _ hx).trans rfl
 have R1:Hid ((w2.setCell ⟨w.heap.size+1,1,none⟩ (.int .u8 (u1.toNat:Int))).heap[w.heap.size]? = some (.cells #[.int .i64 0,.bool false,.int .i64 0] 59)):=(Below.heap_setCell _ _ _ _ (by simp)).trans hR
 have bB:=(HolI.after B0.out hb).setCell (p:=⟨w.heap.size+1,1,none⟩) (by simp) (.int .u8 (u1.toNat:Int))
 have B1:Hid (Below w.heap.size w (w2.setCell ⟨w.heap.size+1,1,none⟩ (.int .u8 (u1.toNat:Int)))):=bB
 have q2:=PC.out _ bB
 clear hx hb hR bB H1 X0 R0 B0 q1
 go_wp2_with (go_at_call 94;refine (CW _ _).mono ?_;rintro e w' ⟨rfl,hw'⟩;have hw':=hw'.symm;subst hw')
 rw [rounds_succ]
 go_wp2_with (go_at_call 94;refine (CW _ _).mono ?_;rintro e w' ⟨rfl,hw'⟩;have hw':=hw'.symm;subst hw')
 refine Calls.mono (H2.out _ B1.out) ?_
 rintro e w3 ⟨rfl,hb⟩
 have hx:=(hb.block _ (zLo X1.out)).trans X1.out
 have hR:=(hb.block _ (zLo R1.out)).trans R1.out
 have k2:=(cell_of_row w3 (w.heap.size+1) 2 _ _ _ hx).trans rfl
 have f2:=frozen_of_row w3 (w.heap.size+1) 2 _ _ hx
 have X2:Hid ((w3.setCell ⟨w.heap.size+1,2,none⟩ (.int .u8 (u2.toNat:Int))).heap[w.heap.size+1]? = some (.cells #[.int .u8 (u0.toNat:Int),.int .u8 (u1.toNat:Int),.int .u8 (u2.toNat:Int)] 156)):=(heap_setCell_same _ _ _ _ _ _ hx).trans rfl
 have R2:Hid ((w3.setCell ⟨w.heap.size+1,2,none⟩ (.int .u8 (u2.toNat:Int))).heap[w.heap.size]? = some (.cells #[.int .i64 0,.bool false,.int .i64 0] 59)):=(Below.heap_setCell _ _ _ _ (by simp)).trans hR
 have bB:=(HolI.after B1.out hb).setCell (p:=⟨w.heap.size+1,2,none⟩) (by simp) (.int .u8 (u2.toNat:Int))
 have B2:Hid (Below w.heap.size w (w3.setCell ⟨w.heap.size+1,2,none⟩ (.int .u8 (u2.toNat:Int)))):=bB
 have q3:=PC.out _ bB
 clear hx hb hR bB H2 X1 R1 B1 q2
 have hs:=string_at X2.out
 go_wp2_with (go_at_call 94;refine (CW _ _).mono ?_;rintro e w' ⟨rfl,hw'⟩;have hw':=hw'.symm;subst hw')
 rw [rounds_succ]
 go_wp2_with (go_at_call 94;refine (CW _ _).mono ?_;rintro e w' ⟨rfl,hw'⟩;have hw':=hw'.symm;subst hw')
 refine Calls.mono (CI.out _ B2.out) ?_
 rintro e w4 ⟨rfl,hb⟩
 have hR:=(hb.block _ (zLo R2.out)).trans R2.out
 have r0:=(cell_of_row w4 w.heap.size 0 _ _ _ hR).trans rfl
 have r1:=(cell_of_row w4 w.heap.size 1 _ _ _ hR).trans rfl
 have r2:=(cell_of_row w4 w.heap.size 2 _ _ _ hR).trans rfl
 have g0:=frozen_of_row w4 w.heap.size 0 _ _ hR
 have g1:=frozen_of_row w4 w.heap.size 1 _ _ hR
 have g2:=frozen_of_row w4 w.heap.size 2 _ _ hR
 have lR:w.heap.size<w4.heap.size:=(zLo hR)
 have B4:=zHd (HolI.after B2.out hb)
 clear hR hb B2 R2 CI
 go_wp2_with fail
 refine bodyPost_ret (v:=.tuple #[.agg #[.int .i64 c,.bool cb,.int .i64 imm],.int .i64 n]) (by simp [results,results92,go_sem,r0,r1,r2,lR]) rfl ⟨rfl,?_⟩
 exact ((B4.out.setCell (Nat.le_refl _) _).setCell (Nat.le_refl _) _).setCell (Nat.le_refl _) _
end Go.Proofs.YtnjolmbdbgbmbaaGreatDoor.Stph
namespace Go.Proofs.YtnjolmbdbgbmbaaGreatDoor.Cyc
open Shape
theorem chosen_any (b:Bool) (y n:Int) (w:World) :
  Calls prog 115 #[.bool b,.int .i64 y,.int .i64 n] w fun e w'=>e=.returned (.int .i64 (if b=true then y else n))/\w'=w:=by
 cases b
 all_goals
  go_enter func115,ntmps115
  go_wp2
  go_ret
  exact ⟨rfl,rfl⟩
def prefC (x z:Int):Int:=if z=6 then (if x=1 then 3 else 4) else 2
theorem prefixCycles_any (x y z p q:Int) (w:World) :
  Calls prog 79 #[.agg #[.int .i64 x,.int .i64 y,.int .i64 z,.int .i64 p,.int .i64 q]] w fun e w'=>e=.returned (.int .i64 (prefC x z))/\Below w.heap.size w w':=by
 by_cases hz:z=6
 ·subst hz
  by_cases hx:x=1
  ·subst hx
   go_enter func79,ntmps79
   go_wp2
   go_ret
   exact ⟨rfl,zAl _ _⟩
  ·have hx':(x == 1)=false:=by simpa using hx
   have e:prefC x 6=4:=by unfold prefC;rw [if_pos rfl,if_neg hx]
   rw [e]
   go_enter func79,ntmps79
   go_wp2
   go_ret
   exact ⟨rfl,zAl _ _⟩
 ·have hz':(z == 6)=false:=by simpa using hz
  have hz'':(z != 6)=true:=by simpa using hz
  have e:prefC x z=2:=by unfold prefC;rw [if_neg hz]
  rw [e]
  go_enter func79,ntmps79
  go_wp2
  go_ret
  exact ⟨rfl,zAl _ _⟩
end Go.Proofs.YtnjolmbdbgbmbaaGreatDoor.Cyc
namespace Go.Proofs.YtnjolmbdbgbmbaaGreatDoor.CycD
theorem grow {B:Nat} {a b:World} (h:Below B a b) (hB:B=a.heap.size) (o:Obj):Below B a (b.alloc o):=h.alloc (by subst hB;exact h.size) o
def ob (b:Bool):Int:=if b=true then 1 else 0
def lowC (y z:Int) (t:Bool):Int:=if z=0 then (if y=0 then 1 else if y=1 then 5 else if y=2 then 1 else if y=3 then 3 else 2+ob t) else if z=1 then 3-y%2 else if z=2 then 2 else if z=3 then 2 else if z=7 then 1 else if y=6 then 3 else if z=6 then 2 else 1
def topC (y z:Int) (t:Bool):Int:=if z=0 then (if y<4 then 2+3*ob t else if y=5 then 4 else 3) else if z=1 then (if y%2=0 then 3 else if y=5 then 1 else if y=7 then 2 else 4) else if z=2 then (if y<4 then 3+ob t else if y%2=0 then 2 else 4) else if z=3 then (if y=0 then 4 else 1) else if z=4 then 3+3*ob t else if z=5 then (if y=1 then 6 else 4) else if z=6 then 2 else 4
def goneB (y z:Int):Bool:=(z == 3 && (1<=y && y<=5)) || (z == 4 && 4<=y) || (z == 5 && (y == 3 || y == 5 || y == 7))
end Go.Proofs.YtnjolmbdbgbmbaaGreatDoor.CycD
namespace Go.Proofs.YtnjolmbdbgbmbaaGreatDoor.CycE
open Tabs (cases8)
open CycD
theorem one_any (b:Bool) (w:World):Calls prog 136 #[.bool b] w fun e w'=>e=.returned (.int .i64 (ob b))/\w'=w:=by
 cases b
 all_goals
  go_enter func136,ntmps136
  go_wp2
  go_ret
  exact ⟨rfl,rfl⟩
end Go.Proofs.YtnjolmbdbgbmbaaGreatDoor.CycE
namespace Go.Proofs.YtnjolmbdbgbmbaaGreatDoor.CycS
open Tabs (cases8)
open CycD CycE
theorem cycles_any (y z:Int) (t:Bool) (w:World) (y0:0<=y) (y1:y<=7) (z0:0<=z) (z1:z<=7) :
  Calls prog 137 #[.int .i64 y,.int .i64 z,.bool t] w fun e w'=>e=.returned (.int .i64 (topC y z t))/\Below w.heap.size w w':=by
 have c:=fun w=>one_any t w
 rcases cases8 z0 z1 with rfl|rfl|rfl|rfl|rfl|rfl|rfl|rfl <;> rcases cases8 y0 y1 with rfl|rfl|rfl|rfl|rfl|rfl|rfl|rfl <;> cases t
 all_goals
  rw [show ob _=_ from rfl] at c
  go_enter func137,ntmps137
  go_wp2_with (go_at_call 136;refine (c _).mono ?_;rintro e w' ⟨rfl,hw'⟩;have hw':=hw'.symm;subst hw')
  go_ret
  refine ⟨Signed.ret_int (by decide +kernel),?_⟩
  repeat' with_reducible first|exact zRf|refine below_of_drew ?_|refine grow ?_ rfl _
end Go.Proofs.YtnjolmbdbgbmbaaGreatDoor.CycS
namespace Go.Proofs.YtnjolmbdbgbmbaaGreatDoor.CycQ
open Signed (inB ret_int)
open Tabs (cases8)
open CycD CycE Cyc Leng Tmpl
theorem Lgrow {a b:World} (h:Below a.heap.size a b) (o:Obj):Below a.heap.size a (b.alloc o):=h.alloc h.size o
theorem ob_t:ob true=1:=rfl
theorem ob_f:ob false=0:=rfl
def cycV (code:Int) (cb t:Bool):Int:=if cb=true then prefC (code / 64) (code%8) else if code / 64=0 then lowC (code / 8%8) (code%8) t else if code / 64=3 then topC (code / 8%8) (code%8) t else if code=118 then 1 else if code%8=6 then 2 else if code / 64=1/\code / 8%8=6 then 2 else 1
def NZ (e:Ending):Prop:=∃ n:Int,e=.returned (.int .i64 n)/\¬ n=0
def Len (code:Int) (cb:Bool):Prop:=∀ w,Calls prog 135 #[.int .i64 code,.bool cb] w fun e w'=>NZ e/\Below w.heap.size w w'
theorem spec_low (y z:Int) (t:Bool) (w:World) (y0:0<=y) (y1:y<=7) (z0:0<=z) (z1:z<=7) (hl:Len (y*8+z) false) :
  Calls prog 91 #[.int .i64 (y*8+z),.bool false,.bool t] w fun e w'=>e=.returned (.int .i64 (lowC y z t))/\Below w.heap.size w w':=by
 rcases cases8 z0 z1 with rfl|rfl|rfl|rfl|rfl|rfl|rfl|rfl <;> rcases cases8 y0 y1 with rfl|rfl|rfl|rfl|rfl|rfl|rfl|rfl
 all_goals
  simp only [Int.reduceMul,Int.reduceAdd] at hl |-
  cases t
 all_goals
  go_enter func91,ntmps91
  go_wp2_with fail
  refine (hl _).mono ?_
  rintro e w1 ⟨⟨n,rfl,hn⟩,b1⟩
  have hn':(n == 0)=false:=by simpa using hn
  have B1:Hid (Below w.heap.size w w1):=b1
  clear b1 hl
  go_wp2_with (go_at_call 136;refine (one_any _ _).mono ?_;rintro e w' ⟨rfl,hw'⟩;have hw':=hw'.symm;subst hw';(try rw [ob_t]);(try rw [ob_f]))
  go_ret
  refine ⟨ret_int (by first|decide|decide +kernel),?_⟩
  repeat' with_reducible first|exact B1.out|refine below_of_drew ?_|refine Lgrow ?_ _
theorem spec_cb2 (code:Int) (t:Bool) (w:World) (hz:¬ code%8=6) (h0:0<=code) (h1:code<=255) (hl:Len code true) :
  Calls prog 91 #[.int .i64 code,.bool true,.bool t] w fun e w'=>e=.returned (.int .i64 (2))/\Below w.heap.size w w':=by
 have q1:(code%8 == 6)=false:=by simpa using hz
 have q2:(code%8 != 6)=true:=by simpa using hz
 go_enter func91,ntmps91
 go_wp2_with fail
 refine (hl _).mono ?_
 rintro e w1 ⟨⟨n,rfl,hn⟩,b1⟩
 have hn':(n == 0)=false:=by simpa using hn
 have B1:Hid (Below w.heap.size w w1):=b1
 clear b1 hl
 go_wp2
 go_ret
 exact ⟨rfl,B1.out⟩
theorem spec_cb3 (code:Int) (t:Bool) (w:World) (hz:code%8=6) (hx:code / 64=1) (h0:0<=code) (h1:code<=255) (hl:Len code true) :
  Calls prog 91 #[.int .i64 code,.bool true,.bool t] w fun e w'=>e=.returned (.int .i64 (3))/\Below w.heap.size w w':=by
 go_enter func91,ntmps91
 go_wp2_with fail
 refine (hl _).mono ?_
 rintro e w1 ⟨⟨n,rfl,hn⟩,b1⟩
 have hn':(n == 0)=false:=by simpa using hn
 have B1:Hid (Below w.heap.size w w1):=b1
 clear b1 hl
 go_wp2
 go_ret
 exact ⟨rfl,B1.out⟩
theorem spec_cb4 (code:Int) (t:Bool) (w:World) (hz:code%8=6) (hx:¬ code / 64=1) (h0:0<=code) (h1:code<=255) (hl:Len code true) :
  Calls prog 91 #[.int .i64 code,.bool true,.bool t] w fun e w'=>e=.returned (.int .i64 (4))/\Below w.heap.size w w':=by
 have q1:(code / 64 == 1)=false:=by simpa using hx
 go_enter func91,ntmps91
 go_wp2_with fail
 refine (hl _).mono ?_
 rintro e w1 ⟨⟨n,rfl,hn⟩,b1⟩
 have hn':(n == 0)=false:=by simpa using hn
 have B1:Hid (Below w.heap.size w w1):=b1
 clear b1 hl
 go_wp2
 go_ret
 exact ⟨rfl,B1.out⟩
theorem spec_halt (code:Int) (t:Bool) (w:World) (hc:code=118) (h0:0<=code) (h1:code<=255) (hl:Len code false) :
  Calls prog 91 #[.int .i64 code,.bool false,.bool t] w fun e w'=>e=.returned (.int .i64 (1))/\Below w.heap.size w w':=by
 subst hc
 go_enter func91,ntmps91
 go_wp2_with fail
 refine (hl _).mono ?_
 rintro e w1 ⟨⟨n,rfl,hn⟩,b1⟩
 have hn':(n == 0)=false:=by simpa using hn
 have B1:Hid (Below w.heap.size w w1):=b1
 clear b1 hl
 go_wp2
 go_ret
 exact ⟨rfl,B1.out⟩
theorem spec_1z (code:Int) (t:Bool) (w:World) (hx:code / 64=1) (hh:¬ code=118) (hz:code%8=6) (h0:0<=code) (h1:code<=255) (hl:Len code false) :
  Calls prog 91 #[.int .i64 code,.bool false,.bool t] w fun e w'=>e=.returned (.int .i64 (2))/\Below w.heap.size w w':=by
 have q118:(code == 118)=false:=by simpa using hh
 have hy:¬ code / 8%8=6:=by omega
 have qy:(code / 8%8 == 6)=false:=by simpa using hy
 go_enter func91,ntmps91
 go_wp2_with fail
 refine (hl _).mono ?_
 rintro e w1 ⟨⟨n,rfl,hn⟩,b1⟩
 have hn':(n == 0)=false:=by simpa using hn
 have B1:Hid (Below w.heap.size w w1):=b1
 clear b1 hl
 go_wp2_with (go_at_call 136;refine (one_any _ _).mono ?_;rintro e w' ⟨rfl,hw'⟩;have hw':=hw'.symm;subst hw';(try rw [ob_t]);(try rw [ob_f]))
 go_ret
 exact ⟨rfl,B1.out⟩
theorem spec_1y (code:Int) (t:Bool) (w:World) (hx:code / 64=1) (hh:¬ code=118) (hy:code / 8%8=6) (h0:0<=code) (h1:code<=255) (hl:Len code false) :
  Calls prog 91 #[.int .i64 code,.bool false,.bool t] w fun e w'=>e=.returned (.int .i64 (2))/\Below w.heap.size w w':=by
 have q118:(code == 118)=false:=by simpa using hh
 have hz:¬ code%8=6:=by omega
 have qz:(code%8 == 6)=false:=by simpa using hz
 go_enter func91,ntmps91
 go_wp2_with fail
 refine (hl _).mono ?_
 rintro e w1 ⟨⟨n,rfl,hn⟩,b1⟩
 have hn':(n == 0)=false:=by simpa using hn
 have B1:Hid (Below w.heap.size w w1):=b1
 clear b1 hl
 go_wp2_with (go_at_call 136;refine (one_any _ _).mono ?_;rintro e w' ⟨rfl,hw'⟩;have hw':=hw'.symm;subst hw';(try rw [ob_t]);(try rw [ob_f]))
 go_ret
 exact ⟨rfl,B1.out⟩
theorem spec_1n (code:Int) (t:Bool) (w:World) (hx:code / 64=1) (hy:¬ code / 8%8=6) (hz:¬ code%8=6) (h0:0<=code) (h1:code<=255) (hl:Len code false) :
  Calls prog 91 #[.int .i64 code,.bool false,.bool t] w fun e w'=>e=.returned (.int .i64 (1))/\Below w.heap.size w w':=by
 have hh:¬ code=118:=by omega
 have q118:(code == 118)=false:=by simpa using hh
 have qz:(code%8 == 6)=false:=by simpa using hz
 have qy:(code / 8%8 == 6)=false:=by simpa using hy
 go_enter func91,ntmps91
 go_wp2_with fail
 refine (hl _).mono ?_
 rintro e w1 ⟨⟨n,rfl,hn⟩,b1⟩
 have hn':(n == 0)=false:=by simpa using hn
 have B1:Hid (Below w.heap.size w w1):=b1
 clear b1 hl
 go_wp2_with (go_at_call 136;refine (one_any _ _).mono ?_;rintro e w' ⟨rfl,hw'⟩;have hw':=hw'.symm;subst hw';(try rw [ob_t]);(try rw [ob_f]))
 go_ret
 exact ⟨rfl,B1.out⟩
theorem spec_2z (code:Int) (t:Bool) (w:World) (hx:code / 64=2) (hz:code%8=6) (h0:0<=code) (h1:code<=255) (hl:Len code false) :
  Calls prog 91 #[.int .i64 code,.bool false,.bool t] w fun e w'=>e=.returned (.int .i64 (2))/\Below w.heap.size w w':=by
 have hh:¬ code=118:=by omega
 have q118:(code == 118)=false:=by simpa using hh
 go_enter func91,ntmps91
 go_wp2_with fail
 refine (hl _).mono ?_
 rintro e w1 ⟨⟨n,rfl,hn⟩,b1⟩
 have hn':(n == 0)=false:=by simpa using hn
 have B1:Hid (Below w.heap.size w w1):=b1
 clear b1 hl
 go_wp2_with (go_at_call 136;refine (one_any _ _).mono ?_;rintro e w' ⟨rfl,hw'⟩;have hw':=hw'.symm;subst hw';(try rw [ob_t]);(try rw [ob_f]))
 go_ret
 exact ⟨rfl,B1.out⟩
theorem spec_2n (code:Int) (t:Bool) (w:World) (hx:code / 64=2) (hz:¬ code%8=6) (h0:0<=code) (h1:code<=255) (hl:Len code false) :
  Calls prog 91 #[.int .i64 code,.bool false,.bool t] w fun e w'=>e=.returned (.int .i64 (1))/\Below w.heap.size w w':=by
 have hh:¬ code=118:=by omega
 have q118:(code == 118)=false:=by simpa using hh
 have qz:(code%8 == 6)=false:=by simpa using hz
 go_enter func91,ntmps91
 go_wp2_with fail
 refine (hl _).mono ?_
 rintro e w1 ⟨⟨n,rfl,hn⟩,b1⟩
 have hn':(n == 0)=false:=by simpa using hn
 have B1:Hid (Below w.heap.size w w1):=b1
 clear b1 hl
 go_wp2_with (go_at_call 136;refine (one_any _ _).mono ?_;rintro e w' ⟨rfl,hw'⟩;have hw':=hw'.symm;subst hw';(try rw [ob_t]);(try rw [ob_f]))
 go_ret
 exact ⟨rfl,B1.out⟩
end Go.Proofs.YtnjolmbdbgbmbaaGreatDoor.CycQ
namespace Go.Proofs.YtnjolmbdbgbmbaaGreatDoor.CycO
open Signed (inB ret_int)
open CycD CycE CycS CycQ Cyc Leng Tmpl
theorem spec_top (code:Int) (t:Bool) (w:World) (y z:Int) (hx:code / 64=3) (hy:code / 8%8=y) (hz:code%8=z) (h0:0<=code) (h1:code<=255) (hl:Len code false) :
  Calls prog 91 #[.int .i64 code,.bool false,.bool t] w fun e w'=>e=.returned (.int .i64 (topC y z t))/\Below w.heap.size w w':=by
 have hh:¬ code=118:=by omega
 have q118:(code == 118)=false:=by simpa using hh
 have c:=fun w=>cycles_any y z t w (by omega) (by omega) (by omega) (by omega)
 generalize topC y z t=T at c |-
 go_enter func91,ntmps91
 go_wp2_with fail
 refine (hl _).mono ?_
 rintro e w1 ⟨⟨n,rfl,hn⟩,b1⟩
 have hn':(n == 0)=false:=by simpa using hn
 have B1:Hid (Below w.heap.size w w1):=b1
 clear b1 hl
 go_wp2_with fail
 simp only [hy,hz]
 refine (c _).mono ?_
 rintro e w2 ⟨rfl,b2⟩
 have B2:Hid (Below w.heap.size w w2):=B1.out.trans (b2.mono B1.out.size)
 clear b2 B1
 go_wp2
 go_ret
 exact ⟨rfl,B2.out⟩
theorem spec_any (code:Int) (cb t:Bool) (w:World) (h0:0<=code) (h1:code<=255) (hl:Len code cb) :
  Calls prog 91 #[.int .i64 code,.bool cb,.bool t] w fun e w'=>e=.returned (.int .i64 (cycV code cb t))/\Below w.heap.size w w':=by
 unfold cycV
 cases cb with
 | true =>
  rw [if_pos rfl]
  unfold prefC
  by_cases hz:code%8=6
  ·rw [if_pos hz]
   by_cases hx:code / 64=1
   ·rw [if_pos hx];exact spec_cb3 code t w hz hx h0 h1 hl
   ·rw [if_neg hx];exact spec_cb4 code t w hz hx h0 h1 hl
  ·rw [if_neg hz];exact spec_cb2 code t w hz h0 h1 hl
 | false =>
  rw [if_neg (by decide)]
  by_cases hx:code / 64=0
  ·rw [if_pos hx]
   have e:code / 8%8*8+code%8=code:=by omega
   have h:=spec_low (code / 8%8) (code%8) t w (by omega) (by omega) (by omega) (by omega) (by rw [e];exact hl)
   rw [e] at h
   exact h
  rw [if_neg hx]
  by_cases h3:code / 64=3
  ·rw [if_pos h3];exact spec_top code t w _ _ h3 rfl rfl h0 h1 hl
  rw [if_neg h3]
  by_cases h8:code=118
  ·rw [if_pos h8];exact spec_halt code t w h8 h0 h1 hl
  rw [if_neg h8]
  by_cases hz:code%8=6
  ·rw [if_pos hz]
   by_cases h2:code / 64=1
   ·exact spec_1z code t w h2 h8 hz h0 h1 hl
   ·exact spec_2z code t w (by omega) hz h0 h1 hl
  rw [if_neg hz]
  by_cases h2:code / 64=1
  ·by_cases hy:code / 8%8=6
   ·rw [if_pos ⟨h2,hy⟩];exact spec_1y code t w h2 h8 hy h0 h1 hl
   ·rw [if_neg (fun h=>hy h.2)];exact spec_1n code t w h2 hy hz h0 h1 hl
  ·rw [if_neg (fun h=>h2 h.1)];exact spec_2n code t w (by omega) hz h0 h1 hl
end Go.Proofs.YtnjolmbdbgbmbaaGreatDoor.CycO
namespace Go.Proofs.YtnjolmbdbgbmbaaGreatDoor.CycA
open Tabs (cases8)
open CycD Cyc
theorem ix8_0 (a0 a1 a2 a3 a4 a5 a6 a7:Int) (w:World):(Instr.index 134 (.agg #[.int .i64 a0,.int .i64 a1,.int .i64 a2,.int .i64 a3,.int .i64 a4,.int .i64 a5,.int .i64 a6,.int .i64 a7]) (.int .i64 0)).run prog w=.ok (.int .i64 a0) w:=by kernel_rfl
theorem ix8_1 (a0 a1 a2 a3 a4 a5 a6 a7:Int) (w:World):(Instr.index 134 (.agg #[.int .i64 a0,.int .i64 a1,.int .i64 a2,.int .i64 a3,.int .i64 a4,.int .i64 a5,.int .i64 a6,.int .i64 a7]) (.int .i64 1)).run prog w=.ok (.int .i64 a1) w:=by kernel_rfl
theorem ix8_2 (a0 a1 a2 a3 a4 a5 a6 a7:Int) (w:World):(Instr.index 134 (.agg #[.int .i64 a0,.int .i64 a1,.int .i64 a2,.int .i64 a3,.int .i64 a4,.int .i64 a5,.int .i64 a6,.int .i64 a7]) (.int .i64 2)).run prog w=.ok (.int .i64 a2) w:=by kernel_rfl
theorem ix8_3 (a0 a1 a2 a3 a4 a5 a6 a7:Int) (w:World):(Instr.index 134 (.agg #[.int .i64 a0,.int .i64 a1,.int .i64 a2,.int .i64 a3,.int .i64 a4,.int .i64 a5,.int .i64 a6,.int .i64 a7]) (.int .i64 3)).run prog w=.ok (.int .i64 a3) w:=by kernel_rfl
theorem ix8_4 (a0 a1 a2 a3 a4 a5 a6 a7:Int) (w:World):(Instr.index 134 (.agg #[.int .i64 a0,.int .i64 a1,.int .i64 a2,.int .i64 a3,.int .i64 a4,.int .i64 a5,.int .i64 a6,.int .i64 a7]) (.int .i64 4)).run prog w=.ok (.int .i64 a4) w:=by kernel_rfl
theorem ix8_5 (a0 a1 a2 a3 a4 a5 a6 a7:Int) (w:World):(Instr.index 134 (.agg #[.int .i64 a0,.int .i64 a1,.int .i64 a2,.int .i64 a3,.int .i64 a4,.int .i64 a5,.int .i64 a6,.int .i64 a7]) (.int .i64 5)).run prog w=.ok (.int .i64 a5) w:=by kernel_rfl
theorem ix8_6 (a0 a1 a2 a3 a4 a5 a6 a7:Int) (w:World):(Instr.index 134 (.agg #[.int .i64 a0,.int .i64 a1,.int .i64 a2,.int .i64 a3,.int .i64 a4,.int .i64 a5,.int .i64 a6,.int .i64 a7]) (.int .i64 6)).run prog w=.ok (.int .i64 a6) w:=by kernel_rfl
theorem ix8_7 (a0 a1 a2 a3 a4 a5 a6 a7:Int) (w:World):(Instr.index 134 (.agg #[.int .i64 a0,.int .i64 a1,.int .i64 a2,.int .i64 a3,.int .i64 a4,.int .i64 a5,.int .i64 a6,.int .i64 a7]) (.int .i64 7)).run prog w=.ok (.int .i64 a7) w:=by kernel_rfl
theorem ix3_0 (a0 a1 a2:Int) (w:World):(Instr.index 145 (.agg #[.int .i64 a0,.int .i64 a1,.int .i64 a2]) (.int .i64 0)).run prog w=.ok (.int .i64 a0) w:=by kernel_rfl
theorem ix3_1 (a0 a1 a2:Int) (w:World):(Instr.index 145 (.agg #[.int .i64 a0,.int .i64 a1,.int .i64 a2]) (.int .i64 1)).run prog w=.ok (.int .i64 a1) w:=by kernel_rfl
theorem ix3_2 (a0 a1 a2:Int) (w:World):(Instr.index 145 (.agg #[.int .i64 a0,.int .i64 a1,.int .i64 a2]) (.int .i64 2)).run prog w=.ok (.int .i64 a2) w:=by kernel_rfl
theorem ix2_0 (a0 a1:Int) (w:World):(Instr.index 144 (.agg #[.int .i64 a0,.int .i64 a1]) (.int .i64 0)).run prog w=.ok (.int .i64 a0) w:=by kernel_rfl
theorem ix2_1 (a0 a1:Int) (w:World):(Instr.index 144 (.agg #[.int .i64 a0,.int .i64 a1]) (.int .i64 1)).run prog w=.ok (.int .i64 a1) w:=by kernel_rfl
theorem lowCycles_any (x y z p q:Int) (t:Bool) (w:World) (hq:q=y%2) (y0:0<=y) (y1:y<=7) (z0:0<=z) (z1:z<=7) :
  Calls prog 80 #[.agg #[.int .i64 x,.int .i64 y,.int .i64 z,.int .i64 p,.int .i64 q],.bool t] w fun e w'=>e=.returned (.int .i64 (lowC y z t))/\Below w.heap.size w w':=by
 have c:=fun y n w=>chosen_any t y n w
 have i80:=ix8_0
 have i81:=ix8_1
 have i82:=ix8_2
 have i83:=ix8_3
 have i84:=ix8_4
 have i85:=ix8_5
 have i86:=ix8_6
 have i87:=ix8_7
 have i30:=ix3_0
 have i31:=ix3_1
 have i32:=ix3_2
 have i20:=ix2_0
 have i21:=ix2_1
 rcases cases8 z0 z1 with rfl|rfl|rfl|rfl|rfl|rfl|rfl|rfl <;> rcases cases8 y0 y1 with rfl|rfl|rfl|rfl|rfl|rfl|rfl|rfl
 all_goals
  rw [show (_:Int)%2=_ from rfl] at hq
  subst hq
  cases t
 all_goals
  simp only [if_true,if_false,Bool.false_eq_true] at c
  go_enter func80,ntmps80
  go_wp2_with (go_at_call 115;refine (c _ _ _).mono ?_;rintro e w' ⟨rfl,hw'⟩;have hw':=hw'.symm;subst hw')
  go_ret
  refine ⟨Signed.ret_int (by decide),?_⟩
  repeat' with_reducible first|exact zRf|refine below_of_drew ?_|refine grow ?_ rfl _
end Go.Proofs.YtnjolmbdbgbmbaaGreatDoor.CycA
namespace Go.Proofs.YtnjolmbdbgbmbaaGreatDoor.CycB
open Tabs (cases8)
open CycD Cyc
theorem ix8_0 (a0 a1 a2 a3 a4 a5 a6 a7:Int) (w:World):(Instr.index 134 (.agg #[.int .i64 a0,.int .i64 a1,.int .i64 a2,.int .i64 a3,.int .i64 a4,.int .i64 a5,.int .i64 a6,.int .i64 a7]) (.int .i64 0)).run prog w=.ok (.int .i64 a0) w:=by kernel_rfl
theorem ix8_1 (a0 a1 a2 a3 a4 a5 a6 a7:Int) (w:World):(Instr.index 134 (.agg #[.int .i64 a0,.int .i64 a1,.int .i64 a2,.int .i64 a3,.int .i64 a4,.int .i64 a5,.int .i64 a6,.int .i64 a7]) (.int .i64 1)).run prog w=.ok (.int .i64 a1) w:=by kernel_rfl
theorem ix8_2 (a0 a1 a2 a3 a4 a5 a6 a7:Int) (w:World):(Instr.index 134 (.agg #[.int .i64 a0,.int .i64 a1,.int .i64 a2,.int .i64 a3,.int .i64 a4,.int .i64 a5,.int .i64 a6,.int .i64 a7]) (.int .i64 2)).run prog w=.ok (.int .i64 a2) w:=by kernel_rfl
theorem ix8_3 (a0 a1 a2 a3 a4 a5 a6 a7:Int) (w:World):(Instr.index 134 (.agg #[.int .i64 a0,.int .i64 a1,.int .i64 a2,.int .i64 a3,.int .i64 a4,.int .i64 a5,.int .i64 a6,.int .i64 a7]) (.int .i64 3)).run prog w=.ok (.int .i64 a3) w:=by kernel_rfl
theorem ix8_4 (a0 a1 a2 a3 a4 a5 a6 a7:Int) (w:World):(Instr.index 134 (.agg #[.int .i64 a0,.int .i64 a1,.int .i64 a2,.int .i64 a3,.int .i64 a4,.int .i64 a5,.int .i64 a6,.int .i64 a7]) (.int .i64 4)).run prog w=.ok (.int .i64 a4) w:=by kernel_rfl
theorem ix8_5 (a0 a1 a2 a3 a4 a5 a6 a7:Int) (w:World):(Instr.index 134 (.agg #[.int .i64 a0,.int .i64 a1,.int .i64 a2,.int .i64 a3,.int .i64 a4,.int .i64 a5,.int .i64 a6,.int .i64 a7]) (.int .i64 5)).run prog w=.ok (.int .i64 a5) w:=by kernel_rfl
theorem ix8_6 (a0 a1 a2 a3 a4 a5 a6 a7:Int) (w:World):(Instr.index 134 (.agg #[.int .i64 a0,.int .i64 a1,.int .i64 a2,.int .i64 a3,.int .i64 a4,.int .i64 a5,.int .i64 a6,.int .i64 a7]) (.int .i64 6)).run prog w=.ok (.int .i64 a6) w:=by kernel_rfl
theorem ix8_7 (a0 a1 a2 a3 a4 a5 a6 a7:Int) (w:World):(Instr.index 134 (.agg #[.int .i64 a0,.int .i64 a1,.int .i64 a2,.int .i64 a3,.int .i64 a4,.int .i64 a5,.int .i64 a6,.int .i64 a7]) (.int .i64 7)).run prog w=.ok (.int .i64 a7) w:=by kernel_rfl
theorem ix3_0 (a0 a1 a2:Int) (w:World):(Instr.index 145 (.agg #[.int .i64 a0,.int .i64 a1,.int .i64 a2]) (.int .i64 0)).run prog w=.ok (.int .i64 a0) w:=by kernel_rfl
theorem ix3_1 (a0 a1 a2:Int) (w:World):(Instr.index 145 (.agg #[.int .i64 a0,.int .i64 a1,.int .i64 a2]) (.int .i64 1)).run prog w=.ok (.int .i64 a1) w:=by kernel_rfl
theorem ix3_2 (a0 a1 a2:Int) (w:World):(Instr.index 145 (.agg #[.int .i64 a0,.int .i64 a1,.int .i64 a2]) (.int .i64 2)).run prog w=.ok (.int .i64 a2) w:=by kernel_rfl
theorem ix2_0 (a0 a1:Int) (w:World):(Instr.index 144 (.agg #[.int .i64 a0,.int .i64 a1]) (.int .i64 0)).run prog w=.ok (.int .i64 a0) w:=by kernel_rfl
theorem ix2_1 (a0 a1:Int) (w:World):(Instr.index 144 (.agg #[.int .i64 a0,.int .i64 a1]) (.int .i64 1)).run prog w=.ok (.int .i64 a1) w:=by kernel_rfl
theorem highCycles_any (x y z p q:Int) (t:Bool) (w:World) (hq:q=y%2) (y0:0<=y) (y1:y<=7) (z0:0<=z) (z1:z<=7) (hg:¬ goneB y z=true) :
  Calls prog 81 #[.agg #[.int .i64 x,.int .i64 y,.int .i64 z,.int .i64 p,.int .i64 q],.bool t] w fun e w'=>e=.returned (.int .i64 (topC y z t))/\Below w.heap.size w w':=by
 have c:=fun y n w=>chosen_any t y n w
 have i80:=ix8_0
 have i81:=ix8_1
 have i82:=ix8_2
 have i83:=ix8_3
 have i84:=ix8_4
 have i85:=ix8_5
 have i86:=ix8_6
 have i87:=ix8_7
 have i30:=ix3_0
 have i31:=ix3_1
 have i32:=ix3_2
 have i20:=ix2_0
 have i21:=ix2_1
 rcases cases8 z0 z1 with rfl|rfl|rfl|rfl|rfl|rfl|rfl|rfl <;> rcases cases8 y0 y1 with rfl|rfl|rfl|rfl|rfl|rfl|rfl|rfl
 all_goals first|exact absurd (by decide) hg|skip
 all_goals
  rw [show (_:Int)%2=_ from rfl] at hq
  subst hq
  cases t
 all_goals
  simp only [if_true,if_false,Bool.false_eq_true] at c
  go_enter func81,ntmps81
  go_wp2_with (go_at_call 115;refine (c _ _ _).mono ?_;rintro e w' ⟨rfl,hw'⟩;have hw':=hw'.symm;subst hw')
  go_ret
  refine ⟨Signed.ret_int (by decide),?_⟩
  repeat' with_reducible first|exact zRf|refine below_of_drew ?_|refine grow ?_ rfl _
end Go.Proofs.YtnjolmbdbgbmbaaGreatDoor.CycB
