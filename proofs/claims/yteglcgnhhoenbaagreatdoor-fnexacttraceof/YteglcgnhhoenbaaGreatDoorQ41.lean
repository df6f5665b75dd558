import Derived.Test.YteglcgnhhoenbaaGreatDoorQ38
import Derived.Test.YteglcgnhhoenbaaGreatDoorQ40
set_option linter.all false
set_option maxRecDepth 20000
set_option maxHeartbeats 8000000
open Go.ChangeShapes Go.WideShapes Go.ChangeAt Go.RowKit
open Go.Proofs.Tryz
namespace Go.Proofs.YteglcgnhhoenbaaGreatDoor
namespace Stdg
open Go.Deep
open Signed (inB sgn aG aB)
open Reck (aS)
open ReckS (eE)
open Busw Busx Busy Stpp Stpq Stps Sta Stb Stck Stph Stpo Stpt
open MachT (bG aZ bJ)
def SP (m:M) (w:World) (e:Ending) (w':World):Prop:=(∃ po cap,e=.returned (.tuple #[.agg (aA (bR m).1 po cap),.int .i64 (bR m).2])/\w'.ownsRow w.heap.size 2 1 (.slice po (bR m).1.out.length cap) (bR m).1.out.length (dJ (bR m).1.out))/\Below w.heap.size w w'
theorem nT {w w':World} {base n cap:Nat} {po:Option Addr} {xs:List Value} (h:w.ownsRow base 2 1 (.slice po n cap) n xs) (base':Nat) (hb:base'<=base):w.ownsRow base' 2 1 (.slice po n cap) n xs:=by
 refine ⟨h.1,?_⟩;rcases h.2 with h0|⟨g,c,cur,h1,h2,h3⟩
 ·exact .inl h0
 ·exact .inr ⟨g,c,cur,h1,Nat.le_trans hb h2,h3⟩
theorem aXY (m:M) (po:Option Addr) (cap:Nat) (w:World) (hg:Stpq.Good m) (hcy:0<=m.cyc/\m.cyc<=1000000000) (hN:Sl w po m.out cap) (hh:m.hal=true) :
  Calls prog 44 #[.agg (aA m po cap)] w (SP m w):=by
 have hz:=fM;have HS:Hid (bR m=(m,1)):=by show _=_;unfold bR;rw [if_pos hh]
 have HSL:Hid (Sl w po m.out cap):=hN;have HGD:Hid (Stpq.Good m):=hg;have HLE:Hid (m.out.length<=1048576):=Nat.le_trans hg.rt.out (by decide);obtain ⟨cM,hcM⟩ : ∃ c,c=aA m po cap:=⟨_,rfl⟩
 obtain ⟨cZ,hcZ⟩ : ∃ c,c=aA Z0 none 0:=⟨_,rfl⟩
 have HM:Hid (cM=aA m po cap):=hcM;have HZ:Hid (cZ=aA Z0 none 0):=hcZ;have HIM:Hid ((prog.info? 30).map (·.size)=some cM.size):=hcM ▸ aP m po cap;have HSZ:Hid (cZ.size=23):=by show _=_;rw [hcZ,aV]
 obtain ⟨W0,hW0⟩ : ∃ u,u=(w.alloc (.cells cM 30)).alloc (.cells cZ 30):=⟨_,rfl⟩
 have k1:W0.heap[w.heap.size]? = some (.cells cM 30):=by rw [hW0,Below.heap_alloc _ _ _ (by simp)];exact heap_alloc_last w _
 have k2:W0.heap[w.heap.size+1]? = some (.cells cZ 30):=by
  have h2:=heap_alloc_last (w.alloc (.cells cM 30)) (.cells cZ 30);simp only [World.size_alloc] at h2
  rw [hW0];exact h2
 have HK1:Hid (W0.heap[w.heap.size]? = some (.cells cM 30)):=k1;have HK2:Hid (W0.heap[w.heap.size+1]? = some (.cells cZ 30)):=k2;have HB0:Hid (Below w.heap.size w W0):=by show Below _ _ _;rw [hW0];exact (by repeat (with_reducible first|exact zRf|refine zGr ?_ _|refine below_drewN ?_ _|refine Below.drew ?_))
 have q11:W0.cell? ⟨w.heap.size,11,none⟩=some (.bool m.hal):=by rw [hcM] at k1;exact eM k1 11 _ rfl
 rw [hh] at q11
 rw [<- hcZ] at hz
 rw [<- hcM];clear hcM hcZ k1 k2 hN hg
 go_enter func44,ntmps44
 rw [hW0] at q11
 go_upto_region 2 with fail
 rw [<- hW0];clear hW0 q11;refine wp_region_list ?_;refine wpList_load_row rfl 30 _ rfl w.heap.size rfl _ _ (0,0) _ HK1.out underlying30 rfl HIM.out ?_
 go_wp2_with fail
 refine Calls.mono (by rw [HM.out];exact nC m po cap _ HLE.out (HSL.out.below HB0.out)) ?_;rintro e wy ⟨⟨poy,capy,rfl,owny⟩,hby⟩;have HY:=zHd (HolI.after HB0.out hby);have HY2:Hid (wy.heap[w.heap.size+1]? = some (.cells cZ 30)):=(hby.block _ (zLo HK2.out)).trans HK2.out;have HYO:Hid (wy.ownsRow w.heap.size 2 1 (.slice poy m.out.length capy) m.out.length (dJ m.out)):=nT (w':=wy) owny _ HB0.out.size;clear hby owny
 rename_i hK
 refine hK _ _ ?_;clear hK;refine wpList_store_row rfl 30 _ _ rfl (w.heap.size+1) _ rfl rfl _ _ HY2.out (aP _ _ _) (by rw [HSZ.out,aV]) (dS _ _ _) ?_;have HF:Hid ((wy.setRow (w.heap.size+1) (aA m poy capy)).heap[w.heap.size+1]? = some (.cells (aA m poy capy) 30)):=bG HY2.out;have HG:Hid (Below w.heap.size w (wy.setRow (w.heap.size+1) (aA m poy capy))):=bJ HY.out (by omega);have HOw:Hid ((wy.setRow (w.heap.size+1) (aA m poy capy)).ownsRow w.heap.size 2 1 (.slice poy m.out.length capy) m.out.length (dJ m.out)):=World.ownsRow.kept (row:=some (w.heap.size+1)) HYO.out (cH _ _ _) (.inr (dK HYO.out HY2.out));go_wp2;refine bodyPost_ret (v:=.tuple #[.agg (aA m poy capy),.int .i64 1]) (bS results44 _ _ (w.heap.size+1) _ _ (0,0) _ _ rfl rfl HF.out underlying30 rfl (aP _ _ _)) rfl ?_;refine ⟨⟨poy,capy,by rw [HS.out],?_⟩,HG.out⟩;rw [HS.out];exact HOw.out
theorem aXZ (m:M) (po:Option Addr) (cap:Nat) (w:World) (hg:Stpq.Good m) (hcy:0<=m.cyc/\m.cyc<=1000000000) (hN:Sl w po m.out cap) (hh:m.hal=false) (hn:lenOf m=0) :
  Calls prog 44 #[.agg (aA m po cap)] w (SP m w):=by
 have hz:=fM;have HS:Hid (bR m=(m,2)):=by show _=_;unfold bR;rw [if_neg (by rw [hh];decide),if_pos hn]
 obtain ⟨c,cb,imm,hI⟩:=ReadJ.iV (bU m) 0;have HSL:Hid (Sl w po m.out cap):=hN;have HGD:Hid (Stpq.Good m):=hg;have HLE:Hid (m.out.length<=1048576):=Nat.le_trans hg.rt.out (by decide);obtain ⟨cM,hcM⟩ : ∃ c,c=aA m po cap:=⟨_,rfl⟩
 obtain ⟨cZ,hcZ⟩ : ∃ c,c=aA Z0 none 0:=⟨_,rfl⟩
 have HM:Hid (cM=aA m po cap):=hcM;have HZ:Hid (cZ=aA Z0 none 0):=hcZ;have HIM:Hid ((prog.info? 30).map (·.size)=some cM.size):=hcM ▸ aP m po cap;have HSZ:Hid (cZ.size=23):=by show _=_;rw [hcZ,aV]
 obtain ⟨W0,hW0⟩ : ∃ u,u=(w.alloc (.cells cM 30)).alloc (.cells cZ 30):=⟨_,rfl⟩
 have k1:W0.heap[w.heap.size]? = some (.cells cM 30):=by rw [hW0,Below.heap_alloc _ _ _ (by simp)];exact heap_alloc_last w _
 have k2:W0.heap[w.heap.size+1]? = some (.cells cZ 30):=by
  have h2:=heap_alloc_last (w.alloc (.cells cM 30)) (.cells cZ 30);simp only [World.size_alloc] at h2
  rw [hW0];exact h2
 have HK1:Hid (W0.heap[w.heap.size]? = some (.cells cM 30)):=k1;have HK2:Hid (W0.heap[w.heap.size+1]? = some (.cells cZ 30)):=k2;have HB0:Hid (Below w.heap.size w W0):=by show Below _ _ _;rw [hW0];exact (by repeat (with_reducible first|exact zRf|refine zGr ?_ _|refine below_drewN ?_ _|refine Below.drew ?_))
 have q11:W0.cell? ⟨w.heap.size,11,none⟩=some (.bool m.hal):=by rw [hcM] at k1;exact eM k1 11 _ rfl
 rw [hh] at q11
 rw [<- hcZ] at hz
 rw [<- hcM];clear hcM hcZ k1 k2 hN hg
 go_enter func44,ntmps44
 rw [hW0] at q11
 go_upto_region 3 with fail
 rw [<- hW0];clear hW0 q11;refine wp_region_list ?_;refine wpList_load_row rfl 30 _ rfl w.heap.size rfl _ _ (0,0) _ HK1.out underlying30 rfl HIM.out ?_
 go_wp2_with fail
 refine Calls.mono (by rw [HM.out];exact Stdf.aEC m po cap W0 HGD.out.rt HGD.out.pc) ?_;rintro e w1 ⟨rfl,hb1⟩;have HB1:=zHd (HolI.after HB0.out hb1);have HK11:Hid (w1.heap[w.heap.size]? = some (.cells cM 30)):=(hb1.block _ (zLo HK1.out)).trans HK1.out;have HK12:Hid (w1.heap[w.heap.size+1]? = some (.cells cZ 30)):=(hb1.block _ (zLo HK2.out)).trans HK2.out;clear hb1 HK1 HK2 HB0;rw [hI];have hn':ReadI.dD (bU m) 0=0:=hn;rw [hn'];obtain ⟨u1,hu1⟩ : ∃ u,u=w1.alloc (.cells #[.int .i64 c,.bool cb,.int .i64 imm] 80):=⟨_,rfl⟩
 have X1:Hid (u1.heap[w.heap.size]? = some (.cells cM 30)/\u1.heap[w.heap.size+1]? = some (.cells cZ 30)/\u1.heap[w1.heap.size]? = some (.cells #[.int .i64 c,.bool cb,.int .i64 imm] 80)/\Below w.heap.size w u1/\w.heap.size+1<w1.heap.size/\w1.heap.size<u1.heap.size):=by
  rw [hu1];exact ⟨(aM _ _ (zLo HK11.out)).trans HK11.out,(aM _ _ (zLo HK12.out)).trans HK12.out,heap_alloc_last w1 _,zGr HB1.out _,(zLo HK12.out),by simp⟩
 go_upto_region 5 with fail
 rw [<- hu1];clear hu1;refine wp_region_list ?_;refine wpList_load_row rfl 30 _ rfl w.heap.size rfl _ _ (0,0) _ X1.out.1 underlying30 rfl HIM.out ?_
 go_wp2_with fail
 refine Calls.mono (by rw [HM.out];exact nC m po cap _ HLE.out (HSL.out.below X1.out.2.2.2.1)) ?_;rintro e wy ⟨⟨poy,capy,rfl,owny⟩,hby⟩;have HY:=zHd (HolI.after X1.out.2.2.2.1 hby);have HY2:Hid (wy.heap[w.heap.size+1]? = some (.cells cZ 30)):=(hby.block _ (zLo X1.out.2.1)).trans X1.out.2.1;have HYO:Hid (wy.ownsRow w.heap.size 2 1 (.slice poy m.out.length capy) m.out.length (dJ m.out)):=nT (w':=wy) owny _ X1.out.2.2.2.1.size;clear hby owny
 rename_i hK
 refine hK _ _ ?_;clear hK;refine wpList_store_row rfl 30 _ _ rfl (w.heap.size+1) _ rfl rfl _ _ HY2.out (aP _ _ _) (by rw [HSZ.out,aV]) (dS _ _ _) ?_;have HF:Hid ((wy.setRow (w.heap.size+1) (aA m poy capy)).heap[w.heap.size+1]? = some (.cells (aA m poy capy) 30)):=bG HY2.out;have HG:Hid (Below w.heap.size w (wy.setRow (w.heap.size+1) (aA m poy capy))):=bJ HY.out (by omega);have HOw:Hid ((wy.setRow (w.heap.size+1) (aA m poy capy)).ownsRow w.heap.size 2 1 (.slice poy m.out.length capy) m.out.length (dJ m.out)):=World.ownsRow.kept (row:=some (w.heap.size+1)) HYO.out (cH _ _ _) (.inr (dK HYO.out HY2.out));go_wp2;refine bodyPost_ret (v:=.tuple #[.agg (aA m poy capy),.int .i64 2]) (bS results44 _ _ (w.heap.size+1) _ _ (0,0) _ _ rfl rfl HF.out underlying30 rfl (aP _ _ _)) rfl ?_;refine ⟨⟨poy,capy,by rw [HS.out],?_⟩,HG.out⟩;rw [HS.out];exact HOw.out
theorem aYA (m:M) (po:Option Addr) (cap:Nat):prog.built 112 [(0,.agg (aA m po cap))]=some (eS m po cap false):=by rw [aT,bP];kernel_rfl
theorem sH {P:Program} {ops:Array Oper} {rest:List Oper} {o:Oper} {a:Act} {w:World} {Q:Exit->Act->World->Prop} (hg:o.guard=none) (t:TypeId) (x:Operand) (ho:o.op=.build t #[(0,x)]) (v:Value) (hx:a.eval x=v) (cs:Array Value) (hb:P.built t [(0,v)]=some cs) (h:wpList P ops Q rest (a.put o.dst (.agg cs)) w):wpList P ops Q (o :: rest) a w :=
 wpList_build hg t #[(0,x)] ho (by simp [hx,hb]) (by simpa [hx,hb] using h)
theorem aYB (m:M) (hb:(bO m).2.1=false):¬ (bO m).1=203:=by
 unfold bO at hb |-
 by_cases h:ReadI.aH (bU m) 0=203
 ·rw [if_pos h] at hb;cases hb
 ·rw [if_neg h];exact h
theorem aYC (m:M) (po:Option Addr) (cap:Nat) (w:World) (hg:Stpq.Good m) (hcy:0<=m.cyc/\m.cyc<=1000000000) (hN:Sl w po m.out cap) (hpo:∀ p,po=some p->p.block<w.heap.size) (hh:m.hal=false) (hn:¬ lenOf m=0) :
  Calls prog 44 #[.agg (aA m po cap)] w (SP m w):=by
 have hz:=fM;have hI:=mF m hn;obtain ⟨n,hnn⟩ : ∃ n,n=lenOf m:=⟨_,rfl⟩
 obtain ⟨c,hc⟩ : ∃ c,c=(bO m).1:=⟨_,rfl⟩
 obtain ⟨cb,hcb⟩ : ∃ c,c=(bO m).2.1:=⟨_,rfl⟩
 obtain ⟨imm,himm⟩ : ∃ c,c=(bO m).2.2:=⟨_,rfl⟩
 obtain ⟨r,hr⟩ : ∃ r,r=kV m:=⟨_,rfl⟩
 have hr2:r=sem c cb imm ⟨cJ m,false⟩:=by rw [hr,hc,hcb,himm];rfl
 rw [<- hc,<- hcb,<- himm] at hI
 have hval:=hI.val;have hlen:=hI.len;rw [<- hnn] at hlen
 have hnz:ReadI.dD (bU m) 0=n:=hnn.symm;have hn0:¬ n=0:=by rw [hnn];exact hn
 have HII:Hid (Ins m c cb imm):=hI;have HPO:Hid (∀ p,po=some p->p.block<w.heap.size):=hpo;have HSE:Hid (bR m=if r.1.full=true \/ 1000000000<m.cyc+CycX.cyc c cb r.2 then (m,4) else (cm (m.cyc+CycX.cyc c cb r.2) r.1.m,0)):=by
  show _=_;unfold bR;rw [if_neg (by rw [hh];decide),if_neg hn,hr,hc,hcb]
  rfl
 have HNX:Hid (cJ m={ m with pc:=(m.pc+n)%65536 }):=by show _=_;rw [hnn];rfl
 have HRR:Hid (r=sem c cb imm ⟨cJ m,false⟩):=hr2;have hcbd:=hI.cbd;have hpc:=hg.pc;have hcr:0<=CycX.cyc c cb r.2/\CycX.cyc c cb r.2<7:=by have h:=CycX.range c cb r.2 hI.cbd.1 hI.cbd.2 hI.non;exact ⟨Int.le_of_lt h.1,h.2.1⟩
 have HCY:Hid (∀ W,Calls prog 88 #[.int .i64 c,.bool cb,.bool r.2] W fun e w'=>e=.returned (.int .i64 (CycX.cyc c cb r.2))/\Below W.heap.size W w'):=fun W=>(CycX.sp c cb r.2) W
 obtain ⟨cv,hcv⟩ : ∃ v,v=CycX.cyc c cb r.2:=⟨_,rfl⟩
 rw [<- hcv] at HCY HSE hcr
 have d0:IntKind.i64.wrap (m.cyc+cv)=m.cyc+cv:=by rw [x6];omega
 have HGN:Hid (Stpq.Good (cJ m)):=by show Stpq.Good _;rw [HNX.out];exact iD hg _ (by omega) (by omega)
 have HCC:Hid (c=(bO m).1):=hc;have HCB:Hid (cb=false->(bO m).2.1=false):=fun h=>by rw [<- hcb,h]
 clear hnn hc hcb himm hI hr hr2 hcv hn;have HSL:Hid (Sl w po m.out cap):=hN;have HGD:Hid (Stpq.Good m):=hg;have HLE:Hid (m.out.length<=1048576):=Nat.le_trans hg.rt.out (by decide);obtain ⟨cM,hcM⟩ : ∃ c,c=aA m po cap:=⟨_,rfl⟩
 obtain ⟨cZ,hcZ⟩ : ∃ c,c=aA Z0 none 0:=⟨_,rfl⟩
 have HM:Hid (cM=aA m po cap):=hcM;have HZ:Hid (cZ=aA Z0 none 0):=hcZ;have HIM:Hid ((prog.info? 30).map (·.size)=some cM.size):=hcM ▸ aP m po cap;have HSZ:Hid (cZ.size=23):=by show _=_;rw [hcZ,aV]
 obtain ⟨W0,hW0⟩ : ∃ u,u=(w.alloc (.cells cM 30)).alloc (.cells cZ 30):=⟨_,rfl⟩
 have k1:W0.heap[w.heap.size]? = some (.cells cM 30):=by rw [hW0,Below.heap_alloc _ _ _ (by simp)];exact heap_alloc_last w _
 have k2:W0.heap[w.heap.size+1]? = some (.cells cZ 30):=by
  have h2:=heap_alloc_last (w.alloc (.cells cM 30)) (.cells cZ 30);simp only [World.size_alloc] at h2
  rw [hW0];exact h2
 have HK1:Hid (W0.heap[w.heap.size]? = some (.cells cM 30)):=k1;have HK2:Hid (W0.heap[w.heap.size+1]? = some (.cells cZ 30)):=k2;have HB0:Hid (Below w.heap.size w W0):=by show Below _ _ _;rw [hW0];exact (by repeat (with_reducible first|exact zRf|refine zGr ?_ _|refine below_drewN ?_ _|refine Below.drew ?_))
 have q11:W0.cell? ⟨w.heap.size,11,none⟩=some (.bool m.hal):=by rw [hcM] at k1;exact eM k1 11 _ rfl
 rw [hh] at q11
 rw [<- hcZ] at hz
 rw [<- hcM];clear hcM hcZ k1 k2 hN hg hpo
 go_enter func44,ntmps44
 rw [hW0] at q11
 go_upto_region 3 with fail
 rw [<- hW0];clear hW0 q11;refine wp_region_list ?_;refine wpList_load_row rfl 30 _ rfl w.heap.size rfl _ _ (0,0) _ HK1.out underlying30 rfl HIM.out ?_
 go_wp2_with fail
 refine Calls.mono (by rw [HM.out];exact Stdf.aEC m po cap W0 HGD.out.rt HGD.out.pc) ?_;rintro e w1 ⟨rfl,hb1⟩;have HB1:=zHd (HolI.after HB0.out hb1);have HK11:Hid (w1.heap[w.heap.size]? = some (.cells cM 30)):=(hb1.block _ (zLo HK1.out)).trans HK1.out;have HK12:Hid (w1.heap[w.heap.size+1]? = some (.cells cZ 30)):=(hb1.block _ (zLo HK2.out)).trans HK2.out;clear hb1 HK1 HK2 HB0;rw [hval,hnz];clear hval hnz;obtain ⟨u1,hu1⟩ : ∃ u,u=w1.alloc (.cells #[.int .i64 c,.bool cb,.int .i64 imm] 80):=⟨_,rfl⟩
 have X1:Hid (u1.heap[w.heap.size]? = some (.cells cM 30)/\u1.heap[w.heap.size+1]? = some (.cells cZ 30)/\u1.heap[w1.heap.size]? = some (.cells #[.int .i64 c,.bool cb,.int .i64 imm] 80)/\Below w.heap.size w u1/\w.heap.size+1<w1.heap.size/\w1.heap.size<u1.heap.size):=by
  rw [hu1];exact ⟨(aM _ _ (zLo HK11.out)).trans HK11.out,(aM _ _ (zLo HK12.out)).trans HK12.out,heap_alloc_last w1 _,zGr HB1.out _,(zLo HK12.out),by simp⟩
 have hnn:(n == 0)=false:=by simpa using hn0
 go_upto_region 6 with fail
 rw [<- hu1];obtain ⟨bI,hbI⟩ : ∃ b,b=w1.heap.size:=⟨_,rfl⟩
 rw [<- hbI] at X1 |-
 clear hu1 hbI HB1 HK11 HK12;refine wp_region_list ?_;refine wpList_load_row rfl 30 _ rfl w.heap.size rfl _ _ (0,0) _ X1.out.1 underlying30 rfl HIM.out ?_;refine sH rfl 112 _ rfl (.agg cM) rfl (eS m po cap false) (by rw [HM.out];exact aYA m po cap) ?_;refine wpList_plain rfl (fun K hK=>?_);go_simp;refine hK _ _ ?_;clear hK;refine wpList_plain rfl (fun K hK=>?_);go_simp;refine hK _ _ ?_;clear hK;obtain ⟨u2,hu2⟩ : ∃ u,u=u1.alloc (.cells (eS m po cap false) 112):=⟨_,rfl⟩
 obtain ⟨g,hgg⟩ : ∃ g:SG,g=⟨u2,u1.heap.size⟩:=⟨_,rfl⟩
 have X2:Hid (u2.heap[w.heap.size]? = some (.cells cM 30)/\u2.heap[w.heap.size+1]? = some (.cells cZ 30)/\u2.heap[bI]? = some (.cells #[.int .i64 c,.bool cb,.int .i64 imm] 80)/\Below w.heap.size w u2/\w.heap.size+1<bI/\bI<g.X/\g.X<u2.heap.size/\g.W0=u2):=by
  obtain ⟨h1,h2,h3,h4,h5,h6⟩:=X1.out;rw [hgg,hu2];exact ⟨(aM _ _ (zLo h1)).trans h1,(aM _ _ (zLo h2)).trans h2,(aM _ _ (zLo h3)).trans h3,zGr h4 _,h5,h6,by simp,rfl⟩
 have HI:Hid (InS g u2 m false):=by
  refine ⟨po,cap,?_,HSL.out.below X2.out.2.2.2.1,fun p e=>?_,?_⟩
  ·rw [hgg,hu2];exact heap_alloc_last u1 _
  ·have h1:=HPO.out p e
   have h2:=X2.out;omega
  ·rw [X2.out.2.2.2.2.2.2.2];exact ⟨rfl,rfl,rfl,Nat.le_refl _,fun _ _ _=>rfl⟩
 have hX:u1.heap.size=g.X:=by rw [hgg]
 rw [<- hu2,hX];clear hu2 hgg hX X1;refine wpList_nil ?_;have q9:u2.cell? ⟨w.heap.size,9,none⟩=some (.int .i64 m.pc):=by have h:=X2.out.1;rw [HM.out] at h;exact eM h 9 _ rfl
 have e9:=HI.out.cell 9 _ rfl;have f9:=HI.out.fro 9;have d1:IntKind.i64.wrap (m.pc+n)=m.pc+n:=by rw [x6];omega
 have d2:(m.pc+n).tmod 65536=(m.pc+n)%65536:=x4 (by omega);obtain ⟨u3,hu3⟩ : ∃ u,u=u2.setCell ⟨g.X,9,none⟩ (.int .i64 ((m.pc+n)%65536)):=⟨_,rfl⟩
 have H3:Hid (InS g u3 (cJ m) false):=by show InS _ _ _ _;rw [HNX.out,hu3];exact HI.out.s_pc _
 go_upto_region 8 with fail
 rw [<- hu3];clear hu3 q9 e9 f9 d1 d2 HI;have K:Hid (∀ W m' f',InS g W m' f'->W.heap[w.heap.size]? = some (.cells cM 30)/\W.heap[w.heap.size+1]? = some (.cells cZ 30)/\W.cell? ⟨bI,0,none⟩=some (.int .i64 c)/\W.cell? ⟨bI,1,none⟩=some (.bool cb)/\W.cell? ⟨bI,2,none⟩=some (.int .i64 imm)/\Below w.heap.size w W):=fun W m' f' hi=>by
  obtain ⟨h1,h2,h3,h4,h5,h6,h7,h8⟩:=X2.out;obtain ⟨po',cap',hA⟩:=hi;have hgr:=hA.grown;rw [h8] at hgr
  have kb:∀ b,b<g.X->W.heap[b]? = u2.heap[b]?:=fun b hb=>hgr.block b (by omega) (fun e=>by have:=Option.some.inj e;omega)
  have h3':=(kb bI h6).trans h3;exact ⟨(kb _ (by omega)).trans h1,(kb _ (by omega)).trans h2,(cell_of_row W bI 0 _ _ _ h3').trans rfl,(cell_of_row W bI 1 _ _ _ h3').trans rfl,(cell_of_row W bI 2 _ _ _ h3').trans rfl,⟨hgr.os.trans h4.os,hgr.tape.trans h4.tape,hgr.output.trans h4.output,Nat.le_trans h4.size hgr.size,fun k hk=>(kb k (by omega)).trans (h4.block k hk)⟩⟩
 obtain ⟨y,hy⟩ : ∃ y,y=c / 8%8:=⟨_,rfl⟩
 obtain ⟨z,hz8⟩ : ∃ z,z=c%8:=⟨_,rfl⟩
 have t1:c.tdiv 8=c / 8:=x5 hcbd.1;have t2:(c / 8).tmod 8=y:=by rw [x4 (by omega)];exact hy.symm
 have t3:c.tmod 8=z:=by rw [x4 hcbd.1];exact hz8.symm
 have t4:IntKind.i64.wrap (c / 8)=c / 8:=by rw [x6];omega
 have HYZ:Hid (y=c / 8%8/\z=c%8/\0<=c/\c<=255):=⟨hy,hz8,hcbd.1,hcbd.2⟩;have k0:=(K.out _ _ _ H3.out).2.2.1;have k1:=(K.out _ _ _ H3.out).2.2.2.1;have k2:=(K.out _ _ _ H3.out).2.2.2.2.1;clear hy hz8 hcbd hpc hlen hn0 hz hnn;obtain ⟨t,ht⟩ : ∃ t,t=r.1:=⟨_,rfl⟩
 have HGT:Hid (Stpq.Good t.m):=by show Stpq.Good _;rw [ht,HRR.out];exact xX HGN.out _ _ _ HII.out.cbd.1 HII.out.cbd.2 HII.out.iok
 have HTT:Hid (t=r.1):=ht;rw [<- ht] at HSE
 clear ht
 go_upto_region 10 with fail
 refine wp_region_list ?_;refine wpList_plain rfl (fun Kx hK=>?_);go_simp;refine hK _ _ ?_;clear hK;refine wpList_plain rfl (fun Kx hK=>?_);go_simp;refine hK _ _ ?_;clear hK;refine wpList_plain rfl (fun Kx hK=>?_);go_simp;refine hK _ _ ?_;clear hK;refine wpList_plain rfl (fun Kx hK=>?_);go_simp;refine hK _ _ ?_;clear hK;refine wpList_nil ?_
 rename_i hA kx ky kz
 refine hA _ _ ?_;clear hA
 repeat refine wp_seq_k fun Kc hKc=>?_
 go_cut [7] (fun tv wx=>tv=.bool r.2/\Hid (InS g wx t.m t.full))
 case first =>
  cases cb with
  | true =>
   have HE:Hid (r=(cbE c ⟨cJ m,false⟩,false)):=by show _=_;rw [HRR.out];unfold sem;rw [if_pos rfl]
   have tk:r.2=false:=by rw [HE.out]
   have HC:Hid (Calls prog 82 #[.pointer (some ⟨g.X,0,none⟩),.agg #[.int .i64 c,.bool true,.int .i64 imm]] u3 fun e w'=>e=.returned (.tuple #[])/\InS g w' t.m t.full):=by
    have h:=cbS g (cJ m) false c imm HII.out.cbd.1 HII.out.cbd.2 u3 H3.out HGN.out;rw [HTT.out,HE.out];exact h
   clear HE HRR
   go_wp2_with fail
   refine Calls.mono HC.out ?_;rintro e w4 ⟨rfl,hi4⟩;have H4:Hid (InS g w4 t.m t.full):=hi4;clear hi4 HC
   go_wp2_with fail
   go_meet
   exact ⟨by rw [tk],H4.out⟩
  | false =>
   have n20:=aYB m (HCB.out rfl);rw [<- HCC.out] at n20
   by_cases n6:c<64
   ·have HE:Hid (r=bY c imm ⟨cJ m,false⟩):=by show _=_;rw [HRR.out];unfold sem;rw [if_neg (by decide),if_pos (by omega)]
    obtain ⟨tk,htk⟩ : ∃ b,b=r.2:=⟨_,rfl⟩
    have HTK:Hid (tk=r.2):=htk;have HC:Hid (Calls prog 83 #[.pointer (some ⟨g.X,0,none⟩),.agg #[.int .i64 c,.bool false,.int .i64 imm]] u3 fun e w'=>e=.returned (.bool tk)/\InS g w' t.m t.full):=by
     have h:=Stde.kC g (cJ m) false c imm HII.out.cbd.1 (by omega) HII.out.iok u3 H3.out HGN.out;rw [HTT.out,htk,HE.out];exact h
    clear htk HE HRR
    go_wp2_with fail
    refine Calls.mono HC.out ?_;rintro e w4 ⟨rfl,hi4⟩;have H4:Hid (InS g w4 t.m t.full):=hi4;clear hi4 HC
    go_wp2_with fail
    go_meet
    exact ⟨by rw [HTK.out],H4.out⟩
   by_cases n8:c=118
   ·have HN8:Hid (c=118):=n8
    clear n8 n20 n6;have HE:Hid (r=(⟨{ cJ m with hal:=true },false⟩,false)):=by show _=_;rw [HRR.out];unfold sem;rw [if_neg (by decide),if_neg (by rw [HN8.out];decide),if_pos HN8.out]
    have tk:r.2=false:=by rw [HE.out]
    have n6':¬ c<64:=by rw [HN8.out];decide
    have n8':(c == 118)=true:=by rw [HN8.out];rfl
    have H4:Hid (InS g (u3.setCell ⟨g.X,11,none⟩ (.bool true)) t.m t.full):=by show InS _ _ _ _;rw [HTT.out,HE.out];exact H3.out.s_hal true
    have e11:=H3.out.cell 11 _ rfl;have f11:=H3.out.fro 11;clear HE HRR
    go_wp2_with fail
    go_meet
    exact ⟨by rw [tk],H4.out⟩
   by_cases n12:c<128
   ·have HE:Hid (r=(put ⟨cJ m,false⟩ y (get (cJ m) z),false)):=by show _=_;rw [HRR.out];unfold sem;rw [if_neg (by decide),if_neg (by omega),if_neg (by omega),if_pos (by omega),HYZ.out.1,HYZ.out.2.1]
    have y0:0<=y/\y<=7:=by have:=HYZ.out;omega
    have z0:0<=z/\z<=7:=by have:=HYZ.out;omega
    have HVB:Hid (0<=get (cJ m) z/\get (cJ m) z<=255):=dN HGN.out z;obtain ⟨v,hv⟩ : ∃ v,v=get (cJ m) z:=⟨_,rfl⟩
    have tk:r.2=false:=by rw [HE.out]
    have HCR:Hid (Calls prog 85 #[.pointer (some ⟨g.X,0,none⟩),.int .i64 z] u3 fun e w'=>e=.returned (.int .i64 v)/\Below u3.heap.size u3 w'):=by
     rw [hv];exact yA g (cJ m) false z u3 H3.out HGN.out z0.1 z0.2
    have HCS:Hid (∀ W,InS g W (cJ m) false->Calls prog 84 #[.pointer (some ⟨g.X,0,none⟩),.int .i64 y,.int .i64 v] W fun e w'=>e=.returned (.tuple #[])/\InS g w' t.m t.full):=fun W h=>by
     rw [HTT.out,HE.out,hv];exact aCC g (cJ m) false y _ W h HGN.out y0.1 y0.2 HVB.out.1 HVB.out.2
    clear HE HRR y0 z0 HVB hv
    go_wp2_with fail
    refine Calls.mono HCR.out ?_;rintro e wr ⟨rfl,hbr⟩;have H3r:=zHd (H3.out.below hbr);clear hbr HCR
    go_wp2_with fail
    refine Calls.mono (HCS.out _ H3r.out) ?_;rintro e w4 ⟨rfl,hi4⟩;have H4:Hid (InS g w4 t.m t.full):=hi4;clear hi4 H3r HCS
    go_wp2_with fail
    go_meet
    exact ⟨by rw [tk],H4.out⟩
   by_cases n19:c<192
   ·have HE:Hid (r=(AF ⟨cJ m,false⟩ (aS y m.ra (get (cJ m) z) m.rf),false)):=by show _=_;rw [HRR.out];unfold sem;rw [if_neg (by decide),if_neg (by omega),if_neg (by omega),if_neg (by omega),if_pos (by omega),HYZ.out.1,HYZ.out.2.1];rfl
    have y0:0<=y/\y<=7:=by have:=HYZ.out;omega
    have z0:0<=z/\z<=7:=by have:=HYZ.out;omega
    have HVB:Hid (0<=get (cJ m) z/\get (cJ m) z<=255):=dN HGN.out z;obtain ⟨v,hv⟩ : ∃ v,v=get (cJ m) z:=⟨_,rfl⟩
    have tk:r.2=false:=by rw [HE.out]
    have c1:Sta.Rg 85 #[.pointer (some ⟨g.X,0,none⟩),.int .i64 z] u3 (.int .i64 v):=Sta.rg fun W hb=>by rw [hv];exact yA g (cJ m) false z W (H3.out.below hb) HGN.out z0.1 z0.2
    have c2:Sta.Rg 86 #[.int .i64 y,.int .i64 m.ra,.int .i64 v,.int .i64 m.rf] u3 (.tuple #[.int .i64 (aS y m.ra v m.rf).1,.int .i64 (aS y m.ra v m.rf).2]):=Sta.rg fun W hb=>(eE y m.ra v m.rf W y0.1 y0.2 HGD.out.a.1 HGD.out.a.2 (by rw [hv];exact HVB.out.1) (by rw [hv];exact HVB.out.2) HGD.out.f.1 HGD.out.f.2).mono fun e w' h=>⟨h.1,by rw [h.2];exact zRf⟩
    obtain ⟨v1,hv1⟩ : ∃ x,x=(aS y m.ra v m.rf).1:=⟨_,rfl⟩
    obtain ⟨v2,hv2⟩ : ∃ x,x=(aS y m.ra v m.rf).2:=⟨_,rfl⟩
    rw [<- hv1,<- hv2] at c2
    have HT:Hid (∀ W,InS g W (cJ m) false->InS g ((W.setCell ⟨g.X,0,none⟩ (.int .i64 v1)).setCell ⟨g.X,1,none⟩ (.int .i64 v2)) t.m t.full):=fun W h=>by
     rw [HTT.out,HE.out,hv1,hv2,hv];exact (h.s_ra _).s_rf _
    have hK0:=(K.out _ _ _ H3.out).1;rw [HM.out] at hK0
    have qa:u3.cell? ⟨w.heap.size,0,none⟩=some (.int .i64 m.ra):=eM hK0 0 _ rfl;have qf:u3.cell? ⟨w.heap.size,1,none⟩=some (.int .i64 m.rf):=eM hK0 1 _ rfl;have r0:=x7 qa;have r1:=x7 qf;clear HE HRR y0 z0 HVB hv hv1 hv2 hK0 qa qf
    go_upto_region 21 with fail
    refine wp_region_quiet_below (by kernel_rfl) (by kernel_rfl) ?_
    repeat (go_big_quiet_step (first|with_reducible exact c1 _ _|with_reducible exact c2 _ _))
    refine wpQuiet_nil ?_;intro _ hw';obtain ⟨⟨dq,osq⟩,hw''⟩:=hw';subst hw'';have H3r:=zHd (H3.out.below (x8 u3 dq osq));generalize Go.Sort.grow (redrawn u3 dq) osq=W3 at *
    clear r0 r1 c1 c2;have q0:=H3r.out.cell 0 _ rfl;have q1:=H3r.out.cell 1 _ rfl;have f0:=H3r.out.fro 0;have f1:=H3r.out.fro 1
    go_wp2_with fail
    go_meet
    exact ⟨by rw [tk],HT.out W3 H3r.out⟩
   ·have HE:Hid (r=aW c imm ⟨cJ m,false⟩):=by show _=_;rw [HRR.out];unfold sem;rw [if_neg (by decide),if_neg (by omega),if_neg (by omega),if_neg (by omega),if_neg (by omega)]
    obtain ⟨tk,htk⟩ : ∃ b,b=r.2:=⟨_,rfl⟩
    have HTK:Hid (tk=r.2):=htk;have HC:Hid (Calls prog 87 #[.pointer (some ⟨g.X,0,none⟩),.agg #[.int .i64 c,.bool false,.int .i64 imm]] u3 fun e w'=>e=.returned (.bool tk)/\InS g w' t.m t.full):=by
     have h:=Stde.mL g (cJ m) false c imm (by omega) HII.out.cbd.2 HII.out.non (by omega) HII.out.iok u3 H3.out HGN.out;rw [HTT.out,htk,HE.out];exact h
    clear htk HE HRR
    go_wp2_with fail
    refine Calls.mono HC.out ?_;rintro e w4 ⟨rfl,hi4⟩;have H4:Hid (InS g w4 t.m t.full):=hi4;clear hi4 HC
    go_wp2_with fail
    go_meet
    exact ⟨by rw [HTK.out],H4.out⟩
 case rest =>
 clear k0 k1 k2 H3 HRR;obtain ⟨rfl,H4⟩:=hcut
 rename World=>w4
 have HK:=K.out _ _ _ H4.out;have q22:w4.cell? ⟨w.heap.size,22,none⟩=some (.int .i64 m.cyc):=by have h:=HK.1;rw [HM.out] at h;exact eM h 22 _ rfl
 have r0:=x7 q22;have r1:=x7 HK.2.2.1;have r2:=x7 HK.2.2.2.1;have c9:Sta.Rg 88 #[.int .i64 c,.bool cb,.bool r.2] w4 (.int .i64 cv):=Sta.rg fun W hb=>HCY.out W
 clear HK q22
 go_upto_region 24 with fail
 refine Qtail.aI 13 (by kernel_rfl) (by kernel_rfl) ?_;simp only [List.take_succ_cons,List.take_zero,List.drop_succ_cons,List.drop_zero]
 repeat (go_big_quiet_step (first|with_reducible exact c9 _ _))
 refine wpQuiet_nil ?_;intro _ hw';obtain ⟨⟨dq,osq⟩,hw''⟩:=hw';subst hw'';have H5:=zHd (H4.out.below (x8 w4 dq osq));generalize Go.Sort.grow (redrawn w4 dq) osq=W5 at *
 clear H4 r0 r1 r2 c9 HCY;have e22:=H5.out.cellCyc;have f22:=H5.out.fro 22;obtain ⟨W6,hW6⟩ : ∃ u,u=W5.setCell ⟨g.X,22,none⟩ (.int .i64 (m.cyc+cv)):=⟨_,rfl⟩
 have H6:Hid (InS g W6 (cm (m.cyc+cv) t.m) t.full):=by show InS _ _ _ _;rw [hW6];exact H5.out.s_cyc _
 have q23:=H6.out.cellFull;have q22:W6.cell? ⟨g.X,22,none⟩=some (.int .i64 (m.cyc+cv)):=H6.out.cellCyc
 go_upto_region 25 with fail
 rw [<- hW6];clear hW6 e22 f22 H5
 by_cases hfu:t.full=true \/ 1000000000<m.cyc+cv
 ·have HS:Hid (bR m=(m,4)):=by show _=_;rw [HSE.out,if_pos hfu]
  have hcase:t.full=true \/ (t.full=false/\1000000000<m.cyc+cv):=by
   cases hx:t.full with
   | true=>exact .inl rfl
   | false=>exact .inr ⟨rfl,hfu.resolve_left (by rw [hx];decide)⟩
  have HKK:=K.out _ _ _ H6.out;have HQ1:Hid (W6.heap[w.heap.size]? = some (.cells cM 30)/\W6.heap[w.heap.size+1]? = some (.cells cZ 30)/\Below w.heap.size w W6):=⟨HKK.1,HKK.2.1,HKK.2.2.2.2.2⟩;clear HKK;rcases hcase with hf|⟨hf,hcy⟩
  all_goals
   rw [hf] at q23
   clear hfu HSE
   go_upto_region 26 with fail
   refine wp_region_list ?_;refine wpList_load_row rfl 30 _ rfl w.heap.size rfl _ _ (0,0) _ HQ1.out.1 underlying30 rfl HIM.out ?_
   go_wp2_with fail
   refine Calls.mono (by rw [HM.out];exact nC m po cap _ HLE.out (HSL.out.below HQ1.out.2.2)) ?_;rintro e wy ⟨⟨poy,capy,rfl,owny⟩,hby⟩;have HY:=zHd (HolI.after HQ1.out.2.2 hby);have HY2:Hid (wy.heap[w.heap.size+1]? = some (.cells cZ 30)):=(hby.block _ (zLo HQ1.out.2.1)).trans HQ1.out.2.1;have HYO:Hid (wy.ownsRow w.heap.size 2 1 (.slice poy m.out.length capy) m.out.length (dJ m.out)):=nT (w':=wy) owny _ HQ1.out.2.2.size;clear hby owny
   rename_i hK
   refine hK _ _ ?_;clear hK;refine wpList_store_row rfl 30 _ _ rfl (w.heap.size+1) _ rfl rfl _ _ HY2.out (aP _ _ _) (by rw [HSZ.out,aV]) (dS _ _ _) ?_;have HF:Hid ((wy.setRow (w.heap.size+1) (aA m poy capy)).heap[w.heap.size+1]? = some (.cells (aA m poy capy) 30)):=bG HY2.out;have HG:Hid (Below w.heap.size w (wy.setRow (w.heap.size+1) (aA m poy capy))):=bJ HY.out (by omega);have HOw:Hid ((wy.setRow (w.heap.size+1) (aA m poy capy)).ownsRow w.heap.size 2 1 (.slice poy m.out.length capy) m.out.length (dJ m.out)):=World.ownsRow.kept (row:=some (w.heap.size+1)) HYO.out (cH _ _ _) (.inr (dK HYO.out HY2.out));go_wp2;refine bodyPost_ret (v:=.tuple #[.agg (aA m poy capy),.int .i64 4]) (bS results44 _ _ (w.heap.size+1) _ _ (0,0) _ _ rfl rfl HF.out underlying30 rfl (aP _ _ _)) rfl ?_;refine ⟨⟨poy,capy,by rw [HS.out],?_⟩,HG.out⟩;rw [HS.out];exact HOw.out
 ·have HS:Hid (bR m=(cm (m.cyc+cv) t.m,0)):=by show _=_;rw [HSE.out,if_neg hfu]
  have hf:t.full=false:=by
   cases hx:t.full with
   | false=>rfl
   | true=>exact absurd (.inl hx) hfu
  have hcy:¬ 1000000000<m.cyc+cv:=fun h=>hfu (.inr h)
  rw [hf] at q23
  have HKK:=K.out _ _ _ H6.out;have HQ1:Hid (W6.heap[w.heap.size+1]? = some (.cells cZ 30)/\Below w.heap.size w W6):=⟨HKK.2.1,HKK.2.2.2.2.2⟩;have HL6:Hid ((cm (m.cyc+cv) t.m).out.length<=1048576):=Nat.le_trans HGT.out.rt.out (by decide);clear HKK hfu HSE;obtain ⟨po6,cap6,hA6⟩:=H6.out;have hl6:=hA6.load (W':=W6) rfl;have HA6:Hid (SAt g W6 (cm (m.cyc+cv) t.m) t.full po6 cap6):=hA6;clear hA6 H6;generalize hMM:cm (m.cyc+cv) t.m=MM at *
  go_upto_region 27 with fail
  refine wp_region_list ?_;refine wpList_plain rfl (fun K hK=>?_);go_simp;refine hK _ _ ?_;clear hK;refine wpList_plain rfl (fun K hK=>?_);go_simp;refine hK _ _ ?_;clear hK;refine wpList_plain rfl (fun K hK=>?_);go_simp;refine hK _ _ ?_;clear hK;refine dO rfl 30 _ rfl ⟨g.X,0,none⟩ rfl _ hl6 ?_
  go_wp2_with fail
  refine Calls.mono (nC MM po6 cap6 _ HL6.out HA6.out.sl) ?_;rintro e wy ⟨⟨poy,capy,rfl,owny⟩,hby⟩;have HY:=zHd (HolI.after HQ1.out.2 hby);have HY2:Hid (wy.heap[w.heap.size+1]? = some (.cells cZ 30)):=(hby.block _ (zLo HQ1.out.1)).trans HQ1.out.1;have HYO:Hid (wy.ownsRow w.heap.size 2 1 (.slice poy MM.out.length capy) MM.out.length (dJ MM.out)):=nT (w':=wy) owny _ HQ1.out.2.size;clear hby owny
  rename_i hK
  refine hK _ _ ?_;clear hK;refine wpList_store_row rfl 30 _ _ rfl (w.heap.size+1) _ rfl rfl _ _ HY2.out (aP _ _ _) (by rw [HSZ.out,aV]) (dS _ _ _) ?_;have HF:Hid ((wy.setRow (w.heap.size+1) (aA MM poy capy)).heap[w.heap.size+1]? = some (.cells (aA MM poy capy) 30)):=bG HY2.out;have HG:Hid (Below w.heap.size w (wy.setRow (w.heap.size+1) (aA MM poy capy))):=bJ HY.out (by omega);have HOw:Hid ((wy.setRow (w.heap.size+1) (aA MM poy capy)).ownsRow w.heap.size 2 1 (.slice poy MM.out.length capy) MM.out.length (dJ MM.out)):=World.ownsRow.kept (row:=some (w.heap.size+1)) HYO.out (cH _ _ _) (.inr (dK HYO.out HY2.out));go_wp2;refine bodyPost_ret (v:=.tuple #[.agg (aA MM poy capy),.int .i64 0]) (bS results44 _ _ (w.heap.size+1) _ _ (0,0) _ _ rfl rfl HF.out underlying30 rfl (aP _ _ _)) rfl ?_;refine ⟨⟨poy,capy,by rw [HS.out],?_⟩,HG.out⟩;rw [HS.out];exact HOw.out
theorem ssS (m:M) (po:Option Addr) (cap:Nat) (w:World) (hg:Stpq.Good m) (hcy:0<=m.cyc/\m.cyc<=1000000000) (hN:Sl w po m.out cap) (hpo:∀ p,po=some p->p.block<w.heap.size) :
  Calls prog 44 #[.agg (aA m po cap)] w (SP m w):=by
 cases hh:m.hal with
 | true=>exact aXY m po cap w hg hcy hN hh
 | false =>
  by_cases hn:lenOf m=0
  ·exact aXZ m po cap w hg hcy hN hh hn
  ·exact aYC m po cap w hg hcy hN hpo hh hn
end Stdg
end Go.Proofs.YteglcgnhhoenbaaGreatDoor
