import Derived.Test.YtbofcepdckpkkaaGreatDoorP10
set_option linter.all false
set_option maxRecDepth 20000
set_option maxHeartbeats 8000000
open Go.ChangeShapes Go.WideShapes Go.ChangeAt Go.RowKit
open Go.Proofs.Tryz
namespace Go.Proofs.YtbofcepdckpkkaaGreatDoor
namespace Cmps
open Rdr (Rd Post)
open Prsm
theorem row_in {W w1 w2:World} {rb:Nat} {T:TypeId} {C:List ByteArray} (p:ByteArray->Prop) (hp:Post W rb w2) (hW:W.heap=(w1.alloc (.cells (C.map Value.string).toArray T)).heap) (hl:rb<w1.heap.size) (hk:∀ t ∈ C,p t) {y:Int} (y0:0<=y) (y1:y<C.length) :
  ∃ t:ByteArray,p t/\w2.cell? ⟨w1.heap.size,y.toNat,none⟩=some (.string t):=by
 have h:y.toNat<C.length:=by omega
 refine ⟨C[y.toNat],hk _ (List.getElem_mem h),(Draw.row_cell hp hW hl y.toNat).trans ?_⟩
 simp [h]
theorem get_in {C:List ByteArray} (p:ByteArray->Prop) (hk:∀ t ∈ C,p t) {y:Int} (y0:0<=y) (y1:y<C.length):∃ t:ByteArray,p t/\∀ h,(C.map Value.string)[y.toNat]'h=.string t:=by
 have h:y.toNat<C.length:=by omega
 exact ⟨C[y.toNat],hk _ (List.getElem_mem h),fun h=>by simp⟩
def names:List ByteArray:=[⟨#[97,49]⟩,⟨#[108,111,111,112]⟩,⟨#[120,46,121]⟩,⟨#[101,110,100,95]⟩]
def ops:List ByteArray:=[⟨#[43]⟩,⟨#[45]⟩,⟨#[42]⟩,⟨#[47]⟩,⟨#[37]⟩,⟨#[38]⟩,⟨#[94]⟩,⟨#[124]⟩,⟨#[60,60]⟩,⟨#[62,62]⟩]
def sz (t:ByteArray):Nat:=sp t.data.toList
theorem sz_app (a b:ByteArray):sz (a ++ b)=sz a+sz b:=by unfold sz sp;rw [ByteArray.data_append,Array.toList_append,List.countP_append]
def F (M:Nat) (t:ByteArray):Prop:=11*(sz t+2)<=3*(M+6)
theorem F_more {M N:Nat} {t:ByteArray} (h:F M t) (hN:M<=N):F N t:=by unfold F at *;omega
theorem F_one {M:Nat} {t:ByteArray} (hM:5<=M) (c:ByteArray) (hc:sz c<=1) (h:F M t):F (2*M+6) (c ++ t):=by unfold F at *;rw [sz_app];omega
theorem F_br {M:Nat} {t:ByteArray} (hM:5<=M) (c d:ByteArray) (hc:sz c<=1) (hd:sz d=0) (h:F M t):F (2*M+6) (c ++ t ++ d):=by unfold F at *;rw [sz_app,sz_app];omega
theorem F_op {M:Nat} {t u c:ByteArray} (hc:sz c<=2) (h:F M t) (h':F M u):F (2*M+6) (t ++ c ++ u):=by unfold F at *;rw [sz_app,sz_app];omega
theorem F_names:∀ t ∈ names,F 5 t/\t.size<=4/\∀ M,5<=M->F (2*M+6) (⟨#[98,97,110,107,40]⟩ ++ t ++ ⟨#[41]⟩):=by
 intro t h
 have k:sz t=0/\t.size<=4:=by
  simp only [names,List.mem_cons,List.not_mem_nil,or_false] at h
  rcases h with rfl|rfl|rfl|rfl <;> exact ⟨by decide +kernel,by decide +kernel⟩
 refine ⟨by unfold F;omega,k.2,fun M hM=>?_⟩
 unfold F
 rw [sz_app,sz_app,show sz ⟨#[98,97,110,107,40]⟩=1 from by decide +kernel,show sz ⟨#[41]⟩=0 from by decide +kernel]
 omega
def IsName (t:ByteArray):Prop:=t ∈ names
theorem name_any (rb:Nat) (w:World) (h:Rd w rb) :
  Calls prog 41 #[.pointer (some ⟨rb,0,none⟩)] w fun e w'=>(∃ t,IsName t/\e=.returned (.string t))/\Post w rb w':=by
 have H:Hid (Rd w rb):=h
 have hl:=h.lt
 clear h
 have HA:Hid (Post w rb (w.alloc (.cells (names.map Value.string).toArray 9))):=(Post.refl H.out).alloc _
 go_enter func41,ntmps41
 go_wp2_with fail
 refine (Rdr.below_any _ _ _ HA.out.1 (by decide) (by decide)).mono ?_
 rintro e w2 ⟨⟨y,y0,y1,rfl⟩,hp⟩
 obtain ⟨t,ht,hc⟩:=row_in (C:=names) IsName hp rfl hl (fun t h=>h) y0 y1
 have HP:Hid (Post w rb w2):=HA.out.trans hp
 clear hp HA
 go_wp2
 go_ret
 exact ⟨⟨t,ht,rfl⟩,HP.out⟩
def In (M:Nat) (t:ByteArray):Prop:=F M t/\t.size<=M
def IQ (M:Nat) (w:World) (rb:Nat) (e:Ending) (w':World):Prop:=(∃ t,In M t/\e=.returned (.string t))/\Post w rb w'
theorem infix_deep (rb:Nat) (w:World) (h:Rd w rb):Calls prog 18 #[.pointer (some ⟨rb,0,none⟩),.int .i64 4] w (IQ 5 w rb):=by
 have H:Hid (Rd w rb):=h
 clear h
 go_enter func18,ntmps18
 go_wp2_with fail
 refine (name_any _ _ H.out).mono ?_
 rintro e w1 ⟨⟨n,hn,rfl⟩,hp1⟩
 have hl:=hp1.1.lt
 have CN:Hid (∀ t ∈ ([⟨#[49]⟩,⟨#[36,70,70]⟩,n,⟨#[37,49,48,49]⟩,⟨#[54,53,53,51,53]⟩]:List ByteArray),In 5 t):=by
  intro t ht
  simp only [List.mem_cons,List.not_mem_nil,or_false] at ht
  rcases ht with rfl|rfl|rfl|rfl|rfl
  ·exact ⟨by unfold F;decide +kernel,by decide +kernel⟩
  ·exact ⟨by unfold F;decide +kernel,by decide +kernel⟩
  ·have:=F_names _ hn
   exact ⟨this.1,by omega⟩
  ·exact ⟨by unfold F;decide +kernel,by decide +kernel⟩
  ·exact ⟨by unfold F;decide +kernel,by decide +kernel⟩
 have HA:Hid (Post w rb (w1.alloc (.cells (([⟨#[49]⟩,⟨#[36,70,70]⟩,n,⟨#[37,49,48,49]⟩,⟨#[54,53,53,51,53]⟩]:List ByteArray).map Value.string).toArray 9))):=hp1.alloc _
 clear hp1 hn
 go_wp2_with fail
 refine (Rdr.below_any _ _ _ HA.out.1 (by decide) (by decide)).mono ?_
 rintro e w2 ⟨⟨y,y0,y1,rfl⟩,hp⟩
 obtain ⟨t,ht,hc⟩:=row_in (C:=[⟨#[49]⟩,⟨#[36,70,70]⟩,n,⟨#[37,49,48,49]⟩,⟨#[54,53,53,51,53]⟩]) (In 5) hp rfl hl CN.out y0 y1
 have HP:Hid (Post w rb w2):=HA.out.trans hp
 clear hp HA
 go_wp2
 go_ret
 exact ⟨⟨t,ht,rfl⟩,HP.out⟩
theorem leaf_row {n:ByteArray} (hn:IsName n):∀ t ∈ ([⟨#[48]⟩,⟨#[55]⟩,⟨#[36,49,50,51,52]⟩,n,⟨#[50,48,48]⟩]:List ByteArray),In 5 t:=by
 intro t ht
 simp only [List.mem_cons,List.not_mem_nil,or_false] at ht
 rcases ht with rfl|rfl|rfl|rfl|rfl
 ·exact ⟨by unfold F;decide +kernel,by decide +kernel⟩
 ·exact ⟨by unfold F;decide +kernel,by decide +kernel⟩
 ·exact ⟨by unfold F;decide +kernel,by decide +kernel⟩
 ·have:=F_names _ hn
  exact ⟨this.1,by omega⟩
 ·exact ⟨by unfold F;decide +kernel,by decide +kernel⟩
def HiLo (t:ByteArray):Prop:=t.size<=5/\sz t<=1
theorem hilo:∀ t ∈ ([⟨#[104,105,103,104,40]⟩,⟨#[108,111,119,40]⟩]:List ByteArray),HiLo t:=by
 intro t ht
 simp only [List.mem_cons,List.not_mem_nil,or_false] at ht
 rcases ht with rfl|rfl
 ·exact ⟨by decide +kernel,by decide +kernel⟩
 ·exact ⟨by decide +kernel,by decide +kernel⟩
theorem sum1 {a b M:Nat} (ha:a<=5) (hb:b<=M) (hM:M<=1000):¬ 9223372036854775807<a+b:=by omega
theorem sum2 {a b M:Nat} (ha:a<=5) (hb:b<=M) (hM:M<=1000):¬ 9223372036854775807<a+b+1:=by omega
theorem sum3 {a b M:Nat} (ha:a<=M) (hb:b<=2) (hM:M<=1000):¬ 9223372036854775807<a+b:=by omega
theorem sum4 {a b c M:Nat} (ha:a<=M) (hb:b<=2) (hc:c<=M) (hM:M<=1000):¬ 9223372036854775807<a+b+c:=by omega
theorem fit2 {t u:ByteArray} {M:Nat} (ha:t.size<=5) (hb:u.size<=M):(t ++ u ++ (⟨#[41]⟩ : ByteArray)).size<=2*M+6:=by
 rw [ByteArray.size_append,ByteArray.size_append];show t.size+u.size+1<=_;omega
theorem fit4 {t u v:ByteArray} {M:Nat} (ha:t.size<=M) (hb:u.size<=2) (hc:v.size<=M):(t ++ u ++ v).size<=2*M+6:=by
 rw [ByteArray.size_append,ByteArray.size_append];omega
def IsOp (t:ByteArray):Prop:=t.size<=2/\sz t<=2
theorem isOp:∀ t ∈ ops,IsOp t:=by
 intro t h
 simp only [ops,List.mem_cons,List.not_mem_nil,or_false] at h
 rcases h with rfl|rfl|rfl|rfl|rfl|rfl|rfl|rfl|rfl|rfl <;> exact ⟨by decide +kernel,by decide +kernel⟩
theorem undrew {w w':World} {rb:Nat} (h:Post w.drew rb w'):Post w rb w':=⟨h.1,⟨h.2.os,h.2.tape,h.2.output,h.2.size,h.2.block⟩⟩
theorem size_lt {w w':World} {rb:Nat} {o:Obj} (h:Post (w.alloc o) rb w'):w.heap.size<w'.heap.size:=by have:=h.2.size;simp at this;omega
theorem cell_to {w w':World} {rb b i:Nat} {v:Option Value} (h:Post w rb w') (hc:w.cell? ⟨b,i,none⟩=v) (hb:b<w.heap.size) (hn:b ≠ rb):w'.cell? ⟨b,i,none⟩=v :=
 (World.cell?_of_block (a:=⟨b,i,none⟩) (h.2.block b hb (fun e=>hn (by cases e;rfl)))).trans hc
theorem cell_new {w w':World} {rb:Nat} {C:List ByteArray} {T:TypeId} {z:Int} {t:ByteArray} (h:Post (w.alloc (.cells (C.map Value.string).toArray T)) rb w') (hl:rb<w.heap.size) (hg:∀ h,(C.map Value.string)[z.toNat]'h=.string t) (hz:z.toNat<C.length):w'.cell? ⟨w.heap.size,z.toNat,none⟩=some (.string t):=by
 refine cell_to h ?_ (by simp) (by omega)
 rw [World.cell?_alloc_new]
 have hz':z.toNat<(C.map Value.string).length:=by simpa using hz
 simp only [List.getElem?_toArray]
 rw [List.getElem?_eq_getElem hz',hg hz']
theorem infix_step (rb deep M:Nat) (w:World) (h:Rd w rb) (hd1:1<=deep) (hd:deep<=3) (hM:5<=M) (hM2:M<=1000)
  (ih:∀ w,Rd w rb->Calls prog 18 #[.pointer (some ⟨rb,0,none⟩),.int .i64 ((deep:Int)+1)] w (IQ M w rb)) :
  Calls prog 18 #[.pointer (some ⟨rb,0,none⟩),.int .i64 (deep:Int)] w (IQ (2*M+6) w rb):=by
 have H:Hid (Rd w rb):=h
 clear h
 go_enter func18,ntmps18
 go_wp2_with fail
 refine (Rdr.below_any _ _ _ H.out (by decide) (by decide)).mono ?_
 rintro e w1 ⟨⟨x,x0,x1,rfl⟩,hp1⟩
 have P1:Hid (Post w rb w1):=hp1
 clear hp1
 have hx:x=0 \/ x=1 \/ x=2 \/ x=3 \/ x=4 \/ x=5 \/ x=6 \/ x=7 \/ x=8:=by omega
 rcases hx with rfl|rfl|rfl|rfl|rfl|rfl|rfl|rfl|rfl
 ·go_wp2_with fail
  refine (ih _ P1.out.1).mono ?_
  rintro e w2 ⟨⟨t,ht,rfl⟩,hp2⟩
  have P2:Hid (Post w rb w2):=P1.out.trans hp2
  clear hp2
  have hz:t.size<=M:=ht.2
  go_wp2
  go_ret
  exact ⟨⟨_,⟨F_one hM _ (by decide +kernel) ht.1,by rw [ByteArray.size_append];show 1+t.size<=_;omega⟩,rfl⟩,P2.out⟩
 ·go_wp2_with fail
  refine (ih _ P1.out.1).mono ?_
  rintro e w2 ⟨⟨t,ht,rfl⟩,hp2⟩
  have P2:Hid (Post w rb w2):=P1.out.trans hp2
  clear hp2
  have hz:t.size<=M:=ht.2
  go_wp2
  go_ret
  exact ⟨⟨_,⟨F_br hM _ _ (by decide +kernel) (by decide +kernel) ht.1,by rw [ByteArray.size_append,ByteArray.size_append];show 1+t.size+1<=_;omega⟩,rfl⟩,P2.out⟩
 ·have CH:Hid (∀ t ∈ ([⟨#[104,105,103,104,40]⟩,⟨#[108,111,119,40]⟩]:List ByteArray),HiLo t):=hilo
  have hl:=P1.out.1.lt
  have HM:Hid (M<=1000):=hM2
  have RA:Hid (Rd ((w1.alloc (.cells #[.string ⟨#[104,105,103,104,40]⟩,.string ⟨#[108,111,119,40]⟩] 9)).drew) rb):=(P1.out.alloc (.cells #[.string ⟨#[104,105,103,104,40]⟩,.string ⟨#[108,111,119,40]⟩] 9)).1.kept (fun _ _=>rfl)
  have i1:IntKind.i64.wrap ((deep:Int)+1)=(deep:Int)+1:=by rw [IntKind.wrap_i64];omega
  go_wp2_with fail
  go_region_with (first
   | (go_at_call 14;refine (Rdr.below_any _ _ (w1.drew) (P1.out.1.kept (fun _ _=>rfl)) (by decide) (by decide)).mono ?_;rintro e wB ⟨⟨z,z0,z1,rfl⟩,hpB⟩;obtain ⟨t,ht,hg0⟩:=get_in (C:=[⟨#[104,105,103,104,40]⟩,⟨#[108,111,119,40]⟩]) HiLo CH.out z0 z1;have hg:∀ h,([.string ⟨#[104,105,103,104,40]⟩,.string ⟨#[108,111,119,40]⟩]:List Value)[z.toNat]'h=.string t:=hg0;have PB:Hid (Post w rb wB):=P1.out.trans (undrew hpB);have ks:=PB.out.1.lt;clear hpB)
   | (go_at_call 14;refine (Rdr.below_any _ _ ((w1.alloc (.cells #[.string ⟨#[104,105,103,104,40]⟩,.string ⟨#[108,111,119,40]⟩] 9)).drew) RA.out (by decide) (by decide)).mono ?_;rintro e wB ⟨⟨z,z0,z1,rfl⟩,hpB⟩;obtain ⟨t,ht,hc⟩:=row_in (C:=[⟨#[104,105,103,104,40]⟩,⟨#[108,111,119,40]⟩]) HiLo hpB rfl hl CH.out z0 z1;have ks:=size_lt (undrew hpB);have PB:Hid (Post w rb wB):=(P1.out.alloc (.cells #[.string ⟨#[104,105,103,104,40]⟩,.string ⟨#[108,111,119,40]⟩] 9)).trans (undrew hpB);clear hpB)
   | (go_at_call 18;refine (ih wB PB.out.1).mono ?_;rintro e wI ⟨⟨u,hu,rfl⟩,hpI⟩;have hd:=cell_to hpI hc ks (Nat.ne_of_gt hl);have PI:Hid (Post w rb wI):=PB.out.trans hpI;have q1:=sum1 ht.1 hu.2 HM.out;have q2:=sum2 ht.1 hu.2 HM.out;clear hpI)
   | (go_at_call 18;refine (ih wB PB.out.1).mono ?_;rintro e wI ⟨⟨u,hu,rfl⟩,hpI⟩;have PI:Hid (Post w rb wI):=PB.out.trans hpI;have q1:=sum1 ht.1 hu.2 HM.out;have q2:=sum2 ht.1 hu.2 HM.out;clear hpI)
   | (go_at_call 18;refine (ih (wB.alloc (.cells #[.string ⟨#[104,105,103,104,40]⟩,.string ⟨#[108,111,119,40]⟩] 9)) (PB.out.alloc (.cells #[.string ⟨#[104,105,103,104,40]⟩,.string ⟨#[108,111,119,40]⟩] 9)).1).mono ?_;rintro e wI ⟨⟨u,hu,rfl⟩,hpI⟩;have hd:=cell_new (C:=[⟨#[104,105,103,104,40]⟩,⟨#[108,111,119,40]⟩]) hpI ks hg (by show z.toNat<2;omega);have PI:Hid (Post w rb wI):=(PB.out.alloc (.cells #[.string ⟨#[104,105,103,104,40]⟩,.string ⟨#[108,111,119,40]⟩] 9)).trans hpI;have q1:=sum1 ht.1 hu.2 HM.out;have q2:=sum2 ht.1 hu.2 HM.out;clear hpI)
   | fail)
  all_goals go_wp2
  all_goals go_ret
  all_goals exact ⟨⟨_,⟨F_br hM _ _ ht.2 (by decide +kernel) hu.1,fit2 ht.1 hu.2⟩,rfl⟩,by first|exact PI.out|exact PI.out.alloc _|exact (PI.out.alloc _).trans (Post.refl ((PI.out.alloc _).1))⟩
 ·go_wp2_with fail
  refine (name_any _ _ P1.out.1).mono ?_
  rintro e w2 ⟨⟨t,ht,rfl⟩,hp2⟩
  have P2:Hid (Post w rb w2):=P1.out.trans hp2
  clear hp2
  obtain ⟨f1,f2,f3⟩:=F_names t ht
  go_wp2
  go_ret
  exact ⟨⟨_,⟨f3 M hM,by rw [ByteArray.size_append,ByteArray.size_append];show 5+t.size+1<=_;omega⟩,rfl⟩,P2.out⟩
 ·have CO:Hid (∀ t ∈ ([⟨#[43]⟩,⟨#[45]⟩,⟨#[42]⟩,⟨#[47]⟩,⟨#[37]⟩,⟨#[38]⟩,⟨#[94]⟩,⟨#[124]⟩,⟨#[60,60]⟩,⟨#[62,62]⟩]:List ByteArray),IsOp t):=isOp
  have hl:=P1.out.1.lt
  have HM:Hid (M<=1000):=hM2
  have RA:Hid (Rd ((w1.alloc (.cells #[.string ⟨#[43]⟩,.string ⟨#[45]⟩,.string ⟨#[42]⟩,.string ⟨#[47]⟩,.string ⟨#[37]⟩,.string ⟨#[38]⟩,.string ⟨#[94]⟩,.string ⟨#[124]⟩,.string ⟨#[60,60]⟩,.string ⟨#[62,62]⟩] 9)).drew) rb):=(P1.out.alloc (.cells #[.string ⟨#[43]⟩,.string ⟨#[45]⟩,.string ⟨#[42]⟩,.string ⟨#[47]⟩,.string ⟨#[37]⟩,.string ⟨#[38]⟩,.string ⟨#[94]⟩,.string ⟨#[124]⟩,.string ⟨#[60,60]⟩,.string ⟨#[62,62]⟩] 9)).1.kept (fun _ _=>rfl)
  have i1:IntKind.i64.wrap ((deep:Int)+1)=(deep:Int)+1:=by rw [IntKind.wrap_i64];omega
  go_wp2_with fail
  go_region_with (first
   | (go_at_call 18;refine (ih (w1.drew) (P1.out.1.kept (fun _ _=>rfl))).mono ?_;rintro e wa ⟨⟨ta,hta,rfl⟩,hpa⟩;have Pa:Hid (Post w rb wa):=P1.out.trans (undrew hpa);have ka:=Pa.out.1.lt;clear hpa)
   | (go_at_call 18;refine (ih ((w1.alloc (.cells #[.string ⟨#[43]⟩,.string ⟨#[45]⟩,.string ⟨#[42]⟩,.string ⟨#[47]⟩,.string ⟨#[37]⟩,.string ⟨#[38]⟩,.string ⟨#[94]⟩,.string ⟨#[124]⟩,.string ⟨#[60,60]⟩,.string ⟨#[62,62]⟩] 9)).drew) RA.out).mono ?_;rintro e wa ⟨⟨ta,hta,rfl⟩,hpa⟩;have QA:Hid (Post (w1.alloc (.cells #[.string ⟨#[43]⟩,.string ⟨#[45]⟩,.string ⟨#[42]⟩,.string ⟨#[47]⟩,.string ⟨#[37]⟩,.string ⟨#[38]⟩,.string ⟨#[94]⟩,.string ⟨#[124]⟩,.string ⟨#[60,60]⟩,.string ⟨#[62,62]⟩] 9)) rb wa):=undrew hpa;have Pa:Hid (Post w rb wa):=(P1.out.alloc (.cells #[.string ⟨#[43]⟩,.string ⟨#[45]⟩,.string ⟨#[42]⟩,.string ⟨#[47]⟩,.string ⟨#[37]⟩,.string ⟨#[38]⟩,.string ⟨#[94]⟩,.string ⟨#[124]⟩,.string ⟨#[60,60]⟩,.string ⟨#[62,62]⟩] 9)).trans (undrew hpa);have ka:=Pa.out.1.lt;clear hpa)
   | (go_at_call 14;refine (Rdr.below_any _ _ wa Pa.out.1 (by decide) (by decide)).mono ?_;rintro e wb ⟨⟨z,z0,z1,rfl⟩,hpb⟩;obtain ⟨t,ht,hc⟩:=row_in (C:=[⟨#[43]⟩,⟨#[45]⟩,⟨#[42]⟩,⟨#[47]⟩,⟨#[37]⟩,⟨#[38]⟩,⟨#[94]⟩,⟨#[124]⟩,⟨#[60,60]⟩,⟨#[62,62]⟩]) IsOp (QA.out.trans hpb) rfl hl CO.out z0 z1;have kb:=size_lt (QA.out.trans hpb);have hne:=Nat.ne_of_gt hl;have Pb:Hid (Post w rb wb):=Pa.out.trans hpb;have q1:=sum3 hta.2 ht.1 HM.out;clear hpb)
   | (go_at_call 14;refine (Rdr.below_any _ _ wa Pa.out.1 (by decide) (by decide)).mono ?_;rintro e wb ⟨⟨z,z0,z1,rfl⟩,hpb⟩;obtain ⟨t,ht,hg0⟩:=get_in (C:=[⟨#[43]⟩,⟨#[45]⟩,⟨#[42]⟩,⟨#[47]⟩,⟨#[37]⟩,⟨#[38]⟩,⟨#[94]⟩,⟨#[124]⟩,⟨#[60,60]⟩,⟨#[62,62]⟩]) IsOp CO.out z0 z1;have hg:∀ h,([.string ⟨#[43]⟩,.string ⟨#[45]⟩,.string ⟨#[42]⟩,.string ⟨#[47]⟩,.string ⟨#[37]⟩,.string ⟨#[38]⟩,.string ⟨#[94]⟩,.string ⟨#[124]⟩,.string ⟨#[60,60]⟩,.string ⟨#[62,62]⟩]:List Value)[z.toNat]'h=.string t:=hg0;have Pb:Hid (Post w rb wb):=Pa.out.trans hpb;have kb:=Pb.out.1.lt;have q1:=sum3 hta.2 ht.1 HM.out;clear hpb)
   | (go_at_call 14;refine (Rdr.below_any _ _ (wa.alloc (.cells #[.string ⟨#[43]⟩,.string ⟨#[45]⟩,.string ⟨#[42]⟩,.string ⟨#[47]⟩,.string ⟨#[37]⟩,.string ⟨#[38]⟩,.string ⟨#[94]⟩,.string ⟨#[124]⟩,.string ⟨#[60,60]⟩,.string ⟨#[62,62]⟩] 9)) (Pa.out.alloc (.cells #[.string ⟨#[43]⟩,.string ⟨#[45]⟩,.string ⟨#[42]⟩,.string ⟨#[47]⟩,.string ⟨#[37]⟩,.string ⟨#[38]⟩,.string ⟨#[94]⟩,.string ⟨#[124]⟩,.string ⟨#[60,60]⟩,.string ⟨#[62,62]⟩] 9)).1 (by decide) (by decide)).mono ?_;rintro e wb ⟨⟨z,z0,z1,rfl⟩,hpb⟩;obtain ⟨t,ht,hc⟩:=row_in (C:=[⟨#[43]⟩,⟨#[45]⟩,⟨#[42]⟩,⟨#[47]⟩,⟨#[37]⟩,⟨#[38]⟩,⟨#[94]⟩,⟨#[124]⟩,⟨#[60,60]⟩,⟨#[62,62]⟩]) IsOp hpb rfl ka CO.out z0 z1;have kb:=size_lt hpb;have hne:=Nat.ne_of_gt ka;have Pb:Hid (Post w rb wb):=(Pa.out.alloc (.cells #[.string ⟨#[43]⟩,.string ⟨#[45]⟩,.string ⟨#[42]⟩,.string ⟨#[47]⟩,.string ⟨#[37]⟩,.string ⟨#[38]⟩,.string ⟨#[94]⟩,.string ⟨#[124]⟩,.string ⟨#[60,60]⟩,.string ⟨#[62,62]⟩] 9)).trans hpb;have q1:=sum3 hta.2 ht.1 HM.out;clear hpb)
   | (go_at_call 18;refine (ih wb Pb.out.1).mono ?_;rintro e wc ⟨⟨tc,htc,rfl⟩,hpc⟩;have hd:=cell_to hpc hc kb hne;have Pc:Hid (Post w rb wc):=Pb.out.trans hpc;have q2:=sum4 hta.2 ht.1 htc.2 HM.out;clear hpc)
   | (go_at_call 18;refine (ih wb Pb.out.1).mono ?_;rintro e wc ⟨⟨tc,htc,rfl⟩,hpc⟩;have Pc:Hid (Post w rb wc):=Pb.out.trans hpc;have q2:=sum4 hta.2 ht.1 htc.2 HM.out;clear hpc)
   | (go_at_call 18;refine (ih (wb.alloc (.cells #[.string ⟨#[43]⟩,.string ⟨#[45]⟩,.string ⟨#[42]⟩,.string ⟨#[47]⟩,.string ⟨#[37]⟩,.string ⟨#[38]⟩,.string ⟨#[94]⟩,.string ⟨#[124]⟩,.string ⟨#[60,60]⟩,.string ⟨#[62,62]⟩] 9)) (Pb.out.alloc (.cells #[.string ⟨#[43]⟩,.string ⟨#[45]⟩,.string ⟨#[42]⟩,.string ⟨#[47]⟩,.string ⟨#[37]⟩,.string ⟨#[38]⟩,.string ⟨#[94]⟩,.string ⟨#[124]⟩,.string ⟨#[60,60]⟩,.string ⟨#[62,62]⟩] 9)).1).mono ?_;rintro e wc ⟨⟨tc,htc,rfl⟩,hpc⟩;have hd:=cell_new (C:=[⟨#[43]⟩,⟨#[45]⟩,⟨#[42]⟩,⟨#[47]⟩,⟨#[37]⟩,⟨#[38]⟩,⟨#[94]⟩,⟨#[124]⟩,⟨#[60,60]⟩,⟨#[62,62]⟩]) hpc kb hg (by show z.toNat<10;omega);have Pc:Hid (Post w rb wc):=(Pb.out.alloc (.cells #[.string ⟨#[43]⟩,.string ⟨#[45]⟩,.string ⟨#[42]⟩,.string ⟨#[47]⟩,.string ⟨#[37]⟩,.string ⟨#[38]⟩,.string ⟨#[94]⟩,.string ⟨#[124]⟩,.string ⟨#[60,60]⟩,.string ⟨#[62,62]⟩] 9)).trans hpc;have q2:=sum4 hta.2 ht.1 htc.2 HM.out;clear hpc)
   | fail)
  all_goals go_wp2
  all_goals go_ret
  all_goals exact ⟨⟨_,⟨F_op ht.2 hta.1 htc.1,fit4 hta.2 ht.1 htc.2⟩,rfl⟩,by first|exact Pc.out|exact Pc.out.alloc _⟩
 ·have CO:Hid (∀ t ∈ ([⟨#[43]⟩,⟨#[45]⟩,⟨#[42]⟩,⟨#[47]⟩,⟨#[37]⟩,⟨#[38]⟩,⟨#[94]⟩,⟨#[124]⟩,⟨#[60,60]⟩,⟨#[62,62]⟩]:List ByteArray),IsOp t):=isOp
  have hl:=P1.out.1.lt
  have HM:Hid (M<=1000):=hM2
  have RA:Hid (Rd ((w1.alloc (.cells #[.string ⟨#[43]⟩,.string ⟨#[45]⟩,.string ⟨#[42]⟩,.string ⟨#[47]⟩,.string ⟨#[37]⟩,.string ⟨#[38]⟩,.string ⟨#[94]⟩,.string ⟨#[124]⟩,.string ⟨#[60,60]⟩,.string ⟨#[62,62]⟩] 9)).drew) rb):=(P1.out.alloc (.cells #[.string ⟨#[43]⟩,.string ⟨#[45]⟩,.string ⟨#[42]⟩,.string ⟨#[47]⟩,.string ⟨#[37]⟩,.string ⟨#[38]⟩,.string ⟨#[94]⟩,.string ⟨#[124]⟩,.string ⟨#[60,60]⟩,.string ⟨#[62,62]⟩] 9)).1.kept (fun _ _=>rfl)
  have i1:IntKind.i64.wrap ((deep:Int)+1)=(deep:Int)+1:=by rw [IntKind.wrap_i64];omega
  go_wp2_with fail
  go_region_with (first
   | (go_at_call 18;refine (ih (w1.drew) (P1.out.1.kept (fun _ _=>rfl))).mono ?_;rintro e wa ⟨⟨ta,hta,rfl⟩,hpa⟩;have Pa:Hid (Post w rb wa):=P1.out.trans (undrew hpa);have ka:=Pa.out.1.lt;clear hpa)
   | (go_at_call 18;refine (ih ((w1.alloc (.cells #[.string ⟨#[43]⟩,.string ⟨#[45]⟩,.string ⟨#[42]⟩,.string ⟨#[47]⟩,.string ⟨#[37]⟩,.string ⟨#[38]⟩,.string ⟨#[94]⟩,.string ⟨#[124]⟩,.string ⟨#[60,60]⟩,.string ⟨#[62,62]⟩] 9)).drew) RA.out).mono ?_;rintro e wa ⟨⟨ta,hta,rfl⟩,hpa⟩;have QA:Hid (Post (w1.alloc (.cells #[.string ⟨#[43]⟩,.string ⟨#[45]⟩,.string ⟨#[42]⟩,.string ⟨#[47]⟩,.string ⟨#[37]⟩,.string ⟨#[38]⟩,.string ⟨#[94]⟩,.string ⟨#[124]⟩,.string ⟨#[60,60]⟩,.string ⟨#[62,62]⟩] 9)) rb wa):=undrew hpa;have Pa:Hid (Post w rb wa):=(P1.out.alloc (.cells #[.string ⟨#[43]⟩,.string ⟨#[45]⟩,.string ⟨#[42]⟩,.string ⟨#[47]⟩,.string ⟨#[37]⟩,.string ⟨#[38]⟩,.string ⟨#[94]⟩,.string ⟨#[124]⟩,.string ⟨#[60,60]⟩,.string ⟨#[62,62]⟩] 9)).trans (undrew hpa);have ka:=Pa.out.1.lt;clear hpa)
   | (go_at_call 14;refine (Rdr.below_any _ _ wa Pa.out.1 (by decide) (by decide)).mono ?_;rintro e wb ⟨⟨z,z0,z1,rfl⟩,hpb⟩;obtain ⟨t,ht,hc⟩:=row_in (C:=[⟨#[43]⟩,⟨#[45]⟩,⟨#[42]⟩,⟨#[47]⟩,⟨#[37]⟩,⟨#[38]⟩,⟨#[94]⟩,⟨#[124]⟩,⟨#[60,60]⟩,⟨#[62,62]⟩]) IsOp (QA.out.trans hpb) rfl hl CO.out z0 z1;have kb:=size_lt (QA.out.trans hpb);have hne:=Nat.ne_of_gt hl;have Pb:Hid (Post w rb wb):=Pa.out.trans hpb;have q1:=sum3 hta.2 ht.1 HM.out;clear hpb)
   | (go_at_call 14;refine (Rdr.below_any _ _ wa Pa.out.1 (by decide) (by decide)).mono ?_;rintro e wb ⟨⟨z,z0,z1,rfl⟩,hpb⟩;obtain ⟨t,ht,hg0⟩:=get_in (C:=[⟨#[43]⟩,⟨#[45]⟩,⟨#[42]⟩,⟨#[47]⟩,⟨#[37]⟩,⟨#[38]⟩,⟨#[94]⟩,⟨#[124]⟩,⟨#[60,60]⟩,⟨#[62,62]⟩]) IsOp CO.out z0 z1;have hg:∀ h,([.string ⟨#[43]⟩,.string ⟨#[45]⟩,.string ⟨#[42]⟩,.string ⟨#[47]⟩,.string ⟨#[37]⟩,.string ⟨#[38]⟩,.string ⟨#[94]⟩,.string ⟨#[124]⟩,.string ⟨#[60,60]⟩,.string ⟨#[62,62]⟩]:List Value)[z.toNat]'h=.string t:=hg0;have Pb:Hid (Post w rb wb):=Pa.out.trans hpb;have kb:=Pb.out.1.lt;have q1:=sum3 hta.2 ht.1 HM.out;clear hpb)
   | (go_at_call 14;refine (Rdr.below_any _ _ (wa.alloc (.cells #[.string ⟨#[43]⟩,.string ⟨#[45]⟩,.string ⟨#[42]⟩,.string ⟨#[47]⟩,.string ⟨#[37]⟩,.string ⟨#[38]⟩,.string ⟨#[94]⟩,.string ⟨#[124]⟩,.string ⟨#[60,60]⟩,.string ⟨#[62,62]⟩] 9)) (Pa.out.alloc (.cells #[.string ⟨#[43]⟩,.string ⟨#[45]⟩,.string ⟨#[42]⟩,.string ⟨#[47]⟩,.string ⟨#[37]⟩,.string ⟨#[38]⟩,.string ⟨#[94]⟩,.string ⟨#[124]⟩,.string ⟨#[60,60]⟩,.string ⟨#[62,62]⟩] 9)).1 (by decide) (by decide)).mono ?_;rintro e wb ⟨⟨z,z0,z1,rfl⟩,hpb⟩;obtain ⟨t,ht,hc⟩:=row_in (C:=[⟨#[43]⟩,⟨#[45]⟩,⟨#[42]⟩,⟨#[47]⟩,⟨#[37]⟩,⟨#[38]⟩,⟨#[94]⟩,⟨#[124]⟩,⟨#[60,60]⟩,⟨#[62,62]⟩]) IsOp hpb rfl ka CO.out z0 z1;have kb:=size_lt hpb;have hne:=Nat.ne_of_gt ka;have Pb:Hid (Post w rb wb):=(Pa.out.alloc (.cells #[.string ⟨#[43]⟩,.string ⟨#[45]⟩,.string ⟨#[42]⟩,.string ⟨#[47]⟩,.string ⟨#[37]⟩,.string ⟨#[38]⟩,.string ⟨#[94]⟩,.string ⟨#[124]⟩,.string ⟨#[60,60]⟩,.string ⟨#[62,62]⟩] 9)).trans hpb;have q1:=sum3 hta.2 ht.1 HM.out;clear hpb)
   | (go_at_call 18;refine (ih wb Pb.out.1).mono ?_;rintro e wc ⟨⟨tc,htc,rfl⟩,hpc⟩;have hd:=cell_to hpc hc kb hne;have Pc:Hid (Post w rb wc):=Pb.out.trans hpc;have q2:=sum4 hta.2 ht.1 htc.2 HM.out;clear hpc)
   | (go_at_call 18;refine (ih wb Pb.out.1).mono ?_;rintro e wc ⟨⟨tc,htc,rfl⟩,hpc⟩;have Pc:Hid (Post w rb wc):=Pb.out.trans hpc;have q2:=sum4 hta.2 ht.1 htc.2 HM.out;clear hpc)
   | (go_at_call 18;refine (ih (wb.alloc (.cells #[.string ⟨#[43]⟩,.string ⟨#[45]⟩,.string ⟨#[42]⟩,.string ⟨#[47]⟩,.string ⟨#[37]⟩,.string ⟨#[38]⟩,.string ⟨#[94]⟩,.string ⟨#[124]⟩,.string ⟨#[60,60]⟩,.string ⟨#[62,62]⟩] 9)) (Pb.out.alloc (.cells #[.string ⟨#[43]⟩,.string ⟨#[45]⟩,.string ⟨#[42]⟩,.string ⟨#[47]⟩,.string ⟨#[37]⟩,.string ⟨#[38]⟩,.string ⟨#[94]⟩,.string ⟨#[124]⟩,.string ⟨#[60,60]⟩,.string ⟨#[62,62]⟩] 9)).1).mono ?_;rintro e wc ⟨⟨tc,htc,rfl⟩,hpc⟩;have hd:=cell_new (C:=[⟨#[43]⟩,⟨#[45]⟩,⟨#[42]⟩,⟨#[47]⟩,⟨#[37]⟩,⟨#[38]⟩,⟨#[94]⟩,⟨#[124]⟩,⟨#[60,60]⟩,⟨#[62,62]⟩]) hpc kb hg (by show z.toNat<10;omega);have Pc:Hid (Post w rb wc):=(Pb.out.alloc (.cells #[.string ⟨#[43]⟩,.string ⟨#[45]⟩,.string ⟨#[42]⟩,.string ⟨#[47]⟩,.string ⟨#[37]⟩,.string ⟨#[38]⟩,.string ⟨#[94]⟩,.string ⟨#[124]⟩,.string ⟨#[60,60]⟩,.string ⟨#[62,62]⟩] 9)).trans hpc;have q2:=sum4 hta.2 ht.1 htc.2 HM.out;clear hpc)
   | fail)
  all_goals go_wp2
  all_goals go_ret
  all_goals exact ⟨⟨_,⟨F_op ht.2 hta.1 htc.1,fit4 hta.2 ht.1 htc.2⟩,rfl⟩,by first|exact Pc.out|exact Pc.out.alloc _⟩
 ·go_wp2_with fail
  refine (ih _ P1.out.1).mono ?_
  rintro e w2 ⟨⟨t,ht,rfl⟩,hp2⟩
  have P2:Hid (Post w rb w2):=P1.out.trans hp2
  clear hp2
  have hz:t.size<=M:=ht.2
  go_wp2
  go_ret
  exact ⟨⟨_,⟨F_one hM _ (by decide +kernel) ht.1,by rw [ByteArray.size_append];show 1+t.size<=_;omega⟩,rfl⟩,P2.out⟩
 ·go_wp2_with fail
  refine (name_any _ _ P1.out.1).mono ?_
  rintro e w2 ⟨⟨n,hn,rfl⟩,hp2⟩
  have P2:Hid (Post w rb w2):=P1.out.trans hp2
  clear hp2
  have hl:=P2.out.1.lt
  have CN:Hid (∀ t ∈ ([⟨#[48]⟩,⟨#[55]⟩,⟨#[36,49,50,51,52]⟩,n,⟨#[50,48,48]⟩]:List ByteArray),In 5 t):=leaf_row hn
  have HA:Hid (Post w rb (w2.alloc (.cells (([⟨#[48]⟩,⟨#[55]⟩,⟨#[36,49,50,51,52]⟩,n,⟨#[50,48,48]⟩]:List ByteArray).map Value.string).toArray 9))):=P2.out.alloc _
  clear hn
  go_wp2_with fail
  refine (Rdr.below_any _ _ _ HA.out.1 (by decide) (by decide)).mono ?_
  rintro e w3 ⟨⟨y,y0,y1,rfl⟩,hp⟩
  obtain ⟨t,ht,hc⟩:=row_in (C:=[⟨#[48]⟩,⟨#[55]⟩,⟨#[36,49,50,51,52]⟩,n,⟨#[50,48,48]⟩]) (In 5) hp rfl hl CN.out y0 y1
  have HP:Hid (Post w rb w3):=HA.out.trans hp
  clear hp HA
  go_wp2
  go_ret
  exact ⟨⟨t,⟨F_more ht.1 (by omega),Nat.le_trans ht.2 (by omega)⟩,rfl⟩,HP.out⟩
 ·go_wp2_with fail
  refine (name_any _ _ P1.out.1).mono ?_
  rintro e w2 ⟨⟨n,hn,rfl⟩,hp2⟩
  have P2:Hid (Post w rb w2):=P1.out.trans hp2
  clear hp2
  have hl:=P2.out.1.lt
  have CN:Hid (∀ t ∈ ([⟨#[48]⟩,⟨#[55]⟩,⟨#[36,49,50,51,52]⟩,n,⟨#[50,48,48]⟩]:List ByteArray),In 5 t):=leaf_row hn
  have HA:Hid (Post w rb (w2.alloc (.cells (([⟨#[48]⟩,⟨#[55]⟩,⟨#[36,49,50,51,52]⟩,n,⟨#[50,48,48]⟩]:List ByteArray).map Value.string).toArray 9))):=P2.out.alloc _
  clear hn
  go_wp2_with fail
  refine (Rdr.below_any _ _ _ HA.out.1 (by decide) (by decide)).mono ?_
  rintro e w3 ⟨⟨y,y0,y1,rfl⟩,hp⟩
  obtain ⟨t,ht,hc⟩:=row_in (C:=[⟨#[48]⟩,⟨#[55]⟩,⟨#[36,49,50,51,52]⟩,n,⟨#[50,48,48]⟩]) (In 5) hp rfl hl CN.out y0 y1
  have HP:Hid (Post w rb w3):=HA.out.trans hp
  clear hp HA
  go_wp2
  go_ret
  exact ⟨⟨t,⟨F_more ht.1 (by omega),Nat.le_trans ht.2 (by omega)⟩,rfl⟩,HP.out⟩
end Cmps
end Go.Proofs.YtbofcepdckpkkaaGreatDoor
