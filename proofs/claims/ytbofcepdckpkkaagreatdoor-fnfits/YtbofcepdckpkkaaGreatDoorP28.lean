import Derived.Test.YtbofcepdckpkkaaGreatDoorP27
import Derived.Deep.DeepCutAuto
set_option linter.all false
set_option maxRecDepth 20000
set_option maxHeartbeats 8000000
open Go.ChangeShapes Go.WideShapes Go.ChangeAt Go.RowKit
open Go.Proofs.Tryz
namespace Go.Proofs.YtbofcepdckpkkaaGreatDoor
namespace Fiti
open Go.Deep
open Rdr (Rd Post)
open Cmps (sz F IQ In)
theorem get_prop {P:ByteArray->Prop} {C:List ByteArray} (hP:∀ t ∈ C,P t) {y:Int} (y0:0<=y) (y1:y<C.length):∃ t:ByteArray,P t/\∀ h,(C.map Value.string)[y.toNat]'h=.string t:=by
 have h:y.toNat<C.length:=by omega
 exact ⟨C[y.toNat],hP _ (List.getElem_mem h),fun h=>by simp⟩
def tabP:List ByteArray:=[⟨#[108,100,32,97,44]⟩,⟨#[108,100,32,104,108,44]⟩,⟨#[106,114,32]⟩,⟨#[108,100,32,91]⟩,⟨#[97,100,100,32,115,112,44]⟩,⟨#[108,100,32,104,108,44,115,112,43]⟩]
theorem tabP_le:∀ t ∈ tabP,t.size<=9:=by unfold tabP;decide
theorem tabP_get {y:Int} (y0:0<=y) (y1:y<6):∃ t:ByteArray,t.size<=9/\(∀ h,([Value.string ⟨#[108,100,32,97,44]⟩,.string ⟨#[108,100,32,104,108,44]⟩,.string ⟨#[106,114,32]⟩,.string ⟨#[108,100,32,91]⟩,.string ⟨#[97,100,100,32,115,112,44]⟩,.string ⟨#[108,100,32,104,108,44,115,112,43]⟩]:List Value)[y.toNat]'h=.string t)/\([Value.string ⟨#[108,100,32,97,44]⟩,.string ⟨#[108,100,32,104,108,44]⟩,.string ⟨#[106,114,32]⟩,.string ⟨#[108,100,32,91]⟩,.string ⟨#[97,100,100,32,115,112,44]⟩,.string ⟨#[108,100,32,104,108,44,115,112,43]⟩]:List Value)[y.toNat]? = some (.string t)/\(#[Value.string ⟨#[108,100,32,97,44]⟩,.string ⟨#[108,100,32,104,108,44]⟩,.string ⟨#[106,114,32]⟩,.string ⟨#[108,100,32,91]⟩,.string ⟨#[97,100,100,32,115,112,44]⟩,.string ⟨#[108,100,32,104,108,44,115,112,43]⟩]:Array Value)[y.toNat]? = some (.string t):=by
 obtain ⟨t,ht,hg⟩:=get_prop (C:=tabP) tabP_le y0 y1
 have hl:y.toNat<6:=by omega
 have hg':∀ h,([Value.string ⟨#[108,100,32,97,44]⟩,.string ⟨#[108,100,32,104,108,44]⟩,.string ⟨#[106,114,32]⟩,.string ⟨#[108,100,32,91]⟩,.string ⟨#[97,100,100,32,115,112,44]⟩,.string ⟨#[108,100,32,104,108,44,115,112,43]⟩]:List Value)[y.toNat]'h=.string t:=hg
 have h2:([Value.string ⟨#[108,100,32,97,44]⟩,.string ⟨#[108,100,32,104,108,44]⟩,.string ⟨#[106,114,32]⟩,.string ⟨#[108,100,32,91]⟩,.string ⟨#[97,100,100,32,115,112,44]⟩,.string ⟨#[108,100,32,104,108,44,115,112,43]⟩]:List Value)[y.toNat]? = some (.string t):=by rw [List.getElem?_eq_getElem (by simpa using hl),hg']
 exact ⟨t,ht,hg',h2,by rw [List.getElem?_toArray];exact h2⟩
def tabS:List ByteArray:=[⟨#[]⟩,⟨#[93]⟩,⟨#[93,44,97]⟩]
theorem tabS_le:∀ t ∈ tabS,t.size<=3:=by unfold tabS;decide
theorem tabS_get {y:Int} (y0:0<=y) (y1:y<3):∃ t:ByteArray,t.size<=3/\(∀ h,([Value.string ⟨#[]⟩,.string ⟨#[93]⟩,.string ⟨#[93,44,97]⟩]:List Value)[y.toNat]'h=.string t)/\([Value.string ⟨#[]⟩,.string ⟨#[93]⟩,.string ⟨#[93,44,97]⟩]:List Value)[y.toNat]? = some (.string t)/\(#[Value.string ⟨#[]⟩,.string ⟨#[93]⟩,.string ⟨#[93,44,97]⟩]:Array Value)[y.toNat]? = some (.string t):=by
 obtain ⟨t,ht,hg⟩:=get_prop (C:=tabS) tabS_le y0 y1
 have hl:y.toNat<3:=by omega
 have hg':∀ h,([Value.string ⟨#[]⟩,.string ⟨#[93]⟩,.string ⟨#[93,44,97]⟩]:List Value)[y.toNat]'h=.string t:=hg
 have h2:([Value.string ⟨#[]⟩,.string ⟨#[93]⟩,.string ⟨#[93,44,97]⟩]:List Value)[y.toNat]? = some (.string t):=by rw [List.getElem?_eq_getElem (by simpa using hl),hg']
 exact ⟨t,ht,hg',h2,by rw [List.getElem?_toArray];exact h2⟩
theorem sz_le (t:ByteArray):sz t<=t.size:=List.countP_le_length (p:=Prsm.spc) (l:=t.data.toList)
theorem over {W w2:World} {rb:Nat} (hp:Post W rb w2):(∀ b o,¬ b=rb->b<W.heap.size->w2.cell? ⟨b,o,none⟩=W.cell? ⟨b,o,none⟩)/\(∀ b o,¬ b=rb->b<W.heap.size->w2.frozen? ⟨b,o,none⟩=W.frozen? ⟨b,o,none⟩) :=
 ⟨fun b o hn hl=>World.cell?_of_block (a:=⟨b,o,none⟩) (hp.2.block b hl (fun e=>hn (Option.some.inj e))),fun b o hn hl=>World.frozen?_of_block (a:=⟨b,o,none⟩) (hp.2.block b hl (fun e=>hn (Option.some.inj e)))⟩
theorem post_re {W W' w2:World} {rb:Nat} (h:Post W rb w2) (e1:W'.heap=W.heap) (e2:W'.os=W.os) (e3:W'.tape=W.tape) (e4:W'.output=W.output):Post W' rb w2 :=
 ⟨h.1,⟨h.2.os.trans e2.symm,h.2.tape.trans e3.symm,h.2.output.trans e4.symm,by rw [e1];exact h.2.size,fun k hk hne=>by rw [e1];exact h.2.block k (by rw [e1] at hk;exact hk) hne⟩⟩
theorem post_drew {W W':World} {rb:Nat} (h:Post W.drew rb W'):Post W rb W':=post_re h rfl rfl rfl rfl
theorem infix2_any (rb:Nat) (w:World) (h:Rd w rb):Calls prog 18 #[.pointer (some ⟨rb,0,none⟩),.int .i64 2] w (IQ 38 w rb) :=
 Cmps.infix_step rb 2 16 w h (by decide) (by decide) (by decide) (by decide) fun w h =>
  Cmps.infix_step rb 3 5 w h (by decide) (by decide) (by decide) (by decide) fun w h=>Cmps.infix_deep rb w h
theorem post_rd {W W':World} {rb:Nat} (h:Post W rb W'):Rd W' rb:=h.1
theorem rd_drew {W:World} {rb:Nat} (h:Rd W rb):Rd W.drew rb:=h.kept (fun _ _=>rfl)
theorem post_below {W W':World} {rb:Nat} (h:Rd W rb) (hb:Below W.heap.size W W'):Post W rb W' :=
 ⟨h.kept fun k hk=>hb.block k (Nat.lt_of_le_of_lt hk h.lt),⟨hb.os,hb.tape,hb.output,hb.size,fun k hk _=>hb.block k hk⟩⟩
def DF (w:World) (e:Ending) (w':World):Prop:=(∃ t:ByteArray,(80<t.size \/ sz t<30)/\t.size<=1000/\e=.returned (.string t))/\Below w.heap.size w w'
theorem drawFit_any (a:Option Addr) (len cap:Nat) (zs:List Int) (w:World) (h:Rdr.IsRow .u8 w a len cap zs) :
  Calls prog 5 #[.slice a len cap] w (DF w):=by
 have ho:=Rdr.open_any a len cap zs w h
 clear h
 go_enter func5,ntmps5
 go_wp2_with fail
 refine ho.mono ?_
 rintro e w1 ⟨rfl,hr,hb⟩
 have B1:Hid (Below w.heap.size w w1):=hb
 have HR:Hid (Rd w1 w.heap.size):=hr
 have hlt:=hr.lt
 clear hr hb ho
 generalize hB:w.heap.size=rb at HR B1 hlt |-
 have HBS:Hid (w.heap.size=rb):=hB
 clear hB
 go_wp2_with fail
 refine (Rdr.below_any _ _ _ HR.out (by decide) (by decide)).mono ?_
 rintro e w2 ⟨⟨x,x0,x1,rfl⟩,hp⟩
 have Q1:Hid (Post w2 rb w2):=Post.refl hp.1
 have B2:Hid (Below rb w w2):=B1.out.trans (hp.below (Nat.le_refl _) (by have:=B1.out.size;have:=HBS.out;omega))
 have hl2:rb<w2.heap.size:=hp.1.lt
 clear hp HR B1 hlt
 by_cases e0:x=0
 ·have b0:(x == 0)=true:=by simp [e0]
  go_wp2_with fail
  refine (DrawI.ins_any _ _ Q1.out.1).mono ?_
  rintro e w3 ⟨⟨c,b,m,c0,c1,hm,rfl⟩,p3⟩
  have P3:Hid (Post w2 rb w3):=p3
  have hz:=DrawZ.text_small c b m c0 c1
  have cs:=fun w=>Texj.specText_any c b m w
  clear p3 c0 c1 hm
  generalize Texi.textV c b m=s at *
  go_wp2_with fail
  refine (cs _).mono ?_
  rintro e w4 ⟨rfl,b4⟩
  have P4:Hid (Post w2 rb w4):=P3.out.trans (post_below P3.out.1 b4)
  clear b4 cs P3
  go_wp2_with fail
  refine (Hurs.hurt_any _ s _ P4.out.1 (by omega)).mono ?_
  rintro e w5 ⟨⟨u,hu,rfl⟩,p5⟩
  have P5:Hid (Post w2 rb w5):=P4.out.trans p5
  clear p5
  go_wp2_with fail
  go_ret
  unfold DF
  rw [HBS.out]
  exact ⟨⟨u,.inr (by have:=sz_le s;omega),by omega,rfl⟩,B2.out.trans (P5.out.below (Nat.le_refl _) (Nat.le_of_lt hl2))⟩
 have b0:(x == 0)=false:=by simp [e0]
 by_cases e1:x=1
 ·have b1:(x == 1)=true:=by simp [e1]
  have n1:¬ w2.heap.size=rb:=by omega
  have n2:¬ w2.heap.size+1=rb:=by omega
  clear e0 e1 x0 x1
  go_wp2_with fail
  go_region_with (first
   | (go_at_call_of 14 (Value.int .i64 3);refine (Rdr.below_any _ _ _ ?rd (by decide) (by decide)).mono ?_;(case rd=>first|with_reducible exact post_rd P4.out|with_reducible exact post_rd (P4.out.alloc _)|with_reducible exact post_rd ((P4.out.alloc _).alloc _));rintro e w5 ⟨⟨z,z0,z1,rfl⟩,hp5⟩;obtain ⟨v,hv,hh1,hh2,hh3⟩:=tabS_get z0 z1;obtain ⟨k5,f5⟩:=over hp5;have s5:=hp5.2.size;(try simp at s5);(try simp at k5);have q2:¬ 9223372036854775807<t.size+u.size+v.size:=(by omega);have H5:Hid (Post _ rb w5):=hp5;have P5h:Post w2 rb w5:=(by first|with_reducible exact P4.out.trans H5.out|with_reducible exact (P4.out.alloc _).trans H5.out|with_reducible exact ((P4.out.alloc _).alloc _).trans H5.out);have P5:Hid (Post w2 rb w5):=P5h;have n5:¬ w5.heap.size=rb:=(by omega);(try (have s5a:w2.heap.size<w5.heap.size:=by omega));(try (have s5b:w2.heap.size+1<w5.heap.size:=by omega));(try (have s5c:w3.heap.size<w5.heap.size:=by omega));(try (have s5d:w3.heap.size+1<w5.heap.size:=by omega));(try (have s5e:w4.heap.size<w5.heap.size:=by omega));(try (have s5f:w4.heap.size+1<w5.heap.size:=by omega));clear hp5 P5h f5)
   | (go_at_call 18;refine (infix2_any _ _ ?rd).mono ?_;(case rd=>first|with_reducible exact post_rd P3.out|with_reducible exact post_rd (P3.out.alloc _)|with_reducible exact post_rd ((P3.out.alloc _).alloc _));rintro e w4 ⟨⟨u,hu,rfl⟩,hp4⟩;have hu2:u.size<=38:=hu.2;obtain ⟨k4,f4⟩:=over hp4;have s4:=hp4.2.size;(try simp at s4);(try simp at k4);have q1:¬ 9223372036854775807<t.size+u.size:=(by omega);have HU:Hid (In 38 u):=hu;have H4:Hid (Post _ rb w4):=hp4;have P4h:Post w2 rb w4:=(by first|with_reducible exact P3.out.trans H4.out|with_reducible exact (P3.out.alloc _).trans H4.out|with_reducible exact ((P3.out.alloc _).alloc _).trans H4.out);have P4:Hid (Post w2 rb w4):=P4h;have n4:¬ w4.heap.size=rb:=(by omega);have n4b:¬ w4.heap.size+1=rb:=(by omega);(try (have s4a:w2.heap.size<w4.heap.size:=by omega));(try (have s4b:w2.heap.size+1<w4.heap.size:=by omega));(try (have s4c:w3.heap.size<w4.heap.size:=by omega));(try (have s4d:w3.heap.size+1<w4.heap.size:=by omega));clear hp4 P4h f4 hu)
   | (go_at_call_of 14 (Value.int .i64 6);refine (Rdr.below_any _ _ _ ?rd (by decide) (by decide)).mono ?_;(case rd=>first|with_reducible exact rd_drew (post_rd Q1.out)|with_reducible exact rd_drew (post_rd (Q1.out.alloc _))|with_reducible exact rd_drew (post_rd ((Q1.out.alloc _).alloc _)));rintro e w3 ⟨⟨y,y0,y1,rfl⟩,hp3⟩;obtain ⟨t,ht,hg1,hg2,hg3⟩:=tabP_get y0 y1;obtain ⟨k3,f3⟩:=over hp3;have s3:=hp3.2.size;(try simp at s3);(try simp at k3);have H3:Hid (Post _ rb w3):=hp3;have P3h:Post w2 rb w3:=(by first|with_reducible exact post_drew H3.out|with_reducible exact (Q1.out.alloc _).trans (post_drew H3.out)|with_reducible exact ((Q1.out.alloc _).alloc _).trans (post_drew H3.out));have P3:Hid (Post w2 rb w3):=P3h;have n3:¬ w3.heap.size=rb:=(by omega);have n3b:¬ w3.heap.size+1=rb:=(by omega);(try (have s3a:w2.heap.size<w3.heap.size:=by omega));(try (have s3b:w2.heap.size+1<w3.heap.size:=by omega));clear hp3 P3h f3)
   | fail)
  all_goals
   go_wp2_with fail
   go_ret
   unfold DF
   rw [HBS.out]
   have h1:=sz_le t
   have h2:=sz_le v
   have h3:11*(sz u+2)<=3*(38+6):=HU.out.1
   refine ⟨⟨t ++ u ++ v,.inr ?_,?_,rfl⟩,B2.out.trans (Post.below ?_ (Nat.le_refl _) (Nat.le_of_lt hl2))⟩
   ·rw [Cmps.sz_app,Cmps.sz_app];omega
   ·rw [ByteArray.size_append,ByteArray.size_append];omega
   ·first
     | with_reducible exact P5.out
     | with_reducible exact P5.out.alloc _
     | with_reducible exact (P5.out.alloc _).alloc _
 ·have b1:(x == 1)=false:=by simp [e1]
  go_wp2_with fail
  refine (DrawI.ins_any _ _ Q1.out.1).mono ?_
  rintro e w3 ⟨⟨c,b,m,c0,c1,hm,rfl⟩,p3⟩
  have P3:Hid (Post w2 rb w3):=p3
  have hz:=DrawZ.text_small c b m c0 c1
  have cs:=fun w=>Texj.specText_any c b m w
  clear p3 c0 c1 hm
  generalize Texi.textV c b m=s at *
  go_wp2_with fail
  refine (cs _).mono ?_
  rintro e w4 ⟨rfl,b4⟩
  have P4:Hid (Post w2 rb w4):=P3.out.trans (post_below P3.out.1 b4)
  clear b4 cs P3
  go_wp2_with fail
  go_ret
  unfold DF
  rw [HBS.out]
  exact ⟨⟨s,.inr (by have:=sz_le s;omega),by omega,rfl⟩,B2.out.trans (P4.out.below (Nat.le_refl _) (Nat.le_of_lt hl2))⟩
end Fiti
end Go.Proofs.YtbofcepdckpkkaaGreatDoor
