import Derived.Test.YtbofcepdckpkkaaGreatDoorP19
set_option linter.all false
set_option maxRecDepth 20000
set_option maxHeartbeats 8000000
open Go.ChangeShapes Go.WideShapes Go.ChangeAt Go.RowKit
open Go.Proofs.Tryz
namespace Go.Proofs.YtbofcepdckpkkaaGreatDoor
namespace DrawI
open Rdr (Rd Post)
open HoleX (n8 n16 e8 holeT holeP)
open HolI LenX InsX
def I64 (x:Int):Prop:=(Lit.int .i64 x).wf=true
theorem I64.small {x:Int} (h0:0<=x) (h1:x<=65535):I64 x:=Rdr.wf_small (by omega) (by omega)
theorem postB {w w':World} {rb:Nat} (h:Rd w rb) (b:Below w.heap.size w w'):Post w rb w' :=
 ⟨h.kept fun k hk=>b.block k (Nat.lt_of_le_of_lt hk h.lt),⟨b.os,b.tape,b.output,b.size,fun k hk _=>b.block k hk⟩⟩
theorem postSet {w w':World} {rb:Nat} (h:Post w rb w') (hr:rb<w.heap.size) {p:Addr} (hb:w.heap.size<=p.block) (v:Value):Post w rb (w'.setCell p v) :=
 ⟨h.1.kept fun k hk=>Below.heap_setCell _ _ _ _ (by omega),⟨h.2.os,h.2.tape,h.2.output,by simpa [World.setCell] using h.2.size,fun k hk hne=>(Below.heap_setCell _ _ _ _ (by omega)).trans (h.2.block k hk hne)⟩⟩
def Box (w:World) (b:Nat) (c:Int) (q:Bool) (m:Int):Prop:=w.cell? ⟨b,0,none⟩=some (.int .i64 c)/\w.cell? ⟨b,1,none⟩=some (.bool q)/\w.cell? ⟨b,2,none⟩=some (.int .i64 m)/\∀ i,w.frozen? ⟨b,i,none⟩=false
theorem Box.lt {w:World} {b:Nat} {c:Int} {q:Bool} {m:Int} (h:Box w b c q m):b<w.heap.size:=World.block_lt_of_cell? w ⟨b,0,none⟩ h.1
theorem Box.kept {w w':World} {b:Nat} {c:Int} {q:Bool} {m:Int} (h:Box w b c q m) (hk:w'.heap[b]? = w.heap[b]?):Box w' b c q m :=
 ⟨(World.cell?_of_block (a:=⟨b,0,none⟩) hk).trans h.1,(World.cell?_of_block (a:=⟨b,1,none⟩) hk).trans h.2.1,(World.cell?_of_block (a:=⟨b,2,none⟩) hk).trans h.2.2.1,fun i=>(World.frozen?_of_block (a:=⟨b,i,none⟩) hk).trans (h.2.2.2 i)⟩
theorem Box.new (w:World) (c:Int) (q:Bool) (m:Int) (T:TypeId):Box (w.alloc (.cells #[.int .i64 c,.bool q,.int .i64 m] T)) w.heap.size c q m :=
 ⟨by rw [World.cell?_alloc_new];rfl,by rw [World.cell?_alloc_new];rfl,by rw [World.cell?_alloc_new];rfl,fun i=>World.frozen?_alloc_new w _ T i⟩
theorem Box.alloc {w:World} {b:Nat} {c:Int} {q:Bool} {m:Int} (h:Box w b c q m) (o:Obj):Box (w.alloc o) b c q m:=h.kept (Below.heap_alloc _ _ _ h.lt)
theorem Box.post {w w':World} {rb b:Nat} {c:Int} {q:Bool} {m:Int} (h:Box w b c q m) (hp:Post w rb w') (hne:b ≠ rb):Box w' b c q m:=h.kept (hp.2.block b h.lt (fun e=>hne (Option.some.inj e)))
theorem Box.below {w w':World} {b:Nat} {c:Int} {q:Bool} {m:Int} (h:Box w b c q m) (hb:Below w.heap.size w w'):Box w' b c q m:=h.kept (hb.block b h.lt)
theorem Box.other {w:World} {b d i:Nat} {c:Int} {q:Bool} {m:Int} (h:Box w b c q m) (hne:b ≠ d) (v:Value):Box (w.setCell ⟨d,i,none⟩ v) b c q m:=h.kept (Below.heap_setCell _ _ _ _ hne)
theorem Box.put {w:World} {b:Nat} {c:Int} {q:Bool} {m:Int} (h:Box w b c q m) (x:Int):Box (w.setCell ⟨b,2,none⟩ (.int .i64 x)) b c q x :=
 ⟨(World.cell?_setCell_other w _ _ _ (by simp)).trans h.1,(World.cell?_setCell_other w _ _ _ (by simp)).trans h.2.1,World.cell?_setCell_same w _ _ h.2.2.1,fun i=>by rw [World.frozen?_setCell];exact h.2.2.2 i⟩
theorem ins_any (rb:Nat) (w:World) (h:Rd w rb) :
  Calls prog 17 #[.pointer (some ⟨rb,0,none⟩)] w fun e w'=>(∃ (c:Int) (b:Bool) (m:Int),0<=c/\c<=255/\I64 m/\e=.returned (.agg #[.int .i64 c,.bool b,.int .i64 m]))/\Post w rb w':=by
 have H:Hid (Rd w rb):=h
 clear h
 go_enter func17,ntmps17
 go_wp2_with fail
 refine (Rdr.below_any _ _ _ ((Post.refl H.out).alloc _).1 (by decide) (by decide)).mono ?_
 rintro e w1 ⟨⟨c,c0,c1,rfl⟩,p1⟩
 go_wp2_with fail
 refine (Rdr.once_any _ _ _ p1.1 (by decide) (by decide)).mono ?_
 rintro e w2 ⟨⟨q,rfl⟩,p2⟩
 have HC:Hid (0<=c/\c<=255):=⟨c0,by omega⟩
 have hlt:=H.out.lt
 have BR:Hid (Box w2 w.heap.size 0 false 0):=((Box.new w 0 false 0 _).post p1 (Nat.ne_of_gt hlt)).post p2 (Nat.ne_of_gt hlt)
 have PW:Hid (Post w rb w2):=(((Post.refl H.out).alloc _).trans p1).trans p2
 have HN:Hid (rb<w.heap.size/\rb ≠ w2.heap.size/\w.heap.size<w2.heap.size):=⟨hlt,by have:=BR.out.lt;omega,BR.out.lt⟩
 have ct:=fun w=>Tmpl.template_any c q w HC.out.1 HC.out.2
 have tz:=Leng.tmpl_le c q HC.out.1 HC.out.2
 have ch:=fun w=>HoleX.hole_any (Tmpl.tmplS c q) w (by omega)
 unfold HoleX.ret at ch
 have hcs:=LenX.holeT_cases (Tmpl.tmplS c q)
 generalize holeP (Tmpl.tmplS c q)=V at ch
 generalize holeT (Tmpl.tmplS c q)=G at ch hcs
 generalize Tmpl.tmplS c q=T at ct ch
 clear tz hlt p1 p2 c0 c1
 go_wp2_with fail
 refine (ct _).mono ?_
 rintro e w3 ⟨rfl,b3⟩
 have BI:Hid (Box w3 w2.heap.size c q 0):=(Box.new w2 c q 0 _).below b3
 have BR:Hid (Box w3 w.heap.size 0 false 0):=(BR.out.alloc _).below b3
 have PW:Hid (Post w rb w3):=(PW.out.alloc _).trans (postB (PW.out.alloc _).1 b3)
 clear b3 ct
 generalize w2.heap.size=ib at BI HN
 obtain ⟨i0,i1,i2,iff⟩:=BI.out
 obtain ⟨r0,r1,r2,rf⟩:=BR.out
 have if2:=iff 2
 have rf0:=rf 0
 have rf1:=rf 1
 have rf2:=rf 2
 clear iff rf
 go_wp2_with fail
 refine (ch _).mono ?_
 rintro e w4 ⟨rfl,b4⟩
 clear i0 i1 i2 if2 r0 r1 r2 rf0 rf1 rf2
 have BI:=zHd (BI.out.below b4)
 have BR:=zHd (BR.out.below b4)
 have PW:Hid (Post w rb w4):=PW.out.trans (postB PW.out.1 b4)
 clear b4 ch
 obtain ⟨i0,i1,i2,iff⟩:=BI.out
 obtain ⟨r0,r1,r2,rf⟩:=BR.out
 have if2:=iff 2
 have rf0:=rf 0
 have rf1:=rf 1
 have rf2:=rf 2
 clear iff rf
 rcases hcs with rfl|rfl|rfl|rfl
 ·go_wp2_with fail
  refine (Rdr.byte_any _ _ PW.out.1).mono ?_
  rintro e w5 ⟨⟨x,x0,x1,rfl⟩,p5⟩
  clear i0 i1 i2 if2 r0 r1 r2 rf0 rf1 rf2
  have HX:Hid (I64 x):=I64.small x0 (by omega)
  have hwx:IntKind.i64.wrap x=x:=by rw [IntKind.wrap_i64];omega
  have BI:Hid (Box w5 ib c q 0):=BI.out.post p5 (Ne.symm HN.out.2.1)
  have BR:Hid (Box w5 w.heap.size 0 false 0):=BR.out.post p5 (Nat.ne_of_gt HN.out.1)
  have PW:Hid (Post w rb w5):=PW.out.trans p5
  clear p5 x0 x1
  obtain ⟨i0,i1,i2,iff⟩:=BI.out
  obtain ⟨r0,r1,r2,rf⟩:=BR.out
  have if2:=iff 2
  have rf0:=rf 0
  have rf1:=rf 1
  have rf2:=rf 2
  clear iff rf
  go_wp2_with fail
  clear i0 i1 i2 if2 r0 r1 r2 rf0 rf1 rf2
  have BR:Hid (Box (w5.setCell ⟨ib,2,none⟩ (.int .i64 x)) w.heap.size 0 false 0):=BR.out.other (Nat.ne_of_lt HN.out.2.2) _
  have BI:Hid (Box (w5.setCell ⟨ib,2,none⟩ (.int .i64 x)) ib c q x):=BI.out.put x
  have PW:Hid (Post w rb (w5.setCell ⟨ib,2,none⟩ (.int .i64 x))):=postSet PW.out HN.out.1 (p:=⟨ib,2,none⟩) (Nat.le_of_lt HN.out.2.2) _
  generalize w5.setCell ⟨ib,2,none⟩ (.int .i64 x)=w5s at BR BI PW |-
  obtain ⟨i0,i1,i2,iff⟩:=BI.out
  obtain ⟨r0,r1,r2,rf⟩:=BR.out
  have if2:=iff 2
  have rf0:=rf 0
  have rf1:=rf 1
  have rf2:=rf 2
  clear iff rf
  refine (Rdr.once_any _ _ _ PW.out.1 (by decide) (by decide)).mono ?_
  rintro e w6 ⟨⟨q2,rfl⟩,p6⟩
  clear i0 i1 i2 if2 r0 r1 r2 rf0 rf1 rf2
  have BI:Hid (Box w6 ib c q x):=BI.out.post p6 (Ne.symm HN.out.2.1)
  have BR:Hid (Box w6 w.heap.size 0 false 0):=BR.out.post p6 (Nat.ne_of_gt HN.out.1)
  have PW:Hid (Post w rb w6):=PW.out.trans p6
  clear p6
  obtain ⟨i0,i1,i2,iff⟩:=BI.out
  obtain ⟨r0,r1,r2,rf⟩:=BR.out
  have if2:=iff 2
  have rf0:=rf 0
  have rf1:=rf 1
  have rf2:=rf 2
  clear iff rf
  cases q2 with
  | false =>
   go_wp2
   exact bodyPost_ret (v:=.agg #[.int .i64 c,.bool q,.int .i64 x]) (by simp [results,results17,go_sem,r0,r1,r2]) rfl ⟨⟨c,q,x,HC.out.1,HC.out.2,HX.out,rfl⟩,postSet (postSet (postSet PW.out HN.out.1 (p:=⟨w.heap.size,0,none⟩) (Nat.le_refl _) _) HN.out.1 (p:=⟨w.heap.size,1,none⟩) (Nat.le_refl _) _) HN.out.1 (p:=⟨w.heap.size,2,none⟩) (Nat.le_refl _) _⟩
  | true =>
   go_wp2_with fail
   refine (Rdr.off_any _ _ _ _ PW.out.1 (by decide) (by decide) (by decide)).mono ?_
   rintro e w7 ⟨⟨y,hy,rfl⟩,p7⟩
   clear i0 i1 i2 if2 r0 r1 r2 rf0 rf1 rf2
   have HY:Hid (I64 y):=hy
   clear hy
   have BI:Hid (Box w7 ib c q x):=BI.out.post p7 (Ne.symm HN.out.2.1)
   have BR:Hid (Box w7 w.heap.size 0 false 0):=BR.out.post p7 (Nat.ne_of_gt HN.out.1)
   have PW:Hid (Post w rb (w7.setCell ⟨ib,2,none⟩ (.int .i64 y))):=postSet (PW.out.trans p7) HN.out.1 (p:=⟨ib,2,none⟩) (Nat.le_of_lt HN.out.2.2) _
   clear p7
   obtain ⟨i0,i1,i2,iff⟩:=BI.out
   obtain ⟨r0,r1,r2,rf⟩:=BR.out
   have if2:=iff 2
   have rf0:=rf 0
   have rf1:=rf 1
   have rf2:=rf 2
   clear iff rf
   have hne:¬ ib=w.heap.size:=Nat.ne_of_gt HN.out.2.2
   have hne2:¬ w.heap.size=ib:=Nat.ne_of_lt HN.out.2.2
   go_wp2
   exact bodyPost_ret (v:=.agg #[.int .i64 c,.bool q,.int .i64 y]) (by simp [results,results17,go_sem,r0,r1,r2]) rfl ⟨⟨c,q,y,HC.out.1,HC.out.2,HY.out,rfl⟩,postSet (postSet (postSet PW.out HN.out.1 (p:=⟨w.heap.size,0,none⟩) (Nat.le_refl _) _) HN.out.1 (p:=⟨w.heap.size,1,none⟩) (Nat.le_refl _) _) HN.out.1 (p:=⟨w.heap.size,2,none⟩) (Nat.le_refl _) _⟩
 ·go_wp2_with fail
  refine (Rdr.below_any _ _ _ PW.out.1 (by decide) (by decide)).mono ?_
  rintro e w5 ⟨⟨x,x0,x1,rfl⟩,p5⟩
  clear i0 i1 i2 if2 r0 r1 r2 rf0 rf1 rf2
  have HX:Hid (I64 x):=I64.small x0 (by omega)
  have hwx:IntKind.i64.wrap x=x:=by rw [IntKind.wrap_i64];omega
  have BI:Hid (Box w5 ib c q 0):=BI.out.post p5 (Ne.symm HN.out.2.1)
  have BR:Hid (Box w5 w.heap.size 0 false 0):=BR.out.post p5 (Nat.ne_of_gt HN.out.1)
  have PW:Hid (Post w rb w5):=PW.out.trans p5
  clear p5 x0 x1
  obtain ⟨i0,i1,i2,iff⟩:=BI.out
  obtain ⟨r0,r1,r2,rf⟩:=BR.out
  have if2:=iff 2
  have rf0:=rf 0
  have rf1:=rf 1
  have rf2:=rf 2
  clear iff rf
  go_wp2_with fail
  clear i0 i1 i2 if2 r0 r1 r2 rf0 rf1 rf2
  have BR:Hid (Box (w5.setCell ⟨ib,2,none⟩ (.int .i64 x)) w.heap.size 0 false 0):=BR.out.other (Nat.ne_of_lt HN.out.2.2) _
  have BI:Hid (Box (w5.setCell ⟨ib,2,none⟩ (.int .i64 x)) ib c q x):=BI.out.put x
  have PW:Hid (Post w rb (w5.setCell ⟨ib,2,none⟩ (.int .i64 x))):=postSet PW.out HN.out.1 (p:=⟨ib,2,none⟩) (Nat.le_of_lt HN.out.2.2) _
  generalize w5.setCell ⟨ib,2,none⟩ (.int .i64 x)=w5s at BR BI PW |-
  obtain ⟨i0,i1,i2,iff⟩:=BI.out
  obtain ⟨r0,r1,r2,rf⟩:=BR.out
  have if2:=iff 2
  have rf0:=rf 0
  have rf1:=rf 1
  have rf2:=rf 2
  clear iff rf
  refine (Rdr.once_any _ _ _ PW.out.1 (by decide) (by decide)).mono ?_
  rintro e w6 ⟨⟨q2,rfl⟩,p6⟩
  clear i0 i1 i2 if2 r0 r1 r2 rf0 rf1 rf2
  have BI:Hid (Box w6 ib c q x):=BI.out.post p6 (Ne.symm HN.out.2.1)
  have BR:Hid (Box w6 w.heap.size 0 false 0):=BR.out.post p6 (Nat.ne_of_gt HN.out.1)
  have PW:Hid (Post w rb w6):=PW.out.trans p6
  clear p6
  obtain ⟨i0,i1,i2,iff⟩:=BI.out
  obtain ⟨r0,r1,r2,rf⟩:=BR.out
  have if2:=iff 2
  have rf0:=rf 0
  have rf1:=rf 1
  have rf2:=rf 2
  clear iff rf
  cases q2 with
  | false =>
   go_wp2
   exact bodyPost_ret (v:=.agg #[.int .i64 c,.bool q,.int .i64 x]) (by simp [results,results17,go_sem,r0,r1,r2]) rfl ⟨⟨c,q,x,HC.out.1,HC.out.2,HX.out,rfl⟩,postSet (postSet (postSet PW.out HN.out.1 (p:=⟨w.heap.size,0,none⟩) (Nat.le_refl _) _) HN.out.1 (p:=⟨w.heap.size,1,none⟩) (Nat.le_refl _) _) HN.out.1 (p:=⟨w.heap.size,2,none⟩) (Nat.le_refl _) _⟩
  | true =>
   go_wp2_with fail
   refine (Rdr.off_any _ _ _ _ PW.out.1 (by decide) (by decide) (by decide)).mono ?_
   rintro e w7 ⟨⟨y,hy,rfl⟩,p7⟩
   clear i0 i1 i2 if2 r0 r1 r2 rf0 rf1 rf2
   have HY:Hid (I64 y):=hy
   clear hy
   have BI:Hid (Box w7 ib c q x):=BI.out.post p7 (Ne.symm HN.out.2.1)
   have BR:Hid (Box w7 w.heap.size 0 false 0):=BR.out.post p7 (Nat.ne_of_gt HN.out.1)
   have PW:Hid (Post w rb (w7.setCell ⟨ib,2,none⟩ (.int .i64 y))):=postSet (PW.out.trans p7) HN.out.1 (p:=⟨ib,2,none⟩) (Nat.le_of_lt HN.out.2.2) _
   clear p7
   obtain ⟨i0,i1,i2,iff⟩:=BI.out
   obtain ⟨r0,r1,r2,rf⟩:=BR.out
   have if2:=iff 2
   have rf0:=rf 0
   have rf1:=rf 1
   have rf2:=rf 2
   clear iff rf
   have hne:¬ ib=w.heap.size:=Nat.ne_of_gt HN.out.2.2
   have hne2:¬ w.heap.size=ib:=Nat.ne_of_lt HN.out.2.2
   go_wp2
   exact bodyPost_ret (v:=.agg #[.int .i64 c,.bool q,.int .i64 y]) (by simp [results,results17,go_sem,r0,r1,r2]) rfl ⟨⟨c,q,y,HC.out.1,HC.out.2,HY.out,rfl⟩,postSet (postSet (postSet PW.out HN.out.1 (p:=⟨w.heap.size,0,none⟩) (Nat.le_refl _) _) HN.out.1 (p:=⟨w.heap.size,1,none⟩) (Nat.le_refl _) _) HN.out.1 (p:=⟨w.heap.size,2,none⟩) (Nat.le_refl _) _⟩
 ·go_wp2_with fail
  refine (Rdr.byte_any _ _ PW.out.1).mono ?_
  rintro e w5 ⟨⟨x,x0,x1,rfl⟩,p5⟩
  clear i0 i1 i2 if2 r0 r1 r2 rf0 rf1 rf2
  have HX:Hid (I64 x):=I64.small x0 (by omega)
  have hwx:IntKind.i64.wrap x=x:=by rw [IntKind.wrap_i64];omega
  have BI:Hid (Box w5 ib c q 0):=BI.out.post p5 (Ne.symm HN.out.2.1)
  have BR:Hid (Box w5 w.heap.size 0 false 0):=BR.out.post p5 (Nat.ne_of_gt HN.out.1)
  have PW:Hid (Post w rb w5):=PW.out.trans p5
  clear p5 x0 x1
  obtain ⟨i0,i1,i2,iff⟩:=BI.out
  obtain ⟨r0,r1,r2,rf⟩:=BR.out
  have if2:=iff 2
  have rf0:=rf 0
  have rf1:=rf 1
  have rf2:=rf 2
  clear iff rf
  go_wp2_with fail
  clear i0 i1 i2 if2 r0 r1 r2 rf0 rf1 rf2
  have BR:Hid (Box (w5.setCell ⟨ib,2,none⟩ (.int .i64 x)) w.heap.size 0 false 0):=BR.out.other (Nat.ne_of_lt HN.out.2.2) _
  have BI:Hid (Box (w5.setCell ⟨ib,2,none⟩ (.int .i64 x)) ib c q x):=BI.out.put x
  have PW:Hid (Post w rb (w5.setCell ⟨ib,2,none⟩ (.int .i64 x))):=postSet PW.out HN.out.1 (p:=⟨ib,2,none⟩) (Nat.le_of_lt HN.out.2.2) _
  generalize w5.setCell ⟨ib,2,none⟩ (.int .i64 x)=w5s at BR BI PW |-
  obtain ⟨i0,i1,i2,iff⟩:=BI.out
  obtain ⟨r0,r1,r2,rf⟩:=BR.out
  have if2:=iff 2
  have rf0:=rf 0
  have rf1:=rf 1
  have rf2:=rf 2
  clear iff rf
  refine (Rdr.once_any _ _ _ PW.out.1 (by decide) (by decide)).mono ?_
  rintro e w6 ⟨⟨q2,rfl⟩,p6⟩
  clear i0 i1 i2 if2 r0 r1 r2 rf0 rf1 rf2
  have BI:Hid (Box w6 ib c q x):=BI.out.post p6 (Ne.symm HN.out.2.1)
  have BR:Hid (Box w6 w.heap.size 0 false 0):=BR.out.post p6 (Nat.ne_of_gt HN.out.1)
  have PW:Hid (Post w rb w6):=PW.out.trans p6
  clear p6
  obtain ⟨i0,i1,i2,iff⟩:=BI.out
  obtain ⟨r0,r1,r2,rf⟩:=BR.out
  have if2:=iff 2
  have rf0:=rf 0
  have rf1:=rf 1
  have rf2:=rf 2
  clear iff rf
  cases q2 with
  | false =>
   go_wp2
   exact bodyPost_ret (v:=.agg #[.int .i64 c,.bool q,.int .i64 x]) (by simp [results,results17,go_sem,r0,r1,r2]) rfl ⟨⟨c,q,x,HC.out.1,HC.out.2,HX.out,rfl⟩,postSet (postSet (postSet PW.out HN.out.1 (p:=⟨w.heap.size,0,none⟩) (Nat.le_refl _) _) HN.out.1 (p:=⟨w.heap.size,1,none⟩) (Nat.le_refl _) _) HN.out.1 (p:=⟨w.heap.size,2,none⟩) (Nat.le_refl _) _⟩
  | true =>
   go_wp2_with fail
   refine (Rdr.off_any _ _ _ _ PW.out.1 (by decide) (by decide) (by decide)).mono ?_
   rintro e w7 ⟨⟨y,hy,rfl⟩,p7⟩
   clear i0 i1 i2 if2 r0 r1 r2 rf0 rf1 rf2
   have HY:Hid (I64 y):=hy
   clear hy
   have BI:Hid (Box w7 ib c q x):=BI.out.post p7 (Ne.symm HN.out.2.1)
   have BR:Hid (Box w7 w.heap.size 0 false 0):=BR.out.post p7 (Nat.ne_of_gt HN.out.1)
   have PW:Hid (Post w rb (w7.setCell ⟨ib,2,none⟩ (.int .i64 y))):=postSet (PW.out.trans p7) HN.out.1 (p:=⟨ib,2,none⟩) (Nat.le_of_lt HN.out.2.2) _
   clear p7
   obtain ⟨i0,i1,i2,iff⟩:=BI.out
   obtain ⟨r0,r1,r2,rf⟩:=BR.out
   have if2:=iff 2
   have rf0:=rf 0
   have rf1:=rf 1
   have rf2:=rf 2
   clear iff rf
   have hne:¬ ib=w.heap.size:=Nat.ne_of_gt HN.out.2.2
   have hne2:¬ w.heap.size=ib:=Nat.ne_of_lt HN.out.2.2
   go_wp2
   exact bodyPost_ret (v:=.agg #[.int .i64 c,.bool q,.int .i64 y]) (by simp [results,results17,go_sem,r0,r1,r2]) rfl ⟨⟨c,q,y,HC.out.1,HC.out.2,HY.out,rfl⟩,postSet (postSet (postSet PW.out HN.out.1 (p:=⟨w.heap.size,0,none⟩) (Nat.le_refl _) _) HN.out.1 (p:=⟨w.heap.size,1,none⟩) (Nat.le_refl _) _) HN.out.1 (p:=⟨w.heap.size,2,none⟩) (Nat.le_refl _) _⟩
 ·go_wp2_with fail
  refine (Rdr.once_any _ _ _ PW.out.1 (by decide) (by decide)).mono ?_
  rintro e w6 ⟨⟨q2,rfl⟩,p6⟩
  clear i0 i1 i2 if2 r0 r1 r2 rf0 rf1 rf2
  have BI:Hid (Box w6 ib c q 0):=BI.out.post p6 (Ne.symm HN.out.2.1)
  have BR:Hid (Box w6 w.heap.size 0 false 0):=BR.out.post p6 (Nat.ne_of_gt HN.out.1)
  have PW:Hid (Post w rb w6):=PW.out.trans p6
  clear p6
  obtain ⟨i0,i1,i2,iff⟩:=BI.out
  obtain ⟨r0,r1,r2,rf⟩:=BR.out
  have if2:=iff 2
  have rf0:=rf 0
  have rf1:=rf 1
  have rf2:=rf 2
  clear iff rf
  cases q2 with
  | false =>
   go_wp2
   exact bodyPost_ret (v:=.agg #[.int .i64 c,.bool q,.int .i64 0]) (by simp [results,results17,go_sem,r0,r1,r2]) rfl ⟨⟨c,q,0,HC.out.1,HC.out.2,I64.small (by omega) (by omega),rfl⟩,postSet (postSet (postSet PW.out HN.out.1 (p:=⟨w.heap.size,0,none⟩) (Nat.le_refl _) _) HN.out.1 (p:=⟨w.heap.size,1,none⟩) (Nat.le_refl _) _) HN.out.1 (p:=⟨w.heap.size,2,none⟩) (Nat.le_refl _) _⟩
  | true =>
   go_wp2_with fail
   refine (Rdr.off_any _ _ _ _ PW.out.1 (by decide) (by decide) (by decide)).mono ?_
   rintro e w7 ⟨⟨y,hy,rfl⟩,p7⟩
   clear i0 i1 i2 if2 r0 r1 r2 rf0 rf1 rf2
   have HY:Hid (I64 y):=hy
   clear hy
   have BI:Hid (Box w7 ib c q 0):=BI.out.post p7 (Ne.symm HN.out.2.1)
   have BR:Hid (Box w7 w.heap.size 0 false 0):=BR.out.post p7 (Nat.ne_of_gt HN.out.1)
   have PW:Hid (Post w rb (w7.setCell ⟨ib,2,none⟩ (.int .i64 y))):=postSet (PW.out.trans p7) HN.out.1 (p:=⟨ib,2,none⟩) (Nat.le_of_lt HN.out.2.2) _
   clear p7
   obtain ⟨i0,i1,i2,iff⟩:=BI.out
   obtain ⟨r0,r1,r2,rf⟩:=BR.out
   have if2:=iff 2
   have rf0:=rf 0
   have rf1:=rf 1
   have rf2:=rf 2
   clear iff rf
   have hne:¬ ib=w.heap.size:=Nat.ne_of_gt HN.out.2.2
   have hne2:¬ w.heap.size=ib:=Nat.ne_of_lt HN.out.2.2
   go_wp2
   exact bodyPost_ret (v:=.agg #[.int .i64 c,.bool q,.int .i64 y]) (by simp [results,results17,go_sem,r0,r1,r2]) rfl ⟨⟨c,q,y,HC.out.1,HC.out.2,HY.out,rfl⟩,postSet (postSet (postSet PW.out HN.out.1 (p:=⟨w.heap.size,0,none⟩) (Nat.le_refl _) _) HN.out.1 (p:=⟨w.heap.size,1,none⟩) (Nat.le_refl _) _) HN.out.1 (p:=⟨w.heap.size,2,none⟩) (Nat.le_refl _) _⟩
theorem drawInsOk_any (a:Option Addr) (len cap:Nat) (zs:List Int) (w:World) (h:Rdr.IsRow .u8 w a len cap zs) :
  Calls prog 31 #[.slice a len cap] w fun e w'=>(∃ (c:Int) (b:Bool) (m:Int),0<=c/\c<=255/\I64 m/\e=.returned (.agg #[.int .i64 c,.bool b,.int .i64 m]))/\Below w.heap.size w w':=by
 have H:Hid (Rdr.IsRow .u8 w a len cap zs):=h
 clear h
 go_enter func31,ntmps31
 go_wp2_with fail
 refine (Rdr.open_any _ _ _ _ _ (H.out.below (zAl _ _))).mono ?_
 rintro e w1 ⟨rfl,hr,hb⟩
 rw [World.size_alloc] at hr hb |-
 have HR:Hid (Rd w1 (w.heap.size+1)):=hr
 have BR:Hid (Box w1 w.heap.size 0 false 0):=(Box.new w 0 false 0 _).kept (hb.block _ (by omega))
 have B1:Hid (Below w.heap.size w w1):=(zAl _ _).trans (hb.mono (Nat.le_succ _))
 clear hr hb
 go_wp2_with fail
 refine (ins_any _ _ HR.out).mono ?_
 rintro e w2 ⟨⟨c,b,m,c0,c1,hm,rfl⟩,p2⟩
 have BR:Hid (Box w2 w.heap.size 0 false 0):=BR.out.post p2 (by omega)
 have HC:Hid (0<=c/\c<=255/\I64 m):=⟨c0,c1,hm⟩
 have B2:Hid (Below w.heap.size w w2):=B1.out.trans (p2.below (Nat.le_succ _) (Nat.le_of_lt HR.out.lt))
 clear c0 c1 hm p2 B1 HR
 obtain ⟨r0,r1,r2,rf⟩:=BR.out
 have rf0:=rf 0
 have rf1:=rf 1
 have rf2:=rf 2
 clear rf
 go_wp2
 exact bodyPost_ret (v:=.agg #[.int .i64 c,.bool b,.int .i64 m]) (by simp [results,results31,go_sem,r0,r1,r2]) rfl ⟨⟨c,b,m,HC.out.1,HC.out.2.1,HC.out.2.2,rfl⟩,((B2.out.setCell (p:=⟨w.heap.size,0,none⟩) (Nat.le_refl _) _).setCell (p:=⟨w.heap.size,1,none⟩) (Nat.le_refl _) _).setCell (p:=⟨w.heap.size,2,none⟩) (Nat.le_refl _) _⟩
end DrawI
end Go.Proofs.YtbofcepdckpkkaaGreatDoor
