import Derived.Test.YtickfkphhngagaaGreatDoorP32
import Derived.Test.YtickfkphhngagaaGreatDoorP30
import Derived.Test.YtickfkphhngagaaGreatDoorP28
set_option linter.all false
set_option maxRecDepth 20000
set_option maxHeartbeats 8000000
open Go.ChangeShapes Go.WideShapes Go.ChangeAt Go.RowKit
open Go.Proofs.Tryz
namespace Go.Proofs.YtickfkphhngagaaGreatDoor
namespace Objc
open Go.Deep
open Rown Rowo Rliq Rlip Drob Otxp Otxq Obje Seco Objd
open Rdr (Rd Post)
theorem below_row' {N:Nat} {w w2:World} {b:Nat} (h:Below N w w2) (hb:N<=b) (cs:Array Value):Below N w (w2.setRow b cs) :=
 ⟨h.os,h.tape,h.output,by rw [setRow_size];exact h.size,fun k hk=>(setRow_other _ _ _ _ (by omega)).trans (h.block k hk)⟩
def DX (w:World) (e:Ending) (w':World):Prop:=(∃ (x:Secr.X) (a5:Option Addr) (c5:Nat),e=.returned (.agg #[.string x.f0,.int .i64 x.f1,.int .i64 x.f2,.int .i64 x.f3,.string x.f4,.slice a5 x.f5.length c5])/\Secr.Has w.heap.size w' x a5/\Xn x)/\Below w.heap.size w w'
theorem dx_of {w w':World} {base:Nat} {s:Sd} (h:Sw w' base s) (hbs:w.heap.size<=base) (hx:Xn s.x) (hb:Below w.heap.size w w'):DX w (.returned (.agg (Secd.scells s))) w':=by
 obtain ⟨pa,pc,hpv⟩:=own_slice h.pat
 refine ⟨⟨s.x,pa,pc,?_,(sec_has h hx hpv).mono hbs,hx⟩,hb⟩
 show Ending.returned (.agg #[_,_,_,_,_,s.pv])=_
 rw [hpv]
 show _=Ending.returned (.agg #[_,_,_,_,_,.slice pa (s.ps.map Pd.x).length pc])
 rw [List.length_map]
 rfl
theorem drawSection_any (a:Option Addr) (len cap:Nat) (zs:List Int) (w:World) (h:Rdr.IsRow .u8 w a len cap zs) :
  Calls prog 13 #[.slice a len cap] w (DX w):=by
 obtain ⟨W0,hW0⟩ : ∃ W0,W0=w.alloc (.cells Secd.zcells 38):=⟨_,rfl⟩
 have B0:Hid (Below w.heap.size w W0):=(by rw [hW0];exact zAl _ _)
 have Z0:Hid (W0.heap.size=w.heap.size+1):=(by show _=_;rw [hW0];simp)
 have R0:Hid (W0.heap[w.heap.size]? = some (.cells Secd.zcells 38 (0,0))):=(by rw [hW0];exact (MapKept.heap_alloc w _).1)
 have ho:=Rdr.open_any a len cap zs W0 (h.below B0.out)
 clear h
 go_enter func13,ntmps13
 go_upto_region 1 with fail
 rw [<- hW0]
 clear hW0
 go_wp2_with fail
 refine ho.mono ?_
 rintro e w1 ⟨rfl,hr,hb⟩
 have R:Hid (Rd w1 W0.heap.size/\Below w.heap.size w w1):=⟨hr,B0.out.trans (hb.mono B0.out.size)⟩
 have R1:Hid (w1.heap[w.heap.size]? = some (.cells Secd.zcells 38 (0,0))):=(hb.block _ (by rw [Z0.out];omega)).trans R0.out
 have L1:Hid (W0.heap.size<=w1.heap.size):=hb.size
 clear hr hb ho R0
 go_wp2_with fail
 refine (Secd.section_any _ _ R.out.1).mono ?_
 rintro e w2 ⟨⟨s,rfl,hs,hx⟩,hp⟩
 rename_i hK
 refine hK _ _ ?_
 clear hK
 have R2:Hid (w2.heap[w.heap.size]? = some (.cells Secd.zcells 38 (0,0))):=(hp.2.block _ (by have:=L1.out;have:=Z0.out;omega) (fun e=>by have:=Option.some.inj e;have:=Z0.out;omega)).trans R1.out
 have h1c:(Secd.scells s).all (·.oneCell')=true:=by
  obtain ⟨pa,pc,hpv⟩:=own_slice hs.pat
  have hpv:s.pv=.slice pa s.ps.length pc:=hpv
  simp [Value.oneCell',hpv]
 have D:Hid (DX w (.returned (.agg (Secd.scells s))) (w2.setRow w.heap.size (Secd.scells s))):=dx_of (hs.other (Secd.grow_setRow w2 w.heap.size _) fun _ _ _ _ _ _ q=>own_post q (by have:=L1.out;have:=Z0.out;omega)) (by have:=L1.out;have:=Z0.out;omega) hx (below_row' (R.out.2.trans (hp.below (by have:=Z0.out;omega) (Nat.le_of_lt R.out.1.lt))) (Nat.le_refl _) _)
 clear hs hx hp
 refine wpList_store_row rfl 38 _ _ rfl w.heap.size (Secd.scells s) rfl rfl _ _ R2.out Secd.infoS6 rfl h1c ?_
 go_wp2
 exact bodyPost_ret (v:=.agg (Secd.scells s)) (results_cell_row results13 _ _ w.heap.size _ _ (0,0) _ rfl (setRow_heap _ _ _ _ _ _ R2.out) underlying38 rfl Secd.infoS6) rfl D.out
def DO (w:World) (e:Ending) (w':World):Prop:=(∃ (x:Objr.X) (a0:Option Addr) (c0:Nat) (a1:Option Addr) (c1:Nat) (a2:Option Addr) (c2:Nat),e=.returned (.agg #[.slice a0 x.f0.length c0,.slice a1 x.f1.length c1,.slice a2 x.f2.length c2])/\Objr.Has w.heap.size w' x a0 a1 a2/\Dn x)/\Below w.heap.size w w'
theorem do_of {w w':World} {base:Nat} {ss:List Sd} {ys:List Osyr.X} {aa:List Ad} {a0 a1 a2:Option Addr} {c0 c1 c2:Nat} (h:Dw w' base (.slice a0 ss.length c0) ss (.slice a1 ys.length c1) ys (.slice a2 aa.length c2) aa) (hbs:w.heap.size<=base) (hs:Dn (objX ss ys aa)) (hb:Below w.heap.size w w') :
  DO w (.returned (.agg #[.slice a0 ss.length c0,.slice a1 ys.length c1,.slice a2 aa.length c2])) w':=by
 refine ⟨⟨objX ss ys aa,a0,c0,a1,c1,a2,c2,?_,(has_dw h hs).mono hbs,hs⟩,hb⟩
 show _=Ending.returned (.agg #[.slice a0 (ss.map Sd.x).length c0,.slice a1 ys.length c1,.slice a2 (aa.map Ad.x).length c2])
 rw [List.length_map,List.length_map]
theorem drawObjectOk_any (a:Option Addr) (len cap:Nat) (zs:List Int) (w:World) (h:Rdr.IsRow .u8 w a len cap zs) :
  Calls prog 35 #[.slice a len cap] w (DO w):=by
 obtain ⟨W0,hW0⟩ : ∃ W0,W0=w.alloc (.cells Objd.zO 26):=⟨_,rfl⟩
 have B0:Hid (Below w.heap.size w W0):=(by rw [hW0];exact zAl _ _)
 have Z0:Hid (W0.heap.size=w.heap.size+1):=(by show _=_;rw [hW0];simp)
 have R0:Hid (W0.heap[w.heap.size]? = some (.cells Objd.zO 26 (0,0))):=(by rw [hW0];exact (MapKept.heap_alloc w _).1)
 have ho:=Rdr.open_any a len cap zs W0 (h.below B0.out)
 clear h
 go_enter func35,ntmps35
 go_upto_region 1 with fail
 rw [<- hW0]
 clear hW0
 go_wp2_with fail
 refine ho.mono ?_
 rintro e w1 ⟨rfl,hr,hb⟩
 have R:Hid (Rd w1 W0.heap.size/\Below w.heap.size w w1):=⟨hr,B0.out.trans (hb.mono B0.out.size)⟩
 have R1:Hid (w1.heap[w.heap.size]? = some (.cells Objd.zO 26 (0,0))):=(hb.block _ (by rw [Z0.out];omega)).trans R0.out
 have L1:Hid (W0.heap.size<=w1.heap.size):=hb.size
 clear hr hb ho R0
 go_wp2_with fail
 refine (object_any _ _ R.out.1).mono ?_
 rintro e w2 ⟨⟨ss,ys,aa,a0,c0,a1,c1,a2,c2,rfl,hd,hn⟩,hp⟩
 rename_i hK
 refine hK _ _ ?_
 clear hK
 have R2:Hid (w2.heap[w.heap.size]? = some (.cells Objd.zO 26 (0,0))):=(hp.2.block _ (by have:=L1.out;have:=Z0.out;omega) (fun e=>by have:=Option.some.inj e;have:=Z0.out;omega)).trans R1.out
 have D:=(show Hid _ from do_of (w:=w) (hd.other (Secd.grow_setRow w2 w.heap.size #[.slice a0 ss.length c0,.slice a1 ys.length c1,.slice a2 aa.length c2]) fun _ _ _ _ _ _ q=>own_post q (by have:=L1.out;have:=Z0.out;omega)) (by have:=L1.out;have:=Z0.out;omega) hn (below_row' (R.out.2.trans (hp.below (by have:=Z0.out;omega) (Nat.le_of_lt R.out.1.lt))) (Nat.le_refl _) _))
 clear hd hn hp
 generalize ss.length=n0 at *
 generalize ys.length=n1 at *
 generalize aa.length=n2 at *
 refine wpList_store_row rfl 26 _ _ rfl w.heap.size #[.slice a0 n0 c0,.slice a1 n1 c1,.slice a2 n2 c2] rfl rfl _ _ R2.out Objd.infoO3 rfl (by simp [Value.oneCell']) ?_
 go_wp2
 exact bodyPost_ret (v:=.agg #[.slice a0 n0 c0,.slice a1 n1 c1,.slice a2 n2 c2]) (results_cell_row results35 _ _ w.heap.size _ _ (0,0) _ rfl (setRow_heap _ _ _ _ _ _ R2.out) underlying26 rfl Objd.infoO3) rfl D.out
theorem drawObjectText_any (a:Option Addr) (len cap:Nat) (zs:List Int) (w:World) (h:Rdr.IsRow .u8 w a len cap zs) :
  Calls prog 11 #[.slice a len cap] w (DO w):=by
 obtain ⟨W0,hW0⟩ : ∃ W0,W0=w.alloc (.cells Objd.zO 26):=⟨_,rfl⟩
 have B0:Hid (Below w.heap.size w W0):=(by rw [hW0];exact zAl _ _)
 have Z0:Hid (W0.heap.size=w.heap.size+1):=(by show _=_;rw [hW0];simp)
 have R0:Hid (W0.heap[w.heap.size]? = some (.cells Objd.zO 26 (0,0))):=(by rw [hW0];exact (MapKept.heap_alloc w _).1)
 have ho:=drawObjectOk_any a len cap zs W0 (h.below B0.out)
 clear h
 go_enter func11,ntmps11
 go_upto_region 1 with fail
 rw [<- hW0]
 clear hW0
 go_wp2_with fail
 refine ho.mono ?_
 rintro e w2 ⟨⟨x,a0,c0,a1,c1,a2,c2,rfl,hx,hd⟩,hb⟩
 rename_i hK
 refine hK _ _ ?_
 clear hK
 have R2:Hid (w2.heap[w.heap.size]? = some (.cells Objd.zO 26 (0,0))):=(hb.block _ (by rw [Z0.out];omega)).trans R0.out
 have D:Hid (DO w (.returned (.agg #[.slice a0 x.f0.length c0,.slice a1 x.f1.length c1,.slice a2 x.f2.length c2])) (w2.setRow w.heap.size #[.slice a0 x.f0.length c0,.slice a1 x.f1.length c1,.slice a2 x.f2.length c2])) :=
  ⟨⟨x,a0,c0,a1,c1,a2,c2,rfl,(hx.kept (fun k hk _=>setRow_other _ _ _ _ (by have:=Z0.out;omega)) (by rw [setRow_size];exact Nat.le_refl _)).mono (by have:=Z0.out;omega),hd⟩,below_row' (B0.out.trans (hb.mono B0.out.size)) (Nat.le_refl _) _⟩
 clear hx hd hb ho
 generalize x.f0.length=n0 at *
 generalize x.f1.length=n1 at *
 generalize x.f2.length=n2 at *
 refine wpList_store_row rfl 26 _ _ rfl w.heap.size #[.slice a0 n0 c0,.slice a1 n1 c1,.slice a2 n2 c2] rfl rfl _ _ R2.out Objd.infoO3 rfl (by simp [Value.oneCell']) ?_
 go_wp2
 exact bodyPost_ret (v:=.agg #[.slice a0 n0 c0,.slice a1 n1 c1,.slice a2 n2 c2]) (results_cell_row results11 _ _ w.heap.size _ _ (0,0) _ rfl (setRow_heap _ _ _ _ _ _ R2.out) underlying26 rfl Objd.infoO3) rfl D.out
theorem drawRead_any (a:Option Addr) (len cap:Nat) (zs:List Int) (w:World) (h:Rdr.IsRow .u8 w a len cap zs) :
  Calls prog 20 #[.slice a len cap] w fun e w'=>(∃ t:ByteArray,t.size<=60001/\e=.returned (.string t))/\Below w.heap.size w w':=by
 have ho:=Rdr.open_any a len cap zs w h
 clear h
 go_enter func20,ntmps20
 go_wp2_with fail
 refine ho.mono ?_
 rintro e w1 ⟨rfl,hr,hb⟩
 have R:Hid (Rd w1 w.heap.size/\Below w.heap.size w w1):=⟨hr,hb⟩
 clear hr hb ho
 go_wp2_with fail
 refine (object_any _ _ R.out.1).mono ?_
 rintro e w2 ⟨⟨ss,ys,aa,a0,c0,a1,c1,a2,c2,rfl,hd,hn⟩,hp⟩
 have P2:Hid (Post w1 w.heap.size w2):=hp
 have HH:Hid (Objr.Has 0 w2 (objX ss ys aa) a0 a1 a2):=(has_dw hd hn).mono (Nat.zero_le _)
 have e0:ss.length=(objX ss ys aa).f0.length:=(List.length_map ..).symm
 have e1:ys.length=(objX ss ys aa).f1.length:=rfl
 have e2:aa.length=(objX ss ys aa).f2.length:=(List.length_map ..).symm
 have hz:=size_of hn
 have ct:=fun w h=>Otxs.specText_any (objX ss ys aa) a0 c0 a1 c1 a2 c2 w h (small_dn hn)
 unfold Obje.ocells at ct
 rw [e0,e1,e2]
 clear hd hn hp e0 e1 e2
 generalize objX ss ys aa=x at *
 generalize x.f0.length=n0 at *
 generalize x.f1.length=n1 at *
 generalize x.f2.length=n2 at *
 generalize objV x=s at *
 go_wp2_with fail
 refine (ct _ HH.out).mono ?_
 rintro e w3 ⟨rfl,b3⟩
 have P3:Hid (Post w1 w.heap.size w3):=P2.out.trans (Cmpf.post_below P2.out.1 b3)
 clear b3 ct P2 HH
 go_wp2_with fail
 refine (Rdr.once_any _ _ _ P3.out.1 (by decide) (by decide)).mono ?_
 rintro e w4 ⟨⟨q,rfl⟩,hp4⟩
 have P4:Hid (Post w1 w.heap.size w4):=P3.out.trans hp4
 clear hp4 P3
 cases q with
 | true =>
  have B4:Hid (Below w.heap.size w w4):=R.out.2.trans (P4.out.below (Nat.le_refl _) R.out.2.size)
  go_wp2_with fail
  go_ret
  exact ⟨⟨s,by omega,rfl⟩,B4.out⟩
 | false =>
  go_wp2_with fail
  refine (Draw.hurt_any _ _ _ P4.out.1 (by omega)).mono ?_
  rintro e w5 ⟨⟨t,ht,rfl⟩,hp5⟩
  have B5:Hid (Below w.heap.size w w5):=R.out.2.trans ((P4.out.trans hp5).below (Nat.le_refl _) R.out.2.size)
  clear hp5
  go_wp2_with fail
  go_ret
  exact ⟨⟨t,by omega,rfl⟩,B5.out⟩
end Objc
namespace Robl
open Go.Deep
open Rown Rowo Rliq Rlsc Otxp Otxq Obje Drob Objc Sta0
open Rimc (Cx)
theorem cel3 {W:World} {b:Nat} {x y z:Value} {T:TypeId} (h:W.heap[b]? = some (.cells #[x,y,z] T (0,0))):W.cell? ⟨b,0,none⟩=some x/\W.cell? ⟨b,1,none⟩=some y/\W.cell? ⟨b,2,none⟩=some z:=by
 refine ⟨?_,?_,?_⟩ <;> (rw [cell_of_row _ _ _ _ _ _ h];rfl)
theorem left_has {s:ByteArray} {w w':World} {e:Ending} (h:Left9 w (outI9 s) e w'):∃ a0 c0 a1 c1 a2 c2,Objr.Has 0 w' ((outI9 s).getD o0) a0 a1 a2/\Objr.SmallX ((outI9 s).getD o0)/\e=.returned (.tuple #[.agg #[.slice a0 ((outI9 s).getD o0).f0.length c0,.slice a1 ((outI9 s).getD o0).f1.length c1,.slice a2 ((outI9 s).getD o0).f2.length c2],.bool (outI9 s).isSome])/\Below w.heap.size w w':=by
 obtain ⟨ss,ys,aa,a0,c0,a1,c1,a2,c2,hx,hob,hsm,he,hb⟩:=h
 have hh:=has_of hob (m:=60001) (by omega) (by rw [hx];exact hsm)
 rw [hx] at hh
 refine ⟨a0,c0,a1,c1,a2,c2,hh.mono (Nat.zero_le _),small_of (m:=60001) (by omega) hsm,?_,hb⟩
 rw [he]
 have e0:((outI9 s).getD o0).f0.length=ss.length:=by rw [<- hx];exact List.length_map ..
 have e1:((outI9 s).getD o0).f1.length=ys.length:=by rw [<- hx];rfl
 have e2:((outI9 s).getD o0).f2.length=aa.length:=by rw [<- hx];exact List.length_map ..
 rw [e0,e1,e2]
theorem text_of {s:ByteArray} {o:Objr.X} (h:outI9 s=some o):objV o=s:=by
 unfold outI9 out9 at h
 split at h
 ·cases h
 exact (fin9_some h).2
theorem below_at {w w':World} {b:Nat} {o:Obj} (hb:Below w.heap.size w w') (h:w.heap[b]? = some o):w'.heap[b]? = some o:=(hb.block b (zLo h)).trans h
theorem infoO3':(prog.info? 26).map (·.size)=some 3:=by kernel_rfl
theorem infoS6':(prog.info? 38).map (·.size)=some 6:=by kernel_rfl
theorem wpQuiet_load {P:Program} {ops:Array Oper} {rest:List Oper} {o:Oper} {a:Act} {C:World->Prop} {Q:Act->Prop} (hgd:Region.wanted o (yielded ops a.tmps)=true) (ty:TypeId) (x:Operand) (ho:o.op=.load ty x)
  (p:Addr) (hx:a.eval x=.pointer (some p)) (v:Value) (hl:∀ w,C w->(loadVar ty p).run P w=.ok v w) (h:wpQuiet P ops C Q rest (a.put o.dst v)):wpQuiet P ops C Q (o :: rest) a :=
 wpQuiet_step fun K hK=>by
  rw [if_pos hgd]
  refine ⟨v,fun w hw=>?_,hK _ h⟩
  unfold Oper.quietAt execOp
  simp only [ho,hx,Instr.loadAt,Instr.sureAddr,Sem.run_bind,Sem.run_pure,Result.andThen_ok,hl w hw]
  exact ⟨rfl,rfl⟩
theorem same_list (s:ByteArray):(s.toList == s.toList)=true:=by simp
theorem law_any (a0:Option Addr) (len0 cap0:Nat) (z0:List Int) (w:World) (h:Rdr.IsRow .u8 w a0 len0 cap0 z0) (hC:Cx w) :
  Calls prog 4 #[.slice a0 len0 cap0] w fun e w'=>e=.returned (.bool true)/\Below w.heap.size w w':=by
 have HC:Hid (Cx w):=hC
 have H:Hid (Rdr.IsRow .u8 w a0 len0 cap0 z0):=h
 clear hC h
 have cb:=Rdr.big_any a0 len0 cap0 w H.out.len
 by_cases hbig:Rdr.bigB len0=true
 ·rw [hbig] at cb
  clear HC
  go_enter func4,ntmps4
  go_wp2_with (go_at_call 10;refine cb.mono ?_;rintro e w' ⟨rfl,rfl⟩)
  go_ret
  exact ⟨rfl,Below.refl _ _⟩
 have hbig:Rdr.bigB len0=false:=by simpa using hbig
 rw [hbig] at cb
 go_enter func4,ntmps4
 go_wp2_with fail
 refine cb.mono ?_
 rintro e w' ⟨rfl,rfl⟩
 clear cb
 go_wp2_with fail
 refine (Objc.drawObjectText_any _ _ _ _ _ H.out).mono ?_
 rintro e w1 ⟨⟨x,p0,d0,p1,d1,p2,d2,rfl,hx,hd⟩,b1⟩
 have X1:Hid (Objr.Has 0 w1 x p0 p1 p2):=Objr.Has.mono hx (Nat.zero_le _)
 have B1:Hid (Below w'.heap.size w' w1):=b1
 have SX:Hid (Objr.SmallX x):=small_dn hd
 have hz:=size_of hd
 have AG:objB x=true->outI9 (objV x)=some x:=fun h=>again_dn h hd
 have cit:=fun W h hT=>Otxd.implText_any x p0 d0 p1 d1 p2 d2 W h SX.out hT
 have cst:=fun W h=>Otxs.specText_any x p0 d0 p1 d1 p2 d2 W h SX.out
 have cio:=fun W h=>Obje.implObj_any x p0 d0 p1 d1 p2 d2 W h SX.out
 have cso:=fun W h=>Objs.specObj_any x p0 d0 p1 d1 p2 d2 W h SX.out
 have csm:=fun q0 f0 q1 f1 q2 f2 W h h'=>Same9.sameObject_any x q0 f0 q1 f1 q2 f2 p0 d0 p1 d1 p2 d2 W h h' SX.out
 have cir:=fun W hC=>Rimi.implRead_any (objV x) W (by omega) hC
 have LH:=(show Hid _ from fun w w' e (h:Left9 w (outI9 (objV x)) e w')=>left_has h)
 generalize objV x=s at *
 generalize outI9 s=O at *
 generalize objB x=r at *
 obtain ⟨fl,hfl⟩ : ∃ fl,O.isSome=fl:=⟨_,rfl⟩
 obtain ⟨y,hy⟩ : ∃ y,O.getD o0=y:=⟨_,rfl⟩
 have AG2:Hid (r=true->fl=true/\y=x):=fun h=>by
  have e:=AG h
  rw [<- hfl,<- hy,e]
  exact ⟨rfl,rfl⟩
 rw [hfl,hy] at LH
 clear AG hfl hy
 obtain ⟨m0,hm0⟩ : ∃ n,y.f0.length=n:=⟨_,rfl⟩
 obtain ⟨m1,hm1⟩ : ∃ n,y.f1.length=n:=⟨_,rfl⟩
 obtain ⟨m2,hm2⟩ : ∃ n,y.f2.length=n:=⟨_,rfl⟩
 rw [hm0,hm1,hm2] at LH
 have MN:Hid (y.f0.length=m0/\y.f1.length=m1/\y.f2.length=m2):=⟨hm0,hm1,hm2⟩
 clear hm0 hm1 hm2 hx hd b1
 obtain ⟨n0,hn0⟩ : ∃ n,x.f0.length=n:=⟨_,rfl⟩
 obtain ⟨n1,hn1⟩ : ∃ n,x.f1.length=n:=⟨_,rfl⟩
 obtain ⟨n2,hn2⟩ : ∃ n,x.f2.length=n:=⟨_,rfl⟩
 rw [hn0,hn1,hn2]
 unfold Obje.ocells at cit cst cio cso
 rw [hn0,hn1,hn2] at cit cst cio cso csm
 have EN:Hid (x.f0.length=n0/\x.f1.length=n1/\x.f2.length=n2):=⟨hn0,hn1,hn2⟩
 clear hn0 hn1 hn2
 go_upto_region 4 with fail
 obtain ⟨v1,hv1⟩ : ∃ u,u=w1.alloc (.cells #[.slice p0 n0 d0,.slice p1 n1 d1,.slice p2 n2 d2] 26):=⟨_,rfl⟩
 rw [<- hv1]
 have T1:Hid (Below w1.heap.size w1 v1/\v1.heap[w1.heap.size]? = some (.cells #[.slice p0 n0 d0,.slice p1 n1 d1,.slice p2 n2 d2] 26 (0,0))):=(by rw [hv1];exact ⟨zAl _ _,(MapKept.heap_alloc w1 _).1⟩)
 clear hv1
 have V1:Hid (Below w'.heap.size w' v1):=B1.out.trans (T1.out.1.mono B1.out.size)
 have X2:Hid (Objr.Has 0 v1 x p0 p1 p2):=Objr.Has.below X1.out T1.out.1
 obtain ⟨k0,k1,k2⟩:=cel3 T1.out.2
 clear X1 B1
 go_wp2_with fail
 refine (cit _ X2.out ⟨(HC.out.below V1.out).op,(HC.out.below V1.out).pow,(HC.out.below V1.out).hex⟩).mono ?_
 rintro e w2 ⟨rfl,b2⟩
 have C2:Hid (Below v1.heap.size v1 w2):=b2
 have V2:Hid (Below w'.heap.size w' w2):=V1.out.trans (b2.mono V1.out.size)
 clear b2 cit k0 k1 k2
 go_wp2_with fail
 refine (cir _ (HC.out.below V2.out)).mono ?_
 rintro e w3 L3
 obtain ⟨q0,f0,q1,f1,q2,f2,hy3,_,rfl,b3⟩:=LH.out _ _ _ L3
 have Y3:=(show Hid _ from hy3)
 have C3:Hid (Below v1.heap.size v1 w3):=C2.out.trans (b3.mono C2.out.size)
 clear L3 hy3 b3 cir LH C2 V2
 go_upto_region 6 with fail
 obtain ⟨v3,hv3⟩ : ∃ u,u=w3.alloc (.cells #[.slice q0 m0 f0,.slice q1 m1 f1,.slice q2 m2 f2] 26):=⟨_,rfl⟩
 rw [<- hv3]
 have T3:Hid (Below w3.heap.size w3 v3/\v3.heap[w3.heap.size]? = some (.cells #[.slice q0 m0 f0,.slice q1 m1 f1,.slice q2 m2 f2] 26 (0,0))):=(by rw [hv3];exact ⟨zAl _ _,(MapKept.heap_alloc w3 _).1⟩)
 clear hv3
 have C4:Hid (Below v1.heap.size v1 v3):=C3.out.trans (T3.out.1.mono C3.out.size)
 have Y4:Hid (Objr.Has 0 v3 y q0 q1 q2):=Objr.Has.below Y3.out T3.out.1
 have V4:Hid (Below w'.heap.size w' v3):=V1.out.trans (C4.out.mono V1.out.size)
 clear Y3 C3
 go_wp2_with fail
 refine (Objc.drawSection_any _ _ _ _ _ (H.out.below V4.out)).mono ?_
 rintro e w4 ⟨⟨z,a5,c5,rfl,hz4,hxz⟩,b4⟩
 have Z4:Hid (Secr.Has 0 w4 z a5):=Secr.Has.mono hz4 (Nat.zero_le _)
 have C5:Hid (Below v3.heap.size v3 w4):=b4
 have ci5:=fun W h=>Secp.implSec_any z a5 c5 W h (small_xn hxz)
 have cs5:=fun W h=>Secp.specSec_any z a5 c5 W h (small_xn hxz)
 unfold Seco.cells at ci5 cs5
 generalize Seco.secB z=sb at *
 have HZ:Hid (∀ W,Below w4.heap.size w4 W->Secr.Has 0 W z a5):=fun W h=>Secr.Has.below Z4.out h
 clear hz4 hxz b4 Z4
 generalize z.f0=s0 at *
 generalize z.f1=s1 at *
 generalize z.f2=s2 at *
 generalize z.f3=s3 at *
 generalize z.f4=s4 at *
 generalize z.f5.length=n5 at *
 go_upto_region 7 with fail
 obtain ⟨v4,hv4⟩ : ∃ u,u=w4.alloc (.cells #[.string s0,.int .i64 s1,.int .i64 s2,.int .i64 s3,.string s4,.slice a5 n5 c5] 38):=⟨_,rfl⟩
 rw [<- hv4]
 have T4:Hid (Below w4.heap.size w4 v4/\v4.heap[w4.heap.size]? = some (.cells #[.string s0,.int .i64 s1,.int .i64 s2,.int .i64 s3,.string s4,.slice a5 n5 c5] 38 (0,0))):=(by rw [hv4];exact ⟨zAl _ _,(MapKept.heap_alloc w4 _).1⟩)
 clear hv4
 have C6:Hid (Below v3.heap.size v3 v4):=C5.out.trans (T4.out.1.mono C5.out.size)
 have C7:Hid (Below v1.heap.size v1 v4):=C4.out.trans (C6.out.mono C4.out.size)
 have V5:Hid (Below w'.heap.size w' v4):=V1.out.trans (C7.out.mono V1.out.size)
 have X5:Hid (Objr.Has 0 v4 x p0 p1 p2):=Objr.Has.below X2.out C7.out
 have Y5:Hid (Objr.Has 0 v4 y q0 q1 q2):=Objr.Has.below Y4.out C6.out
 obtain ⟨ba,hba⟩ : ∃ b,b=w1.heap.size:=⟨_,rfl⟩
 obtain ⟨bp,hbp⟩ : ∃ b,b=w3.heap.size:=⟨_,rfl⟩
 obtain ⟨bs,hbs⟩ : ∃ b,b=w4.heap.size:=⟨_,rfl⟩
 have J1:Hid (v4.heap[ba]? = some (.cells #[.slice p0 n0 d0,.slice p1 n1 d1,.slice p2 n2 d2] 26 (0,0))):=(by rw [hba];exact below_at C7.out T1.out.2)
 have J2:Hid (v4.heap[bp]? = some (.cells #[.slice q0 m0 f0,.slice q1 m1 f1,.slice q2 m2 f2] 26 (0,0))):=(by rw [hbp];exact below_at C6.out T3.out.2)
 have J3:Hid (v4.heap[bs]? = some (.cells #[.string s0,.int .i64 s1,.int .i64 s2,.int .i64 s3,.string s4,.slice a5 n5 c5] 38 (0,0))):=(by rw [hbs];exact T4.out.2)
 rw [<- hba,<- hbp,<- hbs]
 have k0:Rg 14 #[.agg #[.slice p0 n0 d0,.slice p1 n1 d1,.slice p2 n2 d2]] v4 (.string s):=rg fun W hb=>cst W (Objr.Has.below X5.out hb)
 have k1:Rg 15 #[.agg #[.slice p0 n0 d0,.slice p1 n1 d1,.slice p2 n2 d2]] v4 (.bool r):=rg fun W hb=>cio W (Objr.Has.below X5.out hb)
 have k2:Rg 16 #[.agg #[.slice p0 n0 d0,.slice p1 n1 d1,.slice p2 n2 d2]] v4 (.bool r):=rg fun W hb=>cso W (Objr.Has.below X5.out hb)
 have k3:Rg 17 #[.agg #[.string s0,.int .i64 s1,.int .i64 s2,.int .i64 s3,.string s4,.slice a5 n5 c5]] v4 (.bool sb):=rg fun W hb=>ci5 W (HZ.out W (T4.out.1.trans (hb.mono T4.out.1.size)))
 have k4:Rg 18 #[.agg #[.string s0,.int .i64 s1,.int .i64 s2,.int .i64 s3,.string s4,.slice a5 n5 c5]] v4 (.bool sb):=rg fun W hb=>cs5 W (HZ.out W (T4.out.1.trans (hb.mono T4.out.1.size)))
 clear cst cio cso ci5 cs5 HZ X2 Y4 C4 C5 C6 C7 T1 T3 T4 V1 V4 hba hbp hbs
 have t0:=same_list s
 have t1:(s.toList != s.toList)=false:=by rw [bne,t0];rfl
 have sb1:(sb != sb)=false:=by cases sb <;> rfl
 have l1:=fun d os=>run_loadVar_row (P:=prog) (Go.Sort.grow (redrawn v4 d) os) ba 26 26 _ (0,0) _ (below_at (below_regrown v4 d os) J1.out) underlying26 rfl infoO3'
 have l2:=fun d os=>run_loadVar_row (P:=prog) (Go.Sort.grow (redrawn v4 d) os) bp 26 26 _ (0,0) _ (below_at (below_regrown v4 d os) J2.out) underlying26 rfl infoO3'
 have l3:=fun d os=>run_loadVar_row (P:=prog) (Go.Sort.grow (redrawn v4 d) os) bs 38 38 _ (0,0) _ (below_at (below_regrown v4 d os) J3.out) underlying38 rfl infoS6'
 clear J1 J2 J3
 cases r with
 | false =>
  clear csm AG2 MN EN X5 Y5 SX
  generalize (#[.slice p0 n0 d0,.slice p1 n1 d1,.slice p2 n2 d2]:Array Value)=cA at *
  generalize (#[.slice q0 m0 f0,.slice q1 m1 f1,.slice q2 m2 f2]:Array Value)=cB at *
  generalize (#[.string s0,.int .i64 s1,.int .i64 s2,.int .i64 s3,.string s4,.slice a5 n5 c5]:Array Value)=cC at *
  refine wp_region_quiet_below (by kernel_rfl) (by kernel_rfl) ?_
  repeat (first|(go_big_quiet_step (first|fail|with_reducible exact k0 _ _|with_reducible exact k1 _ _|with_reducible exact k2 _ _|with_reducible exact k3 _ _|with_reducible exact k4 _ _))|(refine wpQuiet_load (by rfl) 26 _ rfl ⟨ba,0,none⟩ rfl _ (fun W hW=>by obtain ⟨⟨d,o⟩,rfl⟩:=hW;exact l1 d o) ?_;simp only [Act.put,List.setIfInBounds_toArray,List.set_cons_succ,List.set_cons_zero])|(refine wpQuiet_load (by rfl) 26 _ rfl ⟨bp,0,none⟩ rfl _ (fun W hW=>by obtain ⟨⟨d,o⟩,rfl⟩:=hW;exact l2 d o) ?_;simp only [Act.put,List.setIfInBounds_toArray,List.set_cons_succ,List.set_cons_zero])|(refine wpQuiet_load (by rfl) 38 _ rfl ⟨bs,0,none⟩ rfl _ (fun W hW=>by obtain ⟨⟨d,o⟩,rfl⟩:=hW;exact l3 d o) ?_;simp only [Act.put,List.setIfInBounds_toArray,List.set_cons_succ,List.set_cons_zero]))
  refine wpQuiet_nil ?_
  intro _ hw'
  obtain ⟨⟨dq,osq⟩,hw''⟩:=hw'
  subst hw''
  obtain ⟨W5,hW5⟩ : ∃ u,u=Go.Sort.grow (redrawn v4 dq) osq:=⟨_,rfl⟩
  have B9:Hid (Below w'.heap.size w' W5):=(by
   have h:=below_regrown v4 dq osq
   rw [<- hW5] at h
   exact V5.out.trans (h.mono V5.out.size))
  rw [<- hW5]
  clear hW5 k0 k1 k2 k3 k4 l1 l2 l3 V5 t0 t1 sb1 hz
  go_wp2_with fail
  refine (Objc.drawRead_any _ _ _ _ _ (H.out.below B9.out)).mono ?_
  rintro e wA ⟨⟨t,ht,rfl⟩,bA⟩
  have BA:Hid (Below w'.heap.size w' wA):=B9.out.trans (bA.mono B9.out.size)
  clear bA B9
  have ri2:=fun W hC=>Rimi.implRead_any t W (by omega) hC
  have rs2:=fun W=>specRead_any t W (by omega)
  rw [<- same] at rs2
  have LH2:=(show Hid _ from fun w w' e (h:Left9 w (outI9 t) e w')=>left_has h)
  have TX0:∀ o,outI9 t=some o->objV o=t:=fun o h=>text_of h
  generalize outI9 t=O2 at *
  obtain ⟨f2,hf2⟩ : ∃ fl,O2.isSome=fl:=⟨_,rfl⟩
  obtain ⟨y2,hy2⟩ : ∃ y,O2.getD o0=y:=⟨_,rfl⟩
  have TX:Hid (f2=true->objV y2=t):=fun h=>by
   rw [h] at hf2
   obtain ⟨o,ho⟩:=Option.isSome_iff_exists.1 hf2
   rw [ho] at hy2
   rw [<- show o=y2 from hy2]
   exact TX0 o ho
  rw [hf2,hy2] at LH2
  clear TX0 hf2 hy2
  obtain ⟨g0,hg0⟩ : ∃ n,y2.f0.length=n:=⟨_,rfl⟩
  obtain ⟨g1,hg1⟩ : ∃ n,y2.f1.length=n:=⟨_,rfl⟩
  obtain ⟨g2,hg2⟩ : ∃ n,y2.f2.length=n:=⟨_,rfl⟩
  have ct:=fun r0 e0 r1 e1 r2 e2 W h hs hT=>Otxd.implText_any y2 r0 e0 r1 e1 r2 e2 W h hs hT
  unfold Obje.ocells at ct
  rw [hg0,hg1,hg2] at LH2 ct
  clear hg0 hg1 hg2
  have t0:=same_list t
  go_wp2_with fail
  refine (ri2 _ (HC.out.below BA.out)).mono ?_
  rintro e wB LB
  obtain ⟨r0,e0,r1,e1,r2,e2,hB,hsB,rfl,bB⟩:=LH2.out _ _ _ LB
  have SB:Hid (Objr.SmallX y2):=hsB
  have YB:=(show Hid _ from hB)
  have BB:Hid (Below w'.heap.size w' wB):=BA.out.trans (bB.mono BA.out.size)
  clear LB hB hsB bB ri2 BA
  go_upto_region 11 with fail
  obtain ⟨vB,hvB⟩ : ∃ u,u=wB.alloc (.cells #[.slice r0 g0 e0,.slice r1 g1 e1,.slice r2 g2 e2] 26):=⟨_,rfl⟩
  rw [<- hvB]
  have TB:Hid (Below wB.heap.size wB vB/\vB.heap[wB.heap.size]? = some (.cells #[.slice r0 g0 e0,.slice r1 g1 e1,.slice r2 g2 e2] 26 (0,0))):=(by rw [hvB];exact ⟨zAl _ _,(MapKept.heap_alloc wB _).1⟩)
  clear hvB
  have BC:Hid (Below w'.heap.size w' vB):=BB.out.trans (TB.out.1.mono BB.out.size)
  have YC:Hid (Objr.Has 0 vB y2 r0 r1 r2):=Objr.Has.below YB.out TB.out.1
  clear YB BB
  go_wp2_with fail
  refine (rs2 _).mono ?_
  rintro e wC LC
  obtain ⟨i0,j0,i1,j1,i2,j2,_,_,rfl,bC⟩:=LH2.out _ _ _ LC
  have BD:Hid (Below vB.heap.size vB wC):=bC
  clear LC bC rs2
  go_upto_region 12 with fail
  obtain ⟨vC,hvC⟩ : ∃ u,u=wC.alloc (.cells #[.slice i0 g0 j0,.slice i1 g1 j1,.slice i2 g2 j2] 26):=⟨_,rfl⟩
  rw [<- hvC]
  have TC:Hid (Below wC.heap.size wC vC/\vC.heap[wC.heap.size]? = some (.cells #[.slice i0 g0 j0,.slice i1 g1 j1,.slice i2 g2 j2] 26 (0,0))):=(by rw [hvC];exact ⟨zAl _ _,(MapKept.heap_alloc wC _).1⟩)
  clear hvC
  have BE:Hid (Below vB.heap.size vB vC):=BD.out.trans (TC.out.1.mono BD.out.size)
  have BF:Hid (Below w'.heap.size w' vC):=BC.out.trans (BE.out.mono BC.out.size)
  have YE:Hid (Objr.Has 0 vC y2 r0 r1 r2):=Objr.Has.below YC.out BE.out
  obtain ⟨kk0,kk1,kk2⟩:=cel3 (below_at BE.out TB.out.2)
  clear YC BD TB TC
  cases f2 with
  | false =>
   go_wp2_with fail
   go_ret
   exact ⟨rfl,BF.out⟩
  | true =>
   rw [TX.out rfl] at ct
   go_wp2_with fail
   refine (ct _ _ _ _ _ _ _ YE.out SB.out ⟨(HC.out.below BF.out).op,(HC.out.below BF.out).pow,(HC.out.below BF.out).hex⟩).mono ?_
   rintro e wD ⟨rfl,bD⟩
   have BG:Hid (Below w'.heap.size w' wD):=BF.out.trans (bD.mono BF.out.size)
   clear bD
   go_wp2_with fail
   go_ret
   exact ⟨rfl,BG.out⟩
 | true =>
  obtain ⟨hfl,hyx⟩:=AG2.out rfl
  subst hyx
  have e0:m0=n0:=MN.out.1.symm.trans EN.out.1
  have e1:m1=n1:=MN.out.2.1.symm.trans EN.out.2.1
  have e2:m2=n2:=MN.out.2.2.symm.trans EN.out.2.2
  subst e0
  subst e1
  subst e2
  subst hfl
  have k5:Rg 19 #[.agg #[.slice q0 m0 f0,.slice q1 m1 f1,.slice q2 m2 f2],.agg #[.slice p0 m0 d0,.slice p1 m1 d1,.slice p2 m2 d2]] v4 (.bool true):=rg fun W hb=>csm _ _ _ _ _ _ W (Objr.Has.below Y5.out hb) (Objr.Has.below X5.out hb)
  clear csm AG2 MN EN X5 Y5 SX
  generalize (#[.slice p0 m0 d0,.slice p1 m1 d1,.slice p2 m2 d2]:Array Value)=cA at *
  generalize (#[.slice q0 m0 f0,.slice q1 m1 f1,.slice q2 m2 f2]:Array Value)=cB at *
  generalize (#[.string s0,.int .i64 s1,.int .i64 s2,.int .i64 s3,.string s4,.slice a5 n5 c5]:Array Value)=cC at *
  refine wp_region_quiet_below (by kernel_rfl) (by kernel_rfl) ?_
  repeat (first|(go_big_quiet_step (first|fail|with_reducible exact k0 _ _|with_reducible exact k1 _ _|with_reducible exact k2 _ _|with_reducible exact k3 _ _|with_reducible exact k4 _ _|with_reducible exact k5 _ _))|(refine wpQuiet_load (by rfl) 26 _ rfl ⟨ba,0,none⟩ rfl _ (fun W hW=>by obtain ⟨⟨d,o⟩,rfl⟩:=hW;exact l1 d o) ?_;simp only [Act.put,List.setIfInBounds_toArray,List.set_cons_succ,List.set_cons_zero])|(refine wpQuiet_load (by rfl) 26 _ rfl ⟨bp,0,none⟩ rfl _ (fun W hW=>by obtain ⟨⟨d,o⟩,rfl⟩:=hW;exact l2 d o) ?_;simp only [Act.put,List.setIfInBounds_toArray,List.set_cons_succ,List.set_cons_zero])|(refine wpQuiet_load (by rfl) 38 _ rfl ⟨bs,0,none⟩ rfl _ (fun W hW=>by obtain ⟨⟨d,o⟩,rfl⟩:=hW;exact l3 d o) ?_;simp only [Act.put,List.setIfInBounds_toArray,List.set_cons_succ,List.set_cons_zero]))
  refine wpQuiet_nil ?_
  intro _ hw'
  obtain ⟨⟨dq,osq⟩,hw''⟩:=hw'
  subst hw''
  obtain ⟨W5,hW5⟩ : ∃ u,u=Go.Sort.grow (redrawn v4 dq) osq:=⟨_,rfl⟩
  have B9:Hid (Below w'.heap.size w' W5):=(by
   have h:=below_regrown v4 dq osq
   rw [<- hW5] at h
   exact V5.out.trans (h.mono V5.out.size))
  rw [<- hW5]
  clear hW5 k0 k1 k2 k3 k4 l1 l2 l3 V5 t0 t1 sb1 hz
  go_wp2_with fail
  refine (Objc.drawRead_any _ _ _ _ _ (H.out.below B9.out)).mono ?_
  rintro e wA ⟨⟨t,ht,rfl⟩,bA⟩
  have BA:Hid (Below w'.heap.size w' wA):=B9.out.trans (bA.mono B9.out.size)
  clear bA B9
  have ri2:=fun W hC=>Rimi.implRead_any t W (by omega) hC
  have rs2:=fun W=>specRead_any t W (by omega)
  rw [<- same] at rs2
  have LH2:=(show Hid _ from fun w w' e (h:Left9 w (outI9 t) e w')=>left_has h)
  have TX0:∀ o,outI9 t=some o->objV o=t:=fun o h=>text_of h
  generalize outI9 t=O2 at *
  obtain ⟨f2,hf2⟩ : ∃ fl,O2.isSome=fl:=⟨_,rfl⟩
  obtain ⟨y2,hy2⟩ : ∃ y,O2.getD o0=y:=⟨_,rfl⟩
  have TX:Hid (f2=true->objV y2=t):=fun h=>by
   rw [h] at hf2
   obtain ⟨o,ho⟩:=Option.isSome_iff_exists.1 hf2
   rw [ho] at hy2
   rw [<- show o=y2 from hy2]
   exact TX0 o ho
  rw [hf2,hy2] at LH2
  clear TX0 hf2 hy2
  obtain ⟨g0,hg0⟩ : ∃ n,y2.f0.length=n:=⟨_,rfl⟩
  obtain ⟨g1,hg1⟩ : ∃ n,y2.f1.length=n:=⟨_,rfl⟩
  obtain ⟨g2,hg2⟩ : ∃ n,y2.f2.length=n:=⟨_,rfl⟩
  have ct:=fun r0 e0 r1 e1 r2 e2 W h hs hT=>Otxd.implText_any y2 r0 e0 r1 e1 r2 e2 W h hs hT
  unfold Obje.ocells at ct
  rw [hg0,hg1,hg2] at LH2 ct
  clear hg0 hg1 hg2
  have t0:=same_list t
  go_wp2_with fail
  refine (ri2 _ (HC.out.below BA.out)).mono ?_
  rintro e wB LB
  obtain ⟨r0,e0,r1,e1,r2,e2,hB,hsB,rfl,bB⟩:=LH2.out _ _ _ LB
  have SB:Hid (Objr.SmallX y2):=hsB
  have YB:=(show Hid _ from hB)
  have BB:Hid (Below w'.heap.size w' wB):=BA.out.trans (bB.mono BA.out.size)
  clear LB hB hsB bB ri2 BA
  go_upto_region 11 with fail
  obtain ⟨vB,hvB⟩ : ∃ u,u=wB.alloc (.cells #[.slice r0 g0 e0,.slice r1 g1 e1,.slice r2 g2 e2] 26):=⟨_,rfl⟩
  rw [<- hvB]
  have TB:Hid (Below wB.heap.size wB vB/\vB.heap[wB.heap.size]? = some (.cells #[.slice r0 g0 e0,.slice r1 g1 e1,.slice r2 g2 e2] 26 (0,0))):=(by rw [hvB];exact ⟨zAl _ _,(MapKept.heap_alloc wB _).1⟩)
  clear hvB
  have BC:Hid (Below w'.heap.size w' vB):=BB.out.trans (TB.out.1.mono BB.out.size)
  have YC:Hid (Objr.Has 0 vB y2 r0 r1 r2):=Objr.Has.below YB.out TB.out.1
  clear YB BB
  go_wp2_with fail
  refine (rs2 _).mono ?_
  rintro e wC LC
  obtain ⟨i0,j0,i1,j1,i2,j2,_,_,rfl,bC⟩:=LH2.out _ _ _ LC
  have BD:Hid (Below vB.heap.size vB wC):=bC
  clear LC bC rs2
  go_upto_region 12 with fail
  obtain ⟨vC,hvC⟩ : ∃ u,u=wC.alloc (.cells #[.slice i0 g0 j0,.slice i1 g1 j1,.slice i2 g2 j2] 26):=⟨_,rfl⟩
  rw [<- hvC]
  have TC:Hid (Below wC.heap.size wC vC/\vC.heap[wC.heap.size]? = some (.cells #[.slice i0 g0 j0,.slice i1 g1 j1,.slice i2 g2 j2] 26 (0,0))):=(by rw [hvC];exact ⟨zAl _ _,(MapKept.heap_alloc wC _).1⟩)
  clear hvC
  have BE:Hid (Below vB.heap.size vB vC):=BD.out.trans (TC.out.1.mono BD.out.size)
  have BF:Hid (Below w'.heap.size w' vC):=BC.out.trans (BE.out.mono BC.out.size)
  have YE:Hid (Objr.Has 0 vC y2 r0 r1 r2):=Objr.Has.below YC.out BE.out
  obtain ⟨kk0,kk1,kk2⟩:=cel3 (below_at BE.out TB.out.2)
  clear YC BD TB TC
  cases f2 with
  | false =>
   go_wp2_with fail
   go_ret
   exact ⟨rfl,BF.out⟩
  | true =>
   rw [TX.out rfl] at ct
   go_wp2_with fail
   refine (ct _ _ _ _ _ _ _ YE.out SB.out ⟨(HC.out.below BF.out).op,(HC.out.below BF.out).pow,(HC.out.below BF.out).hex⟩).mono ?_
   rintro e wD ⟨rfl,bD⟩
   have BG:Hid (Below w'.heap.size w' wD):=BF.out.trans (bD.mono BF.out.size)
   clear bD
   go_wp2_with fail
   go_ret
   exact ⟨rfl,BG.out⟩
end Robl
end Go.Proofs.YtickfkphhngagaaGreatDoor
