import Derived.Test.YtepafieckjnkdaaGreatDoorP28
set_option linter.all false
set_option maxRecDepth 20000
set_option maxHeartbeats 8000000
open Go.ChangeShapes Go.WideShapes Go.ChangeAt Go.RowKit
open Go.Proofs.Tryz
namespace Go.Proofs.YtepafieckjnkdaaGreatDoor
namespace Rmkf
open Go.Deep
open Rown Rowo Rmkb Rmkc Rmke
open Nodm (markText_any)
theorem genW {P:Program} {c:Code} {Q:Exit->Act->World->Prop} {a:Act} {b:Nat} {w W:World} (h:Below b w W) (k:∀ u,Below b w u->Code.wp P c Q a u):Code.wp P c Q a W:=k W h
theorem genC {P:Program} {f:FuncId} {x:Array Value} {R:Ending->World->Prop} {b:Nat} {w W:World} (h:Below b w W) (k:∀ u,Below b w u->Calls P f x u R):Calls P f x W R:=k W h
theorem mkS_at (A B:List Sd) (p:Sd) (k:Int):mkSs k (A ++ p :: B)=mkSs k A ++ mkS (nSs k A) p :: mkSs (nS (nSs k A) p) B:=by rw [mkSs_app];rfl
theorem heldSs_any (base:Nat) (sv:Value) (ss:List Sd) (k:Int) (w:World) (h:Sx w base sv (mkSs k ss)) (h0:0<k) (h1:k<=1000000) (hn:ss.length<=1000) (hl:∀ p ∈ ss,Lim p) :
  Calls prog 55 #[sv,.int .i64 k] w fun e w'=>e=.returned (.int .i64 (nSs k ss))/\Below w.heap.size w w':=by
 have hlen:=mkSs_len ss k
 rcases h.row.2 with ⟨rfl,hz⟩|⟨g,cap,cur,rfl,_⟩
 ·have hnil:ss=[]:=List.eq_nil_of_length_eq_zero (by omega)
  subst hnil
  go_enter func55,ntmps55
  go_wp2
  go_loopw [1,5] (fun c i wr=>c=.int .i64 k/\i=.int .i64 0/\wr=w) (fun _ _ _=>0)
  case atStart=>exact ⟨rfl,rfl,rfl⟩
  case round =>
   obtain ⟨rfl,rfl,rfl⟩:=hrel
   go_wp2
   go_ret
   exact ⟨rfl,Below.refl _ _⟩
 ·obtain ⟨n,hn'⟩ : ∃ n,n=ss.length:=⟨_,rfl⟩
  have HN:Hid (n=ss.length):=hn'
  rw [hlen,<- hn'] at h
  rw [<- hn'] at hn
  rw [hlen,<- hn']
  have H:=(show Hid _ from h)
  have HLL:=(show Hid _ from hl)
  clear h hl hn' hlen
  go_enter func55,ntmps55
  go_wp2
  go_loopw [1,5] (fun c i wr=>∃ (A B:List Sd) (q:Int) (j:Nat),j<=n/\i=.int .i64 (j:Int)/\c=.int .i64 q/\0<q/\q<=30000000/\Hid (ss=A ++ B/\A.length=j/\q=nSs k A)/\Hid (Below w.heap.size w wr)) (fun _ i _=>n-(intOf i).toNat)
  case atStart=>exact ⟨[],ss,k,0,Nat.zero_le _,rfl,rfl,h0,by omega,⟨rfl,rfl,rfl⟩,Below.refl _ _⟩
  case round =>
   obtain ⟨A,B,q,j,hj,rfl,rfl,hq0,hq1,HA,HB⟩:=hrel
   by_cases hlt:j<n
   ·obtain ⟨p,B',hB⟩ : ∃ p B',B=p :: B':=by
     cases B with
     | nil =>
      exfalso
      have h1:=HA.out.1
      have h2:=HA.out.2.1
      have h3:=HN.out
      rw [h1] at h3
      simp at h3;omega
     | cons p B'=>exact ⟨p,B',rfl⟩
    subst hB
    have hAl:(mkSs k A).length=j:=by rw [mkSs_len];exact HA.out.2.1
    have hpm:p ∈ ss:=by rw [HA.out.1];simp
    have HLP:Hid (Lim p):=HLL.out p hpm
    have hmk:mkSs k ss=mkSs k A ++ mkS q p :: mkSs (nS q p) B':=by rw [HA.out.1,mkS_at,<- HA.out.2.2]
    have NX:Hid (nSs k (A ++ [p])=nS q p/\ss=(A ++ [p]) ++ B'/\(A ++ [p]).length=j+1):=by
     refine ⟨?_,?_,by simp [HA.out.2.1]⟩
     ·rw [nSs_app,<- HA.out.2.2];rfl
     ·rw [HA.out.1];simp
    have QB:Hid (0<nS q p/\nS q p<=30000000):=by
     have h1:=nSs_le (A ++ [p]) k (fun x hx=>HLL.out x (by rw [NX.out.2.1];exact List.mem_append_left _ hx))
     have h2:=nS_le q p HLP.out
     rw [NX.out.1,NX.out.2.2] at h1
     show _/\_
     have:=h1.2
     have hjn:((j+1:Nat):Int)<=1000:=by omega
     omega
    have hrow:=H.out.row
    rw [mkSs_len,<- HN.out,hmk] at hrow
    have glt:g<w.heap.size:=(hrow.lt g rfl).2
    have hnl:n=(mkSs k A ++ mkS q p :: mkSs (nS q p) B').length:=by rw [<- hmk,mkSs_len];exact HN.out
    have HW:Hid (∀ u,Below w.heap.size w u->u.cell? ⟨g,j*6,none⟩=some (.string (Nodm.mark q))/\u.cell? ⟨g,j*6+1,none⟩=some (.int .i64 (q+1))/\u.cell? ⟨g,j*6+2,none⟩=some (.int .i64 (q+2))/\u.cell? ⟨g,j*6+3,none⟩=some (.int .i64 (q+3))/\u.cell? ⟨g,j*6+4,none⟩=some (.string (Nodm.mark (q+4)))/\u.cell? ⟨g,j*6+5,none⟩=some p.pv):=fun u hu=>by
     have hc:∀ i,i<6->u.cell? ⟨g,j*6+i,none⟩=(Sd.cells (mkS q p))[i]?:=fun i hi=>(hu.cell (p:=⟨g,j*6+i,none⟩) glt).trans (cell5 hrow hnl hAl i hi)
     exact ⟨hc 0 (by omega),hc 1 (by omega),hc 2 (by omega),hc 3 (by omega),hc 4 (by omega),hc 5 (by omega)⟩
    have HP:Hid (∀ u,Below w.heap.size w u->Pt u base p.pv (mkPs (q+5) p.ps)):=fun u hu=>ptFr (P:=fun _=>False) (H.out.pt (mkS q p) (by rw [hmk];simp)) (Fr.below hu) (fun _ _ h=>h) (fun _ _ _ _ h=>h)
    have cm1:=fun w=>markText_any q w (by omega) (by omega)
    have cm2:=fun w=>markText_any (q+4) w (by omega) (by omega)
    have cm3:=fun w h=>heldPs_any base p.pv p.ps (q+5) w h (by omega) (by omega) HLP.out.1 HLP.out.2
    have hk:nPs (q+5) p.ps=nS q p:=rfl
    rw [hk] at cm3
    obtain ⟨m,hm⟩ : ∃ m,m=nS q p:=⟨_,rfl⟩
    have HM:Hid (m=nS q p):=hm
    have m0:0<m:=by rw [hm];exact QB.out.1
    have m1:m<=30000000:=by rw [hm];exact QB.out.2
    rw [<- hm] at cm3
    generalize Nodm.mark q=t1 at cm1 HW
    generalize Nodm.mark (q+4)=t2 at cm2 HW
    have i0:(0:Int)<=(j:Int):=by omega
    have i1:(j:Int)<(n:Int):=by omega
    have e1:q+1+1=q+2:=by omega
    have e2:q+2+1=q+3:=by omega
    have e3:q+3+1=q+4:=by omega
    have e4:q+4+1=q+5:=by omega
    have dneg:decide (m<0)=false:=decide_eq_false (by omega)
    have d0:=(HW.out wr HB.out).1
    clear hAl hpm hmk hrow hnl hk hm
    go_wp2_with fail
    go_region_with (go_at_call 93;refine (cm1 _).mono ?_;rintro e w1 ⟨rfl,hb1⟩;have b1:Hid (Below w.heap.size w w1):=HB.out.trans (Below.mono ⟨hb1.os,hb1.tape,hb1.output,hb1.size,hb1.block⟩ HB.out.size);obtain ⟨d0,d1,d2,d3,d4,d5⟩:=HW.out w1 b1.out;clear hb1)
    all_goals
     go_wp2_with fail
     refine genW (b:=w.heap.size) (w:=w) (by first|exact b1.out|exact b1.out.drew|exact below_drewN b1.out _) ?_
     intro w2 b2
     have B2:Hid (Below w.heap.size w w2):=b2
     clear d1 d2 d3 d4 d5 d0 b1 b2
     obtain ⟨d0,d1,d2,d3,d4,d5⟩:=HW.out w2 B2.out
     go_region_with (go_at_call 93;refine (cm2 _).mono ?_;rintro e w3 ⟨rfl,hb3⟩;have b3:Hid (Below w.heap.size w w3):=B2.out.trans (Below.mono ⟨hb3.os,hb3.tape,hb3.output,hb3.size,hb3.block⟩ B2.out.size);obtain ⟨d0,d1,d2,d3,d4,d5⟩:=HW.out w3 b3.out;clear hb3)
     all_goals
      go_wp2_with fail
      refine genC (b:=w.heap.size) (w:=w) (by first|exact b3.out|exact b3.out.drew|exact below_drewN b3.out _) ?_
      intro w4 b4
      have B4:Hid (Below w.heap.size w w4):=b4
      clear d1 d2 d3 d4 d5 d0 b3 b4
      refine (cm3 _ (HP.out _ B4.out)).mono ?_
      rintro e w5 ⟨rfl,b5⟩
      have B5:Hid (Below w.heap.size w w5):=B4.out.trans (b5.mono B4.out.size)
      clear b5
      go_wp2_with fail
      go_roundw
      case rel=>exact ⟨A ++ [p],B',m,j+1,by omega,by go_num,by first|rfl|(congr 1;omega),by omega,by omega,⟨NX.out.2.1,NX.out.2.2,HM.out.trans NX.out.1.symm⟩,B5.out⟩
      case measure=>simp [intOf];omega
   ·have e:j=n:=by omega
    have hB:B=[]:=by
     have h1:=HA.out.1
     have h2:=HA.out.2.1
     have h3:=HN.out
     rw [h1,List.length_append] at h3
     exact List.eq_nil_of_length_eq_zero (by omega)
    subst hB
    have hA:ss=A:=by rw [HA.out.1,List.append_nil]
    have HQ:Hid (q=nSs k ss):=(show _=_ from by rw [HA.out.2.2,hA])
    clear HA hA
    subst e
    go_wp2
    go_ret
    exact ⟨by rw [<- HQ.out];rfl,HB.out⟩
end Rmkf
namespace Rimd
open Go.Deep
open Rown Rowo Rliq Rlip Rlsa Rima Rimb Rimc
open Wors (outI)
open Worr (W)
open Rbyt (byO)
open Otxa (after)
theorem infoPt:(prog.info? 47).map (fun i=>(i.zero,i.size,i.bytes))=some (some (.pointer none),1,8):=by kernel_rfl
theorem gany_cons {P:Program} {ops:Array Oper} {Q:Exit->Act->World->Prop} {md:Region.Mode} {fuel:Nat} {listed:Array Bool} {a:Act} {w:World} {i:Nat} {o:Oper} {rs:List Nat} (ho:ops[i]? = some o) (hg:Region.wanted o (yielded ops a.tmps)=true)
  (h:∀ K':Act->World->Prop,(∀ a w,wpAny P md ops Q fuel (listed.setIfInBounds i true) a w->K' a w)->Oper.wp P o a w K' Q) (hs:AllReady P md ops Q fuel listed a w rs):AllReady P md ops Q fuel listed a w (i :: rs) :=
 AllReady.cons ho (fun K hK=>by simp only [hg,if_true];exact h K hK) hs
theorem readSection_any (bs db:Nat) (bx:List Nat) (sv:Value) (ss:List Sd) (yv:Value) (ys:List Osyr.X) (av:Value) (aa:List Ad) (s:ByteArray) (w:World) (h:Dr bs db bx sv ss yv ys av aa w) (hbs:bs<=w.heap.size) (hC:Cx w) (hs:s.size<=1048576) (hla:ss.length<=100000) :
  Calls prog 66 #[.pointer (some ⟨db,0,none⟩),.string s] w (PostI bs db w (secI (objX ss ys aa) s)):=by
 obtain ⟨a0,c0,hav⟩:=own_slice h.sec
 obtain ⟨nS,hnS⟩ : ∃ n,n=ss.length:=⟨_,rfl⟩
 have HNS:Hid (nS=ss.length):=hnS
 rw [<- hnS] at hav hla
 subst hav
 obtain ⟨R,hR⟩ : ∃ R,R=secI (objX ss ys aa) s:=⟨_,rfl⟩
 rw [<- hR]
 have HR:Hid (R=secI (objX ss ys aa) s):=hR
 have HD:=(show Hid _ from h)
 have HB:Hid (bs<=w.heap.size):=hbs
 have HC:=(show Hid _ from hC)
 have cs:=Wort.split_any s w hs hC.ml
 obtain ⟨n,hn⟩ : ∃ n,(W s).length=n:=⟨_,rfl⟩
 have HN:Hid ((W s).length=n):=hn
 rw [hn] at cs
 have HZ:Hid (∀ i,(gt (W s) i).size<=1048576):=fun i=>by have:=W_sz s i;omega
 have hnl:n<=1048577:=by have:=Wort.W_len_le s;omega
 clear hn hR hnS h hbs hC
 go_enter func66,ntmps66
 go_wp2_with fail
 refine cs.mono ?_
 rintro e w1 ⟨rfl,hw1⟩
 have B1:Hid (Below w.heap.size w w1):=(show Below _ _ _ from by rw [hw1];exact zAl _ _)
 have Z1:Hid (w1.heap.size=w.heap.size+1):=(show _=_ from by rw [hw1];simp)
 have X1:Hid (∀ i,i<n->w1.cell? ⟨w.heap.size,i,none⟩=some (.string (gt (W s) i))):=fun i hi=>by rw [hw1,World.cell?_alloc_new];exact gt_w (by rw [HN.out];exact hi)
 clear hw1 cs
 by_cases h5:n=5
 ·have d5:decide ((n:Int)=5)=true:=decide_eq_true (by omega)
  have d5':((n:Int) == 5)=true:=by simp;omega
  subst h5
  have x0:=X1.out 0 (by omega)
  have L4:(w.heap.size)<w1.heap.size:=by rw [Z1.out];omega
  have x4:∀ o,(w1.alloc o).cell? ⟨w.heap.size,4,none⟩=some (.string (gt (W s) 4)):=fun o=>(((Below.refl w1.heap.size w1).alloc (Nat.le_refl _) o).cell (p:=⟨w.heap.size,4,none⟩) L4).trans (X1.out 4 (by omega))
  generalize hg0:gt (W s) 0=X0 at x0
  have HG0:Hid (gt (W s) 0=X0):=hg0
  have HL2:Hid (∀ o,Below w1.heap.size w1 (w1.alloc o)):=fun o=>zAl _ _
  have cb:=fun W' hT=>Rbyu.implBytes_any (gt (W s) 4) W' hT (HZ.out 4)
  unfold Rbyt.Told9 at cb
  obtain ⟨q5,hq5⟩ : ∃ q,(byO (gt (W s) 4).data.toList).isSome=q:=⟨_,rfl⟩
  have H5:Hid ((byO (gt (W s) 4).data.toList).isSome=q5):=hq5
  rw [hq5] at cb
  clear hg0 hq5
  generalize hg4:gt (W s) 4=X4 at x4 cb H5
  have HG4:Hid (gt (W s) 4=X4):=hg4
  clear hg4
  go_wp2_with fail
  refine (cb _ ((HC.out.below (B1.out.trans ((HL2.out _).mono (by omega)))).hex)).mono ?_
  rintro e w3 ⟨⟨dt,rfl,hdt⟩,b3⟩
  have HDT:Hid (∀ l,byO X4.data.toList=some l->dt=⟨l.toArray⟩):=hdt
  have B3':Hid (Below w1.heap.size w1 w3):=(HL2.out _).trans (b3.mono (HL2.out _).size)
  have B3:Hid (Below w.heap.size w w3):=B1.out.trans (B3'.out.mono (by omega))
  have CB:Hid (w3.heap[w1.heap.size]? = some (.cells #[.string X0,.int .i64 0,.int .i64 0,.int .i64 0,.string ⟨#[]⟩,.slice none 0 0] 35 (0,0))):=(b3.block _ (by simp)).trans (heap_alloc_last w1 _)
  have Z3:Hid (w1.heap.size<w3.heap.size):=(show _<_ from by have:=b3.size;simp at this;omega)
  have X3:Hid (∀ i,i<5->w3.cell? ⟨w.heap.size,i,none⟩=some (.string (gt (W s) i))):=fun i hi=>(B3'.out.cell (p:=⟨w.heap.size,i,none⟩) L4).trans (X1.out i hi)
  clear hdt b3 x0 x4 cb
  cases q5 with
  | false =>
   have HN0:Hid (R=none):=(show R=none from by rw [HR.out];unfold secI;rw [if_pos HN.out,HG4.out,opt_no H5.out])
   clear HR
   go_upto_region 6 with fail
   go_quiet (fail)
   go_wp2
   go_ret
   exact ⟨KB.of HB.out (Seco.drewN_below B3.out _),by rw [HN0.out];rfl⟩
  | true =>
   have HL:Hid (∀ o,Below w3.heap.size w3 ((w3.alloc o).drew)):=fun o=>(zAl _ _).drew
   have cn:Calls prog 105 #[.slice (some ⟨w.heap.size,1,none⟩) 3 4,.slice (some ⟨w3.heap.size,0,none⟩) 3 3] (w3.alloc (.cells #[.pointer (some ⟨w1.heap.size,1,none⟩),.pointer (some ⟨w1.heap.size,2,none⟩),.pointer (some ⟨w1.heap.size,3,none⟩)] 142)).drew (ToldN (w3.alloc (.cells #[.pointer (some ⟨w1.heap.size,1,none⟩),.pointer (some ⟨w1.heap.size,2,none⟩),.pointer (some ⟨w1.heap.size,3,none⟩)] 142)).drew w1.heap.size 35 #[.string X0,.int .i64 0,.int .i64 0,.int .i64 0,.string ⟨#[]⟩,.slice none 0 0] [1,2,3] [gt (W s) 1,gt (W s) 2,gt (W s) 3]):=by
    have z1:=Z1.out
    have z3:=Z3.out
    have hE:=(HC.out.below B3.out).er
    refine numbers_any w.heap.size 1 4 w3.heap.size 3 w1.heap.size 35 #[.string X0,.int .i64 0,.int .i64 0,.int .i64 0,.string ⟨#[]⟩,.slice none 0 0] [1,2,3] [gt (W s) 1,gt (W s) 2,gt (W s) 3] _ (hE.below (HL.out _)) (fun i hi=>?_) (fun i hi=>?_) ?_ (fun i hi=>?_) (by omega) (by omega) (by simp) (fun i hi=>?_) rfl ?_
    ·have hi:i<3:=hi
     refine ((HL.out _).cell (p:=⟨w.heap.size,1+i,none⟩) (by show w.heap.size<w3.heap.size;omega)).trans ((X3.out (1+i) (by omega)).trans ?_)
     match i,hi with
     | 0,_=>rfl
     | 1,_=>rfl
     | 2,_=>rfl
    ·have hi:i<3:=hi
     show World.cell? (w3.alloc _) _=_
     rw [World.cell?_alloc_new]
     match i,hi with
     | 0,_=>rfl
     | 1,_=>rfl
     | 2,_=>rfl
    ·exact ((HL.out _).block _ (by omega)).trans CB.out
    ·have hi:i<3:=hi
     match i,hi with
     | 0,_=>exact (by decide:1<6)
     | 1,_=>exact (by decide:2<6)
     | 2,_=>exact (by decide:3<6)
    ·have hi:i<3:=hi
     match i,hi with
     | 0,_=>exact HZ.out 1
     | 1,_=>exact HZ.out 2
     | 2,_=>exact HZ.out 3
    ·obtain ⟨⟨t,p,e1⟩,⟨t',p',e2⟩⟩:=HC.out.er
     have l1:=World.block_lt_of_cell? w ⟨_,0,none⟩ e1
     have l2:=World.block_lt_of_cell? w ⟨_,0,none⟩ e2
     have l1:6<w.heap.size:=l1
     have l2:7<w.heap.size:=l2
     omega
   have FN:Hid (∀ (e:Ending) (u:World),ToldN (w3.alloc (.cells #[.pointer (some ⟨w1.heap.size,1,none⟩),.pointer (some ⟨w1.heap.size,2,none⟩),.pointer (some ⟨w1.heap.size,3,none⟩)] 142)).drew w1.heap.size 35 #[.string X0,.int .i64 0,.int .i64 0,.int .i64 0,.string ⟨#[]⟩,.slice none 0 0] [1,2,3] [gt (W s) 1,gt (W s) 2,gt (W s) 3] e u->Below w.heap.size w u/\((e=.returned (.bool false)/\R=none) \/ (e=.returned (.bool true)/\∃ m1 m2 m3,R=some (objX (ss ++ [⟨X0,m1,m2,m3,dt,.slice none 0 0,[]⟩]) ys aa)/\u.heap[w1.heap.size]? = some (.cells #[.string X0,.int .i64 m1,.int .i64 m2,.int .i64 m3,.string ⟨#[]⟩,.slice none 0 0] 35 (0,0))))):=fun e u hN=>by
    have z1:=Z1.out
    have z3:=Z3.out
    obtain ⟨hg3,hN⟩:=hN
    have BL:Below w.heap.size w (w3.alloc (.cells #[.pointer (some ⟨w1.heap.size,1,none⟩),.pointer (some ⟨w1.heap.size,2,none⟩),.pointer (some ⟨w1.heap.size,3,none⟩)] 142)).drew:=B3.out.trans ((HL.out _).mono (by omega))
    refine ⟨BL.grown hg3 (by simp;omega) (fun r hr=>by cases hr;omega),?_⟩
    rcases hN with ⟨rfl,hq⟩|⟨rfl,i,hi,hnone⟩
    ·right
     have y1:(numP (gt (W s) 1)).isSome=true:=hq.y 0 (by simp)
     have y2:(numP (gt (W s) 2)).isSome=true:=hq.y 1 (by simp)
     have y3:(numP (gt (W s) 3)).isSome=true:=hq.y 2 (by simp)
     obtain ⟨m1,hm1⟩:=Option.isSome_iff_exists.1 y1
     obtain ⟨m2,hm2⟩:=Option.isSome_iff_exists.1 y2
     obtain ⟨m3,hm3⟩:=Option.isSome_iff_exists.1 y3
     obtain ⟨D,hD⟩:=Option.isSome_iff_exists.1 H5.out
     refine ⟨rfl,m1,m2,m3,?_,?_⟩
     ·rw [HR.out];unfold secI;rw [if_pos HN.out,HG4.out,hD,hm1,hm2,hm3,HG0.out]
      have e:dt=wB D:=HDT.out D hD
      rw [e]
      unfold objX
      rw [List.map_append];rfl
     ·have h:u.heap[w1.heap.size]? = some (.cells (putN #[.string X0,.int .i64 0,.int .i64 0,.int .i64 0,.string ⟨#[]⟩,.slice none 0 0] [1,2,3] [gt (W s) 1,gt (W s) 2,gt (W s) 3] 3) 35 (0,0)):=hq.c
      have e:putN #[.string X0,.int .i64 0,.int .i64 0,.int .i64 0,.string ⟨#[]⟩,.slice none 0 0] [1,2,3] [gt (W s) 1,gt (W s) 2,gt (W s) 3] 3=#[.string X0,.int .i64 ((numP (gt (W s) 1)).getD 0),.int .i64 ((numP (gt (W s) 2)).getD 0),.int .i64 ((numP (gt (W s) 3)).getD 0),.string ⟨#[]⟩,.slice none 0 0]:=rfl
      rw [e,hm1,hm2,hm3] at h
      exact h
    ·left
     refine ⟨rfl,?_⟩
     rw [HR.out];unfold secI;rw [if_pos HN.out]
     have hi:i<3:=hi
     match i,hi with
     | 0,_ =>
      have h:numP (gt (W s) 1)=none:=hnone
      rw [h];cases byO (gt (W s) 4).data.toList <;> rfl
     | 1,_ =>
      have h:numP (gt (W s) 2)=none:=hnone
      rw [h];cases byO (gt (W s) 4).data.toList <;> cases numP (gt (W s) 1) <;> rfl
     | 2,_ =>
      have h:numP (gt (W s) 3)=none:=hnone
      rw [h];cases byO (gt (W s) 4).data.toList <;> cases numP (gt (W s) 1) <;> cases numP (gt (W s) 2) <;> rfl
   clear L4
   go_upto_region 6 with fail
   refine wp_region_any (by kernel_rfl) ?_
   try (change wpAny _ _ _ _ _ _ _ (World.drew _))
   refine wpAny_take (i:=0) (v:=?v0) rfl (by kernel_rfl) (by kernel_rfl) (by kernel_rfl) (fun _ _ _ h=>h) (Or.inl ⟨by rfl,?hy0⟩) ?rest0
   case hy0=>(intro w;go_simp;try with_reducible rfl)
   refine wpAny_take (i:=1) (v:=?v1) rfl (by kernel_rfl) (by kernel_rfl) (by kernel_rfl) (fun _ _ _ h=>h) (Or.inl ⟨by rfl,?hy1⟩) ?rest1
   case hy1=>(intro w;go_simp;try with_reducible rfl)
   go_simp
   refine wpAny_take (i:=2) (v:=?v2) rfl (by kernel_rfl) (by kernel_rfl) (by kernel_rfl) (fun _ _ _ h=>h) (Or.inl ⟨by rfl,?hy2⟩) ?rest2
   case hy2=>(intro w;go_simp;try with_reducible rfl)
   refine wpAny_take (i:=3) (v:=?v3) rfl (by kernel_rfl) (by kernel_rfl) (by kernel_rfl) (fun _ _ _ h=>h) (Or.inl ⟨by rfl,?hy3⟩) ?rest3
   case hy3=>(intro w;go_simp;try with_reducible rfl)
   go_simp
   refine wpAny_take (i:=4) (v:=?v4) rfl (by kernel_rfl) (by kernel_rfl) (by kernel_rfl) (fun _ _ _ h=>h) (Or.inl ⟨by rfl,?hy4⟩) ?rest4
   case hy4=>(intro w;go_simp;try with_reducible rfl)
   refine wpAny_take (i:=5) (v:=?v5) rfl (by kernel_rfl) (by kernel_rfl) (by kernel_rfl) (fun _ _ _ h=>h) (Or.inl ⟨by rfl,?hy5⟩) ?rest5
   case hy5=>(intro w;go_simp;try with_reducible rfl)
   go_simp
   refine wpAny_take (i:=6) (v:=?v6) rfl (by kernel_rfl) (by kernel_rfl) (by kernel_rfl) (fun _ _ _ h=>h) (Or.inl ⟨by rfl,?hy6⟩) ?rest6
   case hy6=>(intro w;go_simp;try with_reducible rfl)
   refine wpAny_take (i:=7) (v:=?v7) rfl (by kernel_rfl) (by kernel_rfl) (by kernel_rfl) (fun _ _ _ h=>h) (Or.inl ⟨by rfl,?hy7⟩) ?rest7
   case hy7=>(intro w;go_simp;try with_reducible rfl)
   go_simp
   refine wpAny_take (i:=8) (v:=?v8) rfl (by kernel_rfl) (by kernel_rfl) (by kernel_rfl) (fun _ _ _ h=>h) (Or.inl ⟨by rfl,?hy8⟩) ?rest8
   case hy8=>(intro w;go_simp;try with_reducible rfl)
   refine wpAny_take (i:=9) (v:=?v9) rfl (by kernel_rfl) (by kernel_rfl) (by kernel_rfl) (fun _ _ _ h=>h) (Or.inl ⟨by rfl,?hy9⟩) ?rest9
   case hy9=>(intro w;go_simp;try with_reducible rfl)
   go_simp
   refine wpAny_take (i:=10) (v:=?v10) rfl (by kernel_rfl) (by kernel_rfl) (by kernel_rfl) (fun _ _ _ h=>h) (Or.inl ⟨by rfl,?hy10⟩) ?rest10
   case hy10=>(intro w;go_simp;try with_reducible rfl)
   refine wpAny_take (i:=11) (v:=?v11) rfl (by kernel_rfl) (by kernel_rfl) (by kernel_rfl) (fun _ _ _ h=>h) (Or.inl ⟨by rfl,?hy11⟩) ?rest11
   case hy11=>(intro w;go_simp;try with_reducible rfl)
   go_simp
   refine wpAny_take (i:=12) (v:=?v12) rfl (by kernel_rfl) (by kernel_rfl) (by kernel_rfl) (fun _ _ _ h=>h) (Or.inl ⟨by rfl,?hy12⟩) ?rest12
   case hy12=>(intro w;go_simp;try with_reducible rfl)
   refine wpAny_take (i:=13) (v:=?v13) rfl (by kernel_rfl) (by kernel_rfl) (by kernel_rfl) (fun _ _ _ h=>h) (Or.inl ⟨by rfl,?hy13⟩) ?rest13
   case hy13=>(intro w;go_simp;try with_reducible rfl)
   go_simp
   refine wpAny_ready (rs:=[14]) (by kernel_rfl) (by simp) ?_
   refine gany_cons rfl (by rfl) (fun K hK=>?_) AllReady.nil
   go_simp
   refine hK _ _ ?_
   clear hK
   refine wpAny_ready (rs:=[15]) (by kernel_rfl) (by simp) ?_
   refine gany_cons rfl (by rfl) (fun K hK=>?_) AllReady.nil
   go_wp2_with fail
   refine cn.mono ?_
   intro e w4 hN
   obtain ⟨b4,hc⟩:=FN.out e w4 hN
   have B4:Hid (Below w.heap.size w w4):=b4
   clear b4 hN cn FN HL CB X3 HR
   rcases hc with ⟨rfl,hno⟩|⟨rfl,m1,m2,m3,hR1,hc1⟩
   ·have HN0:Hid (R=none):=hno
    clear hno
    refine hK _ _ ?_
    clear hK
    refine wpAny_take (i:=16) (v:=?v16a) rfl (by kernel_rfl) (by kernel_rfl) (by kernel_rfl) (fun _ _ _ h=>h) (Or.inl ⟨by rfl,?hy16a⟩) ?rest16a
    case hy16a=>(intro w;go_simp;try with_reducible rfl)
    refine wpAny_take (i:=17) (v:=?v17a) rfl (by kernel_rfl) (by kernel_rfl) (by kernel_rfl) (fun _ _ _ h=>h) (Or.inl ⟨by rfl,?hy17a⟩) ?rest17a
    case hy17a=>(intro w;go_simp;try with_reducible rfl)
    go_simp
    refine wpAny_done (by kernel_rfl) ?_ _
    go_wp2
    go_ret
    exact ⟨KB.of HB.out B4.out,by rw [HN0.out];rfl⟩
   ·have HR1:Hid (R=_):=hR1
    have C4:Hid (w4.heap[w1.heap.size]? = _):=hc1
    clear hR1 hc1
    refine hK _ _ ?_
    clear hK
    refine wpAny_take (i:=16) (v:=?v16b) rfl (by kernel_rfl) (by kernel_rfl) (by kernel_rfl) (fun _ _ _ h=>h) (Or.inl ⟨by rfl,?hy16b⟩) ?rest16b
    case hy16b=>(intro w;go_simp;try with_reducible rfl)
    refine wpAny_take (i:=17) (v:=?v17b) rfl (by kernel_rfl) (by kernel_rfl) (by kernel_rfl) (fun _ _ _ h=>h) (Or.inl ⟨by rfl,?hy17b⟩) ?rest17b
    case hy17b=>(intro w;go_simp;try with_reducible rfl)
    go_simp
    refine wpAny_done (by kernel_rfl) ?_ _
    have s4:∃ v,w4.cell? ⟨w1.heap.size,4,none⟩=some v:=by rw [cell_of_row _ _ _ _ _ _ C4.out];exact ⟨_,rfl⟩
    obtain ⟨v4,s4⟩:=s4
    have f4:w4.frozen? ⟨w1.heap.size,4,none⟩=false:=frozen_of_row _ _ _ _ _ C4.out
    have W5:Hid (∀ u,u=w4.setCell ⟨w1.heap.size,4,none⟩ (.string dt)->Below w.heap.size w u/\u.heap[w1.heap.size]? = some (.cells #[.string X0,.int .i64 m1,.int .i64 m2,.int .i64 m3,.string dt,.slice none 0 0] 35 (0,0))):=fun u hu=>by
     subst hu
     exact ⟨B4.out.setCell (p:=⟨w1.heap.size,4,none⟩) (show w.heap.size<=w1.heap.size by have:=Z1.out;omega) _,heap_setCell_same _ _ _ _ _ _ C4.out⟩
    go_upto_region 9 with fail
    obtain ⟨w5,hw5⟩ : ∃ u,u=w4.setCell ⟨w1.heap.size,4,none⟩ (.string dt):=⟨_,rfl⟩
    rw [<- hw5]
    obtain ⟨b5,c5⟩:=W5.out w5 hw5
    have B5:Hid (Below w.heap.size w w5):=b5
    have C5:Hid (w5.heap[w1.heap.size]? = _):=c5
    have D5:=(show Hid _ from HD.out.below b5)
    clear hw5 b5 c5 W5 s4 f4
    have k0:w5.cell? ⟨db,0,none⟩=some (.slice a0 nS c0):=by rw [cell_of_row _ _ _ _ _ _ D5.out.cd];rfl
    obtain ⟨i0,hi,hz0,hz1,hz2⟩:=info_parts infoPt
    have GB:Hid (∀ o,Below w5.heap.size w5 (w5.alloc o)):=fun o=>zAl _ _
    have OWN:Hid (∀ o,(w5.alloc o).ownsRow bs 47 1 (.slice a0 nS c0) nS (bx.map fun b=>.pointer (some ⟨b,0,none⟩))):=fun o=>by
     have h:=(D5.out.below (GB.out o)).sec
     rwa [<- HNS.out] at h
    have hbs6:Hid (∀ o,bs<=(w5.alloc o).heap.size):=fun o=>by have:=HB.out;have:=B5.out.size;have:=(GB.out o).size;omega
    have FIN:Hid (∀ (o:Obj) (w7:World) (g' c':Nat),w7.ownsRow bs 47 1 (.slice (some ⟨g',0,none⟩) (nS+1) c') (nS+1) ((bx.map fun b=>.pointer (some ⟨b,0,none⟩)) ++ [.pointer (some ⟨w1.heap.size,0,none⟩)])->(w5.alloc o).grownBy w7 (Value.slice a0 nS c0).ownBlock ->
      Dr bs db (bx ++ [w1.heap.size]) (.slice (some ⟨g',0,none⟩) (nS+1) c') (ss ++ [⟨X0,m1,m2,m3,dt,.slice none 0 0,[]⟩]) yv ys av aa (w7.setCell ⟨db,0,none⟩ (.slice (some ⟨g',0,none⟩) (nS+1) c'))/\KB bs db w (w7.setCell ⟨db,0,none⟩ (.slice (some ⟨g',0,none⟩) (nS+1) c'))/\w7.cell? ⟨db,0,none⟩=some (.slice a0 nS c0)/\w7.frozen? ⟨db,0,none⟩=false):=fun o w7 g' c' ho hg=>by
     have hd:=D5.out.below (GB.out o)
     have hnot:w1.heap.size ∉ bx:=fun hm=>by have:=HD.out.lt _ hm;have:=Z1.out;omega
     obtain ⟨p1,p2⟩:=hd.addS X0 dt m1 m2 m3 (((GB.out o).block _ (zLo C5.out)).trans C5.out) (by have:=HB.out;have:=Z1.out;omega) hnot (by rw [<- HNS.out];exact ho) hg
     refine ⟨p1,?_,by rw [cell_of_row _ _ _ _ _ _ p2];rfl,frozen_of_row _ _ _ _ _ p2⟩
     exact ((KB.of HB.out (B5.out.trans ((GB.out o).mono B5.out.size))).trans (KB.grown (hbs6.out o) hg (fun r hr=>((OWN.out o).lt r hr).1))).trans KB.cell
    have kA:∀ o,(w5.alloc o).cell? ⟨db,0,none⟩=some (.slice a0 nS c0):=fun o=>((GB.out o).cell (p:=⟨db,0,none⟩) (zLo D5.out.cd)).trans k0
    have hl63:nS+1<=maxLen:=by unfold maxLen;omega
    clear GB
    go_wp2_with (first|(at_builtin;refine wpList_append_lies _ rfl (.tmp 52) (.tmp 54) 56 rfl bs 47 i0 (.pointer none) 1 8 underlying56 hi hz0 hz1 hz2 rfl (by decide) (.slice a0 nS c0) nS (bx.map fun b=>.pointer (some ⟨b,0,none⟩)) rfl (OWN.out _) ⟨w5.heap.size,0,none⟩ 1 1 [.pointer (some ⟨w1.heap.size,0,none⟩)] rfl rfl (newP w5 [.pointer (some ⟨w1.heap.size,0,none⟩)] 47) (by intro u hu;simp at hu;subst hu;rfl) (by decide) hl63 (by omega) (hbs6.out _) _ rfl ?_)|fail)
    intro g' c' w7 hown' hgrow hat hlt'
    obtain ⟨p7,kb7,d0,f0⟩:=FIN.out _ w7 g' c' hown' hgrow
    have S7:=(show Hid _ from And.intro p7 kb7)
    clear p7 kb7 hown' hgrow hat hlt'
    go_wp2
    go_ret
    refine ⟨S7.out.2,?_⟩
    rw [HR1.out]
    exact ⟨_,_,_,yv,ys,av,aa,rfl,S7.out.1,rfl⟩
 ·have d5:decide ((n:Int)=5)=false:=decide_eq_false (by omega)
  have d5':((n:Int) == 5)=false:=by simp;omega
  have HN0:Hid (R=none):=(show R=none from by rw [HR.out];unfold secI;rw [if_neg (by rw [HN.out];exact h5)])
  clear HR
  go_wp2
  go_ret
  exact ⟨KB.of HB.out B1.out,by rw [HN0.out];rfl⟩
end Rimd
end Go.Proofs.YtepafieckjnkdaaGreatDoor
