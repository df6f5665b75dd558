import Derived.Test.YteglcgnhhoenbaaGreatDoorQ37
import Derived.Deep.DeepCutAuto
set_option linter.all false
set_option maxRecDepth 20000
set_option maxHeartbeats 8000000
open Go.ChangeShapes Go.WideShapes Go.ChangeAt Go.RowKit
open Go.Proofs.Tryz
namespace Go.Proofs.YteglcgnhhoenbaaGreatDoor
namespace Stpl
open Go.Deep
open Signed (inB sgn aG aB)
open Busw Busx Stpp Stpq Stpi Stpj Stpm Stpu Stpt Stpc Stpe Stph Stpo
open MachT (bG aZ bJ)
structure Fr (w w':World) (po:Option Addr):Prop where
 os:w'.os=w.os
 tape:w'.tape=w.tape
 output:w'.output=w.output
 size:w.heap.size<=w'.heap.size
 block:∀ k,k<w.heap.size->some k ≠ blk po->w'.heap[k]? = w.heap[k]?
theorem Fr.of {w w':World} {po:Option Addr} (h:Below w.heap.size w w'):Fr w w' po:=⟨h.os,h.tape,h.output,h.size,fun k hk _=>h.block k hk⟩
structure Ok (w:World) (base:Nat) (m:M) (po:Option Addr) (cap:Nat):Prop where
 row:w.ownsRow base 2 1 (.slice po m.out.length cap) m.out.length (dJ m.out)
 good:Stpq.Good m
 cyc:0<=m.cyc/\m.cyc<=1000000000
 tab:Tb w
 max:HolI.MaxL w
 bT:1<base/\2<base/\9<base
 bw:base<=w.heap.size
def wG (w:World) (base:Nat) (m:M) (po:Option Addr) (e:Ending) (w':World):Prop:=∃ po' cap',e=.returned (.tuple #[.agg (aA (bR m).1 po' cap'),.int .i64 (bR m).2])/\w'.ownsRow base 2 1 (.slice po' (bR m).1.out.length cap') (bR m).1.out.length (dJ (bR m).1.out)/\Fr w w' po/\nA w po po'
theorem jB {w w':World} {base n cap:Nat} {po:Option Addr} {xs:List Value} (h:w.ownsRow base 2 1 (.slice po n cap) n xs) (hb:Below w.heap.size w w'):w'.ownsRow base 2 1 (.slice po n cap) n xs :=
 h.kept (row:=none) ⟨hb.os,hb.tape,hb.output,hb.size,fun k hk _=>hb.block k hk⟩ (by cases hv:(Value.slice po n cap).ownBlock <;> simp)
theorem bKR {w:World} {K:Nat} {T:TypeId} {c0 c1 c2 c3 c4 c5 c6 c7 c8 c9 c10 v0 v1 v2 v3 v4 v5 v6 v7 v8 v9 v10:Value} (h:w.heap[K]? = some (.cells #[c0,c1,c2,c3,c4,c5,c6,c7,c8,c9,c10] T)):(((((((((((w.setCell ⟨K,0,none⟩ v0).setCell ⟨K,1,none⟩ v1).setCell ⟨K,2,none⟩ v2).setCell ⟨K,3,none⟩ v3).setCell ⟨K,4,none⟩ v4).setCell ⟨K,5,none⟩ v5).setCell ⟨K,6,none⟩ v6).setCell ⟨K,7,none⟩ v7).setCell ⟨K,8,none⟩ v8).setCell ⟨K,9,none⟩ v9).setCell ⟨K,10,none⟩ v10).heap[K]? = some (.cells #[v0,v1,v2,v3,v4,v5,v6,v7,v8,v9,v10] T):=by
 have h0:(w.setCell ⟨K,0,none⟩ v0).heap[K]? = some (.cells #[v0,c1,c2,c3,c4,c5,c6,c7,c8,c9,c10] T):=(heap_setCell_same _ _ _ _ _ _ h).trans rfl;have h1:((w.setCell ⟨K,0,none⟩ v0).setCell ⟨K,1,none⟩ v1).heap[K]? = some (.cells #[v0,v1,c2,c3,c4,c5,c6,c7,c8,c9,c10] T):=(heap_setCell_same _ _ _ _ _ _ h0).trans rfl;have h2:(((w.setCell ⟨K,0,none⟩ v0).setCell ⟨K,1,none⟩ v1).setCell ⟨K,2,none⟩ v2).heap[K]? = some (.cells #[v0,v1,v2,c3,c4,c5,c6,c7,c8,c9,c10] T):=(heap_setCell_same _ _ _ _ _ _ h1).trans rfl;have h3:((((w.setCell ⟨K,0,none⟩ v0).setCell ⟨K,1,none⟩ v1).setCell ⟨K,2,none⟩ v2).setCell ⟨K,3,none⟩ v3).heap[K]? = some (.cells #[v0,v1,v2,v3,c4,c5,c6,c7,c8,c9,c10] T):=(heap_setCell_same _ _ _ _ _ _ h2).trans rfl;have h4:(((((w.setCell ⟨K,0,none⟩ v0).setCell ⟨K,1,none⟩ v1).setCell ⟨K,2,none⟩ v2).setCell ⟨K,3,none⟩ v3).setCell ⟨K,4,none⟩ v4).heap[K]? = some (.cells #[v0,v1,v2,v3,v4,c5,c6,c7,c8,c9,c10] T):=(heap_setCell_same _ _ _ _ _ _ h3).trans rfl;have h5:((((((w.setCell ⟨K,0,none⟩ v0).setCell ⟨K,1,none⟩ v1).setCell ⟨K,2,none⟩ v2).setCell ⟨K,3,none⟩ v3).setCell ⟨K,4,none⟩ v4).setCell ⟨K,5,none⟩ v5).heap[K]? = some (.cells #[v0,v1,v2,v3,v4,v5,c6,c7,c8,c9,c10] T):=(heap_setCell_same _ _ _ _ _ _ h4).trans rfl;have h6:(((((((w.setCell ⟨K,0,none⟩ v0).setCell ⟨K,1,none⟩ v1).setCell ⟨K,2,none⟩ v2).setCell ⟨K,3,none⟩ v3).setCell ⟨K,4,none⟩ v4).setCell ⟨K,5,none⟩ v5).setCell ⟨K,6,none⟩ v6).heap[K]? = some (.cells #[v0,v1,v2,v3,v4,v5,v6,c7,c8,c9,c10] T):=(heap_setCell_same _ _ _ _ _ _ h5).trans rfl;have h7:((((((((w.setCell ⟨K,0,none⟩ v0).setCell ⟨K,1,none⟩ v1).setCell ⟨K,2,none⟩ v2).setCell ⟨K,3,none⟩ v3).setCell ⟨K,4,none⟩ v4).setCell ⟨K,5,none⟩ v5).setCell ⟨K,6,none⟩ v6).setCell ⟨K,7,none⟩ v7).heap[K]? = some (.cells #[v0,v1,v2,v3,v4,v5,v6,v7,c8,c9,c10] T):=(heap_setCell_same _ _ _ _ _ _ h6).trans rfl;have h8:(((((((((w.setCell ⟨K,0,none⟩ v0).setCell ⟨K,1,none⟩ v1).setCell ⟨K,2,none⟩ v2).setCell ⟨K,3,none⟩ v3).setCell ⟨K,4,none⟩ v4).setCell ⟨K,5,none⟩ v5).setCell ⟨K,6,none⟩ v6).setCell ⟨K,7,none⟩ v7).setCell ⟨K,8,none⟩ v8).heap[K]? = some (.cells #[v0,v1,v2,v3,v4,v5,v6,v7,v8,c9,c10] T):=(heap_setCell_same _ _ _ _ _ _ h7).trans rfl;have h9:((((((((((w.setCell ⟨K,0,none⟩ v0).setCell ⟨K,1,none⟩ v1).setCell ⟨K,2,none⟩ v2).setCell ⟨K,3,none⟩ v3).setCell ⟨K,4,none⟩ v4).setCell ⟨K,5,none⟩ v5).setCell ⟨K,6,none⟩ v6).setCell ⟨K,7,none⟩ v7).setCell ⟨K,8,none⟩ v8).setCell ⟨K,9,none⟩ v9).heap[K]? = some (.cells #[v0,v1,v2,v3,v4,v5,v6,v7,v8,v9,c10] T):=(heap_setCell_same _ _ _ _ _ _ h8).trans rfl;have h10:(((((((((((w.setCell ⟨K,0,none⟩ v0).setCell ⟨K,1,none⟩ v1).setCell ⟨K,2,none⟩ v2).setCell ⟨K,3,none⟩ v3).setCell ⟨K,4,none⟩ v4).setCell ⟨K,5,none⟩ v5).setCell ⟨K,6,none⟩ v6).setCell ⟨K,7,none⟩ v7).setCell ⟨K,8,none⟩ v8).setCell ⟨K,9,none⟩ v9).setCell ⟨K,10,none⟩ v10).heap[K]? = some (.cells #[v0,v1,v2,v3,v4,v5,v6,v7,v8,v9,v10] T):=(heap_setCell_same _ _ _ _ _ _ h9).trans rfl;exact h10
theorem aXT {w:World} {a:World} {K:Nat} {v0 v1 v2 v3 v4 v5 v6 v7 v8 v9 v10:Value} (h:Below a.heap.size a w) (hk:a.heap.size<=K):Below a.heap.size a (((((((((((w.setCell ⟨K,0,none⟩ v0).setCell ⟨K,1,none⟩ v1).setCell ⟨K,2,none⟩ v2).setCell ⟨K,3,none⟩ v3).setCell ⟨K,4,none⟩ v4).setCell ⟨K,5,none⟩ v5).setCell ⟨K,6,none⟩ v6).setCell ⟨K,7,none⟩ v7).setCell ⟨K,8,none⟩ v8).setCell ⟨K,9,none⟩ v9).setCell ⟨K,10,none⟩ v10) :=
 ((((((((((h.setCell hk _).setCell hk _).setCell hk _).setCell hk _).setCell hk _).setCell hk _).setCell hk _).setCell hk _).setCell hk _).setCell hk _).setCell hk _
theorem aQW {g:G} {wc w:World} {m m1:M} {po:Option Addr} {cap base Kb bN:Nat} {c:Int} {cb:Bool} {imm xP yP zP pP qP:Int} (hg:g=⟨wc,Kb,bN,base,c,cb,imm,xP,yP,zP,pP,qP,po,m.out.length,cap,m.out⟩) (hO:Ok w base m po cap)
  (hN:wc.heap[bN]? = some (.cells (aA m1 po cap) 30)) (hK:wc.heap[Kb]? = some (.cells #[.pointer (some ⟨bN,0,none⟩),.pointer (some ⟨bN,0,none⟩),.int .i64 c,.bool cb,.int .i64 imm,.int .i64 xP,.int .i64 yP,.int .i64 zP,.int .i64 pP,.int .i64 qP,.bool false] 127)) (hB:Below w.heap.size w wc) (ho:m1.out=m.out) (l1:w.heap.size<=bN) (l2:w.heap.size<=Kb):In g wc m1 false:=by
 subst hg;have hr:=jB hO.row hB;have hbw:=hO.bw;have hr1:wc.ownsRow base 2 1 (.slice po m1.out.length cap) m1.out.length (dJ m1.out):=by rw [ho];exact hr
 exact ⟨po,cap,⟨hN,hr1,dK hr1 hN⟩,hK,hr,fun _=>by rw [ho];exact Nat.le_refl _,rfl,rfl,rfl,Nat.le_refl _,fun _ _ _ _ _=>rfl,.inl rfl,hO.tab.below hB,by show base<=bN;omega,by show base<=Kb;omega,⟨hO.bT.1,hO.bT.2.1⟩,fun k e=>(xZ hr e).2⟩
theorem aQX {m m1:M} {n c cv:Int} {cb:Bool} {imm:Int} (hE:n=lenOf m/\c=(bO m).1/\cb=(bO m).2.1/\imm=(bO m).2.2) (h1:m1={ cm (m.cyc+cv) m with pc:=(m.pc+n)%65536 }):sem c cb imm ⟨m1,false⟩=cp (m.cyc+cv) (kV m):=by
 obtain ⟨rfl,rfl,rfl,rfl⟩:=hE;rw [h1];exact bBN (m.cyc+cv) _ _ _ ⟨cJ m,false⟩
theorem aXU {m m1:M} {n c cv:Int} {cb b:Bool} {imm:Int} (hh:m.hal=false) (hE:n=lenOf m/\c=(bO m).1/\cb=(bO m).2.1/\imm=(bO m).2.2) (hI:Ins m c cb imm) (hmet:met c cb m.rf=b) (hcv:cv=CycX.cyc c cb b) (h1:m1={ cm (m.cyc+cv) m with pc:=(m.pc+n)%65536 }) (hn:¬ lenOf m=0) :
  bR m=if (sem c cb imm ⟨m1,false⟩).1.full=true \/ 1000000000<m.cyc+cv then (m,4) else ((sem c cb imm ⟨m1,false⟩).1.m,0):=by
 rw [aQX hE h1];obtain ⟨-,rfl,rfl,rfl⟩:=hE;have hc:nS m=m.cyc+cv:=by
  unfold nS;rw [hcv];have hn2:met (bO m).1 (bO m).2.1 (cJ m).rf=b:=hmet
  cases b with
  | true=>rw [aXS (cJ m) false _ _ (bO m).2.2 hI.cbd hI.non hn2];rfl
  | false =>
   have h:=aFD (cJ m) false _ _ (bO m).2.2 hI.cbd hn2;have h2:(kV m).2=false:=by unfold kV;rw [h]
   rw [h2]
 unfold bR;rw [if_neg (by rw [hh];decide),if_neg hn,hc]
 rfl
theorem wH {g:G} {w wc W:World} {m t:M} {f:Bool} {po po7:Option Addr} {cap cap7 base bN Kb:Nat} {c:Int} {cb:Bool} {imm:Int} {cs:Array Value} (hG:g.W0=wc/\g.code=c/\g.cb=cb/\g.imm=imm/\g.po0=po/\g.base=base/\g.n0=m.out.length/\g.cap0=cap/\g.L0=m.out) (hB:Below w.heap.size w wc) (hA:At g W t f po7 cap7) (gB:g.B=bN) (gK:g.K=Kb) (l1:w.heap.size+1<bN) (l2:w.heap.size+1<Kb) :
  Fr w (W.setRow (w.heap.size+1) cs) po:=by
 obtain ⟨e1,-,-,-,e5,-⟩:=hG;have hsz:=hA.size;rw [e1] at hsz
 refine ⟨hA.os.trans (by rw [e1];exact hB.os),hA.tape.trans (by rw [e1];exact hB.tape),hA.output.trans (by rw [e1];exact hB.output),by rw [MachT.mT];exact Nat.le_trans hB.size hsz,fun k hk hne=>?_⟩;rw [aZ (by omega)];rw [hA.block k (by rw [e1];exact Nat.lt_of_lt_of_le hk hB.size) (by rw [gB];omega) (by rw [gK];omega) (by rw [e5];exact hne),e1];exact hB.block k hk
theorem aFE {g:G} {w wc W:World} {m t:M} {f:Bool} {po po7:Option Addr} {cap cap7 base:Nat} {c:Int} {cb:Bool} {imm:Int} (hG:g.W0=wc/\g.code=c/\g.cb=cb/\g.imm=imm/\g.po0=po/\g.base=base/\g.n0=m.out.length/\g.cap0=cap/\g.L0=m.out) (hB:Below w.heap.size w wc) (hA:At g W t f po7 cap7):nA w po po7:=by
 obtain ⟨e1,-,-,-,e5,-⟩:=hG;rcases hA.mov with h|⟨p,h,hp⟩
 ·exact .inl (h.trans e5)
 ·exact .inr ⟨p,h,Nat.le_trans hB.size (by rw [<- e1];exact hp)⟩
theorem aFF {g:G} {wc W:World} {m t:M} {f:Bool} {po po7:Option Addr} {cap cap7 base b2:Nat} {c:Int} {cb:Bool} {imm:Int} {cs cZ:Array Value} (hG:g.W0=wc/\g.code=c/\g.cb=cb/\g.imm=imm/\g.po0=po/\g.base=base/\g.n0=m.out.length/\g.cap0=cap/\g.L0=m.out) (hA:At g W t f po7 cap7) (h2:W.heap[b2]? = some (.cells cZ 30)) :
  (W.setRow b2 cs).ownsRow base 2 1 (.slice po m.out.length cap) m.out.length (dJ m.out):=by
 obtain ⟨-,-,-,-,e5,e6,e7,e8,e9⟩:=hG;have h:=hA.old;rw [e5,e6,e7,e8,e9] at h
 exact World.ownsRow.kept (row:=some b2) h (cH _ _ _) (.inr (dK h h2))
theorem aFG {g:G} {wc W:World} {m t:M} {f:Bool} {po po7:Option Addr} {cap cap7 base b2:Nat} {c:Int} {cb:Bool} {imm:Int} {cs cZ:Array Value} (hG:g.W0=wc/\g.code=c/\g.cb=cb/\g.imm=imm/\g.po0=po/\g.base=base/\g.n0=m.out.length/\g.cap0=cap/\g.L0=m.out) (hA:At g W t f po7 cap7) (h2:W.heap[b2]? = some (.cells cZ 30)) :
  (W.setRow b2 cs).ownsRow base 2 1 (.slice po7 t.out.length cap7) t.out.length (dJ t.out):=by
 obtain ⟨-,-,-,-,e5,e6,e7,e8,e9⟩:=hG;have h:=hA.held.row;rw [e6] at h
 exact World.ownsRow.kept (row:=some b2) h (cH _ _ _) (.inr (dK h h2))
theorem bKS {u wk:World} {o:Obj} (h:Below u.heap.size u wk):Hid (∃ Kb:Nat,Value.pointer (some ⟨wk.heap.size,0,none⟩)=.pointer (some ⟨Kb,0,none⟩)/\Below u.heap.size u (wk.alloc o)/\u.heap.size<=Kb/\(wk.alloc o).heap[Kb]? = some o):=⟨_,rfl,zGr h _,h.size,heap_alloc_new _ _⟩
theorem bKT {u wk:World} {T:TypeId} {c0 c1 c2 c3 c4 c5 c6 c7 c8 c9 c10 v0 v1 v2 v3 v4 v5 v6 v7 v8 v9 v10:Value} (h:Below u.heap.size u wk) (hK:wk.heap[u.heap.size]? = some (.cells #[c0,c1,c2,c3,c4,c5,c6,c7,c8,c9,c10] T)):Hid (∃ Kb:Nat,Value.pointer (some ⟨u.heap.size,0,none⟩)=.pointer (some ⟨Kb,0,none⟩)/\Below u.heap.size u (((((((((((wk.setCell ⟨u.heap.size,0,none⟩ v0).setCell ⟨u.heap.size,1,none⟩ v1).setCell ⟨u.heap.size,2,none⟩ v2).setCell ⟨u.heap.size,3,none⟩ v3).setCell ⟨u.heap.size,4,none⟩ v4).setCell ⟨u.heap.size,5,none⟩ v5).setCell ⟨u.heap.size,6,none⟩ v6).setCell ⟨u.heap.size,7,none⟩ v7).setCell ⟨u.heap.size,8,none⟩ v8).setCell ⟨u.heap.size,9,none⟩ v9).setCell ⟨u.heap.size,10,none⟩ v10)/\u.heap.size<=Kb/\(((((((((((wk.setCell ⟨u.heap.size,0,none⟩ v0).setCell ⟨u.heap.size,1,none⟩ v1).setCell ⟨u.heap.size,2,none⟩ v2).setCell ⟨u.heap.size,3,none⟩ v3).setCell ⟨u.heap.size,4,none⟩ v4).setCell ⟨u.heap.size,5,none⟩ v5).setCell ⟨u.heap.size,6,none⟩ v6).setCell ⟨u.heap.size,7,none⟩ v7).setCell ⟨u.heap.size,8,none⟩ v8).setCell ⟨u.heap.size,9,none⟩ v9).setCell ⟨u.heap.size,10,none⟩ v10).heap[Kb]? = some (.cells #[v0,v1,v2,v3,v4,v5,v6,v7,v8,v9,v10] T)):=⟨_,rfl,aXT h (Nat.le_refl _),Nat.le_refl _,bKR hK⟩
theorem aXV (m:M) (po:Option Addr) (cap base:Nat) (w:World) (h:Ok w base m po cap) (hh:m.hal=true) :
  Calls prog 48 #[.agg (aA m po cap)] w (wG w base m po):=by
 have hz:=fM;have HS:Hid (bR m=(m,1)):=by show _=_;unfold bR;rw [if_pos hh]
 have HO:Hid (Ok w base m po cap):=h;obtain ⟨cM,hcM⟩ : ∃ c,c=aA m po cap:=⟨_,rfl⟩
 obtain ⟨cZ,hcZ⟩ : ∃ c,c=aA Z0 none 0:=⟨_,rfl⟩
 have HM:Hid (cM=aA m po cap):=hcM;have HZ:Hid (cZ=aA Z0 none 0):=hcZ;have HIM:Hid ((prog.info? 30).map (·.size)=some cM.size):=hcM ▸ aP m po cap;have HSM:Hid (cZ.size=cM.size):=by show _=_;rw [hcM,hcZ,aV,aV]
 have HOM:Hid (cM.all (·.oneCell')=true):=hcM ▸ dS m po cap;obtain ⟨W0,hW0⟩ : ∃ u,u=(w.alloc (.cells cM 30)).alloc (.cells cZ 30):=⟨_,rfl⟩
 have k1:W0.heap[w.heap.size]? = some (.cells cM 30):=by rw [hW0,Below.heap_alloc _ _ _ (by simp)];exact heap_alloc_last w _
 have k2:W0.heap[w.heap.size+1]? = some (.cells cZ 30):=by
  have h2:=heap_alloc_last (w.alloc (.cells cM 30)) (.cells cZ 30);simp only [World.size_alloc] at h2
  rw [hW0];exact h2
 have HK1:Hid (W0.heap[w.heap.size]? = some (.cells cM 30)):=k1;have HK2:Hid (W0.heap[w.heap.size+1]? = some (.cells cZ 30)):=k2;have HB0:Hid (Below w.heap.size w W0):=by show Below _ _ _;rw [hW0];exact (by repeat (with_reducible first|exact zRf|refine zGr ?_ _|refine below_drewN ?_ _|refine Below.drew ?_))
 have q11:W0.cell? ⟨w.heap.size,11,none⟩=some (.bool m.hal):=by rw [hcM] at k1;exact eM k1 11 _ rfl
 rw [hh] at q11
 rw [<- hcZ] at hz
 rw [<- hcM];clear hcM hcZ h k1 k2
 go_enter func48,ntmps48
 rw [hW0] at q11
 go_upto_region 2 with fail
 rw [<- hW0];clear hW0 q11;refine wp_region_list ?_;refine wpList_load_row rfl 30 _ rfl w.heap.size rfl _ _ (0,0) _ HK1.out underlying30 rfl HIM.out ?_;refine wpList_store_row rfl 30 _ _ rfl (w.heap.size+1) cM rfl rfl _ _ HK2.out HIM.out HSM.out HOM.out ?_;have HF:Hid ((W0.setRow (w.heap.size+1) cM).heap[w.heap.size+1]? = some (.cells cM 30)):=bG HK2.out;have HG:Hid (Below w.heap.size w (W0.setRow (w.heap.size+1) cM)):=bJ HB0.out (by omega);go_wp2;refine bodyPost_ret (v:=.tuple #[.agg cM,.int .i64 1]) (bS results48 _ _ (w.heap.size+1) _ _ (0,0) _ _ rfl rfl HF.out underlying30 rfl HIM.out) rfl ?_;refine ⟨po,cap,by rw [HS.out,HM.out],?_,Fr.of HG.out,.inl rfl⟩;rw [HS.out];exact jB HO.out.row HG.out
theorem aXW (m:M) (po:Option Addr) (cap base:Nat) (w:World) (h:Ok w base m po cap) (hh:m.hal=false) (hn:lenOf m=0) :
  Calls prog 48 #[.agg (aA m po cap)] w (wG w base m po):=by
 have hz:=fM;have HS:Hid (bR m=(m,2)):=by show _=_;unfold bR;rw [if_neg (by rw [hh];decide),if_pos hn]
 obtain ⟨c,cb,imm,hI⟩:=ReadJ.iV (bU m) 0;have HO:Hid (Ok w base m po cap):=h;obtain ⟨cM,hcM⟩ : ∃ c,c=aA m po cap:=⟨_,rfl⟩
 obtain ⟨cZ,hcZ⟩ : ∃ c,c=aA Z0 none 0:=⟨_,rfl⟩
 have HM:Hid (cM=aA m po cap):=hcM;have HZ:Hid (cZ=aA Z0 none 0):=hcZ;have HIM:Hid ((prog.info? 30).map (·.size)=some cM.size):=hcM ▸ aP m po cap;have HSM:Hid (cZ.size=cM.size):=by show _=_;rw [hcM,hcZ,aV,aV]
 have HOM:Hid (cM.all (·.oneCell')=true):=hcM ▸ dS m po cap;obtain ⟨W0,hW0⟩ : ∃ u,u=(w.alloc (.cells cM 30)).alloc (.cells cZ 30):=⟨_,rfl⟩
 have k1:W0.heap[w.heap.size]? = some (.cells cM 30):=by rw [hW0,Below.heap_alloc _ _ _ (by simp)];exact heap_alloc_last w _
 have k2:W0.heap[w.heap.size+1]? = some (.cells cZ 30):=by
  have h2:=heap_alloc_last (w.alloc (.cells cM 30)) (.cells cZ 30);simp only [World.size_alloc] at h2
  rw [hW0];exact h2
 have HK1:Hid (W0.heap[w.heap.size]? = some (.cells cM 30)):=k1;have HK2:Hid (W0.heap[w.heap.size+1]? = some (.cells cZ 30)):=k2;have HB0:Hid (Below w.heap.size w W0):=by show Below _ _ _;rw [hW0];exact (by repeat (with_reducible first|exact zRf|refine zGr ?_ _|refine below_drewN ?_ _|refine Below.drew ?_))
 have q11:W0.cell? ⟨w.heap.size,11,none⟩=some (.bool m.hal):=by rw [hcM] at k1;exact eM k1 11 _ rfl
 rw [hh] at q11
 rw [<- hcZ] at hz
 rw [<- hcM];clear hcM hcZ h k1 k2
 go_enter func48,ntmps48
 rw [hW0] at q11
 go_wp2_with fail
 rw [<- hW0];refine Calls.mono (pB m po cap w.heap.size W0 (by rw [<- HM.out];exact HK1.out) HO.out.good.rt HO.out.good.pc (HO.out.max.below HB0.out)) ?_;rintro e w1 ⟨rfl,hb1⟩;have HB1:=zHd (HolI.after HB0.out hb1);have HK11:Hid (w1.heap[w.heap.size]? = some (.cells cM 30)):=(hb1.block _ (zLo HK1.out)).trans HK1.out;have HK12:Hid (w1.heap[w.heap.size+1]? = some (.cells cZ 30)):=(hb1.block _ (zLo HK2.out)).trans HK2.out;clear hb1 HK1 HK2 HB0 q11 hW0;rw [hI];have hn':ReadI.dD (bU m) 0=0:=hn;rw [hn'];have HB2:Hid (Below w.heap.size w (w1.alloc (.cells #[.int .i64 c,.bool cb,.int .i64 imm] 80))):=zGr HB1.out _;have HK21:Hid ((w1.alloc (.cells #[.int .i64 c,.bool cb,.int .i64 imm] 80)).heap[w.heap.size]? = some (.cells cM 30)):=(aM _ _ (zLo HK11.out)).trans HK11.out;have HK22:Hid ((w1.alloc (.cells #[.int .i64 c,.bool cb,.int .i64 imm] 80)).heap[w.heap.size+1]? = some (.cells cZ 30)):=(aM _ _ (zLo HK12.out)).trans HK12.out
 go_upto_region 5 with fail
 refine wp_region_list ?_;refine wpList_load_row rfl 30 _ rfl w.heap.size rfl _ _ (0,0) _ HK21.out underlying30 rfl HIM.out ?_;refine wpList_store_row rfl 30 _ _ rfl (w.heap.size+1) cM rfl rfl _ _ HK22.out HIM.out HSM.out HOM.out ?_;have HF:Hid (((w1.alloc (.cells #[.int .i64 c,.bool cb,.int .i64 imm] 80)).setRow (w.heap.size+1) cM).heap[w.heap.size+1]? = some (.cells cM 30)):=bG HK22.out;have HG:Hid (Below w.heap.size w ((w1.alloc (.cells #[.int .i64 c,.bool cb,.int .i64 imm] 80)).setRow (w.heap.size+1) cM)):=bJ HB2.out (by omega);go_wp2;refine bodyPost_ret (v:=.tuple #[.agg cM,.int .i64 2]) (bS results48 _ _ (w.heap.size+1) _ _ (0,0) _ _ rfl rfl HF.out underlying30 rfl HIM.out) rfl ?_;refine ⟨po,cap,by rw [HS.out,HM.out],?_,Fr.of HG.out,.inl rfl⟩;rw [HS.out];exact jB HO.out.row HG.out
theorem aXX (m:M) (po:Option Addr) (cap base:Nat) (w:World) (h:Ok w base m po cap) (hh:m.hal=false) (hn:¬ lenOf m=0) (b:Bool) (hmet:met (bO m).1 (bO m).2.1 m.rf=b) :
  Calls prog 48 #[.agg (aA m po cap)] w (wG w base m po):=by
 have hz:=fM;have hI:=mF m hn;obtain ⟨n,hnn⟩ : ∃ n,n=lenOf m:=⟨_,rfl⟩
 obtain ⟨c,hc⟩ : ∃ c,c=(bO m).1:=⟨_,rfl⟩
 obtain ⟨cb,hcb⟩ : ∃ c,c=(bO m).2.1:=⟨_,rfl⟩
 obtain ⟨imm,himm⟩ : ∃ c,c=(bO m).2.2:=⟨_,rfl⟩
 rw [<- hc,<- hcb,<- himm] at hI
 rw [<- hc,<- hcb] at hmet
 have hval:=hI.val;have hlen:=hI.len;rw [<- hnn] at hn hlen
 have HE:Hid (n=lenOf m/\c=(bO m).1/\cb=(bO m).2.1/\imm=(bO m).2.2):=⟨hnn,hc,hcb,himm⟩;have HII:Hid (Ins m c cb imm):=hI;have HNZ:Hid (¬ lenOf m=0):=by rw [<- hnn];exact hn
 have hcn:=fun W=>Stpg.aXP c cb imm m.rf W hI.cbd.1 hI.cbd.2 h.good.f
 rw [hmet] at hcn
 have hnz:ReadI.dD (bU m) 0=n:=hnn.symm;have hcy:=fun W=>(CycX.same c cb b).2 W
 have HCR:Hid (∀ W,(CycX.same c cb b).2 W=(CycX.same c cb b).2 W):=fun _=>rfl
 have hcr:0<CycX.cyc c cb b/\CycX.cyc c cb b<7:=by have h:=CycX.range c cb b hI.cbd.1 hI.cbd.2 hI.non;exact ⟨h.1,h.2.1⟩
 have HMET:Hid (met c cb m.rf=b):=hmet;obtain ⟨cv,hcv⟩ : ∃ v,v=CycX.cyc c cb b:=⟨_,rfl⟩
 rw [<- hcv] at hcy hcr
 have HCV:Hid (cv=CycX.cyc c cb b):=hcv;have hpt:=fun W=>Shape.eJ c W hI.cbd.1 hI.cbd.2
 have hcyc:=h.cyc;have hpc:=h.good.pc;clear hnn hc hcb himm hI hmet hcv HCR;have HO:Hid (Ok w base m po cap):=h;obtain ⟨cM,hcM⟩ : ∃ c,c=aA m po cap:=⟨_,rfl⟩
 obtain ⟨cZ,hcZ⟩ : ∃ c,c=aA Z0 none 0:=⟨_,rfl⟩
 have HM:Hid (cM=aA m po cap):=hcM;have HZ:Hid (cZ=aA Z0 none 0):=hcZ;have HIM:Hid ((prog.info? 30).map (·.size)=some cM.size):=hcM ▸ aP m po cap;have HSM:Hid (cZ.size=cM.size):=by show _=_;rw [hcM,hcZ,aV,aV]
 have HOM:Hid (cM.all (·.oneCell')=true):=hcM ▸ dS m po cap;obtain ⟨W0,hW0⟩ : ∃ u,u=(w.alloc (.cells cM 30)).alloc (.cells cZ 30):=⟨_,rfl⟩
 have k1:W0.heap[w.heap.size]? = some (.cells cM 30):=by rw [hW0,Below.heap_alloc _ _ _ (by simp)];exact heap_alloc_last w _
 have k2:W0.heap[w.heap.size+1]? = some (.cells cZ 30):=by
  have h2:=heap_alloc_last (w.alloc (.cells cM 30)) (.cells cZ 30);simp only [World.size_alloc] at h2
  rw [hW0];exact h2
 have HK1:Hid (W0.heap[w.heap.size]? = some (.cells cM 30)):=k1;have HK2:Hid (W0.heap[w.heap.size+1]? = some (.cells cZ 30)):=k2;have HB0:Hid (Below w.heap.size w W0):=by show Below _ _ _;rw [hW0];exact (by repeat (with_reducible first|exact zRf|refine zGr ?_ _|refine below_drewN ?_ _|refine Below.drew ?_))
 have q11:W0.cell? ⟨w.heap.size,11,none⟩=some (.bool m.hal):=by rw [hcM] at k1;exact eM k1 11 _ rfl
 rw [hh] at q11
 rw [<- hcZ] at hz
 rw [<- hcM];clear hcM hcZ h k1 k2
 go_enter func48,ntmps48
 rw [hW0] at q11
 go_wp2_with fail
 rw [<- hW0];refine Calls.mono (pB m po cap w.heap.size W0 (by rw [<- HM.out];exact HK1.out) HO.out.good.rt HO.out.good.pc (HO.out.max.below HB0.out)) ?_;rintro e w1 ⟨rfl,hb1⟩;have HB1:=zHd (HolI.after HB0.out hb1);have HK11:Hid (w1.heap[w.heap.size]? = some (.cells cM 30)):=(hb1.block _ (zLo HK1.out)).trans HK1.out;have HK12:Hid (w1.heap[w.heap.size+1]? = some (.cells cZ 30)):=(hb1.block _ (zLo HK2.out)).trans HK2.out;clear hb1 HK1 HK2 HB0 q11 hW0;rw [hval,hnz];clear hval hnz;obtain ⟨u1,hu1⟩ : ∃ u,u=w1.alloc (.cells #[.int .i64 c,.bool cb,.int .i64 imm] 80):=⟨_,rfl⟩
 have X1:Hid (u1.heap[w.heap.size]? = some (.cells cM 30)/\u1.heap[w.heap.size+1]? = some (.cells cZ 30)/\u1.heap[w1.heap.size]? = some (.cells #[.int .i64 c,.bool cb,.int .i64 imm] 80)/\Below w.heap.size w u1):=by
  rw [hu1];exact ⟨(aM _ _ (zLo HK11.out)).trans HK11.out,(aM _ _ (zLo HK12.out)).trans HK12.out,heap_alloc_last w1 _,zGr HB1.out _⟩
 have q1:u1.cell? ⟨w.heap.size,1,none⟩=some (.int .i64 m.rf):=by have h:=X1.out.1;rw [HM.out] at h;exact eM h 1 _ rfl
 have HLI:Hid (w.heap.size+1<w1.heap.size):=(zLo HK12.out);rw [hu1] at q1
 have hnn:(n == 0)=false:=by simpa using hn
 go_wp2_with fail
 rw [<- hu1];obtain ⟨bI,hbI⟩ : ∃ b,b=w1.heap.size:=⟨_,rfl⟩
 rw [<- hbI] at X1 HLI |-
 clear hu1 q1 hbI HB1 HK11 HK12;refine Calls.mono (hcn _) ?_;rintro e w2 ⟨rfl,hb2⟩;have X2:Hid (w2.heap[w.heap.size]? = some (.cells cM 30)/\w2.heap[w.heap.size+1]? = some (.cells cZ 30)/\w2.heap[bI]? = some (.cells #[.int .i64 c,.bool cb,.int .i64 imm] 80)/\Below w.heap.size w w2):=by
  obtain ⟨h1,h2,h3,h4⟩:=X1.out;exact ⟨(hb2.block _ (zLo h1)).trans h1,(hb2.block _ (zLo h2)).trans h2,(hb2.block _ (zLo h3)).trans h3,HolI.after h4 hb2⟩
 clear hb2 X1 hcn
 go_upto_region 7 with fail
 refine wp_region_list ?_;refine wpList_load_row rfl 30 _ rfl w.heap.size rfl _ _ (0,0) _ X2.out.1 underlying30 rfl HIM.out ?_;refine wpList_plain rfl (fun K hK=>?_);go_simp;refine hK _ _ ?_;clear hK;refine wpList_store_row rfl 30 _ _ rfl w2.heap.size cM rfl rfl _ _ (heap_alloc_last w2 _) HIM.out HSM.out HOM.out ?_;rw [World.setRow_alloc_new];obtain ⟨u2,hu2⟩ : ∃ u,u=w2.alloc (.cells cM 30):=⟨_,rfl⟩
 have X3:Hid (u2.heap[w.heap.size]? = some (.cells cM 30)/\u2.heap[w.heap.size+1]? = some (.cells cZ 30)/\u2.heap[bI]? = some (.cells #[.int .i64 c,.bool cb,.int .i64 imm] 80)/\u2.heap[w2.heap.size]? = some (.cells (aA m po cap) 30)/\Below w.heap.size w u2):=by
  obtain ⟨h1,h2,h3,h4⟩:=X2.out;rw [hu2];exact ⟨(aM _ _ (zLo h1)).trans h1,(aM _ _ (zLo h2)).trans h2,(aM _ _ (zLo h3)).trans h3,by rw [<- HM.out];exact heap_alloc_last w2 _,zGr h4 _⟩
 have HLN:Hid (bI<w2.heap.size):=(zLo X2.out.2.2.1);obtain ⟨bN,hbN⟩ : ∃ b,b=w2.heap.size:=⟨_,rfl⟩
 rw [<- hu2,<- hbN];rw [<- hbN] at X3 HLN
 clear hu2 hbN X2;refine wpList_nil ?_;have r0:=x7 (eM X3.out.2.2.2.1 22 _ rfl);have r1:=x7 ((cell_of_row u2 bI 0 _ _ _ X3.out.2.2.1).trans rfl);have r2:=x7 ((cell_of_row u2 bI 1 _ _ _ X3.out.2.2.1).trans rfl);have d1:IntKind.i64.wrap (m.cyc+cv)=m.cyc+cv:=by rw [x6];omega
 have c1:Rg 92 #[.int .i64 c,.bool cb,.bool b] u2 (.int .i64 cv):=rg fun W hb=>hcy W
 go_upto_region 8 with fail
 simp only [Act.put];refine Qtail.aI 10 (by kernel_rfl) (by kernel_rfl) ?_;simp only [List.take_succ_cons,List.take_zero,List.drop_succ_cons,List.drop_zero]
 repeat (go_big_quiet_step (first|with_reducible exact c1 _ _))
 refine wpQuiet_nil ?_;intro _ hw';obtain ⟨⟨dq,osq⟩,hw''⟩:=hw';subst hw'';have hbg:=x8 u2 dq osq;generalize Go.Sort.grow (redrawn u2 dq) osq=w3 at *
 have X4:Hid (w3.heap[w.heap.size]? = some (.cells cM 30)/\w3.heap[w.heap.size+1]? = some (.cells cZ 30)/\w3.heap[bI]? = some (.cells #[.int .i64 c,.bool cb,.int .i64 imm] 80)/\w3.heap[bN]? = some (.cells (aA m po cap) 30)/\Below w.heap.size w w3):=by
  obtain ⟨h1,h2,h3,h4,h5⟩:=X3.out;exact ⟨(hbg.block _ (zLo h1)).trans h1,(hbg.block _ (zLo h2)).trans h2,(hbg.block _ (zLo h3)).trans h3,(hbg.block _ (zLo h4)).trans h4,HolI.after h5 hbg⟩
 clear hbg X3 r0 r1 r2 c1 hcy;have e22:=eM X4.out.2.2.2.1 22 _ rfl;have f22:=frozen_of_row _ _ 22 _ _ X4.out.2.2.2.1;obtain ⟨u4,hu4⟩ : ∃ u,u=w3.setCell ⟨bN,22,none⟩ (.int .i64 (m.cyc+cv)):=⟨_,rfl⟩
 have X5:Hid (u4.heap[w.heap.size]? = some (.cells cM 30)/\u4.heap[w.heap.size+1]? = some (.cells cZ 30)/\u4.heap[bI]? = some (.cells #[.int .i64 c,.bool cb,.int .i64 imm] 80)/\u4.heap[bN]? = some (.cells (aA (cm (m.cyc+cv) m) po cap) 30)/\Below w.heap.size w u4):=by
  obtain ⟨h1,h2,h3,h4,h5⟩:=X4.out;have l1:=HLN.out;have l2:=HLI.out;rw [hu4];refine ⟨(Below.heap_setCell _ _ _ _ (by simp;omega)).trans h1,(Below.heap_setCell _ _ _ _ (by simp;omega)).trans h2,(Below.heap_setCell _ _ _ _ (by simp;omega)).trans h3,?_,h5.setCell (by simp;omega) _⟩;rw [aT] at h4 |-
  exact (heap_setCell_same _ _ _ _ _ _ h4).trans rfl
 have q9:u4.cell? ⟨w.heap.size,9,none⟩=some (.int .i64 m.pc):=by have h:=X5.out.1;rw [HM.out] at h;exact eM h 9 _ rfl
 have e9:=eM X5.out.2.2.2.1 9 _ rfl;have f9:=frozen_of_row _ _ 9 _ _ X5.out.2.2.2.1;have d2:IntKind.i64.wrap (m.pc+n)=m.pc+n:=by rw [x6];omega
 rw [hu4] at q9 e9 f9
 clear X4
 go_wp2_with (go_at_call 93;refine (cX _ _).mono ?_;rintro e w' ⟨rfl,hw'⟩;have hw':=hw'.symm;subst hw')
 obtain ⟨u5,hu5⟩ : ∃ u,u=(w3.setCell ⟨bN,22,none⟩ (.int .i64 (m.cyc+cv))).setCell ⟨bN,9,none⟩ (.int .i64 ((m.pc+n)%65536)):=⟨_,rfl⟩
 obtain ⟨m1,hm1⟩ : ∃ m',m'=({ cm (m.cyc+cv) m with pc:=(m.pc+n)%65536 }:M):=⟨_,rfl⟩
 have X6:Hid (u5.heap[w.heap.size]? = some (.cells cM 30)/\u5.heap[w.heap.size+1]? = some (.cells cZ 30)/\u5.heap[bI]? = some (.cells #[.int .i64 c,.bool cb,.int .i64 imm] 80)/\u5.heap[bN]? = some (.cells (aA m1 po cap) 30)/\Below w.heap.size w u5):=by
  obtain ⟨h1,h2,h3,h4,h5⟩:=X5.out;have l1:=HLN.out;have l2:=HLI.out;rw [hu5,<- hu4,hm1];refine ⟨(Below.heap_setCell _ _ _ _ (by simp;omega)).trans h1,(Below.heap_setCell _ _ _ _ (by simp;omega)).trans h2,(Below.heap_setCell _ _ _ _ (by simp;omega)).trans h3,?_,h5.setCell (by simp;omega) _⟩;rw [aT] at h4 |-
  exact (heap_setCell_same _ _ _ _ _ _ h4).trans rfl
 rw [<- hu5];have HM1:Hid (m1={ cm (m.cyc+cv) m with pc:=(m.pc+n)%65536 }):=hm1;clear hu4 hu5 X5 q9 e9 f9 e22 f22 hm1 d1 d2;have k0:u5.cell? ⟨bI,0,none⟩=some (.int .i64 c):=(cell_of_row u5 bI 0 _ _ _ X6.out.2.2.1).trans rfl;have k1:u5.cell? ⟨bI,1,none⟩=some (.bool cb):=(cell_of_row u5 bI 1 _ _ _ X6.out.2.2.1).trans rfl;have k2:u5.cell? ⟨bI,2,none⟩=some (.int .i64 imm):=(cell_of_row u5 bI 2 _ _ _ X6.out.2.2.1).trans rfl;have lI:bI<u5.heap.size:=(zLo X6.out.2.2.1);have a0:∀ o,(u5.alloc o).cell? ⟨bI,0,none⟩=some (.int .i64 c):=fun o=>(((Below.refl _ u5).alloc (Nat.le_refl _) o).cell (p:=⟨bI,0,none⟩) lI).trans k0
 have a1:∀ o,(u5.alloc o).cell? ⟨bI,1,none⟩=some (.bool cb):=fun o=>(((Below.refl _ u5).alloc (Nat.le_refl _) o).cell (p:=⟨bI,1,none⟩) lI).trans k1
 have a2:∀ o,(u5.alloc o).cell? ⟨bI,2,none⟩=some (.int .i64 imm):=fun o=>(((Below.refl _ u5).alloc (Nat.le_refl _) o).cell (p:=⟨bI,2,none⟩) lI).trans k2
 generalize hpp:c / 8%8 / 2=pP at hpt
 generalize hqq:c / 8%8%2=qP at hpt
 generalize hyy:c / 8%8=yP at hpt
 generalize hxx:c / 64=xP at hpt
 generalize hzz:c%8=zP at hpt
 have HPT:Hid (xP=c / 64/\yP=c / 8%8/\zP=c%8/\pP=c / 8%8 / 2):=by rw [<- hyy] at *;exact ⟨hxx.symm,rfl,hzz.symm,hpp.symm⟩
 clear hpp hqq hyy hxx hzz
 go_cut [8] (fun v wx=>Hid (∃ Kb:Nat,v=.pointer (some ⟨Kb,0,none⟩)/\Below u5.heap.size u5 wx/\u5.heap.size<=Kb/\wx.heap[Kb]? = some (.cells #[.pointer (some ⟨bN,0,none⟩),.pointer (some ⟨bN,0,none⟩),.int .i64 c,.bool cb,.int .i64 imm,.int .i64 xP,.int .i64 yP,.int .i64 zP,.int .i64 pP,.int .i64 qP,.bool false] 127)))
 case first =>
  go_region_with (first|(go_at_call 94;refine (hpt _).mono ?_;rintro e wk ⟨rfl,bk⟩;have hbu:Below u5.heap.size u5 wk:=HolI.after (by repeat (with_reducible first|exact zRf|refine zGr ?_ _|refine below_drewN ?_ _|refine Below.drew ?_)) bk;have j0:=(hbu.cell (p:=⟨bI,0,none⟩) lI).trans k0;have j1:=(hbu.cell (p:=⟨bI,1,none⟩) lI).trans k1;have j2:=(hbu.cell (p:=⟨bI,2,none⟩) lI).trans k2;have lk:bI<wk.heap.size:=Nat.lt_of_lt_of_le lI hbu.size;have b0:∀ o,(wk.alloc o).cell? ⟨bI,0,none⟩=some (.int .i64 c):=(fun o=>(((Below.refl _ wk).alloc (Nat.le_refl _) o).cell (p:=⟨bI,0,none⟩) lk).trans j0);have b1:∀ o,(wk.alloc o).cell? ⟨bI,1,none⟩=some (.bool cb):=(fun o=>(((Below.refl _ wk).alloc (Nat.le_refl _) o).cell (p:=⟨bI,1,none⟩) lk).trans j1);have b2:∀ o,(wk.alloc o).cell? ⟨bI,2,none⟩=some (.int .i64 imm):=(fun o=>(((Below.refl _ wk).alloc (Nat.le_refl _) o).cell (p:=⟨bI,2,none⟩) lk).trans j2);(try (have hK:wk.heap[u5.heap.size]? = some (.cells #[.pointer none,.pointer none,.int .i64 0,.bool false,.int .i64 0,.int .i64 0,.int .i64 0,.int .i64 0,.int .i64 0,.int .i64 0,.bool false] 127):=(bk.block u5.heap.size (by simp)).trans (heap_alloc_new u5 _);have z0:=(cell_of_row wk u5.heap.size 0 _ _ _ hK).trans rfl;have z1:=(cell_of_row wk u5.heap.size 1 _ _ _ hK).trans rfl;have z2:=(cell_of_row wk u5.heap.size 2 _ _ _ hK).trans rfl;have z3:=(cell_of_row wk u5.heap.size 3 _ _ _ hK).trans rfl;have z4:=(cell_of_row wk u5.heap.size 4 _ _ _ hK).trans rfl;have z5:=(cell_of_row wk u5.heap.size 5 _ _ _ hK).trans rfl;have z6:=(cell_of_row wk u5.heap.size 6 _ _ _ hK).trans rfl;have z7:=(cell_of_row wk u5.heap.size 7 _ _ _ hK).trans rfl;have z8:=(cell_of_row wk u5.heap.size 8 _ _ _ hK).trans rfl;have z9:=(cell_of_row wk u5.heap.size 9 _ _ _ hK).trans rfl;have z10:=(cell_of_row wk u5.heap.size 10 _ _ _ hK).trans rfl;have g0:=frozen_of_row wk u5.heap.size 0 _ _ hK;have g1:=frozen_of_row wk u5.heap.size 1 _ _ hK;have g2:=frozen_of_row wk u5.heap.size 2 _ _ hK;have g3:=frozen_of_row wk u5.heap.size 3 _ _ hK;have g4:=frozen_of_row wk u5.heap.size 4 _ _ hK;have g5:=frozen_of_row wk u5.heap.size 5 _ _ hK;have g6:=frozen_of_row wk u5.heap.size 6 _ _ hK;have g7:=frozen_of_row wk u5.heap.size 7 _ _ hK;have g8:=frozen_of_row wk u5.heap.size 8 _ _ hK;have g9:=frozen_of_row wk u5.heap.size 9 _ _ hK;have g10:=frozen_of_row wk u5.heap.size 10 _ _ hK;have HK:Hid (wk.heap[u5.heap.size]? = some (.cells #[.pointer none,.pointer none,.int .i64 0,.bool false,.int .i64 0,.int .i64 0,.int .i64 0,.int .i64 0,.int .i64 0,.int .i64 0,.bool false] 127)):=hK;clear hK));have HBU:Hid (Below u5.heap.size u5 wk):=hbu;clear hbu bk))
  all_goals
   go_wp2_with fail
   go_meet
   first|(with_reducible exact bKS HBU.out)|(with_reducible exact bKT HBU.out HK.out)
 case rest =>
  obtain ⟨Kb,hv,hbK,hlK,hxK⟩:=hcut.out;subst hv;have X7:Hid (wc.heap[w.heap.size]? = some (.cells cM 30)/\wc.heap[w.heap.size+1]? = some (.cells cZ 30)/\wc.heap[bI]? = some (.cells #[.int .i64 c,.bool cb,.int .i64 imm] 80)/\wc.heap[bN]? = some (.cells (aA m1 po cap) 30)/\wc.heap[Kb]? = some (.cells #[.pointer (some ⟨bN,0,none⟩),.pointer (some ⟨bN,0,none⟩),.int .i64 c,.bool cb,.int .i64 imm,.int .i64 xP,.int .i64 yP,.int .i64 zP,.int .i64 pP,.int .i64 qP,.bool false] 127)/\Below w.heap.size w wc):=by
   obtain ⟨h1,h2,h3,h4,h5⟩:=X6.out;exact ⟨(hbK.block _ (zLo h1)).trans h1,(hbK.block _ (zLo h2)).trans h2,(hbK.block _ (zLo h3)).trans h3,(hbK.block _ (zLo h4)).trans h4,hxK,HolI.after h5 hbK⟩
  have HKN:Hid (bN<Kb):=Nat.lt_of_lt_of_le (zLo X6.out.2.2.2.1) hlK;clear hcut hbK hlK hxK X6 k0 k1 k2 a0 a1 a2 lI hpt hcr hcyc hpc hlen hz hnn hn;obtain ⟨g,hg⟩ : ∃ g:G,g=⟨wc,Kb,bN,base,c,cb,imm,xP,yP,zP,pP,qP,po,m.out.length,cap,m.out⟩:=⟨_,rfl⟩
  have gK:g.K=Kb:=by rw [hg]
  have gB:g.B=bN:=by rw [hg]
  have HIN:Hid (In g wc m1 false):=aQW hg HO.out X7.out.2.2.2.1 X7.out.2.2.2.2.1 X7.out.2.2.2.2.2 (by rw [HM1.out];rfl) (by have:=HLN.out;have:=HLI.out;omega) (by have:=HKN.out;have:=HLN.out;have:=HLI.out;omega);have HGF:Hid (g.W0=wc/\g.code=c/\g.cb=cb/\g.imm=imm/\g.po0=po/\g.base=base/\g.n0=m.out.length/\g.cap0=cap/\g.L0=m.out):=by rw [hg];exact ⟨rfl,rfl,rfl,rfl,rfl,rfl,rfl,rfl,rfl⟩
  have HPA:Hid (Parts g):=by
   obtain ⟨h1,h2,h3,h4⟩:=HPT.out;rw [hg];exact ⟨HII.out.cbd,h1,h2,h3,h4⟩
  clear hg;have HSE:Hid (bR m=if (sem c cb imm ⟨m1,false⟩).1.full=true \/ 1000000000<m.cyc+cv then (m,4) else ((sem c cb imm ⟨m1,false⟩).1.m,0)):=aXU hh HE.out HII.out HMET.out HCV.out HM1.out HNZ.out;have HTC:Hid ((sem c cb imm ⟨m1,false⟩).1.m.cyc=m.cyc+cv):=by show _=_;rw [aQX HE.out HM1.out];rfl
  cases b with
  | false =>
   have e0:(sem c cb imm ⟨m1,false⟩).1=⟨m1,false⟩:=by rw [aFD m1 false c cb imm HII.out.cbd (by rw [HM1.out];exact HMET.out)]
   have HIN2:Hid (In g wc (sem c cb imm ⟨m1,false⟩).1.m (sem c cb imm ⟨m1,false⟩).1.full):=by show In _ _ _ _;rw [e0];exact HIN.out
   clear HIN e0;generalize (sem c cb imm ⟨m1,false⟩).1=t at *
   obtain ⟨po7,cap7,hA⟩:=HIN2.out;have q10:wc.cell? ⟨Kb,10,none⟩=some (.bool t.full):=by have h:=HIN2.out.k_full;rw [gK] at h;exact h
   have q22:wc.cell? ⟨bN,22,none⟩=some (.int .i64 (m.cyc+cv)):=by have h:=eM hA.held.box 22 _ rfl;rw [gB] at h;rw [<- HTC.out];exact h
   have XA:Hid (At g wc t.m t.full po7 cap7):=hA;have Y1:Hid (wc.heap[w.heap.size]? = some (.cells cM 30)/\wc.heap[w.heap.size+1]? = some (.cells cZ 30)/\wc.heap[bN]? = some (.cells (aA t.m po7 cap7) 30)):=by
    obtain ⟨e1,-,-,-,e5,e6,-⟩:=HGF.out;obtain ⟨h1,h2,h3,h4,h5,h6⟩:=X7.out;have l1:=HLN.out;have l2:=HLI.out;have l3:=HKN.out;have hr:=jB HO.out.row h6;refine ⟨(hA.block _ (by rw [e1];exact (zLo h1)) (by rw [gB];omega) (by rw [gK];omega) (fun e=>dK hr h1 (by rw [fV,<- e5];exact e.symm))).trans (by rw [e1];exact h1),(hA.block _ (by rw [e1];exact (zLo h2)) (by rw [gB];omega) (by rw [gK];omega) (fun e=>dK hr h2 (by rw [fV,<- e5];exact e.symm))).trans (by rw [e1];exact h2),by rw [<- gB];exact hA.held.box⟩
   clear hA HIN2
   by_cases hfu:t.full=true \/ 1000000000<m.cyc+cv
   ·have HS:Hid (bR m=(m,4)):=by show _=_;rw [HSE.out,if_pos hfu]
    have hcase:t.full=true \/ (t.full=false/\1000000000<m.cyc+cv):=by cases hf:t.full <;> simp_all
    rcases hcase with hf|⟨hf,hcy⟩
    all_goals
     rw [hf] at q10
     clear hfu HSE
     go_upto_region 14 with fail
     refine wp_region_list ?_;refine wpList_load_row rfl 30 _ rfl w.heap.size rfl _ _ (0,0) _ Y1.out.1 underlying30 rfl HIM.out ?_;refine wpList_store_row rfl 30 _ _ rfl (w.heap.size+1) cM rfl rfl _ _ Y1.out.2.1 HIM.out HSM.out HOM.out ?_;have HF:Hid ((wc.setRow (w.heap.size+1) cM).heap[w.heap.size+1]? = some (.cells cM 30)):=bG Y1.out.2.1;go_wp2;refine bodyPost_ret (v:=.tuple #[.agg cM,.int .i64 4]) (bS results48 _ _ (w.heap.size+1) _ _ (0,0) _ _ rfl rfl HF.out underlying30 rfl HIM.out) rfl ?_;refine ⟨po,cap,by rw [HS.out,HM.out],?_,wH HGF.out X7.out.2.2.2.2.2 XA.out gB gK (by have:=HLI.out;have:=HLN.out;omega) (by have:=HKN.out;have:=HLI.out;have:=HLN.out;omega),.inl rfl⟩;rw [HS.out];exact aFF HGF.out XA.out Y1.out.2.1
   ·have HS:Hid (bR m=(t.m,0)):=by show _=_;rw [HSE.out,if_neg hfu]
    have hf:t.full=false:=by cases hf:t.full <;> simp_all
    have hcy:¬ 1000000000<m.cyc+cv:=fun h=>hfu (.inr h)
    rw [hf] at q10
    clear hfu HSE;have HIT:Hid ((prog.info? 30).map (·.size)=some (aA t.m po7 cap7).size):=aP _ _ _
    go_upto_region 15 with fail
    refine wp_region_list ?_;refine wpList_load_row rfl 30 _ rfl bN rfl _ _ (0,0) _ Y1.out.2.2 underlying30 rfl HIT.out ?_;refine wpList_store_row rfl 30 _ _ rfl (w.heap.size+1) _ rfl rfl _ _ Y1.out.2.1 HIT.out (by rw [HZ.out,aV,aV]) (dS _ _ _) ?_;have HF:Hid ((wc.setRow (w.heap.size+1) (aA t.m po7 cap7)).heap[w.heap.size+1]? = some (.cells (aA t.m po7 cap7) 30)):=bG Y1.out.2.1;go_wp2;refine bodyPost_ret (v:=.tuple #[.agg (aA t.m po7 cap7),.int .i64 0]) (bS results48 _ _ (w.heap.size+1) _ _ (0,0) _ _ rfl rfl HF.out underlying30 rfl HIT.out) rfl ?_;refine ⟨po7,cap7,by rw [HS.out],?_,wH HGF.out X7.out.2.2.2.2.2 XA.out gB gK (by have:=HLI.out;have:=HLN.out;omega) (by have:=HKN.out;have:=HLI.out;have:=HLN.out;omega),aFE HGF.out X7.out.2.2.2.2.2 XA.out⟩;rw [HS.out];exact aFG HGF.out XA.out Y1.out.2.1
  | true =>
   have HG1:Hid (Stpq.Good m1):=by show Stpq.Good _;rw [HM1.out];exact iD (qY HO.out.good _ _ _) _ (by omega) (by omega)
   have CS:=fun W=>Shape.dW c cb W
   have HAC:Hid (∀ W,In g W m1 false->dC g W (Shape.shape c cb) (sem c cb imm ⟨m1,false⟩).1):=fun W hi=>by
    obtain ⟨e1,e2,e3,e4,-⟩:=HGF.out;have h:=aXN g m1 false W hi HG1.out HPA.out (by rw [e2,e3,e4];exact HII.out.iok) (by rw [e2,e3];exact aAE HII.out.cbd HII.out.non) (by rw [e2,e3,HM1.out];exact HMET.out);rw [e2,e3,e4] at h
    exact h
   have k0:wc.cell? ⟨bI,0,none⟩=some (.int .i64 c):=(cell_of_row wc bI 0 _ _ _ X7.out.2.2.1).trans rfl;have k1:wc.cell? ⟨bI,1,none⟩=some (.bool cb):=(cell_of_row wc bI 1 _ _ _ X7.out.2.2.1).trans rfl;generalize Shape.shape c cb=sh at *
   generalize (sem c cb imm ⟨m1,false⟩).1=t at *
   go_wp2_with fail
   refine Calls.mono (CS _) ?_;rintro e w5 ⟨rfl,hb5⟩;have HI5:=zHd (HIN.out.below hb5);clear hb5 HIN k0 k1 CS
   go_wp2_with fail
   refine Calls.mono (HAC.out _ HI5.out) ?_;rintro e w6 ⟨fv,rfl,hb6,F,cp6,rfl,hen,hcall⟩;rw [gK] at hcall
   have HCA:Hid (Calls prog F (#[.pointer (some ⟨Kb,0,none⟩)] ++ cp6) w6 fun e w'=>e=.returned (.tuple #[])/\In g w' t.m t.full):=hcall;clear hcall hb6 HI5 HAC
   go_wp2_with fail
   refine Calls.mono HCA.out ?_;rintro e w7 ⟨rfl,hin7⟩;have HIN2:Hid (In g w7 t.m t.full):=hin7;clear hin7 HCA hen;obtain ⟨po7,cap7,hA⟩:=HIN2.out;have q10:w7.cell? ⟨Kb,10,none⟩=some (.bool t.full):=by have h:=HIN2.out.k_full;rw [gK] at h;exact h
   have q22:w7.cell? ⟨bN,22,none⟩=some (.int .i64 (m.cyc+cv)):=by have h:=eM hA.held.box 22 _ rfl;rw [gB] at h;rw [<- HTC.out];exact h
   have XA:Hid (At g w7 t.m t.full po7 cap7):=hA;have Y1:Hid (w7.heap[w.heap.size]? = some (.cells cM 30)/\w7.heap[w.heap.size+1]? = some (.cells cZ 30)/\w7.heap[bN]? = some (.cells (aA t.m po7 cap7) 30)):=by
    obtain ⟨e1,-,-,-,e5,e6,-⟩:=HGF.out;obtain ⟨h1,h2,h3,h4,h5,h6⟩:=X7.out;have l1:=HLN.out;have l2:=HLI.out;have l3:=HKN.out;have hr:=jB HO.out.row h6;refine ⟨(hA.block _ (by rw [e1];exact (zLo h1)) (by rw [gB];omega) (by rw [gK];omega) (fun e=>dK hr h1 (by rw [fV,<- e5];exact e.symm))).trans (by rw [e1];exact h1),(hA.block _ (by rw [e1];exact (zLo h2)) (by rw [gB];omega) (by rw [gK];omega) (fun e=>dK hr h2 (by rw [fV,<- e5];exact e.symm))).trans (by rw [e1];exact h2),by rw [<- gB];exact hA.held.box⟩
   clear hA HIN2
   by_cases hfu:t.full=true \/ 1000000000<m.cyc+cv
   ·have HS:Hid (bR m=(m,4)):=by show _=_;rw [HSE.out,if_pos hfu]
    have hcase:t.full=true \/ (t.full=false/\1000000000<m.cyc+cv):=by cases hf:t.full <;> simp_all
    rcases hcase with hf|⟨hf,hcy⟩
    all_goals
     rw [hf] at q10
     clear hfu HSE
     go_upto_region 14 with fail
     refine wp_region_list ?_;refine wpList_load_row rfl 30 _ rfl w.heap.size rfl _ _ (0,0) _ Y1.out.1 underlying30 rfl HIM.out ?_;refine wpList_store_row rfl 30 _ _ rfl (w.heap.size+1) cM rfl rfl _ _ Y1.out.2.1 HIM.out HSM.out HOM.out ?_;have HF:Hid ((w7.setRow (w.heap.size+1) cM).heap[w.heap.size+1]? = some (.cells cM 30)):=bG Y1.out.2.1;go_wp2;refine bodyPost_ret (v:=.tuple #[.agg cM,.int .i64 4]) (bS results48 _ _ (w.heap.size+1) _ _ (0,0) _ _ rfl rfl HF.out underlying30 rfl HIM.out) rfl ?_;refine ⟨po,cap,by rw [HS.out,HM.out],?_,wH HGF.out X7.out.2.2.2.2.2 XA.out gB gK (by have:=HLI.out;have:=HLN.out;omega) (by have:=HKN.out;have:=HLI.out;have:=HLN.out;omega),.inl rfl⟩;rw [HS.out];exact aFF HGF.out XA.out Y1.out.2.1
   ·have HS:Hid (bR m=(t.m,0)):=by show _=_;rw [HSE.out,if_neg hfu]
    have hf:t.full=false:=by cases hf:t.full <;> simp_all
    have hcy:¬ 1000000000<m.cyc+cv:=fun h=>hfu (.inr h)
    rw [hf] at q10
    clear hfu HSE;have HIT:Hid ((prog.info? 30).map (·.size)=some (aA t.m po7 cap7).size):=aP _ _ _
    go_upto_region 15 with fail
    refine wp_region_list ?_;refine wpList_load_row rfl 30 _ rfl bN rfl _ _ (0,0) _ Y1.out.2.2 underlying30 rfl HIT.out ?_;refine wpList_store_row rfl 30 _ _ rfl (w.heap.size+1) _ rfl rfl _ _ Y1.out.2.1 HIT.out (by rw [HZ.out,aV,aV]) (dS _ _ _) ?_;have HF:Hid ((w7.setRow (w.heap.size+1) (aA t.m po7 cap7)).heap[w.heap.size+1]? = some (.cells (aA t.m po7 cap7) 30)):=bG Y1.out.2.1;go_wp2;refine bodyPost_ret (v:=.tuple #[.agg (aA t.m po7 cap7),.int .i64 0]) (bS results48 _ _ (w.heap.size+1) _ _ (0,0) _ _ rfl rfl HF.out underlying30 rfl HIT.out) rfl ?_;refine ⟨po7,cap7,by rw [HS.out],?_,wH HGF.out X7.out.2.2.2.2.2 XA.out gB gK (by have:=HLI.out;have:=HLN.out;omega) (by have:=HKN.out;have:=HLI.out;have:=HLN.out;omega),aFE HGF.out X7.out.2.2.2.2.2 XA.out⟩;rw [HS.out];exact aFG HGF.out XA.out Y1.out.2.1
end Stpl
end Go.Proofs.YteglcgnhhoenbaaGreatDoor
