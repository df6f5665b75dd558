import Derived.Test.YtbofcepdckpkkaaGreatDoorP12
set_option linter.all false
set_option maxRecDepth 20000
set_option maxHeartbeats 8000000
open Go.ChangeShapes Go.WideShapes Go.ChangeAt Go.RowKit
open Go.Proofs.Tryz
namespace Go.Proofs.YtbofcepdckpkkaaGreatDoor
namespace Ximb
open Go.Deep
open Nodm (cellsOf cells_snoc Own)
open Prsp Xima
theorem hdK_lt {s:ByteArray} {k:Nat} {c:Int} (h:hdK s k=c) (hc:c ≠ 0):k<s.size:=hd_lt s k (by rw [<- hdK_def,h];exact hc)
theorem RI.pan {pb k:Nat} {s:ByteArray} {w w':World} {u:TypeId} {pv:Value} (h:Below pb w w'):RI pb s k none w (.panicked [{ v:=.iface u pv,recovered:=false }]) w':=⟨⟨u,pv,rfl⟩,h⟩
theorem RI.some {pb k j:Nat} {s:ByteArray} {w w':World} {L:List Stepx.Node} (hj:k<=j) (h:PI w' pb s j L) (hb:BK pb w w'):RI pb s k (some (s.data.toList.drop j,L)) w (.returned (.tuple #[])) w':=⟨rfl,⟨j,hj,rfl,h⟩,hb⟩
theorem skip_any (pb k:Nat) (s:ByteArray) (L:List Stepx.Node) (c:Int) (hc:c ≠ 0) (w:World) (h:PI w pb s k L) :
  Calls prog 132 #[.pointer (some ⟨pb,0,none⟩),.int .u8 c] w (RI pb s k (if hdK s k=c then some (s.data.toList.drop (k+1),L) else none) w):=by
 have H:Hid (PI w pb s k L):=h
 have hl:=h.lt
 have hs:=h.sz
 clear h
 by_cases hh:hdK s k=c
 ·have hk:=hdK_lt hh hc
  rw [if_pos hh]
  have d0:(hdK s k == c)=true:=by simpa using hh
  have d1:(hdK s k != c)=false:=by simpa using hh
  have d2:decide (hdK s k=c)=true:=by simpa using hh
  clear hh
  go_enter func132,ntmps132
  go_wp2_with fail
  refine (next_any pb k s L _ H.out).mono ?_
  rintro e w1 ⟨rfl,p1,b1⟩
  have P1:Hid (PI w1 pb s k L/\BK pb w w1):=⟨p1,BK.of hl b1⟩
  have c1:=p1.c1
  have f1:=p1.fz 1
  clear p1 b1
  have i1:IntKind.i64.wrap ((k:Int)+1)=(k:Int)+1:=by rw [IntKind.wrap_i64];omega
  go_wp2
  first|go_end0|refine bodyPost_ret (results_none rfl _ _ _) rfl ?_
  exact RI.some (Nat.le_succ k) (P1.out.1.at_ (by omega) (by omega)) (P1.out.2.trans bk_set)
 ·rw [if_neg hh]
  have d0:(hdK s k == c)=false:=by simpa using hh
  have d1:(hdK s k != c)=true:=by simpa using hh
  have d2:decide (hdK s k=c)=false:=by simpa using hh
  clear hh
  go_enter func132,ntmps132
  go_wp2_with fail
  refine (next_any pb k s L _ H.out).mono ?_
  rintro e w1 ⟨rfl,p1,b1⟩
  have P1:Hid (Below pb w w1):=b1.mono (Nat.le_of_lt hl)
  clear p1 b1
  go_wp2
  exact ⟨rfl,RI.pan P1.out⟩
def atOf (w:World) (pb:Nat):Nat:=match w.cell? ⟨pb,1,none⟩ with
 | some (.int _ z)=>z.toNat
 | _=>0
theorem atOf_ {w:World} {pb k:Nat} {s:ByteArray} {L:List Stepx.Node} (h:PI w pb s k L):atOf w pb=k:=by
 unfold atOf
 rw [h.c1]
 simp
theorem nb_run {c:Int} (h:Names.nbB c=true):runB c=true:=by
 have h:=of_decide_eq_true h
 exact decide_eq_true (by omega)
theorem run_cases (c:Int):Names.nbB c=true \/ Names.nbB c=false/\((65<=c/\c<=70/\runB c=true) \/ (c<65/\runB c=false) \/ (65<=c/\70<c/\runB c=false)):=by
 cases h:Names.nbB c with
 | true=>exact .inl rfl
 | false =>
  have h:=of_decide_eq_false h
  refine .inr ⟨rfl,?_⟩
  by_cases h1:c<65
  ·exact .inr (.inl ⟨h1,decide_eq_false (by omega)⟩)
  ·by_cases h2:70<c
   ·exact .inr (.inr ⟨by omega,h2,decide_eq_false (by omega)⟩)
   ·exact .inl ⟨by omega,by omega,decide_eq_true (by omega)⟩
theorem run_at {s:ByteArray} {k:Nat} (hk:k<=s.size) (h:runB (hdK s k)=true):k<s.size/\af (s.data.toList.drop k)=af (s.data.toList.drop (k+1)):=by
 have hk:k<s.size:=by
  rcases Nat.lt_or_ge k s.size with h'|h'
  ·exact h'
  ·rw [hdK_def,hd_end s k h'] at h;exact absurd h (by decide)
 rw [hdK_def,hd_in s k hk] at h
 exact ⟨hk,af_step s k hk h⟩
theorem run_not {s:ByteArray} {k:Nat} (hk:k<=s.size) (h:runB (hdK s k)=false):af (s.data.toList.drop k)=s.data.toList.drop k:=by
 rcases Nat.lt_or_ge k s.size with h'|h'
 ·rw [hdK_def,hd_in s k h'] at h
  exact af_stop s k h' h
 ·exact af_end s k h'
theorem run_any (pb k:Nat) (s:ByteArray) (L:List Stepx.Node) (w:World) (h:PI w pb s k L) :
  Calls prog 133 #[.pointer (some ⟨pb,0,none⟩)] w fun e w'=>e=.returned (.tuple #[])/\(∃ j,k<=j/\j<=s.size/\af (s.data.toList.drop k)=s.data.toList.drop j/\PI w' pb s j L)/\BK pb w w':=by
 have H:Hid (PI w pb s k L):=h
 have hs:=h.sz
 clear h
 go_enter func133,ntmps133
 go_wp2_with fail
 go_loopw [] (fun wr=>∃ j,k<=j/\j<=s.size/\Hid (af (s.data.toList.drop k)=af (s.data.toList.drop j)/\PI wr pb s j L/\BK pb w wr)) (fun wr=>s.size-Ximb.atOf wr pb)
 case atStart=>exact ⟨k,Nat.le_refl _,hs.1,rfl,H.out,BK.refl _ _⟩
 case round =>
  obtain ⟨j,hkj,hj,Q⟩:=hrel
  clear H
  have hat:=atOf_ Q.out.2.1
  have hl:=Q.out.2.1.lt
  go_wp2_with fail
  refine (next_any pb j s L _ Q.out.2.1).mono ?_
  rintro e w1 ⟨rfl,p1,b1⟩
  have P1:Hid (PI w1 pb s j L/\BK pb w w1):=⟨p1,Q.out.2.2.trans (BK.of hl b1)⟩
  have hl1:=p1.lt
  clear p1 b1 hl
  obtain ⟨c,hc⟩ : ∃ c,c=hdK s j:=⟨_,rfl⟩
  have HC:Hid (c=hdK s j):=hc
  rw [<- hc]
  clear hc
  have GO:Hid (runB c=true->j<s.size/\af (s.data.toList.drop k)=af (s.data.toList.drop (j+1))):=fun h=>by rw [HC.out] at h;have:=run_at hj h;exact ⟨this.1,Q.out.1.trans this.2⟩
  have NO:Hid (runB c=false->af (s.data.toList.drop k)=s.data.toList.drop j):=fun h=>by rw [HC.out] at h;exact Q.out.1.trans (run_not hj h)
  go_wp2_with fail
  refine (Names.nameByte_any c _).mono ?_
  rintro e w2 ⟨rfl,hw⟩
  have hw:=hw.symm
  subst hw
  rcases run_cases c with h1|⟨h1,h2⟩
  ·obtain ⟨g1,g2⟩:=GO.out (nb_run h1)
   have G2:Hid (af (s.data.toList.drop k)=af (s.data.toList.drop (j+1))):=g2
   rw [h1]
   clear h1 g2
   have c1:=P1.out.1.c1
   have f1:=P1.out.1.fz 1
   have i1:IntKind.i64.wrap ((j:Int)+1)=(j:Int)+1:=by rw [IntKind.wrap_i64];omega
   have P2:Hid (PI (w1.setCell ⟨pb,1,none⟩ (.int .i64 ((j:Int)+1))) pb s (j+1) L/\BK pb w (w1.setCell ⟨pb,1,none⟩ (.int .i64 ((j:Int)+1)))):=⟨P1.out.1.at_ g1 (by omega),P1.out.2.trans bk_set⟩
   go_wp2_with fail
   go_roundw
   case rel=>exact ⟨j+1,by omega,g1,G2.out,P2.out.1,P2.out.2⟩
   case measure=>rw [hat,atOf_ P2.out.1];omega
  ·rw [h1]
   go_wp2_with fail
   refine (next_any pb j s L _ P1.out.1).mono ?_
   rintro e w3 ⟨rfl,p3,b3⟩
   have P3:Hid (PI w3 pb s j L/\BK pb w w3):=⟨p3,P1.out.2.trans (BK.of hl1 b3)⟩
   have hl3:=p3.lt
   clear p3 b3
   rw [<- HC.out]
   rcases h2 with ⟨q1,q2,q3⟩|⟨q1,q3⟩|⟨q1,q2,q3⟩
   ·obtain ⟨g1,g2⟩:=GO.out q3
    have G2:Hid (af (s.data.toList.drop k)=af (s.data.toList.drop (j+1))):=g2
    have d1:decide (65<=c)=true:=decide_eq_true q1
    have d2:decide (c<=70)=true:=decide_eq_true q2
    clear g2 q3 h1
    go_wp2_with fail
    refine (next_any pb j s L _ P3.out.1).mono ?_
    rintro e w4 ⟨rfl,p4,b4⟩
    have P4:Hid (PI w4 pb s j L/\BK pb w w4):=⟨p4,P3.out.2.trans (BK.of hl3 b4)⟩
    clear p4 b4
    rw [<- HC.out]
    have c1:=P4.out.1.c1
    have f1:=P4.out.1.fz 1
    have i1:IntKind.i64.wrap ((j:Int)+1)=(j:Int)+1:=by rw [IntKind.wrap_i64];omega
    have P5:Hid (PI (w4.setCell ⟨pb,1,none⟩ (.int .i64 ((j:Int)+1))) pb s (j+1) L/\BK pb w (w4.setCell ⟨pb,1,none⟩ (.int .i64 ((j:Int)+1)))):=⟨P4.out.1.at_ g1 (by omega),P4.out.2.trans bk_set⟩
    go_wp2_with fail
    go_roundw
    case rel=>exact ⟨j+1,by omega,g1,G2.out,P5.out.1,P5.out.2⟩
    case measure=>rw [hat,atOf_ P5.out.1];omega
   ·have d1:decide (65<=c)=false:=decide_eq_false (by omega)
    have F:Hid (af (s.data.toList.drop k)=s.data.toList.drop j):=NO.out q3
    clear q3 h1
    go_wp2_with fail
    first|go_end0|refine bodyPost_ret (results_none rfl _ _ _) rfl ?_
    exact ⟨rfl,⟨j,hkj,hj,F.out,P3.out.1⟩,P3.out.2⟩
   ·have d1:decide (65<=c)=true:=decide_eq_true q1
    have d2:decide (c<=70)=false:=decide_eq_false (by omega)
    have F:Hid (af (s.data.toList.drop k)=s.data.toList.drop j):=NO.out q3
    clear q3 h1
    go_wp2_with fail
    refine (next_any pb j s L _ P3.out.1).mono ?_
    rintro e w4 ⟨rfl,p4,b4⟩
    have P4:Hid (PI w4 pb s j L/\BK pb w w4):=⟨p4,P3.out.2.trans (BK.of hl3 b4)⟩
    clear p4 b4
    rw [<- HC.out]
    go_wp2_with fail
    first|go_end0|refine bodyPost_ret (results_none rfl _ _ _) rfl ?_
    exact ⟨rfl,⟨j,hkj,hj,F.out,P4.out.1⟩,P4.out.2⟩
end Ximb
namespace Ximc
open Go.Deep
open Nodm (cellsOf cells_snoc Own)
open Prsp Xima Ximb
theorem PI.out2 {w w3:World} {pb k:Nat} {s:ByteArray} {a:Option Addr} {cap:Nat} {L:List Stepx.Node} {v':Value} {x:Stepx.Node} {o1 o2:Obj}
  (c0:w.cell? ⟨pb,0,none⟩=some (.string s)) (c1:w.cell? ⟨pb,1,none⟩=some (.int .i64 k)) (c2:w.cell? ⟨pb,2,none⟩=some (.slice a L.length cap))
  (cf:∀ i,w.frozen? ⟨pb,i,none⟩=false) (hk:k<=s.size) (hs:s.size<=200) (hl:L.length<30) (ho:Nodm.Own w (pb+1) (.slice a L.length cap) L)
  (hown:w3.ownsRow (pb+1) 54 3 v' (L.length+1) (cellsOf L ++ [.int .i64 x.1,.int .i64 x.2.1,.string x.2.2])) (hgr:(((w.alloc o1).alloc o2).drew).grownBy w3 (Value.slice a L.length cap).ownBlock) (hat:v'.ownBlock=(Value.slice a L.length cap).ownBlock \/ v'.ownBlock=some (((w.alloc o1).alloc o2).drew).heap.size) :
  PI (w3.setCell ⟨pb,2,none⟩ v') pb s k (L ++ [x])/\BK pb w (w3.setCell ⟨pb,2,none⟩ v')/\(∀ i,w3.cell? ⟨pb,i,none⟩=w.cell? ⟨pb,i,none⟩)/\w3.frozen? ⟨pb,2,none⟩=false:=by
 have hlt:pb<w.heap.size:=World.block_lt_of_cell? w ⟨pb,0,none⟩ c0
 obtain ⟨W,hW⟩ : ∃ W,W=(w.alloc o1).drew:=⟨_,rfl⟩
 have hb:Below w.heap.size w W:=by rw [hW];exact (zAl _ _).drew
 have e:∀ i,W.cell? ⟨pb,i,none⟩=w.cell? ⟨pb,i,none⟩:=fun i=>hb.cell (p:=⟨pb,i,none⟩) hlt
 have hg2:(W.alloc o2).grownBy w3 (Value.slice a L.length cap).ownBlock:=by rw [hW];exact hgr
 obtain ⟨h1,h2,h3,h4⟩:=Xima.PI.out_ (w:=W) (x:=x) (o:=o2) ((e 0).trans c0) ((e 1).trans c1) ((e 2).trans c2) (fun i=>(World.frozen?_of_block (a:=⟨pb,i,none⟩) (hb.block pb hlt)).trans (cf i)) hk hs hl (Nodm.own_below ho hb) hown hg2 (by rw [hW];exact hat)
 exact ⟨h1,(BK.of hlt hb).trans h2,fun i=>(h3 i).trans (e i),h4⟩
theorem new3 (W:World) (a b c:Value) (t:TypeId):∀ j u,([a,b,c]:List Value)[j]? = some u->(W.alloc (.cells #[a,b,c] t)).drew.cell? ((⟨W.heap.size,0,none⟩ : Addr).add j)=some u:=fun j u hu=>by
 match j,hu with
 | 0,hu=>cases hu;rw [Addr.add_lit];show World.cell? (W.alloc _) ⟨W.heap.size,0,none⟩=_;rw [World.cell?_alloc_new];rfl
 | 1,hu=>cases hu;rw [Addr.add_lit];show World.cell? (W.alloc _) ⟨W.heap.size,1,none⟩=_;rw [World.cell?_alloc_new];rfl
 | 2,hu=>cases hu;rw [Addr.add_lit];show World.cell? (W.alloc _) ⟨W.heap.size,2,none⟩=_;rw [World.cell?_alloc_new];rfl
 | j+3,hu=>simp at hu
theorem step_append_own {P:Program} {ops:Array Oper} {o:Oper} {a:Act} {w:World} {K:Act->World->Prop} {Q:Exit->Act->World->Prop} {E:Prop} (hg:o.guard=none) (s x:Operand) (t:TypeId)
  (ho:o.op=.call { callee:=.builtin .append,args:=#[s,x],argTypes:=#[t,t] })
  (base:Nat) (e:TypeId) (i:TypeInfo) (z:Value) (size bytes:Nat) (ht:P.underlying t=some (.slice e)) (hi:P.info? e=some i) (hz:i.zero=some z)
  (hsize:i.size=size) (hby:i.bytes=bytes) (hzs:z.cells.size=size) (hsz:0<size)
  (v:Value) (n:Nat) (xs:List Value) (hs:a.eval s=v) (hown:w.ownsRow base e size v n xs)
  (ad:Addr) (m c:Nat) (news:List Value) (hx:a.eval x=.slice (some ad) m c) (hl:news.length=m*size) (hnews:∀ j u,news[j]? = some u->w.cell? (ad.add j)=some u) (h1:∀ u ∈ news,u.oneCell'=true)
  (h63:n+m<=maxLen) (hbytes:(n+m)*bytes<=140737488355328) (hbase:base<=w.heap.size)
  (h:∀ v' w',w'.ownsRow base e size v' (n+m) (xs ++ news)->w.grownBy w' v.ownBlock->(v'=.slice none 0 0 ↔ v=.slice none 0 0/\m=0)->(v'.ownBlock=v.ownBlock \/ v'.ownBlock=some w.heap.size)->K (a.put o.dst v') w') :
  if Region.wanted o (yielded ops a.tmps)=true then Oper.wp P o a w K Q else E:=by
 have hw:Region.wanted o (yielded ops a.tmps)=true:=by simp [Region.wanted,hg]
 rw [if_pos hw]
 obtain ⟨v',w',hr,h2,h3,h4,h5⟩:=run_append_own_at (P:=P) w base t o.type e i z size bytes ht hi hz hsize hby hzs hsz v n xs hown ad m c news hl hnews h1 h63 hbytes hbase
 unfold Oper.wp execOp
 simp only [ho,resolve,invoke,builtin,Sem.run_bind,Sem.run_pure,Result.andThen_ok,List.map_toArray,List.map_cons,List.map_nil,hs,hx,hr]
 exact h v' w' h2 h3 h4 h5
theorem put_any (pb k:Nat) (s:ByteArray) (L:List Stepx.Node) (w:World) (h:PI w pb s k L) (kd n:Int) (t:ByteArray) :
  Calls prog 97 #[.pointer (some ⟨pb,0,none⟩),.agg #[.int .i64 kd,.int .i64 n,.string t]] w (RI pb s k (put (kd,n,t) (s.data.toList.drop k,L)) w):=by
 have H:Hid (PI w pb s k L):=h
 have hlt:=h.lt
 obtain ⟨a,cap,c0,c1,c2,cf,hk,hs,hl30,ho⟩:=h
 have g2:∀ o,(w.alloc o).cell? ⟨pb,2,none⟩=some (.slice a L.length cap):=fun o=>(((Below.refl w.heap.size w).alloc (Nat.le_refl _) o).cell (p:=⟨pb,2,none⟩) hlt).trans c2
 by_cases h30:L.length<30
 ·obtain ⟨i0,hi,hz0,hz1,hz2⟩:=info_parts infoN
  have hR:put (kd,n,t) (s.data.toList.drop k,L)=some (s.data.toList.drop k,L ++ [(kd,n,t)]):=by unfold Prsp.put;rw [if_pos h30]
  rw [hR]
  clear hR
  have FIN:Hid (∀ (w3:World) (v':Value) (o1 o2:Obj),(v'.ownBlock=(Value.slice a L.length cap).ownBlock \/ v'.ownBlock=some (((w.alloc o1).alloc o2).drew).heap.size)->w3.ownsRow (pb+1) 54 3 v' (L.length+1) (cellsOf L ++ [.int .i64 kd,.int .i64 n,.string t])->(((w.alloc o1).alloc o2).drew).grownBy w3 (Value.slice a L.length cap).ownBlock->PI (w3.setCell ⟨pb,2,none⟩ v') pb s k (L ++ [(kd,n,t)])/\BK pb w (w3.setCell ⟨pb,2,none⟩ v')/\(∀ i,w3.cell? ⟨pb,i,none⟩=w.cell? ⟨pb,i,none⟩)/\w3.frozen? ⟨pb,2,none⟩=false):=fun w3 v' o1 o2 hat hw hgr=>PI.out2 (x:=(kd,n,t)) (o1:=o1) (o2:=o2) c0 c1 c2 cf hk hs h30 ho hw hgr hat
  have OWN:Hid (∀ o1 o2,(((w.alloc o1).alloc o2).drew).ownsRow (pb+1) 54 3 (.slice a L.length cap) L.length (cellsOf L)):=fun o1 o2=>Nodm.own_below ho ((((Below.refl w.heap.size w).alloc (Nat.le_refl _) o1).alloc (by simp) o2).drew)
  have C2:Hid (w.cell? ⟨pb,2,none⟩=some (.slice a L.length cap)):=c2
  have ne:((L.length:Int) == 30)=false:=by simp;omega
  have ne2:decide ((L.length:Int)=30)=false:=by simp;omega
  have hl63:L.length+1<=maxLen:=by unfold maxLen;omega
  generalize L.length=len at *
  clear ho c0 c1 c2 cf
  go_enter func97,ntmps97
  go_wp2_with fail
  go_region_law (first
   | (refine step_append_own rfl (.tmp 15) (.tmp 17) 27 rfl (pb+1) 54 i0 (.agg #[.int .i64 0,.int .i64 0,.string ⟨#[]⟩]) 3 32 underlying27 hi hz0 hz1 hz2 rfl (by decide) (.slice a len cap) len (cellsOf L) rfl (OWN.out _ _) ⟨w.heap.size+1,0,none⟩ 1 1 [.int .i64 kd,.int .i64 n,.string t] rfl rfl ?c1 (by intro u hu;simp at hu;rcases hu with rfl|rfl|rfl <;> rfl) hl63 (by omega) (by simp;omega) ?_; (case c1=>exact (by have:=new3 (w.alloc (.cells #[.int .i64 kd,.int .i64 n,.string t] 54)) (.int .i64 kd) (.int .i64 n) (.string t) 54;simpa using this)); intro v' w3 hown' hgrow _ hat; obtain ⟨a',cap',rfl⟩ : ∃ a' cap',v'=.slice a' (len+1) cap' := (by rcases hown'.2 with ⟨rfl, h0⟩ | ⟨g, c, cur, rfl, _⟩ <;> first | omega | exact ⟨_, _, rfl⟩); obtain ⟨p3,b3,dd,f2⟩:=FIN.out w3 _ _ _ hat hown' hgrow; have d2:=(dd 2).trans C2.out; clear dd; have P3:Hid (PI (w3.setCell ⟨pb,2,none⟩ (.slice a' (len+1) cap')) pb s k (L ++ [(kd,n,t)])/\BK pb w (w3.setCell ⟨pb,2,none⟩ (.slice a' (len+1) cap'))):=⟨p3,b3⟩; clear p3 b3 hown' hgrow hat)
   | fail)
  all_goals go_wp2
  all_goals first|go_end0|refine bodyPost_ret (results_none rfl _ _ _) rfl ?_
  all_goals exact RI.some (Nat.le_refl k) P3.out.1 P3.out.2
 ·have hR:put (kd,n,t) (s.data.toList.drop k,L)=none:=by unfold Prsp.put;rw [if_neg h30]
  rw [hR]
  have e30:L.length=30:=by omega
  have b0:∀ o,Below pb w (w.alloc o):=fun o=>(Below.refl pb w).alloc (Nat.le_of_lt hlt) o
  have B0:Hid (∀ o,Below pb w (w.alloc o)):=b0
  rw [e30] at c2 g2
  clear ho c0 c1 cf hR b0 H
  go_enter func97,ntmps97
  go_wp2
  exact ⟨rfl,RI.pan (B0.out _)⟩
theorem name_any (pb k:Nat) (s:ByteArray) (L:List Stepx.Node) (w:World) (h:PI w pb s k L) (kd:Int) (t:ByteArray) (ht:t.size<=1000) :
  Calls prog 136 #[.pointer (some ⟨pb,0,none⟩),.int .i64 kd,.string t] w (RI pb s k (if Names.nameB t=true then put (kd,0,t) (s.data.toList.drop k,L) else none) w):=by
 have H:Hid (PI w pb s k L):=h
 have cn:=fun W=>Names.implName_any t W (by unfold maxLen;omega)
 clear h
 cases hn:Names.nameB t with
 | true =>
  rw [hn] at cn
  rw [if_pos rfl]
  clear hn
  go_enter func136,ntmps136
  go_wp2_with fail
  refine (cn _).mono ?_
  rintro e w1 ⟨rfl,hw⟩
  have hw:=hw.symm
  subst hw
  go_wp2_with fail
  refine (put_any pb k s L _ H.out kd 0 t).mono ?_
  intro e w1 hr
  cases hp:put (kd,0,t) (s.data.toList.drop k,L) with
  | none =>
   rw [hp] at hr
   obtain ⟨⟨u,pv,rfl⟩,hb⟩:=hr
   exact ⟨rfl,RI.pan hb⟩
  | some st =>
   rw [hp] at hr
   obtain ⟨rfl,hj,hb⟩:=hr
   have HJ:Hid (RI pb s k (put (kd,0,t) (s.data.toList.drop k,L)) w (.returned (.tuple #[])) w1):=(show RI _ _ _ _ _ _ _ from by rw [hp];exact ⟨rfl,hj,hb⟩)
   clear hj hb hp
   go_wp2_with fail
   first|go_end0|refine bodyPost_ret (results_none rfl _ _ _) rfl ?_
   exact HJ.out
 | false =>
  rw [hn] at cn
  rw [if_neg (by decide)]
  clear hn H
  go_enter func136,ntmps136
  go_wp2_with fail
  refine (cn _).mono ?_
  rintro e w1 ⟨rfl,hw⟩
  have hw:=hw.symm
  subst hw
  go_wp2
  exact ⟨rfl,RI.pan zRf⟩
end Ximc
namespace Sexp
open Go.Deep
open Nodm (cellsOf cells_snoc Own)
open Stepx (Nodes exprB)
theorem sameExpr_any (a a':Option Addr) (cap cap':Nat) (L:List Stepx.Node) (w:World) (hN:Nodes w a L) (hN':Nodes w a' L) (hlen:L.length<=1048576) :
  Calls prog 8 #[.slice a L.length cap,.slice a' L.length cap'] w fun e w'=>e=.returned (.bool true)/\Below w.heap.size w w':=by
 obtain ⟨len,hl⟩ : ∃ len,len=L.length:=⟨_,rfl⟩
 have HL:Hid (len=L.length):=hl
 rw [<- hl] at hlen |-
 clear hl
 go_enter func8,ntmps8
 go_wp2
 go_loopw [5] (fun i wr=>∃ k:Nat,k<=len/\i=.int .i64 k/\Hid (Below w.heap.size w wr)) (fun i _=>len-(intOf i).toNat)
 case atStart=>exact ⟨0,Nat.zero_le _,rfl,Below.refl _ _⟩
 case round =>
  obtain ⟨k,hk,rfl,hbel⟩:=hrel
  by_cases hlt:k<len
  ·have hkL:k<L.length:=by have:=HL.out;omega
   rcases hN with hnil|⟨b,off,rfl,hb,hc⟩
   ·exfalso;rw [hnil] at hkL;exact absurd hkL (by simp)
   rcases hN' with hnil|⟨b',off',rfl,hb',hc'⟩
   ·exfalso;rw [hnil] at hkL;exact absurd hkL (by simp)
   obtain ⟨c0,c1,c2⟩ : wr.cell? ⟨b,off+k*3,none⟩=some (.int .i64 L[k].1)/\wr.cell? ⟨b,off+k*3+1,none⟩=some (.int .i64 L[k].2.1)/\wr.cell? ⟨b,off+k*3+2,none⟩=some (.string L[k].2.2):=by
    obtain ⟨d0,d1,d2,d3⟩:=hc k hkL
    exact ⟨(hbel.out.cell (p:=⟨b,_,none⟩) hb).trans d0,(hbel.out.cell (p:=⟨b,_,none⟩) hb).trans d1,(hbel.out.cell (p:=⟨b,_,none⟩) hb).trans d2⟩
   obtain ⟨e0,e1,e2⟩ : wr.cell? ⟨b',off'+k*3,none⟩=some (.int .i64 L[k].1)/\wr.cell? ⟨b',off'+k*3+1,none⟩=some (.int .i64 L[k].2.1)/\wr.cell? ⟨b',off'+k*3+2,none⟩=some (.string L[k].2.2):=by
    obtain ⟨d0,d1,d2,d3⟩:=hc' k hkL
    exact ⟨(hbel.out.cell (p:=⟨b',_,none⟩) hb').trans d0,(hbel.out.cell (p:=⟨b',_,none⟩) hb').trans d1,(hbel.out.cell (p:=⟨b',_,none⟩) hb').trans d2⟩
   clear hc hc'
   generalize L[k].1=kd at c0 e0
   generalize L[k].2.1=n at c1 e1
   generalize L[k].2.2=s at c2 e2
   have k0:(0:Int)<=(k:Int):=by omega
   have k1:(k:Int)<(len:Int):=by omega
   go_wp2_with fail
   go_quiet (fail)
   go_wp2_with fail
   go_roundw
   case rel=>exact ⟨k+1,by omega,by go_num,below_drewN hbel.out _⟩
   case measure=>simp [intOf];omega
  ·clear hN hN'
   go_wp2
   go_ret
   exact ⟨rfl,hbel.out⟩
theorem cells_one (L:List Stepx.Node):∀ u ∈ cellsOf L,u.oneCell'=true:=by
 induction L with
 | nil=>intro u hu;simp [cellsOf] at hu
 | cons x r ih =>
  intro u hu
  have hu:u ∈ [Value.int .i64 x.1,.int .i64 x.2.1,.string x.2.2] ++ cellsOf r:=hu
  rcases List.mem_append.1 hu with h|h
  ·simp at h;rcases h with rfl|rfl|rfl <;> rfl
  ·exact ih u h
theorem cells_len (L:List Stepx.Node):(cellsOf L).length=L.length*3:=by
 induction L with
 | nil=>rfl
 | cons x r ih =>
  have e:cellsOf (x :: r)=[Value.int .i64 x.1,.int .i64 x.2.1,.string x.2.2] ++ cellsOf r:=rfl
  rw [e,List.length_append,ih];simp;omega
end Sexp
end Go.Proofs.YtbofcepdckpkkaaGreatDoor
