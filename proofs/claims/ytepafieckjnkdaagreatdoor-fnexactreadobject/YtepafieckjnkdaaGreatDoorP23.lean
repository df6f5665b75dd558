import Derived.Test.YtepafieckjnkdaaGreatDoorP22
set_option linter.all false
set_option maxRecDepth 20000
set_option maxHeartbeats 8000000
open Go.ChangeShapes Go.WideShapes Go.ChangeAt Go.RowKit
open Go.Proofs.Tryz
namespace Go.Proofs.YtepafieckjnkdaaGreatDoor
namespace Rmkc
open Go.Deep
open Rown Rowo Rmkb
structure Fr (P:Nat->Prop) (w w':World):Prop where
 os:w'.os=w.os
 tape:w'.tape=w.tape
 output:w'.output=w.output
 size:w.heap.size<=w'.heap.size
 block:∀ b,b<w.heap.size->¬ P b->w'.heap[b]? = w.heap[b]?
theorem Fr.refl (P:Nat->Prop) (w:World):Fr P w w:=⟨rfl,rfl,rfl,Nat.le_refl _,fun _ _ _=>rfl⟩
theorem Fr.trans {P:Nat->Prop} {a b c:World} (h:Fr P a b) (k:Fr P b c):Fr P a c:=⟨k.os.trans h.os,k.tape.trans h.tape,k.output.trans h.output,Nat.le_trans h.size k.size,fun i h1 h2=>(k.block i (Nat.lt_of_lt_of_le h1 h.size) h2).trans (h.block i h1 h2)⟩
theorem Fr.grown {P:Nat->Prop} {w w':World} {row:Option Nat} (hg:w.grownBy w' row) (h:∀ r,row=some r->P r):Fr P w w' :=
 ⟨hg.os,hg.tape,hg.output,hg.size,fun b hb h1=>hg.block b hb (fun e=>h1 (h b e.symm))⟩
theorem Fr.below {P:Nat->Prop} {w w':World} (hb:Below w.heap.size w w'):Fr P w w':=⟨hb.os,hb.tape,hb.output,hb.size,fun b h _=>hb.block b h⟩
theorem Fr.imp {P Q:Nat->Prop} {w w':World} (h:Fr P w w') (hi:∀ b,P b->Q b):Fr Q w w':=⟨h.os,h.tape,h.output,h.size,fun b hb hq=>h.block b hb (fun hp=>hq (hi b hp))⟩
theorem Fr.bel {P:Nat->Prop} {base:Nat} {w w':World} (h:Fr P w w') (hbs:base<=w.heap.size) (hi:∀ b,P b->base<=b):Below base w w':=⟨h.os,h.tape,h.output,h.size,fun b hb=>h.block b (by omega) (fun hp=>by have:=hi b hp;omega)⟩
theorem own_fr {P:Nat->Prop} {w w':World} {base:Nat} {e:TypeId} {size:Nat} {v:Value} {n:Nat} {xs:List Value} (h:w.ownsRow base e size v n xs) (hf:Fr P w w') (hn:∀ b,v.ownBlock=some b->¬ P b):w'.ownsRow base e size v n xs:=by
 refine ⟨h.1,?_⟩
 rcases h.2 with hh|⟨g,cap,cur,rfl,hb,hg,rest⟩
 ·exact .inl hh
 ·refine .inr ⟨g,cap,cur,rfl,hb,?_,rest⟩
  rw [hf.block g (zLo hg) (hn g rfl)]
  exact hg
theorem apart_ne {a b:Value} (h:Apart a b) {g:Nat} (ha:a.ownBlock=some g):b.ownBlock ≠ some g:=by
 rcases h with h|h
 ·rw [h] at ha;cases ha
 ·exact fun e=>h (ha.trans e.symm)
/-! Expressions. -/
def mkA (k:Int) (a:Ad):Ad:=⟨Rmka.marks k a.l.length,a.e⟩
def nA (k:Int) (a:Ad):Int:=k+3*(a.l.length:Int)
def mkAs:Int->List Ad->List Ad
 | _,[]=>[]
 | k,p :: r=>mkA k p :: mkAs (nA k p) r
def nAs:Int->List Ad->Int
 | k,[]=>k
 | k,p :: r=>nAs (nA k p) r
theorem nAs_app:∀ (A B:List Ad) (k:Int),nAs k (A ++ B)=nAs (nAs k A) B
 | [],B,k=>rfl
 | p :: A,B,k=>nAs_app A B (nA k p)
theorem mkAs_app:∀ (A B:List Ad) (k:Int),mkAs k (A ++ B)=mkAs k A ++ mkAs (nAs k A) B
 | [],B,k=>rfl
 | p :: A,B,k=>by
  show mkA k p :: mkAs (nA k p) (A ++ B)=mkA k p :: mkAs (nA k p) A ++ _
  rw [mkAs_app A B (nA k p)];rfl
theorem mkAs_len:∀ (A:List Ad) (k:Int),(mkAs k A).length=A.length
 | [],_=>rfl
 | p :: A,k=>by show (mkAs (nA k p) A).length+1=_;rw [mkAs_len A];rfl
theorem nAs_le:∀ (A:List Ad) (k:Int),(∀ p ∈ A,p.l.length<=30)->k<=nAs k A/\nAs k A<=k+90*(A.length:Int)
 | [],k,_=>by show k<=k/\k<=k+90*((0:Nat):Int);omega
 | p :: A,k,h=>by
  have h1:=nAs_le A (nA k p) (fun q hq=>h q (List.mem_cons_of_mem _ hq))
  have h2:=h p (List.mem_cons_self ..)
  have e:nAs k (p :: A)=nAs (nA k p) A:=rfl
  rw [e,List.length_cons]
  unfold nA at h1 |-
  omega
structure Aw (w:World) (base:Nat) (av:Value) (aa:List Ad):Prop where
 row:w.ownsRow base 53 1 av aa.length (aa.map (·.e))
 ex:∀ a ∈ aa,ExOwn w base a.e a.l
 ap:(aa.map (·.e)).Pairwise Apart
theorem Aw.below {w w':World} {base:Nat} {av:Value} {aa:List Ad} (h:Aw w base av aa) (hb:Below w.heap.size w w'):Aw w' base av aa:=⟨own_below h.row hb,fun a ha=>⟨own_below (h.ex a ha).1 hb,(h.ex a ha).2⟩,h.ap⟩
theorem Aw.turn {w w':World} {base:Nat} {av:Value} {A B:List Ad} {p:Ad} {L:List Stepx.Node} (h:Aw w base av (A ++ p :: B)) (hL:∀ x ∈ L,x.2.2.size<=1048576) (ho:Nodm.Own w' base p.e L) (hg:w.grownBy w' p.e.ownBlock):Aw w' base av (A ++ ⟨L,p.e⟩ :: B):=by
 have hp:=(h.ex p (by simp)).1
 have hap:=h.ap
 rw [List.map_append,List.map_cons,List.pairwise_append] at hap
 obtain ⟨a1,a2,a3⟩:=hap
 obtain ⟨a4,a5⟩:=List.pairwise_cons.1 a2
 refine ⟨?_,fun q hq=>?_,?_⟩
 ·have e:(A ++ (⟨L,p.e⟩ : Ad) :: B).map (·.e)=(A ++ p :: B).map (·.e):=by simp
  have e2:(A ++ (⟨L,p.e⟩ : Ad) :: B).length=(A ++ p :: B).length:=by simp
  rw [e,e2]
  exact h.row.kept hg (own_ne h.row hp (by decide))
 ·rcases List.mem_append.1 hq with hq|hq
  ·have:=h.ex q (List.mem_append_left _ hq)
   exact ⟨this.1.kept hg (a3 q.e (List.mem_map_of_mem hq) p.e (by simp)),this.2⟩
  ·rcases List.mem_cons.1 hq with rfl|hq
   ·exact ⟨ho,hL⟩
   ·have:=h.ex q (by simp [hq])
    have hne:=a4 q.e (List.mem_map_of_mem hq)
    refine ⟨this.1.kept hg ?_,this.2⟩
    cases hb:q.e.ownBlock with
    | none=>exact .inl rfl
    | some b=>exact .inr fun e=>apart_ne hne e.symm hb
 ·have:=h.ap
  simpa using this
theorem markAs_any (base:Nat) (av:Value) (ps:List Ad) (k:Int) (w:World) (h:Aw w base av ps) (h0:0<k) (h1:k<=400000000) (hn:ps.length<=256) (hl:∀ p ∈ ps,p.l.length<=30) :
  Calls prog 54 #[av,.int .i64 k] w fun e w'=>e=.returned (.int .i64 (nAs k ps))/\Aw w' base av (mkAs k ps)/\Fr (fun b=>∃ x ∈ ps,x.e.ownBlock=some b) w w':=by
 rcases h.row.2 with ⟨rfl,hz⟩|⟨g,cap,cur,rfl,_⟩
 ·have hnil:ps=[]:=List.eq_nil_of_length_eq_zero hz
  subst hnil
  have H:=(show Hid _ from h)
  go_enter func54,ntmps54
  go_wp2
  go_loopw [1,5] (fun c i wr=>c=.int .i64 k/\i=.int .i64 0/\wr=w) (fun _ _ _=>0)
  case atStart=>exact ⟨rfl,rfl,rfl⟩
  case round =>
   obtain ⟨rfl,rfl,rfl⟩:=hrel
   go_wp2
   go_ret
   exact ⟨rfl,H.out,Fr.refl _ _⟩
 ·obtain ⟨n,hn'⟩ : ∃ n,n=ps.length:=⟨_,rfl⟩
  have HN:Hid (n=ps.length):=hn'
  rw [<- hn'] at h hn |-
  have H:=(show Hid _ from h)
  have HLL:=(show Hid _ from hl)
  clear h hl hn'
  go_enter func54,ntmps54
  go_wp2
  go_loopw [1,5] (fun c i wr=>∃ (A B:List Ad) (q:Int) (j:Nat),j<=n/\i=.int .i64 (j:Int)/\c=.int .i64 q/\0<q/\q<=450000000/\Hid (ps=A ++ B/\A.length=j/\q=nAs k A)/\Hid (Aw wr base (.slice (some ⟨g,0,none⟩) n cap) (mkAs k A ++ B))/\Hid (Fr (fun b=>∃ x ∈ ps,x.e.ownBlock=some b) w wr)) (fun _ i _=>n-(intOf i).toNat)
  case atStart=>exact ⟨[],ps,k,0,Nat.zero_le _,rfl,rfl,h0,by omega,⟨rfl,rfl,rfl⟩,H.out,Fr.refl _ _⟩
  case round =>
   obtain ⟨A,B,q,j,hj,rfl,rfl,hq0,hq1,HA,HP,HF⟩:=hrel
   clear H
   by_cases hlt:j<n
   ·obtain ⟨p,B',hB⟩ : ∃ p B',B=p :: B':=by
     cases B with
     | nil =>
      exfalso
      have h1:=HA.out.1
      have h2:=HA.out.2.1
      have h3:=HN.out
      rw [h1] at h3
      simp at h3;omega
     | cons p B'=>exact ⟨p,B',rfl⟩
    subst hB
    have hAl:(mkAs k A).length=j:=by rw [mkAs_len];exact HA.out.2.1
    have hpm:p ∈ ps:=by rw [HA.out.1];simp
    have lpl:=HLL.out p hpm
    have c2:wr.cell? ⟨g,j,none⟩=some p.e:=by
     have h:=HP.out.row
     have e:(mkAs k A ++ p :: B').length=n:=by rw [HN.out,HA.out.1,List.length_append,List.length_append,mkAs_len]
     rw [e] at h
     rw [h.cellAt j (by omega),List.map_append,List.getElem?_append_right (by rw [List.length_map];omega),List.length_map,hAl,Nat.sub_self]
     rfl
    have HP2:Hid (p ∈ ps):=hpm
    have NX:Hid (nAs k (A ++ [p])=q+3*(p.l.length:Int)/\mkAs k (A ++ [p])=mkAs k A ++ [⟨Rmka.marks q p.l.length,p.e⟩]/\ps=(A ++ [p]) ++ B'/\(A ++ [p]).length=j+1):=by
     refine ⟨?_,?_,?_,by simp [HA.out.2.1]⟩
     ·rw [nAs_app,<- HA.out.2.2];rfl
     ·rw [mkAs_app,<- HA.out.2.2];rfl
     ·rw [HA.out.1];simp
    have hex:=(HP.out.ex p (by simp)).1
    have cm:=Rmka.markE_any q (by omega) (by omega) p.e p.l.length p.l base _ hex rfl (by omega)
    have QB:Hid (q+3*(p.l.length:Int)<=450000000):=by
     have h1:=nAs_le (A ++ [p]) k (fun x hx=>HLL.out x (by rw [NX.out.2.2.1];exact List.mem_append_left _ hx))
     rw [NX.out.1,NX.out.2.2.2] at h1
     show _<=_
     have:=h1.2
     have hjn:((j+1:Nat):Int)<=256:=by omega
     omega
    have i0:(0:Int)<=(j:Int):=by omega
    have i1:(j:Int)<(n:Int):=by omega
    clear hex hpm HA hAl
    go_wp2_with fail
    refine cm.mono ?_
    rintro e w3 ⟨rfl,ho3,hg3⟩
    have PT3:Hid (Aw w3 base (.slice (some ⟨g,0,none⟩) n cap) (mkAs k (A ++ [p]) ++ B')):=by
     have h:=HP.out.turn (mark_small (q:=q) (n:=p.l.length) (by omega) (by omega)) (by
      show World.ownsRow _ _ _ _ _ _ _
      rw [Rmka.marks_len];exact ho3) hg3
     show Aw _ _ _ _
     rw [NX.out.2.1,List.append_assoc]
     exact h
    have FP3:Hid (Fr (fun b=>∃ x ∈ ps,x.e.ownBlock=some b) w w3):=HF.out.trans (Fr.grown hg3 (fun r hr=>⟨p,HP2.out,hr⟩))
    clear HP HF ho3 hg3 cm
    go_wp2_with fail
    go_roundw
    case rel=>exact ⟨A ++ [p],B',q+3*(p.l.length:Int),j+1,by omega,by go_num,by first|rfl|(congr 1;omega),by omega,QB.out,⟨NX.out.2.2.1,NX.out.2.2.2,NX.out.1.symm⟩,PT3.out,FP3.out⟩
    case measure=>simp [intOf];omega
   ·have e:j=n:=by omega
    have hB:B=[]:=by
     have h1:=HA.out.1
     have h2:=HA.out.2.1
     have h3:=HN.out
     rw [h1,List.length_append] at h3
     exact List.eq_nil_of_length_eq_zero (by omega)
    subst hB
    have hA:ps=A:=by rw [HA.out.1,List.append_nil]
    have HQ:Hid (q=nAs k ps):=(show _=_ from by rw [HA.out.2.2,hA])
    have HP2:Hid (Aw wr base (.slice (some ⟨g,0,none⟩) n cap) (mkAs k ps)):=(show Aw _ _ _ _ from by have h:=HP.out;rw [List.append_nil,<- hA] at h;exact h)
    clear HA hA HP
    subst e
    go_wp2
    go_ret
    exact ⟨by rw [<- HQ.out];rfl,HP2.out,HF.out⟩
theorem mkA_at (A B:List Ad) (p:Ad) (k:Int):mkAs k (A ++ p :: B)=mkAs k A ++ mkA (nAs k A) p :: mkAs (nA (nAs k A) p) B:=by rw [mkAs_app];rfl
theorem heldAs_any (base:Nat) (av:Value) (ps:List Ad) (k:Int) (w:World) (h:Aw w base av (mkAs k ps)) (h0:0<k) (h1:k<=400000000) (hn:ps.length<=256) (hl:∀ p ∈ ps,p.l.length<=30) :
  Calls prog 57 #[av,.int .i64 k] w fun e w'=>e=.returned (.int .i64 (nAs k ps))/\Below w.heap.size w w':=by
 have hlen:=mkAs_len ps k
 rcases h.row.2 with ⟨rfl,hz⟩|⟨g,cap,cur,rfl,_⟩
 ·have hnil:ps=[]:=List.eq_nil_of_length_eq_zero (by omega)
  subst hnil
  go_enter func57,ntmps57
  go_wp2
  go_loopw [1,5] (fun c i wr=>c=.int .i64 k/\i=.int .i64 0/\wr=w) (fun _ _ _=>0)
  case atStart=>exact ⟨rfl,rfl,rfl⟩
  case round =>
   obtain ⟨rfl,rfl,rfl⟩:=hrel
   go_wp2
   go_ret
   exact ⟨rfl,Below.refl _ _⟩
 ·obtain ⟨n,hn'⟩ : ∃ n,n=ps.length:=⟨_,rfl⟩
  have HN:Hid (n=ps.length):=hn'
  rw [hlen,<- hn'] at h
  rw [<- hn'] at hn
  rw [hlen,<- hn']
  have H:=(show Hid _ from h)
  have HLL:=(show Hid _ from hl)
  clear h hl hn' hlen
  go_enter func57,ntmps57
  go_wp2
  go_loopw [1,5] (fun c i wr=>∃ (A B:List Ad) (q:Int) (j:Nat),j<=n/\i=.int .i64 (j:Int)/\c=.int .i64 q/\0<q/\q<=450000000/\Hid (ps=A ++ B/\A.length=j/\q=nAs k A)/\Hid (Below w.heap.size w wr)) (fun _ i _=>n-(intOf i).toNat)
  case atStart=>exact ⟨[],ps,k,0,Nat.zero_le _,rfl,rfl,h0,by omega,⟨rfl,rfl,rfl⟩,Below.refl _ _⟩
  case round =>
   obtain ⟨A,B,q,j,hj,rfl,rfl,hq0,hq1,HA,HB⟩:=hrel
   by_cases hlt:j<n
   ·obtain ⟨p,B',hB⟩ : ∃ p B',B=p :: B':=by
     cases B with
     | nil =>
      exfalso
      have h1:=HA.out.1
      have h2:=HA.out.2.1
      have h3:=HN.out
      rw [h1] at h3
      simp at h3;omega
     | cons p B'=>exact ⟨p,B',rfl⟩
    subst hB
    have hAl:(mkAs k A).length=j:=by rw [mkAs_len];exact HA.out.2.1
    have hpm:p ∈ ps:=by rw [HA.out.1];simp
    have lpl:=HLL.out p hpm
    have hmk:mkAs k ps=mkAs k A ++ mkA q p :: mkAs (nA q p) B':=by rw [HA.out.1,mkA_at,<- HA.out.2.2]
    have NX:Hid (nAs k (A ++ [p])=q+3*(p.l.length:Int)/\ps=(A ++ [p]) ++ B'/\(A ++ [p]).length=j+1):=by
     refine ⟨?_,?_,by simp [HA.out.2.1]⟩
     ·rw [nAs_app,<- HA.out.2.2];rfl
     ·rw [HA.out.1];simp
    have QB:Hid (q+3*(p.l.length:Int)<=450000000):=by
     have h1:=nAs_le (A ++ [p]) k (fun x hx=>HLL.out x (by rw [NX.out.2.1];exact List.mem_append_left _ hx))
     rw [NX.out.1,NX.out.2.2] at h1
     show _<=_
     have:=h1.2
     have hjn:((j+1:Nat):Int)<=256:=by omega
     omega
    have hrow:=H.out.row
    rw [mkAs_len,<- HN.out,hmk] at hrow
    have glt:g<w.heap.size:=(hrow.lt g rfl).2
    have c2:wr.cell? ⟨g,j,none⟩=some p.e:=by
     refine (HB.out.cell (p:=⟨g,j,none⟩) glt).trans ?_
     rw [hrow.cellAt j (by omega),List.map_append,List.getElem?_append_right (by rw [List.length_map];omega),List.length_map,hAl,Nat.sub_self]
     rfl
    have hex:=(H.out.ex (mkA q p) (by rw [hmk];simp)).1
    have hex2:wr.ownsRow base 111 3 p.e p.l.length (Nodm.cellsOf (Rmka.marks q p.l.length)):=by
     have h:w.ownsRow base 111 3 p.e (Rmka.marks q p.l.length).length (Nodm.cellsOf (Rmka.marks q p.l.length)):=hex
     rw [Rmka.marks_len] at h
     exact own_below h HB.out
    have cm:=Rmka.heldE_any q (by omega) (by omega) p.e p.l.length base wr hex2 (by omega)
    have i0:(0:Int)<=(j:Int):=by omega
    have i1:(j:Int)<(n:Int):=by omega
    have dneg:decide (q+3*(p.l.length:Int)<0)=false:=decide_eq_false (by omega)
    clear hAl hpm hmk hrow hex hex2
    go_wp2_with fail
    refine cm.mono ?_
    rintro e w3 ⟨rfl,b3⟩
    have B3:Hid (Below w.heap.size w w3):=HB.out.trans (b3.mono HB.out.size)
    clear b3 cm
    go_wp2_with fail
    go_roundw
    case rel=>exact ⟨A ++ [p],B',q+3*(p.l.length:Int),j+1,by omega,by go_num,by first|rfl|(congr 1;omega),by omega,QB.out,⟨NX.out.2.1,NX.out.2.2,NX.out.1.symm⟩,B3.out⟩
    case measure=>simp [intOf];omega
   ·have e:j=n:=by omega
    have hB:B=[]:=by
     have h1:=HA.out.1
     have h2:=HA.out.2.1
     have h3:=HN.out
     rw [h1,List.length_append] at h3
     exact List.eq_nil_of_length_eq_zero (by omega)
    subst hB
    have hA:ps=A:=by rw [HA.out.1,List.append_nil]
    have HQ:Hid (q=nAs k ps):=(show _=_ from by rw [HA.out.2.2,hA])
    clear HA hA
    subst e
    go_wp2
    go_ret
    exact ⟨by rw [<- HQ.out];rfl,HB.out⟩
end Rmkc
namespace Rlsa
open Go.Deep
open Rown Rowo Rliq Rlip
open Rwor (wordsL)
open Rint (intS)
open Rbyt (byO)
open Txts (Texts)
open Otxa (after)
theorem words_texts {w:World} {base n:Nat} {L:List ByteArray} {g off cap:Nat} (h:w.ownsRow base 9 1 (.slice (some ⟨g,off,none⟩) n cap) L.length (L.map Value.string)):off=0/\n=L.length/\base<=g/\g<w.heap.size/\∀ (i:Nat) (hi:i<L.length),w.cell? ⟨g,i,none⟩=some (.string L[i]):=by
 obtain ⟨po,c,e⟩:=own_slice h
 cases e
 obtain ⟨h0,h1,h2,h3⟩:=row_cells h
 exact ⟨h0,rfl,h1,h2,fun i hi=>h3 i _ (by simp [hi])⟩
theorem gt_at {L:List ByteArray} {i:Nat} (hi:i<L.length):gt L i=L[i]:=by
 unfold gt;rw [List.getD_eq_getElem?_getD,List.getElem?_eq_getElem hi];rfl
theorem words_ne (r:Nat) (s:ByteArray):0<(wordsL r s).length:=by
 cases r with
 | zero=>unfold wordsL;exact Nat.zero_lt_one
 | succ r=>rw [Rwor.words_succ];split <;> simp
theorem words_le (r:Nat):∀ (s:ByteArray),∀ x ∈ wordsL r s,x.size<=s.size:=by
 induction r with
 | zero=>intro s x hx;unfold wordsL at hx;rw [List.mem_singleton.1 hx];exact Nat.le_refl _
 | succ r ih =>
  intro s x hx
  rw [Rwor.words_succ] at hx
  split at hx
  ·rcases List.mem_cons.1 hx with rfl|hx
   ·exact Cuts.cutA_le s 32
   ·have:=ih _ x hx;have:=Rwor.cutB_le s 32;omega
  ·rw [List.mem_singleton.1 hx];exact Nat.le_refl _
structure Wd (w:World) (g n cap:Nat) (L:List ByteArray):Prop where
 n:n=L.length
 lt:g<w.heap.size
 c:∀ (i:Nat),i<L.length->w.cell? ⟨g,i,none⟩=some (.string (gt L i))
theorem Wd.below {w w':World} {g n cap:Nat} {L:List ByteArray} (h:Wd w g n cap L) (hb:Below w.heap.size w w'):Wd w' g n cap L :=
 ⟨h.n,Nat.lt_of_lt_of_le h.lt hb.size,fun i hi=>(hb.cell (p:=⟨g,i,none⟩) h.lt).trans (h.c i hi)⟩
theorem Wd.texts {w:World} {g n cap:Nat} {L:List ByteArray} (h:Wd w g n cap L):Texts w (some ⟨g,0,none⟩) L :=
 .inr ⟨g,0,rfl,h.lt,fun i hi=>by rw [Nat.zero_add,h.c i hi,gt_at hi]⟩
theorem words_any (M:Nat) (hM:M<100) (h1:1<=M) (s:ByteArray) (w:World) (hs:s.size<=1048576) :
  Calls prog 86 #[.string s,.int .i64 (M:Int)] w fun e w'=>(∃ g n cap,e=.returned (.slice (some ⟨g,0,none⟩) n cap)/\Wd w' g n cap (wordsL M s))/\Below w.heap.size w w':=by
 refine (Rwor.specWords_any M hM h1 s w hs).mono ?_
 rintro e w' ⟨v,rfl,ho,hb⟩
 refine ⟨?_,hb⟩
 have hn:=words_ne M s
 obtain ⟨po,cap,rfl⟩:=own_slice ho
 match po,ho with
 | none,ho =>
  rcases ho.2 with ⟨_,h0⟩|⟨g,c,cur,hv,_⟩
  ·omega
  ·cases hv
 | some ⟨g,off,sp⟩,ho =>
  have hsp:sp=none:=by
   rcases ho.2 with ⟨hv,_⟩|⟨g',c,cur,hv,_⟩
   ·cases hv
   ·cases hv;rfl
  subst hsp
  obtain ⟨rfl,_,_,hlt,hc⟩:=words_texts ho
  exact ⟨g,_,cap,rfl,rfl,hlt,fun i hi=>by rw [hc i hi,gt_at hi]⟩
theorem int_any (g n cap:Nat) (L:List ByteArray) (k:Nat) (w:World) (h:Wd w g n cap L) (hl:L.length<=1048576) (hk:k<=100) (hz:∀ x ∈ L,x.size<=1048576) :
  Calls prog 87 #[.slice (some ⟨g,0,none⟩) n cap,.int .i64 (k:Int)] w fun e w'=>e=.returned (.tuple #[.int .i64 ((intS L k).getD 0),.bool (intS L k).isSome])/\Below w.heap.size w w':=by
 have:=Rint.l9Int_any (some ⟨g,0,none⟩) cap L k w h.texts hl hk hz
 rw [h.n];exact this
def Post (bs:Nat) (w:World) (X:Option Objr.X) (e:Ending) (w':World):Prop :=
 Below bs w w'/\w.heap.size<=w'.heap.size/\match X with
 | none=>∃ a0 n0 c0 a1 n1 c1 a2 n2 c2,e=.returned (.tuple #[.agg #[.slice a0 n0 c0,.slice a1 n1 c1,.slice a2 n2 c2],.bool false])
 | some x=>∃ ss ys aa a0 c0 a1 c1 a2 c2,objX ss ys aa=x/\Ob w' bs (.slice a0 ss.length c0) ss (.slice a1 ys.length c1) ys (.slice a2 aa.length c2) aa/\e=.returned (.tuple #[.agg #[.slice a0 ss.length c0,.slice a1 ys.length c1,.slice a2 aa.length c2],.bool true])
theorem lit (x:ByteArray) (l:List UInt8):(x.toList == l)=decide (x=wB l):=by
 rw [ByteArray.toList_eq]
 by_cases h:x=wB l
 ·rw [decide_eq_true h,h,wB_list];simp
 ·rw [decide_eq_false h]
  simp only [beq_eq_false_iff_ne,ne_eq]
  exact fun q=>h (bx (by rw [q,wB_list]))
structure St (w:World) (bs:Nat) (box:Array Value) (sv:Value) (ss:List Sd) (yv:Value) (ys:List Osyr.X) (av:Value) (aa:List Ad) (w1:World):Prop where
 b:Below bs w w1
 z:w.heap.size+1<w1.heap.size
 k1:w1.heap[w.heap.size]? = some (.cells box 28 (0,0))
 k2:w1.heap[w.heap.size+1]? = some (.cells #[.slice none 0 0,.slice none 0 0,.slice none 0 0] 28 (0,0))
 ob:Ob w1 bs sv ss yv ys av aa
theorem St.below {w w1 w2:World} {bs:Nat} {box:Array Value} {sv yv av:Value} {ss:List Sd} {ys:List Osyr.X} {aa:List Ad} (h:St w bs box sv ss yv ys av aa w1) (hbs:bs<=w.heap.size) (hb:Below w1.heap.size w1 w2):St w bs box sv ss yv ys av aa w2 :=
 ⟨h.b.trans (hb.mono (by have:=h.z;omega)),Nat.lt_of_lt_of_le h.z hb.size,(hb.block _ (by have:=h.z;omega)).trans h.k1,(hb.block _ h.z).trans h.k2,h.ob.below hb⟩
theorem st_zero {w:World} {bs:Nat} {sv yv av:Value} {ss:List Sd} {ys:List Osyr.X} {aa:List Ad} (hbs:bs<=w.heap.size) (h:Ob w bs sv ss yv ys av aa) :
  St w bs #[sv,yv,av] sv ss yv ys av aa ((w.alloc (.cells #[sv,yv,av] 28)).alloc (.cells #[.slice none 0 0,.slice none 0 0,.slice none 0 0] 28)):=by
 have b:Below w.heap.size w ((w.alloc (.cells #[sv,yv,av] 28)).alloc (.cells #[.slice none 0 0,.slice none 0 0,.slice none 0 0] 28)):=(zAl _ _).alloc (by simp) _
 refine ⟨b.mono hbs,by simp,?_,?_,h.below b⟩
 ·rw [Below.heap_alloc _ _ _ (by simp)];exact heap_alloc_last w _
 ·have h2:=heap_alloc_last (w.alloc (.cells #[sv,yv,av] 28)) (.cells #[.slice none 0 0,.slice none 0 0,.slice none 0 0] 28)
  simpa using h2
theorem Ob.cell {w:World} {base:Nat} {sv:Value} {ss:List Sd} {yv av:Value} {ys:List Osyr.X} {aa:List Ad} {T:TypeId} {g i:Nat} {cur:Array Value} {m:Nat × Nat} {u:Value} (h:Ob w base sv ss yv ys av aa) (ho:w.heap[g]? = some (.cells cur T m))
  (h0:35 ≠ T) (h1:72 ≠ T) (h2:49 ≠ T) (h3:53 ≠ T) (h4:111 ≠ T):Ob (w.setCell ⟨g,i,none⟩ u) base sv ss yv ys av aa :=
 ⟨h.sec.kept (Nodm.grown_set _ _ _ _) (.inr (own_ne_block h.sec ho h0)),h.rw.cell ho h1 h2 h3 h4⟩
theorem St.store {w w5 w6:World} {bs i:Nat} {box:Array Value} {sv yv av sv' yv' av' u:Value} {ss ss':List Sd} {ys ys':List Osyr.X} {aa aa':List Ad} {row:Option Nat} (h:St w bs box sv ss yv ys av aa w5) (hbs:bs<=w.heap.size) (hg:w5.grownBy w6 row)
  (hr:∀ r,row=some r->bs<=r/\r ≠ w.heap.size/\r ≠ w.heap.size+1) (ho:Ob w6 bs sv' ss' yv' ys' av' aa'):St w bs (box.setIfInBounds i u) sv' ss' yv' ys' av' aa' (w6.setCell ⟨w.heap.size,i,none⟩ u):=by
 have z5:=h.z
 have e1:w6.heap[w.heap.size]? = w5.heap[w.heap.size]?:=hg.block _ (by omega) (fun e=>(hr _ e.symm).2.1 rfl)
 have e2:w6.heap[w.heap.size+1]? = w5.heap[w.heap.size+1]?:=hg.block _ h.z (fun e=>(hr _ e.symm).2.2 rfl)
 have k1:=e1.trans h.k1
 have k2:=e2.trans h.k2
 refine ⟨?_,by rw [World.size_setCell];exact Nat.lt_of_lt_of_le h.z hg.size,heap_setCell_same _ _ _ _ _ _ k1,?_,Ob.cell ho k1 (by decide) (by decide) (by decide) (by decide) (by decide)⟩
 ·refine (h.b.grown hg (by omega) (fun r hr'=>(hr r hr').1)).setCell (p:=⟨w.heap.size,i,none⟩) hbs _
 ·rw [Below.heap_setCell _ _ _ _ (by simp)];exact k2
theorem St.row {w w5:World} {bs:Nat} {box:Array Value} {sv yv av:Value} {ss:List Sd} {ys:List Osyr.X} {aa:List Ad} {T:TypeId} {size n:Nat} {v:Value} {xs:List Value} (h:St w bs box sv ss yv ys av aa w5) (ho:w5.ownsRow bs T size v n xs) (hne:T ≠ 28):∀ r,v.ownBlock=some r->bs<=r/\r ≠ w.heap.size/\r ≠ w.heap.size+1:=fun r hr =>
 ⟨(ho.lt r hr).1,fun e=>own_ne_block ho h.k1 hne (by rw [hr,e]),fun e=>own_ne_block ho h.k2 hne (by rw [hr,e])⟩
theorem Ob.addS {w w':World} {base:Nat} {sv:Value} {ss:List Sd} {yv av:Value} {ys:List Osyr.X} {aa:List Ad} (h:Ob w base sv ss yv ys av aa) (nm d:ByteArray) (k b a:Int) (v':Value)
  (ho:w'.ownsRow base 35 6 v' (ss.length+1) (ss.flatMap Sd.cells ++ [.string nm,.int .i64 k,.int .i64 b,.int .i64 a,.string d,.slice none 0 0])) (hg:w.grownBy w' sv.ownBlock):Ob w' base v' (ss ++ [⟨nm,k,b,a,d,.slice none 0 0,[]⟩]) yv ys av aa:=by
 refine ⟨?_,(h.rw.type h.sec hg (by decide) (by decide) (by decide) (by decide)).addS nm d k b a⟩
 rw [cells_snoc,List.length_append]
 exact ho
theorem Ob.addY {w w':World} {base:Nat} {sv:Value} {ss:List Sd} {yv av:Value} {ys:List Osyr.X} {aa:List Ad} (h:Ob w base sv ss yv ys av aa) (y:Osyr.X) (v':Value)
  (ho:w'.ownsRow base 49 4 v' (ys.length+1) (ys.flatMap yCells ++ yCells y)) (hg:w.grownBy w' yv.ownBlock):Ob w' base sv ss v' (ys ++ [y]) av aa :=
 ⟨h.sec.kept hg (own_ne h.sec h.rw.sym (by decide)),h.rw.addY y v' ho hg⟩
theorem Ob.addA {w w':World} {base:Nat} {sv:Value} {ss:List Sd} {yv av:Value} {ys:List Osyr.X} {aa:List Ad} (h:Ob w base sv ss yv ys av aa) (x:Ad) (v':Value) (hx:ExOwn w base x.e x.l)
  (hap:∀ u ∈ ss.flatMap (fun s=>s.ps.map (·.e)) ++ aa.map (·.e),Apart u x.e)
  (ho:w'.ownsRow base 53 1 v' (aa.length+1) (aa.map (·.e) ++ [x.e])) (hg:w.grownBy w' av.ownBlock):Ob w' base sv ss yv ys v' (aa ++ [x]) :=
 ⟨h.sec.kept hg (own_ne h.sec h.rw.ass (by decide)),h.rw.addA x v' hx hap ho hg⟩
theorem set6 (P:List Value) (k:Nat) (h:P.length=k) (o0 o1 o2 o3 o4 o5 v0 v1 v2 v3 v4 v5:Value):((((((P ++ [o0,o1,o2,o3,o4,o5]).set k v0).set (k+1) v1).set (k+1+1) v2).set (k+1+1+1) v3).set (k+1+1+1+1) v4).set (k+1+1+1+1+1) v5=P ++ [v0,v1,v2,v3,v4,v5]:=by
 rw [List.set_append_right _ _ (by omega),List.set_append_right _ _ (by omega),List.set_append_right _ _ (by omega),List.set_append_right _ _ (by omega),List.set_append_right _ _ (by omega),List.set_append_right _ _ (by omega),h]
 rw [show k-k=0 by omega,show k+1-k=1 by omega,show k+1+1-k=2 by omega,show k+1+1+1-k=3 by omega,show k+1+1+1+1-k=4 by omega,show k+1+1+1+1+1-k=5 by omega]
 rfl
theorem put6 {w:World} {base g n cap:Nat} {T:TypeId} {P:List Value} {o v:Sd} (h:w.ownsRow base T 6 (.slice (some ⟨g,0,none⟩) (n+1) cap) (n+1) (P ++ o.cells)) (hP:P.length=n*6) :
  (w.setCells g (n*6) v.cells).ownsRow base T 6 (.slice (some ⟨g,0,none⟩) (n+1) cap) (n+1) (P ++ v.cells)/\w.grownBy (w.setCells g (n*6) v.cells) (some g):=by
 have e:=set6 P (n*6) hP (.string o.nm) (.int .i64 o.k) (.int .i64 o.b) (.int .i64 o.a) (.string o.d) o.pv (.string v.nm) (.int .i64 v.k) (.int .i64 v.b) (.int .i64 v.a) (.string v.d) v.pv
 have h1:=((((((h.stored (n*6) (.string v.nm)).1.stored (n*6+1) (.int .i64 v.k)).1.stored (n*6+1+1) (.int .i64 v.b)).1.stored (n*6+1+1+1) (.int .i64 v.a)).1.stored (n*6+1+1+1+1) (.string v.d)).1.stored (n*6+1+1+1+1+1) v.pv).1
 have e2:P ++ v.cells=P ++ [.string v.nm,.int .i64 v.k,.int .i64 v.b,.int .i64 v.a,.string v.d,v.pv]:=rfl
 rw [e2,<- e]
 refine ⟨h1,?_⟩
 exact ((((((World.grownBy.refl w (some g)).trans (Nodm.grown_set _ _ _ _)).trans (Nodm.grown_set _ _ _ _)).trans (Nodm.grown_set _ _ _ _)).trans (Nodm.grown_set _ _ _ _)).trans (Nodm.grown_set _ _ _ _)).trans (Nodm.grown_set _ _ _ _)
theorem post_yes {w w7:World} {bs:Nat} {ss:List Sd} {ys:List Osyr.X} {aa:List Ad} {a0 a1 a2:Option Addr} {nS nY nA c0 c1 c2:Nat} {X:Option Objr.X} (h:St w bs #[.slice a0 nS c0,.slice a1 nY c1,.slice a2 nA c2] (.slice a0 nS c0) ss (.slice a1 nY c1) ys (.slice a2 nA c2) aa w7) (hbs:bs<=w.heap.size)
  (h0:nS=ss.length) (h1:nY=ys.length) (h2:nA=aa.length) (hX:X=some (objX ss ys aa)) :
  Post bs w X (.returned (.tuple #[.agg #[.slice a0 nS c0,.slice a1 nY c1,.slice a2 nA c2],.bool true])) (w7.setRow (w.heap.size+1) #[.slice a0 nS c0,.slice a1 nY c1,.slice a2 nA c2]):=by
 subst hX h0 h1 h2
 have hg:w7.grownBy (w7.setRow (w.heap.size+1) #[.slice a0 ss.length c0,.slice a1 ys.length c1,.slice a2 aa.length c2]) (some (w.heap.size+1)):=⟨rfl,rfl,rfl,by simp,fun k _ hk=>setRow_other _ _ _ _ (fun e=>hk (by rw [e]))⟩
 refine ⟨below_setRow h.b (by omega) _,by rw [setRow_size];have:=h.z;omega,ss,ys,aa,a0,c0,a1,c1,a2,c2,rfl,⟨h.ob.sec.kept hg (.inr (own_ne_block h.ob.sec h.k2 (by decide))),h.ob.rw.other hg fun e size v n xs he hv=>.inr ?_⟩,rfl⟩
 rcases he with rfl|rfl|rfl|rfl <;> exact own_ne_block hv h.k2 (by decide)
theorem post_no {w w7:World} {bs:Nat} {box:Array Value} {sv yv av:Value} {ss:List Sd} {ys:List Osyr.X} {aa:List Ad} {a0 a1 a2:Option Addr} {n0 n1 n2 c0 c1 c2:Nat} {cs:Array Value} {X:Option Objr.X} (h:St w bs box sv ss yv ys av aa w7) (hbs:bs<=w.heap.size) (hX:X=none) :
  Post bs w X (.returned (.tuple #[.agg #[.slice a0 n0 c0,.slice a1 n1 c1,.slice a2 n2 c2],.bool false])) (w7.setRow (w.heap.size+1) cs):=by
 subst hX
 exact ⟨below_setRow h.b (by omega) _,by rw [setRow_size];have:=h.z;omega,a0,n0,c0,a1,n1,c1,a2,n2,c2,rfl⟩
theorem results_two {P:Program} {fn:Func} {p q:Tmp} {ty:TypeId} (h:fn.results=#[.cell p ty,.tmp q]) (tmps:Array Value) (w:World) (g:Nat) (t:TypeId) (cs:Array Value) (fr:Nat × Nat) (d:TypeDesc) (v:Value)
  (hp:tmps.getD p undef=.pointer (some ⟨g,0,none⟩)) (hq:tmps.getD q undef=v) (hg:w.heap[g]? = some (.cells cs t fr))
  (hu:P.underlying ty=some d) (hd:(match d with|.struct _|.array _ _=>true|_=>false)=true) (hi:(P.info? ty).map (·.size)=some cs.size) :
  (results fn tmps).run P w=.ok (.tuple #[.agg cs,v]) w:=by
 have hp':tmps[p]?.getD undef=.pointer (some ⟨g,0,none⟩):=by simpa using hp
 have hq':tmps[q]?.getD undef=v:=by simpa using hq
 simp [results,h,hp',hq',asAddr,run_loadVar_row w g t ty cs fr d hg hu hd hi]
theorem opt_yes {o:Option Int} {i:Int} (h:o.isSome=true) (hi:o.getD 0=i):o=some i:=by
 cases o with
 | none=>cases h
 | some x=>rw [<- hi];rfl
theorem opt_no {α:Type} {o:Option α} (h:o.isSome=false):o=none:=by
 cases o with
 | none=>rfl
 | some x=>cases h
theorem newN (W:World) (cs:List Value) (t:TypeId):∀ j u,cs[j]? = some u->(W.alloc (.cells cs.toArray t)).drew.cell? ((⟨W.heap.size,0,none⟩ : Addr).add j)=some u:=fun j u hu=>by
 have e:(⟨W.heap.size,0,none⟩ : Addr).add j=⟨W.heap.size,j,none⟩:=by unfold Addr.add;split <;> simp_all
 rw [e]
 show World.cell? (W.alloc _) ⟨W.heap.size,j,none⟩=_
 rw [World.cell?_alloc_new]
 simpa using hu
theorem newP (W:World) (cs:List Value) (t:TypeId):∀ j u,cs[j]? = some u->(W.alloc (.cells cs.toArray t)).cell? ((⟨W.heap.size,0,none⟩ : Addr).add j)=some u:=fun j u hu=>newN W cs t j u hu
theorem infoS:(prog.info? 35).map (fun i=>(i.zero,i.size,i.bytes))=some (some (.agg #[.string ⟨#[]⟩,.int .i64 0,.int .i64 0,.int .i64 0,.string ⟨#[]⟩,.slice none 0 0]),6,80):=by kernel_rfl
theorem infoP:(prog.info? 72).map (fun i=>(i.zero,i.size,i.bytes))=some (some (.agg #[.int .i64 0,.int .i64 0,.slice none 0 0]),3,40):=by kernel_rfl
theorem infoYs:(prog.info? 49).map (fun i=>(i.zero,i.size,i.bytes))=some (some (.agg #[.string ⟨#[]⟩,.int .i64 0,.int .i64 0,.bool false]),4,40):=by kernel_rfl
theorem infoE:(prog.info? 53).map (fun i=>(i.zero,i.size,i.bytes))=some (some (.slice none 0 0),1,24):=by kernel_rfl
theorem St.addP {w w7 w8:World} {bs g0 k c0 g' c':Nat} {S:List Sd} {s0:Sd} {yv av:Value} {ys:List Osyr.X} {aa:List Ad} {lit:Obj}
  (h:St w bs #[.slice (some ⟨g0,0,none⟩) (k+1) c0,yv,av] (.slice (some ⟨g0,0,none⟩) (k+1) c0) (S ++ [s0]) yv ys av aa w7) (hbs:bs<=w.heap.size) (hk:S.length=k) (p:Pd) (hx:ExOwn w7 bs p.e p.l)
  (hap:∀ u ∈ (S ++ [s0]).flatMap (fun s=>s.ps.map (·.e)) ++ aa.map (·.e),Apart u p.e/\Apart p.e u)
  (ho:w8.ownsRow bs 72 3 (.slice (some ⟨g',0,none⟩) (s0.ps.length+1) c') (s0.ps.length+1) (s0.ps.flatMap Pd.cells ++ p.cells))
  (hg:((w7.alloc (.cells s0.cells.toArray 35)).alloc lit).grownBy w8 s0.pv.ownBlock)
  (hv:s0.pv.ownBlock=some g' \/ g'=((w7.alloc (.cells s0.cells.toArray 35)).alloc lit).heap.size) :
  w8.heap[w7.heap.size]? = some (.cells s0.cells.toArray 35 (0,0)) /\
  w8.heap[w.heap.size]? = some (.cells #[.slice (some ⟨g0,0,none⟩) (k+1) c0,yv,av] 28 (0,0))/\w.heap.size<w7.heap.size /\
  (w8.setCell ⟨w7.heap.size,5,none⟩ (.slice (some ⟨g',0,none⟩) (s0.ps.length+1) c')).there g0 (k*6) 6 /\
  St w bs #[.slice (some ⟨g0,0,none⟩) (k+1) c0,yv,av] (.slice (some ⟨g0,0,none⟩) (k+1) c0) (S ++ [⟨s0.nm,s0.k,s0.b,s0.a,s0.d,.slice (some ⟨g',0,none⟩) (s0.ps.length+1) c',s0.ps ++ [p]⟩]) yv ys av aa
   ((w8.setCell ⟨w7.heap.size,5,none⟩ (.slice (some ⟨g',0,none⟩) (s0.ps.length+1) c')).setCells g0 (k*6) [.string s0.nm,.int .i64 s0.k,.int .i64 s0.b,.int .i64 s0.a,.string s0.d,.slice (some ⟨g',0,none⟩) (s0.ps.length+1) c']):=by
 obtain ⟨W,hW⟩ : ∃ W,W=(w7.alloc (.cells s0.cells.toArray 35)).alloc lit:=⟨_,rfl⟩
 have bW:Below w7.heap.size w7 W:=by rw [hW];exact (zAl _ _).alloc (by simp) _
 have zW:W.heap.size=w7.heap.size+2:=by rw [hW];simp
 have cW:W.heap[w7.heap.size]? = some (.cells s0.cells.toArray 35 (0,0)):=by rw [hW,Below.heap_alloc _ _ _ (by simp)];exact heap_alloc_last w7 _
 rw [<- hW] at hg hv
 clear hW
 have z7:=h.z
 have hS:=h.below hbs bW
 have hpat:=hS.ob.rw.pat s0 (by simp)
 have hr:=hS.row hpat (by decide)
 have ne:∀ {T:TypeId} {size n:Nat} {v:Value} {xs:List Value},W.ownsRow bs T size v n xs->T ≠ 72->w8.ownsRow bs T size v n xs:=fun {T size n v xs} q hne=>q.kept hg (own_ne q hpat hne)
 have hsec:=hS.ob.sec
 rw [cells_snoc,List.length_append,hk] at hsec
 have hsec:W.ownsRow bs 35 6 (.slice (some ⟨g0,0,none⟩) (k+1) c0) (k+1) (S.flatMap Sd.cells ++ s0.cells):=hsec
 have h7sec:=h.ob.sec
 have g0lt:g0<w7.heap.size:=(h7sec.lt g0 rfl).2
 have sec8:=ne hsec (by decide)
 have nC:s0.pv.ownBlock ≠ some w7.heap.size:=fun e=>by
  have:=((h.ob.rw.pat s0 (by simp)).lt _ e).2;omega
 have c8:w8.heap[w7.heap.size]? = some (.cells s0.cells.toArray 35 (0,0)):=(hg.block _ (by omega) (fun e=>nC e.symm)).trans cW
 have k8:=(hg.block w.heap.size (by omega) (fun e=>(hr _ e.symm).2.1 rfl)).trans hS.k1
 have k8':=(hg.block (w.heap.size+1) (by omega) (fun e=>(hr _ e.symm).2.2 rfl)).trans hS.k2
 have z8:=hg.size
 have rw8:=hS.ob.rw.addP p (.slice (some ⟨g',0,none⟩) (s0.ps.length+1) c') ⟨own_below hx.1 bW,hx.2⟩ hap ho hg (hv.elim (fun e=>.inl e.symm) (fun e=>.inr (by rw [<- e];rfl)))
 have g9:=Nodm.grown_set w8 w7.heap.size 5 (.slice (some ⟨g',0,none⟩) (s0.ps.length+1) c')
 have rw9:=rw8.cell (i:=5) (u:=.slice (some ⟨g',0,none⟩) (s0.ps.length+1) c') c8 (by decide) (by decide) (by decide) (by decide)
 have sec9:=sec8.kept g9 (.inr (by show some g0 ≠ some _;intro e;have:=Option.some.inj e;omega))
 have lP:(S.flatMap Sd.cells).length=k*6:=by rw [Rowo.flat_len Sd.cells 6 (fun _=>rfl),hk]
 obtain ⟨sec10,g10⟩:=put6 (v:=⟨s0.nm,s0.k,s0.b,s0.a,s0.d,.slice (some ⟨g',0,none⟩) (s0.ps.length+1) c',s0.ps ++ [p]⟩) sec9 lP
 have e9:∀ b,b ≠ w7.heap.size->(w8.setCell ⟨w7.heap.size,5,none⟩ (.slice (some ⟨g',0,none⟩) (s0.ps.length+1) c')).heap[b]? = w8.heap[b]?:=fun b hb=>Below.heap_setCell _ _ _ _ hb
 have n1:w.heap.size ≠ g0:=fun e=>own_ne_block h7sec h.k1 (by decide) (by rw [e];rfl)
 have n2:w.heap.size+1 ≠ g0:=fun e=>own_ne_block h7sec h.k2 (by decide) (by rw [e];rfl)
 refine ⟨c8,k8,by omega,fun j hj=>⟨?_,sec9.frozenAt _⟩,?_,?_,?_,?_,?_,rw9.type sec9 g10 (by decide) (by decide) (by decide) (by decide)⟩
 ·have hl:k*6+j<(k+1)*6:=by omega
  rw [sec9.cellAt (k*6+j) hl,List.getElem?_eq_getElem (by rw [sec9.1];exact hl)];rfl
 ·have b8:=hS.b.grown hg (by omega) (fun r hr'=>(hr r hr').1)
  have b9:=b8.setCell (p:=⟨w7.heap.size,5,none⟩) (show bs<=w7.heap.size by omega) (.slice (some ⟨g',0,none⟩) (s0.ps.length+1) c')
  exact b9.grown g10 (by rw [World.size_setCell];omega) (fun r hr'=>by have e:=Option.some.inj hr';rw [<- e];exact (h7sec.lt g0 rfl).1)
 ·have:=g10.size;rw [World.size_setCell] at this;exact Nat.lt_of_lt_of_le (show w.heap.size+1<w8.heap.size by omega) this
 ·refine (g10.block _ (by rw [World.size_setCell];omega) (fun e=>n1 (Option.some.inj e))).trans ((e9 _ (by omega)).trans k8)
 ·refine (g10.block _ (by rw [World.size_setCell];omega) (fun e=>n2 (Option.some.inj e))).trans ((e9 _ (by omega)).trans k8')
 ·rw [cells_snoc,List.length_append,hk]
  exact sec10
end Rlsa
end Go.Proofs.YtepafieckjnkdaaGreatDoor
