import Derived.Test.YtickfkphhngagaaGreatDoorP01
import Derived.Lib.ParseIntB
import Derived.Lib.ItoaNum
import Derived.Below
import Derived.Deep.Strs
import Derived.Deep.RegionWith
import Derived.Deep.QuietTactic
import Derived.BigQuiet
import Derived.LoopN
set_option linter.all false
set_option maxRecDepth 20000
set_option maxHeartbeats 8000000
open Go.ChangeShapes Go.WideShapes Go.ChangeAt Go.RowKit
open Go.Proofs.Tryz
namespace Go.Proofs.YtickfkphhngagaaGreatDoor
namespace Qflo
open Go.RowKit
def lay (k:Nat) (o:Oper):Oper:={ o with after:=o.after.push ⟨k,.data⟩ }
def bound (ops:Array Oper) (k n:Nat):Array Oper:=ops.modify n (lay k)
theorem get_bound (ops:Array Oper) (k n i:Nat):(bound ops k n)[i]? = if n=i then (ops[i]?).map (lay k) else ops[i]?:=by
 unfold bound
 rw [Array.getElem?_modify]
theorem dst_bound (ops:Array Oper) (k n i:Nat):((bound ops k n)[i]?).bind (·.dst)=(ops[i]?).bind (·.dst):=by
 rw [get_bound]
 split
 ·cases ops[i]? <;> rfl
 ·rfl
theorem yielded_bound (ops:Array Oper) (k n:Nat) (t:Array Value):yielded (bound ops k n) t=yielded ops t:=by
 funext j
 unfold yielded
 rw [dst_bound]
theorem wpOp_bound {P:Program} {ops:Array Oper} {Q:Exit->Act->World->Prop} {k n i:Nat} {K:Act->World->Prop} {a:Act} {w:World}:wpOp P (bound ops k n) Q i K a w ↔ wpOp P ops Q i K a w:=by
 unfold wpOp
 rw [get_bound,yielded_bound]
 by_cases hn:n=i
 ·rw [if_pos hn]
  cases ops[i]? with
  | none=>exact Iff.rfl
  | some o=>exact Iff.rfl
 ·rw [if_neg hn]
theorem wpQuiet_bound {P:Program} {ops:Array Oper} {C:World->Prop} {k n:Nat}:∀ (l:List Oper) {Q:Act->Prop} {a:Act},wpQuiet P ops C Q l a->wpQuiet P (bound ops k n) C Q l a
 | [],_,_,h=>h
 | o :: l,Q,a,h=>by
  unfold wpQuiet at h |-
  rw [yielded_bound]
  split
  ·rename_i hw
   rw [if_pos hw] at h
   exact Oper.quiet_mono (fun a h=>wpQuiet_bound l h) h
  ·rename_i hw
   rw [if_neg hw] at h
   exact wpQuiet_bound l h
theorem wpList_bound {P:Program} {ops:Array Oper} {Q:Exit->Act->World->Prop} {k n:Nat}:∀ (l:List Oper) {a:Act} {w:World},wpList P ops Q l a w->wpList P (bound ops k n) Q l a w
 | [],_,_,h=>h
 | o :: l,a,w,h=>by
  unfold wpList at h |-
  rw [yielded_bound]
  split
  ·rename_i hw
   rw [if_pos hw] at h
   exact h.imp (Oper.wp_mono (fun a w h=>wpList_bound l h)) id
  ·rename_i hw
   rw [if_neg hw] at h
   exact wpList_bound l h
theorem wpList_lay {P:Program} {ops:Array Oper} {Q:Exit->Act->World->Prop} {k:Nat} {o:Oper} {l:List Oper} {a:Act} {w:World} (h:wpList P ops Q (o :: l) a w):wpList P ops Q (lay k o :: l) a w:=h
theorem ready_bound {md:Region.Mode} {ops:Array Oper} {listed:Array Bool} {k n j:Nat}:j ∈ Region.ready md (bound ops k n) listed ↔ j ∈ Region.ready md ops listed/\(j=n->listed.getD k false=true):=by
 rw [mem_ready,mem_ready,get_bound]
 constructor
 ·rintro ⟨h0,o,ho,hall⟩
  split at ho
  ·rename_i hn
   subst hn
   cases hq:ops[n]? with
   | none=>rw [hq] at ho;cases ho
   | some o1 =>
    rw [hq] at ho
    cases ho
    refine ⟨⟨h0,o1,rfl,fun e he hb=>hall e (Array.mem_push.2 (.inl he)) hb⟩,fun _=>hall ⟨k,.data⟩ (Array.mem_push.2 (.inr rfl)) rfl⟩
  ·rename_i hn
   exact ⟨⟨h0,o,ho,hall⟩,fun e=>absurd e.symm hn⟩
 ·rintro ⟨⟨h0,o,ho,hall⟩,hk⟩
  by_cases hn:n=j
  ·subst hn
   refine ⟨h0,lay k o,by rw [if_pos rfl,ho];rfl,fun e he hb=>?_⟩
   rcases Array.mem_push.1 he with he|rfl
   ·exact hall e he hb
   ·exact hk rfl
  ·exact ⟨h0,o,by rw [if_neg hn];exact ho,hall⟩
def follows (md:Region.Mode) (ops:Array Oper) (k n:Nat):Bool :=
 match ops[k]?,ops[n]? with
 | some ok,some on=>ok.after.all (fun e=>!Region.binds md e || on.after.any (fun d=>Region.binds md d && d.on == e.on)) && (match ok.op with|.extract ..=>true|_=>false) && ok.guard.isNone
 | _,_=>false
def before (md:Region.Mode) (ops:Array Oper) (k:Nat):Array Bool:=((List.range ops.size).map fun j=>Region.waitsFor md ops k j).toArray
theorem before_get {md:Region.Mode} {ops:Array Oper} {k j:Nat} (hj:j<ops.size):(before md ops k).getD j true=Region.waitsFor md ops k j:=by
 unfold before
 simp [hj]
theorem put_panic {Q:Exit->Act->World->Prop} (hQ:∀ (d:Tmp) v c a w,Q (.panic c) (a.put (some d) v) w->Q (.panic c) a w) (d:Option Tmp) (v:Value) (c) (a:Act) (w:World) (h:Q (.panic c) (a.put d v) w):Q (.panic c) a w:=by
 cases d with
 | none=>exact h
 | some d=>exact hQ d v c a w h
open Qtail in
theorem region_any {P:Program} {C:World->Prop} {Q:Exit->Act->World->Prop} {a:Act} {w:World} {l:List Oper} (n:Nat) (hB:Region.lexTailB .any l.toArray n=true) (hC:C { w with drawn:=w.drawn+1 })
  (h:wpQuiet P l.toArray C (fun a'=>∀ w',C w'->wpList P l.toArray Q (l.drop n) a' w') (l.take n) a):wpAny P .any l.toArray Q l.toArray.size (Array.replicate l.toArray.size false) a { w with drawn:=w.drawn+1 }:=by
 simp only [Region.lexTailB,Bool.and_eq_true,decide_eq_true_eq] at hB
 obtain ⟨⟨⟨⟨hsel,hn⟩,hs⟩,hc⟩,hlex⟩:=hB
 have hn':n<l.length:=by simpa using hn
 have htl:(l.take n).length=n:=by simp;omega
 have hdl:(l.drop n).length=l.toArray.size-n:=by simp
 have inv0:HeadInv .any l.toArray n (Array.replicate l.toArray.size false) :=
  ⟨by simp,fun j oj _ hl=>(by rw [getD_replicate_false] at hl;cases hl),fun t _ ht=>getD_in (by simpa using ht) (getD_replicate_false _ _)⟩
 have H:=anyT_lex (md:=.any) (g:=l.toArray.size-n) hsel hs hc hn (l.take n) 0 _ a (fun j hj=>by
  have hj':j<n:=by rw [htl] at hj;exact hj
  simp [hj']) (by simpa using htl) inv0 (by rw [htl];exact hlex) h
 have:=any_of_head (Q':=Q) (g:=l.toArray.size-n) (fun listed a' w' hw' hL=>by
  have:=wpAny_of_seq (md:=.any) (Q':=Q) (l.drop n) n listed a' w' (fun j=>by simp [List.getElem?_drop]) (by rw [hdl];exact hL.1) (hL.2 w' hw')
  rwa [hdl] at this) _ _ _ { w with drawn:=w.drawn+1 } hC H
 rw [htl,show n+(l.toArray.size-n)=l.toArray.size by omega] at this
 exact this
theorem wpQuiet_mono {P:Program} {ops:Array Oper} {C:World->Prop} {Q Q':Act->Prop} (hq:∀ a,Q a->Q' a):∀ (l:List Oper) (a:Act),wpQuiet P ops C Q l a->wpQuiet P ops C Q' l a
 | [],_,h=>hq _ h
 | o :: l,a,h=>by
  unfold wpQuiet at h |-
  split
  ·rename_i hw
   rw [if_pos hw] at h
   exact Oper.quiet_mono (fun a h=>wpQuiet_mono hq l a h) h
  ·rename_i hw
   rw [if_neg hw] at h
   exact wpQuiet_mono hq l _ h
end Qflo
namespace Pint
open Go.Lib
theorem pu_app (M:Nat):∀ (l r:List UInt8) (acc a:Nat),parseUintM M acc l=.ok a->parseUintM M acc (l ++ r)=parseUintM M a r
 | [],r,acc,a,h=>by
  have:acc=a:=by unfold parseUintM at h;cases h;rfl
  rw [this];rfl
 | c :: l,r,acc,a,h=>by
  unfold parseUintM at h
  show parseUintM M acc (c :: (l ++ r))=parseUintM M a r
  conv=>lhs;unfold parseUintM
  split at h
  ·rename_i h1
   rw [if_pos h1]
   split at h
   ·cases h
   ·rename_i h2
    rw [if_neg h2]
    split at h
    ·cases h
    ·rename_i h3
     rw [if_neg h3]
     exact pu_app M l r _ a h
  ·cases h
theorem dig_nat {u:Nat} (h:u<10):(UInt8.ofNat (48+u)).toNat=48+u:=by
 rw [UInt8.toNat_ofNat'];omega
theorem pu_one {M acc u:Nat} (hu:u<10) (h1:acc<1844674407370955162) (h2:acc*10+u<=M):parseUintM M acc [UInt8.ofNat (48+u)]=.ok (acc*10+u):=by
 unfold parseUintM
 rw [dig_nat hu,if_pos (by omega),if_neg (by omega),if_neg (by omega)]
 rw [show 48+u-48=u by omega]
 rfl
theorem pu_digits (M:Nat) (hM:M<18446744073709551616):∀ (k u:Nat),u<=k->u<=M->parseUintM M 0 (decDigits u)=.ok u
 | k,u,hk,h=>by
  rw [decDigits]
  by_cases h10:u<10
  ·rw [dif_pos h10]
   have:=pu_one (M:=M) (acc:=0) h10 (by omega) (by omega)
   rw [this];congr 1;omega
  ·rw [dif_neg h10]
   match k,hk with
   | 0,hk=>omega
   | k+1,hk =>
    have ih:=pu_digits M hM k (u / 10) (by omega) (by omega)
    rw [pu_app M _ _ 0 _ ih,pu_one (by omega) (by omega) (by omega)]
    congr 1;omega
theorem digits_ne (u:Nat):decDigits u ≠ []:=by
 rw [decDigits]
 split
 ·simp
 ·simp
theorem digits_hd:∀ (k u:Nat),u<=k->∃ c r,decDigits u=c :: r/\48<=c.toNat/\c.toNat<=57
 | k,u,hk=>by
  rw [decDigits]
  by_cases h10:u<10
  ·rw [dif_pos h10]
   exact ⟨_,[],rfl,by rw [dig_nat h10];omega,by rw [dig_nat h10];omega⟩
  ·rw [dif_neg h10]
   match k,hk with
   | 0,hk=>omega
   | k+1,hk =>
    obtain ⟨c,r,e,h1,h2⟩:=digits_hd k (u / 10) (by omega)
    rw [e]
    exact ⟨c,r ++ _,rfl,h1,h2⟩
theorem parse_itoa {n:Int} (h0:-4000000000<=n) (h1:n<=4000000000):parseIntB 64 (itoa n)=.ok n:=by
 unfold itoa
 by_cases hn:n<0
 ·rw [if_pos hn]
  unfold parseIntB
  have hp:parseUintB 64 (decDigits n.natAbs)=.ok n.natAbs:=by
   unfold parseUintB
   rw [if_neg (digits_ne _)]
   exact pu_digits (2 ^ 64-1) (by decide) _ _ (Nat.le_refl _) (by omega)
  simp only [show (45:UInt8).toNat=45 from rfl]
  rw [if_pos (.inr trivial),hp]
  simp only []
  rw [if_neg (by simp),if_neg (by omega),if_pos trivial]
  congr 1;omega
 ·rw [if_neg hn]
  obtain ⟨c,r,e,c0,c1⟩:=digits_hd n.toNat n.toNat (Nat.le_refl _)
  have hp:parseUintB 64 (decDigits n.toNat)=.ok n.toNat:=by
   unfold parseUintB
   rw [if_neg (digits_ne _)]
   exact pu_digits (2 ^ 64-1) (by decide) _ _ (Nat.le_refl _) (by omega)
  rw [e] at hp |-
  unfold parseIntB
  simp only []
  rw [if_neg (by omega),hp]
  simp only []
  rw [if_neg (by omega),if_neg (by omega),if_neg (by omega)]
  congr 1;omega
def digS:Nat->List UInt8->Option Nat
 | n,[]=>some n
 | n,c :: r=>if 48<=c.toNat/\c.toNat<=57 then digS (10*n+(c.toNat-48)) r else none
def numS (l:List UInt8):Option Int :=
 if l=[] \/ 11<l.length then none
 else if l.head? = some 45 then (if l.tail=[] then none else (digS 0 l.tail).map fun (n:Nat)=>-(n:Int)) else (digS 0 l).map fun (n:Nat)=>(n:Int)
theorem dS_app:∀ (l r:List UInt8) (n a:Nat),digS n l=some a->digS n (l ++ r)=digS a r
 | [],r,n,a,h=>by
  have:n=a:=by unfold digS at h;exact Option.some.inj h
  rw [this];rfl
 | c :: l,r,n,a,h=>by
  unfold digS at h
  show digS n (c :: (l ++ r))=digS a r
  conv=>lhs;unfold digS
  split at h
  ·rename_i h1
   rw [if_pos h1]
   exact dS_app l r _ a h
  ·cases h
theorem dS_digits:∀ (k u:Nat),u<=k->digS 0 (decDigits u)=some u
 | k,u,hk=>by
  rw [decDigits]
  by_cases h10:u<10
  ·rw [dif_pos h10]
   unfold digS
   rw [dig_nat h10,if_pos (by omega)]
   unfold digS
   congr 1;omega
  ·rw [dif_neg h10]
   match k,hk with
   | 0,hk=>omega
   | k+1,hk =>
    rw [dS_app _ _ 0 _ (dS_digits k (u / 10) (by omega))]
    unfold digS
    rw [dig_nat (by omega),if_pos (by omega)]
    unfold digS
    congr 1;omega
theorem numS_itoa {n:Int} (h:(itoa n).length<=11):numS (itoa n)=some n:=by
 unfold numS
 unfold itoa at h |-
 by_cases hn:n<0
 ·rw [if_pos hn] at h |-
  rw [if_neg (by simp only [List.length_cons] at h |-;simp;omega),if_pos (show (45 :: decDigits n.natAbs:List UInt8).head? = some 45 from rfl)]
  show (if decDigits n.natAbs=[] then none else (digS 0 (decDigits n.natAbs)).map fun (n:Nat)=>-(n:Int))=_
  rw [if_neg (digits_ne _),dS_digits _ _ (Nat.le_refl _)]
  show some (-(n.natAbs:Int))=some n
  congr 1;omega
 ·rw [if_neg hn] at h |-
  obtain ⟨c,r,e,c0,c1⟩:=digits_hd n.toNat n.toNat (Nat.le_refl _)
  rw [if_neg (by rintro (q|q);exact digits_ne _ q;omega),if_neg (by rw [e];intro q;have:=Option.some.inj q;subst this;exact absurd c0 (by decide)),dS_digits _ _ (Nat.le_refl _)]
  show some (n.toNat:Int)=some n
  congr 1;omega
end Pint
namespace Txts
open Go.Deep
def Texts (w:World) (a:Option Addr) (L:List ByteArray):Prop:=L=[] \/ ∃ b off,a=some ⟨b,off,none⟩/\b<w.heap.size/\∀ i (h:i<L.length),w.cell? ⟨b,off+i,none⟩=some (.string L[i])
theorem Texts.below {w w':World} {a:Option Addr} {L:List ByteArray} (h:Texts w a L) (hb:Below w.heap.size w w'):Texts w' a L:=by
 rcases h with h|⟨b,off,ha,hl,hc⟩
 ·exact .inl h
 ·exact .inr ⟨b,off,ha,Nat.lt_of_lt_of_le hl hb.size,fun i hi=>(hb.cell (p:=⟨b,_,none⟩) hl).trans (hc i hi)⟩
theorem infoS:(prog.info? 9).map (fun i=>(i.zero,i.size,i.bytes))=some (some (.string ⟨#[]⟩),1,16):=by kernel_rfl
end Txts
namespace Rdr
def Rd (w:World) (rb:Nat):Prop:=∃ (a:Option Addr) (len cap p:Nat),w.cell? ⟨rb,0,none⟩=some (.slice a len cap)/\w.cell? ⟨rb,1,none⟩=some (.int .i64 p)/\p<=len/\len<=maxLen/\w.frozen? ⟨rb,1,none⟩=false /\
 (0<len->∃ b off,a=some ⟨b,off,none⟩/\b<rb/\∀ i,i<len->∃ x:Int,0<=x/\x<=255/\w.cell? ⟨b,off+i,none⟩=some (.int .u8 x))
theorem Rd.kept {w w':World} {rb:Nat} (h:Rd w rb) (hk:∀ k,k<=rb->w'.heap[k]? = w.heap[k]?):Rd w' rb:=by
 obtain ⟨a,len,cap,p,c0,c1,hp,hm,hf,hb⟩:=h
 have e:∀ b o,b<=rb->w'.cell? ⟨b,o,none⟩=w.cell? ⟨b,o,none⟩:=fun b o h=>World.cell?_of_block (a:=⟨b,o,none⟩) (hk b h)
 refine ⟨a,len,cap,p,(e _ _ (Nat.le_refl _)).trans c0,(e _ _ (Nat.le_refl _)).trans c1,hp,hm,(World.frozen?_of_block (a:=⟨rb,1,none⟩) (hk rb (Nat.le_refl _))).trans hf,fun hl=>?_⟩
 obtain ⟨b,off,ha,hbr,hx⟩:=hb hl
 refine ⟨b,off,ha,hbr,fun i hi=>?_⟩
 obtain ⟨x,x0,x1,hx⟩:=hx i hi
 exact ⟨x,x0,x1,(e _ _ (Nat.le_of_lt hbr)).trans hx⟩
theorem Rd.lt {w:World} {rb:Nat} (h:Rd w rb):rb<w.heap.size:=by
 obtain ⟨a,len,cap,p,c0,_⟩:=h
 exact World.block_lt_of_cell? w ⟨rb,0,none⟩ c0
theorem Rd.step {w:World} {rb len cap p:Nat} {a:Option Addr} (c0:w.cell? ⟨rb,0,none⟩=some (.slice a len cap)) (c1:w.cell? ⟨rb,1,none⟩=some (.int .i64 p)) (hp:p<len) (hm:len<=maxLen) (hf:w.frozen? ⟨rb,1,none⟩=false)
  (hb:0<len->∃ b off,a=some ⟨b,off,none⟩/\b<rb/\∀ i,i<len->∃ x:Int,0<=x/\x<=255/\w.cell? ⟨b,off+i,none⟩=some (.int .u8 x)) :
  Rd (w.setCell ⟨rb,1,none⟩ (.int .i64 ((p:Int)+1))) rb:=by
 refine ⟨a,len,cap,p+1,?_,?_,by omega,hm,?_,fun hl=>?_⟩
 ·exact (World.cell?_setCell_other w _ _ _ (by simp)).trans c0
 ·exact (World.cell?_setCell_same w _ _ c1).trans (by simp)
 ·rw [World.frozen?_setCell];exact hf
 ·obtain ⟨b,off,ha,hbr,hx⟩:=hb hl
  refine ⟨b,off,ha,hbr,fun i hi=>?_⟩
  obtain ⟨x,x0,x1,hx⟩:=hx i hi
  have hne:(⟨rb,1,none⟩ : Addr) ≠ ⟨b,off+i,none⟩:=fun e=>by have:=congrArg Addr.block e;simp at this;omega
  exact ⟨x,x0,x1,(World.cell?_setCell_other w _ _ _ hne).trans hx⟩
theorem grown_set (w:World) (b i:Nat) (v:Value):w.grownBy (w.setCell ⟨b,i,none⟩ v) (some b) :=
 ⟨rfl,rfl,rfl,by simp [World.setCell],fun k _ hne=>Below.heap_setCell w _ _ k (fun e=>hne (by rw [e]))⟩
def Post (w:World) (rb:Nat) (w':World):Prop:=Rd w' rb/\w.grownBy w' (some rb)
theorem Post.trans {a b c:World} {rb:Nat} (h:Post a rb b) (k:Post b rb c):Post a rb c :=
 ⟨k.1,⟨k.2.os.trans h.2.os,k.2.tape.trans h.2.tape,k.2.output.trans h.2.output,Nat.le_trans h.2.size k.2.size,fun i hi hne=>(k.2.block i (Nat.lt_of_lt_of_le hi h.2.size) hne).trans (h.2.block i hi hne)⟩⟩
theorem Post.of {w w':World} {rb:Nat} (h:Rd w rb) (hh:w'.heap=w.heap) (ho:w'.os=w.os) (ht:w'.tape=w.tape) (hp:w'.output=w.output):Post w rb w' :=
 ⟨h.kept fun _ _=>by rw [hh],⟨ho,ht,hp,by rw [hh];exact Nat.le_refl _,fun _ _ _=>by rw [hh]⟩⟩
theorem Post.alloc {w w':World} {rb:Nat} (h:Post w rb w') (o:Obj):Post w rb (w'.alloc o) :=
 ⟨h.1.kept fun k hk=>Below.heap_alloc w' o k (Nat.lt_of_le_of_lt hk h.1.lt),⟨h.2.os,h.2.tape,h.2.output,Nat.le_trans h.2.size (by simp),fun k hk hne=>(Below.heap_alloc w' o k (Nat.lt_of_lt_of_le hk h.2.size)).trans (h.2.block k hk hne)⟩⟩
theorem Post.refl {w:World} {rb:Nat} (h:Rd w rb):Post w rb w:=Post.of h rfl rfl rfl rfl
theorem Post.below {w w':World} {rb B:Nat} (h:Post w rb w') (hB:B<=rb) (hr:rb<=w.heap.size):Below B w w' :=
 ⟨h.2.os,h.2.tape,h.2.output,h.2.size,fun k hk=>h.2.block k (by omega) (fun e=>by cases e;omega)⟩
theorem next_any (rb:Nat) (w:World) (h:Rd w rb) :
  Calls prog 113 #[.pointer (some ⟨rb,0,none⟩)] w fun e w'=>(∃ x:Int,0<=x/\x<=255/\e=.returned (.int .i64 x))/\Post w rb w':=by
 have H:Hid (Rd w rb):=h
 obtain ⟨a,len,cap,p,c0,c1,hp,hm,hf,hb⟩:=h
 unfold maxLen at hm
 by_cases hlt:p<len
 ·obtain ⟨b,off,rfl,hbr,hx⟩:=hb (by omega)
  obtain ⟨x,x0,x1,hx⟩:=hx p hlt
  have hne:¬ b=rb:=by omega
  go_enter func113,ntmps113
  go_wp2
  go_quiet (fail)
  go_wp2
  go_quiet (fail)
  go_wp2
  go_ret
  have g:=grown_set w rb 1 (.int .i64 ((p:Int)+1))
  exact ⟨⟨x,x0,x1,rfl⟩,(Rd.step (w:=w) c0 c1 hlt hm hf hb).kept fun _ _=>rfl,⟨g.os,g.tape,g.output,g.size,g.block⟩⟩
 ·clear hb
  go_enter func113,ntmps113
  go_wp2
  go_quiet (fail)
  go_wp2
  go_ret
  exact ⟨⟨0,by decide,by decide,rfl⟩,H.out.kept fun _ _=>rfl,⟨rfl,rfl,rfl,Nat.le_refl _,fun _ _ _=>rfl⟩⟩
theorem wf_small {x:Int} (h0:-1000000001<=x) (h1:x<=1000000001):(Lit.int .i64 x).wf=true:=by
 simp [Lit.wf,IntKind.min,IntKind.max,IntKind.signed,IntKind.bits];omega
theorem mod_bd {x n:Int} (h:0<n):0<=x%n/\x%n<n:=⟨Int.emod_nonneg _ (by omega),Int.emod_lt_of_pos _ h⟩
theorem below_any (rb:Nat) (n:Int) (w:World) (h:Rd w rb) (h1:1<=n) (h2:n<=1000000000) :
  Calls prog 82 #[.pointer (some ⟨rb,0,none⟩),.int .i64 n] w fun e w'=>(∃ x:Int,0<=x/\x<n/\e=.returned (.int .i64 x))/\Post w rb w':=by
 have H:Hid (Rd w rb):=h
 clear h
 by_cases n1:n<=1
 ·go_enter func82,ntmps82
  go_wp2
  go_ret
  exact ⟨⟨0,by decide,by omega,rfl⟩,Post.refl H.out⟩
 by_cases n2:n<=256
 ·go_enter func82,ntmps82
  go_wp2_with (go_at_call 113;refine (next_any _ _ H.out).mono ?_;rintro e w' ⟨⟨x,x0,x1,rfl⟩,hp⟩)
  go_ret
  obtain ⟨a,b⟩:=mod_bd (x:=x) (n:=n) (by omega)
  exact ⟨⟨x%n,a,b,rfl⟩,hp⟩
 ·go_enter func82,ntmps82
  go_wp2_with fail
  refine (next_any _ _ H.out).mono ?_
  rintro e w1 ⟨⟨x,x0,x1,rfl⟩,hp⟩
  go_wp2_with fail
  refine (next_any _ _ hp.1).mono ?_
  rintro e w2 ⟨⟨y,y0,y1,rfl⟩,hp'⟩
  go_wp2
  go_ret
  obtain ⟨a,b⟩:=mod_bd (x:=x*256+y) (n:=n) (by omega)
  exact ⟨⟨(x*256+y)%n,a,b,rfl⟩,hp.trans hp'⟩
theorem once_any (rb:Nat) (n:Int) (w:World) (h:Rd w rb) (h1:1<=n) (h2:n<=1000000000) :
  Calls prog 56 #[.pointer (some ⟨rb,0,none⟩),.int .i64 n] w fun e w'=>(∃ x:Bool,e=.returned (.bool x))/\Post w rb w':=by
 have H:Hid (Rd w rb):=h
 clear h
 go_enter func56,ntmps56
 go_wp2_with (go_at_call 82;refine (below_any _ _ _ H.out h1 h2).mono ?_;rintro e w' ⟨⟨x,x0,x1,rfl⟩,hp⟩)
 go_ret
 exact ⟨⟨_,rfl⟩,hp⟩
theorem wf_zero:(Lit.int .u64 0).wf=true:=rfl
theorem word_any (rb:Nat) (w:World) (h:Rd w rb) :
  Calls prog 143 #[.pointer (some ⟨rb,0,none⟩)] w fun e w'=>(∃ x:Int,(Lit.int .u64 x).wf=true/\e=.returned (.int .u64 x))/\Post w rb w':=by
 have H:Hid (Rd w rb):=h
 clear h
 go_enter func143,ntmps143
 go_wp2
 go_loopw [3,4] (fun t i wr=>∃ (k:Nat) (x:Int),k<=8/\i=.int .i64 k/\t=.int .u64 x/\Hid ((Lit.int .u64 x).wf=true)/\Hid (Post w rb wr)) (fun _ i _=>8-(intOf i).toNat)
 case atStart=>exact ⟨0,0,by decide,rfl,rfl,wf_zero,Post.refl H.out⟩
 case round =>
  obtain ⟨k,x,hk,rfl,rfl,hx,hp⟩:=hrel
  by_cases hlt:k<8
  ·go_wp2_with (go_at_call 113;refine (next_any _ _ hp.out.1).mono ?_;rintro e w1 ⟨⟨y,y0,y1,rfl⟩,hp1⟩)
   go_roundw
   case rel=>exact ⟨k+1,_,by omega,by go_num,rfl,wf_bits _ _ _ _,hp.out.trans hp1⟩
   case measure=>simp [intOf];omega
  ·go_wp2
   go_ret
   exact ⟨⟨x,hx.out,rfl⟩,hp.out⟩
theorem near_any (rb:Nat) (low high:Int) (w:World) (h:Rd w rb) (h1:low<=high) (h2:-1000000000<=low) (h3:high<=1000000000) :
  Calls prog 116 #[.pointer (some ⟨rb,0,none⟩),.int .i64 low,.int .i64 high] w fun e w'=>(∃ x:Int,low<=x/\x<=high/\e=.returned (.int .i64 x))/\Post w rb w':=by
 have H:Hid (Rd w rb):=h
 clear h
 go_enter func116,ntmps116
 go_wp2_with fail
 refine (below_any _ _ _ H.out (by decide) (by decide)).mono ?_
 rintro e w1 ⟨⟨x,x0,x1,rfl⟩,hp⟩
 by_cases hx0:x=0
 ·subst hx0
  go_wp2
  go_ret
  exact ⟨⟨low,by omega,h1,rfl⟩,hp⟩
 by_cases hx1:x=1
 ·subst hx1
  go_wp2
  go_ret
  exact ⟨⟨high,h1,by omega,rfl⟩,hp⟩
 ·have b0:(x == 0)=false:=by simpa using hx0
  have b1:(x == 1)=false:=by simpa using hx1
  go_wp2_with fail
  refine (word_any _ _ hp.1).mono ?_
  rintro e w2 ⟨⟨y,hy,rfl⟩,hp'⟩
  have hy0:0<=y:=(bounds_u64 hy).1
  have HY:Hid ((Lit.int .u64 y).wf=true):=hy
  clear hy
  obtain ⟨m0,m1⟩:=mod_bd (x:=y / 2) (n:=high-low+1) (by omega)
  go_wp2
  go_ret
  exact ⟨⟨low+y / 2%(high-low+1),by omega,by omega,rfl⟩,hp.trans hp'⟩
theorem off_any (rb:Nat) (low high:Int) (w:World) (h:Rd w rb) (h1:low<=high) (h2:-1000000000<=low) (h3:high<=1000000000) :
  Calls prog 84 #[.pointer (some ⟨rb,0,none⟩),.int .i64 low,.int .i64 high] w fun e w'=>(∃ x:Int,(Lit.int .i64 x).wf=true/\e=.returned (.int .i64 x))/\Post w rb w':=by
 have H:Hid (Rd w rb):=h
 clear h
 go_enter func84,ntmps84
 go_wp2_with fail
 refine (once_any _ _ _ H.out (by decide) (by decide)).mono ?_
 rintro e w1 ⟨⟨x,rfl⟩,hp⟩
 cases x with
 | true =>
  go_wp2_with fail
  refine (below_any _ _ _ (hp.alloc _).1 (by decide) (by decide)).mono ?_
  rintro e w2 ⟨⟨y,y0,y1,rfl⟩,hp'⟩
  have hc:∃ z:Int,(Lit.int .i64 z).wf=true/\w2.cell? ⟨w1.heap.size,y.toNat,none⟩=some (.int .i64 z):=by
   have hl:=hp.1.lt
   have e:∀ i:Nat,w2.cell? ⟨w1.heap.size,i,none⟩=#[Value.int .i64 (low-1),.int .i64 (high+1),.int .i64 (-9223372036854775808),.int .i64 9223372036854775807][i]?:=fun i =>
    (World.cell?_of_block (a:=⟨w1.heap.size,i,none⟩) (hp'.2.block _ (by simp) (fun e=>by have:w1.heap.size=rb:=Option.some.inj e;omega))).trans (World.cell?_alloc_new _ _ _ _)
   have hy:y=0 \/ y=1 \/ y=2 \/ y=3:=by omega
   rcases hy with rfl|rfl|rfl|rfl
   ·exact ⟨_,wf_small (by omega) (by omega),e 0⟩
   ·exact ⟨_,wf_small (by omega) (by omega),e 1⟩
   ·exact ⟨_,by decide,e 2⟩
   ·exact ⟨_,by decide,e 3⟩
  obtain ⟨z,hz,hc⟩:=hc
  go_wp2
  go_ret
  exact ⟨⟨z,hz,rfl⟩,(hp.alloc _).trans hp'⟩
 | false =>
  go_wp2_with fail
  refine (near_any _ _ _ _ hp.1 h1 h2 h3).mono ?_
  rintro e w2 ⟨⟨y,y0,y1,rfl⟩,hp'⟩
  go_wp2
  go_ret
  exact ⟨⟨y,wf_small (by omega) (by omega),rfl⟩,hp.trans hp'⟩
def IsRow (k:IntKind) (w:World) (a:Option Addr) (len cap:Nat) (zs:List Int):Prop :=
 (a=none/\len=0/\cap=0/\zs=[]) \/
 ∃ x,a=some x/\len<=cap/\cap<=maxLen/\zs.length=cap/\(∀ i,i<zs.length->w.cell? (x.add i)=some (.int k (zs.getD i 0)))/\∀ n ∈ zs,(Lit.int k n).wf=true
theorem IsRow.below {k:IntKind} {w w':World} {a:Option Addr} {len cap:Nat} {zs:List Int} (h:IsRow k w a len cap zs) (hb:Below w.heap.size w w'):IsRow k w' a len cap zs:=by
 rcases h with h|⟨x,hx,hl,hm,hz,hc,hw⟩
 ·exact .inl h
 ·refine .inr ⟨x,hx,hl,hm,hz,fun i hi=>?_,hw⟩
  rw [<- hc i hi]
  exact hb.cell (World.block_lt_of_cell? w _ (hc i hi))
theorem IsRow.len {k:IntKind} {w:World} {a:Option Addr} {len cap:Nat} {zs:List Int} (h:IsRow k w a len cap zs):len<=maxLen:=by
 rcases h with ⟨_,rfl,_⟩|⟨x,_,h1,h2,_⟩
 ·exact Nat.zero_le _
 ·exact Nat.le_trans h1 h2
def bigB (len:Nat):Bool:=decide (1048576<len)
theorem big_any (a:Option Addr) (len cap:Nat) (w:World) (hl:len<=maxLen) :
  Calls prog 10 #[.slice a len cap] w fun e w'=>e=.returned (.bool (bigB len))/\w'=w:=by
 unfold maxLen at hl
 go_enter func10,ntmps10
 go_wp2
 go_ret
 refine ⟨congrArg (fun b=>Ending.returned (.bool b)) ?_,rfl⟩
 rw [Bool.eq_iff_iff];simp [bigB];try omega
theorem Rd.new {w:World} {a:Option Addr} {len cap:Nat} {zs:List Int} (h:IsRow .u8 w a len cap zs) (t:TypeId):Rd (w.alloc (.cells #[.slice a len cap,.int .i64 0] t)) w.heap.size:=by
 refine ⟨a,len,cap,0,?_,?_,Nat.zero_le _,?_,?_,fun hl=>?_⟩
 ·exact World.cell?_alloc_new _ _ _ _
 ·exact World.cell?_alloc_new _ _ _ _
 ·rcases h with ⟨_,rfl,_⟩|⟨x,_,h1,h2,_⟩
  ·exact Nat.zero_le _
  ·exact Nat.le_trans h1 h2
 ·exact World.frozen?_alloc_new _ _ _ _
 ·rcases h with ⟨_,rfl,_⟩|⟨⟨b,off,spot⟩,rfl,h1,h2,h3,hc,hw⟩
  ·exact absurd hl (Nat.lt_irrefl _)
  ·have c0:=hc 0 (by omega)
   have hspot:spot=none:=by simpa [Addr.add] using World.cell?_spot c0
   subst hspot
   have e:∀ i,(⟨b,off,none⟩ : Addr).add i=⟨b,off+i,none⟩:=fun i=>by unfold Addr.add;split <;> simp_all
   have hb:b<w.heap.size:=World.block_lt_of_cell? w ⟨b,off,none⟩ (by simpa [Addr.add] using c0)
   refine ⟨b,off,rfl,hb,fun i hi=>?_⟩
   have hi':i<zs.length:=by omega
   have:=bounds_u8 (hw (zs.getD i 0) (by rw [List.getD_eq_getElem?_getD,List.getElem?_eq_getElem hi'];exact List.getElem_mem hi'))
   refine ⟨zs.getD i 0,this.1,this.2,?_⟩
   rw [World.cell?_alloc_lt _ _ _ hb,<- e i]
   exact hc i hi'
theorem open_any (a:Option Addr) (len cap:Nat) (zs:List Int) (w:World) (h:IsRow .u8 w a len cap zs) :
  Calls prog 42 #[.slice a len cap] w fun e w'=>e=.returned (.pointer (some ⟨w.heap.size,0,none⟩))/\Rd w' w.heap.size/\Below w.heap.size w w':=by
 have H:=Rd.new h
 clear h
 go_enter func42,ntmps42
 go_wp2
 go_ret
 exact ⟨rfl,H _,zAl _ _⟩
end Rdr
namespace Laie
open Go.ChangeShapes Go.WideShapes Go.RowKit
theorem iface {P:Program} {W:World} {name nm:String} {d:DataW Unit} {rest:List (String × DataW Unit)} {ps:List MemPlace} {g:Nat} {t:TypeId} {ms:Array (String × TypeId)}
  (hg:P.globalNamed name=some g) (hty:(P.globals[g]?).map (·.type)=some t) (ht:P.underlying t=some (.interface ms))
  (h:DataW.LaidVars P W ((name,.iface nm d) :: rest) ps):∃ u v,W.cell? ⟨g,0,none⟩=some (.iface u v):=by
 obtain ⟨g',t',cs,fuel,p,q,hg',ht',hvar,hd,_,_⟩:=h
 obtain rfl:=Option.some.inj (hg.symm.trans hg')
 obtain rfl:=Option.some.inj (hty.symm.trans ht')
 rw [World.var?_cell hg hvar 0]
 obtain ⟨l⟩:=cs
 cases fuel with
 | zero=>simp [DataW.trod] at hd
 | succ fuel =>
  simp only [DataW.trod,ht] at hd
  split at hd
  all_goals first
   | (cases hd;done)
   | (simp_all;done)
   | skip
  all_goals (rename_i hq;first|(exact ⟨_,_,by simp_all⟩)|skip)
end Laie
end Go.Proofs.YtickfkphhngagaaGreatDoor
