import Derived.Test.YtepafieckjnkdaaGreatDoorP07
set_option linter.all false
set_option maxRecDepth 20000
set_option maxHeartbeats 8000000
open Go.ChangeShapes Go.WideShapes Go.ChangeAt Go.RowKit
open Go.Proofs.Tryz
namespace Go.Proofs.YtepafieckjnkdaaGreatDoor
namespace Nodj
open Optx Extx Exts Nodi
theorem words_all (w:World):∀ k:Nat,k<14->(w.alloc (.cells wordsA 9)).cell? ⟨w.heap.size,4+k,none⟩=some (.string (opTab.getD k ⟨#[]⟩)):=fun k hk=>by
 have h:=words_at (kd:=4+(k:Int)) (by omega) (by omega) w
 have e1:(4+(k:Int)).toNat=4+k:=by omega
 have e2:opW (4+(k:Int))=opTab.getD k ⟨#[]⟩:=by
  unfold opW
  rw [show (4+(k:Int)-4).toNat=k by omega]
 rw [e1,e2] at h
 exact h
theorem l2Word_any (s:ByteArray) (w:World) (hs:s.size<=1048576) :
  Calls prog 121 #[.string s] w fun e w'=>e=.returned (nodeV (nodeS s))/\Below w.heap.size w w':=by
 have B0:Hid (Below w.heap.size w ((w.alloc (.cells #[.int .i64 0,.int .i64 0,.string ⟨#[]⟩] 111)).alloc (.cells wordsA 9))):=(zAl _ _).alloc (by simp) _
 have Z0:Hid (Zero ((w.alloc (.cells #[.int .i64 0,.int .i64 0,.string ⟨#[]⟩] 111)).alloc (.cells wordsA 9)) w.heap.size):=(Zero.new w).below (zAl _ _)
 have HT:Hid (∀ k:Nat,k<14->((w.alloc (.cells #[.int .i64 0,.int .i64 0,.string ⟨#[]⟩] 111)).alloc (.cells wordsA 9)).cell? ⟨w.heap.size+1,4+k,none⟩=some (.string (opTab.getD k ⟨#[]⟩))):=fun k hk=>by
  have h:=words_all (w.alloc (.cells #[.int .i64 0,.int .i64 0,.string ⟨#[]⟩] 111)) k hk
  rw [show (w.alloc (.cells #[.int .i64 0,.int .i64 0,.string ⟨#[]⟩] 111)).heap.size=w.heap.size+1 by simp] at h
  exact h
 go_enter func121,ntmps121
 go_wp2_with (go_at_call 114;refine (l2Words_any _).mono ?_;rintro e w3 ⟨rfl,rfl⟩)
 generalize (w.alloc (.cells #[.int .i64 0,.int .i64 0,.string ⟨#[]⟩] 111)).alloc (.cells wordsA 9)=W0 at B0 Z0 HT |-
 go_loopw [4] (fun i wr=>∃ k:Nat,k<=14/\i=.int .i64 (4+(k:Int))/\Hid (∀ j,j<k->opAtB s j=false)/\wr=W0) (fun i _=>18-(intOf i).toNat)
 case atStart=>exact ⟨0,Nat.zero_le _,rfl,fun j h=>absurd h (Nat.not_lt_zero _),rfl⟩
 case round =>
  obtain ⟨k,hk,rfl,hno,rfl⟩:=hrel
  by_cases hlt:k<14
  ·have c0:=HT.out k hlt
   have e4:(4+(k:Int)).toNat=4+k:=by omega
   have k0:(0:Int)<=4+(k:Int):=by omega
   have k1:4+(k:Int)<18:=by omega
   have hw4:(4+(k:Int))<=17:=by omega
   cases hb:opAtB s k with
   | true =>
    have HV:Hid (nodeV (nodeS s)=nodeV (4+(k:Int),0,⟨#[]⟩)):=by show _=_;unfold nodeS;rw [op_first hlt hno.out hb]
    have hb':((opTab.getD k ⟨#[]⟩).toList == s.toList)=true:=hb
    generalize opTab.getD k ⟨#[]⟩=T at c0 hb'
    obtain ⟨r0,r1,r2,f0,hrl⟩:=Z0.out
    have ZP:Hid (_/\_/\_):=Z0.out.put (.int .i64 (4+(k:Int))) (.int .i64 0) (.string ⟨#[]⟩)
    have BB:Hid (Below w.heap.size w wr):=B0.out
    clear hno hb Z0
    go_wp2_with fail
    obtain ⟨p0,p1,p2⟩:=ZP.out
    exact bodyPost_ret (v:=.agg #[.int .i64 (4+(k:Int)),.int .i64 0,.string ⟨#[]⟩]) (by simp [results,results121,go_sem,p0,p1,p2]) rfl ⟨(congrArg Ending.returned HV.out).symm,set3_below BB.out (Nat.le_refl _) _ _ _⟩
   | false =>
    have HN2:Hid (∀ j,j<k+1->opAtB s j=false):=fun j hj=>by
     rcases Nat.lt_or_ge j k with h|h
     ·exact hno.out j h
     ·have e:j=k:=by omega
      subst e;exact hb
    have hb':((opTab.getD k ⟨#[]⟩).toList == s.toList)=false:=hb
    generalize opTab.getD k ⟨#[]⟩=T at c0 hb'
    clear hno hb
    go_wp2_with fail
    go_roundw
    case rel=>exact ⟨k+1,by omega,by first|go_num|(congr 1;omega),HN2.out,by first|rfl|trivial⟩
    case measure=>simp [intOf];omega
  ·have e:k=14:=by omega
   subst e
   have HOP:Hid (opI s=none):=op_none hno.out
   have cn:=Nums.specNum_any s wr (by unfold maxLen;omega)
   clear hno
   obtain ⟨r0,r1,r2,f0,hrl⟩:=Z0.out
   have BB:Hid (Below w.heap.size w wr):=B0.out
   cases hn:Nums.num s with
   | some n =>
    rw [hn] at cn
    simp only [Option.getD_some,Option.isSome_some] at cn
    have hbd:=num_bd hn
    have HV:Hid (nodeV (nodeS s)=nodeV (1,n,⟨#[]⟩)):=by show _=_;unfold nodeS;rw [HOP.out];simp only;rw [hn]
    have ZP:Hid (_/\_/\_):=Z0.out.put (.int .i64 1) (.int .i64 n) (.string ⟨#[]⟩)
    clear hn
    go_wp2_with fail
    refine cn.mono ?_
    rintro e w' ⟨rfl,hw'⟩
    have hw':=hw'.symm
    subst hw'
    go_wp2_with fail
    obtain ⟨p0,p1,p2⟩:=ZP.out
    exact bodyPost_ret (v:=.agg #[.int .i64 1,.int .i64 n,.string ⟨#[]⟩]) (by simp [results,results121,go_sem,p0,p1,p2]) rfl ⟨(congrArg Ending.returned HV.out).symm,set3_below BB.out (Nat.le_refl _) _ _ _⟩
   | none =>
    rw [hn] at cn
    simp only [Option.getD_none,Option.isSome_none] at cn
    by_cases hz:s.size=0
    ·have e0:s.toList.isEmpty=true:=Nums.empty_yes hz
     have hh:Nodi.hash s=false:=decide_eq_false (by omega)
     have HV:Hid (nodeV (nodeS s)=nodeV (2,0,s)):=by show _=_;unfold nodeS;rw [HOP.out];simp only;rw [hn];simp only;rw [hh];rfl
     have ZP:Hid (_/\_/\_):=Z0.out.put (.int .i64 2) (.int .i64 0) (.string s)
     clear hn hh
     go_wp2_with fail
     refine cn.mono ?_
     rintro e w' ⟨rfl,hw'⟩
     have hw':=hw'.symm
     subst hw'
     go_wp2_with fail
     obtain ⟨p0,p1,p2⟩:=ZP.out
     exact bodyPost_ret (v:=.agg #[.int .i64 2,.int .i64 0,.string s]) (by simp [results,results121,go_sem,p0,p1,p2]) rfl ⟨(congrArg Ending.returned HV.out).symm,set3_below BB.out (Nat.le_refl _) _ _ _⟩
    ·have e0:s.toList.isEmpty=false:=Nums.empty_no hz
     have hp:0<s.size:=Nat.pos_of_ne_zero hz
     cases hh:Nodi.hash s with
     | true =>
      have h35:(s[0].toNat:Int)=35:=by
       have h:=(of_decide_eq_true hh).2
       rw [Nums.getD_at s hp] at h
       omega
      have HV:Hid (nodeV (nodeS s)=nodeV (3,0,(s.extract 1 s.size))):=by show _=_;unfold nodeS;rw [HOP.out];simp only;rw [hn];simp only;rw [hh];rfl
      have ZP:Hid (_/\_/\_):=Z0.out.put (.int .i64 3) (.int .i64 0) (.string (s.extract 1 s.size))
      clear hn hh
      go_wp2_with fail
      refine cn.mono ?_
      rintro e w' ⟨rfl,hw'⟩
      have hw':=hw'.symm
      subst hw'
      go_wp2_with fail
      obtain ⟨p0,p1,p2⟩:=ZP.out
      exact bodyPost_ret (v:=.agg #[.int .i64 3,.int .i64 0,.string (s.extract 1 s.size)]) (by simp [results,results121,go_sem,p0,p1,p2]) rfl ⟨(congrArg Ending.returned HV.out).symm,set3_below BB.out (Nat.le_refl _) _ _ _⟩
     | false =>
      have h35:¬ (s[0].toNat:Int)=35:=fun h=>by
       have h2:=of_decide_eq_false hh
       rw [Nums.getD_at s hp] at h2
       exact h2 ⟨hp,by omega⟩
      have HV:Hid (nodeV (nodeS s)=nodeV (2,0,s)):=by show _=_;unfold nodeS;rw [HOP.out];simp only;rw [hn];simp only;rw [hh];rfl
      have ZP:Hid (_/\_/\_):=Z0.out.put (.int .i64 2) (.int .i64 0) (.string s)
      clear hn hh
      go_wp2_with fail
      refine cn.mono ?_
      rintro e w' ⟨rfl,hw'⟩
      have hw':=hw'.symm
      subst hw'
      go_wp2_with fail
      obtain ⟨p0,p1,p2⟩:=ZP.out
      exact bodyPost_ret (v:=.agg #[.int .i64 2,.int .i64 0,.string s]) (by simp [results,results121,go_sem,p0,p1,p2]) rfl ⟨(congrArg Ending.returned HV.out).symm,set3_below BB.out (Nat.le_refl _) _ _ _⟩
end Nodj
namespace Osyr
open Go.Deep
structure X where
 f0:ByteArray
 f1:Int
 f2:Int
 f3:Bool
instance:Inhabited X:=⟨⟨⟨#[]⟩,0,0,false⟩⟩
def Has (N:Nat) (w:World) (x:X):Prop:=x.f0.size<=maxLen
theorem Has.kept {N:Nat} {w w':World} {x:X} (h:Has N w x) (hk:∀ k,N<=k->k<w.heap.size->w'.heap[k]? = w.heap[k]?) (hs:w.heap.size<=w'.heap.size):Has N w' x:=by
 have z0:x.f0.size<=maxLen:=h
 exact z0
theorem Has.mono {N N':Nat} {w:World} {x:X} (h:Has N w x) (hN:N'<=N):Has N' w x:=by
 have z0:x.f0.size<=maxLen:=h
 exact z0
theorem Has.below {N:Nat} {w w':World} {x:X} (h:Has N w x) (hb:Below w.heap.size w w'):Has N w' x:=h.kept (fun k _ hk=>hb.block k hk) hb.size
def At (N:Nat) (w:World) (b o:Nat) (x:X):Prop:=w.cell? ⟨b,o,none⟩=some (.string x.f0)/\w.cell? ⟨b,o+1,none⟩=some (.int .i64 x.f1)/\w.cell? ⟨b,o+2,none⟩=some (.int .i64 x.f2)/\w.cell? ⟨b,o+3,none⟩=some (.bool x.f3)/\Has N w x
theorem At.kept {N:Nat} {w w':World} {b o:Nat} {x:X} (h:At N w b o x) (hb:w'.heap[b]? = w.heap[b]?) (hk:∀ k,N<=k->k<w.heap.size->w'.heap[k]? = w.heap[k]?) (hs:w.heap.size<=w'.heap.size):At N w' b o x:=by
 obtain ⟨d0,d1,d2,d3,hh⟩:=h
 have e:∀ i,w'.cell? ⟨b,i,none⟩=w.cell? ⟨b,i,none⟩:=fun i=>World.cell?_of_block (a:=⟨b,i,none⟩) hb
 exact ⟨(e _).trans d0,(e _).trans d1,(e _).trans d2,(e _).trans d3,hh.kept hk hs⟩
def Row (N:Nat) (w:World) (a:Option Addr) (L:List X):Prop :=
 L=[] \/ ∃ b off,a=some ⟨b,off,none⟩/\N<=b/\b<w.heap.size/\∀ i (h:i<L.length),At N w b (off+i*4) L[i]
theorem Row.kept {N:Nat} {w w':World} {a:Option Addr} {L:List X} (h:Row N w a L) (hk:∀ k,N<=k->k<w.heap.size->w'.heap[k]? = w.heap[k]?) (hs:w.heap.size<=w'.heap.size):Row N w' a L:=by
 rcases h with h|⟨b,off,ha,hN,hl,hc⟩
 ·exact .inl h
 ·exact .inr ⟨b,off,ha,hN,Nat.lt_of_lt_of_le hl hs,fun i hi=>(hc i hi).kept (hk b hN hl) hk hs⟩
theorem Row.mono {N N':Nat} {w:World} {a:Option Addr} {L:List X} (h:Row N w a L) (hN:N'<=N):Row N' w a L:=by
 rcases h with h|⟨b,off,ha,hNb,hl,hc⟩
 ·exact .inl h
 ·exact .inr ⟨b,off,ha,by omega,hl,fun i hi=>by obtain ⟨d0,d1,d2,d3,hh⟩:=hc i hi;exact ⟨d0,d1,d2,d3,hh.mono hN⟩⟩
theorem Row.below {N:Nat} {w w':World} {a:Option Addr} {L:List X} (h:Row N w a L) (hb:Below w.heap.size w w'):Row N w' a L:=h.kept (fun k _ hk=>hb.block k hk) hb.size
def SmallX (x:X):Prop:=x.f0.size<=1048576
def Small (L:List X):Prop:=L.length<=1048576/\∀ i (h:i<L.length),SmallX L[i]
def Part (W:World) (B len:Nat) (L:List X) (k:Nat):Prop :=
 (∀ i (h:i<L.length),i<k->At (B+1) W B (i*4) L[i])/\(∀ j,j<len*4->∃ u,W.cell? ⟨B,j,none⟩=some u)/\(∀ j,W.frozen? ⟨B,j,none⟩=false)/\B<W.heap.size
theorem Part.kept {W W':World} {B len k:Nat} {L:List X} (h:Part W B len L k) (hb:Below W.heap.size W W'):Part W' B len L k:=by
 have hB:=hb.block B h.2.2.2
 refine ⟨fun i hi hk=>(h.1 i hi hk).kept hB (fun j _ hj=>hb.block j hj) hb.size,fun j hj=>?_,fun j=>?_,Nat.lt_of_lt_of_le h.2.2.2 hb.size⟩
 ·rw [World.cell?_of_block (a:=⟨B,j,none⟩) hB];exact h.2.1 j hj
 ·rw [World.frozen?_of_block (a:=⟨B,j,none⟩) hB];exact h.2.2.1 j
theorem Part.set {W:World} {B len k o:Nat} {L:List X} (h:Part W B len L k) (ho:k*4<=o) (v:Value):Part (W.setCell ⟨B,o,none⟩ v) B len L k:=by
 have ne:∀ i,i ≠ o->(W.setCell ⟨B,o,none⟩ v).cell? ⟨B,i,none⟩=W.cell? ⟨B,i,none⟩:=fun i hi=>World.cell?_setCell_other W _ _ _ (fun e=>hi (by have:=congrArg Addr.off e;exact this.symm))
 have hko:∀ j,B+1<=j->j<W.heap.size->(W.setCell ⟨B,o,none⟩ v).heap[j]? = W.heap[j]?:=fun j hj _=>Below.heap_setCell _ _ _ _ (by simp;omega)
 refine ⟨fun i hi hk=>?_,fun j hj=>?_,fun j=>?_,?_⟩
 ·obtain ⟨d0,d1,d2,d3,hh⟩:=h.1 i hi hk
  have hlt:i*4+3<o:=by have:(i+1)*4<=k*4:=Nat.mul_le_mul_right _ hk;omega
  exact ⟨(ne _ (by omega)).trans d0,(ne _ (by omega)).trans d1,(ne _ (by omega)).trans d2,(ne _ (by omega)).trans d3,hh.kept hko (by rw [World.size_setCell];exact Nat.le_refl _)⟩
 ·by_cases e:j=o
  ·subst e
   obtain ⟨u,hu⟩:=h.2.1 j hj
   exact ⟨v,World.cell?_setCell_same W _ _ hu⟩
  ·rw [ne j e];exact h.2.1 j hj
 ·rw [World.frozen?_setCell];exact h.2.2.1 j
 ·rw [World.size_setCell];exact h.2.2.2
theorem Part.store {W:World} {B len k:Nat} {L:List X} (h:Part W B len L k) (hk:k<len) (hkL:k<L.length) (hh:Has (B+1) W L[k]):Part ((((W.setCell ⟨B,k*4,none⟩ (.string L[k].f0)).setCell ⟨B,k*4+1,none⟩ (.int .i64 L[k].f1)).setCell ⟨B,k*4+2,none⟩ (.int .i64 L[k].f2)).setCell ⟨B,k*4+3,none⟩ (.bool L[k].f3)) B len L (k+1):=by
 have h1:=h.set (o:=k*4) (by omega) (.string L[k].f0)
 have h2:=h1.set (o:=k*4+1) (by omega) (.int .i64 L[k].f1)
 have h3:=h2.set (o:=k*4+2) (by omega) (.int .i64 L[k].f2)
 have h4:=h3.set (o:=k*4+3) (by omega) (.bool L[k].f3)
 refine ⟨fun i hi hik=>?_,h4.2.1,h4.2.2.1,h4.2.2.2⟩
 by_cases e:i=k
 ·subst e
  obtain ⟨u0,hu0⟩:=h.2.1 (i*4) (by omega)
  obtain ⟨u1,hu1⟩:=h1.2.1 (i*4+1) (by omega)
  obtain ⟨u2,hu2⟩:=h2.2.1 (i*4+2) (by omega)
  obtain ⟨u3,hu3⟩:=h3.2.1 (i*4+3) (by omega)
  refine ⟨?_,?_,?_,?_,?_⟩
  ·rw [World.cell?_setCell_other _ _ _ _ (by simp),World.cell?_setCell_other _ _ _ _ (by simp),World.cell?_setCell_other _ _ _ _ (by simp)];exact World.cell?_setCell_same _ _ _ hu0
  ·rw [World.cell?_setCell_other _ _ _ _ (by simp),World.cell?_setCell_other _ _ _ _ (by simp)];exact World.cell?_setCell_same _ _ _ hu1
  ·rw [World.cell?_setCell_other _ _ _ _ (by simp)];exact World.cell?_setCell_same _ _ _ hu2
  ·exact World.cell?_setCell_same _ _ _ hu3
  ·refine hh.kept (fun j hj _=>?_) (by simp only [World.size_setCell];exact Nat.le_refl _)
   rw [Below.heap_setCell _ _ _ _ (by simp;omega),Below.heap_setCell _ _ _ _ (by simp;omega),Below.heap_setCell _ _ _ _ (by simp;omega),Below.heap_setCell _ _ _ _ (by simp;omega)]
 ·exact h4.1 i hi (by omega)
theorem info_parts {P:Program} {t:TypeId} {z:Value} {s b:Nat} (h:(P.info? t).map (fun i=>(i.zero,i.size,i.bytes))=some (some z,s,b)):∃ i,P.info? t=some i/\i.zero=some z/\i.size=s/\i.bytes=b:=by
 cases e:P.info? t with
 | none=>rw [e] at h;cases h
 | some i =>
  rw [e] at h
  simp only [Option.map_some,Option.some.injEq,Prod.mk.injEq] at h
  exact ⟨i,rfl,h.1,h.2.1,h.2.2⟩
theorem eqX_any (x:X) (w:World) (hh:Has 0 w x) (hh':Has 0 w x) (hsm:SmallX x) :
  Calls prog 91 #[.agg #[.string x.f0,.int .i64 x.f1,.int .i64 x.f2,.bool x.f3],.agg #[.string x.f0,.int .i64 x.f1,.int .i64 x.f2,.bool x.f3]] w fun e w'=>e=.returned (.bool true)/\Below w.heap.size w w':=by
 obtain ⟨q0,hq0⟩ : ∃ q,q=x.f0:=⟨_,rfl⟩
 rw [<- hq0]
 obtain ⟨q1,hq1⟩ : ∃ q,q=x.f1:=⟨_,rfl⟩
 rw [<- hq1]
 obtain ⟨q2,hq2⟩ : ∃ q,q=x.f2:=⟨_,rfl⟩
 rw [<- hq2]
 obtain ⟨q3,hq3⟩ : ∃ q,q=x.f3:=⟨_,rfl⟩
 rw [<- hq3]
 clear hq0 hq1 hq2 hq3
 have WB:Hid (∀ o o':Obj,Below w.heap.size w ((w.alloc o).alloc o')):=fun o o'=>(zAl _ _).alloc (by simp) _
 go_enter func91,ntmps91
 go_wp2
 go_ret
 exact ⟨rfl,WB.out _ _⟩
theorem eqXS_any (a a':Option Addr) (cap cap':Nat) (L:List X) (w:World) (hN:Row 0 w a L) (hN':Row 0 w a' L) (hsm:Small L) :
  Calls prog 50 #[.slice a L.length cap,.slice a' L.length cap'] w fun e w'=>e=.returned (.bool true)/\Below w.heap.size w w':=by
 obtain ⟨len,hl⟩ : ∃ len,len=L.length:=⟨_,rfl⟩
 have HL:Hid (len=L.length):=hl
 have hlen:=hsm.1
 have HSM:Hid (Small L):=hsm
 rw [<- hl] at hlen |-
 clear hl hsm
 go_enter func50,ntmps50
 go_wp2
 go_loopw [5] (fun i wr=>∃ k:Nat,k<=len/\i=.int .i64 k/\Hid (Below w.heap.size w wr)) (fun i _=>len-(intOf i).toNat)
 case atStart=>exact ⟨0,Nat.zero_le _,rfl,Below.refl _ _⟩
 case round =>
  obtain ⟨k,hk,rfl,hbel⟩:=hrel
  by_cases hlt:k<len
  ·have hkL:k<L.length:=by have:=HL.out;omega
   rcases hN with hnil|⟨b,off,rfl,_,hb,hc⟩
   ·exfalso;rw [hnil] at hkL;exact absurd hkL (by simp)
   rcases hN' with hnil|⟨b',off',rfl,_,hb',hc'⟩
   ·exfalso;rw [hnil] at hkL;exact absurd hkL (by simp)
   obtain ⟨d0,d1,d2,d3,hh⟩:=(hc k hkL).kept (hbel.out.block b hb) (fun j _ hj=>hbel.out.block j hj) hbel.out.size
   obtain ⟨e0,e1,e2,e3,hh'⟩:=(hc' k hkL).kept (hbel.out.block b' hb') (fun j _ hj=>hbel.out.block j hj) hbel.out.size
   clear hc hc'
   have ce:=fun W (h:Has 0 W L[k]) (h':Has 0 W L[k])=>eqX_any L[k] W h h' (HSM.out.2 k hkL)
   have HH:Hid (∀ W,Below wr.heap.size wr W->Has 0 W L[k]/\Has 0 W L[k]):=fun W h=>⟨hh.below h,hh'.below h⟩
   clear hh hh'
   generalize L[k]=x at *
   have HC:Hid (∀ W,Below wr.heap.size wr W->Calls prog 91 #[.agg #[.string x.f0,.int .i64 x.f1,.int .i64 x.f2,.bool x.f3],.agg #[.string x.f0,.int .i64 x.f1,.int .i64 x.f2,.bool x.f3]] W fun e w'=>e=.returned (.bool true)/\Below W.heap.size W w'):=fun W h=>ce W (HH.out W h).1 (HH.out W h).2
   clear ce HH
   obtain ⟨q0,hq0⟩ : ∃ q,q=x.f0:=⟨_,rfl⟩
   rw [<- hq0] at d0 e0
   simp only [<- hq0] at HC
   clear hq0
   obtain ⟨q1,hq1⟩ : ∃ q,q=x.f1:=⟨_,rfl⟩
   rw [<- hq1] at d1 e1
   simp only [<- hq1] at HC
   clear hq1
   obtain ⟨q2,hq2⟩ : ∃ q,q=x.f2:=⟨_,rfl⟩
   rw [<- hq2] at d2 e2
   simp only [<- hq2] at HC
   clear hq2
   obtain ⟨q3,hq3⟩ : ∃ q,q=x.f3:=⟨_,rfl⟩
   rw [<- hq3] at d3 e3
   simp only [<- hq3] at HC
   clear hq3
   have k0:(0:Int)<=(k:Int):=by omega
   have k1:(k:Int)<(len:Int):=by omega
   go_wp2_with fail
   go_region_with (go_at_call 91;refine (HC.out _ (zRf.drew)).mono ?_;rintro e w1 ⟨rfl,hb1⟩)
   all_goals go_wp2
   all_goals
    go_roundw
    case rel=>exact ⟨k+1,by omega,by go_num,hbel.out.trans ((Mirror.below_of_drew hb1).mono hbel.out.size)⟩
    case measure=>simp [intOf];omega
  ·clear hN hN'
   go_wp2
   go_ret
   exact ⟨rfl,hbel.out⟩
end Osyr
namespace Assr
open Go.Deep
structure X where
 f0:List Stepx.Node
instance:Inhabited X:=⟨⟨[]⟩⟩
def Has (N:Nat) (w:World) (x:X) (a0:Option Addr):Prop:=Nodw.Row N w a0 x.f0/\x.f0.length<=maxLen
theorem Has.kept {N:Nat} {w w':World} {x:X} {a0:Option Addr} (h:Has N w x a0) (hk:∀ k,N<=k->k<w.heap.size->w'.heap[k]? = w.heap[k]?) (hs:w.heap.size<=w'.heap.size):Has N w' x a0:=by
 obtain ⟨h0,z0⟩:=h
 exact ⟨h0.kept hk hs,z0⟩
theorem Has.mono {N N':Nat} {w:World} {x:X} {a0:Option Addr} (h:Has N w x a0) (hN:N'<=N):Has N' w x a0:=by
 obtain ⟨h0,z0⟩:=h
 exact ⟨h0.mono hN,z0⟩
theorem Has.below {N:Nat} {w w':World} {x:X} {a0:Option Addr} (h:Has N w x a0) (hb:Below w.heap.size w w'):Has N w' x a0:=h.kept (fun k _ hk=>hb.block k hk) hb.size
def At (N:Nat) (w:World) (b o:Nat) (x:X):Prop:=∃ a0 c0,w.cell? ⟨b,o,none⟩=some (.slice a0 x.f0.length c0)/\Has N w x a0
theorem At.kept {N:Nat} {w w':World} {b o:Nat} {x:X} (h:At N w b o x) (hb:w'.heap[b]? = w.heap[b]?) (hk:∀ k,N<=k->k<w.heap.size->w'.heap[k]? = w.heap[k]?) (hs:w.heap.size<=w'.heap.size):At N w' b o x:=by
 obtain ⟨a0,c0,d0,hh⟩:=h
 have e:∀ i,w'.cell? ⟨b,i,none⟩=w.cell? ⟨b,i,none⟩:=fun i=>World.cell?_of_block (a:=⟨b,i,none⟩) hb
 exact ⟨a0,c0,(e _).trans d0,hh.kept hk hs⟩
def Row (N:Nat) (w:World) (a:Option Addr) (L:List X):Prop :=
 L=[] \/ ∃ b off,a=some ⟨b,off,none⟩/\N<=b/\b<w.heap.size/\∀ i (h:i<L.length),At N w b (off+i) L[i]
theorem Row.kept {N:Nat} {w w':World} {a:Option Addr} {L:List X} (h:Row N w a L) (hk:∀ k,N<=k->k<w.heap.size->w'.heap[k]? = w.heap[k]?) (hs:w.heap.size<=w'.heap.size):Row N w' a L:=by
 rcases h with h|⟨b,off,ha,hN,hl,hc⟩
 ·exact .inl h
 ·exact .inr ⟨b,off,ha,hN,Nat.lt_of_lt_of_le hl hs,fun i hi=>(hc i hi).kept (hk b hN hl) hk hs⟩
theorem Row.mono {N N':Nat} {w:World} {a:Option Addr} {L:List X} (h:Row N w a L) (hN:N'<=N):Row N' w a L:=by
 rcases h with h|⟨b,off,ha,hNb,hl,hc⟩
 ·exact .inl h
 ·exact .inr ⟨b,off,ha,by omega,hl,fun i hi=>by obtain ⟨a0,c0,d0,hh⟩:=hc i hi;exact ⟨a0,c0,d0,hh.mono hN⟩⟩
theorem Row.below {N:Nat} {w w':World} {a:Option Addr} {L:List X} (h:Row N w a L) (hb:Below w.heap.size w w'):Row N w' a L:=h.kept (fun k _ hk=>hb.block k hk) hb.size
def SmallX (x:X):Prop:=Nodw.Small x.f0
def Small (L:List X):Prop:=L.length<=1048576/\∀ i (h:i<L.length),SmallX L[i]
def Part (W:World) (B len:Nat) (L:List X) (k:Nat):Prop :=
 (∀ i (h:i<L.length),i<k->At (B+1) W B (i) L[i])/\(∀ j,j<len->∃ u,W.cell? ⟨B,j,none⟩=some u)/\(∀ j,W.frozen? ⟨B,j,none⟩=false)/\B<W.heap.size
theorem Part.kept {W W':World} {B len k:Nat} {L:List X} (h:Part W B len L k) (hb:Below W.heap.size W W'):Part W' B len L k:=by
 have hB:=hb.block B h.2.2.2
 refine ⟨fun i hi hk=>(h.1 i hi hk).kept hB (fun j _ hj=>hb.block j hj) hb.size,fun j hj=>?_,fun j=>?_,Nat.lt_of_lt_of_le h.2.2.2 hb.size⟩
 ·rw [World.cell?_of_block (a:=⟨B,j,none⟩) hB];exact h.2.1 j hj
 ·rw [World.frozen?_of_block (a:=⟨B,j,none⟩) hB];exact h.2.2.1 j
theorem Part.set {W:World} {B len k o:Nat} {L:List X} (h:Part W B len L k) (ho:k<=o) (v:Value):Part (W.setCell ⟨B,o,none⟩ v) B len L k:=by
 have ne:∀ i,i ≠ o->(W.setCell ⟨B,o,none⟩ v).cell? ⟨B,i,none⟩=W.cell? ⟨B,i,none⟩:=fun i hi=>World.cell?_setCell_other W _ _ _ (fun e=>hi (by have:=congrArg Addr.off e;exact this.symm))
 have hko:∀ j,B+1<=j->j<W.heap.size->(W.setCell ⟨B,o,none⟩ v).heap[j]? = W.heap[j]?:=fun j hj _=>Below.heap_setCell _ _ _ _ (by simp;omega)
 refine ⟨fun i hi hk=>?_,fun j hj=>?_,fun j=>?_,?_⟩
 ·obtain ⟨a0,c0,d0,hh⟩:=h.1 i hi hk
  have hlt:i+0<o:=by have:i+1<=k:=hk;omega
  exact ⟨a0,c0,(ne _ (by omega)).trans d0,hh.kept hko (by rw [World.size_setCell];exact Nat.le_refl _)⟩
 ·by_cases e:j=o
  ·subst e
   obtain ⟨u,hu⟩:=h.2.1 j hj
   exact ⟨v,World.cell?_setCell_same W _ _ hu⟩
  ·rw [ne j e];exact h.2.1 j hj
 ·rw [World.frozen?_setCell];exact h.2.2.1 j
 ·rw [World.size_setCell];exact h.2.2.2
theorem Part.store {W:World} {B len k:Nat} {L:List X} (h:Part W B len L k) (hk:k<len) (hkL:k<L.length) (a0:Option Addr) (c0:Nat) (hh:Has (B+1) W L[k] a0):Part (W.setCell ⟨B,k,none⟩ (.slice a0 L[k].f0.length c0)) B len L (k+1):=by
 have h1:=h.set (o:=k) (by omega) (.slice a0 L[k].f0.length c0)
 refine ⟨fun i hi hik=>?_,h1.2.1,h1.2.2.1,h1.2.2.2⟩
 by_cases e:i=k
 ·subst e
  obtain ⟨u0,hu0⟩:=h.2.1 (i) (by omega)
  refine ⟨a0,c0,?_,?_⟩
  ·exact World.cell?_setCell_same _ _ _ hu0
  ·refine hh.kept (fun j hj _=>?_) (by simp only [World.size_setCell];exact Nat.le_refl _)
   rw [Below.heap_setCell _ _ _ _ (by simp;omega)]
 ·exact h1.1 i hi (by omega)
theorem info_parts {P:Program} {t:TypeId} {z:Value} {s b:Nat} (h:(P.info? t).map (fun i=>(i.zero,i.size,i.bytes))=some (some z,s,b)):∃ i,P.info? t=some i/\i.zero=some z/\i.size=s/\i.bytes=b:=by
 cases e:P.info? t with
 | none=>rw [e] at h;cases h
 | some i =>
  rw [e] at h
  simp only [Option.map_some,Option.some.injEq,Prod.mk.injEq] at h
  exact ⟨i,rfl,h.1,h.2.1,h.2.2⟩
theorem eqX_any (x:X) (a0:Option Addr) (c0:Nat) (a0':Option Addr) (c0':Nat) (w:World) (hh:Has 0 w x a0) (hh':Has 0 w x a0') (hsm:SmallX x) :
  Calls prog 92 #[.slice a0 x.f0.length c0,.slice a0' x.f0.length c0'] w fun e w'=>e=.returned (.bool true)/\Below w.heap.size w w':=Nodw.eqXS_any a0 a0' c0 c0' x.f0 w hh.1 hh'.1 hsm
theorem eqXS_any (a a':Option Addr) (cap cap':Nat) (L:List X) (w:World) (hN:Row 0 w a L) (hN':Row 0 w a' L) (hsm:Small L) :
  Calls prog 51 #[.slice a L.length cap,.slice a' L.length cap'] w fun e w'=>e=.returned (.bool true)/\Below w.heap.size w w':=by
 obtain ⟨len,hl⟩ : ∃ len,len=L.length:=⟨_,rfl⟩
 have HL:Hid (len=L.length):=hl
 have hlen:=hsm.1
 have HSM:Hid (Small L):=hsm
 rw [<- hl] at hlen |-
 clear hl hsm
 go_enter func51,ntmps51
 go_wp2
 go_loopw [5] (fun i wr=>∃ k:Nat,k<=len/\i=.int .i64 k/\Hid (Below w.heap.size w wr)) (fun i _=>len-(intOf i).toNat)
 case atStart=>exact ⟨0,Nat.zero_le _,rfl,Below.refl _ _⟩
 case round =>
  obtain ⟨k,hk,rfl,hbel⟩:=hrel
  by_cases hlt:k<len
  ·have hkL:k<L.length:=by have:=HL.out;omega
   rcases hN with hnil|⟨b,off,rfl,_,hb,hc⟩
   ·exfalso;rw [hnil] at hkL;exact absurd hkL (by simp)
   rcases hN' with hnil|⟨b',off',rfl,_,hb',hc'⟩
   ·exfalso;rw [hnil] at hkL;exact absurd hkL (by simp)
   obtain ⟨a0,c0,d0,hh⟩:=(hc k hkL).kept (hbel.out.block b hb) (fun j _ hj=>hbel.out.block j hj) hbel.out.size
   obtain ⟨a0',c0',e0,hh'⟩:=(hc' k hkL).kept (hbel.out.block b' hb') (fun j _ hj=>hbel.out.block j hj) hbel.out.size
   clear hc hc'
   have ce:=fun W (h:Has 0 W L[k] a0) (h':Has 0 W L[k] a0')=>eqX_any L[k] a0 c0 a0' c0' W h h' (HSM.out.2 k hkL)
   have HH:Hid (∀ W,Below wr.heap.size wr W->Has 0 W L[k] a0/\Has 0 W L[k] a0'):=fun W h=>⟨hh.below h,hh'.below h⟩
   clear hh hh'
   generalize L[k]=x at *
   have HC:Hid (∀ W,Below wr.heap.size wr W->Calls prog 92 #[.slice a0 x.f0.length c0,.slice a0' x.f0.length c0'] W fun e w'=>e=.returned (.bool true)/\Below W.heap.size W w'):=fun W h=>ce W (HH.out W h).1 (HH.out W h).2
   clear ce HH
   obtain ⟨n0,hn0⟩ : ∃ n,n=x.f0.length:=⟨_,rfl⟩
   rw [<- hn0] at d0 e0
   simp only [<- hn0] at HC
   clear hn0
   have k0:(0:Int)<=(k:Int):=by omega
   have k1:(k:Int)<(len:Int):=by omega
   go_wp2_with fail
   go_region_with (go_at_call 92;refine (HC.out _ (zRf.drew)).mono ?_;rintro e w1 ⟨rfl,hb1⟩)
   all_goals go_wp2
   all_goals
    go_roundw
    case rel=>exact ⟨k+1,by omega,by go_num,hbel.out.trans ((Mirror.below_of_drew hb1).mono hbel.out.size)⟩
    case measure=>simp [intOf];omega
  ·clear hN hN'
   go_wp2
   go_ret
   exact ⟨rfl,hbel.out⟩
end Assr
end Go.Proofs.YtepafieckjnkdaaGreatDoor
