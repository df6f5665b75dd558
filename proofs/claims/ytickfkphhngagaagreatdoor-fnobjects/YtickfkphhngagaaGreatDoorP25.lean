import Derived.Test.YtickfkphhngagaaGreatDoorP23
import Derived.Test.YtickfkphhngagaaGreatDoorP24
set_option linter.all false
set_option maxRecDepth 20000
set_option maxHeartbeats 8000000
open Go.ChangeShapes Go.WideShapes Go.ChangeAt Go.RowKit
open Go.Proofs.Tryz
namespace Go.Proofs.YtickfkphhngagaaGreatDoor
namespace Rlsc
open Go.Deep
open Rown Rowo Rliq Rlip Rlsa Rlsb Otxp Otxq
open Otxa (after)
def Left9 (w:World) (O:Option Objr.X) (e:Ending) (w':World):Prop :=
 ∃ ss ys aa a0 c0 a1 c1 a2 c2,objX ss ys aa=O.getD o0/\Ob w' w.heap.size (.slice a0 ss.length c0) ss (.slice a1 ys.length c1) ys (.slice a2 aa.length c2) aa/\Sm 60001 (O.getD o0)/\e=.returned (.tuple #[.agg #[.slice a0 ss.length c0,.slice a1 ys.length c1,.slice a2 aa.length c2],.bool O.isSome])/\Below w.heap.size w w'
theorem ob_nil (w:World) (base:Nat):Ob w base (.slice none 0 0) [] (.slice none 0 0) [] (.slice none 0 0) [] :=
 ⟨World.ownsRow_nil _ _ _ _,fun s hs=>(by cases hs),fun s hs=>(by cases hs),List.Pairwise.nil,World.ownsRow_nil _ _ _ _,World.ownsRow_nil _ _ _ _,fun a ha=>(by cases ha),List.Pairwise.nil⟩
theorem sm_nil (m:Nat):Sm m o0:=⟨Nat.zero_le _,Nat.zero_le _,Nat.zero_le _,fun s hs=>(by cases hs),fun s hs=>(by cases hs),fun y hy=>(by cases hy),fun a ha=>(by cases ha)⟩
theorem left_no {w w':World} {O:Option Objr.X} (h:O=none) (hb:Below w.heap.size w w'):Left9 w O (.returned (.tuple #[.agg #[.slice none 0 0,.slice none 0 0,.slice none 0 0],.bool false])) w':=by
 subst h
 exact ⟨[],[],[],none,0,none,0,none,0,rfl,ob_nil _ _,sm_nil _,rfl,hb⟩
theorem Ob.mono {w:World} {b b':Nat} {sv:Value} {ss:List Sd} {yv av:Value} {ys:List Osyr.X} {aa:List Ad} (hle:b'<=b) (h:Ob w b sv ss yv ys av aa):Ob w b' sv ss yv ys av aa:=⟨own_mono hle h.sec,h.rw.mono hle⟩
theorem byO_len:∀ (n:Nat) (l D:List UInt8),l.length<=n->Rbyt.byO l=some D->D.length<=l.length
 | n,[],D,_,h=>by cases h;exact Nat.le_refl _
 | n,[_],D,_,h=>by cases h
 | 0,a :: b :: r,D,hn,_=>by simp at hn
 | n+1,a :: b :: r,D,hn,h=>by
  rw [Rbyt.byO_cons] at h
  split at h
  ·cases h
  ·cases hr:Rbyt.byO r with
   | none=>rw [hr] at h;cases h
   | some E =>
    rw [hr] at h
    have h:=Option.some.inj h
    subst h
    have:=byO_len n r E (by simp at hn;omega) hr
    simp;omega
theorem sm_line {m:Nat} {x x':Objr.X} {l:ByteArray} (h:lineS x l=some x') (hs:Sm m x) (hl:l.size<=1048576):Sm (m+1) x':=by
 have zw:∀ M k,(gt (Rwor.wordsL M l) k).size<=1048576:=fun M k=>by
  unfold gt
  rw [List.getD_eq_getElem?_getD]
  cases hk:(Rwor.wordsL M l)[k]? with
  | none=>exact Nat.zero_le _
  | some y =>
   have:=words_le M l y (List.mem_of_getElem? hk)
   show y.size<=_;omega
 have ze:∀ t e,Wors.outS t=some e->t.size<=1048576->e.length<=801/\∀ n ∈ e,n.2.2.size<=1048576:=fun t e he ht=>by
  rw [<- Woru.same] at he
  unfold Wors.outI at he
  split at he
  ·rename_i hx
   have he:=Option.some.inj he
   subst he
   refine ⟨?_,fun n hn=>?_⟩
   ·have:=(Woru.ok_all hx).1;omega
   ·obtain ⟨y,hy,rfl⟩:=List.mem_map.1 hn
    have:=Wors.nodeI_sz y
    have:=Wors.W_le _ t (Nat.le_refl _) y hy
    omega
  ·cases he
 unfold lineS at h
 split at h
 ·unfold secS at h
  split at h
  ·split at h
   ·rename_i D _ _ _ hD
    have h:=Option.some.inj h
    subst h
    refine sm_addS hs _ (zw _ _) ?_ rfl
    have hl2:=byO_len _ _ _ (Nat.le_refl _) hD
    show (wB _).size<=_
    rw [wB_size]
    have:=zw 6 5
    rw [<- Otxa.size_list] at this
    omega
   ·cases h
  ·cases h
 split at h
 ·unfold patS at h
  split at h
  ·cases h
  ·split at h
   ·rename_i _ _ he
    have h:=Option.some.inj h
    subst h
    exact sm_addP hs _ (ze _ _ he (zw _ _))
   ·cases h
 split at h
 ·unfold symS at h
  split at h
  ·split at h
   ·have h:=Option.some.inj h
    subst h
    exact sm_addY hs _ (zw _ _)
   ·cases h
  ·cases h
 split at h
 ·unfold assS at h
  split at h
  ·cases h
  ·split at h
   ·rename_i he
    have h:=Option.some.inj h
    subst h
    exact sm_addA hs _ (ze _ _ he (zw _ _))
   ·cases h
 ·cases h
structure Lp (w:World) (ss:List Sd) (ys:List Osyr.X) (aa:List Ad) (a0:Option Addr) (c0:Nat) (a1:Option Addr) (c1:Nat) (a2:Option Addr) (c2:Nat) (wr:World):Prop where
 b:Below w.heap.size w wr
 z:w.heap.size+1<wr.heap.size
 k1:wr.heap[w.heap.size]? = some (.cells #[.slice none 0 0,.slice none 0 0,.slice none 0 0] 26 (0,0))
 k2:wr.heap[w.heap.size+1]? = some (.cells #[.slice a0 ss.length c0,.slice a1 ys.length c1,.slice a2 aa.length c2] 26 (0,0))
 ob:Ob wr (w.heap.size+2) (.slice a0 ss.length c0) ss (.slice a1 ys.length c1) ys (.slice a2 aa.length c2) aa
theorem lp_start (w:World):Lp w [] [] [] none 0 none 0 none 0 ((w.alloc (.cells #[.slice none 0 0,.slice none 0 0,.slice none 0 0] 26)).alloc (.cells #[.slice none 0 0,.slice none 0 0,.slice none 0 0] 26)):=by
 refine ⟨(zAl _ _).alloc (by simp) _,by simp,?_,?_,ob_nil _ _⟩
 ·rw [Below.heap_alloc _ _ _ (by simp)];exact heap_alloc_last w _
 ·have h2:=heap_alloc_last (w.alloc (.cells #[.slice none 0 0,.slice none 0 0,.slice none 0 0] 26)) (.cells #[.slice none 0 0,.slice none 0 0,.slice none 0 0] 26)
  simpa using h2
theorem Lp.below {w wr u:World} {ss:List Sd} {ys:List Osyr.X} {aa:List Ad} {a0 a1 a2:Option Addr} {c0 c1 c2:Nat} (h:Lp w ss ys aa a0 c0 a1 c1 a2 c2 wr) (hb:Below wr.heap.size wr u):Lp w ss ys aa a0 c0 a1 c1 a2 c2 u :=
 ⟨h.b.trans (hb.mono (by have:=h.z;omega)),Nat.lt_of_lt_of_le h.z hb.size,(hb.block _ (by have:=h.z;omega)).trans h.k1,(hb.block _ h.z).trans h.k2,h.ob.below hb⟩
theorem Lp.next {w wr u:World} {ss ss':List Sd} {ys ys':List Osyr.X} {aa aa':List Ad} {a0 a1 a2 a0' a1' a2':Option Addr} {c0 c1 c2 c0' c1' c2':Nat} (h:Lp w ss ys aa a0 c0 a1 c1 a2 c2 wr) (hb:Below (w.heap.size+2) wr u) (hz:wr.heap.size<=u.heap.size) (o:Obj)
  (ho:Ob u (w.heap.size+2) (.slice a0' ss'.length c0') ss' (.slice a1' ys'.length c1') ys' (.slice a2' aa'.length c2') aa') :
  Lp w ss' ys' aa' a0' c0' a1' c1' a2' c2' ((u.alloc o).setRow (w.heap.size+1) #[.slice a0' ss'.length c0',.slice a1' ys'.length c1',.slice a2' aa'.length c2']):=by
 have zr:=h.z
 have bu:Below w.heap.size w u:=h.b.trans (hb.mono (by omega))
 have ba:Below u.heap.size u (u.alloc o):=zAl _ _
 have k1:=(ba.block _ (by omega)).trans ((hb.block w.heap.size (by omega)).trans h.k1)
 have k2:=(ba.block _ (by omega)).trans ((hb.block (w.heap.size+1) (by omega)).trans h.k2)
 have oa:=ho.below ba
 have hg:(u.alloc o).grownBy ((u.alloc o).setRow (w.heap.size+1) #[.slice a0' ss'.length c0',.slice a1' ys'.length c1',.slice a2' aa'.length c2']) (some (w.heap.size+1)):=⟨rfl,rfl,rfl,by simp,fun k _ hk=>setRow_other _ _ _ _ (fun e=>hk (by rw [e]))⟩
 refine ⟨below_setRow (bu.trans (ba.mono (by omega))) (by omega) _,by rw [setRow_size];simp;omega,(setRow_other _ _ _ _ (by omega)).trans k1,setRow_heap _ _ _ _ _ _ k2,oa.sec.kept hg (.inr (own_ne_block oa.sec k2 (by decide))),oa.rw.other hg fun e size v n xs he hv=>.inr ?_⟩
 rcases he with rfl|rfl|rfl|rfl <;> exact own_ne_block hv k2 (by decide)
theorem left_yes {w wr w':World} {ss:List Sd} {ys:List Osyr.X} {aa:List Ad} {a0 a1 a2:Option Addr} {c0 c1 c2:Nat} {O:Option Objr.X} (h:Lp w ss ys aa a0 c0 a1 c1 a2 c2 wr) (hs:Sm 60001 (objX ss ys aa)) (hO:O=some (objX ss ys aa)) (hb:Below wr.heap.size wr w') (cs:Array Value) :
  Left9 w O (.returned (.tuple #[.agg #[.slice a0 ss.length c0,.slice a1 ys.length c1,.slice a2 aa.length c2],.bool true])) (w'.setRow w.heap.size cs):=by
 have h':=h.below hb
 subst hO
 have hg:w'.grownBy (w'.setRow w.heap.size cs) (some w.heap.size):=⟨rfl,rfl,rfl,by simp,fun k _ hk=>setRow_other _ _ _ _ (fun e=>hk (by rw [e]))⟩
 refine ⟨ss,ys,aa,a0,c0,a1,c1,a2,c2,rfl,Ob.mono (by omega) ⟨h'.ob.sec.kept hg (.inr (own_ne_block h'.ob.sec h'.k1 (by decide))),h'.ob.rw.other hg fun e size v n xs he hv=>.inr ?_⟩,hs,rfl,below_setRow h'.b (Nat.le_refl _) _⟩
 rcases he with rfl|rfl|rfl|rfl <;> exact own_ne_block hv h'.k1 (by decide)
theorem cut_any (s:ByteArray) (w:World) (hs:s.size<=1048576):Calls prog 21 #[.string s,.int .u8 10] w fun e w'=>e=.returned (.tuple #[.string (bA 10 s),.string (bB 10 s),.bool (bF 10 s)])/\Below w.heap.size w w':=by
 refine (Cuts.l1Cut_any s 10 w hs).mono ?_
 rintro e w' ⟨rfl,n,rfl⟩
 obtain ⟨h1,h2,h3⟩:=cut_b s 10
 have e:((10:UInt8).toNat:Int)=10:=rfl
 rw [e] at h1 h2 h3
 rw [h1,h2,h3]
 exact ⟨rfl,below_drewN zRf _⟩
def strSize:Value->Nat
 | .string b=>b.size
 | _=>0
theorem specRead_any (s:ByteArray) (w:World) (hs:s.size<=1048576) :
  Calls prog 5 #[.string s] w (Left9 w (outS9 s)):=by
 obtain ⟨O,hO⟩ : ∃ O,O=outS9 s:=⟨_,rfl⟩
 rw [<- hO]
 have L0:=(show Hid _ from lp_start w)
 by_cases h6:60000<s.size
 ·have HN:Hid (O=none):=(show O=none from by rw [hO];unfold outS9 out9;rw [if_pos h6])
  have d6:decide ((s.size:Int)<=60000)=false:=decide_eq_false (by omega)
  have d6':decide (60000<(s.size:Int))=true:=decide_eq_true (by omega)
  clear hO
  go_enter func5,ntmps5
  go_wp2_with fail
  go_loopw [5] (fun y wr=>y=.string s/\wr=(w.alloc (.cells #[.slice none 0 0,.slice none 0 0,.slice none 0 0] 26)).alloc (.cells #[.slice none 0 0,.slice none 0 0,.slice none 0 0] 26)) (fun _ _=>0)
  case atStart=>exact ⟨rfl,rfl⟩
  case round =>
   obtain ⟨rfl,rfl⟩:=hrel
   generalize (w.alloc (.cells #[.slice none 0 0,.slice none 0 0,.slice none 0 0] 26)).alloc (.cells #[.slice none 0 0,.slice none 0 0,.slice none 0 0] 26)=W0 at L0 |-
   have e0:s.toList.isEmpty=false:=Names.empty_no (by omega)
   go_upto_region 11 with fail
   refine wp_region_list ?_
   refine wpList_plain rfl (fun K hK=>?_)
   go_simp
   refine hK _ _ ?_
   refine wpList_store_row rfl 26 _ _ rfl w.heap.size #[.slice none 0 0,.slice none 0 0,.slice none 0 0] rfl rfl _ _ L0.out.k1 infoO rfl (by simp [Value.oneCell']) ?_
   go_wp2
   exact bodyPost_ret (v:=.tuple #[.agg #[.slice none 0 0,.slice none 0 0,.slice none 0 0],.bool false]) (Rlsa.results_two results5 _ _ w.heap.size _ _ (0,0) _ _ rfl rfl (setRow_heap _ _ _ _ _ _ L0.out.k1) underlying26 rfl infoO) rfl (left_no HN.out (below_setRow L0.out.b (Nat.le_refl _) _))
 ·have HO:Hid (O=fin9 s (goL lineS true (s.size+1) s o0)):=(show O=_ from by rw [hO];unfold outS9 out9;rw [if_neg h6])
  have d6:decide ((s.size:Int)<=60000)=true:=decide_eq_true (by omega)
  have d6':decide (60000<(s.size:Int))=false:=decide_eq_false (by omega)
  clear hO
  go_enter func5,ntmps5
  go_wp2_with fail
  go_loopw [5] (fun y wr=>∃ (r:ByteArray) (n j:Nat) (ss:List Sd) (ys:List Osyr.X) (aa:List Ad) (a0 a1 a2:Option Addr) (c0 c1 c2:Nat),y=.string r/\r.size<=n/\j+r.size<=s.size/\Hid (Sm j (objX ss ys aa))/\Hid (O=fin9 s (goL lineS true (n+1) r (objX ss ys aa)))/\Hid (Lp w ss ys aa a0 c0 a1 c1 a2 c2 wr)) (fun y _=>strSize y)
  case atStart=>exact ⟨s,s.size,0,[],[],[],none,none,none,0,0,0,rfl,Nat.le_refl _,by omega,sm_nil 0,HO.out,L0.out⟩
  case round =>
   clear HO L0
   obtain ⟨r,n,j,ss,ys,aa,a0,a1,a2,c0,c1,c2,rfl,hn,hj,HS,HO,HL⟩:=hrel
   have k2':∀ (i:Nat) (u:Value),(#[Value.slice a0 ss.length c0,.slice a1 ys.length c1,.slice a2 aa.length c2]:Array Value)[i]? = some u->wr.cell? ⟨w.heap.size+1,i,none⟩=some u:=fun i u hu=>by rw [cell_of_row _ _ _ _ _ _ HL.out.k2];exact hu
   have q0:=k2' 0 _ rfl
   have q1:=k2' 1 _ rfl
   have q2:=k2' 2 _ rfl
   by_cases h0:r.size=0
   ·have e0:r.toList.isEmpty=true:=Names.empty_yes h0
    have HO2:Hid (O=fin9 s (some (objX ss ys aa))):=(show O=_ from by rw [HO.out,goL_end h0])
    have hS6:Sm 60001 (objX ss ys aa):=Rowo.Sm.le HS.out (by omega)
    have ct:∀ W,Below wr.heap.size wr W->Calls prog 14 #[.agg #[.slice a0 ss.length c0,.slice a1 ys.length c1,.slice a2 aa.length c2]] W fun e w'=>e=.returned (.string (objV (objX ss ys aa)))/\Below W.heap.size W w':=fun W hb=>by
     have h:=Otxs.specText_any (objX ss ys aa) a0 c0 a1 c1 a2 c2 W (((has_of (HL.out.ob.below hb) (by decide) hS6).mono (Nat.zero_le _))) (small_of (by decide) hS6)
     have e1:(objX ss ys aa).f0.length=ss.length:=List.length_map ..
     have e2:(objX ss ys aa).f2.length=aa.length:=List.length_map ..
     unfold Obje.ocells at h
     rw [e1,e2] at h
     exact h
    have HCT:=(show Hid _ from ct)
    have HS6:Hid (Sm 60001 (objX ss ys aa)):=hS6
    clear HO HS h0 k2' ct hS6 hn hj
    obtain ⟨V,hV⟩ : ∃ V,V=objV (objX ss ys aa):=⟨_,rfl⟩
    have HV:Hid (V=objV (objX ss ys aa)):=hV
    rw [<- hV] at HCT
    clear hV
    obtain ⟨nS,hnS⟩ : ∃ n,n=ss.length:=⟨_,rfl⟩
    obtain ⟨nY,hnY⟩ : ∃ n,n=ys.length:=⟨_,rfl⟩
    obtain ⟨nA,hnA⟩ : ∃ n,n=aa.length:=⟨_,rfl⟩
    have HN3:Hid (nS=ss.length/\nY=ys.length/\nA=aa.length):=⟨hnS,hnY,hnA⟩
    rw [<- hnS] at q0 HCT
    rw [<- hnY] at q1 HCT
    rw [<- hnA] at q2 HCT
    clear hnS hnY hnA
    by_cases hq:V=s
    ·have b1:(V.toList == s.toList)=true:=by rw [hq];simp
     have b2:(V.toList != s.toList)=false:=by rw [bne,b1];rfl
     have HN:Hid (O=some (objX ss ys aa)):=(show O=_ from by rw [HO2.out,fin9_of (HV.out.symm.trans hq)])
     clear hq HO2
     go_upto_region 12 with (go_at_call 14;refine (HCT.out _ (by first|exact zRf|exact zRf.drew)).mono ?_;rintro e w1 ⟨rfl,b1'⟩;have B1:Hid (Below wr.heap.size wr w1):=b1';clear b1';have kk:=HL.out.below B1.out;have LL:=(show Hid _ from kk);clear kk;have K1:Hid (w1.heap[w.heap.size]? = some (.cells #[.slice none 0 0,.slice none 0 0,.slice none 0 0] 26 (0,0))):=LL.out.k1;have K2:Hid (w1.heap[w.heap.size+1]? = some (.cells #[.slice a0 nS c0,.slice a1 nY c1,.slice a2 nA c2] 26 (0,0))):=(show _=_ from by rw [HN3.out.1,HN3.out.2.1,HN3.out.2.2];exact LL.out.k2))
     refine wp_region_list ?_
     refine wpList_load_row rfl 26 _ rfl (w.heap.size+1) rfl _ _ (0,0) _ K2.out underlying26 rfl infoO ?_
     refine wpList_store_row rfl 26 _ _ rfl w.heap.size #[.slice a0 nS c0,.slice a1 nY c1,.slice a2 nA c2] rfl rfl _ _ K1.out infoO rfl (by simp [Value.oneCell']) ?_
     go_wp2
     refine bodyPost_ret (v:=.tuple #[.agg #[.slice a0 nS c0,.slice a1 nY c1,.slice a2 nA c2],.bool true]) (Rlsa.results_two results5 _ _ w.heap.size _ _ (0,0) _ _ rfl rfl (setRow_heap _ _ _ _ _ _ K1.out) underlying26 rfl infoO) rfl ?_
     have hf:=left_yes HL.out HS6.out HN.out B1.out #[.slice a0 nS c0,.slice a1 nY c1,.slice a2 nA c2]
     rw [<- HN3.out.1,<- HN3.out.2.1,<- HN3.out.2.2] at hf
     exact hf
    ·have b1:(V.toList == s.toList)=false:=by
      simp only [beq_eq_false_iff_ne,ne_eq]
      exact fun q=>hq (bx (by rw [ByteArray.toList_eq,ByteArray.toList_eq] at q;exact q))
     have b2:(V.toList != s.toList)=true:=by rw [bne,b1];rfl
     have HN:Hid (O=none):=(show O=none from by rw [HO2.out,fin9_no (fun h=>hq (HV.out.trans h))])
     clear hq HO2
     go_upto_region 11 with (go_at_call 14;refine (HCT.out _ (by first|exact zRf|exact zRf.drew)).mono ?_;rintro e w1 ⟨rfl,b1'⟩;have LL:=(show Hid _ from HL.out.below b1');clear b1')
     refine wp_region_list ?_
     refine wpList_plain rfl (fun K hK=>?_)
     go_simp
     refine hK _ _ ?_
     refine wpList_store_row rfl 26 _ _ rfl w.heap.size #[.slice none 0 0,.slice none 0 0,.slice none 0 0] rfl rfl _ _ LL.out.k1 infoO rfl (by simp [Value.oneCell']) ?_
     go_wp2
     exact bodyPost_ret (v:=.tuple #[.agg #[.slice none 0 0,.slice none 0 0,.slice none 0 0],.bool false]) (Rlsa.results_two results5 _ _ w.heap.size _ _ (0,0) _ _ rfl rfl (setRow_heap _ _ _ _ _ _ LL.out.k1) underlying26 rfl infoO) rfl (left_no HN.out (below_setRow LL.out.b (Nat.le_refl _) _))
   ·have e0:r.toList.isEmpty=false:=Names.empty_no h0
    have cc:=cut_any r wr (by omega)
    have hA:=bA_le 10 r
    have hB:=bB_lt (c:=10) h0
    have EA:Hid (∀ n o,lineS o (bA 10 r)=none->goL lineS true (n+1) r o=none):=fun n o h=>goL_bad h0 h
    have EB:Hid (∀ n o,bF 10 r=false->goL lineS true (n+1) r o=none):=fun n o h=>goL_ended h0 h
    have EC:Hid (∀ n o o',bF 10 r=true->lineS o (bA 10 r)=some o'->goL lineS true (n+1) r o=goL lineS true n (bB 10 r) o'):=fun n o o' h h2=>goL_on h0 (fun _=>h) h2
    generalize bA 10 r=X at *
    generalize bB 10 r=Y at *
    generalize bF 10 r=ff at *
    have cl:∀ W,Below wr.heap.size wr W->Calls prog 22 #[.agg #[.slice a0 ss.length c0,.slice a1 ys.length c1,.slice a2 aa.length c2],.string X] W (Post (w.heap.size+2) W (lineS (objX ss ys aa) X)):=fun W hb=>l9Line_any ss ys aa a0 a1 a2 c0 c1 c2 X (w.heap.size+2) j W (by have:=HL.out.z;have:=hb.size;omega) (HL.out.ob.below hb) (by omega) HS.out (by omega)
    have HCL:=(show Hid _ from cl)
    clear cl k2'
    obtain ⟨R,hR⟩ : ∃ R,lineS (objX ss ys aa) X=R:=⟨_,rfl⟩
    have HR:Hid (lineS (objX ss ys aa) X=R):=hR
    rw [hR] at HCL
    clear hR
    obtain ⟨nS,hnS⟩ : ∃ n,n=ss.length:=⟨_,rfl⟩
    obtain ⟨nY,hnY⟩ : ∃ n,n=ys.length:=⟨_,rfl⟩
    obtain ⟨nA,hnA⟩ : ∃ n,n=aa.length:=⟨_,rfl⟩
    rw [<- hnS] at q0 HCL
    rw [<- hnY] at q1 HCL
    rw [<- hnA] at q2 HCL
    clear hnS hnY hnA
    go_wp2_with fail
    refine cc.mono ?_
    rintro e w1 ⟨rfl,b1⟩
    have B1:Hid (Below wr.heap.size wr w1):=b1
    have q0:w1.cell? ⟨w.heap.size+1,0,none⟩=some (.slice a0 nS c0):=(b1.cell (p:=⟨w.heap.size+1,0,none⟩) HL.out.z).trans q0
    have q1:w1.cell? ⟨w.heap.size+1,1,none⟩=some (.slice a1 nY c1):=(b1.cell (p:=⟨w.heap.size+1,1,none⟩) HL.out.z).trans q1
    have q2:w1.cell? ⟨w.heap.size+1,2,none⟩=some (.slice a2 nA c2):=(b1.cell (p:=⟨w.heap.size+1,2,none⟩) HL.out.z).trans q2
    clear b1 cc
    go_wp2_with fail
    refine (HCL.out w1 B1.out).mono ?_
    intro e w2 hp
    obtain ⟨hb2,hz2,hm2⟩:=hp
    have B2:Hid (Below (w.heap.size+2) wr w2/\wr.heap.size<=w2.heap.size):=⟨(B1.out.mono (by have:=HL.out.z;omega)).trans hb2,Nat.le_trans B1.out.size hz2⟩
    clear hb2 hz2 HCL q0 q1 q2
    cases R with
    | none =>
     obtain ⟨x0,m0,d0,x1,m1,d1,x2,m2,d2,rfl⟩:=hm2
     have HN:Hid (O=none):=(show O=none from by rw [HO.out,EA.out _ _ HR.out];rfl)
     clear EA EB EC HO
     have k1':∀ o,(w2.alloc o).heap[w.heap.size]? = some (.cells #[.slice none 0 0,.slice none 0 0,.slice none 0 0] 26 (0,0)):=fun o=>(((Below.refl w2.heap.size w2).alloc (Nat.le_refl _) o).block _ (by have:=HL.out.z;have:=B2.out.2;omega)).trans ((B2.out.1.block _ (by omega)).trans HL.out.k1)
     have HK:Hid (∀ o,(w2.alloc o).heap[w.heap.size]? = some (.cells #[.slice none 0 0,.slice none 0 0,.slice none 0 0] 26 (0,0))):=k1'
     have HBB:Hid (∀ o,Below w.heap.size w (w2.alloc o)):=fun o=>(HL.out.b.trans (B2.out.1.mono (by omega))).trans (((Below.refl w2.heap.size w2).alloc (Nat.le_refl _) o).mono (by have:=HL.out.z;have:=B2.out.2;omega))
     clear k1'
     go_upto_region 7 with fail
     refine wp_region_list ?_
     refine wpList_plain rfl (fun K hK=>?_)
     go_simp
     refine hK _ _ ?_
     refine wpList_store_row rfl 26 _ _ rfl w.heap.size #[.slice none 0 0,.slice none 0 0,.slice none 0 0] rfl rfl _ _ (HK.out _) infoO rfl (by simp [Value.oneCell']) ?_
     go_wp2
     exact bodyPost_ret (v:=.tuple #[.agg #[.slice none 0 0,.slice none 0 0,.slice none 0 0],.bool false]) (Rlsa.results_two results5 _ _ w.heap.size _ _ (0,0) _ _ rfl rfl (setRow_heap _ _ _ _ _ _ (HK.out _)) underlying26 rfl infoO) rfl (left_no HN.out (below_setRow (HBB.out _) (Nat.le_refl _) _))
    | some x =>
     obtain ⟨ss',ys',aa',a0',c0',a1',c1',a2',c2',hx,hob,rfl⟩:=hm2
     have HS2:Hid (Sm (j+1) (objX ss' ys' aa')):=(show Sm _ _ from by rw [hx];exact sm_line HR.out HS.out (by omega))
     have HX:Hid (objX ss' ys' aa'=x):=hx
     have LN:=(show Hid _ from fun o=>HL.out.next B2.out.1 B2.out.2 o hob)
     have HK:Hid (∀ o,(w2.alloc o).heap[w.heap.size]? = some (.cells #[.slice none 0 0,.slice none 0 0,.slice none 0 0] 26 (0,0))):=fun o=>(((Below.refl w2.heap.size w2).alloc (Nat.le_refl _) o).block _ (by have:=HL.out.z;have:=B2.out.2;omega)).trans ((B2.out.1.block _ (by omega)).trans HL.out.k1)
     have HK2:Hid (∃ C:Array Value,C.size=3/\∀ o,(w2.alloc o).heap[w.heap.size+1]? = some (.cells C 26 (0,0))):=⟨_,rfl,fun o=>(((Below.refl w2.heap.size w2).alloc (Nat.le_refl _) o).block _ (by have:=HL.out.z;have:=B2.out.2;omega)).trans ((B2.out.1.block _ (by omega)).trans HL.out.k2)⟩
     have HBB:Hid (∀ o,Below w.heap.size w (w2.alloc o)):=fun o=>(HL.out.b.trans (B2.out.1.mono (by omega))).trans (((Below.refl w2.heap.size w2).alloc (Nat.le_refl _) o).mono (by have:=HL.out.z;have:=B2.out.2;omega))
     have HH:Hid (∀ o,(w2.alloc o).heap[w2.heap.size]? = some o):=fun o=>heap_alloc_last w2 o
     clear hob hx
     cases ff with
     | false =>
      have HN:Hid (O=none):=(show O=none from by rw [HO.out,EB.out _ _ rfl];rfl)
      clear EA EB EC HO LN
      go_upto_region 7 with fail
      refine wp_region_list ?_
      refine wpList_plain rfl (fun K hK=>?_)
      go_simp
      refine hK _ _ ?_
      refine wpList_store_row rfl 26 _ _ rfl w.heap.size #[.slice none 0 0,.slice none 0 0,.slice none 0 0] rfl rfl _ _ (HK.out _) infoO rfl (by simp [Value.oneCell']) ?_
      go_wp2
      exact bodyPost_ret (v:=.tuple #[.agg #[.slice none 0 0,.slice none 0 0,.slice none 0 0],.bool false]) (Rlsa.results_two results5 _ _ w.heap.size _ _ (0,0) _ _ rfl rfl (setRow_heap _ _ _ _ _ _ (HK.out _)) underlying26 rfl infoO) rfl (left_no HN.out (below_setRow (HBB.out _) (Nat.le_refl _) _))
     | true =>
      obtain ⟨n',rfl⟩ : ∃ n',n=n'+1:=⟨n-1,by omega⟩
      have HO2:Hid (O=fin9 s (goL lineS true (n'+1) Y (objX ss' ys' aa'))):=(show O=_ from by rw [HO.out,EC.out _ _ _ rfl HR.out,HX.out])
      clear EA EB EC HO
      obtain ⟨C,hC3,hC⟩:=HK2.out
      have HC:=(show Hid _ from hC)
      clear hC HK2
      obtain ⟨nS',hnS'⟩ : ∃ n,n=ss'.length:=⟨_,rfl⟩
      obtain ⟨nY',hnY'⟩ : ∃ n,n=ys'.length:=⟨_,rfl⟩
      obtain ⟨nA',hnA'⟩ : ∃ n,n=aa'.length:=⟨_,rfl⟩
      have HN3:Hid (nS'=ss'.length/\nY'=ys'.length/\nA'=aa'.length):=⟨hnS',hnY',hnA'⟩
      rw [<- hnS',<- hnY',<- hnA']
      clear hnS' hnY' hnA'
      go_upto_region 8 with fail
      refine wp_region_list ?_
      refine wpList_load_row rfl 26 _ rfl w2.heap.size rfl _ _ (0,0) _ (HH.out _) underlying26 rfl infoO ?_
      refine wpList_store_row rfl 26 _ _ rfl (w.heap.size+1) #[.slice a0' nS' c0',.slice a1' nY' c1',.slice a2' nA' c2'] rfl rfl _ _ (HC.out _) infoO hC3 (by simp [Value.oneCell']) ?_
      refine wpList_nil ?_
      go_wp2_with fail
      go_roundw
      case rel =>
       refine ⟨Y,n',j+1,ss',ys',aa',a0',a1',a2',c0',c1',c2',rfl,by omega,by omega,HS2.out,HO2.out,?_⟩
       have h:=LN.out (.cells #[.slice a0' nS' c0',.slice a1' nY' c1',.slice a2' nA' c2'] 26)
       rw [<- HN3.out.1,<- HN3.out.2.1,<- HN3.out.2.2] at h
       exact h
      case measure=>show Y.size<r.size;exact hB
end Rlsc
end Go.Proofs.YtickfkphhngagaaGreatDoor
