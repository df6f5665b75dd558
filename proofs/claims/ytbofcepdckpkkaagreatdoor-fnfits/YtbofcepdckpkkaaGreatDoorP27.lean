import Derived.Test.YtbofcepdckpkkaaGreatDoorP26
import Derived.Test.YtbofcepdckpkkaaGreatDoorP20
set_option linter.all false
set_option maxRecDepth 20000
set_option maxHeartbeats 8000000
open Go.ChangeShapes Go.WideShapes Go.ChangeAt Go.RowKit
open Go.Proofs.Tryz
namespace Go.Proofs.YtbofcepdckpkkaaGreatDoor
namespace Twin
open Signed (inB)
open HoleX (n8 n16 e8 holeT holeP)
open HolI LenX InsX Texi Fits Like Rinst Fitz Rinsu Same Rinsw Twia
theorem in_holes {k:Nat} (hk:k<512) (h:¬ hn k=0):k ∈ holes:=by
 have:=List.all_eq_true.1 holes_all k (List.mem_range.2 hk)
 simp only [Bool.or_eq_true] at this
 rcases this with x|x
 ·exact absurd (Nat.eq_of_beq_eq_true x) h
 ·simpa using x
theorem pair_at {k j:Nat} (hk:k<512) (hj:j<512) (h1:¬ hn k=0) (h2:¬ hn j=0):apart (an k) (an j)=true/\(an k=an j->k=j \/ (hn k=hn j/\¬ hn k=3/\¬ zn k=zn j)):=by
 have h:=List.all_eq_true.1 (List.all_eq_true.1 pairs_all k (in_holes hk h1)) j (in_holes hj h2)
 simp only [Bool.and_eq_true,Bool.or_eq_true] at h
 refine ⟨h.1,fun e=>?_⟩
 rcases h.2 with x|x|x
 ·rw [e,eqL_self] at x;cases x
 ·exact .inl (Nat.eq_of_beq_eq_true x)
 ·refine .inr ⟨Nat.eq_of_beq_eq_true x.1.1,fun e3=>?_,fun ez=>?_⟩
  ·have:=x.1.2;rw [e3] at this;cases this
  ·have:=x.2;rw [ez,eqL_self] at this;cases this
theorem nums_append (a b:ByteArray):nums (a ++ b)=nums a ++ nums b:=by unfold nums;simp [ByteArray.data_append]
theorem nums_len (a:ByteArray):(nums a).length=a.size:=by unfold nums;rw [List.length_map];exact len_of a
theorem new_at {v:Int} (h0:0<=v) (h1:v<=255):(∃ x ∈ (nums (newV e8 v)).head?,opens x=true)/\(∃ x ∈ (nums (newV n8 v)).head?,opens x=true)/\(newV n8 v).size=3/\(newV e8 v).size<=5:=by
 have:=new_all ⟨v.toNat,by omega⟩
 rwa [show ((⟨v.toNat,by omega⟩ : Fin 256).val:Int)=v by show ((v.toNat:Nat):Int)=v;omega] at this
theorem new_four {v:Int} (h0:0<=v) (h1:v<=65535):(∃ x ∈ (nums (newV n16 v)).head?,opens x=true)/\(newV n16 v).size=5:=by
 have hg:(1:Int)<=4/\(4:Int)<=4/\0<=v/\v<=65535/\v / Hex.pw 4=0:=⟨by decide,by decide,h0,h1,by unfold Hex.pw;show v / (16 ^ 4)=0;omega⟩
 have e:newV n16 v=Hex.hexS v 4:=rfl
 obtain ⟨e1,e2⟩:=Hexn.num_hex hg
 rw [e]
 refine ⟨⟨36,?_,rfl⟩,by omega⟩
 rw [Hex.hexS_yes hg]
 unfold nums
 rw [strOfNums_data,List.map_cons]
 rfl
theorem new_of {k:Nat} {v:Int} (ho:okV (codeK k) (cbK k) v=true) (hh:¬ hn k=0) :
  ∃ c r,nums (newV (hole (codeK k) (cbK k)) v)=c :: r/\opens c=true/\(hn k=1->(newV (hole (codeK k) (cbK k)) v).size=3)/\(hn k=2->(newV (hole (codeK k) (cbK k)) v).size=5)/\(newV (hole (codeK k) (cbK k)) v).size<=5:=by
 have cons:∀ l:List Nat,(∃ x ∈ l.head?,opens x=true)->∃ c r,l=c :: r/\opens c=true:=by
  intro l ⟨x,hx,hp⟩
  cases l with
  | nil=>simp at hx
  | cons a l=>simp at hx;subst hx;exact ⟨_,_,rfl,hp⟩
 have hz:¬ (hole (codeK k) (cbK k)).size=0:=fun e=>hh (by unfold hn;rw [if_pos e])
 unfold okV at ho
 split at ho
 ·cases ho
 try rw [if_neg hz] at ho
 unfold hn
 rcases hole_cases (codeK k) (cbK k) with h|h|h|h
 ·rw [h] at ho |-
  rw [if_neg (by decide)] at ho
  have hv:=of_decide_eq_true ho
  obtain ⟨a,b,c,d⟩:=new_at hv.1 hv.2
  obtain ⟨x,r,h1,h2⟩:=cons _ b
  exact ⟨x,r,h1,h2,fun _=>c,fun e=>absurd e (by decide),by show (newV n8 v).size<=5;omega⟩
 ·rw [h] at ho |-
  rw [if_pos (show (⟨#[110,49,54]⟩ : ByteArray)=n16 from rfl)] at ho
  have hv:=of_decide_eq_true ho
  obtain ⟨a,b⟩:=new_four hv.1 hv.2
  obtain ⟨x,r,h1,h2⟩:=cons _ a
  exact ⟨x,r,h1,h2,fun e=>absurd e (by decide),fun _=>b,by show (newV n16 v).size<=5;omega⟩
 ·rw [h] at ho |-
  rw [if_neg (by decide)] at ho
  have hv:=of_decide_eq_true ho
  obtain ⟨a,b,c,d⟩:=new_at hv.1 hv.2
  obtain ⟨x,r,h1,h2⟩:=cons _ a
  exact ⟨x,r,h1,h2,fun e=>absurd e (by decide),fun e=>absurd e (by decide),d⟩
 ·rw [h] at hz
  exact absurd rfl hz
theorem text_of {k:Nat} {v:Int} (ho:okV (codeK k) (cbK k) v=true):(hn k=0->v=0/\nums (textV (codeK k) (cbK k) v)=tn k) /\
  (¬ hn k=0->nums (textV (codeK k) (cbK k) v)=an k ++ nums (newV (hole (codeK k) (cbK k)) v) ++ zn k):=by
 have hz:hn k=0 ↔ (hole (codeK k) (cbK k)).size=0:=by
  unfold hn
  constructor
  ·intro e
   split at e
   ·assumption
   ·split at e
    ·cases e
    ·split at e <;> cases e
  ·intro e;rw [if_pos e]
 constructor
 ·intro h
  have h':=hz.1 h
  have hv:v=0:=by
   unfold okV at ho
   split at ho
   ·cases ho
   try rw [if_pos h'] at ho
   exact of_decide_eq_true ho
  refine ⟨hv,?_⟩
  unfold textV
  rw [if_neg (by rw [ho];decide),if_pos h']
  rfl
 ·intro h
  have h':¬ (hole (codeK k) (cbK k)).size=0:=fun e=>h (hz.2 e)
  unfold textV
  rw [if_neg (by rw [ho];decide),if_neg h']
  unfold put
  rw [nums_append,nums_append]
  rfl
theorem len_at {k:Nat} (hk:k<512):(tn k).length<=15/\(an k).length+(zn k).length<=15:=by
 have:=List.all_eq_true.1 len_all k (List.mem_range.2 hk)
 simp only [Bool.and_eq_true] at this
 exact ⟨Nat.le_of_ble_eq_true this.1,Nat.le_of_ble_eq_true this.2⟩
theorem text_le {k:Nat} {v:Int} (hk:k<512) (ho:okV (codeK k) (cbK k) v=true):(textV (codeK k) (cbK k) v).size<=20:=by
 rw [<- nums_len]
 obtain ⟨a,b⟩:=len_at hk
 by_cases h:hn k=0
 ·rw [((text_of ho).1 h).2];omega
 ·obtain ⟨c,r,h1,h2,_,_,h5⟩:=new_of ho h
  rw [(text_of ho).2 h,List.length_append,List.length_append,nums_len]
  omega
theorem firstK_lt {f:Nat->Bool}:∀ (n k:Nat) {m:Nat},firstK f n k=some m->m<k+n
 | 0,_,_,h=>by cases h
 | n+1,k,m,h=>by
  unfold firstK at h
  split at h
  ·cases h;omega
  ·have:=firstK_lt n (k+1) h;omega
theorem at_num {c:Int} (b:Bool) (h0:0<=c) (h1:c<=255):∃ k,k<512/\codeK k=c/\cbK k=b:=by
 refine ⟨c.toNat+(if b=true then 256 else 0),?_,?_,?_⟩
 ·split <;> omega
 ·unfold codeK;split <;> omega
 ·unfold cbK
  cases b
  ·simp;omega
  ·simp
end Twin
namespace DrawZ
open Rdr (Rd Post)
open HoleX (n8 n16 e8 holeT holeP)
open HolI LenX InsX DrawI
theorem drawInsText_any (a:Option Addr) (len cap:Nat) (zs:List Int) (w:World) (h:Rdr.IsRow .u8 w a len cap zs) :
  Calls prog 11 #[.slice a len cap] w fun e w'=>(∃ (c:Int) (b:Bool) (m:Int),0<=c/\c<=255/\I64 m/\e=.returned (.agg #[.int .i64 c,.bool b,.int .i64 m]))/\Below w.heap.size w w':=by
 have H:Hid (Rdr.IsRow .u8 w a len cap zs):=h
 clear h
 go_enter func11,ntmps11
 go_wp2_with fail
 refine (drawInsOk_any _ _ _ _ _ (H.out.below (zAl _ _))).mono ?_
 rintro e w2 ⟨⟨c,b,m,c0,c1,hm,rfl⟩,b2⟩
 have BR:Hid (Box w2 w.heap.size 0 false 0):=(Box.new w 0 false 0 _).below b2
 have HC:Hid (0<=c/\c<=255/\I64 m):=⟨c0,c1,hm⟩
 have B2:Hid (Below w.heap.size w w2):=unbox b2
 clear c0 c1 hm b2
 obtain ⟨r0,r1,r2,rf⟩:=BR.out
 have rf0:=rf 0
 have rf1:=rf 1
 have rf2:=rf 2
 clear rf
 go_wp2
 exact bodyPost_ret (v:=.agg #[.int .i64 c,.bool b,.int .i64 m]) (by simp [results,results11,go_sem,r0,r1,r2]) rfl ⟨⟨c,b,m,HC.out.1,HC.out.2.1,HC.out.2.2,rfl⟩,((B2.out.setCell (p:=⟨w.heap.size,0,none⟩) (Nat.le_refl _) _).setCell (p:=⟨w.heap.size,1,none⟩) (Nat.le_refl _) _).setCell (p:=⟨w.heap.size,2,none⟩) (Nat.le_refl _) _⟩
theorem text_small (c:Int) (b:Bool) (m:Int) (h0:0<=c) (h1:c<=255):(Texi.textV c b m).size<=20:=by
 cases ho:okV c b m with
 | false=>unfold Texi.textV;rw [if_pos ho];show (0:Nat)<=20;omega
 | true =>
  obtain ⟨k,hk,rfl,rfl⟩:=Twin.at_num (c:=c) b h0 h1
  exact Twin.text_le hk ho
end DrawZ
namespace Fitj
open HoleX (n8 n16 e8 holeT holeP)
open Cmxd (compV)
open Prsp
open HolI LenX InsX Texi Fits Rinst Fita Fitc Fitd Fite Fitf Fitg Fith
def holesL:List (Nat × List UInt8 × List UInt8):=[(1,[108,100,32,98,99,44],[]),(6,[108,100,32,98,44],[]),(8,[108,100,32,91],[93,44,115,112]),(14,[108,100,32,99,44],[]),(16,[115,116,111,112,32],[]),(17,[108,100,32,100,101,44],[]),(22,[108,100,32,100,44],[]),(24,[106,114,32],[]),(30,[108,100,32,101,44],[]),(32,[106,114,32,110,122,44],[]),(33,[108,100,32,104,108,44],[]),(38,[108,100,32,104,44],[]),(40,[106,114,32,122,44],[]),(46,[108,100,32,108,44],[]),(48,[106,114,32,110,99,44],[]),(49,[108,100,32,115,112,44],[]),(54,[108,100,32,91,104,108,93,44],[]),(56,[106,114,32,99,44],[]),(62,[108,100,32,97,44],[]),(194,[106,112,32,110,122,44],[]),(195,[106,112,32],[]),(196,[99,97,108,108,32,110,122,44],[]),(198,[97,100,100,32,97,44],[]),(202,[106,112,32,122,44],[]),(204,[99,97,108,108,32,122,44],[]),(205,[99,97,108,108,32],[]),(206,[97,100,99,32,97,44],[]),(210,[106,112,32,110,99,44],[]),(212,[99,97,108,108,32,110,99,44],[]),(214,[115,117,98,32,97,44],[]),(218,[106,112,32,99,44],[]),(220,[99,97,108,108,32,99,44],[]),(222,[115,98,99,32,97,44],[]),(224,[108,100,104,32,91],[93,44,97]),(230,[97,110,100,32,97,44],[]),(232,[97,100,100,32,115,112,44],[]),(234,[108,100,32,91],[93,44,97]),(238,[120,111,114,32,97,44],[]),(240,[108,100,104,32,97,44,91],[93]),(246,[111,114,32,97,44],[]),(248,[108,100,32,104,108,44,115,112,43],[]),(250,[108,100,32,97,44,91],[93]),(254,[99,112,32,97,44],[])]
theorem holes_all:∀ c:Fin 256,(hole (c.val:Int) false).size=0 \/ (c.val,(Like.ahead (c.val:Int) false).data.toList,(Like.behind (c.val:Int) false).data.toList) ∈ holesL:=by decide +kernel
theorem hole_cb:∀ c:Fin 256,(hole (c.val:Int) true).size=0:=by decide +kernel
def isV (c:UInt8):Bool:=c == 36 || c == 45 || (decide (48<=c) && decide (c<=57))
def okN (a t:List UInt8):Bool:=!(a.isPrefixOf t && isV ((t.drop a.length).headD 0))
theorem whole_all:∀ (c:Fin 256) (b:Bool),¬ (hole (c.val:Int) b).size=0 \/ (holesL.all fun x=>okN x.2.1 (Tmpl.tmplS (c.val:Int) b).data.toList)=true:=by decide +kernel
def rkL:List (List UInt8):=[[110,122,44],[122,44],[110,99,44],[99,44],[91],[115,112,43]]
def kindOK (x y:Nat × List UInt8 × List UInt8):Bool :=
 if y.2.1.isPrefixOf x.2.1=true then (decide (y.2.2.getLast? = some 112) && !decide (x.2.2.getLast? = some 112)) || (decide (y.2.2=[]) && rkL.contains (x.2.1.drop y.2.1.length))
 else okN x.2.1 y.2.1
theorem pairs_all:(holesL.all fun x=>holesL.all fun y=>!decide (y.1<x.1) || kindOK x y)=true:=by decide +kernel
structure Val (v:ByteArray):Prop where
 first:∃ c r,v.data.toList=c :: r/\isV c=true
 no:∀ x ∈ v.data.toList,x ≠ 112
 some:(hexV 31 v).isSome=true
theorem comp_val {l:List UInt8} {L:List Stepx.Node} (h:val 31 (l,[])=some ([],L)):comp 31 l=some L:=by
 have e:lev 31 1 (l,[])=some ([],L):=by
  rw [lev_succ,h]
  exact Prsm.loop_nil
 unfold comp
 rw [e]
theorem hex_val {v:ByteArray} {L:List Stepx.Node} (hs:v.size<=200) (h:val 31 (v.data.toList,[])=some ([],L)) (hr:regL L=false):(hexV 31 v).isSome=true:=by
 have c:compV 31 v=some L:=by
  unfold compV
  rw [if_neg (by omega)]
  exact comp_val h
 unfold hexV
 rw [c]
 show (if regL L=true then none else some L).isSome=true
 rw [if_neg (by rw [hr];decide)];rfl
theorem digs_ok:∀ (k:Nat) (n:Int),∀ x ∈ Hex.digs n k,(48<=x/\x<=57) \/ (65<=x/\x<=70)
 | 0,_,x,hx=>by cases hx
 | k+1,n,x,hx=>by
  rcases List.mem_append.1 (show x ∈ Hex.digs (n / 16) k ++ [Nums.tab.getD (n%16).toNat 0] from hx) with h|h
  ·exact digs_ok k _ x h
  ·rw [List.mem_singleton.1 h]
   have hl:(n%16).toNat<16:=by omega
   have all:∀ i:Fin 16,(48<=Nums.tab.getD i.val 0/\Nums.tab.getD i.val 0<=57) \/ (65<=Nums.tab.getD i.val 0/\Nums.tab.getD i.val 0<=70):=by decide
   exact all ⟨_,hl⟩
def u8 (x:Int):UInt8:=UInt8.ofNat x.toNat
end Fitj
namespace Fitk
open HoleX (n8 n16 e8 holeT holeP)
open Cmxd (compV)
open Prsp
open HolI LenX InsX Texi Fits Rinst Fita Fitc Fitd Fite Fitf Fitg Fith Fitj
theorem dig_w {x:Int} (h:(48<=x/\x<=57) \/ (65<=x/\x<=70)):isW (UInt8.ofNat x.toNat)=true/\UInt8.ofNat x.toNat ≠ 112:=by
 obtain ⟨n,rfl⟩:=Int.eq_ofNat_of_zero_le (show 0<=x by omega)
 have all:∀ i:Fin 71,(48<=i.val/\i.val<=57) \/ (65<=i.val/\i.val<=70)->isW (UInt8.ofNat i.val)=true/\UInt8.ofNat i.val ≠ 112:=by decide +kernel
 exact all ⟨n,by omega⟩ (by show (48<=n/\n<=57) \/ (65<=n/\n<=70);omega)
theorem take_all {l:List UInt8} (h:∀ x ∈ l,isW x=true):wd l=l/\af l=[]:=by
 unfold wd af
 induction l with
 | nil=>exact ⟨rfl,rfl⟩
 | cons x l ih =>
  have hx:=h x (List.mem_cons_self ..)
  obtain ⟨a,b⟩:=ih fun y hy=>h y (List.mem_cons_of_mem _ hy)
  rw [List.takeWhile_cons,if_pos hx,List.dropWhile_cons,if_pos hx,a,b]
  exact ⟨rfl,rfl⟩
theorem val_hex {m d:Int} (h:1<=d/\d<=4/\0<=m/\m<=65535/\m / Hex.pw d=0):Val (Hex.hexS m d):=by
 obtain ⟨hn,hz⟩:=Hexn.num_hex h
 have hy:=Hex.hexS_yes h
 have hdd:(Hex.hexS m d).data.toList=36 :: (Hex.digs m d.toNat).map fun n=>UInt8.ofNat n.toNat:=by
  rw [hy,strOfNums_data,List.map_cons];rfl
 have hw:∀ x ∈ (Hex.digs m d.toNat).map (fun n=>UInt8.ofNat n.toNat),isW x=true/\x ≠ 112:=fun x hx=>by
  obtain ⟨n,hn,rfl⟩:=List.mem_map.1 hx
  exact dig_w (digs_ok _ _ n hn)
 refine ⟨⟨36,_,hdd,by decide⟩,fun x hx=>?_,?_⟩
 ·rw [hdd] at hx
  rcases List.mem_cons.1 hx with rfl|hx
  ·decide
  ·exact (hw x hx).2
 ·refine hex_val (L:=[(1,m,E0)]) (by omega) ?_ (by show (reg E0 || false)=false;rw [reg_empty rfl];rfl)
  rw [val_succ]
  obtain ⟨a,b⟩:=take_all fun x hx=>(hw x hx).1
  have hl:leafF (bs ((Hex.hexS m d).data.toList.take 1 ++ wd (Hex.hexS m d).data.toList.tail)) (af (Hex.hexS m d).data.toList.tail,[])=some ([],[(1,m,E0)]):=by
   have e1:(Hex.hexS m d).data.toList.take 1 ++ wd (Hex.hexS m d).data.toList.tail=(Hex.hexS m d).data.toList:=by
    rw [hdd,List.tail_cons,a];rfl
   have e2:af (Hex.hexS m d).data.toList.tail=[]:=by rw [hdd,List.tail_cons,b]
   rw [e1,e2,bs_list]
   unfold leafF
   rw [hn];rfl
  have hh:hd (Hex.hexS m d).data.toList=36:=by rw [hdd];rfl
  unfold valueF
  rw [if_neg (by rw [hh];decide),if_neg (by rw [hh];decide),if_neg (by rw [hh];decide)]
  unfold wordF
  rw [if_pos (show signed (Hex.hexS m d).data.toList=true from decide_eq_true (.inl hh))]
  exact hl
def okE (v:ByteArray):Bool:=(match v.data.toList with|[]=>false|c :: _=>isV c) && (v.data.toList.all fun x=>x != 112) && decide (v.size<=200) &&
 (match val 31 (v.data.toList,[]) with|some ([],L)=>!regL L|_=>false)
theorem okE_all:∀ c:Fin 256,okE (newV e8 (c.val:Int))=true:=by decide +kernel
theorem val_okE {v:ByteArray} (h:okE v=true):Val v:=by
 unfold okE at h
 simp only [Bool.and_eq_true] at h
 obtain ⟨⟨⟨h1,h2⟩,h3⟩,h4⟩:=h
 refine ⟨?_,fun x hx=>by simpa using List.all_eq_true.1 h2 x hx,?_⟩
 ·cases hl:v.data.toList with
  | nil=>rw [hl] at h1;cases h1
  | cons c r=>rw [hl] at h1;exact ⟨c,r,rfl,h1⟩
 ·split at h4
  ·rename_i L hv
   exact hex_val (of_decide_eq_true h3) hv (by simpa using h4)
  ·cases h4
theorem val_new {c:Int} {b:Bool} {m:Int} (ho:okV c b m=true) (hh:¬ (hole c b).size=0):Val (newV (hole c b) m):=by
 unfold okV at ho
 split at ho
 ·cases ho
 rcases hole_cases c b with h|h|h|h
 ·rw [h] at ho |-
  rw [if_neg (by decide)] at ho
  obtain ⟨a1,a2⟩:=of_decide_eq_true ho
  exact val_hex (m:=m) (d:=2) ⟨by decide,by decide,a1,by omega,by unfold Hex.pw;show m / (16 ^ 2)=0;omega⟩
 ·rw [h] at ho |-
  rw [if_pos (by decide)] at ho
  obtain ⟨a1,a2⟩:=of_decide_eq_true ho
  exact val_hex (m:=m) (d:=4) ⟨by decide,by decide,a1,by omega,by unfold Hex.pw;show m / (16 ^ 4)=0;omega⟩
 ·rw [h] at ho |-
  rw [if_neg (by decide)] at ho
  obtain ⟨a1,a2⟩:=of_decide_eq_true ho
  have:=okE_all ⟨m.toNat,by omega⟩
  rw [show ((⟨m.toNat,by omega⟩ : Fin 256).val:Int)=m by show ((m.toNat:Nat):Int)=m;omega] at this
  exact val_okE this
 ·exact absurd (by rw [h];rfl) hh
theorem loop_app {f:Int->St->Option St} (hf:∀ n s s',1<=n->f n s=some s'->∃ M,s'.2=s.2 ++ M) {least:Int} (hl:1<=least):∀ (n:Nat) (s s':St),s.1.length<=n->loopF f least s=some s'->∃ M,s'.2=s.2 ++ M
 | n,s,s',hn,h=>by
  by_cases ht:tgt (opK s.1)<least
  ·rw [loop_stop ht] at h;cases h;exact ⟨[],(List.append_nil _).symm⟩
  ·cases hs:stepF f s with
   | none=>rw [loop_none ht hs] at h;cases h
   | some s1 =>
    by_cases hlt:s1.1.length<s.1.length
    ·rw [loop_go ht hs hlt] at h
     match n,hn with
     | 0,hn=>omega
     | n+1,hn =>
      obtain ⟨M,hM⟩:=loop_app hf hl n s1 s' (by omega) h
      unfold stepF at hs
      cases hb:f (tgt (opK s.1)+1) (s.1.drop (opL (opK s.1)),s.2) with
      | none=>rw [hb] at hs;cases hs
      | some s2 =>
       rw [hb] at hs
       obtain ⟨M2,hM2⟩:=hf _ _ _ (by omega) hb
       obtain ⟨_,e⟩:=Prsl.put_some (show put (opK s.1,0,E0) s2=some s1 from hs)
       refine ⟨M2 ++ [(opK s.1,0,E0)] ++ M,?_⟩
       rw [hM,e]
       show (s2.2 ++ [(opK s.1,0,E0)]) ++ M=_
       rw [hM2]
       show ((s.2 ++ M2) ++ [(opK s.1,0,E0)]) ++ M=_
       simp only [List.append_assoc]
    ·rw [loopF,if_neg ht,hs] at h
     simp only [dif_neg hlt] at h
     cases h
theorem op44 (q:List UInt8):tgt (opK (44 :: q))<1:=by
 have h:hd (44 :: q)=44:=rfl
 have e:opK (44 :: q)=0:=by
  unfold opK
  rw [if_neg (by simp),if_neg (by simp),h]
  rfl
 rw [e];decide
theorem rk_none {r:List UInt8} (h:r ∈ rkL) (q:List UInt8) {N:ByteArray} (hN:N.data.toList=r ++ q):hexV 31 N=none:=by
 have key:∀ L,comp 31 (r ++ q)=some L->regL L=true:=by
  intro L hL
  have e:=Prsl.comp_some hL
  rw [lev_succ] at e
  unfold rkL at h
  simp only [List.mem_cons,List.not_mem_nil,or_false] at h
  have stop:∀ (c:UInt8) (q:List UInt8) (M:List Stepx.Node),tgt (opK (c :: q))<1->(some (c :: q,M)).bind (loopF (lev 30) 1)=some (c :: q,M):=fun c q M ht=>loop_stop ht
  rcases h with rfl|rfl|rfl|rfl|rfl|rfl
  ·have v:val 31 ([110,122,44] ++ q,[])=some (44 :: q,[(2,0,⟨#[110,122]⟩)]):=by rfl
   rw [v] at e
   have:=(stop 44 q _ (op44 q)).symm.trans e
   cases this
  ·have v:val 31 ([122,44] ++ q,[])=some (44 :: q,[(2,0,⟨#[122]⟩)]):=by rfl
   rw [v] at e
   have:=(stop 44 q _ (op44 q)).symm.trans e
   cases this
  ·have v:val 31 ([110,99,44] ++ q,[])=some (44 :: q,[(2,0,⟨#[110,99]⟩)]):=by rfl
   rw [v] at e
   have:=(stop 44 q _ (op44 q)).symm.trans e
   cases this
  ·have v:val 31 ([99,44] ++ q,[])=some (44 :: q,[(2,0,⟨#[99]⟩)]):=by rfl
   rw [v] at e
   have:=(stop 44 q _ (op44 q)).symm.trans e
   cases this
  ·have v:val 31 ([91] ++ q,[])=none:=by rfl
   rw [v] at e
   cases e
  ·have v:val 31 ([115,112,43] ++ q,[])=some (43 :: q,[(2,0,⟨#[115,112]⟩)]):=by rfl
   rw [v] at e
   obtain ⟨M,hM⟩:=loop_app (f:=lev 30) (fun n s s' h1 h2=>by obtain ⟨M,hM,_⟩:=((Prsl.both_shp 30).2 n s s' h1 h2).nodes;exact ⟨M,hM⟩) (by decide) (43 :: q).length _ _ (Nat.le_refl _) (show loopF (lev 30) 1 (43 :: q,[(2,0,⟨#[115,112]⟩)])=some ([],L) from e)
   have hM:L=[(2,0,⟨#[115,112]⟩)] ++ M:=hM
   rw [hM]
   show (reg ⟨#[115,112]⟩ || _)=true
   rw [show reg ⟨#[115,112]⟩=true from by decide +kernel]
   rfl
 unfold hexV compV
 split
 ·rfl
 ·rw [hN]
  cases hc:comp 31 (r ++ q) with
  | none=>rfl
  | some L =>
   show (if regL L=true then none else some L)=none
   rw [if_pos (key L hc)]
end Fitk
namespace Fitl
open HoleX (n8 n16 e8 holeT holeP)
open HolI LenX InsX Texi Fits Rinst Fita Fitc Fitd Fite Fitf Fitg Fith Fitj Fitk
abbrev A (c:Int):List UInt8:=(Like.ahead c false).data.toList
abbrev Z (c:Int):List UInt8:=(Like.behind c false).data.toList
theorem fin_at {c:Int} (h0:0<=c) (h1:c<=255):∃ i:Fin 256,((i.val:Nat):Int)=c:=⟨⟨c.toNat,by omega⟩,by show ((c.toNat:Nat):Int)=c;omega⟩
theorem hole_at {c:Int} (h0:0<=c) (h1:c<=255) (hh:¬ (hole c false).size=0):(c.toNat,A c,Z c) ∈ holesL:=by
 obtain ⟨i,rfl⟩:=fin_at h0 h1
 have:=(holes_all i).resolve_left hh
 rw [show (((i.val:Nat):Int)).toNat=i.val by omega]
 exact this
theorem no_cb {c:Int} (h0:0<=c) (h1:c<=255):(hole c true).size=0:=by
 obtain ⟨i,rfl⟩:=fin_at h0 h1
 exact hole_cb i
theorem headD_drop {a t:List UInt8} {c:UInt8} {r:List UInt8} (h:t=a ++ c :: r):a.isPrefixOf t=true/\(t.drop a.length).headD 0=c:=by
 subst h
 exact ⟨List.isPrefixOf_iff_prefix.2 ⟨c :: r,rfl⟩,by rw [List.drop_left];rfl⟩
structure Ow (s:ByteArray) (c:Int) (v:ByteArray):Prop where
 c0:0<=c
 c1:c<=255
 hh:¬ (hole c false).size=0
 vv:Val v
 ss:s=Like.ahead c false ++ v ++ Like.behind c false
theorem Ow.list {s:ByteArray} {c:Int} {v:ByteArray} (o:Ow s c v):s.data.toList=A c ++ (v.data.toList ++ Z c):=by
 rw [o.ss];simp only [ByteArray.data_append,Array.toList_append,List.append_assoc]
theorem Ow.head {s:ByteArray} {c:Int} {v:ByteArray} (o:Ow s c v):∃ x r,s.data.toList=A c ++ x :: r/\isV x=true:=by
 obtain ⟨x,r,h,hx⟩:=o.vv.first
 exact ⟨x,r ++ Z c,by rw [o.list,h];rfl,hx⟩
theorem Ow.whole {s:ByteArray} {c:Int} {v:ByteArray} (o:Ow s c v) (k:Nat):wK s k=false:=by
 cases hw:wK s k with
 | false=>rfl
 | true =>
  exfalso
  unfold wK at hw
  simp only [Bool.and_eq_true,decide_eq_true_eq] at hw
  have e:=Fite.eq_of_lists hw.2.2
  obtain ⟨i,hi⟩:=fin_at (code_bd k).1 (code_bd k).2
  have a:=(whole_all i (cbK k)).resolve_left (by rw [hi];exact fun h=>h hw.2.1)
  rw [hi] at a
  have b:=List.all_eq_true.1 a _ (hole_at o.c0 o.c1 o.hh)
  obtain ⟨x,r,hx,hv⟩:=o.head
  have e2:(Tmpl.tmplS (codeK k) (cbK k)).data.toList=A c ++ x :: r:=by rw [<- hx,<- e];rfl
  obtain ⟨p1,p2⟩:=headD_drop e2
  unfold okN at b
  rw [p1,p2,hv] at b
  cases b
theorem stands_of {s X Y:ByteArray} (h:stands s X Y=true):X.data.toList <+: s.data.toList/\Y.data.toList <:+ s.data.toList:=by
 have e:=stand_split h
 have l:s.data.toList=X.data.toList ++ ((inner s X Y).data.toList ++ Y.data.toList):=by
  conv=>lhs;rw [e]
  simp only [ByteArray.data_append,Array.toList_append,List.append_assoc]
 exact ⟨⟨_,l.symm⟩,⟨X.data.toList ++ (inner s X Y).data.toList,by rw [List.append_assoc];exact l.symm⟩⟩
theorem getLast_suf {l m:List UInt8} (h:l <:+ m) {x:UInt8} (hl:l.getLast? = some x):m.getLast? = some x:=by
 obtain ⟨t,rfl⟩:=h
 rw [List.getLast?_append,hl];rfl
theorem pair_at {x y:Nat × List UInt8 × List UInt8} (hx:x ∈ holesL) (hy:y ∈ holesL) (h:y.1<x.1):kindOK x y=true:=by
 have q:=List.all_eq_true.1 (List.all_eq_true.1 pairs_all x hx) y hy
 rw [decide_eq_true h] at q
 exact q
theorem clash {n m:Nat} {ac zc ak zk vl sl:List UInt8} (q:kindOK (n,ac,zc) (m,ak,zk)=true) (hs:sl=ac ++ (vl ++ zc)) (hf:∃ x r,vl=x :: r/\isV x=true) (no:∀ x ∈ vl,x ≠ 112) (s1:ak <+: sl) (s2:zk <:+ sl):zk=[]/\∃ r ∈ rkL,ac=ak ++ r:=by
 obtain ⟨x,r,hv,hx⟩:=hf
 have hl:sl=ac ++ x :: (r ++ zc):=by rw [hs,hv];rfl
 unfold kindOK at q
 split at q
 ·rename_i hp
  have hp:ak <+: ac:=List.isPrefixOf_iff_prefix.1 hp
  rw [Bool.or_eq_true,Bool.and_eq_true,Bool.and_eq_true] at q
  rcases q with ⟨q1,q2⟩|⟨q1,q2⟩
  ·exfalso
   have q1:zk.getLast? = some 112:=of_decide_eq_true q1
   have q2:¬ zc.getLast? = some 112:=by simpa using q2
   have e:=getLast_suf s2 q1
   rw [hs,List.getLast?_append,List.getLast?_append] at e
   cases hz:zc.getLast? with
   | some y =>
    rw [hz] at e q2
    exact q2 e
   | none =>
    rw [hz] at e
    cases hvl:vl.getLast? with
    | none =>
     rw [hv,List.getLast?_cons] at hvl
     cases hvl
    | some y =>
     rw [hvl] at e
     have e:y=112:=Option.some.inj e
     exact no y (List.mem_of_getLast? hvl) e
  ·have q1:zk=[]:=of_decide_eq_true q1
   obtain ⟨r',hr'⟩:=hp
   have hd:ac.drop ak.length=r':=by rw [<- hr',List.drop_left]
   have q2:rkL.contains r'=true:=by rw [<- hd];exact q2
   exact ⟨q1,r',by simpa using q2,hr'.symm⟩
 ·rename_i hp
  exfalso
  have q:okN ac ak=true:=q
  have pc:ac <+: sl:=⟨x :: (r ++ zc),hl.symm⟩
  rcases List.prefix_or_prefix_of_prefix s1 pc with h|h
  ·exact hp (List.isPrefixOf_iff_prefix.2 h)
  ·obtain ⟨t,ht⟩:=h
   cases t with
   | nil =>
    rw [List.append_nil] at ht
    exact hp (List.isPrefixOf_iff_prefix.2 (by show ak <+: ac;rw [ht];exact List.prefix_refl _))
   | cons y t =>
    have hy:y=x:=by
     obtain ⟨u,hu⟩:=s1
     rw [<- ht,hl,List.append_assoc] at hu
     have:=List.append_cancel_left hu
     injection this
    obtain ⟨p1,p2⟩:=headD_drop ht.symm
    unfold okN at q
    rw [p1,p2,hy,hx] at q
    cases q
theorem Ow.earlier {s:ByteArray} {c:Int} {v:ByteArray} (o:Ow s c v) {k:Int} (h0:0<=k) (hk:k<c):oI s k=none:=by
 by_cases hh:(hole k false).size=0
 ·exact if_pos hh
 have c1:=o.c1
 have q:=pair_at (hole_at o.c0 o.c1 o.hh) (hole_at h0 (by omega) hh) (show k.toNat<c.toNat by omega)
 cases hst:stands s (Like.ahead k false) (Like.behind k false) with
 | false =>
  unfold oI
  rw [if_neg hh,hst]
  rfl
 | true =>
  obtain ⟨s1,s2⟩:=stands_of hst
  have hl:=o.list
  have hf:=o.vv.first
  have hn:=o.vv.no
  obtain ⟨z,r,hr,ha⟩:=clash q hl hf hn s1 s2
  have hs:s=Like.ahead k false ++ (⟨(r ++ (v.data.toList ++ Z c)).toArray⟩ : ByteArray) ++ Like.behind k false:=by
   apply Fith.ext_of
   simp only [ByteArray.data_append,Array.toList_append]
   rw [hl]
   have z:(Like.behind k false).data.toList=[]:=z
   rw [z,List.append_nil,ha]
   show (A k ++ r) ++ (v.data.toList ++ Z c)=A k ++ (r ++ (v.data.toList ++ Z c))
   rw [List.append_assoc]
  obtain ⟨_,a2,_⟩:=Same.around hs
  unfold oI
  rw [if_neg hh,if_pos hst,a2]
  exact rk_none hr (v.data.toList ++ Z c) rfl
theorem Ow.own {s:ByteArray} {c:Int} {v:ByteArray} (o:Ow s c v):(oI s c).isSome=true:=by
 obtain ⟨a1,a2,_⟩:=Same.around o.ss
 unfold oI
 rw [if_neg o.hh,if_pos a1,a2]
 exact o.vv.some
theorem first_at {f:Nat->Bool}:∀ (n k j:Nat),k<=j->j<k+n->(∀ i,k<=i->i<j->f i=false)->f j=true->firstK f n k=some j
 | 0,k,j,h1,h2,_,_=>by omega
 | n+1,k,j,h1,h2,h3,h4=>by
  rw [firstK]
  by_cases e:k=j
  ·rw [if_pos (by rw [e];exact h4),e]
  ·rw [if_neg (by rw [h3 k (Nat.le_refl _) (by omega)];decide)]
   exact first_at n (k+1) j (by omega) (by omega) (fun i a b=>h3 i (by omega) b) h4
theorem first_some {f:Nat->Bool}:∀ (n k j:Nat),k<=j->j<k+n->f j=true->∃ i,firstK f n k=some i
 | 0,k,j,h1,h2,_=>by omega
 | n+1,k,j,h1,h2,h=>by
  rw [firstK]
  split
  ·exact ⟨k,rfl⟩
  ·rename_i hf
   refine first_some n (k+1) j ?_ (by omega) h
   rcases Nat.lt_or_ge k j with hlt|hge
   ·omega
   ·exact absurd (by rw [show k=j by omega];exact h) hf
theorem ok_none {c:Int} {b:Bool} {m:Int} (ho:okV c b m=true):0<=c/\c<=255/\¬ (Tmpl.tmplS c b).size=0:=by
 obtain ⟨h0,h1,h2,_⟩:=at_hole ho
 exact ⟨h0,h1,h2⟩
theorem num_code {c:Int} {b:Bool} (h0:0<=c) (h1:c<=255):codeK (Uniq.num c b)=c/\cbK (Uniq.num c b)=b/\Uniq.num c b<512:=by
 unfold codeK cbK Uniq.num
 cases b
 ·refine ⟨by simp;omega,by simp;omega,by simp;omega⟩
 ·refine ⟨by simp;omega,by simp,by simp;omega⟩
theorem own_fit {c:Int} {b:Bool} {m:Int} (ho:okV c b m=true):(fitG (oI (textV c b m)) (textV c b m)).f=true/\(fitG (oI (textV c b m)) (textV c b m)).c=c/\(fitG (oI (textV c b m)) (textV c b m)).b=b:=by
 obtain ⟨h0,h1,hT⟩:=ok_none ho
 have hsz:=DrawZ.text_small c b m h0 h1
 have h80:¬ 80<(textV c b m).size:=by omega
 by_cases hh:(hole c b).size=0
 ·have ht:textV c b m=Tmpl.tmplS c b:=by unfold textV;rw [if_neg (by rw [ho];decide),if_pos hh]
  rw [ht] at h80 |-
  obtain ⟨n1,n2,n3⟩:=num_code (b:=b) h0 h1
  have hTn:T (Uniq.num c b)=Tmpl.tmplS c b:=by unfold T;rw [n1,n2]
  have hw:wK (Tmpl.tmplS c b) (Uniq.num c b)=true:=by
   unfold wK
   rw [decide_eq_false hT,hTn,show decide ((hK (Uniq.num c b)).size=0)=true from decide_eq_true (by unfold hK;rw [n1,n2];exact hh)]
   show (true && (true && _))=true
   simp
  obtain ⟨i,hi⟩:=first_some 512 0 (Uniq.num c b) (Nat.zero_le _) (by omega) hw
  have hwi:=(firstK_lt _ _ _ hi).2.2
  unfold wK at hwi
  simp only [Bool.and_eq_true] at hwi
  have e:=Fite.eq_of_lists hwi.2.2
  have u:=Uniq.uniq (c:=codeK i) (d:=c) (a:=cbK i) (b:=b) (decide_eq_true (code_bd i)) (decide_eq_true ⟨h0,h1⟩) (by
   unfold TmplI.tmpl
   rw [if_pos (show Signed.inB (codeK i) 0 255=true from decide_eq_true (code_bd i)),if_pos (show Signed.inB c 0 255=true from decide_eq_true ⟨h0,h1⟩)]
   exact e) (by
   unfold TmplI.tmpl
   rw [if_pos (show Signed.inB (codeK i) 0 255=true from decide_eq_true (code_bd i))]
   show ¬ (T i).size=0
   rw [e];exact hT)
  obtain ⟨X,hX⟩ : ∃ X,firstK (oB (oI (Tmpl.tmplS c b))) 256 0=X:=⟨_,rfl⟩
  rw [fit_small h80 hX hi]
  exact ⟨rfl,u.1,u.2⟩
 ·have hb:b=false:=by
   cases b with
   | false=>rfl
   | true=>exact absurd (no_cb h0 h1) hh
  subst hb
  have hs1:textV c false m=Like.ahead c false ++ newV (hole c false) m ++ Like.behind c false:=by
   unfold textV
   rw [if_neg (by rw [ho];decide),if_neg hh]
   rfl
  have o:Ow (textV c false m) c (newV (hole c false) m):=⟨h0,h1,hh,val_new ho hh,hs1⟩
  have w:firstK (wK (textV c false m)) 512 0=none:=firstK_no o.whole _ _
  have f:=first_at (f:=oB (oI (textV c false m))) 256 0 c.toNat (Nat.zero_le _) (by omega) (fun i _ hi=>by
   unfold oB
   rw [o.earlier (by omega) (by omega)];rfl) (by
   unfold oB
   rw [show ((c.toNat:Nat):Int)=c by omega]
   exact o.own)
  rw [fit_small h80 f w]
  exact ⟨rfl,by show ((c.toNat:Nat):Int)=c;omega,rfl⟩
theorem fit_prop {s:ByteArray} (hf:(fitG (oI s) s).f=true) :
  0<=(fitG (oI s) s).c/\(fitG (oI s) s).c<=255/\¬ (Tmpl.tmplS (fitG (oI s) s).c (fitG (oI s) s).b).size=0 /\
   (((fitG (oI s) s).h.size=0/\(fitG (oI s) s).l=[]/\textV (fitG (oI s) s).c (fitG (oI s) s).b 0=s) \/ (¬ (fitG (oI s) s).h.size=0/\¬ (fitG (oI s) s).l.length=0)):=by
 by_cases h80:80<s.size
 ·rw [show fitG (oI s) s=r0 from if_pos h80] at hf
  cases hf
 obtain ⟨X,hX⟩ : ∃ X,firstK (oB (oI s)) 256 0=X:=⟨_,rfl⟩
 obtain ⟨Y,hY⟩ : ∃ Y,firstK (wK s) 512 0=Y:=⟨_,rfl⟩
 rw [fit_small h80 hX hY] at hf |-
 cases Y with
 | some k =>
  obtain ⟨c0,c1⟩:=code_bd k
  have hw:=(firstK_lt _ _ _ hY).2.2
  unfold wK at hw
  simp only [Bool.and_eq_true,decide_eq_true_eq,Bool.not_eq_true',decide_eq_false_iff_not] at hw
  have e:=Fite.eq_of_lists hw.2.2
  have hT:¬ (Tmpl.tmplS (codeK k) (cbK k)).size=0:=by
   show ¬ (T k).size=0
   rw [e];exact hw.1
  refine ⟨c0,c1,hT,.inl ⟨rfl,rfl,?_⟩⟩
  show textV (codeK k) (cbK k) 0=s
  have ho:okV (codeK k) (cbK k) 0=true:=by
   unfold okV
   rw [if_neg (by unfold none?;rw [show Signed.inB (codeK k) 0 255=true from decide_eq_true ⟨c0,c1⟩];simpa using hT),if_pos (show (hole (codeK k) (cbK k)).size=0 from hw.2.1)]
   rfl
  unfold textV
  rw [if_neg (by rw [ho];decide),if_pos (show (hole (codeK k) (cbK k)).size=0 from hw.2.1)]
  exact e
 | none =>
  cases X with
  | none=>cases hf
  | some k =>
   obtain ⟨_,k1,hk⟩:=firstK_lt _ _ _ hX
   have k1:(k:Int)<=255:=by omega
   have k0:(0:Int)<=(k:Int):=by omega
   unfold oB at hk
   obtain ⟨L,hL⟩:=Option.isSome_iff_exists.1 hk
   have hh:¬ (hole (k:Int) false).size=0:=fun e=>by
    unfold oI at hL
    rw [if_pos e] at hL
    cases hL
   refine ⟨k0,k1,((Same.sign_at (k:Int) false k0 k1).2 hh).2,.inr ⟨hh,?_⟩⟩
   show ¬ ((oI s (k:Int)).getD []).length=0
   rw [hL]
   show ¬ L.length=0
   intro e
   have e:L=[]:=List.eq_nil_of_length_eq_zero e
   subst e
   unfold oI at hL
   rw [if_neg hh] at hL
   split at hL
   ·unfold hexV Cmxd.compV at hL
    split at hL
    ·cases hL
    ·rename_i N _ _
     cases hc:Prsp.comp 31 (inner s (Like.ahead (k:Int) false) (Like.behind (k:Int) false)).data.toList with
     | none=>rw [hc] at hL;cases hL
     | some M =>
      rw [hc] at hL
      have hL:(if regL M=true then none else some M)=some []:=hL
      split at hL
      ·cases hL
      ·cases hL
       have:=(Prsl.comp_right hc).1
       revert this
       decide
   ·cases hL
end Fitl
end Go.Proofs.YtbofcepdckpkkaaGreatDoor
