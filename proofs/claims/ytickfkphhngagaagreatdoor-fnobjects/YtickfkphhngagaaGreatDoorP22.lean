import Derived.Test.YtickfkphhngagaaGreatDoorP21
import Derived.Lib.Builder
set_option linter.all false
set_option maxRecDepth 20000
set_option maxHeartbeats 8000000
open Go.ChangeShapes Go.WideShapes Go.ChangeAt Go.RowKit
open Go.Proofs.Tryz
namespace Go.Proofs.YtickfkphhngagaaGreatDoor
namespace Rima
open Go.Deep
open Rown Rowo Rliq Rlip
open Otxa (after)
structure Er (w:World):Prop where
 s:∃ t p,w.cell? ⟨4,0,none⟩=some (.iface t p)
 r:∃ t p,w.cell? ⟨5,0,none⟩=some (.iface t p)
theorem Er.below {w w':World} (h:Er w) (hb:Below w.heap.size w w'):Er w':=by
 obtain ⟨⟨t,p,h1⟩,⟨t',p',h2⟩⟩:=h
 exact ⟨⟨t,p,(hb.cell (p:=⟨_,0,none⟩) (World.block_lt_of_cell? w ⟨_,0,none⟩ h1)).trans h1⟩,⟨t',p',(hb.cell (p:=⟨_,0,none⟩) (World.block_lt_of_cell? w ⟨_,0,none⟩ h2)).trans h2⟩⟩
theorem bytes_below (w:World) (s:ByteArray):Below w.heap.size w (Lib.bytesWorld w 5 s):=Lib.bytesWorld_below _ _ _
def ToldP (s:ByteArray) (e:Ending):Prop:=match numP s with
 | some n=>e=.returned (.tuple #[.int .i64 n,.nilIface])
 | none=>∃ n t p,e=.returned (.tuple #[.int .i64 n,.iface t p])
theorem parse_any (s:ByteArray) (w:World) (hs:s.size<=1048576) (hE:Er w) :
  Calls prog 131 #[.string s,.int .i64 10,.int .i64 64] w fun e w'=>ToldP s e/\Below w.heap.size w w':=by
 unfold ToldP numP
 cases h:Lib.parseIntB 64 s.data.toList with
 | ok v =>
  refine (Tryz.strconv_ParseInt_10_at64_ok s (by omega) v h w).mono ?_
  rintro e w' ⟨rfl,rfl|⟨t,rfl⟩⟩
  ·exact ⟨rfl,Below.refl _ _⟩
  ·exact ⟨rfl,bytes_below _ _⟩
 | «syntax» =>
  obtain ⟨t,p,hv⟩:=hE.s
  refine (Tryz.strconv_ParseInt_10_at64_syntax s (by omega) h (.iface t p) w hv (.inr ⟨_,_,rfl⟩)).mono ?_
  rintro e w' ⟨N,rfl,_,_,hb⟩
  exact ⟨⟨_,_,_,rfl⟩,hb⟩
 | range =>
  obtain ⟨t,p,hv⟩:=hE.r
  refine (Tryz.strconv_ParseInt_10_at64_range s (by omega) h (.iface t p) w hv (.inr ⟨_,_,rfl⟩)).mono ?_
  rintro e w' ⟨N,rfl,_,_,hb⟩
  exact ⟨⟨_,_,_,rfl⟩,hb⟩
def putN (cs:Array Value) (os:List Nat) (ws:List ByteArray):Nat->Array Value
 | 0=>cs
 | k+1=>(putN cs os ws k).setIfInBounds (os.getD k 0) (.int .i64 ((numP (ws.getD k ⟨#[]⟩)).getD 0))
theorem putN_size (cs:Array Value) (os:List Nat) (ws:List ByteArray):∀ k,(putN cs os ws k).size=cs.size
 | 0=>rfl
 | k+1=>by unfold putN;rw [Array.size_setIfInBounds,putN_size]
structure Nq (w:World) (bx:Nat) (T:TypeId) (cs:Array Value) (os:List Nat) (ws:List ByteArray) (k:Nat) (wr:World):Prop where
 g:w.grownBy wr (some bx)
 c:wr.heap[bx]? = some (.cells (putN cs os ws k) T (0,0))
 y:∀ i,i<k->(numP (ws.getD i ⟨#[]⟩)).isSome=true
theorem Nq.below {w wr u:World} {bx:Nat} {T:TypeId} {cs:Array Value} {os:List Nat} {ws:List ByteArray} {k:Nat} (h:Nq w bx T cs os ws k wr) (hb:Below wr.heap.size wr u):Nq w bx T cs os ws k u :=
 ⟨h.g.trans (Nodm.grown_of_below hb _),(hb.block _ (by have:=(zLo h.c);exact this)).trans h.c,h.y⟩
theorem Nq.next {w u:World} {bx:Nat} {T:TypeId} {cs:Array Value} {os:List Nat} {ws:List ByteArray} {k:Nat} {n:Int} (h:Nq w bx T cs os ws k u) (hn:numP (ws.getD k ⟨#[]⟩)=some n):Nq w bx T cs os ws (k+1) (u.setCell ⟨bx,os.getD k 0,none⟩ (.int .i64 n)):=by
 refine ⟨h.g.trans (Nodm.grown_set _ _ _ _),?_,fun i hi=>?_⟩
 ·rw [heap_setCell_same _ _ _ _ _ _ h.c]
  show _=some (Obj.cells ((putN cs os ws k).setIfInBounds (os.getD k 0) (.int .i64 ((numP (ws.getD k ⟨#[]⟩)).getD 0))) T (0,0))
  rw [hn];rfl
 ·by_cases hik:i=k
  ·rw [hik,hn];rfl
  ·exact h.y i (by omega)
def ToldN (w:World) (bx:Nat) (T:TypeId) (cs:Array Value) (os:List Nat) (ws:List ByteArray) (e:Ending) (w':World):Prop :=
 w.grownBy w' (some bx)/\((e=.returned (.bool true)/\Nq w bx T cs os ws ws.length w') \/ (e=.returned (.bool false)/\∃ i,i<ws.length/\numP (ws.getD i ⟨#[]⟩)=none))
theorem numbers_any (g off cap f fc bx:Nat) (T:TypeId) (cs:Array Value) (os:List Nat) (ws:List ByteArray) (w:World) (hE:Er w)
  (hw:∀ i,i<ws.length->w.cell? ⟨g,off+i,none⟩=some (.string (ws.getD i ⟨#[]⟩))) (hf:∀ i,i<ws.length->w.cell? ⟨f,i,none⟩=some (.pointer (some ⟨bx,os.getD i 0,none⟩)))
  (hb:w.heap[bx]? = some (.cells cs T (0,0))) (ho:∀ i,i<ws.length->os.getD i 0<cs.size) (hg:g ≠ bx) (hf2:f ≠ bx) (hn:ws.length<=100) (hz:∀ i,i<ws.length->(ws.getD i ⟨#[]⟩).size<=1048576)
  (hl:os.length=ws.length) (hEb:4 ≠ bx/\5 ≠ bx) :
  Calls prog 103 #[.slice (some ⟨g,off,none⟩) ws.length cap,.slice (some ⟨f,0,none⟩) ws.length fc] w (ToldN w bx T cs os ws):=by
 obtain ⟨n,hn'⟩ : ∃ n,n=ws.length:=⟨_,rfl⟩
 have HN:Hid (n=ws.length):=hn'
 have HW:=(show Hid _ from hw)
 have HF:=(show Hid _ from hf)
 have HO:=(show Hid _ from ho)
 have HZ:=(show Hid _ from hz)
 have HER:Hid (Er w):=hE
 have HEB:=(show Hid _ from hEb)
 have N0:Hid (Nq w bx T cs os ws 0 w):=⟨World.grownBy.refl _ _,hb,fun i hi=>absurd hi (Nat.not_lt_zero _)⟩
 rw [<- hn'] at HW HF HO HZ hn |-
 have hgl:∀ i,i<n->g<w.heap.size:=fun i hi=>World.block_lt_of_cell? w ⟨g,off+i,none⟩ (HW.out i hi)
 have hfl:∀ i,i<n->f<w.heap.size:=fun i hi=>World.block_lt_of_cell? w ⟨f,i,none⟩ (HF.out i hi)
 have HGL:=(show Hid _ from hgl)
 have HFL:=(show Hid _ from hfl)
 have HG:Hid (g ≠ bx/\f ≠ bx):=⟨hg,hf2⟩
 clear hw hf ho hz hE hb hg hf2 hn' hl hEb hgl hfl
 go_enter func103,ntmps103
 go_wp2_with fail
 go_loopw [11] (fun i wr=>∃ k:Nat,k<=n/\i=.int .i64 (k:Int)/\Hid (Nq w bx T cs os ws k wr)) (fun i _=>n-(intOf i).toNat)
 case atStart=>exact ⟨0,Nat.zero_le _,rfl,N0.out⟩
 case round =>
  clear N0
  obtain ⟨k,hk,rfl,HQ⟩:=hrel
  by_cases hlt:k<n
  ·have dk:decide ((k:Int)<(n:Int))=true:=decide_eq_true (by omega)
   have x0:wr.cell? ⟨g,off+k,none⟩=some (.string (ws.getD k ⟨#[]⟩)):=(World.cell?_of_block (a:=⟨g,off+k,none⟩) (HQ.out.g.block g (HGL.out k hlt) (by intro e;exact HG.out.1 (Option.some.inj e)))).trans (HW.out k hlt)
   have hEr:Er wr:=by
    obtain ⟨⟨t,p,h1⟩,⟨t',p',h2⟩⟩:=HER.out
    exact ⟨⟨t,p,(World.cell?_of_block (a:=⟨_,0,none⟩) (HQ.out.g.block _ (World.block_lt_of_cell? w ⟨_,0,none⟩ h1) (by intro e;exact HEB.out.1 (Option.some.inj e)))).trans h1⟩,⟨t',p',(World.cell?_of_block (a:=⟨_,0,none⟩) (HQ.out.g.block _ (World.block_lt_of_cell? w ⟨_,0,none⟩ h2) (by intro e;exact HEB.out.2 (Option.some.inj e)))).trans h2⟩⟩
   have cp:=parse_any (ws.getD k ⟨#[]⟩) wr (HZ.out k hlt) hEr
   unfold ToldP at cp
   have k0:(0:Int)<=(k:Int):=by omega
   have k1:(k:Int)<(n:Int):=by omega
   have NX:Hid (∀ (u:World) (m:Int),Below wr.heap.size wr u->numP (ws.getD k ⟨#[]⟩)=some m->Nq w bx T cs os ws (k+1) (u.setCell ⟨bx,os.getD k 0,none⟩ (.int .i64 m))):=fun u m hb hm=>(HQ.out.below hb).next hm
   have NC:Hid (∀ u,Below wr.heap.size wr u->u.cell? ⟨f,k,none⟩=some (.pointer (some ⟨bx,os.getD k 0,none⟩))/\(∃ v,u.cell? ⟨bx,os.getD k 0,none⟩=some v)/\u.frozen? ⟨bx,os.getD k 0,none⟩=false):=fun u hb=>by
    have hq:=HQ.out.below hb
    have hc:∃ v,u.cell? ⟨bx,os.getD k 0,none⟩=some v:=by
     rw [cell_of_row _ _ _ _ _ _ hq.c]
     exact ⟨_,Array.getElem?_eq_getElem (by rw [putN_size];exact HO.out k hlt)⟩
    have hfz:u.frozen? ⟨bx,os.getD k 0,none⟩=false:=frozen_of_row u bx (os.getD k 0) _ _ hq.c
    exact ⟨(World.cell?_of_block (a:=⟨f,k,none⟩) (hq.g.block f (HFL.out k hlt) (by intro e;exact HG.out.2 (Option.some.inj e)))).trans (HF.out k hlt),hc,hfz⟩
   have NF:Hid (numP (ws.getD k ⟨#[]⟩)=none->∃ i,i<ws.length/\numP (ws.getD i ⟨#[]⟩)=none):=fun h=>⟨k,by rw [<- HN.out];exact hlt,h⟩
   generalize ws.getD k ⟨#[]⟩=X at *
   generalize os.getD k 0=o at *
   clear hEr
   cases hnp:numP X with
   | none =>
    rw [hnp] at cp
    have HNF:=(show Hid _ from NF.out hnp)
    clear NX NC NF hnp
    go_wp2_with (go_at_call 131;refine cp.mono ?_;rintro e w1 ⟨⟨m,t,p,rfl⟩,b1⟩;have G1:Hid (w.grownBy w1 (some bx)):=HQ.out.g.trans (Nodm.grown_of_below b1 _);clear b1)
    go_ret
    exact ⟨G1.out,.inr ⟨rfl,HNF.out⟩⟩
   | some m =>
    rw [hnp] at cp
    have HM:Hid (numP X=some m):=hnp
    clear hnp NF
    go_wp2_with (go_at_call 131;refine cp.mono ?_;rintro e w1 ⟨rfl,b1⟩;obtain ⟨y1,⟨v2,y2⟩,y3⟩:=NC.out w1 b1;have NQ:=(show Hid _ from NX.out w1 m b1 HM.out);clear b1)
    go_roundw
    case rel=>exact ⟨k+1,by omega,by go_num,NQ.out⟩
    case measure=>simp [intOf];omega
  ·have e:k=n:=by omega
   subst e
   have dk:decide ((k:Int)<(k:Int))=false:=decide_eq_false (by omega)
   go_wp2
   go_ret
   exact ⟨HQ.out.g,.inl ⟨rfl,by rw [<- HN.out];exact HQ.out⟩⟩
end Rima
end Go.Proofs.YtickfkphhngagaaGreatDoor
