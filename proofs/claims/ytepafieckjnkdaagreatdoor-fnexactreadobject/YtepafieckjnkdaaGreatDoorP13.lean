import Derived.Test.YtepafieckjnkdaaGreatDoorP11
set_option linter.all false
set_option maxRecDepth 20000
set_option maxHeartbeats 8000000
open Go.ChangeShapes Go.WideShapes Go.ChangeAt Go.RowKit
open Go.Proofs.Tryz
namespace Go.Proofs.YtepafieckjnkdaaGreatDoor
namespace Wort
open Go.Deep
open Optx Extx Exts Nodi Worr Nodm Wors
open Stepx (Nodes exprB)
def MaxL (w:World):Prop:=∃ m,w.cell? ⟨2,0,none⟩=some (.int .i64 m)
theorem MaxL.below {w w':World} (h:MaxL w) (hb:Below w.heap.size w w'):MaxL w':=by
 obtain ⟨m,hm⟩:=h
 have hl:2<w.heap.size:=World.block_lt_of_cell? w ⟨2,0,none⟩ hm
 exact ⟨m,(hb.cell (p:=⟨2,0,none⟩) hl).trans hm⟩
theorem own_mono {w:World} {b b':Nat} {v:Value} {L:List Stepx.Node} (hle:b'<=b) (h:Nodm.Own w b v L):Nodm.Own w b' v L :=
 ⟨h.1,h.2.imp id fun ⟨g,c,cur,hv,hb,rest⟩=>⟨g,c,cur,hv,Nat.le_trans hle hb,rest⟩⟩
theorem W_len (s:ByteArray):(W s).length=Lib.countB s sp+1:=Lib.splitB_all sp (by decide) 0 _ s rfl
theorem W_len_le (s:ByteArray):(W s).length<=s.size+1:=by
 have:=Lib.countB_le sp (by decide) s.size s (Nat.le_refl _)
 rw [W_len];omega
theorem split_any (s:ByteArray) (w:World) (hs:s.size<=1048576) (hm:MaxL w) :
  Calls prog 103 #[.string s,.string ⟨#[32]⟩] w fun e w'=>e=.returned (.slice (some ⟨w.heap.size,0,none⟩) (W s).length (W s).length)/\w'=w.alloc (.cells ((W s).map Value.string).toArray 9):=by
 obtain ⟨m,hm⟩:=hm
 rw [W_len]
 exact Tryz.strings_Split s ⟨#[32]⟩ m w (by omega) hm (by decide)
theorem stepsOf_long (a:Option Addr) (cap:Nat) (L:List Stepx.Node) (w:World) (h30:30<L.length) (hlen:L.length<=1048577) :
  Calls prog 63 #[.slice a L.length cap] w fun e w'=>(∃ v,e=.returned (.tuple #[v,.bool false]))/\Below w.heap.size w w':=by
 go_enter func63,ntmps63
 go_wp2
 go_ret2
 exact ⟨⟨_,rfl⟩,Below.refl _ _⟩
theorem implOk_all (a:Option Addr) (cap:Nat) (L:List Stepx.Node) (w:World) (hN:Stepx.Nodes w a L) (hlen:L.length<=1048577) :
  Calls prog 36 #[.slice a L.length cap] w fun e w'=>e=.returned (.bool (Stepx.exprB L))/\Below w.heap.size w w':=by
 by_cases h30:30<L.length
 ·have hx:Stepx.exprB L=false:=by unfold Stepx.exprB;rw [decide_eq_false (by omega)];rfl
  rw [hx]
  have cs:=stepsOf_long a cap L w h30 hlen
  go_enter func36,ntmps36
  go_wp2_with (go_at_call 63;refine cs.mono ?_;rintro e w1 ⟨⟨v,rfl⟩,hb⟩)
  go_ret
  exact ⟨rfl,hb⟩
 ·exact implOk_any a cap L w hN (by omega)
def intV:Value->Nat
 | .int _ n=>n.toNat
 | _=>0
theorem implRead_any (s:ByteArray) (w:World) (hs:s.size<=1048576) (hT:OpTab w) (hP:Pow w) (hX:Nums.Tab w) (hm:MaxL w) :
  Calls prog 108 #[.string s] w fun e w'=>Wors.Left w w' e (outI s):=by
 obtain ⟨i0,hi,hz0,hz1,hz2⟩:=info_parts infoN
 have cs:=split_any s w hs hm
 have HT:Hid (OpTab w/\Pow w/\Nums.Tab w):=⟨hT,hP,hX⟩
 have HZ:Hid (∀ x ∈ W s,x.size<=s.size):=W_le _ s (Nat.le_refl _)
 have HW:=W_len_le s
 have HO:Hid ((exprB ((W s).map nodeI)=true->outI s=some ((W s).map nodeI))/\(exprB ((W s).map nodeI)=false->outI s=none)):=⟨fun h=>by unfold outI;rw [if_pos h],fun h=>by unfold outI;rw [h];rfl⟩
 have CE:Hid (∀ k (h:k<(W s).length),(w.alloc (.cells ((W s).map Value.string).toArray 9)).cell? ⟨w.heap.size,k,none⟩=some (.string (W s)[k])):=fun k h=>by
  rw [World.cell?_alloc_new];simp [h]
 have B0:Hid (Below w.heap.size w (w.alloc (.cells ((W s).map Value.string).toArray 9))):=zAl _ _
 have S0:Hid ((w.alloc (.cells ((W s).map Value.string).toArray 9)).heap.size=w.heap.size+1):=by show _=_;simp
 clear hT hP hX hm
 go_enter func108,ntmps108
 go_wp2_with (go_at_call 103;refine cs.mono ?_;rintro e w1 ⟨rfl,rfl⟩)
 generalize w.alloc (.cells ((W s).map Value.string).toArray 9)=W1 at CE B0 S0 |-
 generalize W s=ws at *
 go_loopw [4,10] (fun x y wr=>∃ (k:Nat) (ao:Option Addr) (cap:Nat),k<=ws.length/\x=.slice ao k cap/\y=.int .i64 (k:Int)/\Hid (wr.ownsRow W1.heap.size 111 3 (.slice ao k cap) k (cellsOf ((ws.take k).map nodeI)))/\Hid (Below W1.heap.size W1 wr)) (fun _ y _=>ws.length-intV y)
 case atStart=>exact ⟨0,none,0,Nat.zero_le _,rfl,rfl,World.ownsRow_nil _ _ _ _,Below.refl _ _⟩
 case round =>
  obtain ⟨k,ao,cap,hk,rfl,rfl,hown,hbel⟩:=hrel
  have BW1:Hid (Below w.heap.size w wr):=B0.out.trans (hbel.out.mono (by rw [S0.out];omega))
  by_cases hlt:k<ws.length
  ·have c0:wr.cell? ⟨w.heap.size,k,none⟩=some (.string ws[k]):=(hbel.out.cell (p:=⟨w.heap.size,k,none⟩) (by show w.heap.size<_;rw [S0.out];omega)).trans (CE.out k hlt)
   have zx:=HZ.out _ (List.getElem_mem hlt)
   have cn:=nodeOf_any ws[k] wr (by omega) (HT.out.1.below BW1.out) (HT.out.2.1.below BW1.out) (tab_below HT.out.2.2 BW1.out)
   have HL:Hid (∀ x,nodeI ws[k]=x->cellsOf ((ws.take (k+1)).map nodeI)=cellsOf ((ws.take k).map nodeI) ++ [.int .i64 x.1,.int .i64 x.2.1,.string x.2.2]):=fun x hx=>by
    rw [List.take_add_one,List.getElem?_eq_getElem hlt,List.map_append,cells_app]
    show _ ++ cellsOf [nodeI ws[k]]=_
    rw [hx];rfl
   generalize hN:nodeI ws[k]=N at cn HL
   have HN:Hid (nodeI ws[k]=N):=hN
   clear hN
   generalize ws[k]=X at *
   obtain ⟨nk,nn,ns⟩:=N
   have HC:=(show Hid _ from HL.out _ rfl)
   clear HL HN
   unfold nodeV at cn
   dsimp only at cn
   have k0:(0:Int)<=(k:Int):=by omega
   have k1:(k:Int)<(ws.length:Int):=by omega
   generalize cellsOf ((ws.take k).map nodeI)=cl at *
   have own1:Hid (∀ W o,Below wr.heap.size wr W->(W.alloc o).ownsRow W1.heap.size 111 3 (.slice ao k cap) k cl):=fun W o hb=>(own_belowG hown.out hb).alloc o
   go_wp2_with (first|(go_at_call 138;refine cn.mono ?_;rintro e w2 ⟨rfl,b2⟩;have B2:Hid (Below wr.heap.size wr w2):=b2;clear b2)|(at_builtin;refine wpList_append_own _ rfl _ _ 53 rfl W1.heap.size 111 i0 (.agg #[.int .i64 0,.int .i64 0,.string ⟨#[]⟩]) 3 32 underlying53 hi hz0 hz1 hz2 rfl (by decide) (.slice ao k cap) k cl rfl (own1.out _ _ B2.out) ⟨w2.heap.size,0,none⟩ 1 1 [.int .i64 nk,.int .i64 nn,.string ns] rfl rfl ?c1 ?c2 ?c3 ?c4 ?c5 ?_)|fail)
   case c1 =>
    intro j u hj
    match j,hj with
    | 0,hj=>simp at hj;subst hj;show World.cell? _ ⟨w2.heap.size,0,none⟩=_;rw [World.cell?_alloc_new];rfl
    | 1,hj=>simp at hj;subst hj;show World.cell? _ ⟨w2.heap.size,1,none⟩=_;rw [World.cell?_alloc_new];rfl
    | 2,hj=>simp at hj;subst hj;show World.cell? _ ⟨w2.heap.size,2,none⟩=_;rw [World.cell?_alloc_new];rfl
   case c2=>intro u hu;simp at hu;rcases hu with rfl|rfl|rfl <;> rfl
   case c3=>unfold maxLen;omega
   case c4=>omega
   case c5=>simp;have:=hbel.out.size;have:=B2.out.size;omega
   intro v' w3 hown' hgrow _
   have OW:Hid (w3.ownsRow W1.heap.size 111 3 v' (k+1) (cellsOf ((ws.take (k+1)).map nodeI))):=by
    show World.ownsRow _ _ _ _ _ _ _
    rw [HC.out];exact hown'
   have BB:Below W1.heap.size W1 w2:=hbel.out.trans (B2.out.mono hbel.out.size)
   have BW:Hid (Below W1.heap.size W1 w3):=(BB.alloc BB.size _).grown hgrow (by have:=BB.size;simp;omega) (fun k hk=>((own1.out w2 (.cells #[] 0) B2.out).lt k hk).1)
   obtain ⟨ao',cap',rfl⟩ : ∃ ao' cap',v'=.slice ao' (k+1) cap':=by
    rcases hown'.2 with ⟨_,h⟩|⟨g,c,cur,hv,_⟩
    ·omega
    ·exact ⟨_,_,hv⟩
   clear hown' hgrow own1 hown hbel cn BB
   go_wp2_with fail
   go_roundw
   case rel=>exact ⟨k+1,ao',cap',by omega,rfl,by first|go_num|(congr 1;omega)|rfl,OW.out,BW.out⟩
   case measure=>simp [intV];omega
  ·have e:k=ws.length:=by omega
   subst e
   have hl:(ws.map nodeI).length=ws.length:=List.length_map ..
   have OW:Hid (Nodm.Own wr W1.heap.size (.slice ao ws.length cap) (ws.map nodeI)):=by
    have h:=hown.out
    rw [List.take_length] at h
    show World.ownsRow _ _ _ _ _ _ _
    rw [hl];exact h
   have SM:Hid (∀ x ∈ ws.map nodeI,x.2.2.size<=1048576):=fun x hx=>by
    obtain ⟨y,hy,rfl⟩:=List.mem_map.1 hx
    have:=nodeI_sz y
    have:=HZ.out y hy
    omega
   have co:=implOk_all ao cap (ws.map nodeI) wr (nodes_own OW.out SM.out) (by rw [hl];omega)
   rw [hl] at co
   have H30:Hid (exprB (ws.map nodeI)=true->ws.length<=801):=fun h=>by
    unfold Stepx.exprB at h
    have:=of_decide_eq_true (Bool.and_eq_true_iff.1 h).1
    rw [hl] at this
    omega
   have HL:Hid ((ws.map nodeI).length=ws.length):=hl
   clear hl hown
   cases hx:exprB (ws.map nodeI) with
   | true =>
    rw [hx] at co
    have HO2:Hid (outI s=some (ws.map nodeI)):=HO.out.1 hx
    have h801:=H30.out hx
    clear hx
    go_wp2_with (go_at_call 36;refine co.mono ?_;rintro e w4 ⟨rfl,b4⟩;have B4:Hid (Below w.heap.size w w4/\Nodm.Own w4 w.heap.size (.slice ao ws.length cap) (ws.map nodeI)):=⟨BW1.out.trans (b4.mono BW1.out.size),own_mono (by rw [S0.out];omega) (Nodm.own_below OW.out b4)⟩;clear b4)
    go_ret2
    have hf:=left_some (ao:=ao) (cap:=cap) HO2.out (by rw [HL.out];exact B4.out.2) SM.out (by rw [HL.out];exact h801) B4.out.1
    rw [HL.out] at hf
    exact hf
   | false =>
    rw [hx] at co
    have HO2:Hid (outI s=none):=HO.out.2 hx
    clear hx
    go_wp2_with (go_at_call 36;refine co.mono ?_;rintro e w4 ⟨rfl,b4⟩;have B4:Hid (Below w.heap.size w w4):=BW1.out.trans (b4.mono BW1.out.size);clear b4)
    go_ret2
    exact left_none HO2.out B4.out
end Wort
namespace Otxb
open Go.Deep
open Optx (decW Pow)
open Lib (byteCells strCells)
open Bld (Holds)
open Otxa
theorem own_below {w w1:World} {base:Nat} {e:TypeId} {size:Nat} {v:Value} {n:Nat} {xs:List Value} (h:w.ownsRow base e size v n xs) (hb:Below w.heap.size w w1):w1.ownsRow base e size v n xs :=
 h.kept (row:=none) ⟨hb.os,hb.tape,hb.output,hb.size,fun k hk _=>hb.block k hk⟩ (by cases hv:Value.ownBlock v <;> simp)
theorem tab_bd:∀ i:Fin 16,0<=Nums.tab.getD i.val 0/\Nums.tab.getD i.val 0<=255:=by decide
theorem two_cells (c:UInt8):byteCells (two c)=[.int .u8 (Nums.tab.getD (c.toNat / 16) 0),.int .u8 (Nums.tab.getD (c.toNat%16) 0)]:=by
 have h1:=tab_bd ⟨c.toNat / 16,by have:=c.toNat_lt;omega⟩
 have h2:=tab_bd ⟨c.toNat%16,by omega⟩
 simp only at h1 h2
 unfold byteCells two
 simp only [List.map_cons,List.map_nil]
 have e:∀ x:Int,0<=x->x<=255->(((UInt8.ofNat x.toNat).toNat:Nat):Int)=x:=fun x a b=>by simp;omega
 rw [e _ h1.1 h1.2,e _ h2.1 h2.2]
theorem digits_any (s:ByteArray) (w:World) (hT:Nums.Tab w) (hs:s.size<=1048576) :
  Calls prog 58 #[.string s] w fun e w'=>e=.returned (.string (hexA s))/\Below w.heap.size w w':=by
 obtain ⟨i0,hi,hz0,hz1,hz2⟩:=info_parts Obuf.info5
 have HT:Hid (Nums.Tab w):=hT
 have HG:Hid (0<w.heap.size):=Hex.size_pos hT
 clear hT
 go_enter func58,ntmps58
 go_wp2
 go_loopw [3,7] (fun v i wr=>∃ k:Nat,k<=s.size/\i=.int .i64 (k:Int)/\Hid (wr.ownsRow w.heap.size 5 1 v (hexT s k).length (byteCells (hexT s k)))/\Hid (Below w.heap.size w wr)) (fun _ i _=>s.size-(intOf i).toNat)
 case atStart=>exact ⟨0,Nat.zero_le _,rfl,World.ownsRow_nil _ _ _ _,Below.refl _ _⟩
 case round =>
  obtain ⟨k,hk,rfl,hown,hbel⟩:=hrel
  by_cases hlt:k<s.size
  ·have hb:=(s[k]'hlt).toNat_lt
   have hix:∀ w,(Instr.index 9 (.string s) (.int .i64 (k:Int))).run prog w=.ok (.int .u8 ((s[k]'hlt).toNat:Int)) w:=fun w=>by
    rw [run_index_string w 9 s .i64 (k:Int) underlying9,dif_pos ⟨by omega,by omega⟩]
    rfl
   have HN:Hid (byteCells (hexT s (k+1))=byteCells (hexT s k) ++ [.int .u8 (Nums.tab.getD ((s[k]'hlt).toNat / 16) 0),.int .u8 (Nums.tab.getD ((s[k]'hlt).toNat%16) 0)]):=(show _=_ from by
    rw [hexT_step hlt,<- two_cells];unfold byteCells;rw [List.map_append])
   have hl:=hexT_len (s:=s) (k:=k) hk
   have hl1:=hexT_len (s:=s) (k:=k+1) (by omega)
   generalize (s[k]'hlt).toNat=c at hb hix HN
   have t0:wr.cell? ⟨0,c / 16,none⟩=some (.int .u8 (Nums.tab.getD (c / 16) 0)):=(hbel.out.cell (p:=⟨_,_,none⟩) HG.out).trans (HT.out (c / 16) (by omega))
   have t1:wr.cell? ⟨0,c%16,none⟩=some (.int .u8 (Nums.tab.getD (c%16) 0)):=(hbel.out.cell (p:=⟨_,_,none⟩) HG.out).trans (HT.out (c%16) (by omega))
   generalize Nums.tab.getD (c / 16) 0=x0 at t0 HN
   generalize Nums.tab.getD (c%16) 0=x1 at t1 HN
   have r0:=cell_regrown t0
   have r1:=cell_regrown t1
   have dk:IntKind.i64.wrap ((k:Int)+1)=((k+1:Nat):Int):=by rw [IntKind.wrap_i64];omega
   have d0:(c:Int).tdiv 16=((c / 16:Nat):Int):=by rw [Int.tdiv_eq_ediv_of_nonneg (by omega)];omega
   have d1:(c:Int).tmod 16=((c%16:Nat):Int):=by rw [Int.tmod_eq_emod_of_nonneg (by omega)];omega
   have d2:IntKind.u8.wrap ((c / 16:Nat):Int)=((c / 16:Nat):Int):=by rw [IntKind.wrap_u8];omega
   have d3:IntKind.u8.wrap ((c%16:Nat):Int)=((c%16:Nat):Int):=by rw [IntKind.wrap_u8];omega
   have e0:(0:Int)<=((c / 16:Nat):Int):=by omega
   have e1:((c / 16:Nat):Int)<16:=by omega
   have e2:(0:Int)<=((c%16:Nat):Int):=by omega
   have e3:((c%16:Nat):Int)<16:=by omega
   generalize c / 16=ca at t0 r0 d0 d2 e0 e1
   generalize c%16=cm at t1 r1 d1 d3 e2 e3
   go_upto_region 5 with fail
   refine Qmov.tail_move 0 13 (by kernel_rfl) (by kernel_rfl) (fun _ _ _ _ _ h=>h) ?_
   simp only [List.take_succ_cons,List.take_zero,List.drop_succ_cons,List.drop_zero]
   repeat (go_big_quiet_step (first|fail))
   refine wpQuiet_nil ?_
   intro _ hw'
   obtain ⟨⟨dq,osq⟩,hw''⟩:=hw'
   subst hw''
   have own1:Hid ((Go.Sort.grow (redrawn wr dq) osq).ownsRow w.heap.size 5 1 u3 (hexT s k).length (byteCells (hexT s k))):=own_below hown.out (below_regrown wr dq osq)
   have bel1:Hid (Below w.heap.size w (Go.Sort.grow (redrawn wr dq) osq)):=after hbel.out (below_regrown wr dq osq)
   generalize Go.Sort.grow (redrawn wr dq) osq=W1 at own1 bel1 |-
   clear hown hbel r0 r1 t0 t1
   have hlt2:=own1.out.lt
   go_wp2_with (first|(at_builtin;refine wpList_append_own _ rfl (.tmp 10) (.tmp 23) 22 rfl w.heap.size 5 i0 (.int .u8 0) 1 1 underlying22 hi hz0 hz1 hz2 rfl (by decide) _ _ _ rfl (own1.out.alloc _) ⟨W1.heap.size,0,none⟩ 2 2 [.int .u8 x0,.int .u8 x1] rfl rfl (fun j u hu=>by rw [Addr.add_lit,Nat.zero_add,World.cell?_alloc_new];simpa using hu) (by intro u hu;simp at hu;rcases hu with rfl|rfl <;> rfl) (by unfold maxLen;omega) (by omega) (by have:=bel1.out.size;simp;omega) ?_;intro v' w9 hown' hgrow _)|fail)
   have own9:Hid (w9.ownsRow w.heap.size 5 1 v' (hexT s (k+1)).length (byteCells (hexT s (k+1)))):=by
    show w9.ownsRow w.heap.size 5 1 v' (hexT s (k+1)).length (byteCells (hexT s (k+1)))
    rw [HN.out,hl1,show 2*(k+1)=2*k+2 by omega,<- hl];exact hown'
   have bel9:Hid (Below w.heap.size w w9):=(bel1.out.alloc bel1.out.size _).grown hgrow (by have:=bel1.out.size;simp;omega) (fun j hj=>(hlt2 j hj).1)
   clear hown' hgrow hlt2 own1 bel1
   go_wp2
   go_roundw
   case rel=>exact ⟨k+1,by omega,by go_num,own9.out,bel9.out⟩
   case measure=>simp [intOf];omega
  ·have e:k=s.size:=by omega
   subst e
   have hcv:=Obuf.str_own (W:=wr) (l:=hexT s s.size) hown.out
   have HA:Hid (hexA s=⟨(hexT s s.size).toArray⟩):=(show _=_ from by rw [hexT_all];rfl)
   generalize (⟨(hexT s s.size).toArray⟩ : ByteArray)=R at hcv HA
   clear hown
   go_wp2
   go_ret
   exact ⟨ret_str HA.out,hbel.out⟩
end Otxb
end Go.Proofs.YtepafieckjnkdaaGreatDoor
