/-
  Contracts and facts of ours, joined: CartU, Outs, Mach, MachT, CartS.
-/
import Derived.Test.YtkfehdkjeodbmaaGreatDoorP01
import Derived.Test.YtkfehdkjeodbmaaGreatDoorP00
import Derived.Laws.IdiomStrings
import Derived.Laws.OwnMore
import Derived.Deep.Strs
import Derived.Deep.RegionWith
import Derived.Deep.Cut
import Derived.Laws.Tables
import Derived.Laws.Rows
set_option linter.unusedVariables false
set_option linter.unusedSimpArgs false
set_option maxRecDepth 20000
set_option maxHeartbeats 8000000
open Go.ChangeShapes Go.WideShapes Go.ChangeAt Go.RowKit
open Go.Proofs.Tryz
namespace Go.Proofs.YtkfehdkjeodbmaaGreatDoor.CartU
open Go.Deep
open Signed (inB ret_int ret_bool isByte_any l1In_any)
open Carts CartK CartL CartM CartP CartR CartW CartV CartX CartY
theorem fin1 {rom:ByteArray} {kind b b':Int} {m m':ByteArray} {r r':Int} {o o':Bool} {d d':Int} {e:Ending} (hb:b=b') (hm:m=m') (hr:r=r') (ho:o=o') (hd:d=d')
  (k:e=.returned (.agg #[.string rom,.int .i64 kind,.int .i64 b,.string m,.int .i64 r,.bool o,.int .i64 d])) :
  e=.returned (.agg #[.string rom,.int .i64 kind,.int .i64 b',.string m',.int .i64 r',.bool o',.int .i64 d']):=by
 subst hb hm hr ho hd
 exact k
theorem bel {w w':World} (h:(∃ o1 o2,w'=((w.alloc o1).alloc o2)) \/ (∃ o1 o2 o3,w'=(((w.alloc o1).alloc o2).alloc o3)) \/ (∃ o1 o2 o3 o4,w'=((((w.alloc o1).alloc o2).alloc o3).alloc o4)) \/ (∃ o1 o2 o3 o4 o5 o6,w'=((((((w.alloc o1).alloc o2).alloc o3).alloc o4).alloc o5).alloc o6)) \/ (∃ o1 o2 o3 o4 o5 o6 o7 o8,w'=((((((((w.alloc o1).alloc o2).alloc o3).alloc o4).alloc o5).alloc o6).alloc o7).alloc o8)) \/ (∃ o1 o2 o3 o4 o5,w'=((((w.alloc o1).alloc o2).alloc o3).alloc o4).drew.alloc o5) \/ (∃ o1 o2 o3 o4,w'=((((w.alloc o1).alloc o2).alloc o3).alloc o4).drew.drew)):Below w.heap.size w w':=by
 rcases h with h|h|h|h|h|h|h
 ·obtain ⟨_,_,rfl⟩:=h;exact (by repeat (with_reducible first|exact zRf|refine zGr ?_ _|refine below_drewN ?_ _|refine Below.drew ?_))
 ·obtain ⟨_,_,_,rfl⟩:=h;exact (by repeat (with_reducible first|exact zRf|refine zGr ?_ _|refine below_drewN ?_ _|refine Below.drew ?_))
 ·obtain ⟨_,_,_,_,rfl⟩:=h;exact (by repeat (with_reducible first|exact zRf|refine zGr ?_ _|refine below_drewN ?_ _|refine Below.drew ?_))
 ·obtain ⟨_,_,_,_,_,_,rfl⟩:=h;exact (by repeat (with_reducible first|exact zRf|refine zGr ?_ _|refine below_drewN ?_ _|refine Below.drew ?_))
 ·obtain ⟨_,_,_,_,_,_,_,_,rfl⟩:=h;exact (by repeat (with_reducible first|exact zRf|refine zGr ?_ _|refine below_drewN ?_ _|refine Below.drew ?_))
 ·obtain ⟨_,_,_,_,_,rfl⟩:=h;exact (by repeat (with_reducible first|exact zRf|refine zGr ?_ _|refine below_drewN ?_ _|refine Below.drew ?_))
 ·obtain ⟨_,_,_,_,rfl⟩:=h;exact (by repeat (with_reducible first|exact zRf|refine zGr ?_ _|refine below_drewN ?_ _|refine Below.drew ?_))
theorem written_right (rom:ByteArray) (kind bank:Int) (ram:ByteArray) (rb:Int) (on:Bool) (mode:Int) (addr v:Int) (w:World) (hs:rom.size<=maxLen) (hr:ram.size<=maxLen) (h:okB rom kind bank ram rb on mode=true) (hw:inB addr 0 65535=true) (hb:inB v 0 255=true) :
  Calls prog 212 #[.agg #[.string rom,.int .i64 kind,.int .i64 bank,.string ram,.int .i64 rb,.bool on,.int .i64 mode],.int .i64 addr,.int .i64 v] w fun e w'=>e=.returned (wrote rom kind bank ram rb on mode addr v)/\Below w.heap.size w w':=by
 obtain ⟨n,n0,n1,hn,hbk,hm,b0,b1,r0,r1,m0,m1,hk⟩:=right rom kind bank ram rb on mode h
 obtain ⟨a0,a1⟩:=of_decide_eq_true hw
 obtain ⟨v0,v1⟩:=of_decide_eq_true hb
 unfold wrote
 by_cases big:512<=addr
 ·by_cases hyes:on=true/\40960<=addr/\addr<41024
  ·obtain ⟨rfl,y0,y1⟩:=hyes
   have hk':kind=1 \/ kind=2:=by
    rcases hk with hk|hk|hk
    ·exact absurd hk.2 (by decide)
    ·exact .inl hk
    ·exact .inr hk.1
   exact (written_yes rom kind bank ram rb mode addr v _ w v0 v1 hm r0 r1 m0 m1 hk' y0 y1 rfl).mono (fun e w' k=>⟨fin1 (by unfold wBank;rw [if_neg (by omega)]) (by unfold wRam;rw [if_pos (by omega),if_pos rfl]) (by unfold wRb;rw [if_neg (by omega)]) (by unfold wOn;rw [if_neg (by omega)]) (by unfold wMode;rw [if_neg (by omega)]) k.1,bel (by first|exact .inl k.2|exact .inr (.inl k.2)|exact .inr (.inr (.inl k.2))|exact .inr (.inr (.inr (.inl k.2)))|exact .inr (.inr (.inr (.inr (.inl k.2))))|exact .inr (.inr (.inr (.inr (.inr (.inl k.2)))))|exact .inr (.inr (.inr (.inr (.inr (.inr k.2))))))⟩)
  ·have hno:on=false \/ addr<40960 \/ 41024<=addr:=by cases on <;> simp at hyes |-;omega
   exact (written_no rom kind bank ram rb on mode addr v w v0 v1 big hno).mono (fun e w' k=>⟨fin1 (by unfold wBank;rw [if_neg (by omega)]) (by unfold wRam;rcases hno with h|h|h;(split;rw [if_neg (by simp [h])];rfl);rw [if_neg (by omega)];rw [if_neg (by omega)]) (by unfold wRb;rw [if_neg (by omega)]) (by unfold wOn;rw [if_neg (by omega)]) (by unfold wMode;rw [if_neg (by omega)]) k.1,bel (by first|exact .inl k.2|exact .inr (.inl k.2)|exact .inr (.inr (.inl k.2))|exact .inr (.inr (.inr (.inl k.2)))|exact .inr (.inr (.inr (.inr (.inl k.2))))|exact .inr (.inr (.inr (.inr (.inr (.inl k.2)))))|exact .inr (.inr (.inr (.inr (.inr (.inr k.2))))))⟩)
 ·rcases hk with ⟨rfl,hon⟩|rfl|⟨rfl,hmode⟩
  ·exact (written_0 rom bank ram rb on mode addr v w v0 v1 a0 (by omega)).mono (fun e w' k=>⟨fin1 (by unfold wBank;split;rw [if_neg (by omega),if_neg (by omega)];rfl) (by unfold wRam;rw [if_neg (by omega)]) (by unfold wRb;rw [if_neg (by omega)]) (by unfold wOn;rw [if_neg (by omega)]) (by unfold wMode;rw [if_neg (by omega)]) k.1,bel (by first|exact .inl k.2|exact .inr (.inl k.2)|exact .inr (.inr (.inl k.2))|exact .inr (.inr (.inr (.inl k.2)))|exact .inr (.inr (.inr (.inr (.inl k.2))))|exact .inr (.inr (.inr (.inr (.inr (.inl k.2)))))|exact .inr (.inr (.inr (.inr (.inr (.inr k.2))))))⟩)
  ·have q:addr<128 \/ (128<=addr/\addr<256) \/ (256<=addr/\addr<384) \/ (384<=addr/\addr<512):=by omega
   rcases q with q|q|q|q
   ·exact (written_10 rom bank ram rb on mode addr v w v0 v1 a0 q).mono (fun e w' k=>⟨fin1 (by unfold wBank;rw [if_neg (by omega)]) (by unfold wRam;rw [if_neg (by omega)]) (by unfold wRb;rw [if_neg (by omega)]) (by unfold wOn;rw [if_pos (by omega)]) (by unfold wMode;rw [if_neg (by omega)]) k.1,bel (by first|exact .inl k.2|exact .inr (.inl k.2)|exact .inr (.inr (.inl k.2))|exact .inr (.inr (.inr (.inl k.2)))|exact .inr (.inr (.inr (.inr (.inl k.2))))|exact .inr (.inr (.inr (.inr (.inr (.inl k.2)))))|exact .inr (.inr (.inr (.inr (.inr (.inr k.2))))))⟩)
   ·exact (written_11 rom bank ram rb on mode addr v w v0 v1 q.1 q.2).mono (fun e w' k=>⟨fin1 (by unfold wBank;rw [if_pos (by omega),if_pos rfl]) (by unfold wRam;rw [if_neg (by omega)]) (by unfold wRb;rw [if_neg (by omega)]) (by unfold wOn;rw [if_neg (by omega)]) (by unfold wMode;rw [if_neg (by omega)]) k.1,bel (by first|exact .inl k.2|exact .inr (.inl k.2)|exact .inr (.inr (.inl k.2))|exact .inr (.inr (.inr (.inl k.2)))|exact .inr (.inr (.inr (.inr (.inl k.2))))|exact .inr (.inr (.inr (.inr (.inr (.inl k.2)))))|exact .inr (.inr (.inr (.inr (.inr (.inr k.2))))))⟩)
   ·exact (written_12 rom bank ram rb on mode addr v w v0 v1 q.1 q.2).mono (fun e w' k=>⟨fin1 (by unfold wBank;rw [if_neg (by omega)]) (by unfold wRam;rw [if_neg (by omega)]) (by unfold wRb;rw [if_pos (by omega)]) (by unfold wOn;rw [if_neg (by omega)]) (by unfold wMode;rw [if_neg (by omega)]) k.1,bel (by first|exact .inl k.2|exact .inr (.inl k.2)|exact .inr (.inr (.inl k.2))|exact .inr (.inr (.inr (.inl k.2)))|exact .inr (.inr (.inr (.inr (.inl k.2))))|exact .inr (.inr (.inr (.inr (.inr (.inl k.2)))))|exact .inr (.inr (.inr (.inr (.inr (.inr k.2))))))⟩)
   ·exact (written_13 rom bank ram rb on mode addr v w v0 v1 q.1 q.2).mono (fun e w' k=>⟨fin1 (by unfold wBank;rw [if_neg (by omega)]) (by unfold wRam;rw [if_neg (by omega)]) (by unfold wRb;rw [if_neg (by omega)]) (by unfold wOn;rw [if_neg (by omega)]) (by unfold wMode;rw [if_pos (by omega)]) k.1,bel (by first|exact .inl k.2|exact .inr (.inl k.2)|exact .inr (.inr (.inl k.2))|exact .inr (.inr (.inr (.inl k.2)))|exact .inr (.inr (.inr (.inr (.inl k.2))))|exact .inr (.inr (.inr (.inr (.inr (.inl k.2)))))|exact .inr (.inr (.inr (.inr (.inr (.inr k.2))))))⟩)
  ·have q:addr<128 \/ (128<=addr/\addr<256) \/ (256<=addr/\addr<384) \/ (384<=addr/\addr<512):=by omega
   rcases q with q|q|q|q
   ·exact (written_20 rom bank ram rb on mode addr v w v0 v1 a0 q).mono (fun e w' k=>⟨fin1 (by unfold wBank;rw [if_neg (by omega)]) (by unfold wRam;rw [if_neg (by omega)]) (by unfold wRb;rw [if_neg (by omega)]) (by unfold wOn;rw [if_pos (by omega)]) (by unfold wMode;rw [if_neg (by omega)]) k.1,bel (by first|exact .inl k.2|exact .inr (.inl k.2)|exact .inr (.inr (.inl k.2))|exact .inr (.inr (.inr (.inl k.2)))|exact .inr (.inr (.inr (.inr (.inl k.2))))|exact .inr (.inr (.inr (.inr (.inr (.inl k.2)))))|exact .inr (.inr (.inr (.inr (.inr (.inr k.2))))))⟩)
   ·exact (written_21 rom bank ram rb on mode addr v w v0 v1 q.1 q.2).mono (fun e w' k=>⟨fin1 (by unfold wBank;rw [if_pos (by omega),if_neg (by omega),if_pos rfl]) (by unfold wRam;rw [if_neg (by omega)]) (by unfold wRb;rw [if_neg (by omega)]) (by unfold wOn;rw [if_neg (by omega)]) (by unfold wMode;rw [if_neg (by omega)]) k.1,bel (by first|exact .inl k.2|exact .inr (.inl k.2)|exact .inr (.inr (.inl k.2))|exact .inr (.inr (.inr (.inl k.2)))|exact .inr (.inr (.inr (.inr (.inl k.2))))|exact .inr (.inr (.inr (.inr (.inr (.inl k.2)))))|exact .inr (.inr (.inr (.inr (.inr (.inr k.2))))))⟩)
   ·exact (written_22 rom bank ram rb on mode addr v w v0 v1 q.1 q.2).mono (fun e w' k=>⟨fin1 (by unfold wBank;rw [if_neg (by omega)]) (by unfold wRam;rw [if_neg (by omega)]) (by unfold wRb;rw [if_pos (by omega)]) (by unfold wOn;rw [if_neg (by omega)]) (by unfold wMode;rw [if_neg (by omega)]) k.1,bel (by first|exact .inl k.2|exact .inr (.inl k.2)|exact .inr (.inr (.inl k.2))|exact .inr (.inr (.inr (.inl k.2)))|exact .inr (.inr (.inr (.inr (.inl k.2))))|exact .inr (.inr (.inr (.inr (.inr (.inl k.2)))))|exact .inr (.inr (.inr (.inr (.inr (.inr k.2))))))⟩)
   ·exact (written_23 rom bank ram rb on mode addr v w v0 v1 q.1 q.2).mono (fun e w' k=>⟨fin1 (by unfold wBank;rw [if_neg (by omega)]) (by unfold wRam;rw [if_neg (by omega)]) (by unfold wRb;rw [if_neg (by omega)]) (by unfold wOn;rw [if_neg (by omega)]) (by unfold wMode;rw [if_neg (by omega)]) k.1,bel (by first|exact .inl k.2|exact .inr (.inl k.2)|exact .inr (.inr (.inl k.2))|exact .inr (.inr (.inr (.inl k.2)))|exact .inr (.inr (.inr (.inr (.inl k.2))))|exact .inr (.inr (.inr (.inr (.inr (.inl k.2)))))|exact .inr (.inr (.inr (.inr (.inr (.inr k.2))))))⟩)
theorem swrite_right (rom:ByteArray) (kind bank:Int) (ram:ByteArray) (rb:Int) (on:Bool) (mode:Int) (addr v:Int) (w:World) (hs:rom.size<=maxLen) (hr:ram.size<=maxLen) (h:okB rom kind bank ram rb on mode=true) (hw:inB addr 0 65535=true) (hb:inB v 0 255=true) :
  Calls prog 177 #[.agg #[.string rom,.int .i64 kind,.int .i64 bank,.string ram,.int .i64 rb,.bool on,.int .i64 mode],.int .i64 addr,.int .i64 v] w fun e w'=>e=.returned (wrote rom kind bank ram rb on mode addr v)/\Below w.heap.size w w':=by
 obtain ⟨n,n0,n1,hn,hbk,hm,b0,b1,r0,r1,m0,m1,hk⟩:=right rom kind bank ram rb on mode h
 obtain ⟨a0,a1⟩:=of_decide_eq_true hw
 obtain ⟨v0,v1⟩:=of_decide_eq_true hb
 unfold wrote
 by_cases big:512<=addr
 ·by_cases hyes:on=true/\40960<=addr/\addr<41024
  ·obtain ⟨rfl,y0,y1⟩:=hyes
   have hk':kind=1 \/ kind=2:=by
    rcases hk with hk|hk|hk
    ·exact absurd hk.2 (by decide)
    ·exact .inl hk
    ·exact .inr hk.1
   rcases hk' with rfl|rfl
   ·exact (swrite_1yes rom bank ram rb mode addr v _ w v0 v1 hm r0 r1 y0 y1 rfl).mono (fun e w' k=>⟨fin1 (by unfold wBank;rw [if_neg (by omega)]) (by unfold wRam;rw [if_pos (by omega),if_pos rfl]) (by unfold wRb;rw [if_neg (by omega)]) (by unfold wOn;rw [if_neg (by omega)]) (by unfold wMode;rw [if_neg (by omega)]) k.1,bel (by first|exact .inl k.2|exact .inr (.inl k.2)|exact .inr (.inr (.inl k.2))|exact .inr (.inr (.inr (.inl k.2)))|exact .inr (.inr (.inr (.inr (.inl k.2))))|exact .inr (.inr (.inr (.inr (.inr (.inl k.2)))))|exact .inr (.inr (.inr (.inr (.inr (.inr k.2))))))⟩)
   ·exact (swrite_2yes rom bank ram rb mode addr v _ w v0 v1 hm r0 r1 y0 y1 rfl).mono (fun e w' k=>⟨fin1 (by unfold wBank;rw [if_neg (by omega)]) (by unfold wRam;rw [if_pos (by omega),if_pos rfl]) (by unfold wRb;rw [if_neg (by omega)]) (by unfold wOn;rw [if_neg (by omega)]) (by unfold wMode;rw [if_neg (by omega)]) k.1,bel (by first|exact .inl k.2|exact .inr (.inl k.2)|exact .inr (.inr (.inl k.2))|exact .inr (.inr (.inr (.inl k.2)))|exact .inr (.inr (.inr (.inr (.inl k.2))))|exact .inr (.inr (.inr (.inr (.inr (.inl k.2)))))|exact .inr (.inr (.inr (.inr (.inr (.inr k.2))))))⟩)
  ·have hno:on=false \/ addr<40960 \/ 41024<=addr:=by cases on <;> simp at hyes |-;omega
   rcases hk with ⟨rfl,hon⟩|rfl|⟨rfl,hmode⟩
   ·exact (swrite_0 rom bank ram rb on mode addr v w v0 v1).mono (fun e w' k=>⟨fin1 (by unfold wBank;rw [if_neg (by omega)]) (by unfold wRam;rcases hno with h|h|h;(split;rw [if_neg (by simp [h])];rfl);rw [if_neg (by omega)];rw [if_neg (by omega)]) (by unfold wRb;rw [if_neg (by omega)]) (by unfold wOn;rw [if_neg (by omega)]) (by unfold wMode;rw [if_neg (by omega)]) k.1,bel (by first|exact .inl k.2|exact .inr (.inl k.2)|exact .inr (.inr (.inl k.2))|exact .inr (.inr (.inr (.inl k.2)))|exact .inr (.inr (.inr (.inr (.inl k.2))))|exact .inr (.inr (.inr (.inr (.inr (.inl k.2)))))|exact .inr (.inr (.inr (.inr (.inr (.inr k.2))))))⟩)
   ·exact (swrite_1no rom bank ram rb on mode addr v w v0 v1 big hno).mono (fun e w' k=>⟨fin1 (by unfold wBank;rw [if_neg (by omega)]) (by unfold wRam;rcases hno with h|h|h;(split;rw [if_neg (by simp [h])];rfl);rw [if_neg (by omega)];rw [if_neg (by omega)]) (by unfold wRb;rw [if_neg (by omega)]) (by unfold wOn;rw [if_neg (by omega)]) (by unfold wMode;rw [if_neg (by omega)]) k.1,bel (by first|exact .inl k.2|exact .inr (.inl k.2)|exact .inr (.inr (.inl k.2))|exact .inr (.inr (.inr (.inl k.2)))|exact .inr (.inr (.inr (.inr (.inl k.2))))|exact .inr (.inr (.inr (.inr (.inr (.inl k.2)))))|exact .inr (.inr (.inr (.inr (.inr (.inr k.2))))))⟩)
   ·exact (swrite_2no rom bank ram rb on mode addr v w v0 v1 big hno).mono (fun e w' k=>⟨fin1 (by unfold wBank;rw [if_neg (by omega)]) (by unfold wRam;rcases hno with h|h|h;(split;rw [if_neg (by simp [h])];rfl);rw [if_neg (by omega)];rw [if_neg (by omega)]) (by unfold wRb;rw [if_neg (by omega)]) (by unfold wOn;rw [if_neg (by omega)]) (by unfold wMode;rw [if_neg (by omega)]) k.1,bel (by first|exact .inl k.2|exact .inr (.inl k.2)|exact .inr (.inr (.inl k.2))|exact .inr (.inr (.inr (.inl k.2)))|exact .inr (.inr (.inr (.inr (.inl k.2))))|exact .inr (.inr (.inr (.inr (.inr (.inl k.2)))))|exact .inr (.inr (.inr (.inr (.inr (.inr k.2))))))⟩)
 ·rcases hk with ⟨rfl,hon⟩|rfl|⟨rfl,hmode⟩
  ·exact (swrite_0 rom bank ram rb on mode addr v w v0 v1).mono (fun e w' k=>⟨fin1 (by unfold wBank;split;rw [if_neg (by omega),if_neg (by omega)];rfl) (by unfold wRam;rw [if_neg (by omega)]) (by unfold wRb;rw [if_neg (by omega)]) (by unfold wOn;rw [if_neg (by omega)]) (by unfold wMode;rw [if_neg (by omega)]) k.1,bel (by first|exact .inl k.2|exact .inr (.inl k.2)|exact .inr (.inr (.inl k.2))|exact .inr (.inr (.inr (.inl k.2)))|exact .inr (.inr (.inr (.inr (.inl k.2))))|exact .inr (.inr (.inr (.inr (.inr (.inl k.2)))))|exact .inr (.inr (.inr (.inr (.inr (.inr k.2))))))⟩)
  ·have q:addr<128 \/ (128<=addr/\addr<256) \/ (256<=addr/\addr<384) \/ (384<=addr/\addr<512):=by omega
   rcases q with q|q|q|q
   ·exact (swrite_10 rom bank ram rb on mode addr v w v0 v1 a0 q).mono (fun e w' k=>⟨fin1 (by unfold wBank;rw [if_neg (by omega)]) (by unfold wRam;rw [if_neg (by omega)]) (by unfold wRb;rw [if_neg (by omega)]) (by unfold wOn;rw [if_pos (by omega)]) (by unfold wMode;rw [if_neg (by omega)]) k.1,bel (by first|exact .inl k.2|exact .inr (.inl k.2)|exact .inr (.inr (.inl k.2))|exact .inr (.inr (.inr (.inl k.2)))|exact .inr (.inr (.inr (.inr (.inl k.2))))|exact .inr (.inr (.inr (.inr (.inr (.inl k.2)))))|exact .inr (.inr (.inr (.inr (.inr (.inr k.2))))))⟩)
   ·exact (swrite_11 rom bank ram rb on mode addr v w v0 v1 q.1 q.2).mono (fun e w' k=>⟨fin1 (by unfold wBank;rw [if_pos (by omega),if_pos rfl]) (by unfold wRam;rw [if_neg (by omega)]) (by unfold wRb;rw [if_neg (by omega)]) (by unfold wOn;rw [if_neg (by omega)]) (by unfold wMode;rw [if_neg (by omega)]) k.1,bel (by first|exact .inl k.2|exact .inr (.inl k.2)|exact .inr (.inr (.inl k.2))|exact .inr (.inr (.inr (.inl k.2)))|exact .inr (.inr (.inr (.inr (.inl k.2))))|exact .inr (.inr (.inr (.inr (.inr (.inl k.2)))))|exact .inr (.inr (.inr (.inr (.inr (.inr k.2))))))⟩)
   ·exact (swrite_12 rom bank ram rb on mode addr v w v0 v1 q.1 q.2).mono (fun e w' k=>⟨fin1 (by unfold wBank;rw [if_neg (by omega)]) (by unfold wRam;rw [if_neg (by omega)]) (by unfold wRb;rw [if_pos (by omega)]) (by unfold wOn;rw [if_neg (by omega)]) (by unfold wMode;rw [if_neg (by omega)]) k.1,bel (by first|exact .inl k.2|exact .inr (.inl k.2)|exact .inr (.inr (.inl k.2))|exact .inr (.inr (.inr (.inl k.2)))|exact .inr (.inr (.inr (.inr (.inl k.2))))|exact .inr (.inr (.inr (.inr (.inr (.inl k.2)))))|exact .inr (.inr (.inr (.inr (.inr (.inr k.2))))))⟩)
   ·exact (swrite_13 rom bank ram rb on mode addr v w v0 v1 q.1 q.2).mono (fun e w' k=>⟨fin1 (by unfold wBank;rw [if_neg (by omega)]) (by unfold wRam;rw [if_neg (by omega)]) (by unfold wRb;rw [if_neg (by omega)]) (by unfold wOn;rw [if_neg (by omega)]) (by unfold wMode;rw [if_pos (by omega)]) k.1,bel (by first|exact .inl k.2|exact .inr (.inl k.2)|exact .inr (.inr (.inl k.2))|exact .inr (.inr (.inr (.inl k.2)))|exact .inr (.inr (.inr (.inr (.inl k.2))))|exact .inr (.inr (.inr (.inr (.inr (.inl k.2)))))|exact .inr (.inr (.inr (.inr (.inr (.inr k.2))))))⟩)
  ·have q:addr<128 \/ (128<=addr/\addr<256) \/ (256<=addr/\addr<384) \/ (384<=addr/\addr<512):=by omega
   rcases q with q|q|q|q
   ·exact (swrite_20 rom bank ram rb on mode addr v w v0 v1 a0 q).mono (fun e w' k=>⟨fin1 (by unfold wBank;rw [if_neg (by omega)]) (by unfold wRam;rw [if_neg (by omega)]) (by unfold wRb;rw [if_neg (by omega)]) (by unfold wOn;rw [if_pos (by omega)]) (by unfold wMode;rw [if_neg (by omega)]) k.1,bel (by first|exact .inl k.2|exact .inr (.inl k.2)|exact .inr (.inr (.inl k.2))|exact .inr (.inr (.inr (.inl k.2)))|exact .inr (.inr (.inr (.inr (.inl k.2))))|exact .inr (.inr (.inr (.inr (.inr (.inl k.2)))))|exact .inr (.inr (.inr (.inr (.inr (.inr k.2))))))⟩)
   ·exact (swrite_21 rom bank ram rb on mode addr v w v0 v1 q.1 q.2).mono (fun e w' k=>⟨fin1 (by unfold wBank;rw [if_pos (by omega),if_neg (by omega),if_pos rfl]) (by unfold wRam;rw [if_neg (by omega)]) (by unfold wRb;rw [if_neg (by omega)]) (by unfold wOn;rw [if_neg (by omega)]) (by unfold wMode;rw [if_neg (by omega)]) k.1,bel (by first|exact .inl k.2|exact .inr (.inl k.2)|exact .inr (.inr (.inl k.2))|exact .inr (.inr (.inr (.inl k.2)))|exact .inr (.inr (.inr (.inr (.inl k.2))))|exact .inr (.inr (.inr (.inr (.inr (.inl k.2)))))|exact .inr (.inr (.inr (.inr (.inr (.inr k.2))))))⟩)
   ·exact (swrite_22 rom bank ram rb on mode addr v w v0 v1 q.1 q.2).mono (fun e w' k=>⟨fin1 (by unfold wBank;rw [if_neg (by omega)]) (by unfold wRam;rw [if_neg (by omega)]) (by unfold wRb;rw [if_pos (by omega)]) (by unfold wOn;rw [if_neg (by omega)]) (by unfold wMode;rw [if_neg (by omega)]) k.1,bel (by first|exact .inl k.2|exact .inr (.inl k.2)|exact .inr (.inr (.inl k.2))|exact .inr (.inr (.inr (.inl k.2)))|exact .inr (.inr (.inr (.inr (.inl k.2))))|exact .inr (.inr (.inr (.inr (.inr (.inl k.2)))))|exact .inr (.inr (.inr (.inr (.inr (.inr k.2))))))⟩)
   ·exact (swrite_23 rom bank ram rb on mode addr v w v0 v1 q.1 q.2).mono (fun e w' k=>⟨fin1 (by unfold wBank;rw [if_neg (by omega)]) (by unfold wRam;rw [if_neg (by omega)]) (by unfold wRb;rw [if_neg (by omega)]) (by unfold wOn;rw [if_neg (by omega)]) (by unfold wMode;rw [if_neg (by omega)]) k.1,bel (by first|exact .inl k.2|exact .inr (.inl k.2)|exact .inr (.inr (.inl k.2))|exact .inr (.inr (.inr (.inl k.2)))|exact .inr (.inr (.inr (.inr (.inl k.2))))|exact .inr (.inr (.inr (.inr (.inr (.inl k.2)))))|exact .inr (.inr (.inr (.inr (.inr (.inr k.2))))))⟩)
end Go.Proofs.YtkfehdkjeodbmaaGreatDoor.CartU
namespace Go.Proofs.YtkfehdkjeodbmaaGreatDoor.Outs
open Go.Deep
open Signed (inB ret_int ret_bool isByte_any l1In_any)
def Row (w:World) (a:Option Addr) (L:List Int):Prop:=L=[] \/ ∃ b off,a=some ⟨b,off,none⟩/\b<w.heap.size/\∀ i (h:i<L.length),w.cell? ⟨b,off+i,none⟩=some (.int .i64 L[i])
theorem Row.below {w w':World} {a:Option Addr} {L:List Int} (h:Row w a L) (hb:Below w.heap.size w w'):Row w' a L:=by
 rcases h with h|⟨b,off,ha,hl,hc⟩
 ·exact .inl h
 ·exact .inr ⟨b,off,ha,Nat.lt_of_lt_of_le hl hb.size,fun i hi=>(hb.cell (p:=⟨b,_,none⟩) hl).trans (hc i hi)⟩
theorem cells2:prog.cellsOf 2=1:=by kernel_rfl
theorem row_of {H:Type} {enc:TypeId × Value->H} {w:World} {base:Nat} {spare:Nat->Bool} {held:Bool} {fuel:Nat} {cs:List Value} {x:DataW H × List MemPlace}
  (h:DataW.trod enc prog w base spare held fuel 26 cs=some x):∃ a len cap L,cs=[.slice a len cap]/\L.length=len/\len<=maxLen/\Row w a L:=by
 rcases open_slice underlying26 h with ⟨rfl,_⟩|⟨a,len,cap,m,n,D,Pl,rfl,hb,hl,hm,hmm,rfl,hx⟩
 ·exact ⟨none,0,0,[],rfl,rfl,Nat.zero_le _,.inl rfl⟩
 have hlm:len<=m:=by rw [hmm];split <;> omega
 have each:∀ i,i<len->∃ q:Int,w.cell? (a.add i)=some (.int .i64 q):=by
  intro i hi
  obtain ⟨cs',h1,h2⟩:=hx i (by omega)
  rw [cells2] at h1
  obtain ⟨_,hlen,hcell⟩:=World.cells?_some h1
  match cs',hlen with
  | [v0],_ =>
   obtain ⟨n0,e0,_⟩:=DataW.trod_int underlying2 h2
   simp at e0
   subst e0
   have d0:=hcell 0 (by omega)
   rw [add_add] at d0
   exact ⟨n0,by simpa using d0⟩
 obtain ⟨q,hq⟩:=choose_lt each
 refine ⟨some a,len,cap,(List.range len).map q,rfl,by simp,by omega,?_⟩
 by_cases h0:len=0
 ·subst h0;exact .inl rfl
 obtain ⟨b,off,spot⟩:=a
 have c0:=hq 0 (by omega)
 have hspot:spot=none:=by simpa [Addr.add] using World.cell?_spot c0
 subst hspot
 have e:∀ i,(⟨b,off,none⟩ : Addr).add i=⟨b,off+i,none⟩:=fun i=>by unfold Addr.add;split <;> simp_all
 refine .inr ⟨b,off,rfl,World.block_lt_of_cell? w ⟨b,off,none⟩ (by simpa [Addr.add] using c0),fun i hi=>?_⟩
 have hi':i<len:=by simpa using hi
 have d0:=hq i hi'
 rw [e] at d0
 simpa using d0
theorem szInt64S_any (a:Option Addr) (cap n:Nat) (m:Int) (w:World) (h0:0<=m) (h1:m<=1048576) (hn:n<=maxLen) (q:Int) (hq:(if m-n<0 then -1 else m-n)=q) :
  Calls prog 22 #[.slice a n cap,.int .i64 m] w fun e w'=>e=.returned (.int .i64 q)/\w'=w:=by
 unfold maxLen at hn
 by_cases h:m-n<0
 ·rw [if_pos h] at hq
  subst hq
  go_enter func22,ntmps22
  go_wp2
  go_ret
  exact ⟨rfl,rfl⟩
 ·rw [if_neg h] at hq
  subst hq
  go_enter func22,ntmps22
  go_wp2
  go_ret
  exact ⟨rfl,rfl⟩
def rowA (L:List Int) (k:Nat):Array Value:=((L.take k).map (Value.int .i64) ++ List.replicate (L.length-k) (Value.int .i64 0)).toArray
def rowO (L:List Int):Obj:=.cells (rowA L L.length) 2
theorem rowA_zero (L:List Int):madeCells #[.int .i64 0] L.length=rowA L 0:=by
 apply Array.toList_inj.1
 rw [toList_madeCells_one]
 simp [rowA]
theorem rowA_get (L:List Int) (k:Nat) (h:k<L.length):(rowA L k)[k]? = some (.int .i64 0):=by
 unfold rowA
 rw [List.getElem?_toArray,List.getElem?_append_right (by simp;omega)]
 simp [Nat.min_eq_left (Nat.le_of_lt h)]
 rw [List.getElem?_replicate,if_pos (by omega)]
theorem rowA_step (L:List Int) (k:Nat) (h:k<L.length):(rowA L k).setIfInBounds k (.int .i64 L[k])=rowA L (k+1):=by
 apply Array.toList_inj.1
 unfold rowA
 rw [Array.toList_setIfInBounds]
 rw [List.set_append_right _ _ (by simp;omega)]
 have e1:L.length-k=(L.length-(k+1))+1:=by omega
 have e2:((L.take k).map (Value.int IntKind.i64)).length=k:=by simp [Nat.min_eq_left (Nat.le_of_lt h)]
 rw [e2,e1,List.replicate_succ,Nat.sub_self,List.set_cons_zero,List.take_succ_eq_append_getElem h,List.map_append,List.append_assoc]
 rfl
theorem rowA_full (L:List Int) (i:Nat) (h:i<L.length):(rowA L L.length)[i]? = some (.int .i64 L[i]):=by
 unfold rowA
 simp [h]
theorem infoI:(prog.info? 2).map (fun i=>(i.zero,i.size,i.bytes))=some (some (.int .i64 0),1,8):=by kernel_rfl
theorem toInt64S_any (a:Option Addr) (cap:Nat) (L:List Int) (w:World) (hN:Row w a L) (hlen:L.length<=1048576) :
  Calls prog 27 #[.slice a L.length cap] w fun e w'=>e=.returned (.slice (some ⟨w.heap.size,0,none⟩) L.length L.length)/\w'=w.alloc (rowO L):=by
 obtain ⟨i0,hi,hz0,hz1,hz2⟩:=info_parts infoI
 obtain ⟨len,hl⟩ : ∃ len,len=L.length:=⟨_,rfl⟩
 have HL:Hid (len=L.length):=hl
 rw [<- hl] at hlen |-
 have hmk:∀ u:World,(Instr.makeSlice 26 (.int .i64 (len:Int)) (.int .i64 (len:Int))).run prog u =
   .ok (.slice (some ⟨u.heap.size,0,none⟩) len len) (u.alloc (.cells (rowA L 0) 2)):=fun u=>by
  have h:=run_make (P:=prog) u 26 2 i0 (.int .i64 0) underlying26 hi hz0 .i64 .i64 (len:Int) (len:Int) (by omega) (Int.le_refl _) (by rw [hz2];omega) (by omega)
  rw [<- rowA_zero,<- hl]
  simpa [hz1,Value.cells] using h
 clear hz0 hz1 hz2 hi hl
 go_enter func27,ntmps27
 go_wp2
 go_loopw [4] (fun i wr=>∃ k:Nat,k<=len/\i=.int .i64 k/\Hid (wr=w.alloc (.cells (rowA L k) 2))) (fun i _=>len-(intOf i).toNat)
 case atStart=>exact ⟨0,Nat.zero_le _,rfl,rfl⟩
 case round =>
  obtain ⟨k,hk,rfl,hw⟩:=hrel
  by_cases hlt:k<len
  ·have hkL:k<L.length:=by have:=HL.out;omega
   rcases hN with hnil|⟨b,off,rfl,hb,hc⟩
   ·exfalso;rw [hnil] at hkL;exact absurd hkL (by simp)
   have c0:wr.cell? ⟨b,off+k,none⟩=some (.int .i64 L[k]):=by
    rw [hw.out,<- hc k hkL]
    exact ((Below.refl w.heap.size w).alloc (Nat.le_refl _) _).cell (p:=⟨b,_,none⟩) hb
   clear hc
   have S:Hid (wr.setCell ⟨w.heap.size,k,none⟩ (.int .i64 L[k])=w.alloc (.cells (rowA L (k+1)) 2)):=by
    have h:=World.setCell_alloc_new (w:=w) (rowA L k) 2 k (.int .i64 L[k])
    rw [rowA_step L k hkL] at h
    rw [hw.out]
    exact h
   have x0:wr.cell? ⟨w.heap.size,k,none⟩=some (.int .i64 0):=by rw [hw.out,World.cell?_alloc_new];exact rowA_get L k hkL
   have f0:wr.frozen? ⟨w.heap.size,k,none⟩=false:=by rw [hw.out];exact World.frozen?_alloc_at _ _ _ _ rfl
   generalize L[k]=n at c0 S
   go_wp2
   go_roundw
   case rel=>exact ⟨k+1,by omega,by go_num,S.out⟩
   case measure=>simp [intOf];omega
  ·clear hN
   have e:k=len:=by omega
   subst e
   go_wp2
   go_ret
   exact ⟨rfl,by rw [hw.out,HL.out];rfl⟩
theorem eqInt64S_any (a a':Option Addr) (cap cap':Nat) (L:List Int) (w:World) (hN:Row w a L) (hN':Row w a' L) (hlen:L.length<=1048576) :
  Calls prog 33 #[.slice a L.length cap,.slice a' L.length cap'] w fun e w'=>e=.returned (.bool true)/\∃ n,w'=w.drewN n:=by
 obtain ⟨len,hl⟩ : ∃ len,len=L.length:=⟨_,rfl⟩
 have HL:Hid (len=L.length):=hl
 rw [<- hl] at hlen |-
 clear hl
 go_enter func33,ntmps33
 go_wp2
 go_loopw [5] (fun i wr=>∃ k n:Nat,k<=len/\i=.int .i64 k/\wr=w.drewN n) (fun i _=>len-(intOf i).toNat)
 case atStart=>exact ⟨0,0,Nat.zero_le _,rfl,rfl⟩
 case round =>
  obtain ⟨k,n,hk,rfl,rfl⟩:=hrel
  by_cases hlt:k<len
  ·have hkL:k<L.length:=by have:=HL.out;omega
   rcases hN with hnil|⟨b,off,rfl,hb,hc⟩
   ·exfalso;rw [hnil] at hkL;exact absurd hkL (by simp)
   rcases hN' with hnil|⟨b',off',rfl,hb',hc'⟩
   ·exfalso;rw [hnil] at hkL;exact absurd hkL (by simp)
   have c0:w.cell? ⟨b,off+k,none⟩=some (.int .i64 L[k]):=hc k hkL
   have e0:w.cell? ⟨b',off'+k,none⟩=some (.int .i64 L[k]):=hc' k hkL
   clear hc hc'
   generalize L[k]=kd at c0 e0
   have k0:(0:Int)<=(k:Int):=by omega
   have k1:(k:Int)<(len:Int):=by omega
   go_wp2_with fail
   go_quiet (fail)
   go_wp2
   go_roundw
   case rel=>exact ⟨k+1,_,by omega,by go_num,rfl⟩
   case measure=>simp [intOf];omega
  ·clear hN hN'
   go_wp2
   go_ret
   exact ⟨rfl,n,rfl⟩
end Go.Proofs.YtkfehdkjeodbmaaGreatDoor.Outs
namespace Go.Proofs.YtkfehdkjeodbmaaGreatDoor.Mach
open Go.Deep
open Signed (inB ret_int ret_bool isByte_any l1In_any)
open CartL Outs
theorem toCpu_any (ra rf rB rC rD rE rH rL sp pc:Int) (ime hal:Bool) (w:World) :
  Calls prog 25 #[.agg #[.int .i64 ra,.int .i64 rf,.int .i64 rB,.int .i64 rC,.int .i64 rD,.int .i64 rE,.int .i64 rH,.int .i64 rL,.int .i64 sp,.int .i64 pc,.bool ime,.bool hal]] w fun e w'=>e=.returned (.agg #[.int .i64 ra,.int .i64 rf,.int .i64 rB,.int .i64 rC,.int .i64 rD,.int .i64 rE,.int .i64 rH,.int .i64 rL,.int .i64 sp,.int .i64 pc,.bool ime,.bool hal])/\w'=((w.alloc (.cells #[.int .i64 ra,.int .i64 rf,.int .i64 rB,.int .i64 rC,.int .i64 rD,.int .i64 rE,.int .i64 rH,.int .i64 rL,.int .i64 sp,.int .i64 pc,.bool ime,.bool hal] 23)).alloc (.cells #[.int .i64 ra,.int .i64 rf,.int .i64 rB,.int .i64 rC,.int .i64 rD,.int .i64 rE,.int .i64 rH,.int .i64 rL,.int .i64 sp,.int .i64 pc,.bool ime,.bool hal] 30)).alloc (.cells #[.int .i64 ra,.int .i64 rf,.int .i64 rB,.int .i64 rC,.int .i64 rD,.int .i64 rE,.int .i64 rH,.int .i64 rL,.int .i64 sp,.int .i64 pc,.bool ime,.bool hal] 30):=by
 go_enter func25,ntmps25
 go_wp2
 exact bodyPost_ret (v:=.agg #[.int .i64 ra,.int .i64 rf,.int .i64 rB,.int .i64 rC,.int .i64 rD,.int .i64 rE,.int .i64 rH,.int .i64 rL,.int .i64 sp,.int .i64 pc,.bool ime,.bool hal]) (by simp [results,results25,go_sem]) rfl ⟨rfl,rfl⟩
theorem eqCpu_any (ra rf rB rC rD rE rH rL sp pc:Int) (ime hal:Bool) (w:World) :
  Calls prog 31 #[.agg #[.int .i64 ra,.int .i64 rf,.int .i64 rB,.int .i64 rC,.int .i64 rD,.int .i64 rE,.int .i64 rH,.int .i64 rL,.int .i64 sp,.int .i64 pc,.bool ime,.bool hal],.agg #[.int .i64 ra,.int .i64 rf,.int .i64 rB,.int .i64 rC,.int .i64 rD,.int .i64 rE,.int .i64 rH,.int .i64 rL,.int .i64 sp,.int .i64 pc,.bool ime,.bool hal]] w fun e w'=>e=.returned (.bool true)/\w'=(w.alloc (.cells #[.int .i64 ra,.int .i64 rf,.int .i64 rB,.int .i64 rC,.int .i64 rD,.int .i64 rE,.int .i64 rH,.int .i64 rL,.int .i64 sp,.int .i64 pc,.bool ime,.bool hal] 30)).alloc (.cells #[.int .i64 ra,.int .i64 rf,.int .i64 rB,.int .i64 rC,.int .i64 rD,.int .i64 rE,.int .i64 rH,.int .i64 rL,.int .i64 sp,.int .i64 pc,.bool ime,.bool hal] 30):=by
 go_enter func31,ntmps31
 go_wp2
 go_ret
 exact ⟨rfl,rfl⟩
theorem szMachine_any (ra rf rB rC rD rE rH rL sp pc:Int) (ime hal:Bool) (rom:ByteArray) (kind bank:Int) (ram:ByteArray) (rb:Int) (on:Bool) (mode:Int) (work high:ByteArray) (po:Option Addr) (L:List Int) (cap:Nat) (cyc:Int) (w:World) (z1:rom.size<=maxLen) (z2:ram.size<=maxLen) (z3:work.size<=maxLen) (z4:high.size<=maxLen) (z5:L.length<=maxLen) :
  Calls prog 6 #[.agg #[.int .i64 ra,.int .i64 rf,.int .i64 rB,.int .i64 rC,.int .i64 rD,.int .i64 rE,.int .i64 rH,.int .i64 rL,.int .i64 sp,.int .i64 pc,.bool ime,.bool hal,.string rom,.int .i64 kind,.int .i64 bank,.string ram,.int .i64 rb,.bool on,.int .i64 mode,.string work,.string high,.slice po L.length cap,.int .i64 cyc],.int .i64 1048576] w fun e w'=>(∃ q:Int,e=.returned (.int .i64 q)/\-1<=q/\q<=1048576/\(0<=q->rom.size<=1048576/\ram.size<=1048576/\work.size<=1048576/\high.size<=1048576/\L.length<=1048576))/\∃ o1 o2,w'=(w.alloc o1).alloc o2:=by
 have cz:=fun w=>szCart_any rom kind bank ram rb on mode 1048576 w z1 z2 (by decide) (by decide)
 unfold maxLen at z1 z2 z3 z4
 obtain ⟨q,hq⟩ : ∃ q,q=left2 1048576 rom.size ram.size:=⟨_,rfl⟩
 have bq:q = -1 \/ (0<=q/\q<=1048576/\rom.size<=1048576/\ram.size<=1048576):=by
  rw [hq]
  unfold left2
  split
  ·exact .inl rfl
  split
  ·exact .inl rfl
  ·right;omega
 rw [<- hq] at cz
 clear hq z1 z2
 rcases bq with rfl|⟨q0,q1,s1,s2⟩
 ·go_enter func6,ntmps6
  go_wp2_with (go_at_call 21;refine (cz _).mono ?_;rintro e w' ⟨rfl,rfl⟩)
  go_ret
  exact ⟨⟨-1,rfl,by decide,by decide,fun h=>absurd h (by decide)⟩,_,_,rfl⟩
 by_cases h3:q-work.size<0
 ·go_enter func6,ntmps6
  go_wp2_with (go_at_call 21;refine (cz _).mono ?_;rintro e w' ⟨rfl,rfl⟩)
  go_ret
  exact ⟨⟨-1,rfl,by decide,by decide,fun h=>absurd h (by decide)⟩,_,_,rfl⟩
 by_cases h4:q-work.size-high.size<0
 ·go_enter func6,ntmps6
  go_wp2_with (go_at_call 21;refine (cz _).mono ?_;rintro e w' ⟨rfl,rfl⟩)
  go_ret
  exact ⟨⟨-1,rfl,by decide,by decide,fun h=>absurd h (by decide)⟩,_,_,rfl⟩
 have c5:=fun w=>szInt64S_any po cap L.length (q-work.size-high.size) w (by omega) (by omega) z5 _ rfl
 by_cases h5:q-work.size-high.size-L.length<0
 ·rw [if_pos h5] at c5
  clear z5
  go_enter func6,ntmps6
  go_wp2_with first|(go_at_call 21;refine (cz _).mono ?_;rintro e w' ⟨rfl,rfl⟩)|(go_at_call 22;refine (c5 _).mono ?_;rintro e w' ⟨rfl,rfl⟩)
  go_ret
  exact ⟨⟨-1,rfl,by decide,by decide,fun h=>absurd h (by decide)⟩,_,_,rfl⟩
 ·rw [if_neg h5] at c5
  obtain ⟨r,hr⟩ : ∃ r,r=q-work.size-high.size-(L.length:Int):=⟨_,rfl⟩
  rw [<- hr] at c5
  have r0:0<=r:=by omega
  have HR:Hid (r<=1048576/\work.size<=1048576/\high.size<=1048576/\L.length<=1048576):=⟨by omega,by omega,by omega,by omega⟩
  clear z5 hr h5
  go_enter func6,ntmps6
  go_wp2_with first|(go_at_call 21;refine (cz _).mono ?_;rintro e w' ⟨rfl,rfl⟩)|(go_at_call 22;refine (c5 _).mono ?_;rintro e w' ⟨rfl,rfl⟩)
  go_ret
  exact ⟨⟨r,rfl,by omega,HR.out.1,fun _=>⟨s1,s2,HR.out.2⟩⟩,_,_,rfl⟩
end Go.Proofs.YtkfehdkjeodbmaaGreatDoor.Mach
namespace Go.Proofs.YtkfehdkjeodbmaaGreatDoor.MachT
open Go.Deep
open Signed (inB ret_int ret_bool isByte_any l1In_any)
open CartL Outs Mach
theorem toCpu_ex (ra rf rB rC rD rE rH rL sp pc:Int) (ime hal:Bool) (w:World) :
  Calls prog 25 #[.agg #[.int .i64 ra,.int .i64 rf,.int .i64 rB,.int .i64 rC,.int .i64 rD,.int .i64 rE,.int .i64 rH,.int .i64 rL,.int .i64 sp,.int .i64 pc,.bool ime,.bool hal]] w fun e w'=>e=.returned (.agg #[.int .i64 ra,.int .i64 rf,.int .i64 rB,.int .i64 rC,.int .i64 rD,.int .i64 rE,.int .i64 rH,.int .i64 rL,.int .i64 sp,.int .i64 pc,.bool ime,.bool hal])/\∃ o1 o2 o3,w'=((w.alloc o1).alloc o2).alloc o3:=by
 refine (toCpu_any ra rf rB rC rD rE rH rL sp pc ime hal w).mono ?_
 rintro e w' ⟨rfl,rfl⟩
 exact ⟨rfl,_,_,_,rfl⟩
theorem eqCpu_ex (ra rf rB rC rD rE rH rL sp pc:Int) (ime hal:Bool) (w:World) :
  Calls prog 31 #[.agg #[.int .i64 ra,.int .i64 rf,.int .i64 rB,.int .i64 rC,.int .i64 rD,.int .i64 rE,.int .i64 rH,.int .i64 rL,.int .i64 sp,.int .i64 pc,.bool ime,.bool hal],.agg #[.int .i64 ra,.int .i64 rf,.int .i64 rB,.int .i64 rC,.int .i64 rD,.int .i64 rE,.int .i64 rH,.int .i64 rL,.int .i64 sp,.int .i64 pc,.bool ime,.bool hal]] w fun e w'=>e=.returned (.bool true)/\∃ o1 o2,w'=(w.alloc o1).alloc o2:=by
 refine (eqCpu_any ra rf rB rC rD rE rH rL sp pc ime hal w).mono ?_
 rintro e w' ⟨rfl,rfl⟩
 exact ⟨rfl,_,_,rfl⟩
theorem toCart_ex (rom:ByteArray) (kind bank:Int) (ram:ByteArray) (rb:Int) (on:Bool) (mode:Int) (w:World) :
  Calls prog 26 #[.agg #[.string rom,.int .i64 kind,.int .i64 bank,.string ram,.int .i64 rb,.bool on,.int .i64 mode]] w fun e w'=>e=.returned (.agg #[.string rom,.int .i64 kind,.int .i64 bank,.string ram,.int .i64 rb,.bool on,.int .i64 mode])/\∃ o1 o2 o3,w'=((w.alloc o1).alloc o2).alloc o3:=by
 refine (toCart_any rom kind bank ram rb on mode w).mono ?_
 rintro e w' ⟨rfl,rfl⟩
 exact ⟨rfl,_,_,_,rfl⟩
theorem eqCart_ex (rom:ByteArray) (kind bank:Int) (ram:ByteArray) (rb:Int) (on:Bool) (mode:Int) (w:World) :
  Calls prog 32 #[.agg #[.string rom,.int .i64 kind,.int .i64 bank,.string ram,.int .i64 rb,.bool on,.int .i64 mode],.agg #[.string rom,.int .i64 kind,.int .i64 bank,.string ram,.int .i64 rb,.bool on,.int .i64 mode]] w fun e w'=>e=.returned (.bool true)/\∃ o1 o2,w'=(w.alloc o1).alloc o2:=by
 refine (eqCart_any rom kind bank ram rb on mode w).mono ?_
 rintro e w' ⟨rfl,rfl⟩
 exact ⟨rfl,_,_,rfl⟩
theorem blk1 {w w':World} {a b c:Obj} (h:Below (((w.alloc a).alloc b).alloc c).heap.size (((w.alloc a).alloc b).alloc c) w'):w'.heap[w.heap.size]? = some a/\w'.heap[w.heap.size+1]? = some b/\w'.heap[w.heap.size+1+1]? = some c:=by
 have n:∀ (u:World) (o:Obj),(u.alloc o).heap[u.heap.size]? = some o:=fun u o=>by
  show (u.heap.push o)[u.heap.size]? = some o
  rw [Array.getElem?_push_size]
 have s:∀ (u:World) (o:Obj),(u.alloc o).heap.size=u.heap.size+1:=fun u o=>by
  show (u.heap.push o).size=_
  rw [Array.size_push]
 refine ⟨?_,?_,?_⟩
 ·rw [h.block _ (by rw [s,s,s];omega),Below.heap_alloc _ _ _ (by rw [s,s];omega),Below.heap_alloc _ _ _ (by rw [s];omega)]
  exact n w a
 ·rw [h.block _ (by rw [s,s,s];omega),Below.heap_alloc _ _ _ (by rw [s,s];omega)]
  have:=n (w.alloc a) b
  rwa [s] at this
 ·rw [h.block _ (by rw [s,s,s];omega)]
  have:=n ((w.alloc a).alloc b) c
  rwa [s,s] at this
theorem cel {W:World} {B:Nat} {vs:Array Value} {T:TypeId} (h:W.heap[B]? = some (.cells vs T)) (i:Nat) (v:Value) (hv:vs[i]? = some v):W.cell? ⟨B,i,none⟩=some v:=by
 unfold World.cell?
 rw [h]
 simpa using hv
theorem fro {W:World} {B:Nat} {vs:Array Value} {T:TypeId} (h:W.heap[B]? = some (.cells vs T)) (i:Nat):W.frozen? ⟨B,i,none⟩=false:=by
 unfold World.frozen?
 rw [h]
 simp
theorem heap_set {W:World} {B i:Nat} {vs:Array Value} {T:TypeId} {v:Value} (h:W.heap[B]? = some (.cells vs T)):(W.setCell ⟨B,i,none⟩ v).heap[B]? = some (.cells (vs.setIfInBounds i v) T):=by
 unfold World.setCell
 simp [Array.getElem?_modify,h]
theorem heap_row {W:World} {B:Nat} {vs cs:Array Value} {T:TypeId} (h:W.heap[B]? = some (.cells vs T)):(W.setRow B cs).heap[B]? = some (.cells cs T):=by
 unfold World.setRow
 simp [Array.getElem?_modify,h]
theorem heap_row_other {B B':Nat} {cs:Array Value} (hne:B ≠ B') (W:World):(W.setRow B cs).heap[B']? = W.heap[B']?:=by
 unfold World.setRow
 simp [Array.getElem?_modify,hne]
theorem size_row {B:Nat} {cs:Array Value} (W:World):(W.setRow B cs).heap.size=W.heap.size:=by
 unfold World.setRow
 simp
theorem below_row {n g:Nat} {a w:World} {cs:Array Value} (h:Below n a w) (hg:n<=g):Below n a (w.setRow g cs) :=
 h.trans ⟨rfl,rfl,rfl,by rw [size_row];exact Nat.le_refl _,fun k hk=>heap_row_other (by omega) w⟩
theorem heap_set_other {B B' i:Nat} {v:Value} (hne:B ≠ B') (W:World):(W.setCell ⟨B,i,none⟩ v).heap[B']? = W.heap[B']?:=Below.heap_setCell W ⟨B,i,none⟩ v B' (fun e=>hne e.symm)
theorem eqMachine_any (ra rf rB rC rD rE rH rL sp pc:Int) (ime hal:Bool) (rom:ByteArray) (kind bank:Int) (ram:ByteArray) (rb:Int) (on:Bool) (mode:Int) (work high:ByteArray) (po:Option Addr) (L:List Int) (cap:Nat) (cyc:Int) (po':Option Addr) (cap':Nat) (w:World) (hN:Row w po L) (hN':Row w po' L) (hlen:L.length<=1048576) :
  Calls prog 10 #[.agg #[.int .i64 ra,.int .i64 rf,.int .i64 rB,.int .i64 rC,.int .i64 rD,.int .i64 rE,.int .i64 rH,.int .i64 rL,.int .i64 sp,.int .i64 pc,.bool ime,.bool hal,.string rom,.int .i64 kind,.int .i64 bank,.string ram,.int .i64 rb,.bool on,.int .i64 mode,.string work,.string high,.slice po L.length cap,.int .i64 cyc],.agg #[.int .i64 ra,.int .i64 rf,.int .i64 rB,.int .i64 rC,.int .i64 rD,.int .i64 rE,.int .i64 rH,.int .i64 rL,.int .i64 sp,.int .i64 pc,.bool ime,.bool hal,.string rom,.int .i64 kind,.int .i64 bank,.string ram,.int .i64 rb,.bool on,.int .i64 mode,.string work,.string high,.slice po' L.length cap',.int .i64 cyc]] w fun e w'=>e=.returned (.bool true)/\∃ o1 o2 o3 o4 o5 o6 n,w'=((((((w.alloc o1).alloc o2).alloc o3).alloc o4).alloc o5).alloc o6).drewN n:=by
 have c:=fun W (h:Row W po L) (h':Row W po' L)=>eqInt64S_any po po' cap cap' L W h h' hlen
 have HB:Hid (Row w po L):=hN
 have HB':Hid (Row w po' L):=hN'
 clear hN hN' hlen
 obtain ⟨ln,hl⟩ : ∃ ln,ln=L.length:=⟨_,rfl⟩
 rw [<- hl] at c |-
 clear hl
 go_enter func10,ntmps10
 go_wp2_with first|(go_at_call 31;refine (eqCpu_ex _ _ _ _ _ _ _ _ _ _ _ _ _).mono ?_;rintro e w' ⟨rfl,p1,p2,rfl⟩)|(go_at_call 32;refine (eqCart_ex _ _ _ _ _ _ _ _).mono ?_;rintro e w' ⟨rfl,q1,q2,rfl⟩)
 refine Calls.mono (c _ ?_ ?_) ?_
 ·exact HB.out.below (by repeat (with_reducible first|exact zRf|refine zGr ?_ _|refine below_drewN ?_ _|refine Below.drew ?_))
 ·exact HB'.out.below (by repeat (with_reducible first|exact zRf|refine zGr ?_ _|refine below_drewN ?_ _|refine Below.drew ?_))
 rintro e w' ⟨rfl,n,rfl⟩
 clear c HB HB'
 go_wp2
 go_ret
 exact ⟨rfl,_,_,_,_,_,_,_,rfl⟩
end Go.Proofs.YtkfehdkjeodbmaaGreatDoor.MachT
namespace Go.Proofs.YtkfehdkjeodbmaaGreatDoor.CartS
open Go.Deep
open Signed (inB ret_int ret_bool isByte_any l1In_any)
open Carts CartK CartL CartM CartR
theorem sread2 (rom:ByteArray) (kind bank:Int) (ram:ByteArray) (rb:Int) (on:Bool) (mode:Int) (addr z q:Int) (w:World) (hs:rom.size<=maxLen) (s1:rom.size<=4096) (hz:banks rom.size=z) (z0:2<=z) (z1:z<=16) (b0:0<=bank) (b1:bank<=255) (hq:bank%z=q) (q0:0<=q) (q1:q<=15) (q2:q*256+256<=rom.size) (a0:256<=addr) (a1:addr<512) :
  Calls prog 107 #[.agg #[.string rom,.int .i64 kind,.int .i64 bank,.string ram,.int .i64 rb,.bool on,.int .i64 mode],.int .i64 addr] w fun e w'=>e=.returned (.int .i64 (byteAt rom (q*256+addr-256)))/\Below w.heap.size w w':=by
 have d1:inB addr 0 255=false:=decide_eq_false (by omega)
 have d2:inB addr 256 511=true:=decide_eq_true (by omega)
 have c3:=fun w=>l5Banks_any rom w hs
 rw [hz] at c3
 clear hz hs
 have i0:0<=q*256+addr-256:=by omega
 have i1:q*256+addr-256<(rom.size:Int):=by omega
 have e1:IntKind.i64.wrap (q*256)=q*256:=by rw [IntKind.wrap_i64];omega
 have e2:IntKind.i64.wrap (q*256+addr)=q*256+addr:=by rw [IntKind.wrap_i64];omega
 have e3:IntKind.i64.wrap (q*256+addr-256)=q*256+addr-256:=by rw [IntKind.wrap_i64];omega
 have z2:¬ z=0:=by omega
 have ht:bank.tmod z=q:=by rw [Int.tmod_eq_emod_of_nonneg b0];exact hq
 have i2:256<=q*256+addr:=by omega
 clear hq
 go_enter func107,ntmps107
 go_wp2_with (go_at_call 36;refine (l1In_any _ _ _ _).mono ?_;rintro e w' ⟨rfl,rfl⟩)
 go_quiet ((go_at_call 69;exact Calls.quiet_of_same (c3 _)))
 go_wp2
 go_ret
 exact ⟨ret_int (by first|exact byteAt_wrap (by omega)|exact byteAt_wrapk (by omega)),by repeat (with_reducible first|exact zRf|refine zGr ?_ _|refine below_drewN ?_ _|refine Below.drew ?_)⟩
theorem sread3 (rom:ByteArray) (kind bank:Int) (ram:ByteArray) (rb:Int) (mode:Int) (addr r:Int) (w:World) (sr:ram.size=256) (h0:0<=rb) (h1:rb<=3) (a0:40960<=addr) (a1:addr<41024) (hr:ramQ kind rb mode=r) :
  Calls prog 107 #[.agg #[.string rom,.int .i64 kind,.int .i64 bank,.string ram,.int .i64 rb,.bool true,.int .i64 mode],.int .i64 addr] w fun e w'=>e=.returned (.int .i64 (byteAt ram (r*64+addr-40960)))/\Below w.heap.size w w':=by
 have c:=fun w=>l5RamBank_any rom kind bank ram rb true mode w
 obtain ⟨r0,r1⟩:=ramQ_bd (kind:=kind) (mode:=mode) h0 h1
 rw [hr] at c r0 r1
 clear hr h0 h1
 have d1:inB addr 0 255=false:=decide_eq_false (by omega)
 have d2:inB addr 256 511=false:=decide_eq_false (by omega)
 have d3:inB addr 40960 41023=true:=decide_eq_true (by omega)
 have i0:0<=r*64+addr-40960:=by omega
 have i1:r*64+addr-40960<(ram.size:Int):=by omega
 have i2:40960<=r*64+addr:=by omega
 clear sr
 have e1:IntKind.i64.wrap (r*64)=r*64:=by rw [IntKind.wrap_i64];omega
 have e2:IntKind.i64.wrap (r*64+addr)=r*64+addr:=by rw [IntKind.wrap_i64];omega
 have e3:IntKind.i64.wrap (r*64+addr-40960)=r*64+addr-40960:=by rw [IntKind.wrap_i64];omega
 go_enter func107,ntmps107
 go_wp2_with (go_at_call 36;refine (l1In_any _ _ _ _).mono ?_;rintro e w' ⟨rfl,rfl⟩)
 go_region_with (go_at_call 173;refine (c _).mono ?_;rintro e w' ⟨rfl,rfl⟩)
 all_goals go_wp2
 all_goals go_ret
 all_goals exact ⟨ret_int (by first|exact byteAt_wrap (by omega)|exact byteAt_wrapk (by omega)),by repeat (with_reducible first|exact zRf|refine zGr ?_ _|refine below_drewN ?_ _|refine Below.drew ?_)⟩
theorem sread4 (rom:ByteArray) (kind bank:Int) (ram:ByteArray) (rb:Int) (on:Bool) (mode:Int) (addr:Int) (w:World) (a0:512<=addr) (h:on=false \/ addr<40960 \/ 41024<=addr) :
  Calls prog 107 #[.agg #[.string rom,.int .i64 kind,.int .i64 bank,.string ram,.int .i64 rb,.bool on,.int .i64 mode],.int .i64 addr] w fun e w'=>e=.returned (.int .i64 255)/\Below w.heap.size w w':=by
 have d1:inB addr 0 255=false:=decide_eq_false (by omega)
 have d2:inB addr 256 511=false:=decide_eq_false (by omega)
 cases on with
 | false =>
  go_enter func107,ntmps107
  go_wp2_with (go_at_call 36;refine (l1In_any _ _ _ _).mono ?_;rintro e w' ⟨rfl,rfl⟩)
  go_ret
  exact ⟨rfl,by repeat (with_reducible first|exact zRf|refine zGr ?_ _|refine below_drewN ?_ _|refine Below.drew ?_)⟩
 | true =>
  have d3:inB addr 40960 41023=false:=decide_eq_false (by simp at h;omega)
  go_enter func107,ntmps107
  go_wp2_with (go_at_call 36;refine (l1In_any _ _ _ _).mono ?_;rintro e w' ⟨rfl,rfl⟩)
  go_ret
  exact ⟨rfl,by repeat (with_reducible first|exact zRf|refine zGr ?_ _|refine below_drewN ?_ _|refine Below.drew ?_)⟩
theorem ret_i {a b:Int} {w:World} {w':World} {e:Ending} (h:a=b) (k:e=.returned (.int .i64 a)/\Below w.heap.size w w'):e=.returned (.int .i64 b)/\Below w.heap.size w w':=by rw [<- h];exact k
theorem implRead_right (rom:ByteArray) (kind bank:Int) (ram:ByteArray) (rb:Int) (on:Bool) (mode:Int) (addr:Int) (w:World) (h:okB rom kind bank ram rb on mode=true) (a0:0<=addr) :
  Calls prog 114 #[.agg #[.string rom,.int .i64 kind,.int .i64 bank,.string ram,.int .i64 rb,.bool on,.int .i64 mode],.int .i64 addr] w fun e w'=>e=.returned (.int .i64 (rdV rom (bank%banks rom.size) ram (ramQ kind rb mode) on addr))/\Below w.heap.size w w':=by
 obtain ⟨n,n0,n1,hn,hb,hm,b0,b1,r0,r1,m0,m1,hk⟩:=right rom kind bank ram rb on mode h
 rw [hb]
 have q0:0<=bank%(n:Int):=Int.emod_nonneg _ (by omega)
 have q1:bank%(n:Int)<n:=Int.emod_lt_of_pos _ (by omega)
 by_cases h1:addr<256
 ·exact (read1 rom kind bank ram rb on mode addr w (by omega) a0 h1).mono fun e w' k=>ret_i (by unfold rdV;rw [if_pos h1]) k
 by_cases h2:addr<512
 ·exact (read2 rom kind bank ram rb on mode addr _ w (by omega) q0 (by omega) (by omega) (by omega) h2 (fun w=>bankSeen_any rom kind bank ram rb on mode w n n0 n1 hn b0 b1)).mono fun e w' k=>ret_i (by unfold rdV;rw [if_neg h1,if_pos h2]) k
 by_cases h3:on=true/\40960<=addr/\addr<41024
 ·obtain ⟨rfl,h4,h5⟩:=h3
  exact (read3 rom kind bank ram rb mode addr _ w hm r0 r1 m0 m1 (by simp at hk;omega) h4 h5 rfl).mono fun e w' k=>ret_i (by unfold rdV;rw [if_neg h1,if_neg h2,if_pos ⟨rfl,h4,h5⟩]) k
 ·exact (read4 rom kind bank ram rb on mode addr w (by omega) (by cases on <;> simp at h3 |-;omega)).mono fun e w' k=>ret_i (by unfold rdV;rw [if_neg h1,if_neg h2,if_neg h3]) k
theorem specRead_right (rom:ByteArray) (kind bank:Int) (ram:ByteArray) (rb:Int) (on:Bool) (mode:Int) (addr:Int) (w:World) (hs:rom.size<=maxLen) (h:okB rom kind bank ram rb on mode=true) (a0:0<=addr) :
  Calls prog 107 #[.agg #[.string rom,.int .i64 kind,.int .i64 bank,.string ram,.int .i64 rb,.bool on,.int .i64 mode],.int .i64 addr] w fun e w'=>e=.returned (.int .i64 (rdV rom (bank%banks rom.size) ram (ramQ kind rb mode) on addr))/\Below w.heap.size w w':=by
 obtain ⟨n,n0,n1,hn,hb,hm,b0,b1,r0,r1,m0,m1,hk⟩:=right rom kind bank ram rb on mode h
 rw [hb]
 have q0:0<=bank%(n:Int):=Int.emod_nonneg _ (by omega)
 have q1:bank%(n:Int)<n:=Int.emod_lt_of_pos _ (by omega)
 by_cases h1:addr<256
 ·exact (sread1 rom kind bank ram rb on mode addr w (by omega) a0 h1).mono fun e w' k=>ret_i (by unfold rdV;rw [if_pos h1]) k
 by_cases h2:addr<512
 ·exact (sread2 rom kind bank ram rb on mode addr n _ w hs (by omega) hb (by omega) (by omega) b0 b1 rfl q0 (by omega) (by omega) (by omega) h2).mono fun e w' k=>ret_i (by unfold rdV;rw [if_neg h1,if_pos h2]) k
 by_cases h3:on=true/\40960<=addr/\addr<41024
 ·obtain ⟨rfl,h4,h5⟩:=h3
  exact (sread3 rom kind bank ram rb mode addr _ w hm r0 r1 h4 h5 rfl).mono fun e w' k=>ret_i (by unfold rdV;rw [if_neg h1,if_neg h2,if_pos ⟨rfl,h4,h5⟩]) k
 ·exact (sread4 rom kind bank ram rb on mode addr w (by omega) (by cases on <;> simp at h3 |-;omega)).mono fun e w' k=>ret_i (by unfold rdV;rw [if_neg h1,if_neg h2,if_neg h3]) k
end Go.Proofs.YtkfehdkjeodbmaaGreatDoor.CartS
