import Derived.Test.YteglcgnhhoenbaaGreatDoorP12
import Derived.Deep.DeepFit
set_option linter.all false
set_option maxRecDepth 20000
set_option maxHeartbeats 8000000
open Go.ChangeShapes Go.WideShapes Go.ChangeAt Go.RowKit
open Go.Proofs.Tryz
namespace Go.Proofs.YteglcgnhhoenbaaGreatDoor
namespace CartU
open Go.Deep
open Signed (inB ret_int ret_bool isByte_any l1In_any)
open Carts CartK CartL CartM CartP CartR CartW CartV CartX CartY
theorem fin1 {rom:ByteArray} {kind b b':Int} {m m':ByteArray} {r r':Int} {o o':Bool} {d d':Int} {e:Ending} (hb:b=b') (hm:m=m') (hr:r=r') (ho:o=o') (hd:d=d')
  (k:e=.returned (.agg #[.string rom,.int .i64 kind,.int .i64 b,.string m,.int .i64 r,.bool o,.int .i64 d])) :
  e=.returned (.agg #[.string rom,.int .i64 kind,.int .i64 b',.string m',.int .i64 r',.bool o',.int .i64 d']):=by
 subst hb hm hr ho hd
 exact k
theorem bel {w w':World} (h:(∃ o1 o2,w'=((w.alloc o1).alloc o2)) \/ (∃ o1 o2 o3,w'=(((w.alloc o1).alloc o2).alloc o3)) \/ (∃ o1 o2 o3 o4,w'=((((w.alloc o1).alloc o2).alloc o3).alloc o4)) \/ (∃ o1 o2 o3 o4 o5 o6,w'=((((((w.alloc o1).alloc o2).alloc o3).alloc o4).alloc o5).alloc o6)) \/ (∃ o1 o2 o3 o4 o5 o6 o7 o8,w'=((((((((w.alloc o1).alloc o2).alloc o3).alloc o4).alloc o5).alloc o6).alloc o7).alloc o8)) \/ (∃ o1 o2 o3 o4 o5,w'=((((w.alloc o1).alloc o2).alloc o3).alloc o4).drew.alloc o5) \/ (∃ o1 o2 o3 o4,w'=((((w.alloc o1).alloc o2).alloc o3).alloc o4).drew.drew)):Below w.heap.size w w':=by
 rcases h with h|h|h|h|h|h|h
 ·obtain ⟨_,_,rfl⟩:=h;exact (by repeat (with_reducible first|exact zRf|refine zGr ?_ _|refine below_drewN ?_ _|refine Below.drew ?_))
 ·obtain ⟨_,_,_,rfl⟩:=h;exact (by repeat (with_reducible first|exact zRf|refine zGr ?_ _|refine below_drewN ?_ _|refine Below.drew ?_))
 ·obtain ⟨_,_,_,_,rfl⟩:=h;exact (by repeat (with_reducible first|exact zRf|refine zGr ?_ _|refine below_drewN ?_ _|refine Below.drew ?_))
 ·obtain ⟨_,_,_,_,_,_,rfl⟩:=h;exact (by repeat (with_reducible first|exact zRf|refine zGr ?_ _|refine below_drewN ?_ _|refine Below.drew ?_))
 ·obtain ⟨_,_,_,_,_,_,_,_,rfl⟩:=h;exact (by repeat (with_reducible first|exact zRf|refine zGr ?_ _|refine below_drewN ?_ _|refine Below.drew ?_))
 ·obtain ⟨_,_,_,_,_,rfl⟩:=h;exact (by repeat (with_reducible first|exact zRf|refine zGr ?_ _|refine below_drewN ?_ _|refine Below.drew ?_))
 ·obtain ⟨_,_,_,_,rfl⟩:=h;exact (by repeat (with_reducible first|exact zRf|refine zGr ?_ _|refine below_drewN ?_ _|refine Below.drew ?_))
theorem written_right (rom:ByteArray) (kind bank:Int) (ram:ByteArray) (rb:Int) (on:Bool) (mode:Int) (addr v:Int) (w:World) (hs:rom.size<=maxLen) (hr:ram.size<=maxLen) (h:okB rom kind bank ram rb on mode=true) (hw:inB addr 0 65535=true) (hb:inB v 0 255=true) :
  Calls prog 274 #[.agg #[.string rom,.int .i64 kind,.int .i64 bank,.string ram,.int .i64 rb,.bool on,.int .i64 mode],.int .i64 addr,.int .i64 v] w fun e w'=>e=.returned (wrote rom kind bank ram rb on mode addr v)/\Below w.heap.size w w':=by
 obtain ⟨n,n0,n1,hn,hbk,hm,b0,b1,r0,r1,m0,m1,hk⟩:=right rom kind bank ram rb on mode h
 obtain ⟨a0,a1⟩:=of_decide_eq_true hw
 obtain ⟨v0,v1⟩:=of_decide_eq_true hb
 unfold wrote
 by_cases big:512<=addr
 ·by_cases hyes:on=true/\40960<=addr/\addr<41024
  ·obtain ⟨rfl,y0,y1⟩:=hyes
   have hk':kind=1 \/ kind=2:=by
    rcases hk with hk|hk|hk
    ·exact absurd hk.2 (by decide)
    ·exact .inl hk
    ·exact .inr hk.1
   exact (written_yes rom kind bank ram rb mode addr v _ w v0 v1 hm r0 r1 m0 m1 hk' y0 y1 rfl).mono (fun e w' k=>⟨fin1 (by unfold wBank;rw [if_neg (by omega)]) (by unfold wRam;rw [if_pos (by omega),if_pos rfl]) (by unfold wRb;rw [if_neg (by omega)]) (by unfold wOn;rw [if_neg (by omega)]) (by unfold wMode;rw [if_neg (by omega)]) k.1,bel (by first|exact .inl k.2|exact .inr (.inl k.2)|exact .inr (.inr (.inl k.2))|exact .inr (.inr (.inr (.inl k.2)))|exact .inr (.inr (.inr (.inr (.inl k.2))))|exact .inr (.inr (.inr (.inr (.inr (.inl k.2)))))|exact .inr (.inr (.inr (.inr (.inr (.inr k.2))))))⟩)
  ·have hno:on=false \/ addr<40960 \/ 41024<=addr:=by cases on <;> simp at hyes |-;omega
   exact (written_no rom kind bank ram rb on mode addr v w v0 v1 big hno).mono (fun e w' k=>⟨fin1 (by unfold wBank;rw [if_neg (by omega)]) (by unfold wRam;rcases hno with h|h|h;(split;rw [if_neg (by simp [h])];rfl);rw [if_neg (by omega)];rw [if_neg (by omega)]) (by unfold wRb;rw [if_neg (by omega)]) (by unfold wOn;rw [if_neg (by omega)]) (by unfold wMode;rw [if_neg (by omega)]) k.1,bel (by first|exact .inl k.2|exact .inr (.inl k.2)|exact .inr (.inr (.inl k.2))|exact .inr (.inr (.inr (.inl k.2)))|exact .inr (.inr (.inr (.inr (.inl k.2))))|exact .inr (.inr (.inr (.inr (.inr (.inl k.2)))))|exact .inr (.inr (.inr (.inr (.inr (.inr k.2))))))⟩)
 ·rcases hk with ⟨rfl,hon⟩|rfl|⟨rfl,hmode⟩
  ·exact (written_0 rom bank ram rb on mode addr v w v0 v1 a0 (by omega)).mono (fun e w' k=>⟨fin1 (by unfold wBank;split;rw [if_neg (by omega),if_neg (by omega)];rfl) (by unfold wRam;rw [if_neg (by omega)]) (by unfold wRb;rw [if_neg (by omega)]) (by unfold wOn;rw [if_neg (by omega)]) (by unfold wMode;rw [if_neg (by omega)]) k.1,bel (by first|exact .inl k.2|exact .inr (.inl k.2)|exact .inr (.inr (.inl k.2))|exact .inr (.inr (.inr (.inl k.2)))|exact .inr (.inr (.inr (.inr (.inl k.2))))|exact .inr (.inr (.inr (.inr (.inr (.inl k.2)))))|exact .inr (.inr (.inr (.inr (.inr (.inr k.2))))))⟩)
  ·have q:addr<128 \/ (128<=addr/\addr<256) \/ (256<=addr/\addr<384) \/ (384<=addr/\addr<512):=by omega
   rcases q with q|q|q|q
   ·exact (written_10 rom bank ram rb on mode addr v w v0 v1 a0 q).mono (fun e w' k=>⟨fin1 (by unfold wBank;rw [if_neg (by omega)]) (by unfold wRam;rw [if_neg (by omega)]) (by unfold wRb;rw [if_neg (by omega)]) (by unfold wOn;rw [if_pos (by omega)]) (by unfold wMode;rw [if_neg (by omega)]) k.1,bel (by first|exact .inl k.2|exact .inr (.inl k.2)|exact .inr (.inr (.inl k.2))|exact .inr (.inr (.inr (.inl k.2)))|exact .inr (.inr (.inr (.inr (.inl k.2))))|exact .inr (.inr (.inr (.inr (.inr (.inl k.2)))))|exact .inr (.inr (.inr (.inr (.inr (.inr k.2))))))⟩)
   ·exact (written_11 rom bank ram rb on mode addr v w v0 v1 q.1 q.2).mono (fun e w' k=>⟨fin1 (by unfold wBank;rw [if_pos (by omega),if_pos rfl]) (by unfold wRam;rw [if_neg (by omega)]) (by unfold wRb;rw [if_neg (by omega)]) (by unfold wOn;rw [if_neg (by omega)]) (by unfold wMode;rw [if_neg (by omega)]) k.1,bel (by first|exact .inl k.2|exact .inr (.inl k.2)|exact .inr (.inr (.inl k.2))|exact .inr (.inr (.inr (.inl k.2)))|exact .inr (.inr (.inr (.inr (.inl k.2))))|exact .inr (.inr (.inr (.inr (.inr (.inl k.2)))))|exact .inr (.inr (.inr (.inr (.inr (.inr k.2))))))⟩)
   ·exact (written_12 rom bank ram rb on mode addr v w v0 v1 q.1 q.2).mono (fun e w' k=>⟨fin1 (by unfold wBank;rw [if_neg (by omega)]) (by unfold wRam;rw [if_neg (by omega)]) (by unfold wRb;rw [if_pos (by omega)]) (by unfold wOn;rw [if_neg (by omega)]) (by unfold wMode;rw [if_neg (by omega)]) k.1,bel (by first|exact .inl k.2|exact .inr (.inl k.2)|exact .inr (.inr (.inl k.2))|exact .inr (.inr (.inr (.inl k.2)))|exact .inr (.inr (.inr (.inr (.inl k.2))))|exact .inr (.inr (.inr (.inr (.inr (.inl k.2)))))|exact .inr (.inr (.inr (.inr (.inr (.inr k.2))))))⟩)
   ·exact (written_13 rom bank ram rb on mode addr v w v0 v1 q.1 q.2).mono (fun e w' k=>⟨fin1 (by unfold wBank;rw [if_neg (by omega)]) (by unfold wRam;rw [if_neg (by omega)]) (by unfold wRb;rw [if_neg (by omega)]) (by unfold wOn;rw [if_neg (by omega)]) (by unfold wMode;rw [if_pos (by omega)]) k.1,bel (by first|exact .inl k.2|exact .inr (.inl k.2)|exact .inr (.inr (.inl k.2))|exact .inr (.inr (.inr (.inl k.2)))|exact .inr (.inr (.inr (.inr (.inl k.2))))|exact .inr (.inr (.inr (.inr (.inr (.inl k.2)))))|exact .inr (.inr (.inr (.inr (.inr (.inr k.2))))))⟩)
  ·have q:addr<128 \/ (128<=addr/\addr<256) \/ (256<=addr/\addr<384) \/ (384<=addr/\addr<512):=by omega
   rcases q with q|q|q|q
   ·exact (written_20 rom bank ram rb on mode addr v w v0 v1 a0 q).mono (fun e w' k=>⟨fin1 (by unfold wBank;rw [if_neg (by omega)]) (by unfold wRam;rw [if_neg (by omega)]) (by unfold wRb;rw [if_neg (by omega)]) (by unfold wOn;rw [if_pos (by omega)]) (by unfold wMode;rw [if_neg (by omega)]) k.1,bel (by first|exact .inl k.2|exact .inr (.inl k.2)|exact .inr (.inr (.inl k.2))|exact .inr (.inr (.inr (.inl k.2)))|exact .inr (.inr (.inr (.inr (.inl k.2))))|exact .inr (.inr (.inr (.inr (.inr (.inl k.2)))))|exact .inr (.inr (.inr (.inr (.inr (.inr k.2))))))⟩)
   ·exact (written_21 rom bank ram rb on mode addr v w v0 v1 q.1 q.2).mono (fun e w' k=>⟨fin1 (by unfold wBank;rw [if_pos (by omega),if_neg (by omega),if_pos rfl]) (by unfold wRam;rw [if_neg (by omega)]) (by unfold wRb;rw [if_neg (by omega)]) (by unfold wOn;rw [if_neg (by omega)]) (by unfold wMode;rw [if_neg (by omega)]) k.1,bel (by first|exact .inl k.2|exact .inr (.inl k.2)|exact .inr (.inr (.inl k.2))|exact .inr (.inr (.inr (.inl k.2)))|exact .inr (.inr (.inr (.inr (.inl k.2))))|exact .inr (.inr (.inr (.inr (.inr (.inl k.2)))))|exact .inr (.inr (.inr (.inr (.inr (.inr k.2))))))⟩)
   ·exact (written_22 rom bank ram rb on mode addr v w v0 v1 q.1 q.2).mono (fun e w' k=>⟨fin1 (by unfold wBank;rw [if_neg (by omega)]) (by unfold wRam;rw [if_neg (by omega)]) (by unfold wRb;rw [if_pos (by omega)]) (by unfold wOn;rw [if_neg (by omega)]) (by unfold wMode;rw [if_neg (by omega)]) k.1,bel (by first|exact .inl k.2|exact .inr (.inl k.2)|exact .inr (.inr (.inl k.2))|exact .inr (.inr (.inr (.inl k.2)))|exact .inr (.inr (.inr (.inr (.inl k.2))))|exact .inr (.inr (.inr (.inr (.inr (.inl k.2)))))|exact .inr (.inr (.inr (.inr (.inr (.inr k.2))))))⟩)
   ·exact (written_23 rom bank ram rb on mode addr v w v0 v1 q.1 q.2).mono (fun e w' k=>⟨fin1 (by unfold wBank;rw [if_neg (by omega)]) (by unfold wRam;rw [if_neg (by omega)]) (by unfold wRb;rw [if_neg (by omega)]) (by unfold wOn;rw [if_neg (by omega)]) (by unfold wMode;rw [if_neg (by omega)]) k.1,bel (by first|exact .inl k.2|exact .inr (.inl k.2)|exact .inr (.inr (.inl k.2))|exact .inr (.inr (.inr (.inl k.2)))|exact .inr (.inr (.inr (.inr (.inl k.2))))|exact .inr (.inr (.inr (.inr (.inr (.inl k.2)))))|exact .inr (.inr (.inr (.inr (.inr (.inr k.2))))))⟩)
theorem swrite_right (rom:ByteArray) (kind bank:Int) (ram:ByteArray) (rb:Int) (on:Bool) (mode:Int) (addr v:Int) (w:World) (hs:rom.size<=maxLen) (hr:ram.size<=maxLen) (h:okB rom kind bank ram rb on mode=true) (hw:inB addr 0 65535=true) (hb:inB v 0 255=true) :
  Calls prog 237 #[.agg #[.string rom,.int .i64 kind,.int .i64 bank,.string ram,.int .i64 rb,.bool on,.int .i64 mode],.int .i64 addr,.int .i64 v] w fun e w'=>e=.returned (wrote rom kind bank ram rb on mode addr v)/\Below w.heap.size w w':=by
 obtain ⟨n,n0,n1,hn,hbk,hm,b0,b1,r0,r1,m0,m1,hk⟩:=right rom kind bank ram rb on mode h
 obtain ⟨a0,a1⟩:=of_decide_eq_true hw
 obtain ⟨v0,v1⟩:=of_decide_eq_true hb
 unfold wrote
 by_cases big:512<=addr
 ·by_cases hyes:on=true/\40960<=addr/\addr<41024
  ·obtain ⟨rfl,y0,y1⟩:=hyes
   have hk':kind=1 \/ kind=2:=by
    rcases hk with hk|hk|hk
    ·exact absurd hk.2 (by decide)
    ·exact .inl hk
    ·exact .inr hk.1
   rcases hk' with rfl|rfl
   ·exact (swrite_1yes rom bank ram rb mode addr v _ w v0 v1 hm r0 r1 y0 y1 rfl).mono (fun e w' k=>⟨fin1 (by unfold wBank;rw [if_neg (by omega)]) (by unfold wRam;rw [if_pos (by omega),if_pos rfl]) (by unfold wRb;rw [if_neg (by omega)]) (by unfold wOn;rw [if_neg (by omega)]) (by unfold wMode;rw [if_neg (by omega)]) k.1,bel (by first|exact .inl k.2|exact .inr (.inl k.2)|exact .inr (.inr (.inl k.2))|exact .inr (.inr (.inr (.inl k.2)))|exact .inr (.inr (.inr (.inr (.inl k.2))))|exact .inr (.inr (.inr (.inr (.inr (.inl k.2)))))|exact .inr (.inr (.inr (.inr (.inr (.inr k.2))))))⟩)
   ·exact (swrite_2yes rom bank ram rb mode addr v _ w v0 v1 hm r0 r1 y0 y1 rfl).mono (fun e w' k=>⟨fin1 (by unfold wBank;rw [if_neg (by omega)]) (by unfold wRam;rw [if_pos (by omega),if_pos rfl]) (by unfold wRb;rw [if_neg (by omega)]) (by unfold wOn;rw [if_neg (by omega)]) (by unfold wMode;rw [if_neg (by omega)]) k.1,bel (by first|exact .inl k.2|exact .inr (.inl k.2)|exact .inr (.inr (.inl k.2))|exact .inr (.inr (.inr (.inl k.2)))|exact .inr (.inr (.inr (.inr (.inl k.2))))|exact .inr (.inr (.inr (.inr (.inr (.inl k.2)))))|exact .inr (.inr (.inr (.inr (.inr (.inr k.2))))))⟩)
  ·have hno:on=false \/ addr<40960 \/ 41024<=addr:=by cases on <;> simp at hyes |-;omega
   rcases hk with ⟨rfl,hon⟩|rfl|⟨rfl,hmode⟩
   ·exact (swrite_0 rom bank ram rb on mode addr v w v0 v1).mono (fun e w' k=>⟨fin1 (by unfold wBank;rw [if_neg (by omega)]) (by unfold wRam;rcases hno with h|h|h;(split;rw [if_neg (by simp [h])];rfl);rw [if_neg (by omega)];rw [if_neg (by omega)]) (by unfold wRb;rw [if_neg (by omega)]) (by unfold wOn;rw [if_neg (by omega)]) (by unfold wMode;rw [if_neg (by omega)]) k.1,bel (by first|exact .inl k.2|exact .inr (.inl k.2)|exact .inr (.inr (.inl k.2))|exact .inr (.inr (.inr (.inl k.2)))|exact .inr (.inr (.inr (.inr (.inl k.2))))|exact .inr (.inr (.inr (.inr (.inr (.inl k.2)))))|exact .inr (.inr (.inr (.inr (.inr (.inr k.2))))))⟩)
   ·exact (swrite_1no rom bank ram rb on mode addr v w v0 v1 big hno).mono (fun e w' k=>⟨fin1 (by unfold wBank;rw [if_neg (by omega)]) (by unfold wRam;rcases hno with h|h|h;(split;rw [if_neg (by simp [h])];rfl);rw [if_neg (by omega)];rw [if_neg (by omega)]) (by unfold wRb;rw [if_neg (by omega)]) (by unfold wOn;rw [if_neg (by omega)]) (by unfold wMode;rw [if_neg (by omega)]) k.1,bel (by first|exact .inl k.2|exact .inr (.inl k.2)|exact .inr (.inr (.inl k.2))|exact .inr (.inr (.inr (.inl k.2)))|exact .inr (.inr (.inr (.inr (.inl k.2))))|exact .inr (.inr (.inr (.inr (.inr (.inl k.2)))))|exact .inr (.inr (.inr (.inr (.inr (.inr k.2))))))⟩)
   ·exact (swrite_2no rom bank ram rb on mode addr v w v0 v1 big hno).mono (fun e w' k=>⟨fin1 (by unfold wBank;rw [if_neg (by omega)]) (by unfold wRam;rcases hno with h|h|h;(split;rw [if_neg (by simp [h])];rfl);rw [if_neg (by omega)];rw [if_neg (by omega)]) (by unfold wRb;rw [if_neg (by omega)]) (by unfold wOn;rw [if_neg (by omega)]) (by unfold wMode;rw [if_neg (by omega)]) k.1,bel (by first|exact .inl k.2|exact .inr (.inl k.2)|exact .inr (.inr (.inl k.2))|exact .inr (.inr (.inr (.inl k.2)))|exact .inr (.inr (.inr (.inr (.inl k.2))))|exact .inr (.inr (.inr (.inr (.inr (.inl k.2)))))|exact .inr (.inr (.inr (.inr (.inr (.inr k.2))))))⟩)
 ·rcases hk with ⟨rfl,hon⟩|rfl|⟨rfl,hmode⟩
  ·exact (swrite_0 rom bank ram rb on mode addr v w v0 v1).mono (fun e w' k=>⟨fin1 (by unfold wBank;split;rw [if_neg (by omega),if_neg (by omega)];rfl) (by unfold wRam;rw [if_neg (by omega)]) (by unfold wRb;rw [if_neg (by omega)]) (by unfold wOn;rw [if_neg (by omega)]) (by unfold wMode;rw [if_neg (by omega)]) k.1,bel (by first|exact .inl k.2|exact .inr (.inl k.2)|exact .inr (.inr (.inl k.2))|exact .inr (.inr (.inr (.inl k.2)))|exact .inr (.inr (.inr (.inr (.inl k.2))))|exact .inr (.inr (.inr (.inr (.inr (.inl k.2)))))|exact .inr (.inr (.inr (.inr (.inr (.inr k.2))))))⟩)
  ·have q:addr<128 \/ (128<=addr/\addr<256) \/ (256<=addr/\addr<384) \/ (384<=addr/\addr<512):=by omega
   rcases q with q|q|q|q
   ·exact (swrite_10 rom bank ram rb on mode addr v w v0 v1 a0 q).mono (fun e w' k=>⟨fin1 (by unfold wBank;rw [if_neg (by omega)]) (by unfold wRam;rw [if_neg (by omega)]) (by unfold wRb;rw [if_neg (by omega)]) (by unfold wOn;rw [if_pos (by omega)]) (by unfold wMode;rw [if_neg (by omega)]) k.1,bel (by first|exact .inl k.2|exact .inr (.inl k.2)|exact .inr (.inr (.inl k.2))|exact .inr (.inr (.inr (.inl k.2)))|exact .inr (.inr (.inr (.inr (.inl k.2))))|exact .inr (.inr (.inr (.inr (.inr (.inl k.2)))))|exact .inr (.inr (.inr (.inr (.inr (.inr k.2))))))⟩)
   ·exact (swrite_11 rom bank ram rb on mode addr v w v0 v1 q.1 q.2).mono (fun e w' k=>⟨fin1 (by unfold wBank;rw [if_pos (by omega),if_pos rfl]) (by unfold wRam;rw [if_neg (by omega)]) (by unfold wRb;rw [if_neg (by omega)]) (by unfold wOn;rw [if_neg (by omega)]) (by unfold wMode;rw [if_neg (by omega)]) k.1,bel (by first|exact .inl k.2|exact .inr (.inl k.2)|exact .inr (.inr (.inl k.2))|exact .inr (.inr (.inr (.inl k.2)))|exact .inr (.inr (.inr (.inr (.inl k.2))))|exact .inr (.inr (.inr (.inr (.inr (.inl k.2)))))|exact .inr (.inr (.inr (.inr (.inr (.inr k.2))))))⟩)
   ·exact (swrite_12 rom bank ram rb on mode addr v w v0 v1 q.1 q.2).mono (fun e w' k=>⟨fin1 (by unfold wBank;rw [if_neg (by omega)]) (by unfold wRam;rw [if_neg (by omega)]) (by unfold wRb;rw [if_pos (by omega)]) (by unfold wOn;rw [if_neg (by omega)]) (by unfold wMode;rw [if_neg (by omega)]) k.1,bel (by first|exact .inl k.2|exact .inr (.inl k.2)|exact .inr (.inr (.inl k.2))|exact .inr (.inr (.inr (.inl k.2)))|exact .inr (.inr (.inr (.inr (.inl k.2))))|exact .inr (.inr (.inr (.inr (.inr (.inl k.2)))))|exact .inr (.inr (.inr (.inr (.inr (.inr k.2))))))⟩)
   ·exact (swrite_13 rom bank ram rb on mode addr v w v0 v1 q.1 q.2).mono (fun e w' k=>⟨fin1 (by unfold wBank;rw [if_neg (by omega)]) (by unfold wRam;rw [if_neg (by omega)]) (by unfold wRb;rw [if_neg (by omega)]) (by unfold wOn;rw [if_neg (by omega)]) (by unfold wMode;rw [if_pos (by omega)]) k.1,bel (by first|exact .inl k.2|exact .inr (.inl k.2)|exact .inr (.inr (.inl k.2))|exact .inr (.inr (.inr (.inl k.2)))|exact .inr (.inr (.inr (.inr (.inl k.2))))|exact .inr (.inr (.inr (.inr (.inr (.inl k.2)))))|exact .inr (.inr (.inr (.inr (.inr (.inr k.2))))))⟩)
  ·have q:addr<128 \/ (128<=addr/\addr<256) \/ (256<=addr/\addr<384) \/ (384<=addr/\addr<512):=by omega
   rcases q with q|q|q|q
   ·exact (swrite_20 rom bank ram rb on mode addr v w v0 v1 a0 q).mono (fun e w' k=>⟨fin1 (by unfold wBank;rw [if_neg (by omega)]) (by unfold wRam;rw [if_neg (by omega)]) (by unfold wRb;rw [if_neg (by omega)]) (by unfold wOn;rw [if_pos (by omega)]) (by unfold wMode;rw [if_neg (by omega)]) k.1,bel (by first|exact .inl k.2|exact .inr (.inl k.2)|exact .inr (.inr (.inl k.2))|exact .inr (.inr (.inr (.inl k.2)))|exact .inr (.inr (.inr (.inr (.inl k.2))))|exact .inr (.inr (.inr (.inr (.inr (.inl k.2)))))|exact .inr (.inr (.inr (.inr (.inr (.inr k.2))))))⟩)
   ·exact (swrite_21 rom bank ram rb on mode addr v w v0 v1 q.1 q.2).mono (fun e w' k=>⟨fin1 (by unfold wBank;rw [if_pos (by omega),if_neg (by omega),if_pos rfl]) (by unfold wRam;rw [if_neg (by omega)]) (by unfold wRb;rw [if_neg (by omega)]) (by unfold wOn;rw [if_neg (by omega)]) (by unfold wMode;rw [if_neg (by omega)]) k.1,bel (by first|exact .inl k.2|exact .inr (.inl k.2)|exact .inr (.inr (.inl k.2))|exact .inr (.inr (.inr (.inl k.2)))|exact .inr (.inr (.inr (.inr (.inl k.2))))|exact .inr (.inr (.inr (.inr (.inr (.inl k.2)))))|exact .inr (.inr (.inr (.inr (.inr (.inr k.2))))))⟩)
   ·exact (swrite_22 rom bank ram rb on mode addr v w v0 v1 q.1 q.2).mono (fun e w' k=>⟨fin1 (by unfold wBank;rw [if_neg (by omega)]) (by unfold wRam;rw [if_neg (by omega)]) (by unfold wRb;rw [if_pos (by omega)]) (by unfold wOn;rw [if_neg (by omega)]) (by unfold wMode;rw [if_neg (by omega)]) k.1,bel (by first|exact .inl k.2|exact .inr (.inl k.2)|exact .inr (.inr (.inl k.2))|exact .inr (.inr (.inr (.inl k.2)))|exact .inr (.inr (.inr (.inr (.inl k.2))))|exact .inr (.inr (.inr (.inr (.inr (.inl k.2)))))|exact .inr (.inr (.inr (.inr (.inr (.inr k.2))))))⟩)
   ·exact (swrite_23 rom bank ram rb on mode addr v w v0 v1 q.1 q.2).mono (fun e w' k=>⟨fin1 (by unfold wBank;rw [if_neg (by omega)]) (by unfold wRam;rw [if_neg (by omega)]) (by unfold wRb;rw [if_neg (by omega)]) (by unfold wOn;rw [if_neg (by omega)]) (by unfold wMode;rw [if_neg (by omega)]) k.1,bel (by first|exact .inl k.2|exact .inr (.inl k.2)|exact .inr (.inr (.inl k.2))|exact .inr (.inr (.inr (.inl k.2)))|exact .inr (.inr (.inr (.inr (.inl k.2))))|exact .inr (.inr (.inr (.inr (.inr (.inl k.2)))))|exact .inr (.inr (.inr (.inr (.inr (.inr k.2))))))⟩)
end CartU
namespace MachK
open Go.Deep
open Signed (inB ret_int ret_bool isByte_any l1In_any)
open Carts CartK CartL CartR CartX Outs Mach MachT MachO
def okM (ra rf rB rC rD rE rH rL sp pc:Int) (cart:Bool) (work high:Nat) (L:List Int) (cyc:Int):Bool :=
 cpuB ra rf rB rC rD rE rH rL sp pc && cart && work == 256 && high == 127 && decide (L.length<=100) && byteL L && decide (0<=cyc) && decide (cyc<=1000000000)
theorem implM_any (ra rf rB rC rD rE rH rL sp pc:Int) (ime hal:Bool) (rom:ByteArray) (kind bank:Int) (ram:ByteArray) (rb:Int) (on:Bool) (mode:Int) (work high:ByteArray) (po:Option Addr) (L:List Int) (cap:Nat) (cyc:Int) (w:World) (z1:rom.size<=maxLen) (z2:ram.size<=maxLen) (z3:work.size<=1048576) (z4:high.size<=1048576) (hN:Row w po L) (hlen:L.length<=1048576) :
  Calls prog 37 #[.agg #[.int .i64 ra,.int .i64 rf,.int .i64 rB,.int .i64 rC,.int .i64 rD,.int .i64 rE,.int .i64 rH,.int .i64 rL,.int .i64 sp,.int .i64 pc,.bool ime,.bool hal,.string rom,.int .i64 kind,.int .i64 bank,.string ram,.int .i64 rb,.bool on,.int .i64 mode,.string work,.string high,.slice po L.length cap,.int .i64 cyc]] w fun e w'=>e=.returned (.bool (okM ra rf rB rC rD rE rH rL sp pc (okB rom kind bank ram rb on mode) work.size high.size L cyc))/\Below w.heap.size w w':=by
 have HN:Hid (Row w po L):=hN
 have c1:=fun w=>cpuOk_any ra rf rB rC rD rE rH rL sp pc ime hal w
 have c6:=fun W h=>allBytes_any po cap L W h hlen
 obtain ⟨b1,h1⟩ : ∃ b,cpuB ra rf rB rC rD rE rH rL sp pc=b:=⟨_,rfl⟩
 obtain ⟨b6,h6⟩ : ∃ b,byteL L=b:=⟨_,rfl⟩
 obtain ⟨r,hr⟩ : ∃ r,r=okM ra rf rB rC rD rE rH rL sp pc (okB rom kind bank ram rb on mode) work.size high.size L cyc:=⟨_,rfl⟩
 obtain ⟨len,hl⟩ : ∃ len,len=L.length:=⟨_,rfl⟩
 have he:r=(b1 && okB rom kind bank ram rb on mode && work.size == 256 && high.size == 127 && decide (len<=100) && b6 && decide (0<=cyc) && decide (cyc<=1000000000)):=by rw [hr,hl];unfold okM;rw [h1,h6]
 have HE:Hid (r=(b1 && okB rom kind bank ram rb on mode && work.size == 256 && high.size == 127 && decide (len<=100) && b6 && decide (0<=cyc) && decide (cyc<=1000000000))):=he
 clear he
 rw [h1] at c1
 rw [h6,<- hl] at c6
 rw [<- hl] at hlen
 rw [<- hr,<- hl]
 clear hr hl h1 h6 hN
 go_enter func37,ntmps37
 go_wp2_with fail
 refine (c1 _).mono ?_
 rintro e w1 ⟨rfl,o1,o2,rfl⟩
 clear c1
 cases b1
 ·go_wp2
  go_ret
  exact ⟨ret_bool (by rw [HE.out];simp),by repeat (with_reducible first|exact zRf|refine zGr ?_ _|refine below_drewN ?_ _|refine Below.drew ?_)⟩
 cases h2:okB rom kind bank ram rb on mode with
 | false =>
  have c2:=fun w=>implOk_any rom kind bank ram rb on mode w z1 z2
  rw [h2] at c2 HE
  clear h2
  go_wp2_with (go_at_call 77;refine (c2 _).mono ?_;rintro e w' ⟨rfl,hbel⟩)
  go_ret
  exact ⟨ret_bool (by rw [HE.out];simp),CartL.after (by repeat (with_reducible first|exact zRf|refine zGr ?_ _|refine below_drewN ?_ _|refine Below.drew ?_)) hbel⟩
 | true =>
 have c2:=fun w=>implOk_yes rom kind bank ram rb on mode w z1 z2 h2
 rw [h2] at HE
 clear h2
 go_wp2_with fail
 refine (c2 _).mono ?_
 rintro e w1 ⟨rfl,T,rfl⟩
 clear c2
 by_cases k3:work.size=256
 rotate_left
 ·have d:((work.size:Int) == 256)=false:=by first|exact decide_eq_false (by omega)|(simp;omega)
  have d':(work.size == 256)=false:=by first|exact decide_eq_false (by omega)|(simp;omega)
  rw [d'] at HE
  clear d'
  go_wp2
  go_ret
  exact ⟨ret_bool (by rw [HE.out];simp),by repeat (with_reducible first|exact zRf|refine zGr ?_ _|refine below_drewN ?_ _|refine Below.drew ?_)⟩
 have Dk3:((work.size:Int) == 256)=true:=by first|exact decide_eq_true (by omega)|(simp;omega)
 have d':(work.size == 256)=true:=by first|exact decide_eq_true (by omega)|(simp;omega)
 rw [d'] at HE
 clear d'
 by_cases k4:high.size=127
 rotate_left
 ·have d:((high.size:Int) == 127)=false:=by first|exact decide_eq_false (by omega)|(simp;omega)
  have d':(high.size == 127)=false:=by first|exact decide_eq_false (by omega)|(simp;omega)
  rw [d'] at HE
  clear d'
  go_wp2
  go_ret
  exact ⟨ret_bool (by rw [HE.out];simp),by repeat (with_reducible first|exact zRf|refine zGr ?_ _|refine below_drewN ?_ _|refine Below.drew ?_)⟩
 have Dk4:((high.size:Int) == 127)=true:=by first|exact decide_eq_true (by omega)|(simp;omega)
 have d':(high.size == 127)=true:=by first|exact decide_eq_true (by omega)|(simp;omega)
 rw [d'] at HE
 clear d'
 by_cases k5:len<=100
 rotate_left
 ·have d:(decide ((len:Int)<=100))=false:=by first|exact decide_eq_false (by omega)|(simp;omega)
  have d':(decide (len<=100))=false:=by first|exact decide_eq_false (by omega)|(simp;omega)
  rw [d'] at HE
  clear d'
  go_wp2
  go_ret
  exact ⟨ret_bool (by rw [HE.out];simp),by repeat (with_reducible first|exact zRf|refine zGr ?_ _|refine below_drewN ?_ _|refine Below.drew ?_)⟩
 have Dk5:(decide ((len:Int)<=100))=true:=by first|exact decide_eq_true (by omega)|(simp;omega)
 have d':(decide (len<=100))=true:=by first|exact decide_eq_true (by omega)|(simp;omega)
 rw [d'] at HE
 clear d'
 go_wp2_with fail
 refine Calls.mono (c6 _ ?_) ?_
 ·exact HN.out.below (by repeat (with_reducible first|exact zRf|refine zGr ?_ _|refine below_drewN ?_ _|refine Below.drew ?_))
 rintro e w1 ⟨rfl,rfl⟩
 clear c6
 cases b6
 ·go_wp2
  go_ret
  exact ⟨ret_bool (by rw [HE.out];simp),by repeat (with_reducible first|exact zRf|refine zGr ?_ _|refine below_drewN ?_ _|refine Below.drew ?_)⟩
 by_cases k7:0<=cyc
 rotate_left
 ·have d:(decide (0<=cyc))=false:=by first|exact decide_eq_false (by omega)|(simp;omega)
  have d':(decide (0<=cyc))=false:=by first|exact decide_eq_false (by omega)|(simp;omega)
  rw [d'] at HE
  clear d'
  go_wp2
  go_ret
  exact ⟨ret_bool (by rw [HE.out];simp),by repeat (with_reducible first|exact zRf|refine zGr ?_ _|refine below_drewN ?_ _|refine Below.drew ?_)⟩
 have Dk7:(decide (0<=cyc))=true:=by first|exact decide_eq_true (by omega)|(simp;omega)
 have d':(decide (0<=cyc))=true:=by first|exact decide_eq_true (by omega)|(simp;omega)
 rw [d'] at HE
 clear d'
 go_wp2
 go_ret
 exact ⟨ret_bool (by rw [HE.out];simp),by repeat (with_reducible first|exact zRf|refine zGr ?_ _|refine below_drewN ?_ _|refine Below.drew ?_)⟩
theorem specM_any (ra rf rB rC rD rE rH rL sp pc:Int) (ime hal:Bool) (rom:ByteArray) (kind bank:Int) (ram:ByteArray) (rb:Int) (on:Bool) (mode:Int) (work high:ByteArray) (po:Option Addr) (L:List Int) (cap:Nat) (cyc:Int) (w:World) (z1:rom.size<=maxLen) (z2:ram.size<=maxLen) (z3:work.size<=1048576) (z4:high.size<=1048576) (hN:Row w po L) (hlen:L.length<=1048576) :
  Calls prog 19 #[.agg #[.int .i64 ra,.int .i64 rf,.int .i64 rB,.int .i64 rC,.int .i64 rD,.int .i64 rE,.int .i64 rH,.int .i64 rL,.int .i64 sp,.int .i64 pc,.bool ime,.bool hal,.string rom,.int .i64 kind,.int .i64 bank,.string ram,.int .i64 rb,.bool on,.int .i64 mode,.string work,.string high,.slice po L.length cap,.int .i64 cyc]] w fun e w'=>e=.returned (.bool (okM ra rf rB rC rD rE rH rL sp pc (okB rom kind bank ram rb on mode) work.size high.size L cyc))/\Below w.heap.size w w':=by
 have HN:Hid (Row w po L):=hN
 obtain ⟨R,hR⟩ : ∃ R,R=regL ra rf rB rC rD rE rH rL:=⟨_,rfl⟩
 have HR8:Hid (R.length=8):=by rw [hR];exact (rfl:(8:Nat)=8)
 have hrf:Hid (byteL R=true->0<=rf/\rf<=255):=fun h=>regL_rf (by rw [<- hR];exact h)
 obtain ⟨r,hr⟩ : ∃ r,r=okM ra rf rB rC rD rE rH rL sp pc (okB rom kind bank ram rb on mode) work.size high.size L cyc:=⟨_,rfl⟩
 obtain ⟨len,hl⟩ : ∃ len,len=L.length:=⟨_,rfl⟩
 have he:r=(byteL R && rf%16 == 0 && inB sp 0 65535 && inB pc 0 65535 && okB rom kind bank ram rb on mode && work.size == 256 && high.size == 127 && decide (len<=100) && byteL L && decide (0<=cyc) && decide (cyc<=1000000000)):=by rw [hr,hl];unfold okM cpuB;rw [<- hR]
 have HE:Hid (r=(byteL R && rf%16 == 0 && inB sp 0 65535 && inB pc 0 65535 && okB rom kind bank ram rb on mode && work.size == 256 && high.size == 127 && decide (len<=100) && byteL L && decide (0<=cyc) && decide (cyc<=1000000000))):=he
 have HL:Hid (len=L.length):=hl
 have HRR:Hid (∀ (u:World) (T:TypeId),Row (u.alloc (.cells #[.int .i64 ra,.int .i64 rf,.int .i64 rB,.int .i64 rC,.int .i64 rD,.int .i64 rE,.int .i64 rH,.int .i64 rL] T)) (some ⟨u.heap.size,0,none⟩) R):=fun u T=>by rw [hR];exact reg_row u ra rf rB rC rD rE rH rL T
 rw [<- hl] at hlen
 rw [<- hr,<- hl]
 clear hN hr hl he hR
 go_enter func19,ntmps19
 go_wp2
 obtain ⟨W,hW⟩ : ∃ W,W=((w.alloc (.cells #[.int .i64 ra,.int .i64 rf,.int .i64 rB,.int .i64 rC,.int .i64 rD,.int .i64 rE,.int .i64 rH,.int .i64 rL,.int .i64 sp,.int .i64 pc,.bool ime,.bool hal,.string rom,.int .i64 kind,.int .i64 bank,.string ram,.int .i64 rb,.bool on,.int .i64 mode,.string work,.string high,.slice po len cap,.int .i64 cyc] 30)).alloc (.cells #[.int .i64 ra,.int .i64 rf,.int .i64 rB,.int .i64 rC,.int .i64 rD,.int .i64 rE,.int .i64 rH,.int .i64 rL,.int .i64 sp,.int .i64 pc,.bool ime,.bool hal] 25)).alloc (.cells #[.int .i64 ra,.int .i64 rf,.int .i64 rB,.int .i64 rC,.int .i64 rD,.int .i64 rE,.int .i64 rH,.int .i64 rL] 2):=⟨_,rfl⟩
 rw [<- hW]
 have hb3:Below (((w.alloc (.cells #[.int .i64 ra,.int .i64 rf,.int .i64 rB,.int .i64 rC,.int .i64 rD,.int .i64 rE,.int .i64 rH,.int .i64 rL,.int .i64 sp,.int .i64 pc,.bool ime,.bool hal,.string rom,.int .i64 kind,.int .i64 bank,.string ram,.int .i64 rb,.bool on,.int .i64 mode,.string work,.string high,.slice po len cap,.int .i64 cyc] 30)).alloc (.cells #[.int .i64 ra,.int .i64 rf,.int .i64 rB,.int .i64 rC,.int .i64 rD,.int .i64 rE,.int .i64 rH,.int .i64 rL,.int .i64 sp,.int .i64 pc,.bool ime,.bool hal] 25)).alloc (.cells #[.int .i64 ra,.int .i64 rf,.int .i64 rB,.int .i64 rC,.int .i64 rD,.int .i64 rE,.int .i64 rH,.int .i64 rL] 2)).heap.size (((w.alloc (.cells #[.int .i64 ra,.int .i64 rf,.int .i64 rB,.int .i64 rC,.int .i64 rD,.int .i64 rE,.int .i64 rH,.int .i64 rL,.int .i64 sp,.int .i64 pc,.bool ime,.bool hal,.string rom,.int .i64 kind,.int .i64 bank,.string ram,.int .i64 rb,.bool on,.int .i64 mode,.string work,.string high,.slice po len cap,.int .i64 cyc] 30)).alloc (.cells #[.int .i64 ra,.int .i64 rf,.int .i64 rB,.int .i64 rC,.int .i64 rD,.int .i64 rE,.int .i64 rH,.int .i64 rL,.int .i64 sp,.int .i64 pc,.bool ime,.bool hal] 25)).alloc (.cells #[.int .i64 ra,.int .i64 rf,.int .i64 rB,.int .i64 rC,.int .i64 rD,.int .i64 rE,.int .i64 rH,.int .i64 rL] 2)) W:=by rw [hW];exact zRf
 obtain ⟨k1,k2,k3⟩:=blk1 hb3
 have hsz:W.heap.size=w.heap.size+1+1+1:=by rw [hW];simp only [World.size_alloc]
 have hbw:Below w.heap.size w W:=by
  rw [hW]
  exact (by repeat (with_reducible first|exact zRf|refine zGr ?_ _|refine below_drewN ?_ _|refine Below.drew ?_))
 have HB:Hid (Below w.heap.size w W):=hbw
 clear hbw
 have HRow:=zHd (HN.out.below HB.out)
 have HReg:Hid (∀ j (h:j<R.length),W.cell? ⟨w.heap.size+1+1,j,none⟩=some (.int .i64 R[j])):=by
  have h:=HRR.out ((w.alloc (.cells #[.int .i64 ra,.int .i64 rf,.int .i64 rB,.int .i64 rC,.int .i64 rD,.int .i64 rE,.int .i64 rH,.int .i64 rL,.int .i64 sp,.int .i64 pc,.bool ime,.bool hal,.string rom,.int .i64 kind,.int .i64 bank,.string ram,.int .i64 rb,.bool on,.int .i64 mode,.string work,.string high,.slice po len cap,.int .i64 cyc] 30)).alloc (.cells #[.int .i64 ra,.int .i64 rf,.int .i64 rB,.int .i64 rC,.int .i64 rD,.int .i64 rE,.int .i64 rH,.int .i64 rL,.int .i64 sp,.int .i64 pc,.bool ime,.bool hal] 25)) 2
  rw [<- hW] at h
  simp only [World.size_alloc] at h
  rcases h with h|⟨b,off,h1,_,h3⟩
  ·intro j hj;rw [h] at hj;exact absurd hj (by simp)
  ·intro j hj
   have e:b=w.heap.size+1+1/\off=0:=by
    have:=Option.some.inj h1
    injection this with q1 q2 q3
    exact ⟨q1.symm,q2.symm⟩
   have:=h3 j hj
   rw [e.1,e.2,Nat.zero_add] at this
   exact this
 have g21:=cel k1 21 _ rfl
 have K1:Hid (_=_):=k1
 have K2:Hid (_=_):=k2
 clear hW hb3 k1 k2 k3 HN HRR
 go_loopw [5] (fun i wr=>∃ k:Nat,k<=8/\i=.int .i64 k/\wr=W/\Hid (∀ j (hj:j<R.length),j<k->inB R[j] 0 255=true)) (fun i _=>8-(intOf i).toNat)
 case atStart=>exact ⟨0,by omega,rfl,rfl,fun j _ h=>absurd h (Nat.not_lt_zero _)⟩
 case round =>
 obtain ⟨k,hk,rfl,hw,hall⟩:=hrel
 subst wr
 by_cases hlt:k<8
 ·have hkL:k<R.length:=by have:=HR8.out;omega
  have c0:=HReg.out k hkL
  have hno:Hid (inB R[k] 0 255=false->byteL R=false):=fun h=>byteL_no hkL h
  have hgo:Hid (inB R[k] 0 255=true->∀ j (hj:j<R.length),j<k+1->inB R[j] 0 255=true):=fun h j hj hjk=>by
   by_cases e:j=k
   ·subst e;exact h
   ·exact hall.out j hj (by omega)
  generalize R[k]=n at c0 hno hgo
  have ci:=fun w=>l4Byte_any n w
  clear g21
  cases hb2:inB n 0 255 with
  | false =>
   rw [hb2] at ci
   have er:=hno.out hb2
   rw [er] at HE
   clear hb2 hno hgo hall
   go_wp2_with (go_at_call 53;refine (ci _).mono ?_;rintro e w' ⟨rfl,rfl⟩)
   go_ret
   exact ⟨ret_bool (by rw [HE.out];simp),HB.out⟩
  | true =>
   rw [hb2] at ci
   have HG:Hid (∀ j (hj:j<R.length),j<k+1->inB R[j] 0 255=true):=hgo.out hb2
   clear hb2 hno hgo hall
   go_wp2_with (go_at_call 53;refine (ci _).mono ?_;rintro e w' ⟨rfl,rfl⟩)
   go_roundw
   case rel=>exact ⟨k+1,by omega,by go_num,trivial,HG.out⟩
   case measure=>simp [intOf];omega
 have eR:byteL R=true:=byteL_yes fun j hj=>hall.out j hj (by have:=HR8.out;omega)
 rw [eR] at HE
 obtain ⟨f0,f1⟩:=hrf.out eR
 have e8:k=8:=by omega
 subst e8
 clear eR hall hrf HReg HR8
 go_wp2
 go_loopw [6] (fun i wr=>∃ k:Nat,k<=len/\i=.int .i64 k/\wr=W/\Hid (∀ j (hj:j<L.length),j<k->inB L[j] 0 255=true)) (fun i _=>len-(intOf i).toNat)
 case atStart=>exact ⟨0,by omega,rfl,rfl,fun j _ h=>absurd h (Nat.not_lt_zero _)⟩
 case round =>
 obtain ⟨k,hk,rfl,hw,hall⟩:=hrel
 subst wr
 by_cases hlt:k<len
 ·have hkL:k<L.length:=by have:=HL.out;omega
  rcases HRow.out with hnil|⟨b,off,rfl,hb,hc⟩
  ·exfalso;rw [hnil] at hkL;exact absurd hkL (by simp)
  have c0:=hc k hkL
  clear hc
  have hno:Hid (inB L[k] 0 255=false->byteL L=false):=fun h=>byteL_no hkL h
  have hgo:Hid (inB L[k] 0 255=true->∀ j (hj:j<L.length),j<k+1->inB L[j] 0 255=true):=fun h j hj hjk=>by
   by_cases e:j=k
   ·subst e;exact h
   ·exact hall.out j hj (by omega)
  generalize L[k]=n at c0 hno hgo
  have ci:=fun w=>l4Byte_any n w
  cases hb2:inB n 0 255 with
  | false =>
   rw [hb2] at ci
   have er:=hno.out hb2
   rw [er] at HE
   clear hb2 hno hgo hall
   go_wp2_with (go_at_call 53;refine (ci _).mono ?_;rintro e w' ⟨rfl,rfl⟩)
   go_ret
   exact ⟨ret_bool (by rw [HE.out];simp),HB.out⟩
  | true =>
   rw [hb2] at ci
   have HG:Hid (∀ j (hj:j<L.length),j<k+1->inB L[j] 0 255=true):=hgo.out hb2
   clear hb2 hno hgo hall
   go_wp2_with (go_at_call 53;refine (ci _).mono ?_;rintro e w' ⟨rfl,rfl⟩)
   go_roundw
   case rel =>
    (repeat apply Exists.intro)
    refine ⟨⟨k+1,by omega,?_,trivial,HG.out⟩,rfl⟩
    go_num
   case measure=>simp [intOf];omega
 have eL:byteL L=true:=byteL_yes fun j hj=>hall.out j hj (by have:=HL.out;omega)
 rw [eL] at HE
 have e8:len=k:=by omega
 subst e8
 clear eL hall HRow HL hlt hk
 have g1:=cel K2.out 1 _ rfl
 have g8:=cel K2.out 8 _ rfl
 have g9:=cel K2.out 9 _ rfl
 have m12:=cel K1.out 12 _ rfl
 have m13:=cel K1.out 13 _ rfl
 have m14:=cel K1.out 14 _ rfl
 have m15:=cel K1.out 15 _ rfl
 have m16:=cel K1.out 16 _ rfl
 have m17:=cel K1.out 17 _ rfl
 have m18:=cel K1.out 18 _ rfl
 have m19:=cel K1.out 19 _ rfl
 have m20:=cel K1.out 20 _ rfl
 have m22:=cel K1.out 22 _ rfl
 clear K1 K2
 have csp:=fun w=>l4Word_any sp w
 have cpc:=fun w=>l4Word_any pc w
 have co:=fun w=>specOk_any rom kind bank ram rb on mode w z1 z2
 by_cases k1:rf%16=0
 rotate_left
 ·have d:(rf%16 == 0)=false:=by simp;omega
  rw [d] at HE
  go_wp2
  go_ret
  exact ⟨ret_bool (by rw [HE.out];simp),HB.out⟩
 have D1:(rf%16 == 0)=true:=by simp;omega
 rw [D1] at HE
 cases h2:inB sp 0 65535 with
 | false =>
  rw [h2] at csp HE
  clear h2
  go_wp2_with (go_at_call 54;refine (csp _).mono ?_;rintro e w' ⟨rfl,rfl⟩)
  go_ret
  exact ⟨ret_bool (by rw [HE.out];simp),HB.out⟩
 | true =>
 rw [h2] at csp HE
 clear h2
 cases h3:inB pc 0 65535 with
 | false =>
  rw [h3] at cpc HE
  clear h3
  go_wp2_with first|(go_at_call_of 54 sp;refine (csp _).mono ?_;rintro e w' ⟨rfl,rfl⟩)|(go_at_call_of 54 pc;refine (cpc _).mono ?_;rintro e w' ⟨rfl,rfl⟩)
  go_ret
  exact ⟨ret_bool (by rw [HE.out];simp),HB.out⟩
 | true =>
 rw [h3] at cpc HE
 clear h3
 cases h4:okB rom kind bank ram rb on mode with
 | false =>
  rw [h4] at co HE
  clear h4
  go_wp2_with first|(go_at_call_of 54 sp;refine (csp _).mono ?_;rintro e w' ⟨rfl,rfl⟩)|(go_at_call_of 54 pc;refine (cpc _).mono ?_;rintro e w' ⟨rfl,rfl⟩)|(go_at_call 55;refine (co _).mono ?_;rintro e w' ⟨rfl,rfl⟩)
  go_ret
  exact ⟨ret_bool (by rw [HE.out];simp),HB.out.alloc HB.out.size _⟩
 | true =>
 rw [h4] at co HE
 clear h4
 go_wp2_with first|(go_at_call_of 54 sp;refine (csp _).mono ?_;rintro e w' ⟨rfl,rfl⟩)|(go_at_call_of 54 pc;refine (cpc _).mono ?_;rintro e w' ⟨rfl,rfl⟩)
 refine (co _).mono ?_
 rintro e w1 ⟨rfl,rfl⟩
 clear csp cpc co g1 g8 g9 m12 m13 m14 m15 m16 m17 m18
 by_cases k5:work.size=256
 rotate_left
 ·have d:((work.size:Int) == 256)=false:=by first|exact decide_eq_false (by omega)|(simp;omega)
  have d':(work.size == 256)=false:=by first|exact decide_eq_false (by omega)|(simp;omega)
  rw [d'] at HE
  clear d'
  go_wp2
  go_ret
  exact ⟨ret_bool (by rw [HE.out];simp),HB.out.alloc HB.out.size _⟩
 have Dk5:((work.size:Int) == 256)=true:=by first|exact decide_eq_true (by omega)|(simp;omega)
 have d':(work.size == 256)=true:=by first|exact decide_eq_true (by omega)|(simp;omega)
 rw [d'] at HE
 clear d'
 by_cases k6:high.size=127
 rotate_left
 ·have d:((high.size:Int) == 127)=false:=by first|exact decide_eq_false (by omega)|(simp;omega)
  have d':(high.size == 127)=false:=by first|exact decide_eq_false (by omega)|(simp;omega)
  rw [d'] at HE
  clear d'
  go_wp2
  go_ret
  exact ⟨ret_bool (by rw [HE.out];simp),HB.out.alloc HB.out.size _⟩
 have Dk6:((high.size:Int) == 127)=true:=by first|exact decide_eq_true (by omega)|(simp;omega)
 have d':(high.size == 127)=true:=by first|exact decide_eq_true (by omega)|(simp;omega)
 rw [d'] at HE
 clear d'
 by_cases k7:len<=100
 rotate_left
 ·have d:(decide ((len:Int)<=100))=false:=by first|exact decide_eq_false (by omega)|(simp;omega)
  have d':(decide (len<=100))=false:=by first|exact decide_eq_false (by omega)|(simp;omega)
  rw [d'] at HE
  clear d'
  go_wp2
  go_ret
  exact ⟨ret_bool (by rw [HE.out];simp),HB.out.alloc HB.out.size _⟩
 have Dk7:(decide ((len:Int)<=100))=true:=by first|exact decide_eq_true (by omega)|(simp;omega)
 have d':(decide (len<=100))=true:=by first|exact decide_eq_true (by omega)|(simp;omega)
 rw [d'] at HE
 clear d'
 have hcy:inB cyc 0 1000000000=(decide (0<=cyc) && decide (cyc<=1000000000)):=by
  unfold inB
  rw [Bool.eq_iff_iff]
  simp
 go_wp2_with (go_at_call 42;refine (l1In_any _ _ _ _).mono ?_;rintro e w' ⟨rfl,rfl⟩)
 go_ret
 refine ⟨?_,HB.out.alloc HB.out.size _⟩
 exact ret_bool (by rw [HE.out];simp)
end MachK
namespace ReadI
open HolI LenX
def byteAt (s:ByteArray) (i:Int):Int:=if h:i.toNat<s.size then ((s[i.toNat]'h).toNat:Int) else 0
theorem byteAt_eq {s:ByteArray} {i:Int} (h:i.toNat<s.size):((s[i.toNat]'h).toNat:Int)=byteAt s i:=by unfold byteAt;rw [dif_pos h]
theorem byteAt_bd (s:ByteArray) (i:Int):0<=byteAt s i/\byteAt s i<=255:=by
 unfold byteAt
 split
 ·rename_i h
  have:=(s[i.toNat]'h).toNat_lt
  omega
 ·omega
theorem ix (s:ByteArray) (i:Int) (h0:0<=i) (h1:i<s.size) (w:World):(Instr.index 9 (.string s) (.int .i64 i)).run prog w=.ok (.int .u8 (byteAt s i)) w:=by
 rw [run_index_string w 9 s .i64 i underlying9,dif_pos ⟨h0,h1⟩,byteAt_eq (by omega)]
theorem l3At_any (s:ByteArray) (i:Int) (h0:0<=i) (h1:i<s.size) (w:World) :
  Calls prog 152 #[.string s,.int .i64 i] w fun e w'=>e=.returned (.int .i64 (byteAt s i))/\w'=w:=by
 have x:=ix s i h0 h1
 have b:=byteAt_bd s i
 generalize byteAt s i=B at x b
 have hb0:=b.1
 have hb1:=b.2
 have hw:IntKind.i64.wrap B=B:=by rw [IntKind.wrap_i64];omega
 go_enter func152,ntmps152
 go_wp2
 go_ret
 exact ⟨rfl,rfl⟩
def lenC (c:Int):Int:=lenV (none? c false) false (hole c false)
def zeroI:Value:=.agg #[.int .i64 0,.bool false,.int .i64 0]
def immV (s:ByteArray) (a n:Int):Int:=if n=1 then 0 else if n=2 then byteAt s (a+1) else byteAt s (a+1)+256*byteAt s (a+2)
def readI (s:ByteArray) (a:Int):Value :=
 if a<0 \/ s.size<=a then zeroI
 else if byteAt s a=203 then (if s.size-a<2 then zeroI else .agg #[.int .i64 (byteAt s (a+1)),.bool true,.int .i64 0])
 else if lenC (byteAt s a)=0 \/ s.size-a<lenC (byteAt s a) then zeroI else .agg #[.int .i64 (byteAt s a),.bool false,.int .i64 (immV s a (lenC (byteAt s a)))]
def readN (s:ByteArray) (a:Int):Int :=
 if a<0 \/ s.size<=a then 0
 else if byteAt s a=203 then (if s.size-a<2 then 0 else 2)
 else if lenC (byteAt s a)=0 \/ s.size-a<lenC (byteAt s a) then 0 else lenC (byteAt s a)
theorem lenC_cases (c:Int):lenC c=0 \/ lenC c=1 \/ lenC c=2 \/ lenC c=3:=by
 unfold lenC lenV
 split
 ·exact .inl rfl
 rw [if_neg (by decide)]
 split
 ·exact .inr (.inl rfl)
 split
 ·exact .inr (.inr (.inr rfl))
 ·exact .inr (.inr (.inl rfl))
def Tup (v:Value) (n:Int):Ending:=.returned (.tuple #[v,.int .i64 n])
theorem fro {w w':World} {vs:Array Value} {T:TypeId} (h:Below (w.alloc (.cells vs T)).heap.size (w.alloc (.cells vs T)) w') (i:Nat):w'.frozen? ⟨w.heap.size,i,none⟩=false:=by
 rw [h.frozen (p:=⟨w.heap.size,i,none⟩) (by simp)]
 exact World.frozen?_alloc_new w vs T i
theorem box2 {w w':World} {o:Obj} {vs:Array Value} {T:TypeId} (h:Below ((w.alloc o).alloc (.cells vs T)).heap.size ((w.alloc o).alloc (.cells vs T)) w') (i:Nat) (v:Value) (hv:vs[i]? = some v):w'.cell? ⟨w.heap.size+1,i,none⟩=some v:=by
 have:=box (w:=w.alloc o) h i v hv
 rwa [World.size_alloc] at this
theorem fro2 {w w':World} {o:Obj} {vs:Array Value} {T:TypeId} (h:Below ((w.alloc o).alloc (.cells vs T)).heap.size ((w.alloc o).alloc (.cells vs T)) w') (i:Nat):w'.frozen? ⟨w.heap.size+1,i,none⟩=false:=by
 have:=fro (w:=w.alloc o) h i
 rwa [World.size_alloc] at this
theorem first2 {w w':World} {o:Obj} {vs:Array Value} {T:TypeId} (h:Below ((w.alloc (.cells vs T)).alloc o).heap.size ((w.alloc (.cells vs T)).alloc o) w'):Below (w.alloc (.cells vs T)).heap.size (w.alloc (.cells vs T)) w':=unbox h
theorem spec_out (s:ByteArray) (a:Int) (w:World) (hs:s.size<=1048576) (hb:a<=9223372036854775807) (h:a<0 \/ s.size<=a) :
  Calls prog 101 #[.string s,.int .i64 a] w fun e w'=>e=Tup zeroI 0/\Below w.heap.size w w':=by
 by_cases h0:a<0
 ·go_enter func101,ntmps101
  go_wp2
  exact bodyPost_ret (v:=.tuple #[.agg #[.int .i64 0,.bool false,.int .i64 0],.int .i64 0]) (by simp [results,results101,go_sem]) rfl ⟨rfl,zAl _ _⟩
 ·have hw:(s.size:Int)-a<1:=by omega
  ·have hk:wrap64 ((s.size:Int)-a)=(s.size:Int)-a:=by unfold wrap64;omega
   go_enter func101,ntmps101
   go_wp2
   exact bodyPost_ret (v:=.tuple #[.agg #[.int .i64 0,.bool false,.int .i64 0],.int .i64 0]) (by simp [results,results101,go_sem]) rfl ⟨rfl,zAl _ _⟩
theorem spec_cb (s:ByteArray) (a:Int) (w:World) (hs:s.size<=1048576) (h0:0<=a) (h1:a<s.size) (hc:byteAt s a=203) :
  Calls prog 101 #[.string s,.int .i64 a] w fun e w'=>e=Tup (readI s a) (readN s a)/\Below w.heap.size w w':=by
 have e1:readI s a=(if s.size-a<2 then zeroI else .agg #[.int .i64 (byteAt s (a+1)),.bool true,.int .i64 0]):=by unfold readI;rw [if_neg (by omega),if_pos hc]
 have e2:readN s a=(if s.size-a<2 then 0 else 2):=by unfold readN;rw [if_neg (by omega),if_pos hc]
 rw [e1,e2]
 clear e1 e2
 have hk:wrap64 ((s.size:Int)-a)=(s.size:Int)-a:=by unfold wrap64;omega
 have hk1:¬ (s.size:Int)-a<1:=by omega
 have c:=fun w=>l3At_any s a h0 h1 w
 rw [hc] at c
 clear hc
 by_cases h2:(s.size:Int)-a<2
 ·rw [if_pos h2,if_pos h2]
  go_enter func101,ntmps101
  go_wp2_with (go_at_call 152;refine (c _).mono ?_;rintro e w' ⟨rfl,hw⟩;subst hw)
  exact bodyPost_ret (v:=.tuple #[.agg #[.int .i64 0,.bool false,.int .i64 0],.int .i64 0]) (by simp [results,results101,go_sem]) rfl ⟨rfl,(zAl _ _).alloc (by simp) _⟩
 ·rw [if_neg h2,if_neg h2]
  have c2:=fun w=>l3At_any s (a+1) (by omega) (by omega) w
  have hka:wrap64 (a+1)=a+1:=by unfold wrap64;omega
  generalize byteAt s (a+1)=Y at c2
  go_enter func101,ntmps101
  go_wp2_with first|(go_at_call 152;go_fit (c _);rintro e w' ⟨rfl,hw⟩;subst hw)|(go_at_call 152;go_fit (c2 _);rintro e w' ⟨rfl,hw⟩;subst hw)
  exact bodyPost_ret (v:=.tuple #[.agg #[.int .i64 Y,.bool true,.int .i64 0],.int .i64 2]) (by simp [results,results101,go_sem]) rfl ⟨rfl,(zAl _ _).alloc (by simp) _⟩
theorem spec_n (s:ByteArray) (a n:Int) (w:World) (hs:s.size<=1048576) (h0:0<=a) (h1:a<s.size) (hc:¬ byteAt s a=203) (hn:lenC (byteAt s a)=n) (hcs:n=0 \/ n=1 \/ n=2 \/ n=3) :
  Calls prog 101 #[.string s,.int .i64 a] w fun e w'=>e=Tup (readI s a) (readN s a)/\Below w.heap.size w w':=by
 have e1:readI s a=(if n=0 \/ s.size-a<n then zeroI else .agg #[.int .i64 (byteAt s a),.bool false,.int .i64 (immV s a n)]):=by unfold readI;rw [if_neg (by omega),if_neg hc,hn]
 have e2:readN s a=(if n=0 \/ s.size-a<n then 0 else n):=by unfold readN;rw [if_neg (by omega),if_neg hc,hn]
 rw [e1,e2]
 clear e1 e2
 have hk:wrap64 ((s.size:Int)-a)=(s.size:Int)-a:=by unfold wrap64;omega
 have hk1:¬ (s.size:Int)-a<1:=by omega
 have c:=fun w=>l3At_any s a h0 h1 w
 have bd:=byteAt_bd s a
 have cl:=fun w=>length_any (byteAt s a) false w bd.1 bd.2
 have hd:lenV (decide ((Tmpl.tmplS (byteAt s a) false).size=0)) false (hole (byteAt s a) false)=n:=by
  rw [<- hn];unfold lenC none?
  rw [show Signed.inB (byteAt s a) 0 255=true from decide_eq_true bd,beqN]
  simp
 rw [hd] at cl
 clear hd hn bd
 have hy1:=byteAt_bd s (a+1)
 have hy2:=byteAt_bd s (a+2)
 by_cases hq:n=0 \/ (s.size:Int)-a<n
 ·rw [if_pos hq,if_pos hq]
  generalize byteAt s a=X at c cl hc
  go_enter func101,ntmps101
  go_wp2_with first|(go_at_call 152;go_fit (c _);rintro e w' ⟨rfl,hw⟩;subst hw)|fail
  refine (cl _).mono ?_
  rintro e w2 ⟨rfl,b2⟩
  have B2:Hid (Below _ _ w2):=b2
  have r0:=box (first2 b2) 0 _ rfl
  have r1:=box (first2 b2) 1 _ rfl
  have r2:=box (first2 b2) 2 _ rfl
  have f0:=fro (first2 b2) 0
  have f1:=fro (first2 b2) 1
  have f2:=fro (first2 b2) 2
  clear b2
  go_wp2
  all_goals
   exact bodyPost_ret (v:=.tuple #[.agg #[.int .i64 0,.bool false,.int .i64 0],.int .i64 0]) (by simp [results,results101,go_sem,r0,r1,r2]) rfl ⟨rfl,((((unbox (first2 B2.out)).setCell (p:=⟨w.heap.size,0,none⟩) (Nat.le_refl _) _).setCell (p:=⟨w.heap.size,1,none⟩) (Nat.le_refl _) _).setCell (p:=⟨w.heap.size,2,none⟩) (Nat.le_refl _) _)⟩
 ·rw [if_neg hq,if_neg hq]
  have g1:¬ n=0:=fun h=>hq (.inl h)
  have g2:¬ (s.size:Int)-a<n:=fun h=>hq (.inr h)
  have hn3:n=1 \/ n=2 \/ n=3:=by rcases hcs with h|h|h|h <;> omega
  clear hcs hq
  have hka:wrap64 (a+1)=a+1:=by unfold wrap64;omega
  have hkb:wrap64 (a+2)=a+2:=by unfold wrap64;omega
  rcases hn3 with rfl|rfl|rfl
  ·have ei:immV s a 1=0:=rfl
   rw [ei]
   generalize byteAt s a=X at c cl hc
   go_enter func101,ntmps101
   go_wp2_with first|(go_at_call 152;go_fit (c _);rintro e w' ⟨rfl,hw⟩;subst hw)|fail
   refine (cl _).mono ?_
   rintro e w2 ⟨rfl,b2⟩
   have B2:Hid (Below _ _ w2):=b2
   have r0:=box (first2 b2) 0 _ rfl
   have r1:=box (first2 b2) 1 _ rfl
   have r2:=box (first2 b2) 2 _ rfl
   have f0:=fro (first2 b2) 0
   have f1:=fro (first2 b2) 1
   have f2:=fro (first2 b2) 2
   have i0:=box2 b2 0 _ rfl
   have i1:=box2 b2 1 _ rfl
   have i2:=box2 b2 2 _ rfl
   have j2:=fro2 b2 2
   clear b2
   go_wp2
   exact bodyPost_ret (v:=.tuple #[.agg #[.int .i64 X,.bool false,.int .i64 0],.int .i64 1]) (by simp [results,results101,go_sem,r0,r1,r2]) rfl ⟨rfl,((((unbox (first2 B2.out)).setCell (p:=⟨w.heap.size,0,none⟩) (Nat.le_refl _) _).setCell (p:=⟨w.heap.size,1,none⟩) (Nat.le_refl _) _).setCell (p:=⟨w.heap.size,2,none⟩) (Nat.le_refl _) _)⟩
  ·have ei:immV s a 2=byteAt s (a+1):=rfl
   rw [ei]
   have c2:=fun w=>l3At_any s (a+1) (by omega) (by omega) w
   generalize byteAt s a=X at c cl hc
   generalize byteAt s (a+1)=Y at c2 hy1
   go_enter func101,ntmps101
   go_wp2_with first|(go_at_call 152;go_fit (c _);rintro e w' ⟨rfl,hw⟩;subst hw)|fail
   refine (cl _).mono ?_
   rintro e w2 ⟨rfl,b2⟩
   have B2:Hid (Below _ _ w2):=b2
   have r0:=box (first2 b2) 0 _ rfl
   have r1:=box (first2 b2) 1 _ rfl
   have r2:=box (first2 b2) 2 _ rfl
   have f0:=fro (first2 b2) 0
   have f1:=fro (first2 b2) 1
   have f2:=fro (first2 b2) 2
   have i0:=box2 b2 0 _ rfl
   have i1:=box2 b2 1 _ rfl
   have i2:=box2 b2 2 _ rfl
   have j2:=fro2 b2 2
   clear b2
   go_wp2_with (go_at_call 152;go_fit (c2 _);rintro e w' ⟨rfl,hw⟩;subst hw)
   exact bodyPost_ret (v:=.tuple #[.agg #[.int .i64 X,.bool false,.int .i64 Y],.int .i64 2]) (by simp [results,results101,go_sem,r0,r1,r2]) rfl ⟨rfl,(((((unbox (first2 B2.out)).setCell (p:=⟨w.heap.size+1,2,none⟩) (Nat.le_succ _) _).setCell (p:=⟨w.heap.size,0,none⟩) (Nat.le_refl _) _).setCell (p:=⟨w.heap.size,1,none⟩) (Nat.le_refl _) _).setCell (p:=⟨w.heap.size,2,none⟩) (Nat.le_refl _) _)⟩
  ·have ei:immV s a 3=byteAt s (a+1)+256*byteAt s (a+2):=rfl
   rw [ei]
   have c2:=fun w=>l3At_any s (a+1) (by omega) (by omega) w
   have c3:=fun w=>l3At_any s (a+2) (by omega) (by omega) w
   clear ei
   generalize byteAt s a=X at c cl hc
   generalize byteAt s (a+1)=Y at c2 hy1
   generalize byteAt s (a+2)=Z at c3 hy2
   have kz0:IntKind.i64.wrap (a+2)=a+2:=by rw [IntKind.wrap_i64];omega
   have kz1:IntKind.i64.wrap (256*Z)=256*Z:=by rw [IntKind.wrap_i64];omega
   have kz2:IntKind.i64.wrap (Y+256*Z)=Y+256*Z:=by rw [IntKind.wrap_i64];omega
   have hz1:wrap64 (256*Z)=256*Z:=by unfold wrap64;omega
   have hz2:wrap64 (Y+256*Z)=Y+256*Z:=by unfold wrap64;omega
   go_enter func101,ntmps101
   go_wp2_with first|(go_at_call 152;go_fit (c _);rintro e w' ⟨rfl,hw⟩;subst hw)|fail
   refine (cl _).mono ?_
   rintro e w2 ⟨rfl,b2⟩
   have B2:Hid (Below _ _ w2):=b2
   have r0:=box (first2 b2) 0 _ rfl
   have r1:=box (first2 b2) 1 _ rfl
   have r2:=box (first2 b2) 2 _ rfl
   have f0:=fro (first2 b2) 0
   have f1:=fro (first2 b2) 1
   have f2:=fro (first2 b2) 2
   have i0:=box2 b2 0 _ rfl
   have i1:=box2 b2 1 _ rfl
   have i2:=box2 b2 2 _ rfl
   have j2:=fro2 b2 2
   clear b2
   go_wp2_with first|(go_at_call 152;go_fit (c2 _);rintro e w' ⟨rfl,hw⟩;subst hw)|(go_at_call 152;go_fit (c3 _);rintro e w' ⟨rfl,hw⟩;subst hw)
   go_region_with (go_at_call 152;go_fit (c3 _);rintro e w' ⟨rfl,hw⟩;subst hw)
   all_goals go_wp2
   all_goals exact bodyPost_ret (v:=.tuple #[.agg #[.int .i64 X,.bool false,.int .i64 (Y+256*Z)],.int .i64 3]) (by simp [results,results101,go_sem,r0,r1,r2]) rfl ⟨rfl,Below.drew ((((((unbox (first2 B2.out)).setCell (p:=⟨w.heap.size+1,2,none⟩) (Nat.le_succ _) _).setCell (p:=⟨w.heap.size+1,2,none⟩) (Nat.le_succ _) _).setCell (p:=⟨w.heap.size,0,none⟩) (Nat.le_refl _) _).setCell (p:=⟨w.heap.size,1,none⟩) (Nat.le_refl _) _).setCell (p:=⟨w.heap.size,2,none⟩) (Nat.le_refl _) _)⟩
theorem specRead_any (s:ByteArray) (a:Int) (w:World) (hs:s.size<=1048576) (hb:a<=9223372036854775807) :
  Calls prog 101 #[.string s,.int .i64 a] w fun e w'=>e=Tup (readI s a) (readN s a)/\Below w.heap.size w w':=by
 by_cases h:a<0 \/ s.size<=a
 ·have e1:readI s a=zeroI:=by unfold readI;rw [if_pos h]
  have e2:readN s a=0:=by unfold readN;rw [if_pos h]
  rw [e1,e2]
  exact spec_out s a w hs hb h
 ·by_cases hc:byteAt s a=203
  ·exact spec_cb s a w hs (by omega) (by omega) hc
  ·exact spec_n s a _ w hs (by omega) (by omega) hc rfl (lenC_cases _)
end ReadI
end Go.Proofs.YteglcgnhhoenbaaGreatDoor
