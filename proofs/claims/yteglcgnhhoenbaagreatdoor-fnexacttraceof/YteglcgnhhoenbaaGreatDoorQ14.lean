import Derived.Test.YteglcgnhhoenbaaGreatDoorQ13
set_option linter.all false
set_option maxRecDepth 20000
set_option maxHeartbeats 8000000
open Go.ChangeShapes Go.WideShapes Go.ChangeAt Go.RowKit
open Go.Proofs.Tryz
namespace Go.Proofs.YteglcgnhhoenbaaGreatDoor
namespace CartX
open Go.Deep
open Signed (inB aG aB aC aE)
open Carts CartK CartL CartM CartP CartR CartW CartV
theorem dH (n:Int) (w:World) :
  Calls prog 53 #[.int .i64 n] w fun e w'=>e=.returned (.bool (inB n 0 255))/\w'=w:=by
 go_enter func53,ntmps53
 go_wp2_with (go_at_call 42;refine (aE _ _ _ _).mono ?_;rintro e w' ⟨rfl,rfl⟩)
 go_ret;exact ⟨rfl,rfl⟩
end CartX
namespace CartY
open Go.Deep
open Signed (inB aG aB aC aE)
open Carts CartK CartL CartM CartP CartR CartW CartV CartX
def cN (kind bank addr v:Int):Int:=if 128<=addr/\addr<256 then (if kind=1 then jX v else if kind=2 then v else bank) else bank
def dU (kind:Int) (ram:ByteArray) (rb:Int) (on:Bool) (mode addr v:Int):ByteArray:=if 40960<=addr/\addr<41024 then (if on=true then fK ram (gX kind rb mode*64+addr-40960) v else ram) else ram
def wRb (kind rb addr v:Int):Int:=if 256<=addr/\addr<384/\¬ kind=0 then v%4 else rb
def wOn (kind:Int) (on:Bool) (addr v:Int):Bool:=if addr<128/\¬ kind=0 then v%16 == 10 else on
def cO (kind mode addr v:Int):Int:=if 384<=addr/\addr<512/\kind=1 then v%2 else mode
def wrote (rom:ByteArray) (kind bank:Int) (ram:ByteArray) (rb:Int) (on:Bool) (mode:Int) (addr v:Int):Value:=.agg #[.string rom,.int .i64 kind,.int .i64 (cN kind bank addr v),.string (dU kind ram rb on mode addr v),.int .i64 (wRb kind rb addr v),.bool (wOn kind on addr v),.int .i64 (cO kind mode addr v)]
end CartY
namespace CartU
open Go.Deep
open Signed (inB aG aB aC aE)
open Carts CartK CartL CartM CartP CartR CartW CartV CartX CartY
theorem gD {rom:ByteArray} {kind b b':Int} {m m':ByteArray} {r r':Int} {o o':Bool} {d d':Int} {e:Ending} (hb:b=b') (hm:m=m') (hr:r=r') (ho:o=o') (hd:d=d')
  (k:e=.returned (.agg #[.string rom,.int .i64 kind,.int .i64 b,.string m,.int .i64 r,.bool o,.int .i64 d])) :
  e=.returned (.agg #[.string rom,.int .i64 kind,.int .i64 b',.string m',.int .i64 r',.bool o',.int .i64 d']):=by
 subst hb hm hr ho hd;exact k
theorem bel {w w':World} (h:(∃ o1 o2,w'=((w.alloc o1).alloc o2)) \/ (∃ o1 o2 o3,w'=(((w.alloc o1).alloc o2).alloc o3)) \/ (∃ o1 o2 o3 o4,w'=((((w.alloc o1).alloc o2).alloc o3).alloc o4)) \/ (∃ o1 o2 o3 o4 o5 o6,w'=((((((w.alloc o1).alloc o2).alloc o3).alloc o4).alloc o5).alloc o6)) \/ (∃ o1 o2 o3 o4 o5 o6 o7 o8,w'=((((((((w.alloc o1).alloc o2).alloc o3).alloc o4).alloc o5).alloc o6).alloc o7).alloc o8)) \/ (∃ o1 o2 o3 o4 o5,w'=((((w.alloc o1).alloc o2).alloc o3).alloc o4).drew.alloc o5) \/ (∃ o1 o2 o3 o4,w'=((((w.alloc o1).alloc o2).alloc o3).alloc o4).drew.drew)):Below w.heap.size w w':=by
 rcases h with h|h|h|h|h|h|h
 ·obtain ⟨_,_,rfl⟩:=h;exact (by repeat (with_reducible first|exact zRf|refine zGr ?_ _|refine below_drewN ?_ _|refine Below.drew ?_))
 ·obtain ⟨_,_,_,rfl⟩:=h;exact (by repeat (with_reducible first|exact zRf|refine zGr ?_ _|refine below_drewN ?_ _|refine Below.drew ?_))
 ·obtain ⟨_,_,_,_,rfl⟩:=h;exact (by repeat (with_reducible first|exact zRf|refine zGr ?_ _|refine below_drewN ?_ _|refine Below.drew ?_))
 ·obtain ⟨_,_,_,_,_,_,rfl⟩:=h;exact (by repeat (with_reducible first|exact zRf|refine zGr ?_ _|refine below_drewN ?_ _|refine Below.drew ?_))
 ·obtain ⟨_,_,_,_,_,_,_,_,rfl⟩:=h;exact (by repeat (with_reducible first|exact zRf|refine zGr ?_ _|refine below_drewN ?_ _|refine Below.drew ?_))
 ·obtain ⟨_,_,_,_,_,rfl⟩:=h;exact (by repeat (with_reducible first|exact zRf|refine zGr ?_ _|refine below_drewN ?_ _|refine Below.drew ?_))
 ·obtain ⟨_,_,_,_,rfl⟩:=h;exact (by repeat (with_reducible first|exact zRf|refine zGr ?_ _|refine below_drewN ?_ _|refine Below.drew ?_))
theorem sD (rom:ByteArray) (kind bank:Int) (ram:ByteArray) (rb:Int) (on:Bool) (mode:Int) (addr v:Int) (w:World) (hs:rom.size<=maxLen) (hr:ram.size<=maxLen) (h:okB rom kind bank ram rb on mode=true) (hw:inB addr 0 65535=true) (hb:inB v 0 255=true) :
  Calls prog 274 #[.agg #[.string rom,.int .i64 kind,.int .i64 bank,.string ram,.int .i64 rb,.bool on,.int .i64 mode],.int .i64 addr,.int .i64 v] w fun e w'=>e=.returned (wrote rom kind bank ram rb on mode addr v)/\Below w.heap.size w w':=by
 obtain ⟨n,n0,n1,hn,hbk,hm,b0,b1,r0,r1,m0,m1,hk⟩:=right rom kind bank ram rb on mode h;obtain ⟨a0,a1⟩:=u7 hw;obtain ⟨v0,v1⟩:=u7 hb;unfold wrote
 by_cases big:512<=addr
 ·by_cases hyes:on=true/\40960<=addr/\addr<41024
  ·obtain ⟨rfl,y0,y1⟩:=hyes
   have hk':kind=1 \/ kind=2:=by
    rcases hk with hk|hk|hk
    ·exact absurd hk.2 (by decide)
    ·exact .inl hk
    ·exact .inr hk.1
   exact (xN rom kind bank ram rb mode addr v _ w v0 v1 hm r0 r1 m0 m1 hk' y0 y1 rfl).mono (fun e w' k=>⟨gD (by unfold cN;rw [if_neg (by omega)]) (by unfold dU;rw [if_pos (by omega),if_pos rfl]) (by unfold wRb;rw [if_neg (by omega)]) (by unfold wOn;rw [if_neg (by omega)]) (by unfold cO;rw [if_neg (by omega)]) k.1,bel (by first|exact .inl k.2|exact .inr (.inl k.2)|exact .inr (.inr (.inl k.2))|exact .inr (.inr (.inr (.inl k.2)))|exact .inr (.inr (.inr (.inr (.inl k.2))))|exact .inr (.inr (.inr (.inr (.inr (.inl k.2)))))|exact .inr (.inr (.inr (.inr (.inr (.inr k.2))))))⟩)
  ·have hno:on=false \/ addr<40960 \/ 41024<=addr:=by cases on <;> simp at hyes |-;omega
   exact (aBL rom kind bank ram rb on mode addr v w v0 v1 big hno).mono (fun e w' k=>⟨gD (by unfold cN;rw [if_neg (by omega)]) (by unfold dU;rcases hno with h|h|h;(split;rw [if_neg (by simp [h])];rfl);rw [if_neg (by omega)];rw [if_neg (by omega)]) (by unfold wRb;rw [if_neg (by omega)]) (by unfold wOn;rw [if_neg (by omega)]) (by unfold cO;rw [if_neg (by omega)]) k.1,bel (by first|exact .inl k.2|exact .inr (.inl k.2)|exact .inr (.inr (.inl k.2))|exact .inr (.inr (.inr (.inl k.2)))|exact .inr (.inr (.inr (.inr (.inl k.2))))|exact .inr (.inr (.inr (.inr (.inr (.inl k.2)))))|exact .inr (.inr (.inr (.inr (.inr (.inr k.2))))))⟩)
 ·rcases hk with ⟨rfl,hon⟩|rfl|⟨rfl,hmode⟩
  ·exact (aGO rom bank ram rb on mode addr v w v0 v1 a0 (by omega)).mono (fun e w' k=>⟨gD (by unfold cN;split;rw [if_neg (by omega),if_neg (by omega)];rfl) (by unfold dU;rw [if_neg (by omega)]) (by unfold wRb;rw [if_neg (by omega)]) (by unfold wOn;rw [if_neg (by omega)]) (by unfold cO;rw [if_neg (by omega)]) k.1,bel (by first|exact .inl k.2|exact .inr (.inl k.2)|exact .inr (.inr (.inl k.2))|exact .inr (.inr (.inr (.inl k.2)))|exact .inr (.inr (.inr (.inr (.inl k.2))))|exact .inr (.inr (.inr (.inr (.inr (.inl k.2)))))|exact .inr (.inr (.inr (.inr (.inr (.inr k.2))))))⟩)
  ·have q:addr<128 \/ (128<=addr/\addr<256) \/ (256<=addr/\addr<384) \/ (384<=addr/\addr<512):=by omega
   rcases q with q|q|q|q
   ·exact (aBD rom bank ram rb on mode addr v w v0 v1 a0 q).mono (fun e w' k=>⟨gD (by unfold cN;rw [if_neg (by omega)]) (by unfold dU;rw [if_neg (by omega)]) (by unfold wRb;rw [if_neg (by omega)]) (by unfold wOn;rw [if_pos (by omega)]) (by unfold cO;rw [if_neg (by omega)]) k.1,bel (by first|exact .inl k.2|exact .inr (.inl k.2)|exact .inr (.inr (.inl k.2))|exact .inr (.inr (.inr (.inl k.2)))|exact .inr (.inr (.inr (.inr (.inl k.2))))|exact .inr (.inr (.inr (.inr (.inr (.inl k.2)))))|exact .inr (.inr (.inr (.inr (.inr (.inr k.2))))))⟩)
   ·exact (aBE rom bank ram rb on mode addr v w v0 v1 q.1 q.2).mono (fun e w' k=>⟨gD (by unfold cN;rw [if_pos (by omega),if_pos rfl]) (by unfold dU;rw [if_neg (by omega)]) (by unfold wRb;rw [if_neg (by omega)]) (by unfold wOn;rw [if_neg (by omega)]) (by unfold cO;rw [if_neg (by omega)]) k.1,bel (by first|exact .inl k.2|exact .inr (.inl k.2)|exact .inr (.inr (.inl k.2))|exact .inr (.inr (.inr (.inl k.2)))|exact .inr (.inr (.inr (.inr (.inl k.2))))|exact .inr (.inr (.inr (.inr (.inr (.inl k.2)))))|exact .inr (.inr (.inr (.inr (.inr (.inr k.2))))))⟩)
   ·exact (aBF rom bank ram rb on mode addr v w v0 v1 q.1 q.2).mono (fun e w' k=>⟨gD (by unfold cN;rw [if_neg (by omega)]) (by unfold dU;rw [if_neg (by omega)]) (by unfold wRb;rw [if_pos (by omega)]) (by unfold wOn;rw [if_neg (by omega)]) (by unfold cO;rw [if_neg (by omega)]) k.1,bel (by first|exact .inl k.2|exact .inr (.inl k.2)|exact .inr (.inr (.inl k.2))|exact .inr (.inr (.inr (.inl k.2)))|exact .inr (.inr (.inr (.inr (.inl k.2))))|exact .inr (.inr (.inr (.inr (.inr (.inl k.2)))))|exact .inr (.inr (.inr (.inr (.inr (.inr k.2))))))⟩)
   ·exact (aBG rom bank ram rb on mode addr v w v0 v1 q.1 q.2).mono (fun e w' k=>⟨gD (by unfold cN;rw [if_neg (by omega)]) (by unfold dU;rw [if_neg (by omega)]) (by unfold wRb;rw [if_neg (by omega)]) (by unfold wOn;rw [if_neg (by omega)]) (by unfold cO;rw [if_pos (by omega)]) k.1,bel (by first|exact .inl k.2|exact .inr (.inl k.2)|exact .inr (.inr (.inl k.2))|exact .inr (.inr (.inr (.inl k.2)))|exact .inr (.inr (.inr (.inr (.inl k.2))))|exact .inr (.inr (.inr (.inr (.inr (.inl k.2)))))|exact .inr (.inr (.inr (.inr (.inr (.inr k.2))))))⟩)
  ·have q:addr<128 \/ (128<=addr/\addr<256) \/ (256<=addr/\addr<384) \/ (384<=addr/\addr<512):=by omega
   rcases q with q|q|q|q
   ·exact (aBH rom bank ram rb on mode addr v w v0 v1 a0 q).mono (fun e w' k=>⟨gD (by unfold cN;rw [if_neg (by omega)]) (by unfold dU;rw [if_neg (by omega)]) (by unfold wRb;rw [if_neg (by omega)]) (by unfold wOn;rw [if_pos (by omega)]) (by unfold cO;rw [if_neg (by omega)]) k.1,bel (by first|exact .inl k.2|exact .inr (.inl k.2)|exact .inr (.inr (.inl k.2))|exact .inr (.inr (.inr (.inl k.2)))|exact .inr (.inr (.inr (.inr (.inl k.2))))|exact .inr (.inr (.inr (.inr (.inr (.inl k.2)))))|exact .inr (.inr (.inr (.inr (.inr (.inr k.2))))))⟩)
   ·exact (aBI rom bank ram rb on mode addr v w v0 v1 q.1 q.2).mono (fun e w' k=>⟨gD (by unfold cN;rw [if_pos (by omega),if_neg (by omega),if_pos rfl]) (by unfold dU;rw [if_neg (by omega)]) (by unfold wRb;rw [if_neg (by omega)]) (by unfold wOn;rw [if_neg (by omega)]) (by unfold cO;rw [if_neg (by omega)]) k.1,bel (by first|exact .inl k.2|exact .inr (.inl k.2)|exact .inr (.inr (.inl k.2))|exact .inr (.inr (.inr (.inl k.2)))|exact .inr (.inr (.inr (.inr (.inl k.2))))|exact .inr (.inr (.inr (.inr (.inr (.inl k.2)))))|exact .inr (.inr (.inr (.inr (.inr (.inr k.2))))))⟩)
   ·exact (aBJ rom bank ram rb on mode addr v w v0 v1 q.1 q.2).mono (fun e w' k=>⟨gD (by unfold cN;rw [if_neg (by omega)]) (by unfold dU;rw [if_neg (by omega)]) (by unfold wRb;rw [if_pos (by omega)]) (by unfold wOn;rw [if_neg (by omega)]) (by unfold cO;rw [if_neg (by omega)]) k.1,bel (by first|exact .inl k.2|exact .inr (.inl k.2)|exact .inr (.inr (.inl k.2))|exact .inr (.inr (.inr (.inl k.2)))|exact .inr (.inr (.inr (.inr (.inl k.2))))|exact .inr (.inr (.inr (.inr (.inr (.inl k.2)))))|exact .inr (.inr (.inr (.inr (.inr (.inr k.2))))))⟩)
   ·exact (aBK rom bank ram rb on mode addr v w v0 v1 q.1 q.2).mono (fun e w' k=>⟨gD (by unfold cN;rw [if_neg (by omega)]) (by unfold dU;rw [if_neg (by omega)]) (by unfold wRb;rw [if_neg (by omega)]) (by unfold wOn;rw [if_neg (by omega)]) (by unfold cO;rw [if_neg (by omega)]) k.1,bel (by first|exact .inl k.2|exact .inr (.inl k.2)|exact .inr (.inr (.inl k.2))|exact .inr (.inr (.inr (.inl k.2)))|exact .inr (.inr (.inr (.inr (.inl k.2))))|exact .inr (.inr (.inr (.inr (.inr (.inl k.2)))))|exact .inr (.inr (.inr (.inr (.inr (.inr k.2))))))⟩)
theorem uW (rom:ByteArray) (kind bank:Int) (ram:ByteArray) (rb:Int) (on:Bool) (mode:Int) (addr v:Int) (w:World) (hs:rom.size<=maxLen) (hr:ram.size<=maxLen) (h:okB rom kind bank ram rb on mode=true) (hw:inB addr 0 65535=true) (hb:inB v 0 255=true) :
  Calls prog 237 #[.agg #[.string rom,.int .i64 kind,.int .i64 bank,.string ram,.int .i64 rb,.bool on,.int .i64 mode],.int .i64 addr,.int .i64 v] w fun e w'=>e=.returned (wrote rom kind bank ram rb on mode addr v)/\Below w.heap.size w w':=by
 obtain ⟨n,n0,n1,hn,hbk,hm,b0,b1,r0,r1,m0,m1,hk⟩:=right rom kind bank ram rb on mode h;obtain ⟨a0,a1⟩:=u7 hw;obtain ⟨v0,v1⟩:=u7 hb;unfold wrote
 by_cases big:512<=addr
 ·by_cases hyes:on=true/\40960<=addr/\addr<41024
  ·obtain ⟨rfl,y0,y1⟩:=hyes
   have hk':kind=1 \/ kind=2:=by
    rcases hk with hk|hk|hk
    ·exact absurd hk.2 (by decide)
    ·exact .inl hk
    ·exact .inr hk.1
   rcases hk' with rfl|rfl
   ·exact (xQ rom bank ram rb mode addr v _ w v0 v1 hm r0 r1 y0 y1 rfl).mono (fun e w' k=>⟨gD (by unfold cN;rw [if_neg (by omega)]) (by unfold dU;rw [if_pos (by omega),if_pos rfl]) (by unfold wRb;rw [if_neg (by omega)]) (by unfold wOn;rw [if_neg (by omega)]) (by unfold cO;rw [if_neg (by omega)]) k.1,bel (by first|exact .inl k.2|exact .inr (.inl k.2)|exact .inr (.inr (.inl k.2))|exact .inr (.inr (.inr (.inl k.2)))|exact .inr (.inr (.inr (.inr (.inl k.2))))|exact .inr (.inr (.inr (.inr (.inr (.inl k.2)))))|exact .inr (.inr (.inr (.inr (.inr (.inr k.2))))))⟩)
   ·exact (xR rom bank ram rb mode addr v _ w v0 v1 hm r0 r1 y0 y1 rfl).mono (fun e w' k=>⟨gD (by unfold cN;rw [if_neg (by omega)]) (by unfold dU;rw [if_pos (by omega),if_pos rfl]) (by unfold wRb;rw [if_neg (by omega)]) (by unfold wOn;rw [if_neg (by omega)]) (by unfold cO;rw [if_neg (by omega)]) k.1,bel (by first|exact .inl k.2|exact .inr (.inl k.2)|exact .inr (.inr (.inl k.2))|exact .inr (.inr (.inr (.inl k.2)))|exact .inr (.inr (.inr (.inr (.inl k.2))))|exact .inr (.inr (.inr (.inr (.inr (.inl k.2)))))|exact .inr (.inr (.inr (.inr (.inr (.inr k.2))))))⟩)
  ·have hno:on=false \/ addr<40960 \/ 41024<=addr:=by cases on <;> simp at hyes |-;omega
   rcases hk with ⟨rfl,hon⟩|rfl|⟨rfl,hmode⟩
   ·exact (xO rom bank ram rb on mode addr v w v0 v1).mono (fun e w' k=>⟨gD (by unfold cN;rw [if_neg (by omega)]) (by unfold dU;rcases hno with h|h|h;(split;rw [if_neg (by simp [h])];rfl);rw [if_neg (by omega)];rw [if_neg (by omega)]) (by unfold wRb;rw [if_neg (by omega)]) (by unfold wOn;rw [if_neg (by omega)]) (by unfold cO;rw [if_neg (by omega)]) k.1,bel (by first|exact .inl k.2|exact .inr (.inl k.2)|exact .inr (.inr (.inl k.2))|exact .inr (.inr (.inr (.inl k.2)))|exact .inr (.inr (.inr (.inr (.inl k.2))))|exact .inr (.inr (.inr (.inr (.inr (.inl k.2)))))|exact .inr (.inr (.inr (.inr (.inr (.inr k.2))))))⟩)
   ·exact (aBM rom bank ram rb on mode addr v w v0 v1 big hno).mono (fun e w' k=>⟨gD (by unfold cN;rw [if_neg (by omega)]) (by unfold dU;rcases hno with h|h|h;(split;rw [if_neg (by simp [h])];rfl);rw [if_neg (by omega)];rw [if_neg (by omega)]) (by unfold wRb;rw [if_neg (by omega)]) (by unfold wOn;rw [if_neg (by omega)]) (by unfold cO;rw [if_neg (by omega)]) k.1,bel (by first|exact .inl k.2|exact .inr (.inl k.2)|exact .inr (.inr (.inl k.2))|exact .inr (.inr (.inr (.inl k.2)))|exact .inr (.inr (.inr (.inr (.inl k.2))))|exact .inr (.inr (.inr (.inr (.inr (.inl k.2)))))|exact .inr (.inr (.inr (.inr (.inr (.inr k.2))))))⟩)
   ·exact (aBN rom bank ram rb on mode addr v w v0 v1 big hno).mono (fun e w' k=>⟨gD (by unfold cN;rw [if_neg (by omega)]) (by unfold dU;rcases hno with h|h|h;(split;rw [if_neg (by simp [h])];rfl);rw [if_neg (by omega)];rw [if_neg (by omega)]) (by unfold wRb;rw [if_neg (by omega)]) (by unfold wOn;rw [if_neg (by omega)]) (by unfold cO;rw [if_neg (by omega)]) k.1,bel (by first|exact .inl k.2|exact .inr (.inl k.2)|exact .inr (.inr (.inl k.2))|exact .inr (.inr (.inr (.inl k.2)))|exact .inr (.inr (.inr (.inr (.inl k.2))))|exact .inr (.inr (.inr (.inr (.inr (.inl k.2)))))|exact .inr (.inr (.inr (.inr (.inr (.inr k.2))))))⟩)
 ·rcases hk with ⟨rfl,hon⟩|rfl|⟨rfl,hmode⟩
  ·exact (xO rom bank ram rb on mode addr v w v0 v1).mono (fun e w' k=>⟨gD (by unfold cN;split;rw [if_neg (by omega),if_neg (by omega)];rfl) (by unfold dU;rw [if_neg (by omega)]) (by unfold wRb;rw [if_neg (by omega)]) (by unfold wOn;rw [if_neg (by omega)]) (by unfold cO;rw [if_neg (by omega)]) k.1,bel (by first|exact .inl k.2|exact .inr (.inl k.2)|exact .inr (.inr (.inl k.2))|exact .inr (.inr (.inr (.inl k.2)))|exact .inr (.inr (.inr (.inr (.inl k.2))))|exact .inr (.inr (.inr (.inr (.inr (.inl k.2)))))|exact .inr (.inr (.inr (.inr (.inr (.inr k.2))))))⟩)
  ·have q:addr<128 \/ (128<=addr/\addr<256) \/ (256<=addr/\addr<384) \/ (384<=addr/\addr<512):=by omega
   rcases q with q|q|q|q
   ·exact (aGP rom bank ram rb on mode addr v w v0 v1 a0 q).mono (fun e w' k=>⟨gD (by unfold cN;rw [if_neg (by omega)]) (by unfold dU;rw [if_neg (by omega)]) (by unfold wRb;rw [if_neg (by omega)]) (by unfold wOn;rw [if_pos (by omega)]) (by unfold cO;rw [if_neg (by omega)]) k.1,bel (by first|exact .inl k.2|exact .inr (.inl k.2)|exact .inr (.inr (.inl k.2))|exact .inr (.inr (.inr (.inl k.2)))|exact .inr (.inr (.inr (.inr (.inl k.2))))|exact .inr (.inr (.inr (.inr (.inr (.inl k.2)))))|exact .inr (.inr (.inr (.inr (.inr (.inr k.2))))))⟩)
   ·exact (aGQ rom bank ram rb on mode addr v w v0 v1 q.1 q.2).mono (fun e w' k=>⟨gD (by unfold cN;rw [if_pos (by omega),if_pos rfl]) (by unfold dU;rw [if_neg (by omega)]) (by unfold wRb;rw [if_neg (by omega)]) (by unfold wOn;rw [if_neg (by omega)]) (by unfold cO;rw [if_neg (by omega)]) k.1,bel (by first|exact .inl k.2|exact .inr (.inl k.2)|exact .inr (.inr (.inl k.2))|exact .inr (.inr (.inr (.inl k.2)))|exact .inr (.inr (.inr (.inr (.inl k.2))))|exact .inr (.inr (.inr (.inr (.inr (.inl k.2)))))|exact .inr (.inr (.inr (.inr (.inr (.inr k.2))))))⟩)
   ·exact (aGR rom bank ram rb on mode addr v w v0 v1 q.1 q.2).mono (fun e w' k=>⟨gD (by unfold cN;rw [if_neg (by omega)]) (by unfold dU;rw [if_neg (by omega)]) (by unfold wRb;rw [if_pos (by omega)]) (by unfold wOn;rw [if_neg (by omega)]) (by unfold cO;rw [if_neg (by omega)]) k.1,bel (by first|exact .inl k.2|exact .inr (.inl k.2)|exact .inr (.inr (.inl k.2))|exact .inr (.inr (.inr (.inl k.2)))|exact .inr (.inr (.inr (.inr (.inl k.2))))|exact .inr (.inr (.inr (.inr (.inr (.inl k.2)))))|exact .inr (.inr (.inr (.inr (.inr (.inr k.2))))))⟩)
   ·exact (aGS rom bank ram rb on mode addr v w v0 v1 q.1 q.2).mono (fun e w' k=>⟨gD (by unfold cN;rw [if_neg (by omega)]) (by unfold dU;rw [if_neg (by omega)]) (by unfold wRb;rw [if_neg (by omega)]) (by unfold wOn;rw [if_neg (by omega)]) (by unfold cO;rw [if_pos (by omega)]) k.1,bel (by first|exact .inl k.2|exact .inr (.inl k.2)|exact .inr (.inr (.inl k.2))|exact .inr (.inr (.inr (.inl k.2)))|exact .inr (.inr (.inr (.inr (.inl k.2))))|exact .inr (.inr (.inr (.inr (.inr (.inl k.2)))))|exact .inr (.inr (.inr (.inr (.inr (.inr k.2))))))⟩)
  ·have q:addr<128 \/ (128<=addr/\addr<256) \/ (256<=addr/\addr<384) \/ (384<=addr/\addr<512):=by omega
   rcases q with q|q|q|q
   ·exact (aGT rom bank ram rb on mode addr v w v0 v1 a0 q).mono (fun e w' k=>⟨gD (by unfold cN;rw [if_neg (by omega)]) (by unfold dU;rw [if_neg (by omega)]) (by unfold wRb;rw [if_neg (by omega)]) (by unfold wOn;rw [if_pos (by omega)]) (by unfold cO;rw [if_neg (by omega)]) k.1,bel (by first|exact .inl k.2|exact .inr (.inl k.2)|exact .inr (.inr (.inl k.2))|exact .inr (.inr (.inr (.inl k.2)))|exact .inr (.inr (.inr (.inr (.inl k.2))))|exact .inr (.inr (.inr (.inr (.inr (.inl k.2)))))|exact .inr (.inr (.inr (.inr (.inr (.inr k.2))))))⟩)
   ·exact (aGU rom bank ram rb on mode addr v w v0 v1 q.1 q.2).mono (fun e w' k=>⟨gD (by unfold cN;rw [if_pos (by omega),if_neg (by omega),if_pos rfl]) (by unfold dU;rw [if_neg (by omega)]) (by unfold wRb;rw [if_neg (by omega)]) (by unfold wOn;rw [if_neg (by omega)]) (by unfold cO;rw [if_neg (by omega)]) k.1,bel (by first|exact .inl k.2|exact .inr (.inl k.2)|exact .inr (.inr (.inl k.2))|exact .inr (.inr (.inr (.inl k.2)))|exact .inr (.inr (.inr (.inr (.inl k.2))))|exact .inr (.inr (.inr (.inr (.inr (.inl k.2)))))|exact .inr (.inr (.inr (.inr (.inr (.inr k.2))))))⟩)
   ·exact (aGV rom bank ram rb on mode addr v w v0 v1 q.1 q.2).mono (fun e w' k=>⟨gD (by unfold cN;rw [if_neg (by omega)]) (by unfold dU;rw [if_neg (by omega)]) (by unfold wRb;rw [if_pos (by omega)]) (by unfold wOn;rw [if_neg (by omega)]) (by unfold cO;rw [if_neg (by omega)]) k.1,bel (by first|exact .inl k.2|exact .inr (.inl k.2)|exact .inr (.inr (.inl k.2))|exact .inr (.inr (.inr (.inl k.2)))|exact .inr (.inr (.inr (.inr (.inl k.2))))|exact .inr (.inr (.inr (.inr (.inr (.inl k.2)))))|exact .inr (.inr (.inr (.inr (.inr (.inr k.2))))))⟩)
   ·exact (aGW rom bank ram rb on mode addr v w v0 v1 q.1 q.2).mono (fun e w' k=>⟨gD (by unfold cN;rw [if_neg (by omega)]) (by unfold dU;rw [if_neg (by omega)]) (by unfold wRb;rw [if_neg (by omega)]) (by unfold wOn;rw [if_neg (by omega)]) (by unfold cO;rw [if_neg (by omega)]) k.1,bel (by first|exact .inl k.2|exact .inr (.inl k.2)|exact .inr (.inr (.inl k.2))|exact .inr (.inr (.inr (.inl k.2)))|exact .inr (.inr (.inr (.inr (.inl k.2))))|exact .inr (.inr (.inr (.inr (.inr (.inl k.2)))))|exact .inr (.inr (.inr (.inr (.inr (.inr k.2))))))⟩)
end CartU
namespace MachO
open Go.Deep
open Signed (inB aG aB aC aE)
open Carts CartK CartL CartR CartX Outs Mach MachT
def dY (L:List Int):Bool:=L.all fun n=>inB n 0 255
theorem qU {L:List Int} {k:Nat} (h:k<L.length) (hn:inB L[k] 0 255=false):dY L=false:=by
 unfold dY;rw [List.all_eq_false];exact ⟨L[k],List.getElem_mem h,by rw [hn];decide⟩
theorem oI {L:List Int} (h:∀ k (hk:k<L.length),inB L[k] 0 255=true):dY L=true:=by
 unfold dY;rw [List.all_eq_true];intro x hx;obtain ⟨k,hk,rfl⟩:=List.getElem_of_mem hx;exact h k hk
theorem mW (a:Option Addr) (cap:Nat) (L:List Int) (w:World) (hN:Row w a L) (hlen:L.length<=1048576) :
  Calls prog 78 #[.slice a L.length cap] w fun e w'=>e=.returned (.bool (dY L))/\w'=w:=by
 obtain ⟨len,hl⟩ : ∃ len,len=L.length:=⟨_,rfl⟩
 have HL:Hid (len=L.length):=hl;obtain ⟨r,hr⟩ : ∃ r,r=dY L:=⟨_,rfl⟩
 have HR:Hid (r=dY L):=hr;rw [<- hl] at hlen |-
 rw [<- hr];clear hl hr
 go_enter func78,ntmps78
 go_wp2
 go_loopw [4,7] (fun n i wr=>∃ k:Nat,k<=len/\i=.int .i64 k/\wr=w/\Hid (∀ j (hj:j<L.length),j<k->inB L[j] 0 255=true)) (fun _ i _=>len-(intOf i).toNat)
 case atStart=>exact ⟨0,Nat.zero_le _,rfl,rfl,fun j _ h=>absurd h (Nat.not_lt_zero _)⟩
 case round =>
  obtain ⟨k,hk,rfl,rfl,hall⟩:=hrel
  by_cases hlt:k<len
  ·have hkL:k<L.length:=by have:=HL.out;omega
   rcases hN with hnil|⟨b,off,rfl,hb,hc⟩
   ·exfalso;rw [hnil] at hkL;exact absurd hkL (by simp)
   have c0:=hc k hkL;clear hc;have hno:Hid (inB L[k] 0 255=false->r=false):=fun h=>by rw [HR.out];exact qU hkL h
   have hgo:Hid (inB L[k] 0 255=true->∀ j (hj:j<L.length),j<k+1->inB L[j] 0 255=true):=fun h j hj hjk=>by
    by_cases e:j=k
    ·subst e;exact h
    ·exact hall.out j hj (by omega)
   generalize L[k]=n at c0 hno hgo
   have ci:=fun w=>aC n w
   cases hb2:inB n 0 255 with
   | false =>
    rw [hb2] at ci
    have er:=hno.out hb2;subst er;clear hb2 hno hgo hall
    go_wp2_with (go_at_call 115;refine (ci _).mono ?_;rintro e w' ⟨rfl,rfl⟩)
    go_ret;exact ⟨rfl,rfl⟩
   | true =>
    rw [hb2] at ci
    have HG:Hid (∀ j (hj:j<L.length),j<k+1->inB L[j] 0 255=true):=hgo.out hb2;clear hb2 hno hgo hall
    go_wp2_with (go_at_call 115;refine (ci _).mono ?_;rintro e w' ⟨rfl,rfl⟩)
    go_roundw
    case rel=>exact ⟨k+1,by omega,by go_num,trivial,HG.out⟩
    case measure=>simp [intOf];omega
  ·have er:r=true:=by
    rw [HR.out];exact oI fun j hj=>hall.out j hj (by have:=HL.out;omega)
   subst er;clear hN hall;go_wp2;go_ret;exact ⟨rfl,rfl⟩
def pU (ra rf rB rC rD rE rH rL:Int):List Int:=[ra,rf,rB,rC,rD,rE,rH,rL]
def aBO (ra rf rB rC rD rE rH rL sp pc:Int):Bool:=dY (pU ra rf rB rC rD rE rH rL) && rf%16 == 0 && inB sp 0 65535 && inB pc 0 65535
theorem xS:∀ n:Fin 256,(bits BinOp.andNot IntKind.i64 (n.val:Int) 240 == 0)=((n.val:Int)%16 == 0):=by decide +kernel
theorem aEN {ra rf rB rC rD rE rH rL:Int} (h:dY (pU ra rf rB rC rD rE rH rL)=true):0<=rf/\rf<=255:=by
 unfold dY pU at h
 rw [List.all_eq_true] at h
 exact u7 (h rf (by simp))
theorem aEO (w:World) (ra rf rB rC rD rE rH rL:Int) (T:TypeId):Row (w.alloc (.cells #[.int .i64 ra,.int .i64 rf,.int .i64 rB,.int .i64 rC,.int .i64 rD,.int .i64 rE,.int .i64 rH,.int .i64 rL] T)) (some ⟨w.heap.size,0,none⟩) (pU ra rf rB rC rD rE rH rL):=by
 refine .inr ⟨w.heap.size,0,rfl,by simp,fun i hi=>?_⟩;rw [Nat.zero_add,World.cell?_alloc_new];have hi':i<8:=hi
 match i,hi' with
 | 0,_=>rfl
 | 1,_=>rfl
 | 2,_=>rfl
 | 3,_=>rfl
 | 4,_=>rfl
 | 5,_=>rfl
 | 6,_=>rfl
 | 7,_=>rfl
theorem aGX (ra rf rB rC rD rE rH rL sp pc:Int) (ime hal:Bool) (w:World) :
  Calls prog 76 #[.agg #[.int .i64 ra,.int .i64 rf,.int .i64 rB,.int .i64 rC,.int .i64 rD,.int .i64 rE,.int .i64 rH,.int .i64 rL,.int .i64 sp,.int .i64 pc,.bool ime,.bool hal]] w fun e w'=>e=.returned (.bool (aBO ra rf rB rC rD rE rH rL sp pc))/\∃ o1 o2,w'=(w.alloc o1).alloc o2:=by
 have ca:∀ (W:World) (p:Option Addr),Row W p (pU ra rf rB rC rD rE rH rL)->Calls prog 78 #[.slice p 8 8] W fun e w'=>e=.returned (.bool (dY (pU ra rf rB rC rD rE rH rL)))/\w'=W:=fun W p h=>mW p 8 (pU ra rf rB rC rD rE rH rL) W h (by simp [pU])
 have HR:Hid (∀ (u:World) (o:Obj) (T:TypeId),Row ((u.alloc o).alloc (.cells #[.int .i64 ra,.int .i64 rf,.int .i64 rB,.int .i64 rC,.int .i64 rD,.int .i64 rE,.int .i64 rH,.int .i64 rL] T)) (some ⟨u.heap.size+1,0,none⟩) (pU ra rf rB rC rD rE rH rL)):=fun u o T=>by
  have h:=aEO (u.alloc o) ra rf rB rC rD rE rH rL T;simp only [World.size_alloc] at h
  exact h
 have cs:=fun w=>bX sp w
 have cp:=fun w=>bX pc w
 obtain ⟨b1,h1⟩ : ∃ b,dY (pU ra rf rB rC rD rE rH rL)=b:=⟨_,rfl⟩
 obtain ⟨b2,h2⟩ : ∃ b,(rf%16 == 0)=b:=⟨_,rfl⟩
 obtain ⟨b3,h3⟩ : ∃ b,inB sp 0 65535=b:=⟨_,rfl⟩
 obtain ⟨b4,h4⟩ : ∃ b,inB pc 0 65535=b:=⟨_,rfl⟩
 have ev:aBO ra rf rB rC rD rE rH rL sp pc=(b1 && b2 && b3 && b4):=by unfold aBO;rw [h1,h2,h3,h4]
 have e2:b1=true->(bits BinOp.andNot IntKind.i64 rf 240 == 0)=b2:=by
  rintro rfl;obtain ⟨g0,g1⟩:=aEN h1
  have:=xS ⟨rf.toNat,by omega⟩
  simp only [Int.toNat_of_nonneg g0] at this
  rw [this,h2]
 rw [ev];rw [h1] at ca
 rw [h3] at cs
 rw [h4] at cp
 clear ev h1 h2 h3 h4
 cases b1
 ·clear e2
  go_enter func76,ntmps76
  go_wp2_with fail
  refine Calls.mono (ca _ _ ?_) ?_
  ·exact HR.out _ _ _
  rintro e w' ⟨rfl,rfl⟩;go_wp2;go_ret;exact ⟨rfl,_,_,rfl⟩
 ·have e2:=e2 rfl
  cases b2 <;> cases b3 <;> cases b4
  all_goals
   go_enter func76,ntmps76
   go_wp2_with fail
   refine Calls.mono (ca _ _ ?_) ?_
   ·exact HR.out _ _ _
   rintro e w' ⟨rfl,rfl⟩
   go_wp2_with first|(go_at_call_of 112 sp;refine (cs _).mono ?_;rintro e w' ⟨rfl,rfl⟩)|(go_at_call_of 112 pc;refine (cp _).mono ?_;rintro e w' ⟨rfl,rfl⟩)
   go_ret;exact ⟨rfl,_,_,rfl⟩
end MachO
namespace MachK
open Go.Deep
open Signed (inB aG aB aC aE)
open Carts CartK CartL CartR CartX Outs Mach MachT MachO
def okM (ra rf rB rC rD rE rH rL sp pc:Int) (cart:Bool) (work high:Nat) (L:List Int) (cyc:Int):Bool :=
 aBO ra rf rB rC rD rE rH rL sp pc && cart && work == 256 && high == 127 && decide (L.length<=100) && dY L && decide (0<=cyc) && decide (cyc<=1000000000)
theorem aGY (ra rf rB rC rD rE rH rL sp pc:Int) (ime hal:Bool) (rom:ByteArray) (kind bank:Int) (ram:ByteArray) (rb:Int) (on:Bool) (mode:Int) (work high:ByteArray) (po:Option Addr) (L:List Int) (cap:Nat) (cyc:Int) (w:World) (z1:rom.size<=maxLen) (z2:ram.size<=maxLen) (z3:work.size<=1048576) (z4:high.size<=1048576) (hN:Row w po L) (hlen:L.length<=1048576) :
  Calls prog 37 #[.agg #[.int .i64 ra,.int .i64 rf,.int .i64 rB,.int .i64 rC,.int .i64 rD,.int .i64 rE,.int .i64 rH,.int .i64 rL,.int .i64 sp,.int .i64 pc,.bool ime,.bool hal,.string rom,.int .i64 kind,.int .i64 bank,.string ram,.int .i64 rb,.bool on,.int .i64 mode,.string work,.string high,.slice po L.length cap,.int .i64 cyc]] w fun e w'=>e=.returned (.bool (okM ra rf rB rC rD rE rH rL sp pc (okB rom kind bank ram rb on mode) work.size high.size L cyc))/\Below w.heap.size w w':=by
 have HN:Hid (Row w po L):=hN;have c1:=fun w=>aGX ra rf rB rC rD rE rH rL sp pc ime hal w
 have c6:=fun W h=>mW po cap L W h hlen
 obtain ⟨b1,h1⟩ : ∃ b,aBO ra rf rB rC rD rE rH rL sp pc=b:=⟨_,rfl⟩
 obtain ⟨b6,h6⟩ : ∃ b,dY L=b:=⟨_,rfl⟩
 obtain ⟨r,hr⟩ : ∃ r,r=okM ra rf rB rC rD rE rH rL sp pc (okB rom kind bank ram rb on mode) work.size high.size L cyc:=⟨_,rfl⟩
 obtain ⟨len,hl⟩ : ∃ len,len=L.length:=⟨_,rfl⟩
 have he:r=(b1 && okB rom kind bank ram rb on mode && work.size == 256 && high.size == 127 && decide (len<=100) && b6 && decide (0<=cyc) && decide (cyc<=1000000000)):=by rw [hr,hl];unfold okM;rw [h1,h6]
 have HE:Hid (r=(b1 && okB rom kind bank ram rb on mode && work.size == 256 && high.size == 127 && decide (len<=100) && b6 && decide (0<=cyc) && decide (cyc<=1000000000))):=he;clear he;rw [h1] at c1
 rw [h6,<- hl] at c6
 rw [<- hl] at hlen
 rw [<- hr,<- hl];clear hr hl h1 h6 hN
 go_enter func37,ntmps37
 go_wp2_with fail
 refine (c1 _).mono ?_;rintro e w1 ⟨rfl,o1,o2,rfl⟩;clear c1
 cases b1
 ·go_wp2
  go_ret;exact ⟨aB (by rw [HE.out];simp),by repeat (with_reducible first|exact zRf|refine zGr ?_ _|refine below_drewN ?_ _|refine Below.drew ?_)⟩
 cases h2:okB rom kind bank ram rb on mode with
 | false =>
  have c2:=fun w=>lY rom kind bank ram rb on mode w z1 z2
  rw [h2] at c2 HE
  clear h2
  go_wp2_with (go_at_call 77;refine (c2 _).mono ?_;rintro e w' ⟨rfl,hbel⟩)
  go_ret;exact ⟨aB (by rw [HE.out];simp),CartL.after (by repeat (with_reducible first|exact zRf|refine zGr ?_ _|refine below_drewN ?_ _|refine Below.drew ?_)) hbel⟩
 | true =>
 have c2:=fun w=>aAT rom kind bank ram rb on mode w z1 z2 h2
 rw [h2] at HE
 clear h2
 go_wp2_with fail
 refine (c2 _).mono ?_;rintro e w1 ⟨rfl,T,rfl⟩;clear c2
 by_cases k3:work.size=256
 rotate_left
 ·have d:((work.size:Int) == 256)=false:=by first|exact u6 (by omega)|(simp;omega)
  have d':(work.size == 256)=false:=by first|exact u6 (by omega)|(simp;omega)
  rw [d'] at HE
  clear d';go_wp2;go_ret;exact ⟨aB (by rw [HE.out];simp),by repeat (with_reducible first|exact zRf|refine zGr ?_ _|refine below_drewN ?_ _|refine Below.drew ?_)⟩
 have Dk3:((work.size:Int) == 256)=true:=by first|exact x9 (by omega)|(simp;omega)
 have d':(work.size == 256)=true:=by first|exact x9 (by omega)|(simp;omega)
 rw [d'] at HE
 clear d'
 by_cases k4:high.size=127
 rotate_left
 ·have d:((high.size:Int) == 127)=false:=by first|exact u6 (by omega)|(simp;omega)
  have d':(high.size == 127)=false:=by first|exact u6 (by omega)|(simp;omega)
  rw [d'] at HE
  clear d';go_wp2;go_ret;exact ⟨aB (by rw [HE.out];simp),by repeat (with_reducible first|exact zRf|refine zGr ?_ _|refine below_drewN ?_ _|refine Below.drew ?_)⟩
 have Dk4:((high.size:Int) == 127)=true:=by first|exact x9 (by omega)|(simp;omega)
 have d':(high.size == 127)=true:=by first|exact x9 (by omega)|(simp;omega)
 rw [d'] at HE
 clear d'
 by_cases k5:len<=100
 rotate_left
 ·have d:(decide ((len:Int)<=100))=false:=by first|exact u6 (by omega)|(simp;omega)
  have d':(decide (len<=100))=false:=by first|exact u6 (by omega)|(simp;omega)
  rw [d'] at HE
  clear d';go_wp2;go_ret;exact ⟨aB (by rw [HE.out];simp),by repeat (with_reducible first|exact zRf|refine zGr ?_ _|refine below_drewN ?_ _|refine Below.drew ?_)⟩
 have Dk5:(decide ((len:Int)<=100))=true:=by first|exact x9 (by omega)|(simp;omega)
 have d':(decide (len<=100))=true:=by first|exact x9 (by omega)|(simp;omega)
 rw [d'] at HE
 clear d'
 go_wp2_with fail
 refine Calls.mono (c6 _ ?_) ?_
 ·exact HN.out.below (by repeat (with_reducible first|exact zRf|refine zGr ?_ _|refine below_drewN ?_ _|refine Below.drew ?_))
 rintro e w1 ⟨rfl,rfl⟩;clear c6
 cases b6
 ·go_wp2
  go_ret;exact ⟨aB (by rw [HE.out];simp),by repeat (with_reducible first|exact zRf|refine zGr ?_ _|refine below_drewN ?_ _|refine Below.drew ?_)⟩
 by_cases k7:0<=cyc
 rotate_left
 ·have d:(decide (0<=cyc))=false:=by first|exact u6 (by omega)|(simp;omega)
  have d':(decide (0<=cyc))=false:=by first|exact u6 (by omega)|(simp;omega)
  rw [d'] at HE
  clear d';go_wp2;go_ret;exact ⟨aB (by rw [HE.out];simp),by repeat (with_reducible first|exact zRf|refine zGr ?_ _|refine below_drewN ?_ _|refine Below.drew ?_)⟩
 have Dk7:(decide (0<=cyc))=true:=by first|exact x9 (by omega)|(simp;omega)
 have d':(decide (0<=cyc))=true:=by first|exact x9 (by omega)|(simp;omega)
 rw [d'] at HE
 clear d';go_wp2;go_ret;exact ⟨aB (by rw [HE.out];simp),by repeat (with_reducible first|exact zRf|refine zGr ?_ _|refine below_drewN ?_ _|refine Below.drew ?_)⟩
theorem aGZ (ra rf rB rC rD rE rH rL sp pc:Int) (ime hal:Bool) (rom:ByteArray) (kind bank:Int) (ram:ByteArray) (rb:Int) (on:Bool) (mode:Int) (work high:ByteArray) (po:Option Addr) (L:List Int) (cap:Nat) (cyc:Int) (w:World) (z1:rom.size<=maxLen) (z2:ram.size<=maxLen) (z3:work.size<=1048576) (z4:high.size<=1048576) (hN:Row w po L) (hlen:L.length<=1048576) :
  Calls prog 19 #[.agg #[.int .i64 ra,.int .i64 rf,.int .i64 rB,.int .i64 rC,.int .i64 rD,.int .i64 rE,.int .i64 rH,.int .i64 rL,.int .i64 sp,.int .i64 pc,.bool ime,.bool hal,.string rom,.int .i64 kind,.int .i64 bank,.string ram,.int .i64 rb,.bool on,.int .i64 mode,.string work,.string high,.slice po L.length cap,.int .i64 cyc]] w fun e w'=>e=.returned (.bool (okM ra rf rB rC rD rE rH rL sp pc (okB rom kind bank ram rb on mode) work.size high.size L cyc))/\Below w.heap.size w w':=by
 have HN:Hid (Row w po L):=hN;obtain ⟨R,hR⟩ : ∃ R,R=pU ra rf rB rC rD rE rH rL:=⟨_,rfl⟩
 have HR8:Hid (R.length=8):=by rw [hR];exact (rfl:(8:Nat)=8)
 have hrf:Hid (dY R=true->0<=rf/\rf<=255):=fun h=>aEN (by rw [<- hR];exact h)
 obtain ⟨r,hr⟩ : ∃ r,r=okM ra rf rB rC rD rE rH rL sp pc (okB rom kind bank ram rb on mode) work.size high.size L cyc:=⟨_,rfl⟩
 obtain ⟨len,hl⟩ : ∃ len,len=L.length:=⟨_,rfl⟩
 have he:r=(dY R && rf%16 == 0 && inB sp 0 65535 && inB pc 0 65535 && okB rom kind bank ram rb on mode && work.size == 256 && high.size == 127 && decide (len<=100) && dY L && decide (0<=cyc) && decide (cyc<=1000000000)):=by rw [hr,hl];unfold okM aBO;rw [<- hR]
 have HE:Hid (r=(dY R && rf%16 == 0 && inB sp 0 65535 && inB pc 0 65535 && okB rom kind bank ram rb on mode && work.size == 256 && high.size == 127 && decide (len<=100) && dY L && decide (0<=cyc) && decide (cyc<=1000000000))):=he;have HL:Hid (len=L.length):=hl;have HRR:Hid (∀ (u:World) (T:TypeId),Row (u.alloc (.cells #[.int .i64 ra,.int .i64 rf,.int .i64 rB,.int .i64 rC,.int .i64 rD,.int .i64 rE,.int .i64 rH,.int .i64 rL] T)) (some ⟨u.heap.size,0,none⟩) R):=fun u T=>by rw [hR];exact aEO u ra rf rB rC rD rE rH rL T
 rw [<- hl] at hlen
 rw [<- hr,<- hl];clear hN hr hl he hR
 go_enter func19,ntmps19
 go_wp2;obtain ⟨W,hW⟩ : ∃ W,W=((w.alloc (.cells #[.int .i64 ra,.int .i64 rf,.int .i64 rB,.int .i64 rC,.int .i64 rD,.int .i64 rE,.int .i64 rH,.int .i64 rL,.int .i64 sp,.int .i64 pc,.bool ime,.bool hal,.string rom,.int .i64 kind,.int .i64 bank,.string ram,.int .i64 rb,.bool on,.int .i64 mode,.string work,.string high,.slice po len cap,.int .i64 cyc] 30)).alloc (.cells #[.int .i64 ra,.int .i64 rf,.int .i64 rB,.int .i64 rC,.int .i64 rD,.int .i64 rE,.int .i64 rH,.int .i64 rL,.int .i64 sp,.int .i64 pc,.bool ime,.bool hal] 25)).alloc (.cells #[.int .i64 ra,.int .i64 rf,.int .i64 rB,.int .i64 rC,.int .i64 rD,.int .i64 rE,.int .i64 rH,.int .i64 rL] 2):=⟨_,rfl⟩
 rw [<- hW];have hb3:Below (((w.alloc (.cells #[.int .i64 ra,.int .i64 rf,.int .i64 rB,.int .i64 rC,.int .i64 rD,.int .i64 rE,.int .i64 rH,.int .i64 rL,.int .i64 sp,.int .i64 pc,.bool ime,.bool hal,.string rom,.int .i64 kind,.int .i64 bank,.string ram,.int .i64 rb,.bool on,.int .i64 mode,.string work,.string high,.slice po len cap,.int .i64 cyc] 30)).alloc (.cells #[.int .i64 ra,.int .i64 rf,.int .i64 rB,.int .i64 rC,.int .i64 rD,.int .i64 rE,.int .i64 rH,.int .i64 rL,.int .i64 sp,.int .i64 pc,.bool ime,.bool hal] 25)).alloc (.cells #[.int .i64 ra,.int .i64 rf,.int .i64 rB,.int .i64 rC,.int .i64 rD,.int .i64 rE,.int .i64 rH,.int .i64 rL] 2)).heap.size (((w.alloc (.cells #[.int .i64 ra,.int .i64 rf,.int .i64 rB,.int .i64 rC,.int .i64 rD,.int .i64 rE,.int .i64 rH,.int .i64 rL,.int .i64 sp,.int .i64 pc,.bool ime,.bool hal,.string rom,.int .i64 kind,.int .i64 bank,.string ram,.int .i64 rb,.bool on,.int .i64 mode,.string work,.string high,.slice po len cap,.int .i64 cyc] 30)).alloc (.cells #[.int .i64 ra,.int .i64 rf,.int .i64 rB,.int .i64 rC,.int .i64 rD,.int .i64 rE,.int .i64 rH,.int .i64 rL,.int .i64 sp,.int .i64 pc,.bool ime,.bool hal] 25)).alloc (.cells #[.int .i64 ra,.int .i64 rf,.int .i64 rB,.int .i64 rC,.int .i64 rD,.int .i64 rE,.int .i64 rH,.int .i64 rL] 2)) W:=by rw [hW];exact zRf
 obtain ⟨k1,k2,k3⟩:=bGT hb3;have hsz:W.heap.size=w.heap.size+1+1+1:=by rw [hW];simp only [World.size_alloc]
 have hbw:Below w.heap.size w W:=by
  rw [hW];exact (by repeat (with_reducible first|exact zRf|refine zGr ?_ _|refine below_drewN ?_ _|refine Below.drew ?_))
 have HB:Hid (Below w.heap.size w W):=hbw;clear hbw;have HRow:=zHd (HN.out.below HB.out);have HReg:Hid (∀ j (h:j<R.length),W.cell? ⟨w.heap.size+1+1,j,none⟩=some (.int .i64 R[j])):=by
  have h:=HRR.out ((w.alloc (.cells #[.int .i64 ra,.int .i64 rf,.int .i64 rB,.int .i64 rC,.int .i64 rD,.int .i64 rE,.int .i64 rH,.int .i64 rL,.int .i64 sp,.int .i64 pc,.bool ime,.bool hal,.string rom,.int .i64 kind,.int .i64 bank,.string ram,.int .i64 rb,.bool on,.int .i64 mode,.string work,.string high,.slice po len cap,.int .i64 cyc] 30)).alloc (.cells #[.int .i64 ra,.int .i64 rf,.int .i64 rB,.int .i64 rC,.int .i64 rD,.int .i64 rE,.int .i64 rH,.int .i64 rL,.int .i64 sp,.int .i64 pc,.bool ime,.bool hal] 25)) 2;rw [<- hW] at h
  simp only [World.size_alloc] at h
  rcases h with h|⟨b,off,h1,_,h3⟩
  ·intro j hj;rw [h] at hj;exact absurd hj (by simp)
  ·intro j hj
   have e:b=w.heap.size+1+1/\off=0:=by
    have:=Option.some.inj h1
    injection this with q1 q2 q3
    exact ⟨q1.symm,q2.symm⟩
   have:=h3 j hj
   rw [e.1,e.2,Nat.zero_add] at this
   exact this
 have g21:=cel k1 21 _ rfl;have K1:Hid (_=_):=k1;have K2:Hid (_=_):=k2;clear hW hb3 k1 k2 k3 HN HRR
 go_loopw [5] (fun i wr=>∃ k:Nat,k<=8/\i=.int .i64 k/\wr=W/\Hid (∀ j (hj:j<R.length),j<k->inB R[j] 0 255=true)) (fun i _=>8-(intOf i).toNat)
 case atStart=>exact ⟨0,by omega,rfl,rfl,fun j _ h=>absurd h (Nat.not_lt_zero _)⟩
 case round =>
 obtain ⟨k,hk,rfl,hw,hall⟩:=hrel;subst wr
 by_cases hlt:k<8
 ·have hkL:k<R.length:=by have:=HR8.out;omega
  have c0:=HReg.out k hkL;have hno:Hid (inB R[k] 0 255=false->dY R=false):=fun h=>qU hkL h
  have hgo:Hid (inB R[k] 0 255=true->∀ j (hj:j<R.length),j<k+1->inB R[j] 0 255=true):=fun h j hj hjk=>by
   by_cases e:j=k
   ·subst e;exact h
   ·exact hall.out j hj (by omega)
  generalize R[k]=n at c0 hno hgo
  have ci:=fun w=>dH n w
  clear g21
  cases hb2:inB n 0 255 with
  | false =>
   rw [hb2] at ci
   have er:=hno.out hb2;rw [er] at HE
   clear hb2 hno hgo hall
   go_wp2_with (go_at_call 53;refine (ci _).mono ?_;rintro e w' ⟨rfl,rfl⟩)
   go_ret;exact ⟨aB (by rw [HE.out];simp),HB.out⟩
  | true =>
   rw [hb2] at ci
   have HG:Hid (∀ j (hj:j<R.length),j<k+1->inB R[j] 0 255=true):=hgo.out hb2;clear hb2 hno hgo hall
   go_wp2_with (go_at_call 53;refine (ci _).mono ?_;rintro e w' ⟨rfl,rfl⟩)
   go_roundw
   case rel=>exact ⟨k+1,by omega,by go_num,trivial,HG.out⟩
   case measure=>simp [intOf];omega
 have eR:dY R=true:=oI fun j hj=>hall.out j hj (by have:=HR8.out;omega)
 rw [eR] at HE
 obtain ⟨f0,f1⟩:=hrf.out eR;have e8:k=8:=by omega
 subst e8;clear eR hall hrf HReg HR8;go_wp2
 go_loopw [6] (fun i wr=>∃ k:Nat,k<=len/\i=.int .i64 k/\wr=W/\Hid (∀ j (hj:j<L.length),j<k->inB L[j] 0 255=true)) (fun i _=>len-(intOf i).toNat)
 case atStart=>exact ⟨0,by omega,rfl,rfl,fun j _ h=>absurd h (Nat.not_lt_zero _)⟩
 case round =>
 obtain ⟨k,hk,rfl,hw,hall⟩:=hrel;subst wr
 by_cases hlt:k<len
 ·have hkL:k<L.length:=by have:=HL.out;omega
  rcases HRow.out with hnil|⟨b,off,rfl,hb,hc⟩
  ·exfalso;rw [hnil] at hkL;exact absurd hkL (by simp)
  have c0:=hc k hkL;clear hc;have hno:Hid (inB L[k] 0 255=false->dY L=false):=fun h=>qU hkL h
  have hgo:Hid (inB L[k] 0 255=true->∀ j (hj:j<L.length),j<k+1->inB L[j] 0 255=true):=fun h j hj hjk=>by
   by_cases e:j=k
   ·subst e;exact h
   ·exact hall.out j hj (by omega)
  generalize L[k]=n at c0 hno hgo
  have ci:=fun w=>dH n w
  cases hb2:inB n 0 255 with
  | false =>
   rw [hb2] at ci
   have er:=hno.out hb2;rw [er] at HE
   clear hb2 hno hgo hall
   go_wp2_with (go_at_call 53;refine (ci _).mono ?_;rintro e w' ⟨rfl,rfl⟩)
   go_ret;exact ⟨aB (by rw [HE.out];simp),HB.out⟩
  | true =>
   rw [hb2] at ci
   have HG:Hid (∀ j (hj:j<L.length),j<k+1->inB L[j] 0 255=true):=hgo.out hb2;clear hb2 hno hgo hall
   go_wp2_with (go_at_call 53;refine (ci _).mono ?_;rintro e w' ⟨rfl,rfl⟩)
   go_roundw
   case rel =>
    (repeat apply Exists.intro)
    refine ⟨⟨k+1,by omega,?_,trivial,HG.out⟩,rfl⟩
    go_num
   case measure=>simp [intOf];omega
 have eL:dY L=true:=oI fun j hj=>hall.out j hj (by have:=HL.out;omega)
 rw [eL] at HE
 have e8:len=k:=by omega
 subst e8;clear eL hall HRow HL hlt hk;have g1:=cel K2.out 1 _ rfl;have g8:=cel K2.out 8 _ rfl;have g9:=cel K2.out 9 _ rfl;have m12:=cel K1.out 12 _ rfl;have m13:=cel K1.out 13 _ rfl;have m14:=cel K1.out 14 _ rfl;have m15:=cel K1.out 15 _ rfl;have m16:=cel K1.out 16 _ rfl;have m17:=cel K1.out 17 _ rfl;have m18:=cel K1.out 18 _ rfl;have m19:=cel K1.out 19 _ rfl;have m20:=cel K1.out 20 _ rfl;have m22:=cel K1.out 22 _ rfl;clear K1 K2;have csp:=fun w=>eV sp w
 have cpc:=fun w=>eV pc w
 have co:=fun w=>jE rom kind bank ram rb on mode w z1 z2
 by_cases k1:rf%16=0
 rotate_left
 ·have d:(rf%16 == 0)=false:=by simp;omega
  rw [d] at HE
  go_wp2;go_ret;exact ⟨aB (by rw [HE.out];simp),HB.out⟩
 have D1:(rf%16 == 0)=true:=by simp;omega
 rw [D1] at HE
 cases h2:inB sp 0 65535 with
 | false =>
  rw [h2] at csp HE
  clear h2
  go_wp2_with (go_at_call 54;refine (csp _).mono ?_;rintro e w' ⟨rfl,rfl⟩)
  go_ret;exact ⟨aB (by rw [HE.out];simp),HB.out⟩
 | true =>
 rw [h2] at csp HE
 clear h2
 cases h3:inB pc 0 65535 with
 | false =>
  rw [h3] at cpc HE
  clear h3
  go_wp2_with first|(go_at_call_of 54 sp;refine (csp _).mono ?_;rintro e w' ⟨rfl,rfl⟩)|(go_at_call_of 54 pc;refine (cpc _).mono ?_;rintro e w' ⟨rfl,rfl⟩)
  go_ret;exact ⟨aB (by rw [HE.out];simp),HB.out⟩
 | true =>
 rw [h3] at cpc HE
 clear h3
 cases h4:okB rom kind bank ram rb on mode with
 | false =>
  rw [h4] at co HE
  clear h4
  go_wp2_with first|(go_at_call_of 54 sp;refine (csp _).mono ?_;rintro e w' ⟨rfl,rfl⟩)|(go_at_call_of 54 pc;refine (cpc _).mono ?_;rintro e w' ⟨rfl,rfl⟩)|(go_at_call 55;refine (co _).mono ?_;rintro e w' ⟨rfl,rfl⟩)
  go_ret;exact ⟨aB (by rw [HE.out];simp),HB.out.alloc HB.out.size _⟩
 | true =>
 rw [h4] at co HE
 clear h4
 go_wp2_with first|(go_at_call_of 54 sp;refine (csp _).mono ?_;rintro e w' ⟨rfl,rfl⟩)|(go_at_call_of 54 pc;refine (cpc _).mono ?_;rintro e w' ⟨rfl,rfl⟩)
 refine (co _).mono ?_;rintro e w1 ⟨rfl,rfl⟩;clear csp cpc co g1 g8 g9 m12 m13 m14 m15 m16 m17 m18
 by_cases k5:work.size=256
 rotate_left
 ·have d:((work.size:Int) == 256)=false:=by first|exact u6 (by omega)|(simp;omega)
  have d':(work.size == 256)=false:=by first|exact u6 (by omega)|(simp;omega)
  rw [d'] at HE
  clear d';go_wp2;go_ret;exact ⟨aB (by rw [HE.out];simp),HB.out.alloc HB.out.size _⟩
 have Dk5:((work.size:Int) == 256)=true:=by first|exact x9 (by omega)|(simp;omega)
 have d':(work.size == 256)=true:=by first|exact x9 (by omega)|(simp;omega)
 rw [d'] at HE
 clear d'
 by_cases k6:high.size=127
 rotate_left
 ·have d:((high.size:Int) == 127)=false:=by first|exact u6 (by omega)|(simp;omega)
  have d':(high.size == 127)=false:=by first|exact u6 (by omega)|(simp;omega)
  rw [d'] at HE
  clear d';go_wp2;go_ret;exact ⟨aB (by rw [HE.out];simp),HB.out.alloc HB.out.size _⟩
 have Dk6:((high.size:Int) == 127)=true:=by first|exact x9 (by omega)|(simp;omega)
 have d':(high.size == 127)=true:=by first|exact x9 (by omega)|(simp;omega)
 rw [d'] at HE
 clear d'
 by_cases k7:len<=100
 rotate_left
 ·have d:(decide ((len:Int)<=100))=false:=by first|exact u6 (by omega)|(simp;omega)
  have d':(decide (len<=100))=false:=by first|exact u6 (by omega)|(simp;omega)
  rw [d'] at HE
  clear d';go_wp2;go_ret;exact ⟨aB (by rw [HE.out];simp),HB.out.alloc HB.out.size _⟩
 have Dk7:(decide ((len:Int)<=100))=true:=by first|exact x9 (by omega)|(simp;omega)
 have d':(decide (len<=100))=true:=by first|exact x9 (by omega)|(simp;omega)
 rw [d'] at HE
 clear d';have hcy:inB cyc 0 1000000000=(decide (0<=cyc) && decide (cyc<=1000000000)):=by
  unfold inB;rw [Bool.eq_iff_iff]
  simp
 go_wp2_with (go_at_call 42;refine (aE _ _ _ _).mono ?_;rintro e w' ⟨rfl,rfl⟩)
 go_ret;refine ⟨?_,HB.out.alloc HB.out.size _⟩;exact aB (by rw [HE.out];simp)
end MachK
namespace LenX
open Signed (inB aE)
open Leng (fC dQ jK)
open HoleX (n8 n16 e8 eG eQ)
open HolI
theorem pF (s:ByteArray):eG s=⟨#[110,56]⟩ \/ eG s=⟨#[110,49,54]⟩ \/ eG s=⟨#[101,56]⟩ \/ eG s=⟨#[]⟩:=by
 unfold eG;split
 ·exact .inr (.inl rfl)
 split
 ·exact .inl rfl
 split
 ·exact .inr (.inr (.inl rfl))
 ·exact .inr (.inr (.inr rfl))
theorem aSK (n:Nat):(n == 0)=decide (n=0):=by by_cases h:n=0 <;> simp [h]
def mX (z:Bool) (cb:Bool) (h:ByteArray):Int:=if z=true then 0 else if cb=true then 2 else if h.size=0 then 1 else if h=n16 then 3 else 2
def bV (code:Int) (cb:Bool):Bool:=!inB code 0 255 || (Tmpl.aY code cb).size == 0
def dM (code:Int) (cb:Bool):ByteArray:=eG (Tmpl.aY code cb)
theorem aLM:∀ (c:Fin 256) (b:Bool),((Tmpl.aY (c.val:Int) b).size=0 ↔ (Shape.cC (c.val:Int) b).size=0)/\fB (Shape.cC (c.val:Int) b)=eG (Tmpl.aY (c.val:Int) b)/\(Shape.cC (c.val:Int) b).size<=40:=by decide +kernel
theorem uX (code:Int) (cb:Bool) (h0:0<=code) (h1:code<=255):((Tmpl.aY code cb).size=0 ↔ (Shape.cC code cb).size=0)/\fB (Shape.cC code cb)=eG (Tmpl.aY code cb)/\(Shape.cC code cb).size<=40:=by
 have:=aLM ⟨code.toNat,by omega⟩ cb
 rwa [show ((⟨code.toNat,by omega⟩ : Fin 256).val:Int)=code by show ((code.toNat:Nat):Int)=code;omega] at this
theorem iT {code:Int} {cb:Bool} (h:inB code 0 255=true):Shape.shape code cb=Shape.cC code cb:=by unfold Shape.shape;rw [if_pos h]
theorem lD {code:Int} {cb:Bool} (h:inB code 0 255=false):Shape.shape code cb=⟨#[]⟩:=by unfold Shape.shape;rw [h];rfl
theorem qV (code:Int) (cb:Bool) (w:World) (hm:MaxL w) :
  Calls prog 166 #[.int .i64 code,.bool cb] w fun e w'=>e=.returned (.int .i64 (mX (bV code cb) cb (dM code cb)))/\Below w.heap.size w w':=by
 have c:=fun w=>Shape.dW code cb w
 cases hb:inB code 0 255
 ·have hz:(Shape.shape code cb).size=0:=by rw [lD hb];rfl
  have he:=fC hz;have hn:bV code cb=true:=by unfold bV;rw [hb];rfl
  rw [hn];generalize Shape.shape code cb=T at c he
  go_enter func166,ntmps166
  go_wp2_with fail
  refine (c _).mono ?_;rintro e w1 ⟨rfl,b1⟩;have B1:Hid (Below w.heap.size w w1):=b1;clear b1 c;go_wp2;go_ret;exact ⟨rfl,B1.out⟩
 obtain ⟨h0,h1⟩:=u7 hb;obtain ⟨h2,h3,h4⟩:=uX code cb h0 h1;have hn:bV code cb=(decide ((Shape.cC code cb).size=0)):=by
  unfold bV;rw [hb];show (_ == 0)=_;rw [aSK];exact decide_eq_decide.2 h2
 have hh:dM code cb=fB (Shape.cC code cb):=h3.symm;rw [hn,hh];rw [iT hb] at c
 clear hn hh h2 h3 hb;generalize Shape.cC code cb=T at c h4 |-
 by_cases hz:T.size=0
 ·have he:=fC hz
  rw [show decide (T.size=0)=true from x9 hz]
  go_enter func166,ntmps166
  go_wp2_with fail
  refine (c _).mono ?_;rintro e w1 ⟨rfl,b1⟩;have B1:Hid (Below w.heap.size w w1):=b1;clear b1 c;go_wp2;go_ret;exact ⟨rfl,B1.out⟩
 have he:=dQ hz;rw [show decide (T.size=0)=false from u6 hz];have ch:=fun w hm=>lZ T w (by omega) hm
 have HM:Hid (MaxL w):=hm;clear hm
 cases cb with
 | true =>
  go_enter func166,ntmps166
  go_wp2_with fail
  refine (c _).mono ?_;rintro e w1 ⟨rfl,b1⟩;have B1:Hid (Below w.heap.size w w1):=b1;clear b1 c;go_wp2;go_ret;exact ⟨rfl,B1.out⟩
 | false =>
  rcases xB T with hx|hx|hx|hx
  all_goals
   rw [hx] at ch |-
   go_enter func166,ntmps166
   go_wp2_with fail
   refine (c _).mono ?_;rintro e w1 ⟨rfl,b1⟩;have B1:Hid (Below w.heap.size w w1):=b1;clear b1 c
   go_wp2_with fail
   refine (ch _ (HM.out.below B1.out)).mono ?_;rintro e w2 ⟨rfl,b2⟩;have B2:Hid (Below w.heap.size w w2):=B1.out.trans (b2.mono B1.out.size);clear b2 ch B1;go_wp2;go_ret;exact ⟨rfl,B2.out⟩
theorem jL (code:Int) (cb:Bool) (w:World) (h0:0<=code) (h1:code<=255) :
  Calls prog 153 #[.int .i64 code,.bool cb] w fun e w'=>e=.returned (.int .i64 (mX (decide ((Tmpl.aY code cb).size=0)) cb (dM code cb)))/\Below w.heap.size w w':=by
 have c:=fun w=>Tmpl.gH code cb w h0 h1
 have hz:=jK code cb h0 h1;unfold dM;generalize Tmpl.aY code cb=T at c hz |-
 by_cases he:T.size=0
 ·have h':=fC he
  rw [show decide (T.size=0)=true from x9 he]
  go_enter func153,ntmps153
  go_wp2_with fail
  refine (c _).mono ?_;rintro e w1 ⟨rfl,b1⟩;have B1:Hid (Below w.heap.size w w1):=b1;clear b1 c;go_wp2;go_ret;exact ⟨rfl,B1.out⟩
 have h':=dQ he;rw [show decide (T.size=0)=false from u6 he];have ch:=fun w=>HoleX.kL T w (by omega)
 cases cb with
 | true =>
  go_enter func153,ntmps153
  go_wp2_with fail
  refine (c _).mono ?_;rintro e w1 ⟨rfl,b1⟩;have B1:Hid (Below w.heap.size w w1):=b1;clear b1 c;go_wp2;go_ret;exact ⟨rfl,B1.out⟩
 | false =>
  unfold HoleX.ret at ch
  rcases pF T with hx|hx|hx|hx
  all_goals
   rw [hx] at ch |-
   go_enter func153,ntmps153
   go_wp2_with fail
   refine (c _).mono ?_;rintro e w1 ⟨rfl,b1⟩;have B1:Hid (Below w.heap.size w w1):=b1;clear b1 c
   go_wp2_with fail
   refine (ch _).mono ?_;rintro e w2 ⟨rfl,b2⟩;have B2:Hid (Below w.heap.size w w2):=B1.out.trans (b2.mono B1.out.size);clear b2 ch B1;go_wp2;go_ret;exact ⟨rfl,B2.out⟩
theorem qW (code:Int) (cb:Bool) (w:World) :
  Calls prog 131 #[.int .i64 code,.bool cb] w fun e w'=>e=.returned (.int .i64 (mX (bV code cb) cb (dM code cb)))/\Below w.heap.size w w':=by
 cases hb:inB code 0 255
 ·have hn:bV code cb=true:=by unfold bV;rw [hb];rfl
  rw [hn];refine (Leng.jM code cb w hb).mono ?_;rintro e w' ⟨rfl,rfl⟩;exact ⟨rfl,Below.refl _ _⟩
 obtain ⟨h0,h1⟩:=u7 hb;have c:=fun w=>jL code cb w h0 h1
 have ci:=fun w=>aE code 0 255 w
 rw [hb] at ci
 have hn:bV code cb=decide ((Tmpl.aY code cb).size=0):=by unfold bV;rw [hb];show (_ == 0)=_;rw [aSK]
 rw [hn];generalize mX (decide ((Tmpl.aY code cb).size=0)) cb (dM code cb)=V at c |-
 go_enter func131,ntmps131
 go_wp2_with (first|(go_at_call 42;refine (ci _).mono ?_;rintro e w' ⟨rfl,hw'⟩;have hw':=hw'.symm;subst hw')|fail)
 refine (c _).mono ?_;rintro e w1 ⟨rfl,b1⟩;have B1:Hid (Below w.heap.size w w1):=b1;clear b1;go_wp2;go_ret;exact ⟨rfl,B1.out⟩
end LenX
namespace InsX
open Signed (aC)
open Signed (inB aE aB)
open Leng (fC dQ jK)
open HoleX (n8 n16 e8 eG eQ)
open HolI LenX
theorem bX (n:Int) (w:World) :
  Calls prog 112 #[.int .i64 n] w fun e w'=>e=.returned (.bool (inB n 0 65535))/\w'=w:=by
 go_enter func112,ntmps112
 go_wp2
 all_goals
  go_ret;exact ⟨aB (by unfold inB;first|(simp;omega)|simp_all),rfl⟩
theorem aSL (cb:Bool) (h:ByteArray):¬ mX false cb h=0:=by
 unfold mX;rw [if_neg (by decide)]
 by_cases h1:cb=true
 ·rw [if_pos h1];decide
 rw [if_neg h1]
 by_cases h2:h.size=0
 ·rw [if_pos h2];decide
 rw [if_neg h2]
 by_cases h3:h=n16
 ·rw [if_pos h3];decide
 ·rw [if_neg h3];decide
def okV (code:Int) (cb:Bool) (imm:Int):Bool:=if bV code cb=true then false else if (dM code cb).size=0 then decide (imm=0) else if dM code cb=n16 then inB imm 0 65535 else inB imm 0 255
theorem aHA {code:Int} {cb:Bool}:bV code cb=true->(Shape.shape code cb).size=0:=by
 intro h
 cases hb:inB code 0 255
 ·rw [lD hb];rfl
 ·obtain ⟨h0,h1⟩:=u7 hb
  rw [iT hb];unfold bV at h
  rw [hb] at h
  exact (uX code cb h0 h1).1.1 (by simpa using h)
theorem oJ {code:Int} {cb:Bool} (h:bV code cb=false):inB code 0 255=true/\¬ (Shape.shape code cb).size=0/\fB (Shape.shape code cb)=dM code cb/\(Shape.shape code cb).size<=40:=by
 unfold bV at h
 cases hb:inB code 0 255
 ·rw [hb] at h;simp at h
 ·rw [hb] at h
  obtain ⟨h0,h1⟩:=u7 hb;obtain ⟨h2,h3,h4⟩:=uX code cb h0 h1;rw [iT hb];refine ⟨rfl,fun hz=>?_,h3,h4⟩
  have:=h2.2 hz
  simp [this] at h
theorem jN (code:Int) (cb:Bool):dM code cb=⟨#[110,56]⟩ \/ dM code cb=⟨#[110,49,54]⟩ \/ dM code cb=⟨#[101,56]⟩ \/ dM code cb=⟨#[]⟩:=pF _
theorem aLN {code:Int} {cb:Bool} {imm:Int} (h:bV code cb=false) (hx:dM code cb=⟨#[110,49,54]⟩):okV code cb imm=inB imm 0 65535:=by unfold okV;rw [h,hx];rfl
theorem aYQ {code:Int} {cb:Bool} {imm:Int} (h:bV code cb=false) (hx:dM code cb=⟨#[110,56]⟩):okV code cb imm=inB imm 0 255:=by unfold okV;rw [h,hx];rfl
theorem aYR {code:Int} {cb:Bool} {imm:Int} (h:bV code cb=false) (hx:dM code cb=⟨#[101,56]⟩):okV code cb imm=inB imm 0 255:=by unfold okV;rw [h,hx];rfl
theorem aYS {code:Int} {cb:Bool} {imm:Int} (h:bV code cb=false) (hx:dM code cb=⟨#[]⟩):okV code cb imm=decide (imm=0):=by unfold okV;rw [h,hx];rfl
theorem lY (code:Int) (cb:Bool) (imm:Int) (w:World) (hm:MaxL w) :
  Calls prog 146 #[.agg #[.int .i64 code,.bool cb,.int .i64 imm]] w fun e w'=>e=.returned (.bool (okV code cb imm))/\Below w.heap.size w w':=by
 have c:=fun w=>Shape.dW code cb w
 have HM:Hid (MaxL w):=hm;clear hm
 cases hn:bV code cb
 ·obtain ⟨_,hz,hh,h4⟩:=oJ hn
  have he:=dQ hz;have ch:=fun w hm=>lZ (Shape.shape code cb) w (by omega) hm
  rw [hh] at ch
  clear hz hh h4;generalize Shape.shape code cb=T at c ch he
  have ib:=fun w=>aC imm w
  have iw:=fun w=>bX imm w
  rcases jN code cb with hx|hx|hx|hx
  all_goals
   first|rw [aYQ hn hx]|rw [aLN hn hx]|rw [aYR hn hx]|rw [aYS hn hx]
   rw [hx] at ch
   clear hx hn
   go_enter func146,ntmps146
   go_wp2_with fail
   refine (c _).mono ?_;rintro e w1 ⟨rfl,b1⟩;have B1:Hid (Below _ _ w1):=b1;have k1:=box b1 2 _ rfl;clear b1 c
   go_wp2_with fail
   refine (ch _ (HM.out.below (cW B1.out))).mono ?_;rintro e w2 ⟨rfl,b2⟩;have B2:Hid (Below _ _ w2):=after B1.out b2;have k2:=box B2.out 2 _ rfl;clear b2 ch B1 k1
   go_wp2_with first|(go_at_call 115;refine (ib _).mono ?_;rintro e w' ⟨rfl,hw⟩;subst hw)|(go_at_call 112;refine (iw _).mono ?_;rintro e w' ⟨rfl,hw⟩;subst hw)
   go_ret;exact ⟨by first|rfl|(rw [<- beqZ]),cW B2.out⟩
 ·have he:=fC (aHA hn)
  have hv:okV code cb imm=false:=by unfold okV;rw [hn];rfl
  rw [hv];generalize Shape.shape code cb=T at c he
  go_enter func146,ntmps146
  go_wp2_with fail
  refine (c _).mono ?_;rintro e w1 ⟨rfl,b1⟩;have B1:Hid (Below _ _ w1):=b1;clear b1 c;go_wp2;go_ret;exact ⟨rfl,cW B1.out⟩
theorem jE (code:Int) (cb:Bool) (imm:Int) (w:World) :
  Calls prog 102 #[.agg #[.int .i64 code,.bool cb,.int .i64 imm]] w fun e w'=>e=.returned (.bool (okV code cb imm))/\Below w.heap.size w w':=by
 have c:=fun w=>qW code cb w
 cases hn:bV code cb
 ·obtain ⟨hb,_,_,_⟩:=oJ hn
  obtain ⟨h0,h1⟩:=u7 hb;have ct:=fun w=>Tmpl.gH code cb w h0 h1
  have hz:=jK code cb h0 h1;have ch:=fun w=>HoleX.kL (Tmpl.aY code cb) w (by omega)
  unfold HoleX.ret at ch
  rw [hn] at c
  have hl:¬ mX false cb (dM code cb)=0:=aSL _ _;generalize mX false cb (dM code cb)=V at c hl
  rcases jN code cb with hx|hx|hx|hx
  all_goals
   first|rw [aYQ hn hx]|rw [aLN hn hx]|rw [aYR hn hx]|rw [aYS hn hx]
   unfold dM at hx
   rw [hx] at ch
   clear hx hn hz hb;generalize eQ (Tmpl.aY code cb)=Q at ch
   generalize Tmpl.aY code cb=T at ct ch
   go_enter func102,ntmps102
   go_wp2_with fail
   refine (c _).mono ?_;rintro e w1 ⟨rfl,b1⟩;have B1:Hid (Below _ _ w1):=b1;have k0:=box b1 0 _ rfl;have k1:=box b1 1 _ rfl;have k2:=box b1 2 _ rfl;clear b1 c
   go_wp2_with fail
   refine (ct _).mono ?_;rintro e w2 ⟨rfl,b2⟩;have B2:Hid (Below _ _ w2):=after B1.out b2;clear b2 ct B1 k0 k1 k2;have k2:=box B2.out 2 _ rfl
   go_wp2_with fail
   refine (ch _).mono ?_;rintro e w3 ⟨rfl,b3⟩;have B3:Hid (Below _ _ w3):=after B2.out b3;clear b3 ch B2 k2;have k2:=box B3.out 2 _ rfl
   go_wp2_with (go_at_call 42;refine (aE _ _ _ _).mono ?_;rintro e w' ⟨rfl,hw⟩;subst hw)
   go_ret;exact ⟨by first|rfl|(rw [<- beqZ]),cW B3.out⟩
 ·have hv:okV code cb imm=false:=by unfold okV;rw [hn];rfl
  rw [hv];rw [hn] at c
  have hl:mX true cb (dM code cb)=0:=rfl;rw [hl] at c
  go_enter func102,ntmps102
  go_wp2_with fail
  refine (c _).mono ?_;rintro e w1 ⟨rfl,b1⟩;have B1:Hid (Below _ _ w1):=b1;clear b1 c;go_wp2;go_ret;exact ⟨rfl,cW B1.out⟩
end InsX
end Go.Proofs.YteglcgnhhoenbaaGreatDoor
