import Derived.Test.YteglcgnhhoenbaaGreatDoorQ35
set_option linter.all false
set_option maxRecDepth 20000
set_option maxHeartbeats 8000000
open Go.ChangeShapes Go.WideShapes Go.ChangeAt Go.RowKit
open Go.Proofs.Tryz
namespace Go.Proofs.YteglcgnhhoenbaaGreatDoor
namespace Stpe
open Go.Deep
open Signed (inB sgn aG aB)
open Reck ReckS ReckM ReckD TurnS
open Busw Busx Stpp Stpq Stpi Stpj Stpr Stpk Stpm Stpn Stpu Stpx Stpy Stpv Stpz Stpw Stpb Stpd Stpc Stpf
structure Parts (g:G):Prop where
 c:0<=g.code/\g.code<=255
 x:g.x=g.code / 64
 y:g.y=g.code / 8%8
 z:g.z=g.code%8
 p:g.p=g.code / 8%8 / 2
theorem Parts.pt {g:G} (h:Parts g):Pt g:=by
 obtain ⟨hc,hx,hy,hz,hp⟩:=h;exact ⟨by omega,by omega,by omega,by omega⟩
def Does (g:G) (W:World) (fv:Value) (t:S):Prop:=∃ F cap,fv=.func (.func F) #[] cap/\(∀ args w,(callFunc F args).run prog w=.ok (.enter F args) w)/\Calls prog F (#[.pointer (some ⟨g.K,0,none⟩)] ++ cap) W fun e w'=>e=.returned (.tuple #[])/\In g w' t.m t.full
def dC (g:G) (w:World) (s:ByteArray) (t:S):Prop:=Calls prog 95 #[.string s] w fun e w'=>∃ fv,e=.returned fv/\Below w.heap.size w w'/\Does g w' fv t
theorem aDQ (args:Array Value) (w:World):(callFunc 200 args).run prog w=.ok (.enter 200 args) w:=by rfl
theorem rP (args:Array Value) (w:World):(callFunc 205 args).run prog w=.ok (.enter 205 args) w:=by rfl
theorem nP (args:Array Value) (w:World):(callFunc 143 args).run prog w=.ok (.enter 143 args) w:=by rfl
theorem zK (args:Array Value) (w:World):(callFunc 180 args).run prog w=.ok (.enter 180 args) w:=by rfl
theorem pM (args:Array Value) (w:World):(callFunc 211 args).run prog w=.ok (.enter 211 args) w:=by rfl
theorem vZ (args:Array Value) (w:World):(callFunc 223 args).run prog w=.ok (.enter 223 args) w:=by rfl
theorem pN (args:Array Value) (w:World):(callFunc 213 args).run prog w=.ok (.enter 213 args) w:=by rfl
theorem zM (args:Array Value) (w:World):(callFunc 214 args).run prog w=.ok (.enter 214 args) w:=by rfl
theorem pO (args:Array Value) (w:World):(callFunc 215 args).run prog w=.ok (.enter 215 args) w:=by rfl
theorem zN (args:Array Value) (w:World):(callFunc 217 args).run prog w=.ok (.enter 217 args) w:=by rfl
theorem pQ (args:Array Value) (w:World):(callFunc 218 args).run prog w=.ok (.enter 218 args) w:=by rfl
theorem zO (args:Array Value) (w:World):(callFunc 220 args).run prog w=.ok (.enter 220 args) w:=by rfl
theorem zQ (args:Array Value) (w:World):(callFunc 221 args).run prog w=.ok (.enter 221 args) w:=by rfl
theorem zR (args:Array Value) (w:World):(callFunc 222 args).run prog w=.ok (.enter 222 args) w:=by rfl
theorem jW (args:Array Value) (w:World):(callFunc 244 args).run prog w=.ok (.enter 244 args) w:=by rfl
theorem zS (args:Array Value) (w:World):(callFunc 169 args).run prog w=.ok (.enter 169 args) w:=by rfl
theorem zT (args:Array Value) (w:World):(callFunc 172 args).run prog w=.ok (.enter 172 args) w:=by rfl
theorem zU (args:Array Value) (w:World):(callFunc 173 args).run prog w=.ok (.enter 173 args) w:=by rfl
theorem zV (args:Array Value) (w:World):(callFunc 176 args).run prog w=.ok (.enter 176 args) w:=by rfl
theorem zW (args:Array Value) (w:World):(callFunc 187 args).run prog w=.ok (.enter 187 args) w:=by rfl
theorem aDR (args:Array Value) (w:World):(callFunc 190 args).run prog w=.ok (.enter 190 args) w:=by rfl
theorem oS (args:Array Value) (w:World):(callFunc 191 args).run prog w=.ok (.enter 191 args) w:=by rfl
theorem nQ (args:Array Value) (w:World):(callFunc 210 args).run prog w=.ok (.enter 210 args) w:=by rfl
theorem oT (args:Array Value) (w:World):(callFunc 193 args).run prog w=.ok (.enter 193 args) w:=by rfl
theorem oU (args:Array Value) (w:World):(callFunc 194 args).run prog w=.ok (.enter 194 args) w:=by rfl
theorem oV (args:Array Value) (w:World):(callFunc 196 args).run prog w=.ok (.enter 196 args) w:=by rfl
theorem oW (args:Array Value) (w:World):(callFunc 197 args).run prog w=.ok (.enter 197 args) w:=by rfl
theorem oX (args:Array Value) (w:World):(callFunc 199 args).run prog w=.ok (.enter 199 args) w:=by rfl
theorem oY (args:Array Value) (w:World):(callFunc 201 args).run prog w=.ok (.enter 201 args) w:=by rfl
theorem oZ (args:Array Value) (w:World):(callFunc 206 args).run prog w=.ok (.enter 206 args) w:=by rfl
theorem pA (args:Array Value) (w:World):(callFunc 209 args).run prog w=.ok (.enter 209 args) w:=by rfl
theorem iH (args:Array Value) (w:World):(callFunc 243 args).run prog w=.ok (.enter 243 args) w:=by rfl
theorem aDS (args:Array Value) (w:World):(callFunc 179 args).run prog w=.ok (.enter 179 args) w:=by rfl
theorem nR (args:Array Value) (w:World):(callFunc 203 args).run prog w=.ok (.enter 203 args) w:=by rfl
theorem zX (args:Array Value) (w:World):(callFunc 208 args).run prog w=.ok (.enter 208 args) w:=by rfl
theorem pX (args:Array Value) (w:World):(callFunc 204 args).run prog w=.ok (.enter 204 args) w:=by rfl
theorem aJ {g:G} {w:World} {s:ByteArray} {t:S} {F:FuncId} (ha:Calls prog 95 #[.string s] w fun e w'=>e=.returned (.func (.func F) #[] #[])/\w'=w) (hn:∀ args w,(callFunc F args).run prog w=.ok (.enter F args) w) (hc:Calls prog F #[.pointer (some ⟨g.K,0,none⟩)] w fun e w'=>e=.returned (.tuple #[])/\In g w' t.m t.full):dC g w s t :=
 ha.mono fun e w' h=>by
  obtain ⟨rfl,rfl⟩:=h;exact ⟨_,rfl,Below.refl _ _,F,#[],rfl,hn,hc⟩
theorem gC {g:G} {w:World} {s:ByteArray} {t:S} {F:FuncId} {v:Value} (ha:Calls prog 95 #[.string s] w fun e w'=>e=.returned (.func (.func F) #[] #[.pointer (some ⟨w.heap.size,0,none⟩)])/\w'=w.alloc (.cells #[v] 211)) (hn:∀ args w,(callFunc F args).run prog w=.ok (.enter F args) w)
  (hc:Below w.heap.size w (w.alloc (.cells #[v] 211))->(w.alloc (.cells #[v] 211)).cell? ⟨w.heap.size,0,none⟩=some v->Calls prog F #[.pointer (some ⟨g.K,0,none⟩),.pointer (some ⟨w.heap.size,0,none⟩)] (w.alloc (.cells #[v] 211)) fun e w'=>e=.returned (.tuple #[])/\In g w' t.m t.full):dC g w s t :=
 ha.mono fun e w' h=>by
  obtain ⟨rfl,rfl⟩:=h;have hb:Below w.heap.size w (w.alloc (.cells #[v] 211)):=zAl _ _;exact ⟨_,rfl,hb,F,_,rfl,hn,hc hb (by rw [World.cell?_alloc_new];rfl)⟩
theorem aQF (g:G) (m:M) (full:Bool) (w:World) (h:In g w m full) (hg:Stpq.Good m) (hP:Parts g) (hcb:g.cb=false) (hk:kd g.code=1) (i0:0<=g.imm) (i1:g.imm<=65535):dC g w (Shape.shape g.code g.cb) (sem g.code g.cb g.imm ⟨m,full⟩).1:=by
 have hp:=hP.pt;obtain ⟨k,hkk⟩:=aX hP.c.1 hP.c.2;have hc:=aOF k (by rw [hkk];exact hk) g.code hkk.symm;rw [hcb,aO hP.c.1 hP.c.2,hk,aOS m full g.code g.imm hg hc hP.c.1 hP.c.2 i0 i1];rw [<- hP.y];rw [<- hP.z];exact aJ (pK _ _ w (fun W=>aPF W)) zS (mv1 g m full w h hg hp)
theorem aIM (g:G) (m:M) (full:Bool) (w:World) (h:In g w m full) (hg:Stpq.Good m) (hP:Parts g) (hcb:g.cb=false) (hk:kd g.code=2) (i0:0<=g.imm) (i1:g.imm<=65535) (ib:g.imm<=255):dC g w (Shape.shape g.code g.cb) (sem g.code g.cb g.imm ⟨m,full⟩).1:=by
 have hp:=hP.pt;obtain ⟨k,hkk⟩:=aX hP.c.1 hP.c.2;have hc:=tH k (by rw [hkk];exact hk) g.code hkk.symm;rw [hcb,aO hP.c.1 hP.c.2,hk,aIA m full g.code g.imm hg hc hP.c.1 hP.c.2 i0 i1];rw [<- hP.y];exact aJ (pK _ _ w (fun W=>aIE W)) zT (mv2 g m full i0 ib w h hg hp)
theorem aDT (g:G) (m:M) (full:Bool) (w:World) (h:In g w m full) (hg:Stpq.Good m) (hP:Parts g) (hcb:g.cb=false) (hk:kd g.code=3) (i0:0<=g.imm) (i1:g.imm<=65535):dC g w (Shape.shape g.code g.cb) (sem g.code g.cb g.imm ⟨m,full⟩).1:=by
 have hp:=hP.pt;obtain ⟨k,hkk⟩:=aX hP.c.1 hP.c.2;have hc:=aCQ k (by rw [hkk];exact hk) g.code hkk.symm;rw [hcb,aO hP.c.1 hP.c.2,hk,aCW m full g.code g.imm hg hc hP.c.1 hP.c.2 i0 i1];rw [<- hP.p];exact aJ (pK _ _ w (fun W=>aDE W)) zU (mv3 g m full w h hg hp)
theorem aDU (g:G) (m:M) (full:Bool) (w:World) (h:In g w m full) (hg:Stpq.Good m) (hP:Parts g) (hcb:g.cb=false) (hk:kd g.code=4) (i0:0<=g.imm) (i1:g.imm<=65535):dC g w (Shape.shape g.code g.cb) (sem g.code g.cb g.imm ⟨m,full⟩).1:=by
 have hp:=hP.pt;obtain ⟨k,hkk⟩:=aX hP.c.1 hP.c.2;have hc:=aCR k (by rw [hkk];exact hk) g.code hkk.symm;rw [hcb,aO hP.c.1 hP.c.2,hk,aCX m full g.code g.imm hg hc hP.c.1 hP.c.2 i0 i1];exact aJ (pK _ _ w (fun W=>aDF W)) zV (mv4 g m full w h hg hp)
theorem wA (g:G) (m:M) (full:Bool) (w:World) (h:In g w m full) (hg:Stpq.Good m) (hP:Parts g) (hcb:g.cb=false) (hk:kd g.code=5) (i0:0<=g.imm) (i1:g.imm<=65535):dC g w (Shape.shape g.code g.cb) (sem g.code g.cb g.imm ⟨m,full⟩).1:=by
 have hp:=hP.pt;obtain ⟨k,hkk⟩:=aX hP.c.1 hP.c.2;have hc:=vN k (by rw [hkk];exact hk) g.code hkk.symm;rw [hcb,aO hP.c.1 hP.c.2,hk,vO m full g.code g.imm hg hc hP.c.1 hP.c.2 i0 i1];exact aJ (pK _ _ w (fun W=>vR W)) aDS (bLP g m full i0 i1 w h hg hp)
theorem wB (g:G) (m:M) (full:Bool) (w:World) (h:In g w m full) (hg:Stpq.Good m) (hP:Parts g) (hcb:g.cb=false) (hk:kd g.code=6) (i0:0<=g.imm) (i1:g.imm<=65535) (ib:g.imm<=255):dC g w (Shape.shape g.code g.cb) (sem g.code g.cb g.imm ⟨m,full⟩).1:=by
 have hp:=hP.pt;obtain ⟨k,hkk⟩:=aX hP.c.1 hP.c.2;have hc:=nN k (by rw [hkk];exact hk) g.code hkk.symm;rw [hcb,aO hP.c.1 hP.c.2,hk,vP m full g.code g.imm hg hc hP.c.1 hP.c.2 i0 i1];exact aJ (pK _ _ w (fun W=>vT W)) zK (bLQ g m full i0 ib w h hg hp)
theorem aQG (g:G) (m:M) (full:Bool) (w:World) (h:In g w m full) (hg:Stpq.Good m) (hP:Parts g) (hcb:g.cb=false) (hk:kd g.code=7) (i0:0<=g.imm) (i1:g.imm<=65535):dC g w (Shape.shape g.code g.cb) (sem g.code g.cb g.imm ⟨m,full⟩).1:=by
 have hp:=hP.pt;obtain ⟨k,hkk⟩:=aX hP.c.1 hP.c.2;have hc:=aOG k (by rw [hkk];exact hk) g.code hkk.symm;rw [hcb,aO hP.c.1 hP.c.2,hk,aOT m full g.code g.imm hg hc hP.c.1 hP.c.2 i0 i1];rw [<- hP.p];exact gC (pL _ _ _ w (fun W=>aPG W)) iH fun hb hx=>aOQ g m full _ _ (h.below hb) hg hp hx
theorem aQH (g:G) (m:M) (full:Bool) (w:World) (h:In g w m full) (hg:Stpq.Good m) (hP:Parts g) (hcb:g.cb=false) (hk:kd g.code=8) (i0:0<=g.imm) (i1:g.imm<=65535):dC g w (Shape.shape g.code g.cb) (sem g.code g.cb g.imm ⟨m,full⟩).1:=by
 have hp:=hP.pt;obtain ⟨k,hkk⟩:=aX hP.c.1 hP.c.2;have hc:=aOH k (by rw [hkk];exact hk) g.code hkk.symm;rw [hcb,aO hP.c.1 hP.c.2,hk,aOU m full g.code g.imm hg hc hP.c.1 hP.c.2 i0 i1];rw [<- hP.p];exact gC (pL _ _ _ w (fun W=>aPH W)) jW fun hb hx=>aOR g m full _ _ (h.below hb) hg hp hx
theorem zY (g:G) (m:M) (full:Bool) (w:World) (h:In g w m full) (hg:Stpq.Good m) (hP:Parts g) (hcb:g.cb=false) (hk:kd g.code=9) (i0:0<=g.imm) (i1:g.imm<=65535):dC g w (Shape.shape g.code g.cb) (sem g.code g.cb g.imm ⟨m,full⟩).1:=by
 have hp:=hP.pt;obtain ⟨k,hkk⟩:=aX hP.c.1 hP.c.2;have hc:=yJ k (by rw [hkk];exact hk) g.code hkk.symm;rw [hcb,aO hP.c.1 hP.c.2,hk,yR m full g.code g.imm hg hc hP.c.1 hP.c.2 i0 i1];exact gC (pL _ _ _ w (fun W=>yX W)) iH fun hb hx=>aOC g m full _ (fun W hi=>aFA g m full W hi hg i0 i1) _ _ (h.below hb) hg hx
theorem zZ (g:G) (m:M) (full:Bool) (w:World) (h:In g w m full) (hg:Stpq.Good m) (hP:Parts g) (hcb:g.cb=false) (hk:kd g.code=10) (i0:0<=g.imm) (i1:g.imm<=65535) (ib:g.imm<=255):dC g w (Shape.shape g.code g.cb) (sem g.code g.cb g.imm ⟨m,full⟩).1:=by
 have hp:=hP.pt;obtain ⟨k,hkk⟩:=aX hP.c.1 hP.c.2;have hc:=pI k (by rw [hkk];exact hk) g.code hkk.symm;rw [hcb,aO hP.c.1 hP.c.2,hk,yS m full g.code g.imm hg hc hP.c.1 hP.c.2 i0 i1];exact gC (pL _ _ _ w (fun W=>yY W)) jW fun hb hx=>aOD g m full _ (fun W hi=>aFA g m full W hi hg i0 i1) (by omega) (by omega) _ _ (h.below hb) hg hx
theorem aDV (g:G) (m:M) (full:Bool) (w:World) (h:In g w m full) (hg:Stpq.Good m) (hP:Parts g) (hcb:g.cb=false) (hk:kd g.code=11) (i0:0<=g.imm) (i1:g.imm<=65535):dC g w (Shape.shape g.code g.cb) (sem g.code g.cb g.imm ⟨m,full⟩).1:=by
 have hp:=hP.pt;obtain ⟨k,hkk⟩:=aX hP.c.1 hP.c.2;have hc:=aCS k (by rw [hkk];exact hk) g.code hkk.symm;rw [hcb,aO hP.c.1 hP.c.2,hk,aCY m full g.code g.imm hg hc hP.c.1 hP.c.2 i0 i1];exact gC (pL _ _ _ w (fun W=>aDG W)) iH fun hb hx=>aHQ g m full _ (fun W hi=>yH g m full W hi hg i0 i1) _ _ (h.below hb) hg hx
theorem aDW (g:G) (m:M) (full:Bool) (w:World) (h:In g w m full) (hg:Stpq.Good m) (hP:Parts g) (hcb:g.cb=false) (hk:kd g.code=12) (i0:0<=g.imm) (i1:g.imm<=65535):dC g w (Shape.shape g.code g.cb) (sem g.code g.cb g.imm ⟨m,full⟩).1:=by
 have hp:=hP.pt;obtain ⟨k,hkk⟩:=aX hP.c.1 hP.c.2;have hc:=aCT k (by rw [hkk];exact hk) g.code hkk.symm;rw [hcb,aO hP.c.1 hP.c.2,hk,aCZ m full g.code g.imm hg hc hP.c.1 hP.c.2 i0 i1];exact gC (pL _ _ _ w (fun W=>aDH W)) jW fun hb hx=>aHR g m full _ (fun W hi=>yH g m full W hi hg i0 i1) (by have:=hg.c;omega) (by have:=hg.c;omega) _ _ (h.below hb) hg hx
theorem aAA (g:G) (m:M) (full:Bool) (w:World) (h:In g w m full) (hg:Stpq.Good m) (hP:Parts g) (hcb:g.cb=false) (hk:kd g.code=13) (i0:0<=g.imm) (i1:g.imm<=65535):dC g w (Shape.shape g.code g.cb) (sem g.code g.cb g.imm ⟨m,full⟩).1:=by
 have hp:=hP.pt;obtain ⟨k,hkk⟩:=aX hP.c.1 hP.c.2;have hc:=yK k (by rw [hkk];exact hk) g.code hkk.symm;rw [hcb,aO hP.c.1 hP.c.2,hk,yT m full g.code g.imm hg hc hP.c.1 hP.c.2 i0 i1];exact gC (pL _ _ _ w (fun W=>yZ W)) iH fun hb hx=>aOA g m full _ (fun W hi=>aEZ g m full W hi hg i0 i1) _ _ (h.below hb) hg hx
theorem aAB (g:G) (m:M) (full:Bool) (w:World) (h:In g w m full) (hg:Stpq.Good m) (hP:Parts g) (hcb:g.cb=false) (hk:kd g.code=14) (i0:0<=g.imm) (i1:g.imm<=65535):dC g w (Shape.shape g.code g.cb) (sem g.code g.cb g.imm ⟨m,full⟩).1:=by
 have hp:=hP.pt;obtain ⟨k,hkk⟩:=aX hP.c.1 hP.c.2;have hc:=yL k (by rw [hkk];exact hk) g.code hkk.symm;rw [hcb,aO hP.c.1 hP.c.2,hk,yU m full g.code g.imm hg hc hP.c.1 hP.c.2 i0 i1];exact gC (pL _ _ _ w (fun W=>zA W)) jW fun hb hx=>aOB g m full _ (fun W hi=>aEZ g m full W hi hg i0 i1) i0 i1 _ _ (h.below hb) hg hx
theorem aIN (g:G) (m:M) (full:Bool) (w:World) (h:In g w m full) (hg:Stpq.Good m) (hP:Parts g) (hcb:g.cb=false) (hk:kd g.code=15) (i0:0<=g.imm) (i1:g.imm<=65535):dC g w (Shape.shape g.code g.cb) (sem g.code g.cb g.imm ⟨m,full⟩).1:=by
 have hp:=hP.pt;obtain ⟨k,hkk⟩:=aX hP.c.1 hP.c.2;have hc:=aHW k (by rw [hkk];exact hk) g.code hkk.symm;rw [hcb,aO hP.c.1 hP.c.2,hk,aIB m full g.code g.imm hg hc hP.c.1 hP.c.2 i0 i1];rw [<- hP.p];exact aJ (pK _ _ w (fun W=>aIF W)) zW (bCS g m full w h hg hp)
theorem aQI (g:G) (m:M) (full:Bool) (w:World) (h:In g w m full) (hg:Stpq.Good m) (hP:Parts g) (hcb:g.cb=false) (hk:kd g.code=16) (i0:0<=g.imm) (i1:g.imm<=65535):dC g w (Shape.shape g.code g.cb) (sem g.code g.cb g.imm ⟨m,full⟩).1:=by
 have hp:=hP.pt;obtain ⟨k,hkk⟩:=aX hP.c.1 hP.c.2;have hc:=aOI k (by rw [hkk];exact hk) g.code hkk.symm;rw [hcb,aO hP.c.1 hP.c.2,hk,aOV m full g.code g.imm hg hc hP.c.1 hP.c.2 i0 i1];rw [<- hP.p];exact aJ (pK _ _ w (fun W=>aPI W)) aDR (bHQ g m full w h hg hp)
theorem aXE (g:G) (m:M) (full:Bool) (w:World) (h:In g w m full) (hg:Stpq.Good m) (hP:Parts g) (hcb:g.cb=false) (hk:kd g.code=17) (i0:0<=g.imm) (i1:g.imm<=65535):dC g w (Shape.shape g.code g.cb) (sem g.code g.cb g.imm ⟨m,full⟩).1:=by
 have hp:=hP.pt;obtain ⟨k,hkk⟩:=aX hP.c.1 hP.c.2;have hc:=aWI k (by rw [hkk];exact hk) g.code hkk.symm;rw [hcb,aO hP.c.1 hP.c.2,hk,aWN m full g.code g.imm hg hc hP.c.1 hP.c.2 i0 i1];rw [<- hP.y];rw [<- hP.z];exact aJ (fE _ _ w (fun W=>aWS W) (fun W=>aWX W)) oS (rk1 g m full w h hg hp)
theorem aQJ (g:G) (m:M) (full:Bool) (w:World) (h:In g w m full) (hg:Stpq.Good m) (hP:Parts g) (hcb:g.cb=false) (hk:kd g.code=18) (i0:0<=g.imm) (i1:g.imm<=65535) (ib:g.imm<=255):dC g w (Shape.shape g.code g.cb) (sem g.code g.cb g.imm ⟨m,full⟩).1:=by
 have hp:=hP.pt;obtain ⟨k,hkk⟩:=aX hP.c.1 hP.c.2;have hc:=yM k (by rw [hkk];exact hk) g.code hkk.symm;rw [hcb,aO hP.c.1 hP.c.2,hk,aOW m full g.code g.imm hg hc hP.c.1 hP.c.2 i0 i1];rw [<- hP.y];exact aJ (fE _ _ w (fun W=>aPJ W) (fun W=>aPS W)) oT (rk2 g m full i0 ib w h hg hp)
theorem aQK (g:G) (m:M) (full:Bool) (w:World) (h:In g w m full) (hg:Stpq.Good m) (hP:Parts g) (hcb:g.cb=false) (hk:kd g.code=19) (i0:0<=g.imm) (i1:g.imm<=65535):dC g w (Shape.shape g.code g.cb) (sem g.code g.cb g.imm ⟨m,full⟩).1:=by
 have hp:=hP.pt;obtain ⟨k,hkk⟩:=aX hP.c.1 hP.c.2;have hc:=aOJ k (by rw [hkk];exact hk) g.code hkk.symm;rw [hcb,aO hP.c.1 hP.c.2,hk,aOX m full g.code g.imm hg hc hP.c.1 hP.c.2 i0 i1];rw [<- hP.y];exact aJ (fE _ _ w (fun W=>aPK W) (fun W=>aPT W)) oU (rk3 g m full w h hg hp)
theorem aQL (g:G) (m:M) (full:Bool) (w:World) (h:In g w m full) (hg:Stpq.Good m) (hP:Parts g) (hcb:g.cb=false) (hk:kd g.code=20) (i0:0<=g.imm) (i1:g.imm<=65535):dC g w (Shape.shape g.code g.cb) (sem g.code g.cb g.imm ⟨m,full⟩).1:=by
 have hp:=hP.pt;obtain ⟨k,hkk⟩:=aX hP.c.1 hP.c.2;have hc:=aOK k (by rw [hkk];exact hk) g.code hkk.symm;rw [hcb,aO hP.c.1 hP.c.2,hk,aOY m full g.code g.imm hg hc hP.c.1 hP.c.2 i0 i1];rw [<- hP.y];exact aJ (fE _ _ w (fun W=>aPL W) (fun W=>aPU W)) oV (rk4 g m full w h hg hp)
theorem aQM (g:G) (m:M) (full:Bool) (w:World) (h:In g w m full) (hg:Stpq.Good m) (hP:Parts g) (hcb:g.cb=false) (hk:kd g.code=21) (i0:0<=g.imm) (i1:g.imm<=65535):dC g w (Shape.shape g.code g.cb) (sem g.code g.cb g.imm ⟨m,full⟩).1:=by
 have hp:=hP.pt;obtain ⟨k,hkk⟩:=aX hP.c.1 hP.c.2;have hc:=aOL k (by rw [hkk];exact hk) g.code hkk.symm;rw [hcb,aO hP.c.1 hP.c.2,hk,aOZ m full g.code g.imm hg hc hP.c.1 hP.c.2 i0 i1];rw [<- hP.p];exact aJ (fE _ _ w (fun W=>aPM W) (fun W=>aPV W)) oW (rk5 g m full w h hg hp)
theorem aQN (g:G) (m:M) (full:Bool) (w:World) (h:In g w m full) (hg:Stpq.Good m) (hP:Parts g) (hcb:g.cb=false) (hk:kd g.code=22) (i0:0<=g.imm) (i1:g.imm<=65535):dC g w (Shape.shape g.code g.cb) (sem g.code g.cb g.imm ⟨m,full⟩).1:=by
 have hp:=hP.pt;obtain ⟨k,hkk⟩:=aX hP.c.1 hP.c.2;have hc:=aOM k (by rw [hkk];exact hk) g.code hkk.symm;rw [hcb,aO hP.c.1 hP.c.2,hk,aPA m full g.code g.imm hg hc hP.c.1 hP.c.2 i0 i1];rw [<- hP.p];exact aJ (fE _ _ w (fun W=>aPN W) (fun W=>aPW W)) oX (rk6 g m full w h hg hp)
theorem aDX (g:G) (m:M) (full:Bool) (w:World) (h:In g w m full) (hg:Stpq.Good m) (hP:Parts g) (hcb:g.cb=false) (hk:kd g.code=23) (i0:0<=g.imm) (i1:g.imm<=65535):dC g w (Shape.shape g.code g.cb) (sem g.code g.cb g.imm ⟨m,full⟩).1:=by
 have hp:=hP.pt;obtain ⟨k,hkk⟩:=aX hP.c.1 hP.c.2;have hc:=aCU k (by rw [hkk];exact hk) g.code hkk.symm;rw [hcb,aO hP.c.1 hP.c.2,hk,aDA m full g.code g.imm hg hc hP.c.1 hP.c.2 i0 i1];rw [<- hP.p];exact aJ (fE _ _ w (fun W=>aDI W) (fun W=>aDL W)) aDQ (bHU g m full w h hg hp)
theorem aAC (g:G) (m:M) (full:Bool) (w:World) (h:In g w m full) (hg:Stpq.Good m) (hP:Parts g) (hcb:g.cb=false) (hk:kd g.code=24) (i0:0<=g.imm) (i1:g.imm<=65535) (ib:g.imm<=255):dC g w (Shape.shape g.code g.cb) (sem g.code g.cb g.imm ⟨m,full⟩).1:=by
 have hp:=hP.pt;obtain ⟨k,hkk⟩:=aX hP.c.1 hP.c.2;have hc:=pJ k (by rw [hkk];exact hk) g.code hkk.symm;rw [hcb,aO hP.c.1 hP.c.2,hk,yV m full g.code g.imm hg hc hP.c.1 hP.c.2 i0 i1];exact aJ (fE _ _ w (fun W=>zC W) (fun W=>zE W)) oY (rk7 g m full i0 ib w h hg hp)
theorem aXF (g:G) (m:M) (full:Bool) (w:World) (h:In g w m full) (hg:Stpq.Good m) (hP:Parts g) (hcb:g.cb=false) (hk:kd g.code=25) (i0:0<=g.imm) (i1:g.imm<=65535):dC g w (Shape.shape g.code g.cb) (sem g.code g.cb g.imm ⟨m,full⟩).1:=by
 have hp:=hP.pt;obtain ⟨k,hkk⟩:=aX hP.c.1 hP.c.2;have hc:=aWJ k (by rw [hkk];exact hk) g.code hkk.symm;rw [hcb,aO hP.c.1 hP.c.2,hk,aWO m full g.code g.imm hg hc hP.c.1 hP.c.2 i0 i1];rw [<- hP.y];exact aJ (fE _ _ w (fun W=>aWT W) (fun W=>aWY W)) nR (pY g m full w h hg hp)
theorem aXG (g:G) (m:M) (full:Bool) (w:World) (h:In g w m full) (hg:Stpq.Good m) (hP:Parts g) (hcb:g.cb=false) (hk:kd g.code=26) (i0:0<=g.imm) (i1:g.imm<=65535):dC g w (Shape.shape g.code g.cb) (sem g.code g.cb g.imm ⟨m,full⟩).1:=by
 have hp:=hP.pt;obtain ⟨k,hkk⟩:=aX hP.c.1 hP.c.2;have hc:=aWK k (by rw [hkk];exact hk) g.code hkk.symm;rw [hcb,aO hP.c.1 hP.c.2,hk,aWP m full g.code g.imm hg hc hP.c.1 hP.c.2 i0 i1];rw [<- hP.y];exact aJ (fE _ _ w (fun W=>aWU W) (fun W=>aWZ W)) nR (pY g m full w h hg hp)
theorem bEQ (g:G) (m:M) (full:Bool) (w:World) (h:In g w m full) (hg:Stpq.Good m) (hP:Parts g) (hcb:g.cb=false) (hk:kd g.code=27) (i0:0<=g.imm) (i1:g.imm<=65535):dC g w (Shape.shape g.code g.cb) (sem g.code g.cb g.imm ⟨m,full⟩).1:=by
 have hp:=hP.pt;obtain ⟨k,hkk⟩:=aX hP.c.1 hP.c.2;have hc:=bCX k (by rw [hkk];exact hk) g.code hkk.symm;rw [hcb,aO hP.c.1 hP.c.2,hk,bDO m full g.code g.imm hg hc hP.c.1 hP.c.2 i0 i1];rw [<- hP.y];exact aJ (fE _ _ w (fun W=>bDW W) (fun W=>bEF W)) nR (pY g m full w h hg hp)
theorem bER (g:G) (m:M) (full:Bool) (w:World) (h:In g w m full) (hg:Stpq.Good m) (hP:Parts g) (hcb:g.cb=false) (hk:kd g.code=28) (i0:0<=g.imm) (i1:g.imm<=65535):dC g w (Shape.shape g.code g.cb) (sem g.code g.cb g.imm ⟨m,full⟩).1:=by
 have hp:=hP.pt;obtain ⟨k,hkk⟩:=aX hP.c.1 hP.c.2;have hc:=bCY k (by rw [hkk];exact hk) g.code hkk.symm;rw [hcb,aO hP.c.1 hP.c.2,hk,bDP m full g.code g.imm hg hc hP.c.1 hP.c.2 i0 i1];rw [<- hP.y];exact aJ (fE _ _ w (fun W=>bDX W) (fun W=>bEG W)) nR (pY g m full w h hg hp)
theorem bES (g:G) (m:M) (full:Bool) (w:World) (h:In g w m full) (hg:Stpq.Good m) (hP:Parts g) (hcb:g.cb=false) (hk:kd g.code=29) (i0:0<=g.imm) (i1:g.imm<=65535):dC g w (Shape.shape g.code g.cb) (sem g.code g.cb g.imm ⟨m,full⟩).1:=by
 have hp:=hP.pt;obtain ⟨k,hkk⟩:=aX hP.c.1 hP.c.2;have hc:=bCZ k (by rw [hkk];exact hk) g.code hkk.symm;rw [hcb,aO hP.c.1 hP.c.2,hk,bDQ m full g.code g.imm hg hc hP.c.1 hP.c.2 i0 i1];exact aJ (fE _ _ w (fun W=>bDZ W) (fun W=>bEI W)) oZ (rk8 g m full w h hg hp)
theorem bET (g:G) (m:M) (full:Bool) (w:World) (h:In g w m full) (hg:Stpq.Good m) (hP:Parts g) (hcb:g.cb=false) (hk:kd g.code=30) (i0:0<=g.imm) (i1:g.imm<=65535):dC g w (Shape.shape g.code g.cb) (sem g.code g.cb g.imm ⟨m,full⟩).1:=by
 have hp:=hP.pt;obtain ⟨k,hkk⟩:=aX hP.c.1 hP.c.2;have hc:=bDA k (by rw [hkk];exact hk) g.code hkk.symm;rw [hcb,aO hP.c.1 hP.c.2,hk,bDR m full g.code g.imm hg hc hP.c.1 hP.c.2 i0 i1];exact aJ (fE _ _ w (fun W=>bEA W) (fun W=>bEJ W)) zX (bHV g m full w h hg hp)
theorem bEU (g:G) (m:M) (full:Bool) (w:World) (h:In g w m full) (hg:Stpq.Good m) (hP:Parts g) (hcb:g.cb=false) (hk:kd g.code=31) (i0:0<=g.imm) (i1:g.imm<=65535):dC g w (Shape.shape g.code g.cb) (sem g.code g.cb g.imm ⟨m,full⟩).1:=by
 have hp:=hP.pt;obtain ⟨k,hkk⟩:=aX hP.c.1 hP.c.2;have hc:=bDB k (by rw [hkk];exact hk) g.code hkk.symm;rw [hcb,aO hP.c.1 hP.c.2,hk,bDS m full g.code g.imm hg hc hP.c.1 hP.c.2 i0 i1];exact aJ (fE _ _ w (fun W=>bEB W) (fun W=>bEK W)) pA (rk9 g m full w h hg hp)
theorem bEV (g:G) (m:M) (full:Bool) (w:World) (h:In g w m full) (hg:Stpq.Good m) (hP:Parts g) (hcb:g.cb=false) (hk:kd g.code=32) (i0:0<=g.imm) (i1:g.imm<=65535):dC g w (Shape.shape g.code g.cb) (sem g.code g.cb g.imm ⟨m,full⟩).1:=by
 have hp:=hP.pt;obtain ⟨k,hkk⟩:=aX hP.c.1 hP.c.2;have hc:=bDC k (by rw [hkk];exact hk) g.code hkk.symm;rw [hcb,aO hP.c.1 hP.c.2,hk,bDT m full g.code g.imm hg hc hP.c.1 hP.c.2 i0 i1];exact aJ (fE _ _ w (fun W=>bEC W) (fun W=>bEL W)) nQ (bLR g m full w h hg hp)
theorem aQO (g:G) (m:M) (full:Bool) (w:World) (h:In g w m full) (hg:Stpq.Good m) (hP:Parts g) (hcb:g.cb=false) (hk:kd g.code=33) (i0:0<=g.imm) (i1:g.imm<=65535):dC g w (Shape.shape g.code g.cb) (sem g.code g.cb g.imm ⟨m,full⟩).1:=by
 have hp:=hP.pt;obtain ⟨k,hkk⟩:=aX hP.c.1 hP.c.2;have hc:=aON k (by rw [hkk];exact hk) g.code hkk.symm;rw [hcb,aO hP.c.1 hP.c.2,hk,aPB m full g.code g.imm hg hc hP.c.1 hP.c.2 i0 i1];exact aJ (iG _ _ w (fun W=>aPO W) (fun W=>aPX W) (fun W=>aQB W)) pM (jp1 g m full w h hg hp)
theorem aIO (g:G) (m:M) (full:Bool) (w:World) (h:In g w m full) (hg:Stpq.Good m) (hP:Parts g) (hcb:g.cb=false) (hk:kd g.code=34) (i0:0<=g.imm) (i1:g.imm<=65535) (hm:cond m (g.code / 8%8%4)=true):dC g w (Shape.shape g.code g.cb) (sem g.code g.cb g.imm ⟨m,full⟩).1:=by
 have hp:=hP.pt;obtain ⟨k,hkk⟩:=aX hP.c.1 hP.c.2;have hc:=oR k (by rw [hkk];exact hk) g.code hkk.symm;rw [hcb,aO hP.c.1 hP.c.2,hk,aIC m full g.code g.imm hg hc hP.c.1 hP.c.2 i0 i1 hm];exact aJ (iG _ _ w (fun W=>aIG W) (fun W=>aII W) (fun W=>aIK W)) pM (jp1 g m full w h hg hp)
theorem aIP (g:G) (m:M) (full:Bool) (w:World) (h:In g w m full) (hg:Stpq.Good m) (hP:Parts g) (hcb:g.cb=false) (hk:kd g.code=35) (i0:0<=g.imm) (i1:g.imm<=65535):dC g w (Shape.shape g.code g.cb) (sem g.code g.cb g.imm ⟨m,full⟩).1:=by
 have hp:=hP.pt;obtain ⟨k,hkk⟩:=aX hP.c.1 hP.c.2;have hc:=aHX k (by rw [hkk];exact hk) g.code hkk.symm;rw [hcb,aO hP.c.1 hP.c.2,hk,aID m full g.code g.imm hg hc hP.c.1 hP.c.2 i0 i1];exact aJ (iG _ _ w (fun W=>aIH W) (fun W=>aIJ W) (fun W=>aIL W)) pN (jp2 g m full w h hg hp)
theorem aDY (g:G) (m:M) (full:Bool) (w:World) (h:In g w m full) (hg:Stpq.Good m) (hP:Parts g) (hcb:g.cb=false) (hk:kd g.code=36) (i0:0<=g.imm) (i1:g.imm<=65535) (hm:cond m (g.code / 8%8%4)=true):dC g w (Shape.shape g.code g.cb) (sem g.code g.cb g.imm ⟨m,full⟩).1:=by
 have hp:=hP.pt;obtain ⟨k,hkk⟩:=aX hP.c.1 hP.c.2;have hc:=mE k (by rw [hkk];exact hk) g.code hkk.symm;rw [hcb,aO hP.c.1 hP.c.2,hk,aDB m full g.code g.imm hg hc hP.c.1 hP.c.2 i0 i1 hm];exact aJ (iG _ _ w (fun W=>aDJ W) (fun W=>aDM W) (fun W=>aDO W)) pN (jp2 g m full w h hg hp)
theorem aQP (g:G) (m:M) (full:Bool) (w:World) (h:In g w m full) (hg:Stpq.Good m) (hP:Parts g) (hcb:g.cb=false) (hk:kd g.code=37) (i0:0<=g.imm) (i1:g.imm<=65535):dC g w (Shape.shape g.code g.cb) (sem g.code g.cb g.imm ⟨m,full⟩).1:=by
 have hp:=hP.pt;obtain ⟨k,hkk⟩:=aX hP.c.1 hP.c.2;have hc:=aOO k (by rw [hkk];exact hk) g.code hkk.symm;rw [hcb,aO hP.c.1 hP.c.2,hk,aPC m full g.code g.imm hg hc hP.c.1 hP.c.2 i0 i1];exact aJ (iG _ _ w (fun W=>aPP W) (fun W=>aPY W) (fun W=>aQC W)) zM (jp3 g m full w h hg hp)
theorem aAD (g:G) (m:M) (full:Bool) (w:World) (h:In g w m full) (hg:Stpq.Good m) (hP:Parts g) (hcb:g.cb=false) (hk:kd g.code=38) (i0:0<=g.imm) (i1:g.imm<=65535):dC g w (Shape.shape g.code g.cb) (sem g.code g.cb g.imm ⟨m,full⟩).1:=by
 have hp:=hP.pt;obtain ⟨k,hkk⟩:=aX hP.c.1 hP.c.2;have hc:=yN k (by rw [hkk];exact hk) g.code hkk.symm;rw [hcb,aO hP.c.1 hP.c.2,hk,yW m full g.code g.imm hg hc hP.c.1 hP.c.2 i0 i1];exact aJ (iG _ _ w (fun W=>zD W) (fun W=>zF W) (fun W=>zG W)) pO (jp4 g m full w h hg hp)
theorem wC (g:G) (m:M) (full:Bool) (w:World) (h:In g w m full) (hg:Stpq.Good m) (hP:Parts g) (hcb:g.cb=false) (hk:kd g.code=39) (i0:0<=g.imm) (i1:g.imm<=65535) (hm:cond m (g.code / 8%8%4)=true):dC g w (Shape.shape g.code g.cb) (sem g.code g.cb g.imm ⟨m,full⟩).1:=by
 have hp:=hP.pt;obtain ⟨k,hkk⟩:=aX hP.c.1 hP.c.2;have hc:=jU k (by rw [hkk];exact hk) g.code hkk.symm;rw [hcb,aO hP.c.1 hP.c.2,hk,vQ m full g.code g.imm hg hc hP.c.1 hP.c.2 i0 i1 hm];exact aJ (iG _ _ w (fun W=>vV W) (fun W=>vX W) (fun W=>vY W)) pO (jp4 g m full w h hg hp)
theorem aQQ (g:G) (m:M) (full:Bool) (w:World) (h:In g w m full) (hg:Stpq.Good m) (hP:Parts g) (hcb:g.cb=false) (hk:kd g.code=40) (i0:0<=g.imm) (i1:g.imm<=65535):dC g w (Shape.shape g.code g.cb) (sem g.code g.cb g.imm ⟨m,full⟩).1:=by
 have hp:=hP.pt;obtain ⟨k,hkk⟩:=aX hP.c.1 hP.c.2;have hc:=aOP k (by rw [hkk];exact hk) g.code hkk.symm;rw [hcb,aO hP.c.1 hP.c.2,hk,aPD m full g.code g.imm hg hc hP.c.1 hP.c.2 i0 i1];rw [<- hP.y];exact aJ (iG _ _ w (fun W=>aPQ W) (fun W=>aPZ W) (fun W=>aQD W)) zN (jp5 g m full w h hg hp)
theorem bEW (g:G) (m:M) (full:Bool) (w:World) (h:In g w m full) (hg:Stpq.Good m) (hP:Parts g) (hcb:g.cb=false) (hk:kd g.code=41) (i0:0<=g.imm) (i1:g.imm<=65535):dC g w (Shape.shape g.code g.cb) (sem g.code g.cb g.imm ⟨m,full⟩).1:=by
 have hp:=hP.pt;obtain ⟨k,hkk⟩:=aX hP.c.1 hP.c.2;have hc:=bDD k (by rw [hkk];exact hk) g.code hkk.symm;rw [hcb,aO hP.c.1 hP.c.2,hk,bDU m full g.code g.imm hg hc hP.c.1 hP.c.2 i0 i1];exact aJ (iG _ _ w (fun W=>bED W) (fun W=>bEM W) (fun W=>bEO W)) pQ (jp6 g m full w h hg hp)
theorem aQR (g:G) (m:M) (full:Bool) (w:World) (h:In g w m full) (hg:Stpq.Good m) (hP:Parts g) (hcb:g.cb=false) (hk:kd g.code=42) (i0:0<=g.imm) (i1:g.imm<=65535) (hm:cond m (g.code / 8%8%4)=true):dC g w (Shape.shape g.code g.cb) (sem g.code g.cb g.imm ⟨m,full⟩).1:=by
 have hp:=hP.pt;obtain ⟨k,hkk⟩:=aX hP.c.1 hP.c.2;have hc:=rN k (by rw [hkk];exact hk) g.code hkk.symm;rw [hcb,aO hP.c.1 hP.c.2,hk,aPE m full g.code g.imm hg hc hP.c.1 hP.c.2 i0 i1 hm];exact aJ (iG _ _ w (fun W=>aPR W) (fun W=>aQA W) (fun W=>aQE W)) pQ (jp6 g m full w h hg hp)
theorem aXH (g:G) (m:M) (full:Bool) (w:World) (h:In g w m full) (hg:Stpq.Good m) (hP:Parts g) (hcb:g.cb=false) (hk:kd g.code=43) (i0:0<=g.imm) (i1:g.imm<=65535):dC g w (Shape.shape g.code g.cb) (sem g.code g.cb g.imm ⟨m,full⟩).1:=by
 have hp:=hP.pt;obtain ⟨k,hkk⟩:=aX hP.c.1 hP.c.2;have hc:=aWL k (by rw [hkk];exact hk) g.code hkk.symm;rw [hcb,aO hP.c.1 hP.c.2,hk,aWQ m full g.code g.imm hg hc hP.c.1 hP.c.2 i0 i1];exact aJ (iG _ _ w (fun W=>aWV W) (fun W=>aXA W) (fun W=>aXC W)) zO (jp7 g m full w h hg hp)
theorem bIN (g:G) (m:M) (full:Bool) (w:World) (h:In g w m full) (hg:Stpq.Good m) (hP:Parts g) (hcb:g.cb=false) (hk:kd g.code=44) (i0:0<=g.imm) (i1:g.imm<=65535):dC g w (Shape.shape g.code g.cb) (sem g.code g.cb g.imm ⟨m,full⟩).1:=by
 have hp:=hP.pt;obtain ⟨k,hkk⟩:=aX hP.c.1 hP.c.2;have hc:=bHS k (by rw [hkk];exact hk) g.code hkk.symm;rw [hcb,aO hP.c.1 hP.c.2,hk,bIC m full g.code g.imm hg hc hP.c.1 hP.c.2 i0 i1];exact aJ (iG _ _ w (fun W=>bIH W) (fun W=>bIJ W) (fun W=>bIL W)) zQ (jp8 g m full w h hg hp)
theorem bIO (g:G) (m:M) (full:Bool) (w:World) (h:In g w m full) (hg:Stpq.Good m) (hP:Parts g) (hcb:g.cb=false) (hk:kd g.code=45) (i0:0<=g.imm) (i1:g.imm<=65535):dC g w (Shape.shape g.code g.cb) (sem g.code g.cb g.imm ⟨m,full⟩).1:=by
 have hp:=hP.pt;obtain ⟨k,hkk⟩:=aX hP.c.1 hP.c.2;have hc:=bHT k (by rw [hkk];exact hk) g.code hkk.symm;rw [hcb,aO hP.c.1 hP.c.2,hk,bID m full g.code g.imm hg hc hP.c.1 hP.c.2 i0 i1];exact aJ (iG _ _ w (fun W=>bII W) (fun W=>bIK W) (fun W=>bIM W)) zR (jp9 g m full w h hg hp)
theorem aXI (g:G) (m:M) (full:Bool) (w:World) (h:In g w m full) (hg:Stpq.Good m) (hP:Parts g) (hcb:g.cb=false) (hk:kd g.code=46) (i0:0<=g.imm) (i1:g.imm<=65535):dC g w (Shape.shape g.code g.cb) (sem g.code g.cb g.imm ⟨m,full⟩).1:=by
 have hp:=hP.pt;obtain ⟨k,hkk⟩:=aX hP.c.1 hP.c.2;have hc:=aWM k (by rw [hkk];exact hk) g.code hkk.symm;rw [hcb,aO hP.c.1 hP.c.2,hk,aWR m full g.code g.imm hg hc hP.c.1 hP.c.2 i0 i1];exact aJ (iG _ _ w (fun W=>aWW W) (fun W=>aXB W) (fun W=>aXD W)) vZ (bLS g m full w h hg hp)
theorem bEX (g:G) (m:M) (full:Bool) (w:World) (h:In g w m full) (hg:Stpq.Good m) (hP:Parts g) (hcb:g.cb=false) (hk:kd g.code=47) (i0:0<=g.imm) (i1:g.imm<=65535):dC g w (Shape.shape g.code g.cb) (sem g.code g.cb g.imm ⟨m,full⟩).1:=by
 have hp:=hP.pt;obtain ⟨k,hkk⟩:=aX hP.c.1 hP.c.2;have hc:=bDE k (by rw [hkk];exact hk) g.code hkk.symm;rw [hcb,aO hP.c.1 hP.c.2,hk,bDV m full g.code g.imm hg hc hP.c.1 hP.c.2 i0 i1];exact aJ (aYW _ w (fun W=>bEE W) (fun W=>bEN W) (fun W=>bEP W)) nP (nothing g m full w h hg hp)
theorem aDZ (g:G) (m:M) (full:Bool) (w:World) (h:In g w m full) (hg:Stpq.Good m) (hP:Parts g) (hcb:g.cb=false) (hk:kd g.code=48) (i0:0<=g.imm) (i1:g.imm<=65535):dC g w (Shape.shape g.code g.cb) (sem g.code g.cb g.imm ⟨m,full⟩).1:=by
 have hp:=hP.pt;obtain ⟨k,hkk⟩:=aX hP.c.1 hP.c.2;have hc:=aCV k (by rw [hkk];exact hk) g.code hkk.symm;rw [hcb,aO hP.c.1 hP.c.2,hk,aDC m full g.code g.imm hg hc hP.c.1 hP.c.2 i0 i1];exact aJ (aYW _ w (fun W=>aDK W) (fun W=>aDN W) (fun W=>aDP W)) nP (nothing g m full w h hg hp)
theorem aXJ (g:G) (m:M) (full:Bool) (w:World) (h:In g w m full) (hg:Stpq.Good m) (hP:Parts g) (hcb:g.cb=true) (hx:g.code / 64=0):dC g w (Shape.shape g.code g.cb) (sem g.code g.cb g.imm ⟨m,full⟩).1:=by
 have hp:=hP.pt;have e1:Shape.shape g.code true=⟨#[84,32,83]⟩:=by
  unfold Shape.shape;rw [show inB g.code 0 255=true from x9 hP.c,if_pos rfl];exact Shape.oA hx
 have e2:(sem g.code true g.imm ⟨m,full⟩).1=F (put ⟨m,full⟩ g.z (cD g.y (Stpp.get m g.z) m.rf).1) (cD g.y (Stpp.get m g.z) m.rf).2:=by
  unfold sem;rw [if_pos rfl];show cbE g.code ⟨m,full⟩=_;unfold cbE;rw [if_pos hx,hP.y,hP.z]
 rw [hcb,e1,e2];exact aJ (fE _ _ w (fun W=>bDY W) (fun W=>bEH W)) pX (bDJ g m full w h hg hp)
theorem aXK (g:G) (m:M) (full:Bool) (w:World) (h:In g w m full) (hg:Stpq.Good m) (hP:Parts g) (hcb:g.cb=true) (hx:g.code / 64=1):dC g w (Shape.shape g.code g.cb) (sem g.code g.cb g.imm ⟨m,full⟩).1:=by
 have hp:=hP.pt;have e1:Shape.shape g.code true=⟨#[66,32,89,44,83]⟩:=by
  unfold Shape.shape;rw [show inB g.code 0 255=true from x9 hP.c,if_pos rfl];exact Shape.iQ (by omega)
 have e2:(sem g.code true g.imm ⟨m,full⟩).1=(⟨{ m with rf:=bits .or .i64 (bits .or .i64 (chz (decide (bits .and .i64 (Stpp.get m g.z) (cQ g.y)=0)) 128 0) 32) (bits .and .i64 m.rf 16) },full⟩ : S):=by
  unfold sem;rw [if_pos rfl];show cbE g.code ⟨m,full⟩=_;unfold cbE;rw [if_neg (by omega),if_pos hx,aHV _ hg.f hg.f16,hP.y,hP.z]
  rfl
 rw [hcb,e1,e2];exact aJ (fE _ _ w (fun W=>vU W) (fun W=>vW W)) rP (bIG g m full (by rw [hP.x];exact hx) w h hg hp)
theorem aXL (g:G) (m:M) (full:Bool) (w:World) (h:In g w m full) (hg:Stpq.Good m) (hP:Parts g) (hcb:g.cb=true) (hx:g.code / 64=2):dC g w (Shape.shape g.code g.cb) (sem g.code g.cb g.imm ⟨m,full⟩).1:=by
 have hp:=hP.pt;have e1:Shape.shape g.code true=⟨#[66,32,89,44,83]⟩:=by
  unfold Shape.shape;rw [show inB g.code 0 255=true from x9 hP.c,if_pos rfl];exact Shape.iQ (by omega)
 have e2:(sem g.code true g.imm ⟨m,full⟩).1=put ⟨m,full⟩ g.z (bits .andNot .i64 (Stpp.get m g.z) (cQ g.y)):=by
  unfold sem;rw [if_pos rfl];show cbE g.code ⟨m,full⟩=_;unfold cbE;rw [if_neg (by omega),if_neg (by omega),if_pos hx,hP.y,hP.z]
 rw [hcb,e1,e2];exact aJ (fE _ _ w (fun W=>vU W) (fun W=>vW W)) rP (bIE g m full (by rw [hP.x];exact hx) w h hg hp)
theorem aXM (g:G) (m:M) (full:Bool) (w:World) (h:In g w m full) (hg:Stpq.Good m) (hP:Parts g) (hcb:g.cb=true) (hx:g.code / 64=3):dC g w (Shape.shape g.code g.cb) (sem g.code g.cb g.imm ⟨m,full⟩).1:=by
 have hp:=hP.pt;have e1:Shape.shape g.code true=⟨#[66,32,89,44,83]⟩:=by
  unfold Shape.shape;rw [show inB g.code 0 255=true from x9 hP.c,if_pos rfl];exact Shape.iQ (by omega)
 have e2:(sem g.code true g.imm ⟨m,full⟩).1=put ⟨m,full⟩ g.z (bits .or .i64 (Stpp.get m g.z) (cQ g.y)):=by
  unfold sem;rw [if_pos rfl];show cbE g.code ⟨m,full⟩=_;unfold cbE;rw [if_neg (by omega),if_neg (by omega),if_neg (by omega),hP.y,hP.z]
 rw [hcb,e1,e2];exact aJ (fE _ _ w (fun W=>vU W) (fun W=>vW W)) rP (bIF g m full (by rw [hP.x];exact hx) w h hg hp)
def kE (c:Int) (cb:Bool):Bool:=!cb && (kd c == 34 || kd c == 36 || kd c == 39 || kd c == 42)
def met (c:Int) (cb:Bool) (f:Int):Bool:=!kE c cb || decide (f / (if 1<c / 8%8%4 then 16 else 128)%2=c / 8%8%4%2)
theorem aXN (g:G) (m:M) (full:Bool) (w:World) (h:In g w m full) (hg:Stpq.Good m) (hP:Parts g) (hi:rI g.code g.cb g.imm) (hs:Shape.shape g.code g.cb ≠ ⟨#[]⟩) (hm:met g.code g.cb m.rf=true):dC g w (Shape.shape g.code g.cb) (sem g.code g.cb g.imm ⟨m,full⟩).1:=by
 cases hcb:g.cb with
 | true =>
  rw [<- hcb];have hc:=hP.c;have hx:g.code / 64=0 \/ g.code / 64=1 \/ g.code / 64=2 \/ g.code / 64=3:=by omega
  rcases hx with hx|hx|hx|hx
  ·exact aXJ g m full w h hg hP hcb hx
  ·exact aXK g m full w h hg hP hcb hx
  ·exact aXL g m full w h hg hP hcb hx
  ·exact aXM g m full w h hg hP hcb hx
 | false =>
  rw [hcb] at hi hm hs
  rw [<- hcb];rcases hi with hi|⟨i0,i1,i2,i3⟩
  ·cases hi
  obtain ⟨kk,hkk⟩:=aX hP.c.1 hP.c.2;have hlt:=bHR kk;rw [hkk] at hlt
  have hmet:kE g.code false=true->cond m (g.code / 8%8%4)=true:=fun hh=>by
   unfold met at hm
   rw [hh] at hm
   exact hm
  have hcases:kd g.code=0 \/ kd g.code=1 \/ kd g.code=2 \/ kd g.code=3 \/ kd g.code=4 \/ kd g.code=5 \/ kd g.code=6 \/ kd g.code=7 \/ kd g.code=8 \/ kd g.code=9 \/ kd g.code=10 \/ kd g.code=11 \/ kd g.code=12 \/ kd g.code=13 \/ kd g.code=14 \/ kd g.code=15 \/ kd g.code=16 \/ kd g.code=17 \/ kd g.code=18 \/ kd g.code=19 \/ kd g.code=20 \/ kd g.code=21 \/ kd g.code=22 \/ kd g.code=23 \/ kd g.code=24 \/ kd g.code=25 \/ kd g.code=26 \/ kd g.code=27 \/ kd g.code=28 \/ kd g.code=29 \/ kd g.code=30 \/ kd g.code=31 \/ kd g.code=32 \/ kd g.code=33 \/ kd g.code=34 \/ kd g.code=35 \/ kd g.code=36 \/ kd g.code=37 \/ kd g.code=38 \/ kd g.code=39 \/ kd g.code=40 \/ kd g.code=41 \/ kd g.code=42 \/ kd g.code=43 \/ kd g.code=44 \/ kd g.code=45 \/ kd g.code=46 \/ kd g.code=47 \/ kd g.code=48:=by omega
  rcases hcases with hk|hk|hk|hk|hk|hk|hk|hk|hk|hk|hk|hk|hk|hk|hk|hk|hk|hk|hk|hk|hk|hk|hk|hk|hk|hk|hk|hk|hk|hk|hk|hk|hk|hk|hk|hk|hk|hk|hk|hk|hk|hk|hk|hk|hk|hk|hk|hk|hk
  ·exact absurd (by rw [aO hP.c.1 hP.c.2,hk];rfl) hs
  ·exact aQF g m full w h hg hP hcb hk i0 i1
  ·exact aIM g m full w h hg hP hcb hk i0 i1 (by have hc:=tH kk (by rw [hkk];exact hk) g.code hkk.symm;exact i2 (by omega) (by omega) (by omega))
  ·exact aDT g m full w h hg hP hcb hk i0 i1
  ·exact aDU g m full w h hg hP hcb hk i0 i1
  ·exact wA g m full w h hg hP hcb hk i0 i1
  ·exact wB g m full w h hg hP hcb hk i0 i1 (by have hc:=nN kk (by rw [hkk];exact hk) g.code hkk.symm;exact i3 (by omega))
  ·exact aQG g m full w h hg hP hcb hk i0 i1
  ·exact aQH g m full w h hg hP hcb hk i0 i1
  ·exact zY g m full w h hg hP hcb hk i0 i1
  ·exact zZ g m full w h hg hP hcb hk i0 i1 (by have hc:=pI kk (by rw [hkk];exact hk) g.code hkk.symm;exact i3 (by omega))
  ·exact aDV g m full w h hg hP hcb hk i0 i1
  ·exact aDW g m full w h hg hP hcb hk i0 i1
  ·exact aAA g m full w h hg hP hcb hk i0 i1
  ·exact aAB g m full w h hg hP hcb hk i0 i1
  ·exact aIN g m full w h hg hP hcb hk i0 i1
  ·exact aQI g m full w h hg hP hcb hk i0 i1
  ·exact aXE g m full w h hg hP hcb hk i0 i1
  ·exact aQJ g m full w h hg hP hcb hk i0 i1 (by have hc:=yM kk (by rw [hkk];exact hk) g.code hkk.symm;exact i3 (by omega))
  ·exact aQK g m full w h hg hP hcb hk i0 i1
  ·exact aQL g m full w h hg hP hcb hk i0 i1
  ·exact aQM g m full w h hg hP hcb hk i0 i1
  ·exact aQN g m full w h hg hP hcb hk i0 i1
  ·exact aDX g m full w h hg hP hcb hk i0 i1
  ·exact aAC g m full w h hg hP hcb hk i0 i1 (by have hc:=pJ kk (by rw [hkk];exact hk) g.code hkk.symm;exact i3 (by omega))
  ·exact aXF g m full w h hg hP hcb hk i0 i1
  ·exact aXG g m full w h hg hP hcb hk i0 i1
  ·exact bEQ g m full w h hg hP hcb hk i0 i1
  ·exact bER g m full w h hg hP hcb hk i0 i1
  ·exact bES g m full w h hg hP hcb hk i0 i1
  ·exact bET g m full w h hg hP hcb hk i0 i1
  ·exact bEU g m full w h hg hP hcb hk i0 i1
  ·exact bEV g m full w h hg hP hcb hk i0 i1
  ·exact aQO g m full w h hg hP hcb hk i0 i1
  ·exact aIO g m full w h hg hP hcb hk i0 i1 (hmet (by unfold kE;rw [hk];rfl))
  ·exact aIP g m full w h hg hP hcb hk i0 i1
  ·exact aDY g m full w h hg hP hcb hk i0 i1 (hmet (by unfold kE;rw [hk];rfl))
  ·exact aQP g m full w h hg hP hcb hk i0 i1
  ·exact aAD g m full w h hg hP hcb hk i0 i1
  ·exact wC g m full w h hg hP hcb hk i0 i1 (hmet (by unfold kE;rw [hk];rfl))
  ·exact aQQ g m full w h hg hP hcb hk i0 i1
  ·exact bEW g m full w h hg hP hcb hk i0 i1
  ·exact aQR g m full w h hg hP hcb hk i0 i1 (hmet (by unfold kE;rw [hk];rfl))
  ·exact aXH g m full w h hg hP hcb hk i0 i1
  ·exact bIN g m full w h hg hP hcb hk i0 i1
  ·exact bIO g m full w h hg hP hcb hk i0 i1
  ·exact aXI g m full w h hg hP hcb hk i0 i1
  ·exact bEX g m full w h hg hP hcb hk i0 i1
  ·exact aDZ g m full w h hg hP hcb hk i0 i1
end Stpe
namespace Stpg
open Go.Deep
open Signed (inB sgn aG aB)
open Reck ReckS ReckM ReckD TurnS
open Busw Busx Stpp Stpq Stpi Stpc Stpe
theorem aXO:∀ k:Fin 256,decide (0<=Lib.indexByte (aCN.getD (kd (k.val:Int)) ⟨#[]⟩).data.toList 67)=kE (k.val:Int) false:=by decide +kernel
theorem aQS (c:Int) (cb:Bool) (h0:0<=c) (h1:c<=255):decide (0<=Lib.indexByte (Shape.shape c cb).data.toList 67)=kE c cb:=by
 cases cb with
 | false =>
  rw [aO h0 h1];obtain ⟨k,rfl⟩:=aX h0 h1;exact aXO k
 | true =>
  unfold Shape.shape;rw [show inB c 0 255=true from x9 ⟨h0,h1⟩,if_pos rfl]
  by_cases hx:c / 64=0
  ·rw [Shape.oA hx]
   unfold kE;rw [Bool.not_true,Bool.false_and]
   decide +kernel
  ·rw [Shape.iQ hx]
   unfold kE;rw [Bool.not_true,Bool.false_and]
   decide +kernel
theorem aQT:∀ f:Fin 256,(bits .and .i64 (f.val:Int) 128 != 0)=decide ((f.val:Int) / 128%2=1)/\(bits .and .i64 (f.val:Int) 16 != 0)=decide ((f.val:Int) / 16%2=1):=by decide +kernel
theorem aFB {f:Int} (h:0<=f/\f<=255):(bits .and .i64 f 128 != 0)=decide (f / 128%2=1)/\(bits .and .i64 f 16 != 0)=decide (f / 16%2=1):=by
 obtain ⟨k,rfl⟩:=aX h.1 h.2;exact aQT k
theorem bIP (w:World):(Instr.index 160 (.agg #[.int .i64 128,.int .i64 16]) (.int .i64 0)).run prog w=.ok (.int .i64 128) w:=by kernel_rfl
theorem bIQ (w:World):(Instr.index 160 (.agg #[.int .i64 128,.int .i64 16]) (.int .i64 1)).run prog w=.ok (.int .i64 16) w:=by kernel_rfl
theorem bEY {a b:Int} (ha:a=0 \/ a=1) (hb:b=0 \/ b=1):(decide (a=1) == decide (b=1))=decide (a=b):=by
 rcases ha with rfl|rfl <;> rcases hb with rfl|rfl <;> decide
theorem bEZ (c:Int) (cb:Bool) (imm f:Int) (w:World) (h0:0<=c) (h1:c<=255) (hh:kE c cb=false) :
  Calls prog 91 #[.agg #[.int .i64 c,.bool cb,.int .i64 imm],.int .i64 f] w fun e w'=>e=.returned (.bool (met c cb f))/\Below w.heap.size w w':=by
 have e1:met c cb f=true:=by unfold met;rw [hh];rfl
 rw [e1];have c1:=fun w=>Shape.dW c cb w
 have c2:=fun w=>Tryz.strings_Contains_one (Shape.shape c cb) 67 w
 rw [aQS c cb h0 h1,hh] at c2
 generalize Shape.shape c cb=s at *
 clear h0 h1 hh e1
 go_enter func91,ntmps91
 go_wp2_with first|(go_at_call 96;refine (c1 _).mono ?_;rintro e w1 ⟨rfl,hb1⟩)|(go_at_call 136;refine (c2 _).mono ?_;rintro e w2 ⟨rfl,hw2⟩;have hw2:=hw2.symm;subst hw2)
 go_ret;exact ⟨rfl,HolI.cW hb1⟩
theorem aFC (c:Int) (cb:Bool) (imm f k fl:Int) (w:World) (h0:0<=c) (h1:c<=255) (hh:kE c cb=true) (hf:0<=f/\f<=255) (hk:c / 8%8%4 / 2=k)
  (hix:∀ w,(Instr.index 160 (.agg #[.int .i64 128,.int .i64 16]) (.int .i64 k)).run prog w=.ok (.int .i64 fl) w) (hfl:(bits .and .i64 f fl != 0)=decide (f / fl%2=1)) (hfe:fl=if 1<c / 8%8%4 then 16 else 128) :
  Calls prog 91 #[.agg #[.int .i64 c,.bool cb,.int .i64 imm],.int .i64 f] w fun e w'=>e=.returned (.bool (met c cb f))/\Below w.heap.size w w':=by
 have e1:met c cb f=((bits .and .i64 f fl != 0) == (decide (c / 8%8%2=1))):=by
  unfold met;rw [hh,<- hfe,hfl,show c / 8%8%4%2=c / 8%8%2 by omega,bEY (by omega) (by omega)]
  rfl
 rw [e1];have c1:=fun w=>Shape.dW c cb w
 have c2:=fun w=>Tryz.strings_Contains_one (Shape.shape c cb) 67 w
 have c3:=fun w=>Shape.eJ c w h0 h1
 rw [aQS c cb h0 h1,hh] at c2
 generalize Shape.shape c cb=s at *
 obtain ⟨q,hq⟩ : ∃ q,q=c / 8%8%2:=⟨_,rfl⟩
 obtain ⟨y,hy⟩ : ∃ y,y=c / 8%8:=⟨_,rfl⟩
 rw [<- hq] at c3 |-
 rw [<- hy] at c3 hk
 have y0:0<=y:=by omega
 obtain ⟨r,hr⟩ : ∃ r,y.tmod 4=r:=⟨_,rfl⟩
 have hr2:r=y%4:=by rw [<- hr];exact x4 y0
 have hr0:0<=r:=by omega
 have hd:r.tdiv 2=k:=by rw [x5 hr0,hr2];exact hk
 have hw:IntKind.i64.wrap k=k:=by rw [x6];omega
 obtain ⟨b,hb⟩ : ∃ b,(bits .and .i64 f fl != 0)=b:=⟨_,rfl⟩
 rw [hb];have hqq:(q == 1)=decide (q=1):=by by_cases h:q=1 <;> simp [h]
 generalize decide (q=1)=dq at *
 generalize c / 64=x0 at *
 generalize c%8=z0 at *
 generalize y / 2=p0 at *
 clear h0 h1 hh e1 hfl hfe hk hf hq hy hr2
 go_enter func91,ntmps91
 go_wp2_with first|(go_at_call 96;refine (c1 _).mono ?_;rintro e w1 ⟨rfl,hb1⟩;have k0:=HolI.box hb1 0 _ rfl;have HB1:Hid (Below w.heap.size w w1):=HolI.cW hb1;clear hb1)|(go_at_call 136;refine (c2 _).mono ?_;rintro e w2 ⟨rfl,hw2⟩;have hw2:=hw2.symm;subst hw2)|(go_at_call 94;refine (c3 _).mono ?_;rintro e w3 ⟨rfl,hb3⟩;have HB3:Hid (Below w.heap.size w w3):=HolI.after HB1.out hb3;clear hb3)
 go_ret;exact ⟨rfl,zGr HB3.out _⟩
theorem aXP (c:Int) (cb:Bool) (imm f:Int) (w:World) (h0:0<=c) (h1:c<=255) (hf:0<=f/\f<=255) :
  Calls prog 91 #[.agg #[.int .i64 c,.bool cb,.int .i64 imm],.int .i64 f] w fun e w'=>e=.returned (.bool (met c cb f))/\Below w.heap.size w w':=by
 cases hh:kE c cb with
 | false=>exact bEZ c cb imm f w h0 h1 hh
 | true =>
  by_cases hk:c / 8%8%4 / 2=0
  ·exact aFC c cb imm f 0 128 w h0 h1 hh hf hk bIP (aFB hf).1 (by rw [if_neg (by omega)])
  ·exact aFC c cb imm f 1 16 w h0 h1 hh hf (by omega) bIQ (aFB hf).2 (by rw [if_pos (by omega)])
end Stpg
namespace Stph
open Go.Deep
open Signed (inB sgn aG aB)
open Busw Busx Stpp Stpq Stpi Stpj
def u (m:M) (k:Int):UInt8:=UInt8.ofNat (rd m ((m.pc+k)%65536)).toNat
theorem aIQ (m:M) (k:Int):((u m k).toNat:Int)=rd m ((m.pc+k)%65536):=by
 have h:=fN m ((m.pc+k)%65536);unfold u;rw [UInt8.toNat_ofNat'];omega
def bU (m:M):ByteArray:=⟨#[u m 0,u m 1,u m 2]⟩
theorem eX (m:M):(bU m).size=3:=rfl
theorem aIR {w:World} {A:Nat} {a b c:UInt8} {T:TypeId} (h:w.heap[A]? = some (.cells #[.int .u8 (a.toNat:Int),.int .u8 (b.toNat:Int),.int .u8 (c.toNat:Int)] T)):(convert 22 9 (.slice (some ⟨A,0,none⟩) 3 3)).run prog w=.ok (.string ⟨#[a,b,c]⟩) w :=
 run_convert_bytes_back (P:=prog) w 22 9 5 ⟨A,0,none⟩ 3 [a,b,c] underlying22 underlying5 underlying9 (fun j hj=>by
  have ea:(⟨A,0,none⟩ : Addr).add j=⟨A,j,none⟩:=by unfold Addr.add;split <;> simp_all
  rw [ea,cell_of_row w A j _ _ _ h]
  match j,hj with
  | 0,_=>rfl
  | 1,_=>rfl
  | 2,_=>rfl)
theorem pB (m:M) (po:Option Addr) (cap B:Nat) (w:World) (hb:w.heap[B]? = some (.cells (aA m po cap) 30 (0,0))) (hr:Rt m) (hp:0<=m.pc/\m.pc<=65535) (hm:HolI.MaxL w) :
  Calls prog 90 #[.pointer (some ⟨B,0,none⟩)] w fun e w'=>e=.returned (.tuple #[ReadI.dZ (bU m) 0,.int .i64 (ReadI.dD (bU m) 0)])/\Below w.heap.size w w':=by
 have lB:B<w.heap.size:=(zLo hb);have CR:Hid (∀ W a,Below w.heap.size w W->Calls prog 134 #[.pointer (some ⟨B,0,none⟩),.int .i64 (a%65536)] W fun e w'=>e=.returned (.int .i64 (rd m (a%65536)))/\Below W.heap.size W w'):=fun W a hW=>by
  have hb2:=(hW.block _ lB).trans hb;rw [aT] at hb2
  exact MachB.pG m.ra m.rf m.rB m.rC m.rD m.rE m.rH m.rL m.sp m.pc m.ime m.hal m.rom m.kind m.bank m.ram m.rb m.on m.mode m.work m.high po m.out cap m.cyc B _ W hb2 hr.cart hr.work hr.high (jR a).1
 have CW:=fun a w=>cX a w
 have PC:Hid (∀ W,Below w.heap.size w W->W.cell? ⟨B,9,none⟩=some (.int .i64 m.pc)):=fun W hW=>eM ((hW.block _ lB).trans hb) 9 _ rfl
 have HM:Hid (HolI.MaxL w):=hm;have d1:IntKind.i64.wrap (m.pc+1)=m.pc+1:=by rw [x6];omega
 have d2:IntKind.i64.wrap (m.pc+2)=m.pc+2:=by rw [x6];omega
 have e0:=aIQ m 0;have e1:=aIQ m 1;have e2:=aIQ m 2;rw [show m.pc+0=m.pc by omega] at e0
 obtain ⟨c,cb,imm,hI⟩:=ReadJ.iV (bU m) 0;have CI:Hid (∀ W,Below w.heap.size w W->Calls prog 135 #[.string (bU m),.int .i64 0] W fun e w'=>e=.returned (.tuple #[.agg #[.int .i64 c,.bool cb,.int .i64 imm],.int .i64 (ReadI.dD (bU m) 0)])/\Below W.heap.size W w'):=fun W hW=>by
  have h:=ReadJ.vB (bU m) 0 W (hm.below hW) (by rw [eX];decide);unfold ReadI.Tup at h
  rw [hI] at h
  exact h
 rw [hI];generalize ReadI.dD (bU m) 0=n at *
 have hF:bU m=⟨#[u m 0,u m 1,u m 2]⟩:=rfl;rw [hF] at CI
 have b0:=(u m 0).toNat_lt;have b1:=(u m 1).toNat_lt;have b2:=(u m 2).toNat_lt;generalize u m 0=u0 at *
 generalize u m 1=u1 at *
 generalize u m 2=u2 at *
 have z0:IntKind.u8.wrap (u0.toNat:Int)=u0.toNat:=by rw [IntKind.wrap_u8];omega
 have z1:IntKind.u8.wrap (u1.toNat:Int)=u1.toNat:=by rw [IntKind.wrap_u8];omega
 have z2:IntKind.u8.wrap (u2.toNat:Int)=u2.toNat:=by rw [IntKind.wrap_u8];omega
 have CR0:=fun W hW=>(CR.out W m.pc hW)
 have CR1:=fun W hW=>(CR.out W (m.pc+1) hW)
 have CR2:=fun W hW=>(CR.out W (m.pc+2) hW)
 rw [<- e0] at CR0
 rw [<- e1] at CR1
 rw [<- e2] at CR2
 have H0:Hid (∀ W,Below w.heap.size w W->Calls prog 134 #[.pointer (some ⟨B,0,none⟩),.int .i64 (m.pc%65536)] W fun e w'=>e=.returned (.int .i64 (u0.toNat:Int))/\Below W.heap.size W w'):=CR0;have H1:Hid (∀ W,Below w.heap.size w W->Calls prog 134 #[.pointer (some ⟨B,0,none⟩),.int .i64 ((m.pc+1)%65536)] W fun e w'=>e=.returned (.int .i64 (u1.toNat:Int))/\Below W.heap.size W w'):=CR1;have H2:Hid (∀ W,Below w.heap.size w W->Calls prog 134 #[.pointer (some ⟨B,0,none⟩),.int .i64 ((m.pc+2)%65536)] W fun e w'=>e=.returned (.int .i64 (u2.toNat:Int))/\Below W.heap.size W w'):=CR2;have d0:IntKind.i64.wrap m.pc=m.pc:=by rw [x6];omega
 have d0':wrap64 m.pc=m.pc:=by first|(unfold wrap64;omega)|(rw [<- wrap_i64_64];exact d0)
 have a0:Below w.heap.size w ((w.alloc (.cells #[.int .i64 0,.bool false,.int .i64 0] 80)).alloc (.cells #[.int .u8 0,.int .u8 0,.int .u8 0] 157)):=by repeat (with_reducible first|exact zRf|refine zGr ?_ _|refine below_drewN ?_ _|refine Below.drew ?_)
 have A0:Hid (Below w.heap.size w ((w.alloc (.cells #[.int .i64 0,.bool false,.int .i64 0] 80)).alloc (.cells #[.int .u8 0,.int .u8 0,.int .u8 0] 157))):=a0;have HA:Hid (((w.alloc (.cells #[.int .i64 0,.bool false,.int .i64 0] 80)).alloc (.cells #[.int .u8 0,.int .u8 0,.int .u8 0] 157)).heap[w.heap.size+1]? = some (.cells #[.int .u8 0,.int .u8 0,.int .u8 0] 157)):=by show _=_;have h:=heap_alloc_new (w.alloc (.cells #[.int .i64 0,.bool false,.int .i64 0] 80)) (.cells #[.int .u8 0,.int .u8 0,.int .u8 0] 157);rw [show (w.alloc (.cells #[.int .i64 0,.bool false,.int .i64 0] 80)).heap.size=w.heap.size+1 by simp] at h;exact h
 have HRr:Hid (((w.alloc (.cells #[.int .i64 0,.bool false,.int .i64 0] 80)).alloc (.cells #[.int .u8 0,.int .u8 0,.int .u8 0] 157)).heap[w.heap.size]? = some (.cells #[.int .i64 0,.bool false,.int .i64 0] 80)):=by show _=_;rw [aM _ _ (by simp)];exact heap_alloc_new w _
 have q0:=PC.out _ A0.out;clear a0;clear hF CR0 CR1 CR2 e0 e1 e2 CR hI hm hp hr hb b0 b1 b2
 go_enter func90,ntmps90
 go_wp2_with fail
 refine wp_loop_rounds 4 ?_;rw [rounds_succ]
 go_wp2_with (go_at_call 93;refine (CW _ _).mono ?_;rintro e w' ⟨rfl,hw'⟩;have hw':=hw'.symm;subst hw')
 refine Calls.mono (H0.out _ A0.out) ?_;rintro e w1 ⟨rfl,hb⟩;have hx:=(hb.block _ (zLo HA.out)).trans HA.out;have hR:=(hb.block _ (zLo HRr.out)).trans HRr.out;have k0:=(cell_of_row w1 (w.heap.size+1) 0 _ _ _ hx).trans rfl;have f0:=frozen_of_row w1 (w.heap.size+1) 0 _ _ hx;have X0:Hid ((w1.setCell ⟨w.heap.size+1,0,none⟩ (.int .u8 (u0.toNat:Int))).heap[w.heap.size+1]? = some (.cells #[.int .u8 (u0.toNat:Int),.int .u8 0,.int .u8 0] 157)):=(heap_setCell_same _ _ _ _ _ _ hx).trans rfl;have R0:Hid ((w1.setCell ⟨w.heap.size+1,0,none⟩ (.int .u8 (u0.toNat:Int))).heap[w.heap.size]? = some (.cells #[.int .i64 0,.bool false,.int .i64 0] 80)):=(Below.heap_setCell _ _ _ _ (by simp)).trans hR;have bB:=(HolI.after A0.out hb).setCell (p:=⟨w.heap.size+1,0,none⟩) (by simp) (.int .u8 (u0.toNat:Int));have B0:Hid (Below w.heap.size w (w1.setCell ⟨w.heap.size+1,0,none⟩ (.int .u8 (u0.toNat:Int)))):=bB;have q1:=PC.out _ bB;clear hx hb hR bB H0 HA HRr A0 q0
 go_wp2_with (go_at_call 93;refine (CW _ _).mono ?_;rintro e w' ⟨rfl,hw'⟩;have hw':=hw'.symm;subst hw')
 rw [rounds_succ]
 go_wp2_with (go_at_call 93;refine (CW _ _).mono ?_;rintro e w' ⟨rfl,hw'⟩;have hw':=hw'.symm;subst hw')
 refine Calls.mono (H1.out _ B0.out) ?_;rintro e w2 ⟨rfl,hb⟩;have hx:=(hb.block _ (zLo X0.out)).trans X0.out;have hR:=(hb.block _ (zLo R0.out)).trans R0.out;have k1:=(cell_of_row w2 (w.heap.size+1) 1 _ _ _ hx).trans rfl;have f1:=frozen_of_row w2 (w.heap.size+1) 1 _ _ hx;have X1:Hid ((w2.setCell ⟨w.heap.size+1,1,none⟩ (.int .u8 (u1.toNat:Int))).heap[w.heap.size+1]? = some (.cells #[.int .u8 (u0.toNat:Int),.int .u8 (u1.toNat:Int),.int .u8 0] 157)):=(heap_setCell_same _ _ _ _ _ _ hx).trans rfl;have R1:Hid ((w2.setCell ⟨w.heap.size+1,1,none⟩ (.int .u8 (u1.toNat:Int))).heap[w.heap.size]? = some (.cells #[.int .i64 0,.bool false,.int .i64 0] 80)):=(Below.heap_setCell _ _ _ _ (by simp)).trans hR;have bB:=(HolI.after B0.out hb).setCell (p:=⟨w.heap.size+1,1,none⟩) (by simp) (.int .u8 (u1.toNat:Int));have B1:Hid (Below w.heap.size w (w2.setCell ⟨w.heap.size+1,1,none⟩ (.int .u8 (u1.toNat:Int)))):=bB;have q2:=PC.out _ bB;clear hx hb hR bB H1 X0 R0 B0 q1
 go_wp2_with (go_at_call 93;refine (CW _ _).mono ?_;rintro e w' ⟨rfl,hw'⟩;have hw':=hw'.symm;subst hw')
 rw [rounds_succ]
 go_wp2_with (go_at_call 93;refine (CW _ _).mono ?_;rintro e w' ⟨rfl,hw'⟩;have hw':=hw'.symm;subst hw')
 refine Calls.mono (H2.out _ B1.out) ?_;rintro e w3 ⟨rfl,hb⟩;have hx:=(hb.block _ (zLo X1.out)).trans X1.out;have hR:=(hb.block _ (zLo R1.out)).trans R1.out;have k2:=(cell_of_row w3 (w.heap.size+1) 2 _ _ _ hx).trans rfl;have f2:=frozen_of_row w3 (w.heap.size+1) 2 _ _ hx;have X2:Hid ((w3.setCell ⟨w.heap.size+1,2,none⟩ (.int .u8 (u2.toNat:Int))).heap[w.heap.size+1]? = some (.cells #[.int .u8 (u0.toNat:Int),.int .u8 (u1.toNat:Int),.int .u8 (u2.toNat:Int)] 157)):=(heap_setCell_same _ _ _ _ _ _ hx).trans rfl;have R2:Hid ((w3.setCell ⟨w.heap.size+1,2,none⟩ (.int .u8 (u2.toNat:Int))).heap[w.heap.size]? = some (.cells #[.int .i64 0,.bool false,.int .i64 0] 80)):=(Below.heap_setCell _ _ _ _ (by simp)).trans hR;have bB:=(HolI.after B1.out hb).setCell (p:=⟨w.heap.size+1,2,none⟩) (by simp) (.int .u8 (u2.toNat:Int));have B2:Hid (Below w.heap.size w (w3.setCell ⟨w.heap.size+1,2,none⟩ (.int .u8 (u2.toNat:Int)))):=bB;have q3:=PC.out _ bB;clear hx hb hR bB H2 X1 R1 B1 q2;have hs:=aIR X2.out
 go_wp2_with (go_at_call 93;refine (CW _ _).mono ?_;rintro e w' ⟨rfl,hw'⟩;have hw':=hw'.symm;subst hw')
 rw [rounds_succ]
 go_wp2_with (go_at_call 93;refine (CW _ _).mono ?_;rintro e w' ⟨rfl,hw'⟩;have hw':=hw'.symm;subst hw')
 refine Calls.mono (CI.out _ B2.out) ?_;rintro e w4 ⟨rfl,hb⟩;have hR:=(hb.block _ (zLo R2.out)).trans R2.out;have r0:=(cell_of_row w4 w.heap.size 0 _ _ _ hR).trans rfl;have r1:=(cell_of_row w4 w.heap.size 1 _ _ _ hR).trans rfl;have r2:=(cell_of_row w4 w.heap.size 2 _ _ _ hR).trans rfl;have g0:=frozen_of_row w4 w.heap.size 0 _ _ hR;have g1:=frozen_of_row w4 w.heap.size 1 _ _ hR;have g2:=frozen_of_row w4 w.heap.size 2 _ _ hR;have lR:w.heap.size<w4.heap.size:=(zLo hR);have B4:=zHd (HolI.after B2.out hb);clear hR hb B2 R2 CI
 go_wp2_with fail
 refine bodyPost_ret (v:=.tuple #[.agg #[.int .i64 c,.bool cb,.int .i64 imm],.int .i64 n]) (by simp [results,results90,go_sem,r0,r1,r2,lR]) rfl ⟨rfl,?_⟩;exact ((B4.out.setCell (Nat.le_refl _) _).setCell (Nat.le_refl _) _).setCell (Nat.le_refl _) _
end Stph
end Go.Proofs.YteglcgnhhoenbaaGreatDoor
