import Derived.Test.YteglcgnhhoenbaaGreatDoorP33
set_option linter.all false
set_option maxRecDepth 20000
set_option maxHeartbeats 8000000
open Go.ChangeShapes Go.WideShapes Go.ChangeAt Go.RowKit
open Go.Proofs.Tryz
namespace Go.Proofs.YteglcgnhhoenbaaGreatDoor
namespace Stpe
open Go.Deep
open Signed (inB sgn ret_int ret_bool)
open Reck ReckS ReckM ReckD TurnS
open Busw Busx Stpp Stpq Stpi Stpj Stpr Stpk Stpm Stpn Stpu Stpx Stpy Stpv Stpz Stpw Stpb Stpd Stpc Stpf
structure Parts (g:G):Prop where
 c:0<=g.code/\g.code<=255
 x:g.x=g.code / 64
 y:g.y=g.code / 8%8
 z:g.z=g.code%8
 p:g.p=g.code / 8%8 / 2
theorem Parts.pt {g:G} (h:Parts g):Pt g:=by
 obtain ⟨hc,hx,hy,hz,hp⟩:=h
 exact ⟨by omega,by omega,by omega,by omega⟩
def Does (g:G) (W:World) (fv:Value) (t:S):Prop:=∃ F cap,fv=.func (.func F) #[] cap/\(∀ args w,(callFunc F args).run prog w=.ok (.enter F args) w)/\Calls prog F (#[.pointer (some ⟨g.K,0,none⟩)] ++ cap) W fun e w'=>e=.returned (.tuple #[])/\In g w' t.m t.full
def Acts (g:G) (w:World) (s:ByteArray) (t:S):Prop:=Calls prog 95 #[.string s] w fun e w'=>∃ fv,e=.returned fv/\Below w.heap.size w w'/\Does g w' fv t
theorem en_addToHl (args:Array Value) (w:World):(callFunc 200 args).run prog w=.ok (.enter 200 args) w:=by rfl
theorem en_bitOf (args:Array Value) (w:World):(callFunc 205 args).run prog w=.ok (.enter 205 args) w:=by rfl
theorem en_doNothing (args:Array Value) (w:World):(callFunc 143 args).run prog w=.ok (.enter 143 args) w:=by rfl
theorem en_hlFromSp (args:Array Value) (w:World):(callFunc 180 args).run prog w=.ok (.enter 180 args) w:=by rfl
theorem en_jumpOf_1 (args:Array Value) (w:World):(callFunc 211 args).run prog w=.ok (.enter 211 args) w:=by rfl
theorem en_jumpOf_10 (args:Array Value) (w:World):(callFunc 223 args).run prog w=.ok (.enter 223 args) w:=by rfl
theorem en_jumpOf_2 (args:Array Value) (w:World):(callFunc 213 args).run prog w=.ok (.enter 213 args) w:=by rfl
theorem en_jumpOf_3 (args:Array Value) (w:World):(callFunc 214 args).run prog w=.ok (.enter 214 args) w:=by rfl
theorem en_jumpOf_4 (args:Array Value) (w:World):(callFunc 215 args).run prog w=.ok (.enter 215 args) w:=by rfl
theorem en_jumpOf_5 (args:Array Value) (w:World):(callFunc 217 args).run prog w=.ok (.enter 217 args) w:=by rfl
theorem en_jumpOf_6 (args:Array Value) (w:World):(callFunc 218 args).run prog w=.ok (.enter 218 args) w:=by rfl
theorem en_jumpOf_7 (args:Array Value) (w:World):(callFunc 220 args).run prog w=.ok (.enter 220 args) w:=by rfl
theorem en_jumpOf_8 (args:Array Value) (w:World):(callFunc 221 args).run prog w=.ok (.enter 221 args) w:=by rfl
theorem en_jumpOf_9 (args:Array Value) (w:World):(callFunc 222 args).run prog w=.ok (.enter 222 args) w:=by rfl
theorem en_loadA_1 (args:Array Value) (w:World):(callFunc 244 args).run prog w=.ok (.enter 244 args) w:=by rfl
theorem en_moveOf_1 (args:Array Value) (w:World):(callFunc 169 args).run prog w=.ok (.enter 169 args) w:=by rfl
theorem en_moveOf_2 (args:Array Value) (w:World):(callFunc 172 args).run prog w=.ok (.enter 172 args) w:=by rfl
theorem en_moveOf_3 (args:Array Value) (w:World):(callFunc 173 args).run prog w=.ok (.enter 173 args) w:=by rfl
theorem en_moveOf_4 (args:Array Value) (w:World):(callFunc 176 args).run prog w=.ok (.enter 176 args) w:=by rfl
theorem en_moveOf_5 (args:Array Value) (w:World):(callFunc 187 args).run prog w=.ok (.enter 187 args) w:=by rfl
theorem en_popPair (args:Array Value) (w:World):(callFunc 190 args).run prog w=.ok (.enter 190 args) w:=by rfl
theorem en_reckoningOf_1 (args:Array Value) (w:World):(callFunc 191 args).run prog w=.ok (.enter 191 args) w:=by rfl
theorem en_reckoningOf_10 (args:Array Value) (w:World):(callFunc 210 args).run prog w=.ok (.enter 210 args) w:=by rfl
theorem en_reckoningOf_2 (args:Array Value) (w:World):(callFunc 193 args).run prog w=.ok (.enter 193 args) w:=by rfl
theorem en_reckoningOf_3 (args:Array Value) (w:World):(callFunc 194 args).run prog w=.ok (.enter 194 args) w:=by rfl
theorem en_reckoningOf_4 (args:Array Value) (w:World):(callFunc 196 args).run prog w=.ok (.enter 196 args) w:=by rfl
theorem en_reckoningOf_5 (args:Array Value) (w:World):(callFunc 197 args).run prog w=.ok (.enter 197 args) w:=by rfl
theorem en_reckoningOf_6 (args:Array Value) (w:World):(callFunc 199 args).run prog w=.ok (.enter 199 args) w:=by rfl
theorem en_reckoningOf_7 (args:Array Value) (w:World):(callFunc 201 args).run prog w=.ok (.enter 201 args) w:=by rfl
theorem en_reckoningOf_8 (args:Array Value) (w:World):(callFunc 206 args).run prog w=.ok (.enter 206 args) w:=by rfl
theorem en_reckoningOf_9 (args:Array Value) (w:World):(callFunc 209 args).run prog w=.ok (.enter 209 args) w:=by rfl
theorem en_storeA_1 (args:Array Value) (w:World):(callFunc 243 args).run prog w=.ok (.enter 243 args) w:=by rfl
theorem en_storeSp (args:Array Value) (w:World):(callFunc 179 args).run prog w=.ok (.enter 179 args) w:=by rfl
theorem en_turnA (args:Array Value) (w:World):(callFunc 203 args).run prog w=.ok (.enter 203 args) w:=by rfl
theorem en_turnBits (args:Array Value) (w:World):(callFunc 208 args).run prog w=.ok (.enter 208 args) w:=by rfl
theorem en_turnRegister (args:Array Value) (w:World):(callFunc 204 args).run prog w=.ok (.enter 204 args) w:=by rfl
theorem plain_acts {g:G} {w:World} {s:ByteArray} {t:S} {F:FuncId} (ha:Calls prog 95 #[.string s] w fun e w'=>e=.returned (.func (.func F) #[] #[])/\w'=w) (hn:∀ args w,(callFunc F args).run prog w=.ok (.enter F args) w) (hc:Calls prog F #[.pointer (some ⟨g.K,0,none⟩)] w fun e w'=>e=.returned (.tuple #[])/\In g w' t.m t.full):Acts g w s t :=
 ha.mono fun e w' h=>by
  obtain ⟨rfl,rfl⟩:=h
  exact ⟨_,rfl,Below.refl _ _,F,#[],rfl,hn,hc⟩
theorem box_acts {g:G} {w:World} {s:ByteArray} {t:S} {F:FuncId} {v:Value} (ha:Calls prog 95 #[.string s] w fun e w'=>e=.returned (.func (.func F) #[] #[.pointer (some ⟨w.heap.size,0,none⟩)])/\w'=w.alloc (.cells #[v] 211)) (hn:∀ args w,(callFunc F args).run prog w=.ok (.enter F args) w)
  (hc:Below w.heap.size w (w.alloc (.cells #[v] 211))->(w.alloc (.cells #[v] 211)).cell? ⟨w.heap.size,0,none⟩=some v->Calls prog F #[.pointer (some ⟨g.K,0,none⟩),.pointer (some ⟨w.heap.size,0,none⟩)] (w.alloc (.cells #[v] 211)) fun e w'=>e=.returned (.tuple #[])/\In g w' t.m t.full):Acts g w s t :=
 ha.mono fun e w' h=>by
  obtain ⟨rfl,rfl⟩:=h
  have hb:Below w.heap.size w (w.alloc (.cells #[v] 211)):=zAl _ _
  exact ⟨_,rfl,hb,F,_,rfl,hn,hc hb (by rw [World.cell?_alloc_new];rfl)⟩
theorem cl_ld_RS (g:G) (m:M) (full:Bool) (w:World) (h:In g w m full) (hg:Stpq.Good m) (hP:Parts g) (hcb:g.cb=false) (hk:kd g.code=1) (i0:0<=g.imm) (i1:g.imm<=65535):Acts g w (Shape.shape g.code g.cb) (sem g.code g.cb g.imm ⟨m,full⟩).1:=by
 have hp:=hP.pt
 obtain ⟨k,hkk⟩:=fin_of hP.c.1 hP.c.2
 have hc:=ar_ld_RS k (by rw [hkk];exact hk) g.code hkk.symm
 rw [hcb,shape_kd hP.c.1 hP.c.2,hk,se_ld_RS m full g.code g.imm hg hc hP.c.1 hP.c.2 i0 i1]
 rw [<- hP.y]
 rw [<- hP.z]
 exact plain_acts (act_0 _ _ w (fun W=>mv_ld_RS W)) en_moveOf_1 (mv1 g m full w h hg hp)
theorem cl_ld_Rn8 (g:G) (m:M) (full:Bool) (w:World) (h:In g w m full) (hg:Stpq.Good m) (hP:Parts g) (hcb:g.cb=false) (hk:kd g.code=2) (i0:0<=g.imm) (i1:g.imm<=65535) (ib:g.imm<=255):Acts g w (Shape.shape g.code g.cb) (sem g.code g.cb g.imm ⟨m,full⟩).1:=by
 have hp:=hP.pt
 obtain ⟨k,hkk⟩:=fin_of hP.c.1 hP.c.2
 have hc:=ar_ld_Rn8 k (by rw [hkk];exact hk) g.code hkk.symm
 rw [hcb,shape_kd hP.c.1 hP.c.2,hk,se_ld_Rn8 m full g.code g.imm hg hc hP.c.1 hP.c.2 i0 i1]
 rw [<- hP.y]
 exact plain_acts (act_0 _ _ w (fun W=>mv_ld_Rn8 W)) en_moveOf_2 (mv2 g m full i0 ib w h hg hp)
theorem cl_ld_Pn16 (g:G) (m:M) (full:Bool) (w:World) (h:In g w m full) (hg:Stpq.Good m) (hP:Parts g) (hcb:g.cb=false) (hk:kd g.code=3) (i0:0<=g.imm) (i1:g.imm<=65535):Acts g w (Shape.shape g.code g.cb) (sem g.code g.cb g.imm ⟨m,full⟩).1:=by
 have hp:=hP.pt
 obtain ⟨k,hkk⟩:=fin_of hP.c.1 hP.c.2
 have hc:=ar_ld_Pn16 k (by rw [hkk];exact hk) g.code hkk.symm
 rw [hcb,shape_kd hP.c.1 hP.c.2,hk,se_ld_Pn16 m full g.code g.imm hg hc hP.c.1 hP.c.2 i0 i1]
 rw [<- hP.p]
 exact plain_acts (act_0 _ _ w (fun W=>mv_ld_Pn16 W)) en_moveOf_3 (mv3 g m full w h hg hp)
theorem cl_ld_sphl (g:G) (m:M) (full:Bool) (w:World) (h:In g w m full) (hg:Stpq.Good m) (hP:Parts g) (hcb:g.cb=false) (hk:kd g.code=4) (i0:0<=g.imm) (i1:g.imm<=65535):Acts g w (Shape.shape g.code g.cb) (sem g.code g.cb g.imm ⟨m,full⟩).1:=by
 have hp:=hP.pt
 obtain ⟨k,hkk⟩:=fin_of hP.c.1 hP.c.2
 have hc:=ar_ld_sphl k (by rw [hkk];exact hk) g.code hkk.symm
 rw [hcb,shape_kd hP.c.1 hP.c.2,hk,se_ld_sphl m full g.code g.imm hg hc hP.c.1 hP.c.2 i0 i1]
 exact plain_acts (act_0 _ _ w (fun W=>mv_ld_sphl W)) en_moveOf_4 (mv4 g m full w h hg hp)
theorem cl_ld_in16sp (g:G) (m:M) (full:Bool) (w:World) (h:In g w m full) (hg:Stpq.Good m) (hP:Parts g) (hcb:g.cb=false) (hk:kd g.code=5) (i0:0<=g.imm) (i1:g.imm<=65535):Acts g w (Shape.shape g.code g.cb) (sem g.code g.cb g.imm ⟨m,full⟩).1:=by
 have hp:=hP.pt
 obtain ⟨k,hkk⟩:=fin_of hP.c.1 hP.c.2
 have hc:=ar_ld_in16sp k (by rw [hkk];exact hk) g.code hkk.symm
 rw [hcb,shape_kd hP.c.1 hP.c.2,hk,se_ld_in16sp m full g.code g.imm hg hc hP.c.1 hP.c.2 i0 i1]
 exact plain_acts (act_0 _ _ w (fun W=>mv_ld_in16sp W)) en_storeSp (mvSp g m full i0 i1 w h hg hp)
theorem cl_ld_hlspe8 (g:G) (m:M) (full:Bool) (w:World) (h:In g w m full) (hg:Stpq.Good m) (hP:Parts g) (hcb:g.cb=false) (hk:kd g.code=6) (i0:0<=g.imm) (i1:g.imm<=65535) (ib:g.imm<=255):Acts g w (Shape.shape g.code g.cb) (sem g.code g.cb g.imm ⟨m,full⟩).1:=by
 have hp:=hP.pt
 obtain ⟨k,hkk⟩:=fin_of hP.c.1 hP.c.2
 have hc:=ar_ld_hlspe8 k (by rw [hkk];exact hk) g.code hkk.symm
 rw [hcb,shape_kd hP.c.1 hP.c.2,hk,se_ld_hlspe8 m full g.code g.imm hg hc hP.c.1 hP.c.2 i0 i1]
 exact plain_acts (act_0 _ _ w (fun W=>mv_ld_hlspe8 W)) en_hlFromSp (mvHl g m full i0 ib w h hg hp)
theorem cl_ld_Ma (g:G) (m:M) (full:Bool) (w:World) (h:In g w m full) (hg:Stpq.Good m) (hP:Parts g) (hcb:g.cb=false) (hk:kd g.code=7) (i0:0<=g.imm) (i1:g.imm<=65535):Acts g w (Shape.shape g.code g.cb) (sem g.code g.cb g.imm ⟨m,full⟩).1:=by
 have hp:=hP.pt
 obtain ⟨k,hkk⟩:=fin_of hP.c.1 hP.c.2
 have hc:=ar_ld_Ma k (by rw [hkk];exact hk) g.code hkk.symm
 rw [hcb,shape_kd hP.c.1 hP.c.2,hk,se_ld_Ma m full g.code g.imm hg hc hP.c.1 hP.c.2 i0 i1]
 rw [<- hP.p]
 exact box_acts (act_4 _ _ _ w (fun W=>mv_ld_Ma W)) en_storeA_1 fun hb hx=>stA_step g m full _ _ (h.below hb) hg hp hx
theorem cl_ld_aM (g:G) (m:M) (full:Bool) (w:World) (h:In g w m full) (hg:Stpq.Good m) (hP:Parts g) (hcb:g.cb=false) (hk:kd g.code=8) (i0:0<=g.imm) (i1:g.imm<=65535):Acts g w (Shape.shape g.code g.cb) (sem g.code g.cb g.imm ⟨m,full⟩).1:=by
 have hp:=hP.pt
 obtain ⟨k,hkk⟩:=fin_of hP.c.1 hP.c.2
 have hc:=ar_ld_aM k (by rw [hkk];exact hk) g.code hkk.symm
 rw [hcb,shape_kd hP.c.1 hP.c.2,hk,se_ld_aM m full g.code g.imm hg hc hP.c.1 hP.c.2 i0 i1]
 rw [<- hP.p]
 exact box_acts (act_4 _ _ _ w (fun W=>mv_ld_aM W)) en_loadA_1 fun hb hx=>ldA_step g m full _ _ (h.below hb) hg hp hx
theorem cl_ldh_in8a (g:G) (m:M) (full:Bool) (w:World) (h:In g w m full) (hg:Stpq.Good m) (hP:Parts g) (hcb:g.cb=false) (hk:kd g.code=9) (i0:0<=g.imm) (i1:g.imm<=65535):Acts g w (Shape.shape g.code g.cb) (sem g.code g.cb g.imm ⟨m,full⟩).1:=by
 have hp:=hP.pt
 obtain ⟨k,hkk⟩:=fin_of hP.c.1 hP.c.2
 have hc:=ar_ldh_in8a k (by rw [hkk];exact hk) g.code hkk.symm
 rw [hcb,shape_kd hP.c.1 hP.c.2,hk,se_ldh_in8a m full g.code g.imm hg hc hP.c.1 hP.c.2 i0 i1]
 exact box_acts (act_4 _ _ _ w (fun W=>mv_ldh_in8a W)) en_storeA_1 fun hb hx=>stA_high g m full _ (fun W hi=>at_high g m full W hi hg i0 i1) _ _ (h.below hb) hg hx
theorem cl_ldh_ain8 (g:G) (m:M) (full:Bool) (w:World) (h:In g w m full) (hg:Stpq.Good m) (hP:Parts g) (hcb:g.cb=false) (hk:kd g.code=10) (i0:0<=g.imm) (i1:g.imm<=65535) (ib:g.imm<=255):Acts g w (Shape.shape g.code g.cb) (sem g.code g.cb g.imm ⟨m,full⟩).1:=by
 have hp:=hP.pt
 obtain ⟨k,hkk⟩:=fin_of hP.c.1 hP.c.2
 have hc:=ar_ldh_ain8 k (by rw [hkk];exact hk) g.code hkk.symm
 rw [hcb,shape_kd hP.c.1 hP.c.2,hk,se_ldh_ain8 m full g.code g.imm hg hc hP.c.1 hP.c.2 i0 i1]
 exact box_acts (act_4 _ _ _ w (fun W=>mv_ldh_ain8 W)) en_loadA_1 fun hb hx=>ldA_high g m full _ (fun W hi=>at_high g m full W hi hg i0 i1) (by omega) (by omega) _ _ (h.below hb) hg hx
theorem cl_ldh_ica (g:G) (m:M) (full:Bool) (w:World) (h:In g w m full) (hg:Stpq.Good m) (hP:Parts g) (hcb:g.cb=false) (hk:kd g.code=11) (i0:0<=g.imm) (i1:g.imm<=65535):Acts g w (Shape.shape g.code g.cb) (sem g.code g.cb g.imm ⟨m,full⟩).1:=by
 have hp:=hP.pt
 obtain ⟨k,hkk⟩:=fin_of hP.c.1 hP.c.2
 have hc:=ar_ldh_ica k (by rw [hkk];exact hk) g.code hkk.symm
 rw [hcb,shape_kd hP.c.1 hP.c.2,hk,se_ldh_ica m full g.code g.imm hg hc hP.c.1 hP.c.2 i0 i1]
 exact box_acts (act_4 _ _ _ w (fun W=>mv_ldh_ica W)) en_storeA_1 fun hb hx=>stA_highC g m full _ (fun W hi=>at_highC g m full W hi hg i0 i1) _ _ (h.below hb) hg hx
theorem cl_ldh_aic (g:G) (m:M) (full:Bool) (w:World) (h:In g w m full) (hg:Stpq.Good m) (hP:Parts g) (hcb:g.cb=false) (hk:kd g.code=12) (i0:0<=g.imm) (i1:g.imm<=65535):Acts g w (Shape.shape g.code g.cb) (sem g.code g.cb g.imm ⟨m,full⟩).1:=by
 have hp:=hP.pt
 obtain ⟨k,hkk⟩:=fin_of hP.c.1 hP.c.2
 have hc:=ar_ldh_aic k (by rw [hkk];exact hk) g.code hkk.symm
 rw [hcb,shape_kd hP.c.1 hP.c.2,hk,se_ldh_aic m full g.code g.imm hg hc hP.c.1 hP.c.2 i0 i1]
 exact box_acts (act_4 _ _ _ w (fun W=>mv_ldh_aic W)) en_loadA_1 fun hb hx=>ldA_highC g m full _ (fun W hi=>at_highC g m full W hi hg i0 i1) (by have:=hg.c;omega) (by have:=hg.c;omega) _ _ (h.below hb) hg hx
theorem cl_ld_in16a (g:G) (m:M) (full:Bool) (w:World) (h:In g w m full) (hg:Stpq.Good m) (hP:Parts g) (hcb:g.cb=false) (hk:kd g.code=13) (i0:0<=g.imm) (i1:g.imm<=65535):Acts g w (Shape.shape g.code g.cb) (sem g.code g.cb g.imm ⟨m,full⟩).1:=by
 have hp:=hP.pt
 obtain ⟨k,hkk⟩:=fin_of hP.c.1 hP.c.2
 have hc:=ar_ld_in16a k (by rw [hkk];exact hk) g.code hkk.symm
 rw [hcb,shape_kd hP.c.1 hP.c.2,hk,se_ld_in16a m full g.code g.imm hg hc hP.c.1 hP.c.2 i0 i1]
 exact box_acts (act_4 _ _ _ w (fun W=>mv_ld_in16a W)) en_storeA_1 fun hb hx=>stA_told g m full _ (fun W hi=>at_told g m full W hi hg i0 i1) _ _ (h.below hb) hg hx
theorem cl_ld_ain16 (g:G) (m:M) (full:Bool) (w:World) (h:In g w m full) (hg:Stpq.Good m) (hP:Parts g) (hcb:g.cb=false) (hk:kd g.code=14) (i0:0<=g.imm) (i1:g.imm<=65535):Acts g w (Shape.shape g.code g.cb) (sem g.code g.cb g.imm ⟨m,full⟩).1:=by
 have hp:=hP.pt
 obtain ⟨k,hkk⟩:=fin_of hP.c.1 hP.c.2
 have hc:=ar_ld_ain16 k (by rw [hkk];exact hk) g.code hkk.symm
 rw [hcb,shape_kd hP.c.1 hP.c.2,hk,se_ld_ain16 m full g.code g.imm hg hc hP.c.1 hP.c.2 i0 i1]
 exact box_acts (act_4 _ _ _ w (fun W=>mv_ld_ain16 W)) en_loadA_1 fun hb hx=>ldA_told g m full _ (fun W hi=>at_told g m full W hi hg i0 i1) i0 i1 _ _ (h.below hb) hg hx
theorem cl_push_Q (g:G) (m:M) (full:Bool) (w:World) (h:In g w m full) (hg:Stpq.Good m) (hP:Parts g) (hcb:g.cb=false) (hk:kd g.code=15) (i0:0<=g.imm) (i1:g.imm<=65535):Acts g w (Shape.shape g.code g.cb) (sem g.code g.cb g.imm ⟨m,full⟩).1:=by
 have hp:=hP.pt
 obtain ⟨k,hkk⟩:=fin_of hP.c.1 hP.c.2
 have hc:=ar_push_Q k (by rw [hkk];exact hk) g.code hkk.symm
 rw [hcb,shape_kd hP.c.1 hP.c.2,hk,se_push_Q m full g.code g.imm hg hc hP.c.1 hP.c.2 i0 i1]
 rw [<- hP.p]
 exact plain_acts (act_0 _ _ w (fun W=>mv_push_Q W)) en_moveOf_5 (mvPush g m full w h hg hp)
theorem cl_pop_Q (g:G) (m:M) (full:Bool) (w:World) (h:In g w m full) (hg:Stpq.Good m) (hP:Parts g) (hcb:g.cb=false) (hk:kd g.code=16) (i0:0<=g.imm) (i1:g.imm<=65535):Acts g w (Shape.shape g.code g.cb) (sem g.code g.cb g.imm ⟨m,full⟩).1:=by
 have hp:=hP.pt
 obtain ⟨k,hkk⟩:=fin_of hP.c.1 hP.c.2
 have hc:=ar_pop_Q k (by rw [hkk];exact hk) g.code hkk.symm
 rw [hcb,shape_kd hP.c.1 hP.c.2,hk,se_pop_Q m full g.code g.imm hg hc hP.c.1 hP.c.2 i0 i1]
 rw [<- hP.p]
 exact plain_acts (act_0 _ _ w (fun W=>mv_pop_Q W)) en_popPair (mvPop g m full w h hg hp)
theorem cl_A_aS (g:G) (m:M) (full:Bool) (w:World) (h:In g w m full) (hg:Stpq.Good m) (hP:Parts g) (hcb:g.cb=false) (hk:kd g.code=17) (i0:0<=g.imm) (i1:g.imm<=65535):Acts g w (Shape.shape g.code g.cb) (sem g.code g.cb g.imm ⟨m,full⟩).1:=by
 have hp:=hP.pt
 obtain ⟨k,hkk⟩:=fin_of hP.c.1 hP.c.2
 have hc:=ar_A_aS k (by rw [hkk];exact hk) g.code hkk.symm
 rw [hcb,shape_kd hP.c.1 hP.c.2,hk,se_A_aS m full g.code g.imm hg hc hP.c.1 hP.c.2 i0 i1]
 rw [<- hP.y]
 rw [<- hP.z]
 exact plain_acts (act_1 _ _ w (fun W=>mn_A_aS W) (fun W=>rk_A_aS W)) en_reckoningOf_1 (rk1 g m full w h hg hp)
theorem cl_A_an8 (g:G) (m:M) (full:Bool) (w:World) (h:In g w m full) (hg:Stpq.Good m) (hP:Parts g) (hcb:g.cb=false) (hk:kd g.code=18) (i0:0<=g.imm) (i1:g.imm<=65535) (ib:g.imm<=255):Acts g w (Shape.shape g.code g.cb) (sem g.code g.cb g.imm ⟨m,full⟩).1:=by
 have hp:=hP.pt
 obtain ⟨k,hkk⟩:=fin_of hP.c.1 hP.c.2
 have hc:=ar_A_an8 k (by rw [hkk];exact hk) g.code hkk.symm
 rw [hcb,shape_kd hP.c.1 hP.c.2,hk,se_A_an8 m full g.code g.imm hg hc hP.c.1 hP.c.2 i0 i1]
 rw [<- hP.y]
 exact plain_acts (act_1 _ _ w (fun W=>mn_A_an8 W) (fun W=>rk_A_an8 W)) en_reckoningOf_2 (rk2 g m full i0 ib w h hg hp)
theorem cl_inc_R (g:G) (m:M) (full:Bool) (w:World) (h:In g w m full) (hg:Stpq.Good m) (hP:Parts g) (hcb:g.cb=false) (hk:kd g.code=19) (i0:0<=g.imm) (i1:g.imm<=65535):Acts g w (Shape.shape g.code g.cb) (sem g.code g.cb g.imm ⟨m,full⟩).1:=by
 have hp:=hP.pt
 obtain ⟨k,hkk⟩:=fin_of hP.c.1 hP.c.2
 have hc:=ar_inc_R k (by rw [hkk];exact hk) g.code hkk.symm
 rw [hcb,shape_kd hP.c.1 hP.c.2,hk,se_inc_R m full g.code g.imm hg hc hP.c.1 hP.c.2 i0 i1]
 rw [<- hP.y]
 exact plain_acts (act_1 _ _ w (fun W=>mn_inc_R W) (fun W=>rk_inc_R W)) en_reckoningOf_3 (rk3 g m full w h hg hp)
theorem cl_dec_R (g:G) (m:M) (full:Bool) (w:World) (h:In g w m full) (hg:Stpq.Good m) (hP:Parts g) (hcb:g.cb=false) (hk:kd g.code=20) (i0:0<=g.imm) (i1:g.imm<=65535):Acts g w (Shape.shape g.code g.cb) (sem g.code g.cb g.imm ⟨m,full⟩).1:=by
 have hp:=hP.pt
 obtain ⟨k,hkk⟩:=fin_of hP.c.1 hP.c.2
 have hc:=ar_dec_R k (by rw [hkk];exact hk) g.code hkk.symm
 rw [hcb,shape_kd hP.c.1 hP.c.2,hk,se_dec_R m full g.code g.imm hg hc hP.c.1 hP.c.2 i0 i1]
 rw [<- hP.y]
 exact plain_acts (act_1 _ _ w (fun W=>mn_dec_R W) (fun W=>rk_dec_R W)) en_reckoningOf_4 (rk4 g m full w h hg hp)
theorem cl_inc_P (g:G) (m:M) (full:Bool) (w:World) (h:In g w m full) (hg:Stpq.Good m) (hP:Parts g) (hcb:g.cb=false) (hk:kd g.code=21) (i0:0<=g.imm) (i1:g.imm<=65535):Acts g w (Shape.shape g.code g.cb) (sem g.code g.cb g.imm ⟨m,full⟩).1:=by
 have hp:=hP.pt
 obtain ⟨k,hkk⟩:=fin_of hP.c.1 hP.c.2
 have hc:=ar_inc_P k (by rw [hkk];exact hk) g.code hkk.symm
 rw [hcb,shape_kd hP.c.1 hP.c.2,hk,se_inc_P m full g.code g.imm hg hc hP.c.1 hP.c.2 i0 i1]
 rw [<- hP.p]
 exact plain_acts (act_1 _ _ w (fun W=>mn_inc_P W) (fun W=>rk_inc_P W)) en_reckoningOf_5 (rk5 g m full w h hg hp)
theorem cl_dec_P (g:G) (m:M) (full:Bool) (w:World) (h:In g w m full) (hg:Stpq.Good m) (hP:Parts g) (hcb:g.cb=false) (hk:kd g.code=22) (i0:0<=g.imm) (i1:g.imm<=65535):Acts g w (Shape.shape g.code g.cb) (sem g.code g.cb g.imm ⟨m,full⟩).1:=by
 have hp:=hP.pt
 obtain ⟨k,hkk⟩:=fin_of hP.c.1 hP.c.2
 have hc:=ar_dec_P k (by rw [hkk];exact hk) g.code hkk.symm
 rw [hcb,shape_kd hP.c.1 hP.c.2,hk,se_dec_P m full g.code g.imm hg hc hP.c.1 hP.c.2 i0 i1]
 rw [<- hP.p]
 exact plain_acts (act_1 _ _ w (fun W=>mn_dec_P W) (fun W=>rk_dec_P W)) en_reckoningOf_6 (rk6 g m full w h hg hp)
theorem cl_add_hlP (g:G) (m:M) (full:Bool) (w:World) (h:In g w m full) (hg:Stpq.Good m) (hP:Parts g) (hcb:g.cb=false) (hk:kd g.code=23) (i0:0<=g.imm) (i1:g.imm<=65535):Acts g w (Shape.shape g.code g.cb) (sem g.code g.cb g.imm ⟨m,full⟩).1:=by
 have hp:=hP.pt
 obtain ⟨k,hkk⟩:=fin_of hP.c.1 hP.c.2
 have hc:=ar_add_hlP k (by rw [hkk];exact hk) g.code hkk.symm
 rw [hcb,shape_kd hP.c.1 hP.c.2,hk,se_add_hlP m full g.code g.imm hg hc hP.c.1 hP.c.2 i0 i1]
 rw [<- hP.p]
 exact plain_acts (act_1 _ _ w (fun W=>mn_add_hlP W) (fun W=>rk_add_hlP W)) en_addToHl (rkAdd g m full w h hg hp)
theorem cl_add_spe8 (g:G) (m:M) (full:Bool) (w:World) (h:In g w m full) (hg:Stpq.Good m) (hP:Parts g) (hcb:g.cb=false) (hk:kd g.code=24) (i0:0<=g.imm) (i1:g.imm<=65535) (ib:g.imm<=255):Acts g w (Shape.shape g.code g.cb) (sem g.code g.cb g.imm ⟨m,full⟩).1:=by
 have hp:=hP.pt
 obtain ⟨k,hkk⟩:=fin_of hP.c.1 hP.c.2
 have hc:=ar_add_spe8 k (by rw [hkk];exact hk) g.code hkk.symm
 rw [hcb,shape_kd hP.c.1 hP.c.2,hk,se_add_spe8 m full g.code g.imm hg hc hP.c.1 hP.c.2 i0 i1]
 exact plain_acts (act_1 _ _ w (fun W=>mn_add_spe8 W) (fun W=>rk_add_spe8 W)) en_reckoningOf_7 (rk7 g m full i0 ib w h hg hp)
theorem cl_rlca (g:G) (m:M) (full:Bool) (w:World) (h:In g w m full) (hg:Stpq.Good m) (hP:Parts g) (hcb:g.cb=false) (hk:kd g.code=25) (i0:0<=g.imm) (i1:g.imm<=65535):Acts g w (Shape.shape g.code g.cb) (sem g.code g.cb g.imm ⟨m,full⟩).1:=by
 have hp:=hP.pt
 obtain ⟨k,hkk⟩:=fin_of hP.c.1 hP.c.2
 have hc:=ar_rlca k (by rw [hkk];exact hk) g.code hkk.symm
 rw [hcb,shape_kd hP.c.1 hP.c.2,hk,se_rlca m full g.code g.imm hg hc hP.c.1 hP.c.2 i0 i1]
 rw [<- hP.y]
 exact plain_acts (act_1 _ _ w (fun W=>mn_rlca W) (fun W=>rk_rlca W)) en_turnA (rkTurnA g m full w h hg hp)
theorem cl_rrca (g:G) (m:M) (full:Bool) (w:World) (h:In g w m full) (hg:Stpq.Good m) (hP:Parts g) (hcb:g.cb=false) (hk:kd g.code=26) (i0:0<=g.imm) (i1:g.imm<=65535):Acts g w (Shape.shape g.code g.cb) (sem g.code g.cb g.imm ⟨m,full⟩).1:=by
 have hp:=hP.pt
 obtain ⟨k,hkk⟩:=fin_of hP.c.1 hP.c.2
 have hc:=ar_rrca k (by rw [hkk];exact hk) g.code hkk.symm
 rw [hcb,shape_kd hP.c.1 hP.c.2,hk,se_rrca m full g.code g.imm hg hc hP.c.1 hP.c.2 i0 i1]
 rw [<- hP.y]
 exact plain_acts (act_1 _ _ w (fun W=>mn_rrca W) (fun W=>rk_rrca W)) en_turnA (rkTurnA g m full w h hg hp)
theorem cl_rla (g:G) (m:M) (full:Bool) (w:World) (h:In g w m full) (hg:Stpq.Good m) (hP:Parts g) (hcb:g.cb=false) (hk:kd g.code=27) (i0:0<=g.imm) (i1:g.imm<=65535):Acts g w (Shape.shape g.code g.cb) (sem g.code g.cb g.imm ⟨m,full⟩).1:=by
 have hp:=hP.pt
 obtain ⟨k,hkk⟩:=fin_of hP.c.1 hP.c.2
 have hc:=ar_rla k (by rw [hkk];exact hk) g.code hkk.symm
 rw [hcb,shape_kd hP.c.1 hP.c.2,hk,se_rla m full g.code g.imm hg hc hP.c.1 hP.c.2 i0 i1]
 rw [<- hP.y]
 exact plain_acts (act_1 _ _ w (fun W=>mn_rla W) (fun W=>rk_rla W)) en_turnA (rkTurnA g m full w h hg hp)
theorem cl_rra (g:G) (m:M) (full:Bool) (w:World) (h:In g w m full) (hg:Stpq.Good m) (hP:Parts g) (hcb:g.cb=false) (hk:kd g.code=28) (i0:0<=g.imm) (i1:g.imm<=65535):Acts g w (Shape.shape g.code g.cb) (sem g.code g.cb g.imm ⟨m,full⟩).1:=by
 have hp:=hP.pt
 obtain ⟨k,hkk⟩:=fin_of hP.c.1 hP.c.2
 have hc:=ar_rra k (by rw [hkk];exact hk) g.code hkk.symm
 rw [hcb,shape_kd hP.c.1 hP.c.2,hk,se_rra m full g.code g.imm hg hc hP.c.1 hP.c.2 i0 i1]
 rw [<- hP.y]
 exact plain_acts (act_1 _ _ w (fun W=>mn_rra W) (fun W=>rk_rra W)) en_turnA (rkTurnA g m full w h hg hp)
theorem cl_daa (g:G) (m:M) (full:Bool) (w:World) (h:In g w m full) (hg:Stpq.Good m) (hP:Parts g) (hcb:g.cb=false) (hk:kd g.code=29) (i0:0<=g.imm) (i1:g.imm<=65535):Acts g w (Shape.shape g.code g.cb) (sem g.code g.cb g.imm ⟨m,full⟩).1:=by
 have hp:=hP.pt
 obtain ⟨k,hkk⟩:=fin_of hP.c.1 hP.c.2
 have hc:=ar_daa k (by rw [hkk];exact hk) g.code hkk.symm
 rw [hcb,shape_kd hP.c.1 hP.c.2,hk,se_daa m full g.code g.imm hg hc hP.c.1 hP.c.2 i0 i1]
 exact plain_acts (act_1 _ _ w (fun W=>mn_daa W) (fun W=>rk_daa W)) en_reckoningOf_8 (rk8 g m full w h hg hp)
theorem cl_cpl (g:G) (m:M) (full:Bool) (w:World) (h:In g w m full) (hg:Stpq.Good m) (hP:Parts g) (hcb:g.cb=false) (hk:kd g.code=30) (i0:0<=g.imm) (i1:g.imm<=65535):Acts g w (Shape.shape g.code g.cb) (sem g.code g.cb g.imm ⟨m,full⟩).1:=by
 have hp:=hP.pt
 obtain ⟨k,hkk⟩:=fin_of hP.c.1 hP.c.2
 have hc:=ar_cpl k (by rw [hkk];exact hk) g.code hkk.symm
 rw [hcb,shape_kd hP.c.1 hP.c.2,hk,se_cpl m full g.code g.imm hg hc hP.c.1 hP.c.2 i0 i1]
 exact plain_acts (act_1 _ _ w (fun W=>mn_cpl W) (fun W=>rk_cpl W)) en_turnBits (rkCpl g m full w h hg hp)
theorem cl_scf (g:G) (m:M) (full:Bool) (w:World) (h:In g w m full) (hg:Stpq.Good m) (hP:Parts g) (hcb:g.cb=false) (hk:kd g.code=31) (i0:0<=g.imm) (i1:g.imm<=65535):Acts g w (Shape.shape g.code g.cb) (sem g.code g.cb g.imm ⟨m,full⟩).1:=by
 have hp:=hP.pt
 obtain ⟨k,hkk⟩:=fin_of hP.c.1 hP.c.2
 have hc:=ar_scf k (by rw [hkk];exact hk) g.code hkk.symm
 rw [hcb,shape_kd hP.c.1 hP.c.2,hk,se_scf m full g.code g.imm hg hc hP.c.1 hP.c.2 i0 i1]
 exact plain_acts (act_1 _ _ w (fun W=>mn_scf W) (fun W=>rk_scf W)) en_reckoningOf_9 (rk9 g m full w h hg hp)
theorem cl_ccf (g:G) (m:M) (full:Bool) (w:World) (h:In g w m full) (hg:Stpq.Good m) (hP:Parts g) (hcb:g.cb=false) (hk:kd g.code=32) (i0:0<=g.imm) (i1:g.imm<=65535):Acts g w (Shape.shape g.code g.cb) (sem g.code g.cb g.imm ⟨m,full⟩).1:=by
 have hp:=hP.pt
 obtain ⟨k,hkk⟩:=fin_of hP.c.1 hP.c.2
 have hc:=ar_ccf k (by rw [hkk];exact hk) g.code hkk.symm
 rw [hcb,shape_kd hP.c.1 hP.c.2,hk,se_ccf m full g.code g.imm hg hc hP.c.1 hP.c.2 i0 i1]
 exact plain_acts (act_1 _ _ w (fun W=>mn_ccf W) (fun W=>rk_ccf W)) en_reckoningOf_10 (rk10 g m full w h hg hp)
theorem cl_jr_e8 (g:G) (m:M) (full:Bool) (w:World) (h:In g w m full) (hg:Stpq.Good m) (hP:Parts g) (hcb:g.cb=false) (hk:kd g.code=33) (i0:0<=g.imm) (i1:g.imm<=65535):Acts g w (Shape.shape g.code g.cb) (sem g.code g.cb g.imm ⟨m,full⟩).1:=by
 have hp:=hP.pt
 obtain ⟨k,hkk⟩:=fin_of hP.c.1 hP.c.2
 have hc:=ar_jr_e8 k (by rw [hkk];exact hk) g.code hkk.symm
 rw [hcb,shape_kd hP.c.1 hP.c.2,hk,se_jr_e8 m full g.code g.imm hg hc hP.c.1 hP.c.2 i0 i1]
 exact plain_acts (act_2 _ _ w (fun W=>mn_jr_e8 W) (fun W=>rn_jr_e8 W) (fun W=>jp_jr_e8 W)) en_jumpOf_1 (jp1 g m full w h hg hp)
theorem cl_jr_Ce8 (g:G) (m:M) (full:Bool) (w:World) (h:In g w m full) (hg:Stpq.Good m) (hP:Parts g) (hcb:g.cb=false) (hk:kd g.code=34) (i0:0<=g.imm) (i1:g.imm<=65535) (hm:cond m (g.code / 8%8%4)=true):Acts g w (Shape.shape g.code g.cb) (sem g.code g.cb g.imm ⟨m,full⟩).1:=by
 have hp:=hP.pt
 obtain ⟨k,hkk⟩:=fin_of hP.c.1 hP.c.2
 have hc:=ar_jr_Ce8 k (by rw [hkk];exact hk) g.code hkk.symm
 rw [hcb,shape_kd hP.c.1 hP.c.2,hk,se_jr_Ce8 m full g.code g.imm hg hc hP.c.1 hP.c.2 i0 i1 hm]
 exact plain_acts (act_2 _ _ w (fun W=>mn_jr_Ce8 W) (fun W=>rn_jr_Ce8 W) (fun W=>jp_jr_Ce8 W)) en_jumpOf_1 (jp1 g m full w h hg hp)
theorem cl_jp_n16 (g:G) (m:M) (full:Bool) (w:World) (h:In g w m full) (hg:Stpq.Good m) (hP:Parts g) (hcb:g.cb=false) (hk:kd g.code=35) (i0:0<=g.imm) (i1:g.imm<=65535):Acts g w (Shape.shape g.code g.cb) (sem g.code g.cb g.imm ⟨m,full⟩).1:=by
 have hp:=hP.pt
 obtain ⟨k,hkk⟩:=fin_of hP.c.1 hP.c.2
 have hc:=ar_jp_n16 k (by rw [hkk];exact hk) g.code hkk.symm
 rw [hcb,shape_kd hP.c.1 hP.c.2,hk,se_jp_n16 m full g.code g.imm hg hc hP.c.1 hP.c.2 i0 i1]
 exact plain_acts (act_2 _ _ w (fun W=>mn_jp_n16 W) (fun W=>rn_jp_n16 W) (fun W=>jp_jp_n16 W)) en_jumpOf_2 (jp2 g m full w h hg hp)
theorem cl_jp_Cn16 (g:G) (m:M) (full:Bool) (w:World) (h:In g w m full) (hg:Stpq.Good m) (hP:Parts g) (hcb:g.cb=false) (hk:kd g.code=36) (i0:0<=g.imm) (i1:g.imm<=65535) (hm:cond m (g.code / 8%8%4)=true):Acts g w (Shape.shape g.code g.cb) (sem g.code g.cb g.imm ⟨m,full⟩).1:=by
 have hp:=hP.pt
 obtain ⟨k,hkk⟩:=fin_of hP.c.1 hP.c.2
 have hc:=ar_jp_Cn16 k (by rw [hkk];exact hk) g.code hkk.symm
 rw [hcb,shape_kd hP.c.1 hP.c.2,hk,se_jp_Cn16 m full g.code g.imm hg hc hP.c.1 hP.c.2 i0 i1 hm]
 exact plain_acts (act_2 _ _ w (fun W=>mn_jp_Cn16 W) (fun W=>rn_jp_Cn16 W) (fun W=>jp_jp_Cn16 W)) en_jumpOf_2 (jp2 g m full w h hg hp)
theorem cl_jp_hl (g:G) (m:M) (full:Bool) (w:World) (h:In g w m full) (hg:Stpq.Good m) (hP:Parts g) (hcb:g.cb=false) (hk:kd g.code=37) (i0:0<=g.imm) (i1:g.imm<=65535):Acts g w (Shape.shape g.code g.cb) (sem g.code g.cb g.imm ⟨m,full⟩).1:=by
 have hp:=hP.pt
 obtain ⟨k,hkk⟩:=fin_of hP.c.1 hP.c.2
 have hc:=ar_jp_hl k (by rw [hkk];exact hk) g.code hkk.symm
 rw [hcb,shape_kd hP.c.1 hP.c.2,hk,se_jp_hl m full g.code g.imm hg hc hP.c.1 hP.c.2 i0 i1]
 exact plain_acts (act_2 _ _ w (fun W=>mn_jp_hl W) (fun W=>rn_jp_hl W) (fun W=>jp_jp_hl W)) en_jumpOf_3 (jp3 g m full w h hg hp)
theorem cl_call_n16 (g:G) (m:M) (full:Bool) (w:World) (h:In g w m full) (hg:Stpq.Good m) (hP:Parts g) (hcb:g.cb=false) (hk:kd g.code=38) (i0:0<=g.imm) (i1:g.imm<=65535):Acts g w (Shape.shape g.code g.cb) (sem g.code g.cb g.imm ⟨m,full⟩).1:=by
 have hp:=hP.pt
 obtain ⟨k,hkk⟩:=fin_of hP.c.1 hP.c.2
 have hc:=ar_call_n16 k (by rw [hkk];exact hk) g.code hkk.symm
 rw [hcb,shape_kd hP.c.1 hP.c.2,hk,se_call_n16 m full g.code g.imm hg hc hP.c.1 hP.c.2 i0 i1]
 exact plain_acts (act_2 _ _ w (fun W=>mn_call_n16 W) (fun W=>rn_call_n16 W) (fun W=>jp_call_n16 W)) en_jumpOf_4 (jp4 g m full w h hg hp)
theorem cl_call_Cn16 (g:G) (m:M) (full:Bool) (w:World) (h:In g w m full) (hg:Stpq.Good m) (hP:Parts g) (hcb:g.cb=false) (hk:kd g.code=39) (i0:0<=g.imm) (i1:g.imm<=65535) (hm:cond m (g.code / 8%8%4)=true):Acts g w (Shape.shape g.code g.cb) (sem g.code g.cb g.imm ⟨m,full⟩).1:=by
 have hp:=hP.pt
 obtain ⟨k,hkk⟩:=fin_of hP.c.1 hP.c.2
 have hc:=ar_call_Cn16 k (by rw [hkk];exact hk) g.code hkk.symm
 rw [hcb,shape_kd hP.c.1 hP.c.2,hk,se_call_Cn16 m full g.code g.imm hg hc hP.c.1 hP.c.2 i0 i1 hm]
 exact plain_acts (act_2 _ _ w (fun W=>mn_call_Cn16 W) (fun W=>rn_call_Cn16 W) (fun W=>jp_call_Cn16 W)) en_jumpOf_4 (jp4 g m full w h hg hp)
theorem cl_rst_H (g:G) (m:M) (full:Bool) (w:World) (h:In g w m full) (hg:Stpq.Good m) (hP:Parts g) (hcb:g.cb=false) (hk:kd g.code=40) (i0:0<=g.imm) (i1:g.imm<=65535):Acts g w (Shape.shape g.code g.cb) (sem g.code g.cb g.imm ⟨m,full⟩).1:=by
 have hp:=hP.pt
 obtain ⟨k,hkk⟩:=fin_of hP.c.1 hP.c.2
 have hc:=ar_rst_H k (by rw [hkk];exact hk) g.code hkk.symm
 rw [hcb,shape_kd hP.c.1 hP.c.2,hk,se_rst_H m full g.code g.imm hg hc hP.c.1 hP.c.2 i0 i1]
 rw [<- hP.y]
 exact plain_acts (act_2 _ _ w (fun W=>mn_rst_H W) (fun W=>rn_rst_H W) (fun W=>jp_rst_H W)) en_jumpOf_5 (jp5 g m full w h hg hp)
theorem cl_ret (g:G) (m:M) (full:Bool) (w:World) (h:In g w m full) (hg:Stpq.Good m) (hP:Parts g) (hcb:g.cb=false) (hk:kd g.code=41) (i0:0<=g.imm) (i1:g.imm<=65535):Acts g w (Shape.shape g.code g.cb) (sem g.code g.cb g.imm ⟨m,full⟩).1:=by
 have hp:=hP.pt
 obtain ⟨k,hkk⟩:=fin_of hP.c.1 hP.c.2
 have hc:=ar_ret k (by rw [hkk];exact hk) g.code hkk.symm
 rw [hcb,shape_kd hP.c.1 hP.c.2,hk,se_ret m full g.code g.imm hg hc hP.c.1 hP.c.2 i0 i1]
 exact plain_acts (act_2 _ _ w (fun W=>mn_ret W) (fun W=>rn_ret W) (fun W=>jp_ret W)) en_jumpOf_6 (jp6 g m full w h hg hp)
theorem cl_ret_C (g:G) (m:M) (full:Bool) (w:World) (h:In g w m full) (hg:Stpq.Good m) (hP:Parts g) (hcb:g.cb=false) (hk:kd g.code=42) (i0:0<=g.imm) (i1:g.imm<=65535) (hm:cond m (g.code / 8%8%4)=true):Acts g w (Shape.shape g.code g.cb) (sem g.code g.cb g.imm ⟨m,full⟩).1:=by
 have hp:=hP.pt
 obtain ⟨k,hkk⟩:=fin_of hP.c.1 hP.c.2
 have hc:=ar_ret_C k (by rw [hkk];exact hk) g.code hkk.symm
 rw [hcb,shape_kd hP.c.1 hP.c.2,hk,se_ret_C m full g.code g.imm hg hc hP.c.1 hP.c.2 i0 i1 hm]
 exact plain_acts (act_2 _ _ w (fun W=>mn_ret_C W) (fun W=>rn_ret_C W) (fun W=>jp_ret_C W)) en_jumpOf_6 (jp6 g m full w h hg hp)
theorem cl_reti (g:G) (m:M) (full:Bool) (w:World) (h:In g w m full) (hg:Stpq.Good m) (hP:Parts g) (hcb:g.cb=false) (hk:kd g.code=43) (i0:0<=g.imm) (i1:g.imm<=65535):Acts g w (Shape.shape g.code g.cb) (sem g.code g.cb g.imm ⟨m,full⟩).1:=by
 have hp:=hP.pt
 obtain ⟨k,hkk⟩:=fin_of hP.c.1 hP.c.2
 have hc:=ar_reti k (by rw [hkk];exact hk) g.code hkk.symm
 rw [hcb,shape_kd hP.c.1 hP.c.2,hk,se_reti m full g.code g.imm hg hc hP.c.1 hP.c.2 i0 i1]
 exact plain_acts (act_2 _ _ w (fun W=>mn_reti W) (fun W=>rn_reti W) (fun W=>jp_reti W)) en_jumpOf_7 (jp7 g m full w h hg hp)
theorem cl_di (g:G) (m:M) (full:Bool) (w:World) (h:In g w m full) (hg:Stpq.Good m) (hP:Parts g) (hcb:g.cb=false) (hk:kd g.code=44) (i0:0<=g.imm) (i1:g.imm<=65535):Acts g w (Shape.shape g.code g.cb) (sem g.code g.cb g.imm ⟨m,full⟩).1:=by
 have hp:=hP.pt
 obtain ⟨k,hkk⟩:=fin_of hP.c.1 hP.c.2
 have hc:=ar_di k (by rw [hkk];exact hk) g.code hkk.symm
 rw [hcb,shape_kd hP.c.1 hP.c.2,hk,se_di m full g.code g.imm hg hc hP.c.1 hP.c.2 i0 i1]
 exact plain_acts (act_2 _ _ w (fun W=>mn_di W) (fun W=>rn_di W) (fun W=>jp_di W)) en_jumpOf_8 (jp8 g m full w h hg hp)
theorem cl_ei (g:G) (m:M) (full:Bool) (w:World) (h:In g w m full) (hg:Stpq.Good m) (hP:Parts g) (hcb:g.cb=false) (hk:kd g.code=45) (i0:0<=g.imm) (i1:g.imm<=65535):Acts g w (Shape.shape g.code g.cb) (sem g.code g.cb g.imm ⟨m,full⟩).1:=by
 have hp:=hP.pt
 obtain ⟨k,hkk⟩:=fin_of hP.c.1 hP.c.2
 have hc:=ar_ei k (by rw [hkk];exact hk) g.code hkk.symm
 rw [hcb,shape_kd hP.c.1 hP.c.2,hk,se_ei m full g.code g.imm hg hc hP.c.1 hP.c.2 i0 i1]
 exact plain_acts (act_2 _ _ w (fun W=>mn_ei W) (fun W=>rn_ei W) (fun W=>jp_ei W)) en_jumpOf_9 (jp9 g m full w h hg hp)
theorem cl_halt (g:G) (m:M) (full:Bool) (w:World) (h:In g w m full) (hg:Stpq.Good m) (hP:Parts g) (hcb:g.cb=false) (hk:kd g.code=46) (i0:0<=g.imm) (i1:g.imm<=65535):Acts g w (Shape.shape g.code g.cb) (sem g.code g.cb g.imm ⟨m,full⟩).1:=by
 have hp:=hP.pt
 obtain ⟨k,hkk⟩:=fin_of hP.c.1 hP.c.2
 have hc:=ar_halt k (by rw [hkk];exact hk) g.code hkk.symm
 rw [hcb,shape_kd hP.c.1 hP.c.2,hk,se_halt m full g.code g.imm hg hc hP.c.1 hP.c.2 i0 i1]
 exact plain_acts (act_2 _ _ w (fun W=>mn_halt W) (fun W=>rn_halt W) (fun W=>jp_halt W)) en_jumpOf_10 (jp10 g m full w h hg hp)
theorem cl_nop (g:G) (m:M) (full:Bool) (w:World) (h:In g w m full) (hg:Stpq.Good m) (hP:Parts g) (hcb:g.cb=false) (hk:kd g.code=47) (i0:0<=g.imm) (i1:g.imm<=65535):Acts g w (Shape.shape g.code g.cb) (sem g.code g.cb g.imm ⟨m,full⟩).1:=by
 have hp:=hP.pt
 obtain ⟨k,hkk⟩:=fin_of hP.c.1 hP.c.2
 have hc:=ar_nop k (by rw [hkk];exact hk) g.code hkk.symm
 rw [hcb,shape_kd hP.c.1 hP.c.2,hk,se_nop m full g.code g.imm hg hc hP.c.1 hP.c.2 i0 i1]
 exact plain_acts (act_3 _ w (fun W=>mn_nop W) (fun W=>rn_nop W) (fun W=>jn_nop W)) en_doNothing (nothing g m full w h hg hp)
theorem cl_stop_n8 (g:G) (m:M) (full:Bool) (w:World) (h:In g w m full) (hg:Stpq.Good m) (hP:Parts g) (hcb:g.cb=false) (hk:kd g.code=48) (i0:0<=g.imm) (i1:g.imm<=65535):Acts g w (Shape.shape g.code g.cb) (sem g.code g.cb g.imm ⟨m,full⟩).1:=by
 have hp:=hP.pt
 obtain ⟨k,hkk⟩:=fin_of hP.c.1 hP.c.2
 have hc:=ar_stop_n8 k (by rw [hkk];exact hk) g.code hkk.symm
 rw [hcb,shape_kd hP.c.1 hP.c.2,hk,se_stop_n8 m full g.code g.imm hg hc hP.c.1 hP.c.2 i0 i1]
 exact plain_acts (act_3 _ w (fun W=>mn_stop_n8 W) (fun W=>rn_stop_n8 W) (fun W=>jn_stop_n8 W)) en_doNothing (nothing g m full w h hg hp)
theorem cl_turn (g:G) (m:M) (full:Bool) (w:World) (h:In g w m full) (hg:Stpq.Good m) (hP:Parts g) (hcb:g.cb=true) (hx:g.code / 64=0):Acts g w (Shape.shape g.code g.cb) (sem g.code g.cb g.imm ⟨m,full⟩).1:=by
 have hp:=hP.pt
 have e1:Shape.shape g.code true=⟨#[84,32,83]⟩:=by
  unfold Shape.shape
  rw [show inB g.code 0 255=true from decide_eq_true hP.c,if_pos rfl]
  exact Shape.shapeR_c0 hx
 have e2:(sem g.code true g.imm ⟨m,full⟩).1=F (put ⟨m,full⟩ g.z (trnR g.y (Stpp.get m g.z) m.rf).1) (trnR g.y (Stpp.get m g.z) m.rf).2:=by
  unfold sem
  rw [if_pos rfl]
  show cbE g.code ⟨m,full⟩=_
  unfold cbE
  rw [if_pos hx,hP.y,hP.z]
 rw [hcb,e1,e2]
 exact plain_acts (act_1 _ _ w (fun W=>mn_T_S W) (fun W=>rk_T_S W)) en_turnRegister (rkTurn g m full w h hg hp)
theorem cl_bit1 (g:G) (m:M) (full:Bool) (w:World) (h:In g w m full) (hg:Stpq.Good m) (hP:Parts g) (hcb:g.cb=true) (hx:g.code / 64=1):Acts g w (Shape.shape g.code g.cb) (sem g.code g.cb g.imm ⟨m,full⟩).1:=by
 have hp:=hP.pt
 have e1:Shape.shape g.code true=⟨#[66,32,89,44,83]⟩:=by
  unfold Shape.shape
  rw [show inB g.code 0 255=true from decide_eq_true hP.c,if_pos rfl]
  exact Shape.shapeR_c1 (by omega)
 have e2:(sem g.code true g.imm ⟨m,full⟩).1=(⟨{ m with rf:=bits .or .i64 (bits .or .i64 (chz (decide (bits .and .i64 (Stpp.get m g.z) (bitV g.y)=0)) 128 0) 32) (bits .and .i64 m.rf 16) },full⟩ : S):=by
  unfold sem
  rw [if_pos rfl]
  show cbE g.code ⟨m,full⟩=_
  unfold cbE
  rw [if_neg (by omega),if_pos hx,bit_flags _ hg.f hg.f16,hP.y,hP.z]
  rfl
 rw [hcb,e1,e2]
 exact plain_acts (act_1 _ _ w (fun W=>mn_B_YS W) (fun W=>rk_B_YS W)) en_bitOf (bit_1 g m full (by rw [hP.x];exact hx) w h hg hp)
theorem cl_bit2 (g:G) (m:M) (full:Bool) (w:World) (h:In g w m full) (hg:Stpq.Good m) (hP:Parts g) (hcb:g.cb=true) (hx:g.code / 64=2):Acts g w (Shape.shape g.code g.cb) (sem g.code g.cb g.imm ⟨m,full⟩).1:=by
 have hp:=hP.pt
 have e1:Shape.shape g.code true=⟨#[66,32,89,44,83]⟩:=by
  unfold Shape.shape
  rw [show inB g.code 0 255=true from decide_eq_true hP.c,if_pos rfl]
  exact Shape.shapeR_c1 (by omega)
 have e2:(sem g.code true g.imm ⟨m,full⟩).1=put ⟨m,full⟩ g.z (bits .andNot .i64 (Stpp.get m g.z) (bitV g.y)):=by
  unfold sem
  rw [if_pos rfl]
  show cbE g.code ⟨m,full⟩=_
  unfold cbE
  rw [if_neg (by omega),if_neg (by omega),if_pos hx,hP.y,hP.z]
 rw [hcb,e1,e2]
 exact plain_acts (act_1 _ _ w (fun W=>mn_B_YS W) (fun W=>rk_B_YS W)) en_bitOf (bit_2 g m full (by rw [hP.x];exact hx) w h hg hp)
theorem cl_bit3 (g:G) (m:M) (full:Bool) (w:World) (h:In g w m full) (hg:Stpq.Good m) (hP:Parts g) (hcb:g.cb=true) (hx:g.code / 64=3):Acts g w (Shape.shape g.code g.cb) (sem g.code g.cb g.imm ⟨m,full⟩).1:=by
 have hp:=hP.pt
 have e1:Shape.shape g.code true=⟨#[66,32,89,44,83]⟩:=by
  unfold Shape.shape
  rw [show inB g.code 0 255=true from decide_eq_true hP.c,if_pos rfl]
  exact Shape.shapeR_c1 (by omega)
 have e2:(sem g.code true g.imm ⟨m,full⟩).1=put ⟨m,full⟩ g.z (bits .or .i64 (Stpp.get m g.z) (bitV g.y)):=by
  unfold sem
  rw [if_pos rfl]
  show cbE g.code ⟨m,full⟩=_
  unfold cbE
  rw [if_neg (by omega),if_neg (by omega),if_neg (by omega),hP.y,hP.z]
 rw [hcb,e1,e2]
 exact plain_acts (act_1 _ _ w (fun W=>mn_B_YS W) (fun W=>rk_B_YS W)) en_bitOf (bit_3 g m full (by rw [hP.x];exact hx) w h hg hp)
def hasC (c:Int) (cb:Bool):Bool:=!cb && (kd c == 34 || kd c == 36 || kd c == 39 || kd c == 42)
def met (c:Int) (cb:Bool) (f:Int):Bool:=!hasC c cb || decide (f / (if 1<c / 8%8%4 then 16 else 128)%2=c / 8%8%4%2)
theorem act_any (g:G) (m:M) (full:Bool) (w:World) (h:In g w m full) (hg:Stpq.Good m) (hP:Parts g) (hi:ImmOk g.code g.cb g.imm) (hs:Shape.shape g.code g.cb ≠ ⟨#[]⟩) (hm:met g.code g.cb m.rf=true):Acts g w (Shape.shape g.code g.cb) (sem g.code g.cb g.imm ⟨m,full⟩).1:=by
 cases hcb:g.cb with
 | true =>
  rw [<- hcb]
  have hc:=hP.c
  have hx:g.code / 64=0 \/ g.code / 64=1 \/ g.code / 64=2 \/ g.code / 64=3:=by omega
  rcases hx with hx|hx|hx|hx
  ·exact cl_turn g m full w h hg hP hcb hx
  ·exact cl_bit1 g m full w h hg hP hcb hx
  ·exact cl_bit2 g m full w h hg hP hcb hx
  ·exact cl_bit3 g m full w h hg hP hcb hx
 | false =>
  rw [hcb] at hi hm hs
  rw [<- hcb]
  rcases hi with hi|⟨i0,i1,i2,i3⟩
  ·cases hi
  obtain ⟨kk,hkk⟩:=fin_of hP.c.1 hP.c.2
  have hlt:=kd_lt kk
  rw [hkk] at hlt
  have hmet:hasC g.code false=true->cond m (g.code / 8%8%4)=true:=fun hh=>by
   unfold met at hm
   rw [hh] at hm
   exact hm
  have hcases:kd g.code=0 \/ kd g.code=1 \/ kd g.code=2 \/ kd g.code=3 \/ kd g.code=4 \/ kd g.code=5 \/ kd g.code=6 \/ kd g.code=7 \/ kd g.code=8 \/ kd g.code=9 \/ kd g.code=10 \/ kd g.code=11 \/ kd g.code=12 \/ kd g.code=13 \/ kd g.code=14 \/ kd g.code=15 \/ kd g.code=16 \/ kd g.code=17 \/ kd g.code=18 \/ kd g.code=19 \/ kd g.code=20 \/ kd g.code=21 \/ kd g.code=22 \/ kd g.code=23 \/ kd g.code=24 \/ kd g.code=25 \/ kd g.code=26 \/ kd g.code=27 \/ kd g.code=28 \/ kd g.code=29 \/ kd g.code=30 \/ kd g.code=31 \/ kd g.code=32 \/ kd g.code=33 \/ kd g.code=34 \/ kd g.code=35 \/ kd g.code=36 \/ kd g.code=37 \/ kd g.code=38 \/ kd g.code=39 \/ kd g.code=40 \/ kd g.code=41 \/ kd g.code=42 \/ kd g.code=43 \/ kd g.code=44 \/ kd g.code=45 \/ kd g.code=46 \/ kd g.code=47 \/ kd g.code=48:=by omega
  rcases hcases with hk|hk|hk|hk|hk|hk|hk|hk|hk|hk|hk|hk|hk|hk|hk|hk|hk|hk|hk|hk|hk|hk|hk|hk|hk|hk|hk|hk|hk|hk|hk|hk|hk|hk|hk|hk|hk|hk|hk|hk|hk|hk|hk|hk|hk|hk|hk|hk|hk
  ·exact absurd (by rw [shape_kd hP.c.1 hP.c.2,hk];rfl) hs
  ·exact cl_ld_RS g m full w h hg hP hcb hk i0 i1
  ·exact cl_ld_Rn8 g m full w h hg hP hcb hk i0 i1 (by have hc:=ar_ld_Rn8 kk (by rw [hkk];exact hk) g.code hkk.symm;exact i2 (by omega) (by omega) (by omega))
  ·exact cl_ld_Pn16 g m full w h hg hP hcb hk i0 i1
  ·exact cl_ld_sphl g m full w h hg hP hcb hk i0 i1
  ·exact cl_ld_in16sp g m full w h hg hP hcb hk i0 i1
  ·exact cl_ld_hlspe8 g m full w h hg hP hcb hk i0 i1 (by have hc:=ar_ld_hlspe8 kk (by rw [hkk];exact hk) g.code hkk.symm;exact i3 (by omega))
  ·exact cl_ld_Ma g m full w h hg hP hcb hk i0 i1
  ·exact cl_ld_aM g m full w h hg hP hcb hk i0 i1
  ·exact cl_ldh_in8a g m full w h hg hP hcb hk i0 i1
  ·exact cl_ldh_ain8 g m full w h hg hP hcb hk i0 i1 (by have hc:=ar_ldh_ain8 kk (by rw [hkk];exact hk) g.code hkk.symm;exact i3 (by omega))
  ·exact cl_ldh_ica g m full w h hg hP hcb hk i0 i1
  ·exact cl_ldh_aic g m full w h hg hP hcb hk i0 i1
  ·exact cl_ld_in16a g m full w h hg hP hcb hk i0 i1
  ·exact cl_ld_ain16 g m full w h hg hP hcb hk i0 i1
  ·exact cl_push_Q g m full w h hg hP hcb hk i0 i1
  ·exact cl_pop_Q g m full w h hg hP hcb hk i0 i1
  ·exact cl_A_aS g m full w h hg hP hcb hk i0 i1
  ·exact cl_A_an8 g m full w h hg hP hcb hk i0 i1 (by have hc:=ar_A_an8 kk (by rw [hkk];exact hk) g.code hkk.symm;exact i3 (by omega))
  ·exact cl_inc_R g m full w h hg hP hcb hk i0 i1
  ·exact cl_dec_R g m full w h hg hP hcb hk i0 i1
  ·exact cl_inc_P g m full w h hg hP hcb hk i0 i1
  ·exact cl_dec_P g m full w h hg hP hcb hk i0 i1
  ·exact cl_add_hlP g m full w h hg hP hcb hk i0 i1
  ·exact cl_add_spe8 g m full w h hg hP hcb hk i0 i1 (by have hc:=ar_add_spe8 kk (by rw [hkk];exact hk) g.code hkk.symm;exact i3 (by omega))
  ·exact cl_rlca g m full w h hg hP hcb hk i0 i1
  ·exact cl_rrca g m full w h hg hP hcb hk i0 i1
  ·exact cl_rla g m full w h hg hP hcb hk i0 i1
  ·exact cl_rra g m full w h hg hP hcb hk i0 i1
  ·exact cl_daa g m full w h hg hP hcb hk i0 i1
  ·exact cl_cpl g m full w h hg hP hcb hk i0 i1
  ·exact cl_scf g m full w h hg hP hcb hk i0 i1
  ·exact cl_ccf g m full w h hg hP hcb hk i0 i1
  ·exact cl_jr_e8 g m full w h hg hP hcb hk i0 i1
  ·exact cl_jr_Ce8 g m full w h hg hP hcb hk i0 i1 (hmet (by unfold hasC;rw [hk];rfl))
  ·exact cl_jp_n16 g m full w h hg hP hcb hk i0 i1
  ·exact cl_jp_Cn16 g m full w h hg hP hcb hk i0 i1 (hmet (by unfold hasC;rw [hk];rfl))
  ·exact cl_jp_hl g m full w h hg hP hcb hk i0 i1
  ·exact cl_call_n16 g m full w h hg hP hcb hk i0 i1
  ·exact cl_call_Cn16 g m full w h hg hP hcb hk i0 i1 (hmet (by unfold hasC;rw [hk];rfl))
  ·exact cl_rst_H g m full w h hg hP hcb hk i0 i1
  ·exact cl_ret g m full w h hg hP hcb hk i0 i1
  ·exact cl_ret_C g m full w h hg hP hcb hk i0 i1 (hmet (by unfold hasC;rw [hk];rfl))
  ·exact cl_reti g m full w h hg hP hcb hk i0 i1
  ·exact cl_di g m full w h hg hP hcb hk i0 i1
  ·exact cl_ei g m full w h hg hP hcb hk i0 i1
  ·exact cl_halt g m full w h hg hP hcb hk i0 i1
  ·exact cl_nop g m full w h hg hP hcb hk i0 i1
  ·exact cl_stop_n8 g m full w h hg hP hcb hk i0 i1
end Stpe
namespace Stpg
open Go.Deep
open Signed (inB sgn ret_int ret_bool)
open Reck ReckS ReckM ReckD TurnS
open Busw Busx Stpp Stpq Stpi Stpc Stpe
theorem has_all:∀ k:Fin 256,decide (0<=Lib.indexByte (shapes.getD (kd (k.val:Int)) ⟨#[]⟩).data.toList 67)=hasC (k.val:Int) false:=by decide +kernel
theorem has_at (c:Int) (cb:Bool) (h0:0<=c) (h1:c<=255):decide (0<=Lib.indexByte (Shape.shape c cb).data.toList 67)=hasC c cb:=by
 cases cb with
 | false =>
  rw [shape_kd h0 h1]
  obtain ⟨k,rfl⟩:=fin_of h0 h1
  exact has_all k
 | true =>
  unfold Shape.shape
  rw [show inB c 0 255=true from decide_eq_true ⟨h0,h1⟩,if_pos rfl]
  by_cases hx:c / 64=0
  ·rw [Shape.shapeR_c0 hx]
   unfold hasC
   rw [Bool.not_true,Bool.false_and]
   decide +kernel
  ·rw [Shape.shapeR_c1 hx]
   unfold hasC
   rw [Bool.not_true,Bool.false_and]
   decide +kernel
theorem flag_all:∀ f:Fin 256,(bits .and .i64 (f.val:Int) 128 != 0)=decide ((f.val:Int) / 128%2=1)/\(bits .and .i64 (f.val:Int) 16 != 0)=decide ((f.val:Int) / 16%2=1):=by decide +kernel
theorem flag_at {f:Int} (h:0<=f/\f<=255):(bits .and .i64 f 128 != 0)=decide (f / 128%2=1)/\(bits .and .i64 f 16 != 0)=decide (f / 16%2=1):=by
 obtain ⟨k,rfl⟩:=fin_of h.1 h.2
 exact flag_all k
theorem ixc_0 (w:World):(Instr.index 160 (.agg #[.int .i64 128,.int .i64 16]) (.int .i64 0)).run prog w=.ok (.int .i64 128) w:=by kernel_rfl
theorem ixc_1 (w:World):(Instr.index 160 (.agg #[.int .i64 128,.int .i64 16]) (.int .i64 1)).run prog w=.ok (.int .i64 16) w:=by kernel_rfl
theorem dec_eq {a b:Int} (ha:a=0 \/ a=1) (hb:b=0 \/ b=1):(decide (a=1) == decide (b=1))=decide (a=b):=by
 rcases ha with rfl|rfl <;> rcases hb with rfl|rfl <;> decide
theorem met_no (c:Int) (cb:Bool) (imm f:Int) (w:World) (h0:0<=c) (h1:c<=255) (hh:hasC c cb=false) :
  Calls prog 91 #[.agg #[.int .i64 c,.bool cb,.int .i64 imm],.int .i64 f] w fun e w'=>e=.returned (.bool (met c cb f))/\Below w.heap.size w w':=by
 have e1:met c cb f=true:=by unfold met;rw [hh];rfl
 rw [e1]
 have c1:=fun w=>Shape.shapeOf_any c cb w
 have c2:=fun w=>Tryz.strings_Contains_one (Shape.shape c cb) 67 w
 rw [has_at c cb h0 h1,hh] at c2
 generalize Shape.shape c cb=s at *
 clear h0 h1 hh e1
 go_enter func91,ntmps91
 go_wp2_with first|(go_at_call 96;refine (c1 _).mono ?_;rintro e w1 ⟨rfl,hb1⟩)|(go_at_call 136;refine (c2 _).mono ?_;rintro e w2 ⟨rfl,hw2⟩;have hw2:=hw2.symm;subst hw2)
 go_ret
 exact ⟨rfl,HolI.unbox hb1⟩
theorem met_yes (c:Int) (cb:Bool) (imm f k fl:Int) (w:World) (h0:0<=c) (h1:c<=255) (hh:hasC c cb=true) (hf:0<=f/\f<=255) (hk:c / 8%8%4 / 2=k)
  (hix:∀ w,(Instr.index 160 (.agg #[.int .i64 128,.int .i64 16]) (.int .i64 k)).run prog w=.ok (.int .i64 fl) w) (hfl:(bits .and .i64 f fl != 0)=decide (f / fl%2=1)) (hfe:fl=if 1<c / 8%8%4 then 16 else 128) :
  Calls prog 91 #[.agg #[.int .i64 c,.bool cb,.int .i64 imm],.int .i64 f] w fun e w'=>e=.returned (.bool (met c cb f))/\Below w.heap.size w w':=by
 have e1:met c cb f=((bits .and .i64 f fl != 0) == (decide (c / 8%8%2=1))):=by
  unfold met
  rw [hh,<- hfe,hfl,show c / 8%8%4%2=c / 8%8%2 by omega,dec_eq (by omega) (by omega)]
  rfl
 rw [e1]
 have c1:=fun w=>Shape.shapeOf_any c cb w
 have c2:=fun w=>Tryz.strings_Contains_one (Shape.shape c cb) 67 w
 have c3:=fun w=>Shape.partsOf_any c w h0 h1
 rw [has_at c cb h0 h1,hh] at c2
 generalize Shape.shape c cb=s at *
 obtain ⟨q,hq⟩ : ∃ q,q=c / 8%8%2:=⟨_,rfl⟩
 obtain ⟨y,hy⟩ : ∃ y,y=c / 8%8:=⟨_,rfl⟩
 rw [<- hq] at c3 |-
 rw [<- hy] at c3 hk
 have y0:0<=y:=by omega
 obtain ⟨r,hr⟩ : ∃ r,y.tmod 4=r:=⟨_,rfl⟩
 have hr2:r=y%4:=by rw [<- hr];exact Int.tmod_eq_emod_of_nonneg y0
 have hr0:0<=r:=by omega
 have hd:r.tdiv 2=k:=by rw [Int.tdiv_eq_ediv_of_nonneg hr0,hr2];exact hk
 have hw:IntKind.i64.wrap k=k:=by rw [IntKind.wrap_i64];omega
 obtain ⟨b,hb⟩ : ∃ b,(bits .and .i64 f fl != 0)=b:=⟨_,rfl⟩
 rw [hb]
 have hqq:(q == 1)=decide (q=1):=by by_cases h:q=1 <;> simp [h]
 generalize decide (q=1)=dq at *
 generalize c / 64=x0 at *
 generalize c%8=z0 at *
 generalize y / 2=p0 at *
 clear h0 h1 hh e1 hfl hfe hk hf hq hy hr2
 go_enter func91,ntmps91
 go_wp2_with first|(go_at_call 96;refine (c1 _).mono ?_;rintro e w1 ⟨rfl,hb1⟩;have k0:=HolI.box hb1 0 _ rfl;have HB1:Hid (Below w.heap.size w w1):=HolI.unbox hb1;clear hb1)|(go_at_call 136;refine (c2 _).mono ?_;rintro e w2 ⟨rfl,hw2⟩;have hw2:=hw2.symm;subst hw2)|(go_at_call 94;refine (c3 _).mono ?_;rintro e w3 ⟨rfl,hb3⟩;have HB3:Hid (Below w.heap.size w w3):=HolI.after HB1.out hb3;clear hb3)
 go_ret
 exact ⟨rfl,zGr HB3.out _⟩
theorem met_any (c:Int) (cb:Bool) (imm f:Int) (w:World) (h0:0<=c) (h1:c<=255) (hf:0<=f/\f<=255) :
  Calls prog 91 #[.agg #[.int .i64 c,.bool cb,.int .i64 imm],.int .i64 f] w fun e w'=>e=.returned (.bool (met c cb f))/\Below w.heap.size w w':=by
 cases hh:hasC c cb with
 | false=>exact met_no c cb imm f w h0 h1 hh
 | true =>
  by_cases hk:c / 8%8%4 / 2=0
  ·exact met_yes c cb imm f 0 128 w h0 h1 hh hf hk ixc_0 (flag_at hf).1 (by rw [if_neg (by omega)])
  ·exact met_yes c cb imm f 1 16 w h0 h1 hh hf (by omega) ixc_1 (flag_at hf).2 (by rw [if_pos (by omega)])
end Stpg
namespace Stph
open Go.Deep
open Signed (inB sgn ret_int ret_bool)
open Busw Busx Stpp Stpq Stpi Stpj
def u (m:M) (k:Int):UInt8:=UInt8.ofNat (rd m ((m.pc+k)%65536)).toNat
theorem u_eq (m:M) (k:Int):((u m k).toNat:Int)=rd m ((m.pc+k)%65536):=by
 have h:=rd_bd m ((m.pc+k)%65536)
 unfold u
 rw [UInt8.toNat_ofNat']
 omega
def fetch (m:M):ByteArray:=⟨#[u m 0,u m 1,u m 2]⟩
theorem fetch_size (m:M):(fetch m).size=3:=rfl
theorem string_at {w:World} {A:Nat} {a b c:UInt8} {T:TypeId} (h:w.heap[A]? = some (.cells #[.int .u8 (a.toNat:Int),.int .u8 (b.toNat:Int),.int .u8 (c.toNat:Int)] T)):(convert 22 9 (.slice (some ⟨A,0,none⟩) 3 3)).run prog w=.ok (.string ⟨#[a,b,c]⟩) w :=
 run_convert_bytes_back (P:=prog) w 22 9 5 ⟨A,0,none⟩ 3 [a,b,c] underlying22 underlying5 underlying9 (fun j hj=>by
  have ea:(⟨A,0,none⟩ : Addr).add j=⟨A,j,none⟩:=by unfold Addr.add;split <;> simp_all
  rw [ea,cell_of_row w A j _ _ _ h]
  match j,hj with
  | 0,_=>rfl
  | 1,_=>rfl
  | 2,_=>rfl)
theorem insAt_any (m:M) (po:Option Addr) (cap B:Nat) (w:World) (hb:w.heap[B]? = some (.cells (cellsM m po cap) 30 (0,0))) (hr:Rt m) (hp:0<=m.pc/\m.pc<=65535) (hm:HolI.MaxL w) :
  Calls prog 90 #[.pointer (some ⟨B,0,none⟩)] w fun e w'=>e=.returned (.tuple #[ReadI.readI (fetch m) 0,.int .i64 (ReadI.readN (fetch m) 0)])/\Below w.heap.size w w':=by
 have lB:B<w.heap.size:=(zLo hb)
 have CR:Hid (∀ W a,Below w.heap.size w W->Calls prog 134 #[.pointer (some ⟨B,0,none⟩),.int .i64 (a%65536)] W fun e w'=>e=.returned (.int .i64 (rd m (a%65536)))/\Below W.heap.size W w'):=fun W a hW=>by
  have hb2:=(hW.block _ lB).trans hb
  rw [cells_def] at hb2
  exact MachB.readBus_any m.ra m.rf m.rB m.rC m.rD m.rE m.rH m.rL m.sp m.pc m.ime m.hal m.rom m.kind m.bank m.ram m.rb m.on m.mode m.work m.high po m.out cap m.cyc B _ W hb2 hr.cart hr.work hr.high (word_bd a).1
 have CW:=fun a w=>wrapped_any a w
 have PC:Hid (∀ W,Below w.heap.size w W->W.cell? ⟨B,9,none⟩=some (.int .i64 m.pc)):=fun W hW=>celM ((hW.block _ lB).trans hb) 9 _ rfl
 have HM:Hid (HolI.MaxL w):=hm
 have d1:IntKind.i64.wrap (m.pc+1)=m.pc+1:=by rw [IntKind.wrap_i64];omega
 have d2:IntKind.i64.wrap (m.pc+2)=m.pc+2:=by rw [IntKind.wrap_i64];omega
 have e0:=u_eq m 0
 have e1:=u_eq m 1
 have e2:=u_eq m 2
 rw [show m.pc+0=m.pc by omega] at e0
 obtain ⟨c,cb,imm,hI⟩:=ReadJ.readI_agg (fetch m) 0
 have CI:Hid (∀ W,Below w.heap.size w W->Calls prog 135 #[.string (fetch m),.int .i64 0] W fun e w'=>e=.returned (.tuple #[.agg #[.int .i64 c,.bool cb,.int .i64 imm],.int .i64 (ReadI.readN (fetch m) 0)])/\Below W.heap.size W w'):=fun W hW=>by
  have h:=ReadJ.implRead_any (fetch m) 0 W (hm.below hW) (by rw [fetch_size];decide)
  unfold ReadI.Tup at h
  rw [hI] at h
  exact h
 rw [hI]
 generalize ReadI.readN (fetch m) 0=n at *
 have hF:fetch m=⟨#[u m 0,u m 1,u m 2]⟩:=rfl
 rw [hF] at CI
 have b0:=(u m 0).toNat_lt
 have b1:=(u m 1).toNat_lt
 have b2:=(u m 2).toNat_lt
 generalize u m 0=u0 at *
 generalize u m 1=u1 at *
 generalize u m 2=u2 at *
 have z0:IntKind.u8.wrap (u0.toNat:Int)=u0.toNat:=by rw [IntKind.wrap_u8];omega
 have z1:IntKind.u8.wrap (u1.toNat:Int)=u1.toNat:=by rw [IntKind.wrap_u8];omega
 have z2:IntKind.u8.wrap (u2.toNat:Int)=u2.toNat:=by rw [IntKind.wrap_u8];omega
 have CR0:=fun W hW=>(CR.out W m.pc hW)
 have CR1:=fun W hW=>(CR.out W (m.pc+1) hW)
 have CR2:=fun W hW=>(CR.out W (m.pc+2) hW)
 rw [<- e0] at CR0
 rw [<- e1] at CR1
 rw [<- e2] at CR2
 have H0:Hid (∀ W,Below w.heap.size w W->Calls prog 134 #[.pointer (some ⟨B,0,none⟩),.int .i64 (m.pc%65536)] W fun e w'=>e=.returned (.int .i64 (u0.toNat:Int))/\Below W.heap.size W w'):=CR0
 have H1:Hid (∀ W,Below w.heap.size w W->Calls prog 134 #[.pointer (some ⟨B,0,none⟩),.int .i64 ((m.pc+1)%65536)] W fun e w'=>e=.returned (.int .i64 (u1.toNat:Int))/\Below W.heap.size W w'):=CR1
 have H2:Hid (∀ W,Below w.heap.size w W->Calls prog 134 #[.pointer (some ⟨B,0,none⟩),.int .i64 ((m.pc+2)%65536)] W fun e w'=>e=.returned (.int .i64 (u2.toNat:Int))/\Below W.heap.size W w'):=CR2
 have d0:IntKind.i64.wrap m.pc=m.pc:=by rw [IntKind.wrap_i64];omega
 have d0':wrap64 m.pc=m.pc:=by first|(unfold wrap64;omega)|(rw [<- wrap_i64_64];exact d0)
 have a0:Below w.heap.size w ((w.alloc (.cells #[.int .i64 0,.bool false,.int .i64 0] 80)).alloc (.cells #[.int .u8 0,.int .u8 0,.int .u8 0] 157)):=by repeat (with_reducible first|exact zRf|refine zGr ?_ _|refine below_drewN ?_ _|refine Below.drew ?_)
 have A0:Hid (Below w.heap.size w ((w.alloc (.cells #[.int .i64 0,.bool false,.int .i64 0] 80)).alloc (.cells #[.int .u8 0,.int .u8 0,.int .u8 0] 157))):=a0
 have HA:Hid (((w.alloc (.cells #[.int .i64 0,.bool false,.int .i64 0] 80)).alloc (.cells #[.int .u8 0,.int .u8 0,.int .u8 0] 157)).heap[w.heap.size+1]? = some (.cells #[.int .u8 0,.int .u8 0,.int .u8 0] 157)):=by show _=_;have h:=heap_alloc_new (w.alloc (.cells #[.int .i64 0,.bool false,.int .i64 0] 80)) (.cells #[.int .u8 0,.int .u8 0,.int .u8 0] 157);rw [show (w.alloc (.cells #[.int .i64 0,.bool false,.int .i64 0] 80)).heap.size=w.heap.size+1 by simp] at h;exact h
 have HRr:Hid (((w.alloc (.cells #[.int .i64 0,.bool false,.int .i64 0] 80)).alloc (.cells #[.int .u8 0,.int .u8 0,.int .u8 0] 157)).heap[w.heap.size]? = some (.cells #[.int .i64 0,.bool false,.int .i64 0] 80)):=by show _=_;rw [alloc_kept _ _ (by simp)];exact heap_alloc_new w _
 have q0:=PC.out _ A0.out
 clear a0
 clear hF CR0 CR1 CR2 e0 e1 e2 CR hI hm hp hr hb b0 b1 b2
 go_enter func90,ntmps90
 go_wp2_with fail
 refine wp_loop_rounds 4 ?_
 rw [rounds_succ]
 go_wp2_with (go_at_call 93;refine (CW _ _).mono ?_;rintro e w' ⟨rfl,hw'⟩;have hw':=hw'.symm;subst hw')
 refine Calls.mono (H0.out _ A0.out) ?_
 rintro e w1 ⟨rfl,hb⟩
 have hx:=(hb.block _ (zLo HA.out)).trans HA.out
 have hR:=(hb.block _ (zLo HRr.out)).trans HRr.out
 have k0:=(cell_of_row w1 (w.heap.size+1) 0 _ _ _ hx).trans rfl
 have f0:=frozen_of_row w1 (w.heap.size+1) 0 _ _ hx
 have X0:Hid ((w1.setCell ⟨w.heap.size+1,0,none⟩ (.int .u8 (u0.toNat:Int))).heap[w.heap.size+1]? = some (.cells #[.int .u8 (u0.toNat:Int),.int .u8 0,.int .u8 0] 157)):=(heap_setCell_same _ _ _ _ _ _ hx).trans rfl
 have R0:Hid ((w1.setCell ⟨w.heap.size+1,0,none⟩ (.int .u8 (u0.toNat:Int))).heap[w.heap.size]? = some (.cells #[.int .i64 0,.bool false,.int .i64 0] 80)):=(Below.heap_setCell _ _ _ _ (by simp)).trans hR
 have bB:=(HolI.after A0.out hb).setCell (p:=⟨w.heap.size+1,0,none⟩) (by simp) (.int .u8 (u0.toNat:Int))
 have B0:Hid (Below w.heap.size w (w1.setCell ⟨w.heap.size+1,0,none⟩ (.int .u8 (u0.toNat:Int)))):=bB
 have q1:=PC.out _ bB
 clear hx hb hR bB H0 HA HRr A0 q0
 go_wp2_with (go_at_call 93;refine (CW _ _).mono ?_;rintro e w' ⟨rfl,hw'⟩;have hw':=hw'.symm;subst hw')
 rw [rounds_succ]
 go_wp2_with (go_at_call 93;refine (CW _ _).mono ?_;rintro e w' ⟨rfl,hw'⟩;have hw':=hw'.symm;subst hw')
 refine Calls.mono (H1.out _ B0.out) ?_
 rintro e w2 ⟨rfl,hb⟩
 have hx:=(hb.block _ (zLo X0.out)).trans X0.out
 have hR:=(hb.block _ (zLo R0.out)).trans R0.out
 have k1:=(cell_of_row w2 (w.heap.size+1) 1 _ _ _ hx).trans rfl
 have f1:=frozen_of_row w2 (w.heap.size+1) 1 _ _ hx
 have X1:Hid ((w2.setCell ⟨w.heap.size+1,1,none⟩ (.int .u8 (u1.toNat:Int))).heap[w.heap.size+1]? = some (.cells #[.int .u8 (u0.toNat:Int),.int .u8 (u1.toNat:Int),.int .u8 0] 157)):=(heap_setCell_same _ _ _ _ _ _ hx).trans rfl
 have R1:Hid ((w2.setCell ⟨w.heap.size+1,1,none⟩ (.int .u8 (u1.toNat:Int))).heap[w.heap.size]? = some (.cells #[.int .i64 0,.bool false,.int .i64 0] 80)):=(Below.heap_setCell _ _ _ _ (by simp)).trans hR
 have bB:=(HolI.after B0.out hb).setCell (p:=⟨w.heap.size+1,1,none⟩) (by simp) (.int .u8 (u1.toNat:Int))
 have B1:Hid (Below w.heap.size w (w2.setCell ⟨w.heap.size+1,1,none⟩ (.int .u8 (u1.toNat:Int)))):=bB
 have q2:=PC.out _ bB
 clear hx hb hR bB H1 X0 R0 B0 q1
 go_wp2_with (go_at_call 93;refine (CW _ _).mono ?_;rintro e w' ⟨rfl,hw'⟩;have hw':=hw'.symm;subst hw')
 rw [rounds_succ]
 go_wp2_with (go_at_call 93;refine (CW _ _).mono ?_;rintro e w' ⟨rfl,hw'⟩;have hw':=hw'.symm;subst hw')
 refine Calls.mono (H2.out _ B1.out) ?_
 rintro e w3 ⟨rfl,hb⟩
 have hx:=(hb.block _ (zLo X1.out)).trans X1.out
 have hR:=(hb.block _ (zLo R1.out)).trans R1.out
 have k2:=(cell_of_row w3 (w.heap.size+1) 2 _ _ _ hx).trans rfl
 have f2:=frozen_of_row w3 (w.heap.size+1) 2 _ _ hx
 have X2:Hid ((w3.setCell ⟨w.heap.size+1,2,none⟩ (.int .u8 (u2.toNat:Int))).heap[w.heap.size+1]? = some (.cells #[.int .u8 (u0.toNat:Int),.int .u8 (u1.toNat:Int),.int .u8 (u2.toNat:Int)] 157)):=(heap_setCell_same _ _ _ _ _ _ hx).trans rfl
 have R2:Hid ((w3.setCell ⟨w.heap.size+1,2,none⟩ (.int .u8 (u2.toNat:Int))).heap[w.heap.size]? = some (.cells #[.int .i64 0,.bool false,.int .i64 0] 80)):=(Below.heap_setCell _ _ _ _ (by simp)).trans hR
 have bB:=(HolI.after B1.out hb).setCell (p:=⟨w.heap.size+1,2,none⟩) (by simp) (.int .u8 (u2.toNat:Int))
 have B2:Hid (Below w.heap.size w (w3.setCell ⟨w.heap.size+1,2,none⟩ (.int .u8 (u2.toNat:Int)))):=bB
 have q3:=PC.out _ bB
 clear hx hb hR bB H2 X1 R1 B1 q2
 have hs:=string_at X2.out
 go_wp2_with (go_at_call 93;refine (CW _ _).mono ?_;rintro e w' ⟨rfl,hw'⟩;have hw':=hw'.symm;subst hw')
 rw [rounds_succ]
 go_wp2_with (go_at_call 93;refine (CW _ _).mono ?_;rintro e w' ⟨rfl,hw'⟩;have hw':=hw'.symm;subst hw')
 refine Calls.mono (CI.out _ B2.out) ?_
 rintro e w4 ⟨rfl,hb⟩
 have hR:=(hb.block _ (zLo R2.out)).trans R2.out
 have r0:=(cell_of_row w4 w.heap.size 0 _ _ _ hR).trans rfl
 have r1:=(cell_of_row w4 w.heap.size 1 _ _ _ hR).trans rfl
 have r2:=(cell_of_row w4 w.heap.size 2 _ _ _ hR).trans rfl
 have g0:=frozen_of_row w4 w.heap.size 0 _ _ hR
 have g1:=frozen_of_row w4 w.heap.size 1 _ _ hR
 have g2:=frozen_of_row w4 w.heap.size 2 _ _ hR
 have lR:w.heap.size<w4.heap.size:=(zLo hR)
 have B4:=zHd (HolI.after B2.out hb)
 clear hR hb B2 R2 CI
 go_wp2_with fail
 refine bodyPost_ret (v:=.tuple #[.agg #[.int .i64 c,.bool cb,.int .i64 imm],.int .i64 n]) (by simp [results,results90,go_sem,r0,r1,r2,lR]) rfl ⟨rfl,?_⟩
 exact ((B4.out.setCell (Nat.le_refl _) _).setCell (Nat.le_refl _) _).setCell (Nat.le_refl _) _
end Stph
end Go.Proofs.YteglcgnhhoenbaaGreatDoor
