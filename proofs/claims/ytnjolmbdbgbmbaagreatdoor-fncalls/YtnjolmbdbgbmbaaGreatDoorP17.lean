/-
  Contracts and facts of ours, joined: Stpe.
-/
import Derived.Test.YtnjolmbdbgbmbaaGreatDoorP11
import Derived.Test.YtnjolmbdbgbmbaaGreatDoorP16
import Derived.Test.YtnjolmbdbgbmbaaGreatDoorP00
set_option linter.unusedVariables false
set_option linter.unusedSimpArgs false
set_option maxRecDepth 20000
set_option maxHeartbeats 8000000
open Go.ChangeShapes Go.WideShapes Go.ChangeAt Go.RowKit
open Go.Proofs.Tryz
namespace Go.Proofs.YtnjolmbdbgbmbaaGreatDoor.Stpe
open Go.Deep
open Signed (inB sgn ret_int ret_bool)
open Reck ReckS ReckM ReckD TurnS
open Busw Busx Stpp Stpq Stpi Stpj Stpr Stpk Stpm Stpn Stpu Stpx Stpy Stpv Stpz Stpw Stpb Stpd Stpc Stpf
structure Parts (g:G):Prop where
 c:0<=g.code/\g.code<=255
 x:g.x=g.code / 64
 y:g.y=g.code / 8%8
 z:g.z=g.code%8
 p:g.p=g.code / 8%8 / 2
theorem Parts.pt {g:G} (h:Parts g):Pt g:=by
 obtain ⟨hc,hx,hy,hz,hp⟩:=h
 exact ⟨by omega,by omega,by omega,by omega⟩
def Does (g:G) (W:World) (fv:Value) (t:S):Prop:=∃ F cap,fv=.func (.func F) #[] cap/\(∀ args w,(callFunc F args).run prog w=.ok (.enter F args) w)/\Calls prog F (#[.pointer (some ⟨g.K,0,none⟩)] ++ cap) W fun e w'=>e=.returned (.tuple #[])/\In g w' t.m t.full
def Acts (g:G) (w:World) (s:ByteArray) (t:S):Prop:=Calls prog 95 #[.string s] w fun e w'=>∃ fv,e=.returned fv/\Below w.heap.size w w'/\Does g w' fv t
theorem en_addToHl (args:Array Value) (w:World):(callFunc 184 args).run prog w=.ok (.enter 184 args) w:=by rfl
theorem en_bitOf (args:Array Value) (w:World):(callFunc 189 args).run prog w=.ok (.enter 189 args) w:=by rfl
theorem en_doNothing (args:Array Value) (w:World):(callFunc 142 args).run prog w=.ok (.enter 142 args) w:=by rfl
theorem en_hlFromSp (args:Array Value) (w:World):(callFunc 164 args).run prog w=.ok (.enter 164 args) w:=by rfl
theorem en_jumpOf_1 (args:Array Value) (w:World):(callFunc 195 args).run prog w=.ok (.enter 195 args) w:=by rfl
theorem en_jumpOf_10 (args:Array Value) (w:World):(callFunc 207 args).run prog w=.ok (.enter 207 args) w:=by rfl
theorem en_jumpOf_2 (args:Array Value) (w:World):(callFunc 197 args).run prog w=.ok (.enter 197 args) w:=by rfl
theorem en_jumpOf_3 (args:Array Value) (w:World):(callFunc 198 args).run prog w=.ok (.enter 198 args) w:=by rfl
theorem en_jumpOf_4 (args:Array Value) (w:World):(callFunc 199 args).run prog w=.ok (.enter 199 args) w:=by rfl
theorem en_jumpOf_5 (args:Array Value) (w:World):(callFunc 201 args).run prog w=.ok (.enter 201 args) w:=by rfl
theorem en_jumpOf_6 (args:Array Value) (w:World):(callFunc 202 args).run prog w=.ok (.enter 202 args) w:=by rfl
theorem en_jumpOf_7 (args:Array Value) (w:World):(callFunc 204 args).run prog w=.ok (.enter 204 args) w:=by rfl
theorem en_jumpOf_8 (args:Array Value) (w:World):(callFunc 205 args).run prog w=.ok (.enter 205 args) w:=by rfl
theorem en_jumpOf_9 (args:Array Value) (w:World):(callFunc 206 args).run prog w=.ok (.enter 206 args) w:=by rfl
theorem en_loadA_1 (args:Array Value) (w:World):(callFunc 222 args).run prog w=.ok (.enter 222 args) w:=by rfl
theorem en_moveOf_1 (args:Array Value) (w:World):(callFunc 153 args).run prog w=.ok (.enter 153 args) w:=by rfl
theorem en_moveOf_2 (args:Array Value) (w:World):(callFunc 156 args).run prog w=.ok (.enter 156 args) w:=by rfl
theorem en_moveOf_3 (args:Array Value) (w:World):(callFunc 157 args).run prog w=.ok (.enter 157 args) w:=by rfl
theorem en_moveOf_4 (args:Array Value) (w:World):(callFunc 160 args).run prog w=.ok (.enter 160 args) w:=by rfl
theorem en_moveOf_5 (args:Array Value) (w:World):(callFunc 171 args).run prog w=.ok (.enter 171 args) w:=by rfl
theorem en_popPair (args:Array Value) (w:World):(callFunc 174 args).run prog w=.ok (.enter 174 args) w:=by rfl
theorem en_reckoningOf_1 (args:Array Value) (w:World):(callFunc 175 args).run prog w=.ok (.enter 175 args) w:=by rfl
theorem en_reckoningOf_10 (args:Array Value) (w:World):(callFunc 194 args).run prog w=.ok (.enter 194 args) w:=by rfl
theorem en_reckoningOf_2 (args:Array Value) (w:World):(callFunc 177 args).run prog w=.ok (.enter 177 args) w:=by rfl
theorem en_reckoningOf_3 (args:Array Value) (w:World):(callFunc 178 args).run prog w=.ok (.enter 178 args) w:=by rfl
theorem en_reckoningOf_4 (args:Array Value) (w:World):(callFunc 180 args).run prog w=.ok (.enter 180 args) w:=by rfl
theorem en_reckoningOf_5 (args:Array Value) (w:World):(callFunc 181 args).run prog w=.ok (.enter 181 args) w:=by rfl
theorem en_reckoningOf_6 (args:Array Value) (w:World):(callFunc 183 args).run prog w=.ok (.enter 183 args) w:=by rfl
theorem en_reckoningOf_7 (args:Array Value) (w:World):(callFunc 185 args).run prog w=.ok (.enter 185 args) w:=by rfl
theorem en_reckoningOf_8 (args:Array Value) (w:World):(callFunc 190 args).run prog w=.ok (.enter 190 args) w:=by rfl
theorem en_reckoningOf_9 (args:Array Value) (w:World):(callFunc 193 args).run prog w=.ok (.enter 193 args) w:=by rfl
theorem en_storeA_1 (args:Array Value) (w:World):(callFunc 221 args).run prog w=.ok (.enter 221 args) w:=by rfl
theorem en_storeSp (args:Array Value) (w:World):(callFunc 163 args).run prog w=.ok (.enter 163 args) w:=by rfl
theorem en_turnA (args:Array Value) (w:World):(callFunc 187 args).run prog w=.ok (.enter 187 args) w:=by rfl
theorem en_turnBits (args:Array Value) (w:World):(callFunc 192 args).run prog w=.ok (.enter 192 args) w:=by rfl
theorem en_turnRegister (args:Array Value) (w:World):(callFunc 188 args).run prog w=.ok (.enter 188 args) w:=by rfl
theorem plain_acts {g:G} {w:World} {s:ByteArray} {t:S} {F:FuncId} (ha:Calls prog 95 #[.string s] w fun e w'=>e=.returned (.func (.func F) #[] #[])/\w'=w) (hn:∀ args w,(callFunc F args).run prog w=.ok (.enter F args) w) (hc:Calls prog F #[.pointer (some ⟨g.K,0,none⟩)] w fun e w'=>e=.returned (.tuple #[])/\In g w' t.m t.full):Acts g w s t :=
 ha.mono fun e w' h=>by
  obtain ⟨rfl,rfl⟩:=h
  exact ⟨_,rfl,Below.refl _ _,F,#[],rfl,hn,hc⟩
theorem box_acts {g:G} {w:World} {s:ByteArray} {t:S} {F:FuncId} {v:Value} (ha:Calls prog 95 #[.string s] w fun e w'=>e=.returned (.func (.func F) #[] #[.pointer (some ⟨w.heap.size,0,none⟩)])/\w'=w.alloc (.cells #[v] 187)) (hn:∀ args w,(callFunc F args).run prog w=.ok (.enter F args) w)
  (hc:Below w.heap.size w (w.alloc (.cells #[v] 187))->(w.alloc (.cells #[v] 187)).cell? ⟨w.heap.size,0,none⟩=some v->Calls prog F #[.pointer (some ⟨g.K,0,none⟩),.pointer (some ⟨w.heap.size,0,none⟩)] (w.alloc (.cells #[v] 187)) fun e w'=>e=.returned (.tuple #[])/\In g w' t.m t.full):Acts g w s t :=
 ha.mono fun e w' h=>by
  obtain ⟨rfl,rfl⟩:=h
  have hb:Below w.heap.size w (w.alloc (.cells #[v] 187)):=zAl _ _
  exact ⟨_,rfl,hb,F,_,rfl,hn,hc hb (by rw [World.cell?_alloc_new];rfl)⟩
theorem cl_ld_RS (g:G) (m:M) (full:Bool) (w:World) (h:In g w m full) (hg:Stpq.Good m) (hP:Parts g) (hcb:g.cb=false) (hk:kd g.code=1) (i0:0<=g.imm) (i1:g.imm<=65535):Acts g w (Shape.shape g.code g.cb) (sem g.code g.cb g.imm ⟨m,full⟩).1:=by
 have hp:=hP.pt
 obtain ⟨k,hkk⟩:=fin_of hP.c.1 hP.c.2
 have hc:=ar_ld_RS k (by rw [hkk];exact hk) g.code hkk.symm
 rw [hcb,shape_kd hP.c.1 hP.c.2,hk,se_ld_RS m full g.code g.imm hg hc hP.c.1 hP.c.2 i0 i1]
 rw [<- hP.y]
 rw [<- hP.z]
 exact plain_acts (act_0 _ _ w (fun W=>mv_ld_RS W)) en_moveOf_1 (mv1 g m full w h hg hp)
theorem cl_ld_Rn8 (g:G) (m:M) (full:Bool) (w:World) (h:In g w m full) (hg:Stpq.Good m) (hP:Parts g) (hcb:g.cb=false) (hk:kd g.code=2) (i0:0<=g.imm) (i1:g.imm<=65535) (ib:g.imm<=255):Acts g w (Shape.shape g.code g.cb) (sem g.code g.cb g.imm ⟨m,full⟩).1:=by
 have hp:=hP.pt
 obtain ⟨k,hkk⟩:=fin_of hP.c.1 hP.c.2
 have hc:=ar_ld_Rn8 k (by rw [hkk];exact hk) g.code hkk.symm
 rw [hcb,shape_kd hP.c.1 hP.c.2,hk,se_ld_Rn8 m full g.code g.imm hg hc hP.c.1 hP.c.2 i0 i1]
 rw [<- hP.y]
 exact plain_acts (act_0 _ _ w (fun W=>mv_ld_Rn8 W)) en_moveOf_2 (mv2 g m full i0 ib w h hg hp)
theorem cl_ld_Pn16 (g:G) (m:M) (full:Bool) (w:World) (h:In g w m full) (hg:Stpq.Good m) (hP:Parts g) (hcb:g.cb=false) (hk:kd g.code=3) (i0:0<=g.imm) (i1:g.imm<=65535):Acts g w (Shape.shape g.code g.cb) (sem g.code g.cb g.imm ⟨m,full⟩).1:=by
 have hp:=hP.pt
 obtain ⟨k,hkk⟩:=fin_of hP.c.1 hP.c.2
 have hc:=ar_ld_Pn16 k (by rw [hkk];exact hk) g.code hkk.symm
 rw [hcb,shape_kd hP.c.1 hP.c.2,hk,se_ld_Pn16 m full g.code g.imm hg hc hP.c.1 hP.c.2 i0 i1]
 rw [<- hP.p]
 exact plain_acts (act_0 _ _ w (fun W=>mv_ld_Pn16 W)) en_moveOf_3 (mv3 g m full w h hg hp)
theorem cl_ld_sphl (g:G) (m:M) (full:Bool) (w:World) (h:In g w m full) (hg:Stpq.Good m) (hP:Parts g) (hcb:g.cb=false) (hk:kd g.code=4) (i0:0<=g.imm) (i1:g.imm<=65535):Acts g w (Shape.shape g.code g.cb) (sem g.code g.cb g.imm ⟨m,full⟩).1:=by
 have hp:=hP.pt
 obtain ⟨k,hkk⟩:=fin_of hP.c.1 hP.c.2
 have hc:=ar_ld_sphl k (by rw [hkk];exact hk) g.code hkk.symm
 rw [hcb,shape_kd hP.c.1 hP.c.2,hk,se_ld_sphl m full g.code g.imm hg hc hP.c.1 hP.c.2 i0 i1]
 exact plain_acts (act_0 _ _ w (fun W=>mv_ld_sphl W)) en_moveOf_4 (mv4 g m full w h hg hp)
theorem cl_ld_in16sp (g:G) (m:M) (full:Bool) (w:World) (h:In g w m full) (hg:Stpq.Good m) (hP:Parts g) (hcb:g.cb=false) (hk:kd g.code=5) (i0:0<=g.imm) (i1:g.imm<=65535):Acts g w (Shape.shape g.code g.cb) (sem g.code g.cb g.imm ⟨m,full⟩).1:=by
 have hp:=hP.pt
 obtain ⟨k,hkk⟩:=fin_of hP.c.1 hP.c.2
 have hc:=ar_ld_in16sp k (by rw [hkk];exact hk) g.code hkk.symm
 rw [hcb,shape_kd hP.c.1 hP.c.2,hk,se_ld_in16sp m full g.code g.imm hg hc hP.c.1 hP.c.2 i0 i1]
 exact plain_acts (act_0 _ _ w (fun W=>mv_ld_in16sp W)) en_storeSp (mvSp g m full i0 i1 w h hg hp)
theorem cl_ld_hlspe8 (g:G) (m:M) (full:Bool) (w:World) (h:In g w m full) (hg:Stpq.Good m) (hP:Parts g) (hcb:g.cb=false) (hk:kd g.code=6) (i0:0<=g.imm) (i1:g.imm<=65535) (ib:g.imm<=255):Acts g w (Shape.shape g.code g.cb) (sem g.code g.cb g.imm ⟨m,full⟩).1:=by
 have hp:=hP.pt
 obtain ⟨k,hkk⟩:=fin_of hP.c.1 hP.c.2
 have hc:=ar_ld_hlspe8 k (by rw [hkk];exact hk) g.code hkk.symm
 rw [hcb,shape_kd hP.c.1 hP.c.2,hk,se_ld_hlspe8 m full g.code g.imm hg hc hP.c.1 hP.c.2 i0 i1]
 exact plain_acts (act_0 _ _ w (fun W=>mv_ld_hlspe8 W)) en_hlFromSp (mvHl g m full i0 ib w h hg hp)
theorem cl_ld_Ma (g:G) (m:M) (full:Bool) (w:World) (h:In g w m full) (hg:Stpq.Good m) (hP:Parts g) (hcb:g.cb=false) (hk:kd g.code=7) (i0:0<=g.imm) (i1:g.imm<=65535):Acts g w (Shape.shape g.code g.cb) (sem g.code g.cb g.imm ⟨m,full⟩).1:=by
 have hp:=hP.pt
 obtain ⟨k,hkk⟩:=fin_of hP.c.1 hP.c.2
 have hc:=ar_ld_Ma k (by rw [hkk];exact hk) g.code hkk.symm
 rw [hcb,shape_kd hP.c.1 hP.c.2,hk,se_ld_Ma m full g.code g.imm hg hc hP.c.1 hP.c.2 i0 i1]
 rw [<- hP.p]
 exact box_acts (act_4 _ _ _ w (fun W=>mv_ld_Ma W)) en_storeA_1 fun hb hx=>stA_step g m full _ _ (h.below hb) hg hp hx
theorem cl_ld_aM (g:G) (m:M) (full:Bool) (w:World) (h:In g w m full) (hg:Stpq.Good m) (hP:Parts g) (hcb:g.cb=false) (hk:kd g.code=8) (i0:0<=g.imm) (i1:g.imm<=65535):Acts g w (Shape.shape g.code g.cb) (sem g.code g.cb g.imm ⟨m,full⟩).1:=by
 have hp:=hP.pt
 obtain ⟨k,hkk⟩:=fin_of hP.c.1 hP.c.2
 have hc:=ar_ld_aM k (by rw [hkk];exact hk) g.code hkk.symm
 rw [hcb,shape_kd hP.c.1 hP.c.2,hk,se_ld_aM m full g.code g.imm hg hc hP.c.1 hP.c.2 i0 i1]
 rw [<- hP.p]
 exact box_acts (act_4 _ _ _ w (fun W=>mv_ld_aM W)) en_loadA_1 fun hb hx=>ldA_step g m full _ _ (h.below hb) hg hp hx
theorem cl_ldh_in8a (g:G) (m:M) (full:Bool) (w:World) (h:In g w m full) (hg:Stpq.Good m) (hP:Parts g) (hcb:g.cb=false) (hk:kd g.code=9) (i0:0<=g.imm) (i1:g.imm<=65535):Acts g w (Shape.shape g.code g.cb) (sem g.code g.cb g.imm ⟨m,full⟩).1:=by
 have hp:=hP.pt
 obtain ⟨k,hkk⟩:=fin_of hP.c.1 hP.c.2
 have hc:=ar_ldh_in8a k (by rw [hkk];exact hk) g.code hkk.symm
 rw [hcb,shape_kd hP.c.1 hP.c.2,hk,se_ldh_in8a m full g.code g.imm hg hc hP.c.1 hP.c.2 i0 i1]
 exact box_acts (act_4 _ _ _ w (fun W=>mv_ldh_in8a W)) en_storeA_1 fun hb hx=>stA_high g m full _ (fun W hi=>at_high g m full W hi hg i0 i1) _ _ (h.below hb) hg hx
theorem cl_ldh_ain8 (g:G) (m:M) (full:Bool) (w:World) (h:In g w m full) (hg:Stpq.Good m) (hP:Parts g) (hcb:g.cb=false) (hk:kd g.code=10) (i0:0<=g.imm) (i1:g.imm<=65535) (ib:g.imm<=255):Acts g w (Shape.shape g.code g.cb) (sem g.code g.cb g.imm ⟨m,full⟩).1:=by
 have hp:=hP.pt
 obtain ⟨k,hkk⟩:=fin_of hP.c.1 hP.c.2
 have hc:=ar_ldh_ain8 k (by rw [hkk];exact hk) g.code hkk.symm
 rw [hcb,shape_kd hP.c.1 hP.c.2,hk,se_ldh_ain8 m full g.code g.imm hg hc hP.c.1 hP.c.2 i0 i1]
 exact box_acts (act_4 _ _ _ w (fun W=>mv_ldh_ain8 W)) en_loadA_1 fun hb hx=>ldA_high g m full _ (fun W hi=>at_high g m full W hi hg i0 i1) (by omega) (by omega) _ _ (h.below hb) hg hx
theorem cl_ldh_ica (g:G) (m:M) (full:Bool) (w:World) (h:In g w m full) (hg:Stpq.Good m) (hP:Parts g) (hcb:g.cb=false) (hk:kd g.code=11) (i0:0<=g.imm) (i1:g.imm<=65535):Acts g w (Shape.shape g.code g.cb) (sem g.code g.cb g.imm ⟨m,full⟩).1:=by
 have hp:=hP.pt
 obtain ⟨k,hkk⟩:=fin_of hP.c.1 hP.c.2
 have hc:=ar_ldh_ica k (by rw [hkk];exact hk) g.code hkk.symm
 rw [hcb,shape_kd hP.c.1 hP.c.2,hk,se_ldh_ica m full g.code g.imm hg hc hP.c.1 hP.c.2 i0 i1]
 exact box_acts (act_4 _ _ _ w (fun W=>mv_ldh_ica W)) en_storeA_1 fun hb hx=>stA_highC g m full _ (fun W hi=>at_highC g m full W hi hg i0 i1) _ _ (h.below hb) hg hx
theorem cl_ldh_aic (g:G) (m:M) (full:Bool) (w:World) (h:In g w m full) (hg:Stpq.Good m) (hP:Parts g) (hcb:g.cb=false) (hk:kd g.code=12) (i0:0<=g.imm) (i1:g.imm<=65535):Acts g w (Shape.shape g.code g.cb) (sem g.code g.cb g.imm ⟨m,full⟩).1:=by
 have hp:=hP.pt
 obtain ⟨k,hkk⟩:=fin_of hP.c.1 hP.c.2
 have hc:=ar_ldh_aic k (by rw [hkk];exact hk) g.code hkk.symm
 rw [hcb,shape_kd hP.c.1 hP.c.2,hk,se_ldh_aic m full g.code g.imm hg hc hP.c.1 hP.c.2 i0 i1]
 exact box_acts (act_4 _ _ _ w (fun W=>mv_ldh_aic W)) en_loadA_1 fun hb hx=>ldA_highC g m full _ (fun W hi=>at_highC g m full W hi hg i0 i1) (by have:=hg.c;omega) (by have:=hg.c;omega) _ _ (h.below hb) hg hx
theorem cl_ld_in16a (g:G) (m:M) (full:Bool) (w:World) (h:In g w m full) (hg:Stpq.Good m) (hP:Parts g) (hcb:g.cb=false) (hk:kd g.code=13) (i0:0<=g.imm) (i1:g.imm<=65535):Acts g w (Shape.shape g.code g.cb) (sem g.code g.cb g.imm ⟨m,full⟩).1:=by
 have hp:=hP.pt
 obtain ⟨k,hkk⟩:=fin_of hP.c.1 hP.c.2
 have hc:=ar_ld_in16a k (by rw [hkk];exact hk) g.code hkk.symm
 rw [hcb,shape_kd hP.c.1 hP.c.2,hk,se_ld_in16a m full g.code g.imm hg hc hP.c.1 hP.c.2 i0 i1]
 exact box_acts (act_4 _ _ _ w (fun W=>mv_ld_in16a W)) en_storeA_1 fun hb hx=>stA_told g m full _ (fun W hi=>at_told g m full W hi hg i0 i1) _ _ (h.below hb) hg hx
theorem cl_ld_ain16 (g:G) (m:M) (full:Bool) (w:World) (h:In g w m full) (hg:Stpq.Good m) (hP:Parts g) (hcb:g.cb=false) (hk:kd g.code=14) (i0:0<=g.imm) (i1:g.imm<=65535):Acts g w (Shape.shape g.code g.cb) (sem g.code g.cb g.imm ⟨m,full⟩).1:=by
 have hp:=hP.pt
 obtain ⟨k,hkk⟩:=fin_of hP.c.1 hP.c.2
 have hc:=ar_ld_ain16 k (by rw [hkk];exact hk) g.code hkk.symm
 rw [hcb,shape_kd hP.c.1 hP.c.2,hk,se_ld_ain16 m full g.code g.imm hg hc hP.c.1 hP.c.2 i0 i1]
 exact box_acts (act_4 _ _ _ w (fun W=>mv_ld_ain16 W)) en_loadA_1 fun hb hx=>ldA_told g m full _ (fun W hi=>at_told g m full W hi hg i0 i1) i0 i1 _ _ (h.below hb) hg hx
theorem cl_push_Q (g:G) (m:M) (full:Bool) (w:World) (h:In g w m full) (hg:Stpq.Good m) (hP:Parts g) (hcb:g.cb=false) (hk:kd g.code=15) (i0:0<=g.imm) (i1:g.imm<=65535):Acts g w (Shape.shape g.code g.cb) (sem g.code g.cb g.imm ⟨m,full⟩).1:=by
 have hp:=hP.pt
 obtain ⟨k,hkk⟩:=fin_of hP.c.1 hP.c.2
 have hc:=ar_push_Q k (by rw [hkk];exact hk) g.code hkk.symm
 rw [hcb,shape_kd hP.c.1 hP.c.2,hk,se_push_Q m full g.code g.imm hg hc hP.c.1 hP.c.2 i0 i1]
 rw [<- hP.p]
 exact plain_acts (act_0 _ _ w (fun W=>mv_push_Q W)) en_moveOf_5 (mvPush g m full w h hg hp)
theorem cl_pop_Q (g:G) (m:M) (full:Bool) (w:World) (h:In g w m full) (hg:Stpq.Good m) (hP:Parts g) (hcb:g.cb=false) (hk:kd g.code=16) (i0:0<=g.imm) (i1:g.imm<=65535):Acts g w (Shape.shape g.code g.cb) (sem g.code g.cb g.imm ⟨m,full⟩).1:=by
 have hp:=hP.pt
 obtain ⟨k,hkk⟩:=fin_of hP.c.1 hP.c.2
 have hc:=ar_pop_Q k (by rw [hkk];exact hk) g.code hkk.symm
 rw [hcb,shape_kd hP.c.1 hP.c.2,hk,se_pop_Q m full g.code g.imm hg hc hP.c.1 hP.c.2 i0 i1]
 rw [<- hP.p]
 exact plain_acts (act_0 _ _ w (fun W=>mv_pop_Q W)) en_popPair (mvPop g m full w h hg hp)
theorem cl_A_aS (g:G) (m:M) (full:Bool) (w:World) (h:In g w m full) (hg:Stpq.Good m) (hP:Parts g) (hcb:g.cb=false) (hk:kd g.code=17) (i0:0<=g.imm) (i1:g.imm<=65535):Acts g w (Shape.shape g.code g.cb) (sem g.code g.cb g.imm ⟨m,full⟩).1:=by
 have hp:=hP.pt
 obtain ⟨k,hkk⟩:=fin_of hP.c.1 hP.c.2
 have hc:=ar_A_aS k (by rw [hkk];exact hk) g.code hkk.symm
 rw [hcb,shape_kd hP.c.1 hP.c.2,hk,se_A_aS m full g.code g.imm hg hc hP.c.1 hP.c.2 i0 i1]
 rw [<- hP.y]
 rw [<- hP.z]
 exact plain_acts (act_1 _ _ w (fun W=>mn_A_aS W) (fun W=>rk_A_aS W)) en_reckoningOf_1 (rk1 g m full w h hg hp)
theorem cl_A_an8 (g:G) (m:M) (full:Bool) (w:World) (h:In g w m full) (hg:Stpq.Good m) (hP:Parts g) (hcb:g.cb=false) (hk:kd g.code=18) (i0:0<=g.imm) (i1:g.imm<=65535) (ib:g.imm<=255):Acts g w (Shape.shape g.code g.cb) (sem g.code g.cb g.imm ⟨m,full⟩).1:=by
 have hp:=hP.pt
 obtain ⟨k,hkk⟩:=fin_of hP.c.1 hP.c.2
 have hc:=ar_A_an8 k (by rw [hkk];exact hk) g.code hkk.symm
 rw [hcb,shape_kd hP.c.1 hP.c.2,hk,se_A_an8 m full g.code g.imm hg hc hP.c.1 hP.c.2 i0 i1]
 rw [<- hP.y]
 exact plain_acts (act_1 _ _ w (fun W=>mn_A_an8 W) (fun W=>rk_A_an8 W)) en_reckoningOf_2 (rk2 g m full i0 ib w h hg hp)
theorem cl_inc_R (g:G) (m:M) (full:Bool) (w:World) (h:In g w m full) (hg:Stpq.Good m) (hP:Parts g) (hcb:g.cb=false) (hk:kd g.code=19) (i0:0<=g.imm) (i1:g.imm<=65535):Acts g w (Shape.shape g.code g.cb) (sem g.code g.cb g.imm ⟨m,full⟩).1:=by
 have hp:=hP.pt
 obtain ⟨k,hkk⟩:=fin_of hP.c.1 hP.c.2
 have hc:=ar_inc_R k (by rw [hkk];exact hk) g.code hkk.symm
 rw [hcb,shape_kd hP.c.1 hP.c.2,hk,se_inc_R m full g.code g.imm hg hc hP.c.1 hP.c.2 i0 i1]
 rw [<- hP.y]
 exact plain_acts (act_1 _ _ w (fun W=>mn_inc_R W) (fun W=>rk_inc_R W)) en_reckoningOf_3 (rk3 g m full w h hg hp)
theorem cl_dec_R (g:G) (m:M) (full:Bool) (w:World) (h:In g w m full) (hg:Stpq.Good m) (hP:Parts g) (hcb:g.cb=false) (hk:kd g.code=20) (i0:0<=g.imm) (i1:g.imm<=65535):Acts g w (Shape.shape g.code g.cb) (sem g.code g.cb g.imm ⟨m,full⟩).1:=by
 have hp:=hP.pt
 obtain ⟨k,hkk⟩:=fin_of hP.c.1 hP.c.2
 have hc:=ar_dec_R k (by rw [hkk];exact hk) g.code hkk.symm
 rw [hcb,shape_kd hP.c.1 hP.c.2,hk,se_dec_R m full g.code g.imm hg hc hP.c.1 hP.c.2 i0 i1]
 rw [<- hP.y]
 exact plain_acts (act_1 _ _ w (fun W=>mn_dec_R W) (fun W=>rk_dec_R W)) en_reckoningOf_4 (rk4 g m full w h hg hp)
theorem cl_inc_P (g:G) (m:M) (full:Bool) (w:World) (h:In g w m full) (hg:Stpq.Good m) (hP:Parts g) (hcb:g.cb=false) (hk:kd g.code=21) (i0:0<=g.imm) (i1:g.imm<=65535):Acts g w (Shape.shape g.code g.cb) (sem g.code g.cb g.imm ⟨m,full⟩).1:=by
 have hp:=hP.pt
 obtain ⟨k,hkk⟩:=fin_of hP.c.1 hP.c.2
 have hc:=ar_inc_P k (by rw [hkk];exact hk) g.code hkk.symm
 rw [hcb,shape_kd hP.c.1 hP.c.2,hk,se_inc_P m full g.code g.imm hg hc hP.c.1 hP.c.2 i0 i1]
 rw [<- hP.p]
 exact plain_acts (act_1 _ _ w (fun W=>mn_inc_P W) (fun W=>rk_inc_P W)) en_reckoningOf_5 (rk5 g m full w h hg hp)
theorem cl_dec_P (g:G) (m:M) (full:Bool) (w:World) (h:In g w m full) (hg:Stpq.Good m) (hP:Parts g) (hcb:g.cb=false) (hk:kd g.code=22) (i0:0<=g.imm) (i1:g.imm<=65535):Acts g w (Shape.shape g.code g.cb) (sem g.code g.cb g.imm ⟨m,full⟩).1:=by
 have hp:=hP.pt
 obtain ⟨k,hkk⟩:=fin_of hP.c.1 hP.c.2
 have hc:=ar_dec_P k (by rw [hkk];exact hk) g.code hkk.symm
 rw [hcb,shape_kd hP.c.1 hP.c.2,hk,se_dec_P m full g.code g.imm hg hc hP.c.1 hP.c.2 i0 i1]
 rw [<- hP.p]
 exact plain_acts (act_1 _ _ w (fun W=>mn_dec_P W) (fun W=>rk_dec_P W)) en_reckoningOf_6 (rk6 g m full w h hg hp)
theorem cl_add_hlP (g:G) (m:M) (full:Bool) (w:World) (h:In g w m full) (hg:Stpq.Good m) (hP:Parts g) (hcb:g.cb=false) (hk:kd g.code=23) (i0:0<=g.imm) (i1:g.imm<=65535):Acts g w (Shape.shape g.code g.cb) (sem g.code g.cb g.imm ⟨m,full⟩).1:=by
 have hp:=hP.pt
 obtain ⟨k,hkk⟩:=fin_of hP.c.1 hP.c.2
 have hc:=ar_add_hlP k (by rw [hkk];exact hk) g.code hkk.symm
 rw [hcb,shape_kd hP.c.1 hP.c.2,hk,se_add_hlP m full g.code g.imm hg hc hP.c.1 hP.c.2 i0 i1]
 rw [<- hP.p]
 exact plain_acts (act_1 _ _ w (fun W=>mn_add_hlP W) (fun W=>rk_add_hlP W)) en_addToHl (rkAdd g m full w h hg hp)
theorem cl_add_spe8 (g:G) (m:M) (full:Bool) (w:World) (h:In g w m full) (hg:Stpq.Good m) (hP:Parts g) (hcb:g.cb=false) (hk:kd g.code=24) (i0:0<=g.imm) (i1:g.imm<=65535) (ib:g.imm<=255):Acts g w (Shape.shape g.code g.cb) (sem g.code g.cb g.imm ⟨m,full⟩).1:=by
 have hp:=hP.pt
 obtain ⟨k,hkk⟩:=fin_of hP.c.1 hP.c.2
 have hc:=ar_add_spe8 k (by rw [hkk];exact hk) g.code hkk.symm
 rw [hcb,shape_kd hP.c.1 hP.c.2,hk,se_add_spe8 m full g.code g.imm hg hc hP.c.1 hP.c.2 i0 i1]
 exact plain_acts (act_1 _ _ w (fun W=>mn_add_spe8 W) (fun W=>rk_add_spe8 W)) en_reckoningOf_7 (rk7 g m full i0 ib w h hg hp)
theorem cl_rlca (g:G) (m:M) (full:Bool) (w:World) (h:In g w m full) (hg:Stpq.Good m) (hP:Parts g) (hcb:g.cb=false) (hk:kd g.code=25) (i0:0<=g.imm) (i1:g.imm<=65535):Acts g w (Shape.shape g.code g.cb) (sem g.code g.cb g.imm ⟨m,full⟩).1:=by
 have hp:=hP.pt
 obtain ⟨k,hkk⟩:=fin_of hP.c.1 hP.c.2
 have hc:=ar_rlca k (by rw [hkk];exact hk) g.code hkk.symm
 rw [hcb,shape_kd hP.c.1 hP.c.2,hk,se_rlca m full g.code g.imm hg hc hP.c.1 hP.c.2 i0 i1]
 rw [<- hP.y]
 exact plain_acts (act_1 _ _ w (fun W=>mn_rlca W) (fun W=>rk_rlca W)) en_turnA (rkTurnA g m full w h hg hp)
theorem cl_rrca (g:G) (m:M) (full:Bool) (w:World) (h:In g w m full) (hg:Stpq.Good m) (hP:Parts g) (hcb:g.cb=false) (hk:kd g.code=26) (i0:0<=g.imm) (i1:g.imm<=65535):Acts g w (Shape.shape g.code g.cb) (sem g.code g.cb g.imm ⟨m,full⟩).1:=by
 have hp:=hP.pt
 obtain ⟨k,hkk⟩:=fin_of hP.c.1 hP.c.2
 have hc:=ar_rrca k (by rw [hkk];exact hk) g.code hkk.symm
 rw [hcb,shape_kd hP.c.1 hP.c.2,hk,se_rrca m full g.code g.imm hg hc hP.c.1 hP.c.2 i0 i1]
 rw [<- hP.y]
 exact plain_acts (act_1 _ _ w (fun W=>mn_rrca W) (fun W=>rk_rrca W)) en_turnA (rkTurnA g m full w h hg hp)
theorem cl_rla (g:G) (m:M) (full:Bool) (w:World) (h:In g w m full) (hg:Stpq.Good m) (hP:Parts g) (hcb:g.cb=false) (hk:kd g.code=27) (i0:0<=g.imm) (i1:g.imm<=65535):Acts g w (Shape.shape g.code g.cb) (sem g.code g.cb g.imm ⟨m,full⟩).1:=by
 have hp:=hP.pt
 obtain ⟨k,hkk⟩:=fin_of hP.c.1 hP.c.2
 have hc:=ar_rla k (by rw [hkk];exact hk) g.code hkk.symm
 rw [hcb,shape_kd hP.c.1 hP.c.2,hk,se_rla m full g.code g.imm hg hc hP.c.1 hP.c.2 i0 i1]
 rw [<- hP.y]
 exact plain_acts (act_1 _ _ w (fun W=>mn_rla W) (fun W=>rk_rla W)) en_turnA (rkTurnA g m full w h hg hp)
theorem cl_rra (g:G) (m:M) (full:Bool) (w:World) (h:In g w m full) (hg:Stpq.Good m) (hP:Parts g) (hcb:g.cb=false) (hk:kd g.code=28) (i0:0<=g.imm) (i1:g.imm<=65535):Acts g w (Shape.shape g.code g.cb) (sem g.code g.cb g.imm ⟨m,full⟩).1:=by
 have hp:=hP.pt
 obtain ⟨k,hkk⟩:=fin_of hP.c.1 hP.c.2
 have hc:=ar_rra k (by rw [hkk];exact hk) g.code hkk.symm
 rw [hcb,shape_kd hP.c.1 hP.c.2,hk,se_rra m full g.code g.imm hg hc hP.c.1 hP.c.2 i0 i1]
 rw [<- hP.y]
 exact plain_acts (act_1 _ _ w (fun W=>mn_rra W) (fun W=>rk_rra W)) en_turnA (rkTurnA g m full w h hg hp)
theorem cl_daa (g:G) (m:M) (full:Bool) (w:World) (h:In g w m full) (hg:Stpq.Good m) (hP:Parts g) (hcb:g.cb=false) (hk:kd g.code=29) (i0:0<=g.imm) (i1:g.imm<=65535):Acts g w (Shape.shape g.code g.cb) (sem g.code g.cb g.imm ⟨m,full⟩).1:=by
 have hp:=hP.pt
 obtain ⟨k,hkk⟩:=fin_of hP.c.1 hP.c.2
 have hc:=ar_daa k (by rw [hkk];exact hk) g.code hkk.symm
 rw [hcb,shape_kd hP.c.1 hP.c.2,hk,se_daa m full g.code g.imm hg hc hP.c.1 hP.c.2 i0 i1]
 exact plain_acts (act_1 _ _ w (fun W=>mn_daa W) (fun W=>rk_daa W)) en_reckoningOf_8 (rk8 g m full w h hg hp)
theorem cl_cpl (g:G) (m:M) (full:Bool) (w:World) (h:In g w m full) (hg:Stpq.Good m) (hP:Parts g) (hcb:g.cb=false) (hk:kd g.code=30) (i0:0<=g.imm) (i1:g.imm<=65535):Acts g w (Shape.shape g.code g.cb) (sem g.code g.cb g.imm ⟨m,full⟩).1:=by
 have hp:=hP.pt
 obtain ⟨k,hkk⟩:=fin_of hP.c.1 hP.c.2
 have hc:=ar_cpl k (by rw [hkk];exact hk) g.code hkk.symm
 rw [hcb,shape_kd hP.c.1 hP.c.2,hk,se_cpl m full g.code g.imm hg hc hP.c.1 hP.c.2 i0 i1]
 exact plain_acts (act_1 _ _ w (fun W=>mn_cpl W) (fun W=>rk_cpl W)) en_turnBits (rkCpl g m full w h hg hp)
theorem cl_scf (g:G) (m:M) (full:Bool) (w:World) (h:In g w m full) (hg:Stpq.Good m) (hP:Parts g) (hcb:g.cb=false) (hk:kd g.code=31) (i0:0<=g.imm) (i1:g.imm<=65535):Acts g w (Shape.shape g.code g.cb) (sem g.code g.cb g.imm ⟨m,full⟩).1:=by
 have hp:=hP.pt
 obtain ⟨k,hkk⟩:=fin_of hP.c.1 hP.c.2
 have hc:=ar_scf k (by rw [hkk];exact hk) g.code hkk.symm
 rw [hcb,shape_kd hP.c.1 hP.c.2,hk,se_scf m full g.code g.imm hg hc hP.c.1 hP.c.2 i0 i1]
 exact plain_acts (act_1 _ _ w (fun W=>mn_scf W) (fun W=>rk_scf W)) en_reckoningOf_9 (rk9 g m full w h hg hp)
theorem cl_ccf (g:G) (m:M) (full:Bool) (w:World) (h:In g w m full) (hg:Stpq.Good m) (hP:Parts g) (hcb:g.cb=false) (hk:kd g.code=32) (i0:0<=g.imm) (i1:g.imm<=65535):Acts g w (Shape.shape g.code g.cb) (sem g.code g.cb g.imm ⟨m,full⟩).1:=by
 have hp:=hP.pt
 obtain ⟨k,hkk⟩:=fin_of hP.c.1 hP.c.2
 have hc:=ar_ccf k (by rw [hkk];exact hk) g.code hkk.symm
 rw [hcb,shape_kd hP.c.1 hP.c.2,hk,se_ccf m full g.code g.imm hg hc hP.c.1 hP.c.2 i0 i1]
 exact plain_acts (act_1 _ _ w (fun W=>mn_ccf W) (fun W=>rk_ccf W)) en_reckoningOf_10 (rk10 g m full w h hg hp)
theorem cl_jr_e8 (g:G) (m:M) (full:Bool) (w:World) (h:In g w m full) (hg:Stpq.Good m) (hP:Parts g) (hcb:g.cb=false) (hk:kd g.code=33) (i0:0<=g.imm) (i1:g.imm<=65535):Acts g w (Shape.shape g.code g.cb) (sem g.code g.cb g.imm ⟨m,full⟩).1:=by
 have hp:=hP.pt
 obtain ⟨k,hkk⟩:=fin_of hP.c.1 hP.c.2
 have hc:=ar_jr_e8 k (by rw [hkk];exact hk) g.code hkk.symm
 rw [hcb,shape_kd hP.c.1 hP.c.2,hk,se_jr_e8 m full g.code g.imm hg hc hP.c.1 hP.c.2 i0 i1]
 exact plain_acts (act_2 _ _ w (fun W=>mn_jr_e8 W) (fun W=>rn_jr_e8 W) (fun W=>jp_jr_e8 W)) en_jumpOf_1 (jp1 g m full w h hg hp)
theorem cl_jr_Ce8 (g:G) (m:M) (full:Bool) (w:World) (h:In g w m full) (hg:Stpq.Good m) (hP:Parts g) (hcb:g.cb=false) (hk:kd g.code=34) (i0:0<=g.imm) (i1:g.imm<=65535) (hm:cond m (g.code / 8%8%4)=true):Acts g w (Shape.shape g.code g.cb) (sem g.code g.cb g.imm ⟨m,full⟩).1:=by
 have hp:=hP.pt
 obtain ⟨k,hkk⟩:=fin_of hP.c.1 hP.c.2
 have hc:=ar_jr_Ce8 k (by rw [hkk];exact hk) g.code hkk.symm
 rw [hcb,shape_kd hP.c.1 hP.c.2,hk,se_jr_Ce8 m full g.code g.imm hg hc hP.c.1 hP.c.2 i0 i1 hm]
 exact plain_acts (act_2 _ _ w (fun W=>mn_jr_Ce8 W) (fun W=>rn_jr_Ce8 W) (fun W=>jp_jr_Ce8 W)) en_jumpOf_1 (jp1 g m full w h hg hp)
theorem cl_jp_n16 (g:G) (m:M) (full:Bool) (w:World) (h:In g w m full) (hg:Stpq.Good m) (hP:Parts g) (hcb:g.cb=false) (hk:kd g.code=35) (i0:0<=g.imm) (i1:g.imm<=65535):Acts g w (Shape.shape g.code g.cb) (sem g.code g.cb g.imm ⟨m,full⟩).1:=by
 have hp:=hP.pt
 obtain ⟨k,hkk⟩:=fin_of hP.c.1 hP.c.2
 have hc:=ar_jp_n16 k (by rw [hkk];exact hk) g.code hkk.symm
 rw [hcb,shape_kd hP.c.1 hP.c.2,hk,se_jp_n16 m full g.code g.imm hg hc hP.c.1 hP.c.2 i0 i1]
 exact plain_acts (act_2 _ _ w (fun W=>mn_jp_n16 W) (fun W=>rn_jp_n16 W) (fun W=>jp_jp_n16 W)) en_jumpOf_2 (jp2 g m full w h hg hp)
theorem cl_jp_Cn16 (g:G) (m:M) (full:Bool) (w:World) (h:In g w m full) (hg:Stpq.Good m) (hP:Parts g) (hcb:g.cb=false) (hk:kd g.code=36) (i0:0<=g.imm) (i1:g.imm<=65535) (hm:cond m (g.code / 8%8%4)=true):Acts g w (Shape.shape g.code g.cb) (sem g.code g.cb g.imm ⟨m,full⟩).1:=by
 have hp:=hP.pt
 obtain ⟨k,hkk⟩:=fin_of hP.c.1 hP.c.2
 have hc:=ar_jp_Cn16 k (by rw [hkk];exact hk) g.code hkk.symm
 rw [hcb,shape_kd hP.c.1 hP.c.2,hk,se_jp_Cn16 m full g.code g.imm hg hc hP.c.1 hP.c.2 i0 i1 hm]
 exact plain_acts (act_2 _ _ w (fun W=>mn_jp_Cn16 W) (fun W=>rn_jp_Cn16 W) (fun W=>jp_jp_Cn16 W)) en_jumpOf_2 (jp2 g m full w h hg hp)
theorem cl_jp_hl (g:G) (m:M) (full:Bool) (w:World) (h:In g w m full) (hg:Stpq.Good m) (hP:Parts g) (hcb:g.cb=false) (hk:kd g.code=37) (i0:0<=g.imm) (i1:g.imm<=65535):Acts g w (Shape.shape g.code g.cb) (sem g.code g.cb g.imm ⟨m,full⟩).1:=by
 have hp:=hP.pt
 obtain ⟨k,hkk⟩:=fin_of hP.c.1 hP.c.2
 have hc:=ar_jp_hl k (by rw [hkk];exact hk) g.code hkk.symm
 rw [hcb,shape_kd hP.c.1 hP.c.2,hk,se_jp_hl m full g.code g.imm hg hc hP.c.1 hP.c.2 i0 i1]
 exact plain_acts (act_2 _ _ w (fun W=>mn_jp_hl W) (fun W=>rn_jp_hl W) (fun W=>jp_jp_hl W)) en_jumpOf_3 (jp3 g m full w h hg hp)
theorem cl_call_n16 (g:G) (m:M) (full:Bool) (w:World) (h:In g w m full) (hg:Stpq.Good m) (hP:Parts g) (hcb:g.cb=false) (hk:kd g.code=38) (i0:0<=g.imm) (i1:g.imm<=65535):Acts g w (Shape.shape g.code g.cb) (sem g.code g.cb g.imm ⟨m,full⟩).1:=by
 have hp:=hP.pt
 obtain ⟨k,hkk⟩:=fin_of hP.c.1 hP.c.2
 have hc:=ar_call_n16 k (by rw [hkk];exact hk) g.code hkk.symm
 rw [hcb,shape_kd hP.c.1 hP.c.2,hk,se_call_n16 m full g.code g.imm hg hc hP.c.1 hP.c.2 i0 i1]
 exact plain_acts (act_2 _ _ w (fun W=>mn_call_n16 W) (fun W=>rn_call_n16 W) (fun W=>jp_call_n16 W)) en_jumpOf_4 (jp4 g m full w h hg hp)
theorem cl_call_Cn16 (g:G) (m:M) (full:Bool) (w:World) (h:In g w m full) (hg:Stpq.Good m) (hP:Parts g) (hcb:g.cb=false) (hk:kd g.code=39) (i0:0<=g.imm) (i1:g.imm<=65535) (hm:cond m (g.code / 8%8%4)=true):Acts g w (Shape.shape g.code g.cb) (sem g.code g.cb g.imm ⟨m,full⟩).1:=by
 have hp:=hP.pt
 obtain ⟨k,hkk⟩:=fin_of hP.c.1 hP.c.2
 have hc:=ar_call_Cn16 k (by rw [hkk];exact hk) g.code hkk.symm
 rw [hcb,shape_kd hP.c.1 hP.c.2,hk,se_call_Cn16 m full g.code g.imm hg hc hP.c.1 hP.c.2 i0 i1 hm]
 exact plain_acts (act_2 _ _ w (fun W=>mn_call_Cn16 W) (fun W=>rn_call_Cn16 W) (fun W=>jp_call_Cn16 W)) en_jumpOf_4 (jp4 g m full w h hg hp)
theorem cl_rst_H (g:G) (m:M) (full:Bool) (w:World) (h:In g w m full) (hg:Stpq.Good m) (hP:Parts g) (hcb:g.cb=false) (hk:kd g.code=40) (i0:0<=g.imm) (i1:g.imm<=65535):Acts g w (Shape.shape g.code g.cb) (sem g.code g.cb g.imm ⟨m,full⟩).1:=by
 have hp:=hP.pt
 obtain ⟨k,hkk⟩:=fin_of hP.c.1 hP.c.2
 have hc:=ar_rst_H k (by rw [hkk];exact hk) g.code hkk.symm
 rw [hcb,shape_kd hP.c.1 hP.c.2,hk,se_rst_H m full g.code g.imm hg hc hP.c.1 hP.c.2 i0 i1]
 rw [<- hP.y]
 exact plain_acts (act_2 _ _ w (fun W=>mn_rst_H W) (fun W=>rn_rst_H W) (fun W=>jp_rst_H W)) en_jumpOf_5 (jp5 g m full w h hg hp)
theorem cl_ret (g:G) (m:M) (full:Bool) (w:World) (h:In g w m full) (hg:Stpq.Good m) (hP:Parts g) (hcb:g.cb=false) (hk:kd g.code=41) (i0:0<=g.imm) (i1:g.imm<=65535):Acts g w (Shape.shape g.code g.cb) (sem g.code g.cb g.imm ⟨m,full⟩).1:=by
 have hp:=hP.pt
 obtain ⟨k,hkk⟩:=fin_of hP.c.1 hP.c.2
 have hc:=ar_ret k (by rw [hkk];exact hk) g.code hkk.symm
 rw [hcb,shape_kd hP.c.1 hP.c.2,hk,se_ret m full g.code g.imm hg hc hP.c.1 hP.c.2 i0 i1]
 exact plain_acts (act_2 _ _ w (fun W=>mn_ret W) (fun W=>rn_ret W) (fun W=>jp_ret W)) en_jumpOf_6 (jp6 g m full w h hg hp)
theorem cl_ret_C (g:G) (m:M) (full:Bool) (w:World) (h:In g w m full) (hg:Stpq.Good m) (hP:Parts g) (hcb:g.cb=false) (hk:kd g.code=42) (i0:0<=g.imm) (i1:g.imm<=65535) (hm:cond m (g.code / 8%8%4)=true):Acts g w (Shape.shape g.code g.cb) (sem g.code g.cb g.imm ⟨m,full⟩).1:=by
 have hp:=hP.pt
 obtain ⟨k,hkk⟩:=fin_of hP.c.1 hP.c.2
 have hc:=ar_ret_C k (by rw [hkk];exact hk) g.code hkk.symm
 rw [hcb,shape_kd hP.c.1 hP.c.2,hk,se_ret_C m full g.code g.imm hg hc hP.c.1 hP.c.2 i0 i1 hm]
 exact plain_acts (act_2 _ _ w (fun W=>mn_ret_C W) (fun W=>rn_ret_C W) (fun W=>jp_ret_C W)) en_jumpOf_6 (jp6 g m full w h hg hp)
theorem cl_reti (g:G) (m:M) (full:Bool) (w:World) (h:In g w m full) (hg:Stpq.Good m) (hP:Parts g) (hcb:g.cb=false) (hk:kd g.code=43) (i0:0<=g.imm) (i1:g.imm<=65535):Acts g w (Shape.shape g.code g.cb) (sem g.code g.cb g.imm ⟨m,full⟩).1:=by
 have hp:=hP.pt
 obtain ⟨k,hkk⟩:=fin_of hP.c.1 hP.c.2
 have hc:=ar_reti k (by rw [hkk];exact hk) g.code hkk.symm
 rw [hcb,shape_kd hP.c.1 hP.c.2,hk,se_reti m full g.code g.imm hg hc hP.c.1 hP.c.2 i0 i1]
 exact plain_acts (act_2 _ _ w (fun W=>mn_reti W) (fun W=>rn_reti W) (fun W=>jp_reti W)) en_jumpOf_7 (jp7 g m full w h hg hp)
theorem cl_di (g:G) (m:M) (full:Bool) (w:World) (h:In g w m full) (hg:Stpq.Good m) (hP:Parts g) (hcb:g.cb=false) (hk:kd g.code=44) (i0:0<=g.imm) (i1:g.imm<=65535):Acts g w (Shape.shape g.code g.cb) (sem g.code g.cb g.imm ⟨m,full⟩).1:=by
 have hp:=hP.pt
 obtain ⟨k,hkk⟩:=fin_of hP.c.1 hP.c.2
 have hc:=ar_di k (by rw [hkk];exact hk) g.code hkk.symm
 rw [hcb,shape_kd hP.c.1 hP.c.2,hk,se_di m full g.code g.imm hg hc hP.c.1 hP.c.2 i0 i1]
 exact plain_acts (act_2 _ _ w (fun W=>mn_di W) (fun W=>rn_di W) (fun W=>jp_di W)) en_jumpOf_8 (jp8 g m full w h hg hp)
theorem cl_ei (g:G) (m:M) (full:Bool) (w:World) (h:In g w m full) (hg:Stpq.Good m) (hP:Parts g) (hcb:g.cb=false) (hk:kd g.code=45) (i0:0<=g.imm) (i1:g.imm<=65535):Acts g w (Shape.shape g.code g.cb) (sem g.code g.cb g.imm ⟨m,full⟩).1:=by
 have hp:=hP.pt
 obtain ⟨k,hkk⟩:=fin_of hP.c.1 hP.c.2
 have hc:=ar_ei k (by rw [hkk];exact hk) g.code hkk.symm
 rw [hcb,shape_kd hP.c.1 hP.c.2,hk,se_ei m full g.code g.imm hg hc hP.c.1 hP.c.2 i0 i1]
 exact plain_acts (act_2 _ _ w (fun W=>mn_ei W) (fun W=>rn_ei W) (fun W=>jp_ei W)) en_jumpOf_9 (jp9 g m full w h hg hp)
theorem cl_halt (g:G) (m:M) (full:Bool) (w:World) (h:In g w m full) (hg:Stpq.Good m) (hP:Parts g) (hcb:g.cb=false) (hk:kd g.code=46) (i0:0<=g.imm) (i1:g.imm<=65535):Acts g w (Shape.shape g.code g.cb) (sem g.code g.cb g.imm ⟨m,full⟩).1:=by
 have hp:=hP.pt
 obtain ⟨k,hkk⟩:=fin_of hP.c.1 hP.c.2
 have hc:=ar_halt k (by rw [hkk];exact hk) g.code hkk.symm
 rw [hcb,shape_kd hP.c.1 hP.c.2,hk,se_halt m full g.code g.imm hg hc hP.c.1 hP.c.2 i0 i1]
 exact plain_acts (act_2 _ _ w (fun W=>mn_halt W) (fun W=>rn_halt W) (fun W=>jp_halt W)) en_jumpOf_10 (jp10 g m full w h hg hp)
theorem cl_nop (g:G) (m:M) (full:Bool) (w:World) (h:In g w m full) (hg:Stpq.Good m) (hP:Parts g) (hcb:g.cb=false) (hk:kd g.code=47) (i0:0<=g.imm) (i1:g.imm<=65535):Acts g w (Shape.shape g.code g.cb) (sem g.code g.cb g.imm ⟨m,full⟩).1:=by
 have hp:=hP.pt
 obtain ⟨k,hkk⟩:=fin_of hP.c.1 hP.c.2
 have hc:=ar_nop k (by rw [hkk];exact hk) g.code hkk.symm
 rw [hcb,shape_kd hP.c.1 hP.c.2,hk,se_nop m full g.code g.imm hg hc hP.c.1 hP.c.2 i0 i1]
 exact plain_acts (act_3 _ w (fun W=>mn_nop W) (fun W=>rn_nop W) (fun W=>jn_nop W)) en_doNothing (nothing g m full w h hg hp)
theorem cl_stop_n8 (g:G) (m:M) (full:Bool) (w:World) (h:In g w m full) (hg:Stpq.Good m) (hP:Parts g) (hcb:g.cb=false) (hk:kd g.code=48) (i0:0<=g.imm) (i1:g.imm<=65535):Acts g w (Shape.shape g.code g.cb) (sem g.code g.cb g.imm ⟨m,full⟩).1:=by
 have hp:=hP.pt
 obtain ⟨k,hkk⟩:=fin_of hP.c.1 hP.c.2
 have hc:=ar_stop_n8 k (by rw [hkk];exact hk) g.code hkk.symm
 rw [hcb,shape_kd hP.c.1 hP.c.2,hk,se_stop_n8 m full g.code g.imm hg hc hP.c.1 hP.c.2 i0 i1]
 exact plain_acts (act_3 _ w (fun W=>mn_stop_n8 W) (fun W=>rn_stop_n8 W) (fun W=>jn_stop_n8 W)) en_doNothing (nothing g m full w h hg hp)
theorem cl_turn (g:G) (m:M) (full:Bool) (w:World) (h:In g w m full) (hg:Stpq.Good m) (hP:Parts g) (hcb:g.cb=true) (hx:g.code / 64=0):Acts g w (Shape.shape g.code g.cb) (sem g.code g.cb g.imm ⟨m,full⟩).1:=by
 have hp:=hP.pt
 have e1:Shape.shape g.code true=⟨#[84,32,83]⟩:=by
  unfold Shape.shape
  rw [show inB g.code 0 255=true from decide_eq_true hP.c,if_pos rfl]
  exact Shape.shapeR_c0 hx
 have e2:(sem g.code true g.imm ⟨m,full⟩).1=F (put ⟨m,full⟩ g.z (trnR g.y (Stpp.get m g.z) m.rf).1) (trnR g.y (Stpp.get m g.z) m.rf).2:=by
  unfold sem
  rw [if_pos rfl]
  show cbE g.code ⟨m,full⟩=_
  unfold cbE
  rw [if_pos hx,hP.y,hP.z]
 rw [hcb,e1,e2]
 exact plain_acts (act_1 _ _ w (fun W=>mn_T_S W) (fun W=>rk_T_S W)) en_turnRegister (rkTurn g m full w h hg hp)
theorem cl_bit1 (g:G) (m:M) (full:Bool) (w:World) (h:In g w m full) (hg:Stpq.Good m) (hP:Parts g) (hcb:g.cb=true) (hx:g.code / 64=1):Acts g w (Shape.shape g.code g.cb) (sem g.code g.cb g.imm ⟨m,full⟩).1:=by
 have hp:=hP.pt
 have e1:Shape.shape g.code true=⟨#[66,32,89,44,83]⟩:=by
  unfold Shape.shape
  rw [show inB g.code 0 255=true from decide_eq_true hP.c,if_pos rfl]
  exact Shape.shapeR_c1 (by omega)
 have e2:(sem g.code true g.imm ⟨m,full⟩).1=(⟨{ m with rf:=bits .or .i64 (bits .or .i64 (chz (decide (bits .and .i64 (Stpp.get m g.z) (bitV g.y)=0)) 128 0) 32) (bits .and .i64 m.rf 16) },full⟩ : S):=by
  unfold sem
  rw [if_pos rfl]
  show cbE g.code ⟨m,full⟩=_
  unfold cbE
  rw [if_neg (by omega),if_pos hx,bit_flags _ hg.f hg.f16,hP.y,hP.z]
  rfl
 rw [hcb,e1,e2]
 exact plain_acts (act_1 _ _ w (fun W=>mn_B_YS W) (fun W=>rk_B_YS W)) en_bitOf (bit_1 g m full (by rw [hP.x];exact hx) w h hg hp)
theorem cl_bit2 (g:G) (m:M) (full:Bool) (w:World) (h:In g w m full) (hg:Stpq.Good m) (hP:Parts g) (hcb:g.cb=true) (hx:g.code / 64=2):Acts g w (Shape.shape g.code g.cb) (sem g.code g.cb g.imm ⟨m,full⟩).1:=by
 have hp:=hP.pt
 have e1:Shape.shape g.code true=⟨#[66,32,89,44,83]⟩:=by
  unfold Shape.shape
  rw [show inB g.code 0 255=true from decide_eq_true hP.c,if_pos rfl]
  exact Shape.shapeR_c1 (by omega)
 have e2:(sem g.code true g.imm ⟨m,full⟩).1=put ⟨m,full⟩ g.z (bits .andNot .i64 (Stpp.get m g.z) (bitV g.y)):=by
  unfold sem
  rw [if_pos rfl]
  show cbE g.code ⟨m,full⟩=_
  unfold cbE
  rw [if_neg (by omega),if_neg (by omega),if_pos hx,hP.y,hP.z]
 rw [hcb,e1,e2]
 exact plain_acts (act_1 _ _ w (fun W=>mn_B_YS W) (fun W=>rk_B_YS W)) en_bitOf (bit_2 g m full (by rw [hP.x];exact hx) w h hg hp)
theorem cl_bit3 (g:G) (m:M) (full:Bool) (w:World) (h:In g w m full) (hg:Stpq.Good m) (hP:Parts g) (hcb:g.cb=true) (hx:g.code / 64=3):Acts g w (Shape.shape g.code g.cb) (sem g.code g.cb g.imm ⟨m,full⟩).1:=by
 have hp:=hP.pt
 have e1:Shape.shape g.code true=⟨#[66,32,89,44,83]⟩:=by
  unfold Shape.shape
  rw [show inB g.code 0 255=true from decide_eq_true hP.c,if_pos rfl]
  exact Shape.shapeR_c1 (by omega)
 have e2:(sem g.code true g.imm ⟨m,full⟩).1=put ⟨m,full⟩ g.z (bits .or .i64 (Stpp.get m g.z) (bitV g.y)):=by
  unfold sem
  rw [if_pos rfl]
  show cbE g.code ⟨m,full⟩=_
  unfold cbE
  rw [if_neg (by omega),if_neg (by omega),if_neg (by omega),hP.y,hP.z]
 rw [hcb,e1,e2]
 exact plain_acts (act_1 _ _ w (fun W=>mn_B_YS W) (fun W=>rk_B_YS W)) en_bitOf (bit_3 g m full (by rw [hP.x];exact hx) w h hg hp)
def hasC (c:Int) (cb:Bool):Bool:=!cb && (kd c == 34 || kd c == 36 || kd c == 39 || kd c == 42)
def met (c:Int) (cb:Bool) (f:Int):Bool:=!hasC c cb || decide (f / (if 1<c / 8%8%4 then 16 else 128)%2=c / 8%8%4%2)
theorem act_any (g:G) (m:M) (full:Bool) (w:World) (h:In g w m full) (hg:Stpq.Good m) (hP:Parts g) (hi:ImmOk g.code g.cb g.imm) (hs:Shape.shape g.code g.cb ≠ ⟨#[]⟩) (hm:met g.code g.cb m.rf=true):Acts g w (Shape.shape g.code g.cb) (sem g.code g.cb g.imm ⟨m,full⟩).1:=by
 cases hcb:g.cb with
 | true =>
  rw [<- hcb]
  have hc:=hP.c
  have hx:g.code / 64=0 \/ g.code / 64=1 \/ g.code / 64=2 \/ g.code / 64=3:=by omega
  rcases hx with hx|hx|hx|hx
  ·exact cl_turn g m full w h hg hP hcb hx
  ·exact cl_bit1 g m full w h hg hP hcb hx
  ·exact cl_bit2 g m full w h hg hP hcb hx
  ·exact cl_bit3 g m full w h hg hP hcb hx
 | false =>
  rw [hcb] at hi hm hs
  rw [<- hcb]
  rcases hi with hi|⟨i0,i1,i2,i3⟩
  ·cases hi
  obtain ⟨kk,hkk⟩:=fin_of hP.c.1 hP.c.2
  have hlt:=kd_lt kk
  rw [hkk] at hlt
  have hmet:hasC g.code false=true->cond m (g.code / 8%8%4)=true:=fun hh=>by
   unfold met at hm
   rw [hh] at hm
   exact hm
  have hcases:kd g.code=0 \/ kd g.code=1 \/ kd g.code=2 \/ kd g.code=3 \/ kd g.code=4 \/ kd g.code=5 \/ kd g.code=6 \/ kd g.code=7 \/ kd g.code=8 \/ kd g.code=9 \/ kd g.code=10 \/ kd g.code=11 \/ kd g.code=12 \/ kd g.code=13 \/ kd g.code=14 \/ kd g.code=15 \/ kd g.code=16 \/ kd g.code=17 \/ kd g.code=18 \/ kd g.code=19 \/ kd g.code=20 \/ kd g.code=21 \/ kd g.code=22 \/ kd g.code=23 \/ kd g.code=24 \/ kd g.code=25 \/ kd g.code=26 \/ kd g.code=27 \/ kd g.code=28 \/ kd g.code=29 \/ kd g.code=30 \/ kd g.code=31 \/ kd g.code=32 \/ kd g.code=33 \/ kd g.code=34 \/ kd g.code=35 \/ kd g.code=36 \/ kd g.code=37 \/ kd g.code=38 \/ kd g.code=39 \/ kd g.code=40 \/ kd g.code=41 \/ kd g.code=42 \/ kd g.code=43 \/ kd g.code=44 \/ kd g.code=45 \/ kd g.code=46 \/ kd g.code=47 \/ kd g.code=48:=by omega
  rcases hcases with hk|hk|hk|hk|hk|hk|hk|hk|hk|hk|hk|hk|hk|hk|hk|hk|hk|hk|hk|hk|hk|hk|hk|hk|hk|hk|hk|hk|hk|hk|hk|hk|hk|hk|hk|hk|hk|hk|hk|hk|hk|hk|hk|hk|hk|hk|hk|hk|hk
  ·exact absurd (by rw [shape_kd hP.c.1 hP.c.2,hk];rfl) hs
  ·exact cl_ld_RS g m full w h hg hP hcb hk i0 i1
  ·exact cl_ld_Rn8 g m full w h hg hP hcb hk i0 i1 (by have hc:=ar_ld_Rn8 kk (by rw [hkk];exact hk) g.code hkk.symm;exact i2 (by omega) (by omega) (by omega))
  ·exact cl_ld_Pn16 g m full w h hg hP hcb hk i0 i1
  ·exact cl_ld_sphl g m full w h hg hP hcb hk i0 i1
  ·exact cl_ld_in16sp g m full w h hg hP hcb hk i0 i1
  ·exact cl_ld_hlspe8 g m full w h hg hP hcb hk i0 i1 (by have hc:=ar_ld_hlspe8 kk (by rw [hkk];exact hk) g.code hkk.symm;exact i3 (by omega))
  ·exact cl_ld_Ma g m full w h hg hP hcb hk i0 i1
  ·exact cl_ld_aM g m full w h hg hP hcb hk i0 i1
  ·exact cl_ldh_in8a g m full w h hg hP hcb hk i0 i1
  ·exact cl_ldh_ain8 g m full w h hg hP hcb hk i0 i1 (by have hc:=ar_ldh_ain8 kk (by rw [hkk];exact hk) g.code hkk.symm;exact i3 (by omega))
  ·exact cl_ldh_ica g m full w h hg hP hcb hk i0 i1
  ·exact cl_ldh_aic g m full w h hg hP hcb hk i0 i1
  ·exact cl_ld_in16a g m full w h hg hP hcb hk i0 i1
  ·exact cl_ld_ain16 g m full w h hg hP hcb hk i0 i1
  ·exact cl_push_Q g m full w h hg hP hcb hk i0 i1
  ·exact cl_pop_Q g m full w h hg hP hcb hk i0 i1
  ·exact cl_A_aS g m full w h hg hP hcb hk i0 i1
  ·exact cl_A_an8 g m full w h hg hP hcb hk i0 i1 (by have hc:=ar_A_an8 kk (by rw [hkk];exact hk) g.code hkk.symm;exact i3 (by omega))
  ·exact cl_inc_R g m full w h hg hP hcb hk i0 i1
  ·exact cl_dec_R g m full w h hg hP hcb hk i0 i1
  ·exact cl_inc_P g m full w h hg hP hcb hk i0 i1
  ·exact cl_dec_P g m full w h hg hP hcb hk i0 i1
  ·exact cl_add_hlP g m full w h hg hP hcb hk i0 i1
  ·exact cl_add_spe8 g m full w h hg hP hcb hk i0 i1 (by have hc:=ar_add_spe8 kk (by rw [hkk];exact hk) g.code hkk.symm;exact i3 (by omega))
  ·exact cl_rlca g m full w h hg hP hcb hk i0 i1
  ·exact cl_rrca g m full w h hg hP hcb hk i0 i1
  ·exact cl_rla g m full w h hg hP hcb hk i0 i1
  ·exact cl_rra g m full w h hg hP hcb hk i0 i1
  ·exact cl_daa g m full w h hg hP hcb hk i0 i1
  ·exact cl_cpl g m full w h hg hP hcb hk i0 i1
  ·exact cl_scf g m full w h hg hP hcb hk i0 i1
  ·exact cl_ccf g m full w h hg hP hcb hk i0 i1
  ·exact cl_jr_e8 g m full w h hg hP hcb hk i0 i1
  ·exact cl_jr_Ce8 g m full w h hg hP hcb hk i0 i1 (hmet (by unfold hasC;rw [hk];rfl))
  ·exact cl_jp_n16 g m full w h hg hP hcb hk i0 i1
  ·exact cl_jp_Cn16 g m full w h hg hP hcb hk i0 i1 (hmet (by unfold hasC;rw [hk];rfl))
  ·exact cl_jp_hl g m full w h hg hP hcb hk i0 i1
  ·exact cl_call_n16 g m full w h hg hP hcb hk i0 i1
  ·exact cl_call_Cn16 g m full w h hg hP hcb hk i0 i1 (hmet (by unfold hasC;rw [hk];rfl))
  ·exact cl_rst_H g m full w h hg hP hcb hk i0 i1
  ·exact cl_ret g m full w h hg hP hcb hk i0 i1
  ·exact cl_ret_C g m full w h hg hP hcb hk i0 i1 (hmet (by unfold hasC;rw [hk];rfl))
  ·exact cl_reti g m full w h hg hP hcb hk i0 i1
  ·exact cl_di g m full w h hg hP hcb hk i0 i1
  ·exact cl_ei g m full w h hg hP hcb hk i0 i1
  ·exact cl_halt g m full w h hg hP hcb hk i0 i1
  ·exact cl_nop g m full w h hg hP hcb hk i0 i1
  ·exact cl_stop_n8 g m full w h hg hP hcb hk i0 i1
end Go.Proofs.YtnjolmbdbgbmbaaGreatDoor.Stpe
