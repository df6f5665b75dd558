import Derived.Test.YteglcgnhhoenbaaGreatDoorP32
set_option linter.all false
set_option maxRecDepth 20000
set_option maxHeartbeats 8000000
open Go.ChangeShapes Go.WideShapes Go.ChangeAt Go.RowKit
open Go.Proofs.Tryz
namespace Go.Proofs.YteglcgnhhoenbaaGreatDoor
namespace Stpb
open Go.Deep
open Busw Busx Stpp Stpq Stpi Stpj Stpr Stpk Stpm Stpn Stpu Stpx Stpy Stpv Stpz Stpw
theorem storeA_any (p:FuncId) (w:World):Calls prog 181 #[.func (.func p) #[] #[]] w fun e w'=>e=.returned (.func (.func 243) #[] #[.pointer (some ⟨w.heap.size,0,none⟩)])/\w'=w.alloc (.cells #[.func (.func p) #[] #[]] 211):=by
 have hmf:∀ (fn:Fn) (first cap:Array Value) (w:World),(Instr.makeFunc fn first cap).run prog w=.ok (.func fn first cap) w:=fun _ _ _ _=>rfl
 go_enter func181,ntmps181
 go_wp2
 go_ret
 exact ⟨rfl,rfl⟩
theorem loadA_any (p:FuncId) (w:World):Calls prog 183 #[.func (.func p) #[] #[]] w fun e w'=>e=.returned (.func (.func 244) #[] #[.pointer (some ⟨w.heap.size,0,none⟩)])/\w'=w.alloc (.cells #[.func (.func p) #[] #[]] 211):=by
 have hmf:∀ (fn:Fn) (first cap:Array Value) (w:World),(Instr.makeFunc fn first cap).run prog w=.ok (.func fn first cap) w:=fun _ _ _ _=>rfl
 go_enter func183,ntmps183
 go_wp2
 go_ret
 exact ⟨rfl,rfl⟩
theorem mv_ld_RS (w:World):Calls prog 140 #[.string ⟨#[108,100,32,82,44,83]⟩] w fun e w'=>e=.returned (.func (.func 169) #[] #[])/\w'=w:=by
 go_enter func140,ntmps140
 go_wp2
 go_ret
 exact ⟨rfl,rfl⟩
theorem mv_ld_Rn8 (w:World):Calls prog 140 #[.string ⟨#[108,100,32,82,44,110,56]⟩] w fun e w'=>e=.returned (.func (.func 172) #[] #[])/\w'=w:=by
 go_enter func140,ntmps140
 go_wp2
 go_ret
 exact ⟨rfl,rfl⟩
theorem mv_ld_Pn16 (w:World):Calls prog 140 #[.string ⟨#[108,100,32,80,44,110,49,54]⟩] w fun e w'=>e=.returned (.func (.func 173) #[] #[])/\w'=w:=by
 go_enter func140,ntmps140
 go_wp2
 go_ret
 exact ⟨rfl,rfl⟩
theorem mv_ld_sphl (w:World):Calls prog 140 #[.string ⟨#[108,100,32,115,112,44,104,108]⟩] w fun e w'=>e=.returned (.func (.func 176) #[] #[])/\w'=w:=by
 go_enter func140,ntmps140
 go_wp2
 go_ret
 exact ⟨rfl,rfl⟩
theorem mv_ld_in16sp (w:World):Calls prog 140 #[.string ⟨#[108,100,32,91,110,49,54,93,44,115,112]⟩] w fun e w'=>e=.returned (.func (.func 179) #[] #[])/\w'=w:=by
 go_enter func140,ntmps140
 go_wp2
 go_ret
 exact ⟨rfl,rfl⟩
theorem mv_ld_hlspe8 (w:World):Calls prog 140 #[.string ⟨#[108,100,32,104,108,44,115,112,43,101,56]⟩] w fun e w'=>e=.returned (.func (.func 180) #[] #[])/\w'=w:=by
 go_enter func140,ntmps140
 go_wp2
 go_ret
 exact ⟨rfl,rfl⟩
theorem mv_ld_Ma (w:World):Calls prog 140 #[.string ⟨#[108,100,32,77,44,97]⟩] w fun e w'=>e=.returned (.func (.func 243) #[] #[.pointer (some ⟨w.heap.size,0,none⟩)])/\w'=w.alloc (.cells #[.func (.func 182) #[] #[]] 211):=by
 go_enter func140,ntmps140
 go_wp2_with (go_at_call 181;refine (storeA_any _ _).mono ?_;rintro e w' ⟨rfl,rfl⟩)
 go_ret
 exact ⟨rfl,rfl⟩
theorem mv_ld_aM (w:World):Calls prog 140 #[.string ⟨#[108,100,32,97,44,77]⟩] w fun e w'=>e=.returned (.func (.func 244) #[] #[.pointer (some ⟨w.heap.size,0,none⟩)])/\w'=w.alloc (.cells #[.func (.func 182) #[] #[]] 211):=by
 go_enter func140,ntmps140
 go_wp2_with (go_at_call 183;refine (loadA_any _ _).mono ?_;rintro e w' ⟨rfl,rfl⟩)
 go_ret
 exact ⟨rfl,rfl⟩
theorem mv_ldh_in8a (w:World):Calls prog 140 #[.string ⟨#[108,100,104,32,91,110,56,93,44,97]⟩] w fun e w'=>e=.returned (.func (.func 243) #[] #[.pointer (some ⟨w.heap.size,0,none⟩)])/\w'=w.alloc (.cells #[.func (.func 184) #[] #[]] 211):=by
 go_enter func140,ntmps140
 go_wp2_with (go_at_call 181;refine (storeA_any _ _).mono ?_;rintro e w' ⟨rfl,rfl⟩)
 go_ret
 exact ⟨rfl,rfl⟩
theorem mv_ldh_ain8 (w:World):Calls prog 140 #[.string ⟨#[108,100,104,32,97,44,91,110,56,93]⟩] w fun e w'=>e=.returned (.func (.func 244) #[] #[.pointer (some ⟨w.heap.size,0,none⟩)])/\w'=w.alloc (.cells #[.func (.func 184) #[] #[]] 211):=by
 go_enter func140,ntmps140
 go_wp2_with (go_at_call 183;refine (loadA_any _ _).mono ?_;rintro e w' ⟨rfl,rfl⟩)
 go_ret
 exact ⟨rfl,rfl⟩
theorem mv_ldh_ica (w:World):Calls prog 140 #[.string ⟨#[108,100,104,32,91,99,93,44,97]⟩] w fun e w'=>e=.returned (.func (.func 243) #[] #[.pointer (some ⟨w.heap.size,0,none⟩)])/\w'=w.alloc (.cells #[.func (.func 185) #[] #[]] 211):=by
 go_enter func140,ntmps140
 go_wp2_with (go_at_call 181;refine (storeA_any _ _).mono ?_;rintro e w' ⟨rfl,rfl⟩)
 go_ret
 exact ⟨rfl,rfl⟩
theorem mv_ldh_aic (w:World):Calls prog 140 #[.string ⟨#[108,100,104,32,97,44,91,99,93]⟩] w fun e w'=>e=.returned (.func (.func 244) #[] #[.pointer (some ⟨w.heap.size,0,none⟩)])/\w'=w.alloc (.cells #[.func (.func 185) #[] #[]] 211):=by
 go_enter func140,ntmps140
 go_wp2_with (go_at_call 183;refine (loadA_any _ _).mono ?_;rintro e w' ⟨rfl,rfl⟩)
 go_ret
 exact ⟨rfl,rfl⟩
theorem mv_ld_in16a (w:World):Calls prog 140 #[.string ⟨#[108,100,32,91,110,49,54,93,44,97]⟩] w fun e w'=>e=.returned (.func (.func 243) #[] #[.pointer (some ⟨w.heap.size,0,none⟩)])/\w'=w.alloc (.cells #[.func (.func 186) #[] #[]] 211):=by
 go_enter func140,ntmps140
 go_wp2_with (go_at_call 181;refine (storeA_any _ _).mono ?_;rintro e w' ⟨rfl,rfl⟩)
 go_ret
 exact ⟨rfl,rfl⟩
theorem mv_ld_ain16 (w:World):Calls prog 140 #[.string ⟨#[108,100,32,97,44,91,110,49,54,93]⟩] w fun e w'=>e=.returned (.func (.func 244) #[] #[.pointer (some ⟨w.heap.size,0,none⟩)])/\w'=w.alloc (.cells #[.func (.func 186) #[] #[]] 211):=by
 go_enter func140,ntmps140
 go_wp2_with (go_at_call 183;refine (loadA_any _ _).mono ?_;rintro e w' ⟨rfl,rfl⟩)
 go_ret
 exact ⟨rfl,rfl⟩
theorem mv_push_Q (w:World):Calls prog 140 #[.string ⟨#[112,117,115,104,32,81]⟩] w fun e w'=>e=.returned (.func (.func 187) #[] #[])/\w'=w:=by
 go_enter func140,ntmps140
 go_wp2
 go_ret
 exact ⟨rfl,rfl⟩
theorem mv_pop_Q (w:World):Calls prog 140 #[.string ⟨#[112,111,112,32,81]⟩] w fun e w'=>e=.returned (.func (.func 190) #[] #[])/\w'=w:=by
 go_enter func140,ntmps140
 go_wp2
 go_ret
 exact ⟨rfl,rfl⟩
theorem mn_A_aS (w:World):Calls prog 140 #[.string ⟨#[65,32,97,44,83]⟩] w fun e w'=>e=.returned (.nilFunc)/\w'=w:=by
 go_enter func140,ntmps140
 go_wp2
 go_ret
 exact ⟨rfl,rfl⟩
theorem mn_A_an8 (w:World):Calls prog 140 #[.string ⟨#[65,32,97,44,110,56]⟩] w fun e w'=>e=.returned (.nilFunc)/\w'=w:=by
 go_enter func140,ntmps140
 go_wp2
 go_ret
 exact ⟨rfl,rfl⟩
theorem mn_inc_R (w:World):Calls prog 140 #[.string ⟨#[105,110,99,32,82]⟩] w fun e w'=>e=.returned (.nilFunc)/\w'=w:=by
 go_enter func140,ntmps140
 go_wp2
 go_ret
 exact ⟨rfl,rfl⟩
theorem mn_dec_R (w:World):Calls prog 140 #[.string ⟨#[100,101,99,32,82]⟩] w fun e w'=>e=.returned (.nilFunc)/\w'=w:=by
 go_enter func140,ntmps140
 go_wp2
 go_ret
 exact ⟨rfl,rfl⟩
theorem mn_inc_P (w:World):Calls prog 140 #[.string ⟨#[105,110,99,32,80]⟩] w fun e w'=>e=.returned (.nilFunc)/\w'=w:=by
 go_enter func140,ntmps140
 go_wp2
 go_ret
 exact ⟨rfl,rfl⟩
theorem mn_dec_P (w:World):Calls prog 140 #[.string ⟨#[100,101,99,32,80]⟩] w fun e w'=>e=.returned (.nilFunc)/\w'=w:=by
 go_enter func140,ntmps140
 go_wp2
 go_ret
 exact ⟨rfl,rfl⟩
theorem mn_add_hlP (w:World):Calls prog 140 #[.string ⟨#[97,100,100,32,104,108,44,80]⟩] w fun e w'=>e=.returned (.nilFunc)/\w'=w:=by
 go_enter func140,ntmps140
 go_wp2
 go_ret
 exact ⟨rfl,rfl⟩
theorem mn_add_spe8 (w:World):Calls prog 140 #[.string ⟨#[97,100,100,32,115,112,44,101,56]⟩] w fun e w'=>e=.returned (.nilFunc)/\w'=w:=by
 go_enter func140,ntmps140
 go_wp2
 go_ret
 exact ⟨rfl,rfl⟩
theorem mn_rlca (w:World):Calls prog 140 #[.string ⟨#[114,108,99,97]⟩] w fun e w'=>e=.returned (.nilFunc)/\w'=w:=by
 go_enter func140,ntmps140
 go_wp2
 go_ret
 exact ⟨rfl,rfl⟩
theorem mn_rrca (w:World):Calls prog 140 #[.string ⟨#[114,114,99,97]⟩] w fun e w'=>e=.returned (.nilFunc)/\w'=w:=by
 go_enter func140,ntmps140
 go_wp2
 go_ret
 exact ⟨rfl,rfl⟩
theorem mn_rla (w:World):Calls prog 140 #[.string ⟨#[114,108,97]⟩] w fun e w'=>e=.returned (.nilFunc)/\w'=w:=by
 go_enter func140,ntmps140
 go_wp2
 go_ret
 exact ⟨rfl,rfl⟩
theorem mn_rra (w:World):Calls prog 140 #[.string ⟨#[114,114,97]⟩] w fun e w'=>e=.returned (.nilFunc)/\w'=w:=by
 go_enter func140,ntmps140
 go_wp2
 go_ret
 exact ⟨rfl,rfl⟩
theorem mn_T_S (w:World):Calls prog 140 #[.string ⟨#[84,32,83]⟩] w fun e w'=>e=.returned (.nilFunc)/\w'=w:=by
 go_enter func140,ntmps140
 go_wp2
 go_ret
 exact ⟨rfl,rfl⟩
theorem mn_B_YS (w:World):Calls prog 140 #[.string ⟨#[66,32,89,44,83]⟩] w fun e w'=>e=.returned (.nilFunc)/\w'=w:=by
 go_enter func140,ntmps140
 go_wp2
 go_ret
 exact ⟨rfl,rfl⟩
theorem mn_daa (w:World):Calls prog 140 #[.string ⟨#[100,97,97]⟩] w fun e w'=>e=.returned (.nilFunc)/\w'=w:=by
 go_enter func140,ntmps140
 go_wp2
 go_ret
 exact ⟨rfl,rfl⟩
theorem mn_cpl (w:World):Calls prog 140 #[.string ⟨#[99,112,108]⟩] w fun e w'=>e=.returned (.nilFunc)/\w'=w:=by
 go_enter func140,ntmps140
 go_wp2
 go_ret
 exact ⟨rfl,rfl⟩
theorem mn_scf (w:World):Calls prog 140 #[.string ⟨#[115,99,102]⟩] w fun e w'=>e=.returned (.nilFunc)/\w'=w:=by
 go_enter func140,ntmps140
 go_wp2
 go_ret
 exact ⟨rfl,rfl⟩
theorem mn_ccf (w:World):Calls prog 140 #[.string ⟨#[99,99,102]⟩] w fun e w'=>e=.returned (.nilFunc)/\w'=w:=by
 go_enter func140,ntmps140
 go_wp2
 go_ret
 exact ⟨rfl,rfl⟩
theorem mn_jr_e8 (w:World):Calls prog 140 #[.string ⟨#[106,114,32,101,56]⟩] w fun e w'=>e=.returned (.nilFunc)/\w'=w:=by
 go_enter func140,ntmps140
 go_wp2
 go_ret
 exact ⟨rfl,rfl⟩
theorem mn_jr_Ce8 (w:World):Calls prog 140 #[.string ⟨#[106,114,32,67,44,101,56]⟩] w fun e w'=>e=.returned (.nilFunc)/\w'=w:=by
 go_enter func140,ntmps140
 go_wp2
 go_ret
 exact ⟨rfl,rfl⟩
theorem mn_jp_n16 (w:World):Calls prog 140 #[.string ⟨#[106,112,32,110,49,54]⟩] w fun e w'=>e=.returned (.nilFunc)/\w'=w:=by
 go_enter func140,ntmps140
 go_wp2
 go_ret
 exact ⟨rfl,rfl⟩
theorem mn_jp_Cn16 (w:World):Calls prog 140 #[.string ⟨#[106,112,32,67,44,110,49,54]⟩] w fun e w'=>e=.returned (.nilFunc)/\w'=w:=by
 go_enter func140,ntmps140
 go_wp2
 go_ret
 exact ⟨rfl,rfl⟩
theorem mn_jp_hl (w:World):Calls prog 140 #[.string ⟨#[106,112,32,104,108]⟩] w fun e w'=>e=.returned (.nilFunc)/\w'=w:=by
 go_enter func140,ntmps140
 go_wp2
 go_ret
 exact ⟨rfl,rfl⟩
theorem mn_call_n16 (w:World):Calls prog 140 #[.string ⟨#[99,97,108,108,32,110,49,54]⟩] w fun e w'=>e=.returned (.nilFunc)/\w'=w:=by
 go_enter func140,ntmps140
 go_wp2
 go_ret
 exact ⟨rfl,rfl⟩
theorem mn_call_Cn16 (w:World):Calls prog 140 #[.string ⟨#[99,97,108,108,32,67,44,110,49,54]⟩] w fun e w'=>e=.returned (.nilFunc)/\w'=w:=by
 go_enter func140,ntmps140
 go_wp2
 go_ret
 exact ⟨rfl,rfl⟩
theorem mn_rst_H (w:World):Calls prog 140 #[.string ⟨#[114,115,116,32,72]⟩] w fun e w'=>e=.returned (.nilFunc)/\w'=w:=by
 go_enter func140,ntmps140
 go_wp2
 go_ret
 exact ⟨rfl,rfl⟩
theorem mn_ret (w:World):Calls prog 140 #[.string ⟨#[114,101,116]⟩] w fun e w'=>e=.returned (.nilFunc)/\w'=w:=by
 go_enter func140,ntmps140
 go_wp2
 go_ret
 exact ⟨rfl,rfl⟩
theorem mn_ret_C (w:World):Calls prog 140 #[.string ⟨#[114,101,116,32,67]⟩] w fun e w'=>e=.returned (.nilFunc)/\w'=w:=by
 go_enter func140,ntmps140
 go_wp2
 go_ret
 exact ⟨rfl,rfl⟩
theorem mn_reti (w:World):Calls prog 140 #[.string ⟨#[114,101,116,105]⟩] w fun e w'=>e=.returned (.nilFunc)/\w'=w:=by
 go_enter func140,ntmps140
 go_wp2
 go_ret
 exact ⟨rfl,rfl⟩
theorem mn_di (w:World):Calls prog 140 #[.string ⟨#[100,105]⟩] w fun e w'=>e=.returned (.nilFunc)/\w'=w:=by
 go_enter func140,ntmps140
 go_wp2
 go_ret
 exact ⟨rfl,rfl⟩
theorem mn_ei (w:World):Calls prog 140 #[.string ⟨#[101,105]⟩] w fun e w'=>e=.returned (.nilFunc)/\w'=w:=by
 go_enter func140,ntmps140
 go_wp2
 go_ret
 exact ⟨rfl,rfl⟩
theorem mn_halt (w:World):Calls prog 140 #[.string ⟨#[104,97,108,116]⟩] w fun e w'=>e=.returned (.nilFunc)/\w'=w:=by
 go_enter func140,ntmps140
 go_wp2
 go_ret
 exact ⟨rfl,rfl⟩
theorem mn_nop (w:World):Calls prog 140 #[.string ⟨#[110,111,112]⟩] w fun e w'=>e=.returned (.nilFunc)/\w'=w:=by
 go_enter func140,ntmps140
 go_wp2
 go_ret
 exact ⟨rfl,rfl⟩
theorem mn_stop_n8 (w:World):Calls prog 140 #[.string ⟨#[115,116,111,112,32,110,56]⟩] w fun e w'=>e=.returned (.nilFunc)/\w'=w:=by
 go_enter func140,ntmps140
 go_wp2
 go_ret
 exact ⟨rfl,rfl⟩
theorem rk_A_aS (w:World):Calls prog 141 #[.string ⟨#[65,32,97,44,83]⟩] w fun e w'=>e=.returned (.func (.func 191) #[] #[])/\w'=w:=by
 go_enter func141,ntmps141
 go_wp2
 go_ret
 exact ⟨rfl,rfl⟩
theorem rk_A_an8 (w:World):Calls prog 141 #[.string ⟨#[65,32,97,44,110,56]⟩] w fun e w'=>e=.returned (.func (.func 193) #[] #[])/\w'=w:=by
 go_enter func141,ntmps141
 go_wp2
 go_ret
 exact ⟨rfl,rfl⟩
theorem rk_inc_R (w:World):Calls prog 141 #[.string ⟨#[105,110,99,32,82]⟩] w fun e w'=>e=.returned (.func (.func 194) #[] #[])/\w'=w:=by
 go_enter func141,ntmps141
 go_wp2
 go_ret
 exact ⟨rfl,rfl⟩
theorem rk_dec_R (w:World):Calls prog 141 #[.string ⟨#[100,101,99,32,82]⟩] w fun e w'=>e=.returned (.func (.func 196) #[] #[])/\w'=w:=by
 go_enter func141,ntmps141
 go_wp2
 go_ret
 exact ⟨rfl,rfl⟩
theorem rk_inc_P (w:World):Calls prog 141 #[.string ⟨#[105,110,99,32,80]⟩] w fun e w'=>e=.returned (.func (.func 197) #[] #[])/\w'=w:=by
 go_enter func141,ntmps141
 go_wp2
 go_ret
 exact ⟨rfl,rfl⟩
theorem rk_dec_P (w:World):Calls prog 141 #[.string ⟨#[100,101,99,32,80]⟩] w fun e w'=>e=.returned (.func (.func 199) #[] #[])/\w'=w:=by
 go_enter func141,ntmps141
 go_wp2
 go_ret
 exact ⟨rfl,rfl⟩
theorem rk_add_hlP (w:World):Calls prog 141 #[.string ⟨#[97,100,100,32,104,108,44,80]⟩] w fun e w'=>e=.returned (.func (.func 200) #[] #[])/\w'=w:=by
 go_enter func141,ntmps141
 go_wp2
 go_ret
 exact ⟨rfl,rfl⟩
theorem rk_add_spe8 (w:World):Calls prog 141 #[.string ⟨#[97,100,100,32,115,112,44,101,56]⟩] w fun e w'=>e=.returned (.func (.func 201) #[] #[])/\w'=w:=by
 go_enter func141,ntmps141
 go_wp2
 go_ret
 exact ⟨rfl,rfl⟩
theorem rk_rlca (w:World):Calls prog 141 #[.string ⟨#[114,108,99,97]⟩] w fun e w'=>e=.returned (.func (.func 203) #[] #[])/\w'=w:=by
 go_enter func141,ntmps141
 go_wp2
 go_ret
 exact ⟨rfl,rfl⟩
theorem rk_rrca (w:World):Calls prog 141 #[.string ⟨#[114,114,99,97]⟩] w fun e w'=>e=.returned (.func (.func 203) #[] #[])/\w'=w:=by
 go_enter func141,ntmps141
 go_wp2
 go_ret
 exact ⟨rfl,rfl⟩
theorem rk_rla (w:World):Calls prog 141 #[.string ⟨#[114,108,97]⟩] w fun e w'=>e=.returned (.func (.func 203) #[] #[])/\w'=w:=by
 go_enter func141,ntmps141
 go_wp2
 go_ret
 exact ⟨rfl,rfl⟩
theorem rk_rra (w:World):Calls prog 141 #[.string ⟨#[114,114,97]⟩] w fun e w'=>e=.returned (.func (.func 203) #[] #[])/\w'=w:=by
 go_enter func141,ntmps141
 go_wp2
 go_ret
 exact ⟨rfl,rfl⟩
theorem rk_T_S (w:World):Calls prog 141 #[.string ⟨#[84,32,83]⟩] w fun e w'=>e=.returned (.func (.func 204) #[] #[])/\w'=w:=by
 go_enter func141,ntmps141
 go_wp2
 go_ret
 exact ⟨rfl,rfl⟩
theorem rk_B_YS (w:World):Calls prog 141 #[.string ⟨#[66,32,89,44,83]⟩] w fun e w'=>e=.returned (.func (.func 205) #[] #[])/\w'=w:=by
 go_enter func141,ntmps141
 go_wp2
 go_ret
 exact ⟨rfl,rfl⟩
theorem rk_daa (w:World):Calls prog 141 #[.string ⟨#[100,97,97]⟩] w fun e w'=>e=.returned (.func (.func 206) #[] #[])/\w'=w:=by
 go_enter func141,ntmps141
 go_wp2
 go_ret
 exact ⟨rfl,rfl⟩
theorem rk_cpl (w:World):Calls prog 141 #[.string ⟨#[99,112,108]⟩] w fun e w'=>e=.returned (.func (.func 208) #[] #[])/\w'=w:=by
 go_enter func141,ntmps141
 go_wp2
 go_ret
 exact ⟨rfl,rfl⟩
theorem rk_scf (w:World):Calls prog 141 #[.string ⟨#[115,99,102]⟩] w fun e w'=>e=.returned (.func (.func 209) #[] #[])/\w'=w:=by
 go_enter func141,ntmps141
 go_wp2
 go_ret
 exact ⟨rfl,rfl⟩
theorem rk_ccf (w:World):Calls prog 141 #[.string ⟨#[99,99,102]⟩] w fun e w'=>e=.returned (.func (.func 210) #[] #[])/\w'=w:=by
 go_enter func141,ntmps141
 go_wp2
 go_ret
 exact ⟨rfl,rfl⟩
theorem rn_jr_e8 (w:World):Calls prog 141 #[.string ⟨#[106,114,32,101,56]⟩] w fun e w'=>e=.returned (.nilFunc)/\w'=w:=by
 go_enter func141,ntmps141
 go_wp2
 go_ret
 exact ⟨rfl,rfl⟩
theorem rn_jr_Ce8 (w:World):Calls prog 141 #[.string ⟨#[106,114,32,67,44,101,56]⟩] w fun e w'=>e=.returned (.nilFunc)/\w'=w:=by
 go_enter func141,ntmps141
 go_wp2
 go_ret
 exact ⟨rfl,rfl⟩
theorem rn_jp_n16 (w:World):Calls prog 141 #[.string ⟨#[106,112,32,110,49,54]⟩] w fun e w'=>e=.returned (.nilFunc)/\w'=w:=by
 go_enter func141,ntmps141
 go_wp2
 go_ret
 exact ⟨rfl,rfl⟩
theorem rn_jp_Cn16 (w:World):Calls prog 141 #[.string ⟨#[106,112,32,67,44,110,49,54]⟩] w fun e w'=>e=.returned (.nilFunc)/\w'=w:=by
 go_enter func141,ntmps141
 go_wp2
 go_ret
 exact ⟨rfl,rfl⟩
theorem rn_jp_hl (w:World):Calls prog 141 #[.string ⟨#[106,112,32,104,108]⟩] w fun e w'=>e=.returned (.nilFunc)/\w'=w:=by
 go_enter func141,ntmps141
 go_wp2
 go_ret
 exact ⟨rfl,rfl⟩
theorem rn_call_n16 (w:World):Calls prog 141 #[.string ⟨#[99,97,108,108,32,110,49,54]⟩] w fun e w'=>e=.returned (.nilFunc)/\w'=w:=by
 go_enter func141,ntmps141
 go_wp2
 go_ret
 exact ⟨rfl,rfl⟩
theorem rn_call_Cn16 (w:World):Calls prog 141 #[.string ⟨#[99,97,108,108,32,67,44,110,49,54]⟩] w fun e w'=>e=.returned (.nilFunc)/\w'=w:=by
 go_enter func141,ntmps141
 go_wp2
 go_ret
 exact ⟨rfl,rfl⟩
theorem rn_rst_H (w:World):Calls prog 141 #[.string ⟨#[114,115,116,32,72]⟩] w fun e w'=>e=.returned (.nilFunc)/\w'=w:=by
 go_enter func141,ntmps141
 go_wp2
 go_ret
 exact ⟨rfl,rfl⟩
theorem rn_ret (w:World):Calls prog 141 #[.string ⟨#[114,101,116]⟩] w fun e w'=>e=.returned (.nilFunc)/\w'=w:=by
 go_enter func141,ntmps141
 go_wp2
 go_ret
 exact ⟨rfl,rfl⟩
theorem rn_ret_C (w:World):Calls prog 141 #[.string ⟨#[114,101,116,32,67]⟩] w fun e w'=>e=.returned (.nilFunc)/\w'=w:=by
 go_enter func141,ntmps141
 go_wp2
 go_ret
 exact ⟨rfl,rfl⟩
theorem rn_reti (w:World):Calls prog 141 #[.string ⟨#[114,101,116,105]⟩] w fun e w'=>e=.returned (.nilFunc)/\w'=w:=by
 go_enter func141,ntmps141
 go_wp2
 go_ret
 exact ⟨rfl,rfl⟩
theorem rn_di (w:World):Calls prog 141 #[.string ⟨#[100,105]⟩] w fun e w'=>e=.returned (.nilFunc)/\w'=w:=by
 go_enter func141,ntmps141
 go_wp2
 go_ret
 exact ⟨rfl,rfl⟩
theorem rn_ei (w:World):Calls prog 141 #[.string ⟨#[101,105]⟩] w fun e w'=>e=.returned (.nilFunc)/\w'=w:=by
 go_enter func141,ntmps141
 go_wp2
 go_ret
 exact ⟨rfl,rfl⟩
theorem rn_halt (w:World):Calls prog 141 #[.string ⟨#[104,97,108,116]⟩] w fun e w'=>e=.returned (.nilFunc)/\w'=w:=by
 go_enter func141,ntmps141
 go_wp2
 go_ret
 exact ⟨rfl,rfl⟩
theorem rn_nop (w:World):Calls prog 141 #[.string ⟨#[110,111,112]⟩] w fun e w'=>e=.returned (.nilFunc)/\w'=w:=by
 go_enter func141,ntmps141
 go_wp2
 go_ret
 exact ⟨rfl,rfl⟩
theorem rn_stop_n8 (w:World):Calls prog 141 #[.string ⟨#[115,116,111,112,32,110,56]⟩] w fun e w'=>e=.returned (.nilFunc)/\w'=w:=by
 go_enter func141,ntmps141
 go_wp2
 go_ret
 exact ⟨rfl,rfl⟩
theorem jp_jr_e8 (w:World):Calls prog 142 #[.string ⟨#[106,114,32,101,56]⟩] w fun e w'=>e=.returned (.func (.func 211) #[] #[])/\w'=w:=by
 go_enter func142,ntmps142
 go_wp2
 go_ret
 exact ⟨rfl,rfl⟩
theorem jp_jr_Ce8 (w:World):Calls prog 142 #[.string ⟨#[106,114,32,67,44,101,56]⟩] w fun e w'=>e=.returned (.func (.func 211) #[] #[])/\w'=w:=by
 go_enter func142,ntmps142
 go_wp2
 go_ret
 exact ⟨rfl,rfl⟩
theorem jp_jp_n16 (w:World):Calls prog 142 #[.string ⟨#[106,112,32,110,49,54]⟩] w fun e w'=>e=.returned (.func (.func 213) #[] #[])/\w'=w:=by
 go_enter func142,ntmps142
 go_wp2
 go_ret
 exact ⟨rfl,rfl⟩
theorem jp_jp_Cn16 (w:World):Calls prog 142 #[.string ⟨#[106,112,32,67,44,110,49,54]⟩] w fun e w'=>e=.returned (.func (.func 213) #[] #[])/\w'=w:=by
 go_enter func142,ntmps142
 go_wp2
 go_ret
 exact ⟨rfl,rfl⟩
theorem jp_jp_hl (w:World):Calls prog 142 #[.string ⟨#[106,112,32,104,108]⟩] w fun e w'=>e=.returned (.func (.func 214) #[] #[])/\w'=w:=by
 go_enter func142,ntmps142
 go_wp2
 go_ret
 exact ⟨rfl,rfl⟩
theorem jp_call_n16 (w:World):Calls prog 142 #[.string ⟨#[99,97,108,108,32,110,49,54]⟩] w fun e w'=>e=.returned (.func (.func 215) #[] #[])/\w'=w:=by
 go_enter func142,ntmps142
 go_wp2
 go_ret
 exact ⟨rfl,rfl⟩
theorem jp_call_Cn16 (w:World):Calls prog 142 #[.string ⟨#[99,97,108,108,32,67,44,110,49,54]⟩] w fun e w'=>e=.returned (.func (.func 215) #[] #[])/\w'=w:=by
 go_enter func142,ntmps142
 go_wp2
 go_ret
 exact ⟨rfl,rfl⟩
theorem jp_rst_H (w:World):Calls prog 142 #[.string ⟨#[114,115,116,32,72]⟩] w fun e w'=>e=.returned (.func (.func 217) #[] #[])/\w'=w:=by
 go_enter func142,ntmps142
 go_wp2
 go_ret
 exact ⟨rfl,rfl⟩
theorem jp_ret (w:World):Calls prog 142 #[.string ⟨#[114,101,116]⟩] w fun e w'=>e=.returned (.func (.func 218) #[] #[])/\w'=w:=by
 go_enter func142,ntmps142
 go_wp2
 go_ret
 exact ⟨rfl,rfl⟩
theorem jp_ret_C (w:World):Calls prog 142 #[.string ⟨#[114,101,116,32,67]⟩] w fun e w'=>e=.returned (.func (.func 218) #[] #[])/\w'=w:=by
 go_enter func142,ntmps142
 go_wp2
 go_ret
 exact ⟨rfl,rfl⟩
theorem jp_reti (w:World):Calls prog 142 #[.string ⟨#[114,101,116,105]⟩] w fun e w'=>e=.returned (.func (.func 220) #[] #[])/\w'=w:=by
 go_enter func142,ntmps142
 go_wp2
 go_ret
 exact ⟨rfl,rfl⟩
theorem jp_di (w:World):Calls prog 142 #[.string ⟨#[100,105]⟩] w fun e w'=>e=.returned (.func (.func 221) #[] #[])/\w'=w:=by
 go_enter func142,ntmps142
 go_wp2
 go_ret
 exact ⟨rfl,rfl⟩
theorem jp_ei (w:World):Calls prog 142 #[.string ⟨#[101,105]⟩] w fun e w'=>e=.returned (.func (.func 222) #[] #[])/\w'=w:=by
 go_enter func142,ntmps142
 go_wp2
 go_ret
 exact ⟨rfl,rfl⟩
theorem jp_halt (w:World):Calls prog 142 #[.string ⟨#[104,97,108,116]⟩] w fun e w'=>e=.returned (.func (.func 223) #[] #[])/\w'=w:=by
 go_enter func142,ntmps142
 go_wp2
 go_ret
 exact ⟨rfl,rfl⟩
theorem jn_nop (w:World):Calls prog 142 #[.string ⟨#[110,111,112]⟩] w fun e w'=>e=.returned (.nilFunc)/\w'=w:=by
 go_enter func142,ntmps142
 go_wp2
 go_ret
 exact ⟨rfl,rfl⟩
theorem jn_stop_n8 (w:World):Calls prog 142 #[.string ⟨#[115,116,111,112,32,110,56]⟩] w fun e w'=>e=.returned (.nilFunc)/\w'=w:=by
 go_enter func142,ntmps142
 go_wp2
 go_ret
 exact ⟨rfl,rfl⟩
end Stpb
namespace Stpd
open Go.Deep
open Busw Busx Stpp Stpq Stpi Stpj Stpr Stpk Stpm Stpn Stpu Stpx Stpy Stpv Stpz Stpw Stpb
theorem fam_0 (w:World):(Instr.index 163 (.agg #[.func (.func 140) #[] #[],.func (.func 141) #[] #[],.func (.func 142) #[] #[]]) (.int .i64 0)).run prog w=.ok (.func (.func 140) #[] #[]) w:=by kernel_rfl
theorem fam_1 (w:World):(Instr.index 163 (.agg #[.func (.func 140) #[] #[],.func (.func 141) #[] #[],.func (.func 142) #[] #[]]) (.int .i64 1)).run prog w=.ok (.func (.func 141) #[] #[]) w:=by kernel_rfl
theorem fam_2 (w:World):(Instr.index 163 (.agg #[.func (.func 140) #[] #[],.func (.func 141) #[] #[],.func (.func 142) #[] #[]]) (.int .i64 2)).run prog w=.ok (.func (.func 142) #[] #[]) w:=by kernel_rfl
theorem neq_nil (w:World):(binOp .neq 129 .nilFunc .nilFunc).run prog w=.ok (.bool false) w:=by kernel_rfl
theorem neq_func (F:FuncId) (cap:Array Value) (w:World):(binOp .neq 129 (.func (.func F) #[] cap) .nilFunc).run prog w=.ok (.bool true) w:=by rfl
theorem act_0 (s:ByteArray) (F:FuncId) (w:World) (h0:∀ W,Calls prog 140 #[.string s] W fun e w'=>e=.returned (.func (.func F) #[] #[])/\w'=W):Calls prog 95 #[.string s] w fun e w'=>e=.returned (.func (.func F) #[] #[])/\w'=w:=by
 have x0:=fam_0
 have x1:=fam_1
 have x2:=fam_2
 have y0:=neq_nil
 have y1:=neq_func
 go_enter func95,ntmps95
 go_wp2_with (go_at_call 140;refine (h0 _).mono ?_;rintro e w' ⟨rfl,hw'⟩;have hw':=hw'.symm;subst hw')
 refine wp_loop_rounds 1 ?_
 rw [rounds_succ]
 go_wp2_with (go_at_call 140;refine (h0 _).mono ?_;rintro e w' ⟨rfl,hw'⟩;have hw':=hw'.symm;subst hw')
 go_ret
 exact ⟨rfl,rfl⟩
theorem act_1 (s:ByteArray) (F:FuncId) (w:World) (h0:∀ W,Calls prog 140 #[.string s] W fun e w'=>e=.returned (.nilFunc)/\w'=W) (h1:∀ W,Calls prog 141 #[.string s] W fun e w'=>e=.returned (.func (.func F) #[] #[])/\w'=W):Calls prog 95 #[.string s] w fun e w'=>e=.returned (.func (.func F) #[] #[])/\w'=w:=by
 have x0:=fam_0
 have x1:=fam_1
 have x2:=fam_2
 have y0:=neq_nil
 have y1:=neq_func
 go_enter func95,ntmps95
 go_wp2_with first|(go_at_call 140;refine (h0 _).mono ?_;rintro e w' ⟨rfl,hw'⟩;have hw':=hw'.symm;subst hw')|(go_at_call 141;refine (h1 _).mono ?_;rintro e w' ⟨rfl,hw'⟩;have hw':=hw'.symm;subst hw')
 refine wp_loop_rounds 2 ?_
 rw [rounds_succ]
 go_wp2_with first|(go_at_call 140;refine (h0 _).mono ?_;rintro e w' ⟨rfl,hw'⟩;have hw':=hw'.symm;subst hw')|(go_at_call 141;refine (h1 _).mono ?_;rintro e w' ⟨rfl,hw'⟩;have hw':=hw'.symm;subst hw')
 rw [rounds_succ]
 go_wp2_with first|(go_at_call 140;refine (h0 _).mono ?_;rintro e w' ⟨rfl,hw'⟩;have hw':=hw'.symm;subst hw')|(go_at_call 141;refine (h1 _).mono ?_;rintro e w' ⟨rfl,hw'⟩;have hw':=hw'.symm;subst hw')
 go_ret
 exact ⟨rfl,rfl⟩
theorem act_2 (s:ByteArray) (F:FuncId) (w:World) (h0:∀ W,Calls prog 140 #[.string s] W fun e w'=>e=.returned (.nilFunc)/\w'=W) (h1:∀ W,Calls prog 141 #[.string s] W fun e w'=>e=.returned (.nilFunc)/\w'=W) (h2:∀ W,Calls prog 142 #[.string s] W fun e w'=>e=.returned (.func (.func F) #[] #[])/\w'=W):Calls prog 95 #[.string s] w fun e w'=>e=.returned (.func (.func F) #[] #[])/\w'=w:=by
 have x0:=fam_0
 have x1:=fam_1
 have x2:=fam_2
 have y0:=neq_nil
 have y1:=neq_func
 go_enter func95,ntmps95
 go_wp2_with first|(go_at_call 140;refine (h0 _).mono ?_;rintro e w' ⟨rfl,hw'⟩;have hw':=hw'.symm;subst hw')|(go_at_call 141;refine (h1 _).mono ?_;rintro e w' ⟨rfl,hw'⟩;have hw':=hw'.symm;subst hw')|(go_at_call 142;refine (h2 _).mono ?_;rintro e w' ⟨rfl,hw'⟩;have hw':=hw'.symm;subst hw')
 refine wp_loop_rounds 3 ?_
 rw [rounds_succ]
 go_wp2_with first|(go_at_call 140;refine (h0 _).mono ?_;rintro e w' ⟨rfl,hw'⟩;have hw':=hw'.symm;subst hw')|(go_at_call 141;refine (h1 _).mono ?_;rintro e w' ⟨rfl,hw'⟩;have hw':=hw'.symm;subst hw')|(go_at_call 142;refine (h2 _).mono ?_;rintro e w' ⟨rfl,hw'⟩;have hw':=hw'.symm;subst hw')
 rw [rounds_succ]
 go_wp2_with first|(go_at_call 140;refine (h0 _).mono ?_;rintro e w' ⟨rfl,hw'⟩;have hw':=hw'.symm;subst hw')|(go_at_call 141;refine (h1 _).mono ?_;rintro e w' ⟨rfl,hw'⟩;have hw':=hw'.symm;subst hw')|(go_at_call 142;refine (h2 _).mono ?_;rintro e w' ⟨rfl,hw'⟩;have hw':=hw'.symm;subst hw')
 rw [rounds_succ]
 go_wp2_with first|(go_at_call 140;refine (h0 _).mono ?_;rintro e w' ⟨rfl,hw'⟩;have hw':=hw'.symm;subst hw')|(go_at_call 141;refine (h1 _).mono ?_;rintro e w' ⟨rfl,hw'⟩;have hw':=hw'.symm;subst hw')|(go_at_call 142;refine (h2 _).mono ?_;rintro e w' ⟨rfl,hw'⟩;have hw':=hw'.symm;subst hw')
 go_ret
 exact ⟨rfl,rfl⟩
theorem act_3 (s:ByteArray) (w:World) (h0:∀ W,Calls prog 140 #[.string s] W fun e w'=>e=.returned (.nilFunc)/\w'=W) (h1:∀ W,Calls prog 141 #[.string s] W fun e w'=>e=.returned (.nilFunc)/\w'=W) (h2:∀ W,Calls prog 142 #[.string s] W fun e w'=>e=.returned (.nilFunc)/\w'=W):Calls prog 95 #[.string s] w fun e w'=>e=.returned (.func (.func 143) #[] #[])/\w'=w:=by
 have x0:=fam_0
 have x1:=fam_1
 have x2:=fam_2
 have y0:=neq_nil
 have y1:=neq_func
 go_enter func95,ntmps95
 go_wp2_with first|(go_at_call 140;refine (h0 _).mono ?_;rintro e w' ⟨rfl,hw'⟩;have hw':=hw'.symm;subst hw')|(go_at_call 141;refine (h1 _).mono ?_;rintro e w' ⟨rfl,hw'⟩;have hw':=hw'.symm;subst hw')|(go_at_call 142;refine (h2 _).mono ?_;rintro e w' ⟨rfl,hw'⟩;have hw':=hw'.symm;subst hw')
 refine wp_loop_rounds 4 ?_
 rw [rounds_succ]
 go_wp2_with first|(go_at_call 140;refine (h0 _).mono ?_;rintro e w' ⟨rfl,hw'⟩;have hw':=hw'.symm;subst hw')|(go_at_call 141;refine (h1 _).mono ?_;rintro e w' ⟨rfl,hw'⟩;have hw':=hw'.symm;subst hw')|(go_at_call 142;refine (h2 _).mono ?_;rintro e w' ⟨rfl,hw'⟩;have hw':=hw'.symm;subst hw')
 rw [rounds_succ]
 go_wp2_with first|(go_at_call 140;refine (h0 _).mono ?_;rintro e w' ⟨rfl,hw'⟩;have hw':=hw'.symm;subst hw')|(go_at_call 141;refine (h1 _).mono ?_;rintro e w' ⟨rfl,hw'⟩;have hw':=hw'.symm;subst hw')|(go_at_call 142;refine (h2 _).mono ?_;rintro e w' ⟨rfl,hw'⟩;have hw':=hw'.symm;subst hw')
 rw [rounds_succ]
 go_wp2_with first|(go_at_call 140;refine (h0 _).mono ?_;rintro e w' ⟨rfl,hw'⟩;have hw':=hw'.symm;subst hw')|(go_at_call 141;refine (h1 _).mono ?_;rintro e w' ⟨rfl,hw'⟩;have hw':=hw'.symm;subst hw')|(go_at_call 142;refine (h2 _).mono ?_;rintro e w' ⟨rfl,hw'⟩;have hw':=hw'.symm;subst hw')
 rw [rounds_succ]
 go_wp2_with first|(go_at_call 140;refine (h0 _).mono ?_;rintro e w' ⟨rfl,hw'⟩;have hw':=hw'.symm;subst hw')|(go_at_call 141;refine (h1 _).mono ?_;rintro e w' ⟨rfl,hw'⟩;have hw':=hw'.symm;subst hw')|(go_at_call 142;refine (h2 _).mono ?_;rintro e w' ⟨rfl,hw'⟩;have hw':=hw'.symm;subst hw')
 go_ret
 exact ⟨rfl,rfl⟩
theorem act_4 (s:ByteArray) (F:FuncId) (v:Value) (w:World) (h0:∀ W,Calls prog 140 #[.string s] W fun e w'=>e=.returned (.func (.func F) #[] #[.pointer (some ⟨W.heap.size,0,none⟩)])/\w'=W.alloc (.cells #[v] 211)):Calls prog 95 #[.string s] w fun e w'=>e=.returned (.func (.func F) #[] #[.pointer (some ⟨w.heap.size,0,none⟩)])/\w'=w.alloc (.cells #[v] 211):=by
 have x0:=fam_0
 have x1:=fam_1
 have x2:=fam_2
 have y0:=neq_nil
 have y1:=neq_func
 go_enter func95,ntmps95
 go_wp2_with (go_at_call 140;refine (h0 _).mono ?_;rintro e w' ⟨rfl,rfl⟩)
 refine wp_loop_rounds 1 ?_
 rw [rounds_succ]
 go_wp2_with (go_at_call 140;refine (h0 _).mono ?_;rintro e w' ⟨rfl,rfl⟩)
 go_ret
 exact ⟨rfl,rfl⟩
end Stpd
end Go.Proofs.YteglcgnhhoenbaaGreatDoor
