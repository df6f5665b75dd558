import Derived.Test.YteglcgnhhoenbaaGreatDoorQ34
set_option linter.all false
set_option maxRecDepth 20000
set_option maxHeartbeats 8000000
open Go.ChangeShapes Go.WideShapes Go.ChangeAt Go.RowKit
open Go.Proofs.Tryz
namespace Go.Proofs.YteglcgnhhoenbaaGreatDoor
namespace Stpb
open Go.Deep
open Busw Busx Stpp Stpq Stpi Stpj Stpr Stpk Stpm Stpn Stpu Stpx Stpy Stpv Stpz Stpw
theorem jV (p:FuncId) (w:World):Calls prog 181 #[.func (.func p) #[] #[]] w fun e w'=>e=.returned (.func (.func 243) #[] #[.pointer (some ⟨w.heap.size,0,none⟩)])/\w'=w.alloc (.cells #[.func (.func p) #[] #[]] 211):=by
 have hmf:∀ (fn:Fn) (first cap:Array Value) (w:World),(Instr.makeFunc fn first cap).run prog w=.ok (.func fn first cap) w:=fun _ _ _ _=>rfl
 go_enter func181,ntmps181
 go_wp2;go_ret;exact ⟨rfl,rfl⟩
theorem lN (p:FuncId) (w:World):Calls prog 183 #[.func (.func p) #[] #[]] w fun e w'=>e=.returned (.func (.func 244) #[] #[.pointer (some ⟨w.heap.size,0,none⟩)])/\w'=w.alloc (.cells #[.func (.func p) #[] #[]] 211):=by
 have hmf:∀ (fn:Fn) (first cap:Array Value) (w:World),(Instr.makeFunc fn first cap).run prog w=.ok (.func fn first cap) w:=fun _ _ _ _=>rfl
 go_enter func183,ntmps183
 go_wp2;go_ret;exact ⟨rfl,rfl⟩
theorem aPF (w:World):Calls prog 140 #[.string ⟨#[108,100,32,82,44,83]⟩] w fun e w'=>e=.returned (.func (.func 169) #[] #[])/\w'=w:=by
 go_enter func140,ntmps140
 go_wp2;go_ret;exact ⟨rfl,rfl⟩
theorem aIE (w:World):Calls prog 140 #[.string ⟨#[108,100,32,82,44,110,56]⟩] w fun e w'=>e=.returned (.func (.func 172) #[] #[])/\w'=w:=by
 go_enter func140,ntmps140
 go_wp2;go_ret;exact ⟨rfl,rfl⟩
theorem aDE (w:World):Calls prog 140 #[.string ⟨#[108,100,32,80,44,110,49,54]⟩] w fun e w'=>e=.returned (.func (.func 173) #[] #[])/\w'=w:=by
 go_enter func140,ntmps140
 go_wp2;go_ret;exact ⟨rfl,rfl⟩
theorem aDF (w:World):Calls prog 140 #[.string ⟨#[108,100,32,115,112,44,104,108]⟩] w fun e w'=>e=.returned (.func (.func 176) #[] #[])/\w'=w:=by
 go_enter func140,ntmps140
 go_wp2;go_ret;exact ⟨rfl,rfl⟩
theorem vR (w:World):Calls prog 140 #[.string ⟨#[108,100,32,91,110,49,54,93,44,115,112]⟩] w fun e w'=>e=.returned (.func (.func 179) #[] #[])/\w'=w:=by
 go_enter func140,ntmps140
 go_wp2;go_ret;exact ⟨rfl,rfl⟩
theorem vT (w:World):Calls prog 140 #[.string ⟨#[108,100,32,104,108,44,115,112,43,101,56]⟩] w fun e w'=>e=.returned (.func (.func 180) #[] #[])/\w'=w:=by
 go_enter func140,ntmps140
 go_wp2;go_ret;exact ⟨rfl,rfl⟩
theorem aPG (w:World):Calls prog 140 #[.string ⟨#[108,100,32,77,44,97]⟩] w fun e w'=>e=.returned (.func (.func 243) #[] #[.pointer (some ⟨w.heap.size,0,none⟩)])/\w'=w.alloc (.cells #[.func (.func 182) #[] #[]] 211):=by
 go_enter func140,ntmps140
 go_wp2_with (go_at_call 181;refine (jV _ _).mono ?_;rintro e w' ⟨rfl,rfl⟩)
 go_ret;exact ⟨rfl,rfl⟩
theorem aPH (w:World):Calls prog 140 #[.string ⟨#[108,100,32,97,44,77]⟩] w fun e w'=>e=.returned (.func (.func 244) #[] #[.pointer (some ⟨w.heap.size,0,none⟩)])/\w'=w.alloc (.cells #[.func (.func 182) #[] #[]] 211):=by
 go_enter func140,ntmps140
 go_wp2_with (go_at_call 183;refine (lN _ _).mono ?_;rintro e w' ⟨rfl,rfl⟩)
 go_ret;exact ⟨rfl,rfl⟩
theorem yX (w:World):Calls prog 140 #[.string ⟨#[108,100,104,32,91,110,56,93,44,97]⟩] w fun e w'=>e=.returned (.func (.func 243) #[] #[.pointer (some ⟨w.heap.size,0,none⟩)])/\w'=w.alloc (.cells #[.func (.func 184) #[] #[]] 211):=by
 go_enter func140,ntmps140
 go_wp2_with (go_at_call 181;refine (jV _ _).mono ?_;rintro e w' ⟨rfl,rfl⟩)
 go_ret;exact ⟨rfl,rfl⟩
theorem yY (w:World):Calls prog 140 #[.string ⟨#[108,100,104,32,97,44,91,110,56,93]⟩] w fun e w'=>e=.returned (.func (.func 244) #[] #[.pointer (some ⟨w.heap.size,0,none⟩)])/\w'=w.alloc (.cells #[.func (.func 184) #[] #[]] 211):=by
 go_enter func140,ntmps140
 go_wp2_with (go_at_call 183;refine (lN _ _).mono ?_;rintro e w' ⟨rfl,rfl⟩)
 go_ret;exact ⟨rfl,rfl⟩
theorem aDG (w:World):Calls prog 140 #[.string ⟨#[108,100,104,32,91,99,93,44,97]⟩] w fun e w'=>e=.returned (.func (.func 243) #[] #[.pointer (some ⟨w.heap.size,0,none⟩)])/\w'=w.alloc (.cells #[.func (.func 185) #[] #[]] 211):=by
 go_enter func140,ntmps140
 go_wp2_with (go_at_call 181;refine (jV _ _).mono ?_;rintro e w' ⟨rfl,rfl⟩)
 go_ret;exact ⟨rfl,rfl⟩
theorem aDH (w:World):Calls prog 140 #[.string ⟨#[108,100,104,32,97,44,91,99,93]⟩] w fun e w'=>e=.returned (.func (.func 244) #[] #[.pointer (some ⟨w.heap.size,0,none⟩)])/\w'=w.alloc (.cells #[.func (.func 185) #[] #[]] 211):=by
 go_enter func140,ntmps140
 go_wp2_with (go_at_call 183;refine (lN _ _).mono ?_;rintro e w' ⟨rfl,rfl⟩)
 go_ret;exact ⟨rfl,rfl⟩
theorem yZ (w:World):Calls prog 140 #[.string ⟨#[108,100,32,91,110,49,54,93,44,97]⟩] w fun e w'=>e=.returned (.func (.func 243) #[] #[.pointer (some ⟨w.heap.size,0,none⟩)])/\w'=w.alloc (.cells #[.func (.func 186) #[] #[]] 211):=by
 go_enter func140,ntmps140
 go_wp2_with (go_at_call 181;refine (jV _ _).mono ?_;rintro e w' ⟨rfl,rfl⟩)
 go_ret;exact ⟨rfl,rfl⟩
theorem zA (w:World):Calls prog 140 #[.string ⟨#[108,100,32,97,44,91,110,49,54,93]⟩] w fun e w'=>e=.returned (.func (.func 244) #[] #[.pointer (some ⟨w.heap.size,0,none⟩)])/\w'=w.alloc (.cells #[.func (.func 186) #[] #[]] 211):=by
 go_enter func140,ntmps140
 go_wp2_with (go_at_call 183;refine (lN _ _).mono ?_;rintro e w' ⟨rfl,rfl⟩)
 go_ret;exact ⟨rfl,rfl⟩
theorem aIF (w:World):Calls prog 140 #[.string ⟨#[112,117,115,104,32,81]⟩] w fun e w'=>e=.returned (.func (.func 187) #[] #[])/\w'=w:=by
 go_enter func140,ntmps140
 go_wp2;go_ret;exact ⟨rfl,rfl⟩
theorem aPI (w:World):Calls prog 140 #[.string ⟨#[112,111,112,32,81]⟩] w fun e w'=>e=.returned (.func (.func 190) #[] #[])/\w'=w:=by
 go_enter func140,ntmps140
 go_wp2;go_ret;exact ⟨rfl,rfl⟩
theorem aWS (w:World):Calls prog 140 #[.string ⟨#[65,32,97,44,83]⟩] w fun e w'=>e=.returned (.nilFunc)/\w'=w:=by
 go_enter func140,ntmps140
 go_wp2;go_ret;exact ⟨rfl,rfl⟩
theorem aPJ (w:World):Calls prog 140 #[.string ⟨#[65,32,97,44,110,56]⟩] w fun e w'=>e=.returned (.nilFunc)/\w'=w:=by
 go_enter func140,ntmps140
 go_wp2;go_ret;exact ⟨rfl,rfl⟩
theorem aPK (w:World):Calls prog 140 #[.string ⟨#[105,110,99,32,82]⟩] w fun e w'=>e=.returned (.nilFunc)/\w'=w:=by
 go_enter func140,ntmps140
 go_wp2;go_ret;exact ⟨rfl,rfl⟩
theorem aPL (w:World):Calls prog 140 #[.string ⟨#[100,101,99,32,82]⟩] w fun e w'=>e=.returned (.nilFunc)/\w'=w:=by
 go_enter func140,ntmps140
 go_wp2;go_ret;exact ⟨rfl,rfl⟩
theorem aPM (w:World):Calls prog 140 #[.string ⟨#[105,110,99,32,80]⟩] w fun e w'=>e=.returned (.nilFunc)/\w'=w:=by
 go_enter func140,ntmps140
 go_wp2;go_ret;exact ⟨rfl,rfl⟩
theorem aPN (w:World):Calls prog 140 #[.string ⟨#[100,101,99,32,80]⟩] w fun e w'=>e=.returned (.nilFunc)/\w'=w:=by
 go_enter func140,ntmps140
 go_wp2;go_ret;exact ⟨rfl,rfl⟩
theorem aDI (w:World):Calls prog 140 #[.string ⟨#[97,100,100,32,104,108,44,80]⟩] w fun e w'=>e=.returned (.nilFunc)/\w'=w:=by
 go_enter func140,ntmps140
 go_wp2;go_ret;exact ⟨rfl,rfl⟩
theorem zC (w:World):Calls prog 140 #[.string ⟨#[97,100,100,32,115,112,44,101,56]⟩] w fun e w'=>e=.returned (.nilFunc)/\w'=w:=by
 go_enter func140,ntmps140
 go_wp2;go_ret;exact ⟨rfl,rfl⟩
theorem aWT (w:World):Calls prog 140 #[.string ⟨#[114,108,99,97]⟩] w fun e w'=>e=.returned (.nilFunc)/\w'=w:=by
 go_enter func140,ntmps140
 go_wp2;go_ret;exact ⟨rfl,rfl⟩
theorem aWU (w:World):Calls prog 140 #[.string ⟨#[114,114,99,97]⟩] w fun e w'=>e=.returned (.nilFunc)/\w'=w:=by
 go_enter func140,ntmps140
 go_wp2;go_ret;exact ⟨rfl,rfl⟩
theorem bDW (w:World):Calls prog 140 #[.string ⟨#[114,108,97]⟩] w fun e w'=>e=.returned (.nilFunc)/\w'=w:=by
 go_enter func140,ntmps140
 go_wp2;go_ret;exact ⟨rfl,rfl⟩
theorem bDX (w:World):Calls prog 140 #[.string ⟨#[114,114,97]⟩] w fun e w'=>e=.returned (.nilFunc)/\w'=w:=by
 go_enter func140,ntmps140
 go_wp2;go_ret;exact ⟨rfl,rfl⟩
theorem bDY (w:World):Calls prog 140 #[.string ⟨#[84,32,83]⟩] w fun e w'=>e=.returned (.nilFunc)/\w'=w:=by
 go_enter func140,ntmps140
 go_wp2;go_ret;exact ⟨rfl,rfl⟩
theorem vU (w:World):Calls prog 140 #[.string ⟨#[66,32,89,44,83]⟩] w fun e w'=>e=.returned (.nilFunc)/\w'=w:=by
 go_enter func140,ntmps140
 go_wp2;go_ret;exact ⟨rfl,rfl⟩
theorem bDZ (w:World):Calls prog 140 #[.string ⟨#[100,97,97]⟩] w fun e w'=>e=.returned (.nilFunc)/\w'=w:=by
 go_enter func140,ntmps140
 go_wp2;go_ret;exact ⟨rfl,rfl⟩
theorem bEA (w:World):Calls prog 140 #[.string ⟨#[99,112,108]⟩] w fun e w'=>e=.returned (.nilFunc)/\w'=w:=by
 go_enter func140,ntmps140
 go_wp2;go_ret;exact ⟨rfl,rfl⟩
theorem bEB (w:World):Calls prog 140 #[.string ⟨#[115,99,102]⟩] w fun e w'=>e=.returned (.nilFunc)/\w'=w:=by
 go_enter func140,ntmps140
 go_wp2;go_ret;exact ⟨rfl,rfl⟩
theorem bEC (w:World):Calls prog 140 #[.string ⟨#[99,99,102]⟩] w fun e w'=>e=.returned (.nilFunc)/\w'=w:=by
 go_enter func140,ntmps140
 go_wp2;go_ret;exact ⟨rfl,rfl⟩
theorem aPO (w:World):Calls prog 140 #[.string ⟨#[106,114,32,101,56]⟩] w fun e w'=>e=.returned (.nilFunc)/\w'=w:=by
 go_enter func140,ntmps140
 go_wp2;go_ret;exact ⟨rfl,rfl⟩
theorem aIG (w:World):Calls prog 140 #[.string ⟨#[106,114,32,67,44,101,56]⟩] w fun e w'=>e=.returned (.nilFunc)/\w'=w:=by
 go_enter func140,ntmps140
 go_wp2;go_ret;exact ⟨rfl,rfl⟩
theorem aIH (w:World):Calls prog 140 #[.string ⟨#[106,112,32,110,49,54]⟩] w fun e w'=>e=.returned (.nilFunc)/\w'=w:=by
 go_enter func140,ntmps140
 go_wp2;go_ret;exact ⟨rfl,rfl⟩
theorem aDJ (w:World):Calls prog 140 #[.string ⟨#[106,112,32,67,44,110,49,54]⟩] w fun e w'=>e=.returned (.nilFunc)/\w'=w:=by
 go_enter func140,ntmps140
 go_wp2;go_ret;exact ⟨rfl,rfl⟩
theorem aPP (w:World):Calls prog 140 #[.string ⟨#[106,112,32,104,108]⟩] w fun e w'=>e=.returned (.nilFunc)/\w'=w:=by
 go_enter func140,ntmps140
 go_wp2;go_ret;exact ⟨rfl,rfl⟩
theorem zD (w:World):Calls prog 140 #[.string ⟨#[99,97,108,108,32,110,49,54]⟩] w fun e w'=>e=.returned (.nilFunc)/\w'=w:=by
 go_enter func140,ntmps140
 go_wp2;go_ret;exact ⟨rfl,rfl⟩
theorem vV (w:World):Calls prog 140 #[.string ⟨#[99,97,108,108,32,67,44,110,49,54]⟩] w fun e w'=>e=.returned (.nilFunc)/\w'=w:=by
 go_enter func140,ntmps140
 go_wp2;go_ret;exact ⟨rfl,rfl⟩
theorem aPQ (w:World):Calls prog 140 #[.string ⟨#[114,115,116,32,72]⟩] w fun e w'=>e=.returned (.nilFunc)/\w'=w:=by
 go_enter func140,ntmps140
 go_wp2;go_ret;exact ⟨rfl,rfl⟩
theorem bED (w:World):Calls prog 140 #[.string ⟨#[114,101,116]⟩] w fun e w'=>e=.returned (.nilFunc)/\w'=w:=by
 go_enter func140,ntmps140
 go_wp2;go_ret;exact ⟨rfl,rfl⟩
theorem aPR (w:World):Calls prog 140 #[.string ⟨#[114,101,116,32,67]⟩] w fun e w'=>e=.returned (.nilFunc)/\w'=w:=by
 go_enter func140,ntmps140
 go_wp2;go_ret;exact ⟨rfl,rfl⟩
theorem aWV (w:World):Calls prog 140 #[.string ⟨#[114,101,116,105]⟩] w fun e w'=>e=.returned (.nilFunc)/\w'=w:=by
 go_enter func140,ntmps140
 go_wp2;go_ret;exact ⟨rfl,rfl⟩
theorem bIH (w:World):Calls prog 140 #[.string ⟨#[100,105]⟩] w fun e w'=>e=.returned (.nilFunc)/\w'=w:=by
 go_enter func140,ntmps140
 go_wp2;go_ret;exact ⟨rfl,rfl⟩
theorem bII (w:World):Calls prog 140 #[.string ⟨#[101,105]⟩] w fun e w'=>e=.returned (.nilFunc)/\w'=w:=by
 go_enter func140,ntmps140
 go_wp2;go_ret;exact ⟨rfl,rfl⟩
theorem aWW (w:World):Calls prog 140 #[.string ⟨#[104,97,108,116]⟩] w fun e w'=>e=.returned (.nilFunc)/\w'=w:=by
 go_enter func140,ntmps140
 go_wp2;go_ret;exact ⟨rfl,rfl⟩
theorem bEE (w:World):Calls prog 140 #[.string ⟨#[110,111,112]⟩] w fun e w'=>e=.returned (.nilFunc)/\w'=w:=by
 go_enter func140,ntmps140
 go_wp2;go_ret;exact ⟨rfl,rfl⟩
theorem aDK (w:World):Calls prog 140 #[.string ⟨#[115,116,111,112,32,110,56]⟩] w fun e w'=>e=.returned (.nilFunc)/\w'=w:=by
 go_enter func140,ntmps140
 go_wp2;go_ret;exact ⟨rfl,rfl⟩
theorem aWX (w:World):Calls prog 141 #[.string ⟨#[65,32,97,44,83]⟩] w fun e w'=>e=.returned (.func (.func 191) #[] #[])/\w'=w:=by
 go_enter func141,ntmps141
 go_wp2;go_ret;exact ⟨rfl,rfl⟩
theorem aPS (w:World):Calls prog 141 #[.string ⟨#[65,32,97,44,110,56]⟩] w fun e w'=>e=.returned (.func (.func 193) #[] #[])/\w'=w:=by
 go_enter func141,ntmps141
 go_wp2;go_ret;exact ⟨rfl,rfl⟩
theorem aPT (w:World):Calls prog 141 #[.string ⟨#[105,110,99,32,82]⟩] w fun e w'=>e=.returned (.func (.func 194) #[] #[])/\w'=w:=by
 go_enter func141,ntmps141
 go_wp2;go_ret;exact ⟨rfl,rfl⟩
theorem aPU (w:World):Calls prog 141 #[.string ⟨#[100,101,99,32,82]⟩] w fun e w'=>e=.returned (.func (.func 196) #[] #[])/\w'=w:=by
 go_enter func141,ntmps141
 go_wp2;go_ret;exact ⟨rfl,rfl⟩
theorem aPV (w:World):Calls prog 141 #[.string ⟨#[105,110,99,32,80]⟩] w fun e w'=>e=.returned (.func (.func 197) #[] #[])/\w'=w:=by
 go_enter func141,ntmps141
 go_wp2;go_ret;exact ⟨rfl,rfl⟩
theorem aPW (w:World):Calls prog 141 #[.string ⟨#[100,101,99,32,80]⟩] w fun e w'=>e=.returned (.func (.func 199) #[] #[])/\w'=w:=by
 go_enter func141,ntmps141
 go_wp2;go_ret;exact ⟨rfl,rfl⟩
theorem aDL (w:World):Calls prog 141 #[.string ⟨#[97,100,100,32,104,108,44,80]⟩] w fun e w'=>e=.returned (.func (.func 200) #[] #[])/\w'=w:=by
 go_enter func141,ntmps141
 go_wp2;go_ret;exact ⟨rfl,rfl⟩
theorem zE (w:World):Calls prog 141 #[.string ⟨#[97,100,100,32,115,112,44,101,56]⟩] w fun e w'=>e=.returned (.func (.func 201) #[] #[])/\w'=w:=by
 go_enter func141,ntmps141
 go_wp2;go_ret;exact ⟨rfl,rfl⟩
theorem aWY (w:World):Calls prog 141 #[.string ⟨#[114,108,99,97]⟩] w fun e w'=>e=.returned (.func (.func 203) #[] #[])/\w'=w:=by
 go_enter func141,ntmps141
 go_wp2;go_ret;exact ⟨rfl,rfl⟩
theorem aWZ (w:World):Calls prog 141 #[.string ⟨#[114,114,99,97]⟩] w fun e w'=>e=.returned (.func (.func 203) #[] #[])/\w'=w:=by
 go_enter func141,ntmps141
 go_wp2;go_ret;exact ⟨rfl,rfl⟩
theorem bEF (w:World):Calls prog 141 #[.string ⟨#[114,108,97]⟩] w fun e w'=>e=.returned (.func (.func 203) #[] #[])/\w'=w:=by
 go_enter func141,ntmps141
 go_wp2;go_ret;exact ⟨rfl,rfl⟩
theorem bEG (w:World):Calls prog 141 #[.string ⟨#[114,114,97]⟩] w fun e w'=>e=.returned (.func (.func 203) #[] #[])/\w'=w:=by
 go_enter func141,ntmps141
 go_wp2;go_ret;exact ⟨rfl,rfl⟩
theorem bEH (w:World):Calls prog 141 #[.string ⟨#[84,32,83]⟩] w fun e w'=>e=.returned (.func (.func 204) #[] #[])/\w'=w:=by
 go_enter func141,ntmps141
 go_wp2;go_ret;exact ⟨rfl,rfl⟩
theorem vW (w:World):Calls prog 141 #[.string ⟨#[66,32,89,44,83]⟩] w fun e w'=>e=.returned (.func (.func 205) #[] #[])/\w'=w:=by
 go_enter func141,ntmps141
 go_wp2;go_ret;exact ⟨rfl,rfl⟩
theorem bEI (w:World):Calls prog 141 #[.string ⟨#[100,97,97]⟩] w fun e w'=>e=.returned (.func (.func 206) #[] #[])/\w'=w:=by
 go_enter func141,ntmps141
 go_wp2;go_ret;exact ⟨rfl,rfl⟩
theorem bEJ (w:World):Calls prog 141 #[.string ⟨#[99,112,108]⟩] w fun e w'=>e=.returned (.func (.func 208) #[] #[])/\w'=w:=by
 go_enter func141,ntmps141
 go_wp2;go_ret;exact ⟨rfl,rfl⟩
theorem bEK (w:World):Calls prog 141 #[.string ⟨#[115,99,102]⟩] w fun e w'=>e=.returned (.func (.func 209) #[] #[])/\w'=w:=by
 go_enter func141,ntmps141
 go_wp2;go_ret;exact ⟨rfl,rfl⟩
theorem bEL (w:World):Calls prog 141 #[.string ⟨#[99,99,102]⟩] w fun e w'=>e=.returned (.func (.func 210) #[] #[])/\w'=w:=by
 go_enter func141,ntmps141
 go_wp2;go_ret;exact ⟨rfl,rfl⟩
theorem aPX (w:World):Calls prog 141 #[.string ⟨#[106,114,32,101,56]⟩] w fun e w'=>e=.returned (.nilFunc)/\w'=w:=by
 go_enter func141,ntmps141
 go_wp2;go_ret;exact ⟨rfl,rfl⟩
theorem aII (w:World):Calls prog 141 #[.string ⟨#[106,114,32,67,44,101,56]⟩] w fun e w'=>e=.returned (.nilFunc)/\w'=w:=by
 go_enter func141,ntmps141
 go_wp2;go_ret;exact ⟨rfl,rfl⟩
theorem aIJ (w:World):Calls prog 141 #[.string ⟨#[106,112,32,110,49,54]⟩] w fun e w'=>e=.returned (.nilFunc)/\w'=w:=by
 go_enter func141,ntmps141
 go_wp2;go_ret;exact ⟨rfl,rfl⟩
theorem aDM (w:World):Calls prog 141 #[.string ⟨#[106,112,32,67,44,110,49,54]⟩] w fun e w'=>e=.returned (.nilFunc)/\w'=w:=by
 go_enter func141,ntmps141
 go_wp2;go_ret;exact ⟨rfl,rfl⟩
theorem aPY (w:World):Calls prog 141 #[.string ⟨#[106,112,32,104,108]⟩] w fun e w'=>e=.returned (.nilFunc)/\w'=w:=by
 go_enter func141,ntmps141
 go_wp2;go_ret;exact ⟨rfl,rfl⟩
theorem zF (w:World):Calls prog 141 #[.string ⟨#[99,97,108,108,32,110,49,54]⟩] w fun e w'=>e=.returned (.nilFunc)/\w'=w:=by
 go_enter func141,ntmps141
 go_wp2;go_ret;exact ⟨rfl,rfl⟩
theorem vX (w:World):Calls prog 141 #[.string ⟨#[99,97,108,108,32,67,44,110,49,54]⟩] w fun e w'=>e=.returned (.nilFunc)/\w'=w:=by
 go_enter func141,ntmps141
 go_wp2;go_ret;exact ⟨rfl,rfl⟩
theorem aPZ (w:World):Calls prog 141 #[.string ⟨#[114,115,116,32,72]⟩] w fun e w'=>e=.returned (.nilFunc)/\w'=w:=by
 go_enter func141,ntmps141
 go_wp2;go_ret;exact ⟨rfl,rfl⟩
theorem bEM (w:World):Calls prog 141 #[.string ⟨#[114,101,116]⟩] w fun e w'=>e=.returned (.nilFunc)/\w'=w:=by
 go_enter func141,ntmps141
 go_wp2;go_ret;exact ⟨rfl,rfl⟩
theorem aQA (w:World):Calls prog 141 #[.string ⟨#[114,101,116,32,67]⟩] w fun e w'=>e=.returned (.nilFunc)/\w'=w:=by
 go_enter func141,ntmps141
 go_wp2;go_ret;exact ⟨rfl,rfl⟩
theorem aXA (w:World):Calls prog 141 #[.string ⟨#[114,101,116,105]⟩] w fun e w'=>e=.returned (.nilFunc)/\w'=w:=by
 go_enter func141,ntmps141
 go_wp2;go_ret;exact ⟨rfl,rfl⟩
theorem bIJ (w:World):Calls prog 141 #[.string ⟨#[100,105]⟩] w fun e w'=>e=.returned (.nilFunc)/\w'=w:=by
 go_enter func141,ntmps141
 go_wp2;go_ret;exact ⟨rfl,rfl⟩
theorem bIK (w:World):Calls prog 141 #[.string ⟨#[101,105]⟩] w fun e w'=>e=.returned (.nilFunc)/\w'=w:=by
 go_enter func141,ntmps141
 go_wp2;go_ret;exact ⟨rfl,rfl⟩
theorem aXB (w:World):Calls prog 141 #[.string ⟨#[104,97,108,116]⟩] w fun e w'=>e=.returned (.nilFunc)/\w'=w:=by
 go_enter func141,ntmps141
 go_wp2;go_ret;exact ⟨rfl,rfl⟩
theorem bEN (w:World):Calls prog 141 #[.string ⟨#[110,111,112]⟩] w fun e w'=>e=.returned (.nilFunc)/\w'=w:=by
 go_enter func141,ntmps141
 go_wp2;go_ret;exact ⟨rfl,rfl⟩
theorem aDN (w:World):Calls prog 141 #[.string ⟨#[115,116,111,112,32,110,56]⟩] w fun e w'=>e=.returned (.nilFunc)/\w'=w:=by
 go_enter func141,ntmps141
 go_wp2;go_ret;exact ⟨rfl,rfl⟩
theorem aQB (w:World):Calls prog 142 #[.string ⟨#[106,114,32,101,56]⟩] w fun e w'=>e=.returned (.func (.func 211) #[] #[])/\w'=w:=by
 go_enter func142,ntmps142
 go_wp2;go_ret;exact ⟨rfl,rfl⟩
theorem aIK (w:World):Calls prog 142 #[.string ⟨#[106,114,32,67,44,101,56]⟩] w fun e w'=>e=.returned (.func (.func 211) #[] #[])/\w'=w:=by
 go_enter func142,ntmps142
 go_wp2;go_ret;exact ⟨rfl,rfl⟩
theorem aIL (w:World):Calls prog 142 #[.string ⟨#[106,112,32,110,49,54]⟩] w fun e w'=>e=.returned (.func (.func 213) #[] #[])/\w'=w:=by
 go_enter func142,ntmps142
 go_wp2;go_ret;exact ⟨rfl,rfl⟩
theorem aDO (w:World):Calls prog 142 #[.string ⟨#[106,112,32,67,44,110,49,54]⟩] w fun e w'=>e=.returned (.func (.func 213) #[] #[])/\w'=w:=by
 go_enter func142,ntmps142
 go_wp2;go_ret;exact ⟨rfl,rfl⟩
theorem aQC (w:World):Calls prog 142 #[.string ⟨#[106,112,32,104,108]⟩] w fun e w'=>e=.returned (.func (.func 214) #[] #[])/\w'=w:=by
 go_enter func142,ntmps142
 go_wp2;go_ret;exact ⟨rfl,rfl⟩
theorem zG (w:World):Calls prog 142 #[.string ⟨#[99,97,108,108,32,110,49,54]⟩] w fun e w'=>e=.returned (.func (.func 215) #[] #[])/\w'=w:=by
 go_enter func142,ntmps142
 go_wp2;go_ret;exact ⟨rfl,rfl⟩
theorem vY (w:World):Calls prog 142 #[.string ⟨#[99,97,108,108,32,67,44,110,49,54]⟩] w fun e w'=>e=.returned (.func (.func 215) #[] #[])/\w'=w:=by
 go_enter func142,ntmps142
 go_wp2;go_ret;exact ⟨rfl,rfl⟩
theorem aQD (w:World):Calls prog 142 #[.string ⟨#[114,115,116,32,72]⟩] w fun e w'=>e=.returned (.func (.func 217) #[] #[])/\w'=w:=by
 go_enter func142,ntmps142
 go_wp2;go_ret;exact ⟨rfl,rfl⟩
theorem bEO (w:World):Calls prog 142 #[.string ⟨#[114,101,116]⟩] w fun e w'=>e=.returned (.func (.func 218) #[] #[])/\w'=w:=by
 go_enter func142,ntmps142
 go_wp2;go_ret;exact ⟨rfl,rfl⟩
theorem aQE (w:World):Calls prog 142 #[.string ⟨#[114,101,116,32,67]⟩] w fun e w'=>e=.returned (.func (.func 218) #[] #[])/\w'=w:=by
 go_enter func142,ntmps142
 go_wp2;go_ret;exact ⟨rfl,rfl⟩
theorem aXC (w:World):Calls prog 142 #[.string ⟨#[114,101,116,105]⟩] w fun e w'=>e=.returned (.func (.func 220) #[] #[])/\w'=w:=by
 go_enter func142,ntmps142
 go_wp2;go_ret;exact ⟨rfl,rfl⟩
theorem bIL (w:World):Calls prog 142 #[.string ⟨#[100,105]⟩] w fun e w'=>e=.returned (.func (.func 221) #[] #[])/\w'=w:=by
 go_enter func142,ntmps142
 go_wp2;go_ret;exact ⟨rfl,rfl⟩
theorem bIM (w:World):Calls prog 142 #[.string ⟨#[101,105]⟩] w fun e w'=>e=.returned (.func (.func 222) #[] #[])/\w'=w:=by
 go_enter func142,ntmps142
 go_wp2;go_ret;exact ⟨rfl,rfl⟩
theorem aXD (w:World):Calls prog 142 #[.string ⟨#[104,97,108,116]⟩] w fun e w'=>e=.returned (.func (.func 223) #[] #[])/\w'=w:=by
 go_enter func142,ntmps142
 go_wp2;go_ret;exact ⟨rfl,rfl⟩
theorem bEP (w:World):Calls prog 142 #[.string ⟨#[110,111,112]⟩] w fun e w'=>e=.returned (.nilFunc)/\w'=w:=by
 go_enter func142,ntmps142
 go_wp2;go_ret;exact ⟨rfl,rfl⟩
theorem aDP (w:World):Calls prog 142 #[.string ⟨#[115,116,111,112,32,110,56]⟩] w fun e w'=>e=.returned (.nilFunc)/\w'=w:=by
 go_enter func142,ntmps142
 go_wp2;go_ret;exact ⟨rfl,rfl⟩
end Stpb
namespace Stpd
open Go.Deep
open Busw Busx Stpp Stpq Stpi Stpj Stpr Stpk Stpm Stpn Stpu Stpx Stpy Stpv Stpz Stpw Stpb
theorem zH (w:World):(Instr.index 163 (.agg #[.func (.func 140) #[] #[],.func (.func 141) #[] #[],.func (.func 142) #[] #[]]) (.int .i64 0)).run prog w=.ok (.func (.func 140) #[] #[]) w:=by kernel_rfl
theorem zI (w:World):(Instr.index 163 (.agg #[.func (.func 140) #[] #[],.func (.func 141) #[] #[],.func (.func 142) #[] #[]]) (.int .i64 1)).run prog w=.ok (.func (.func 141) #[] #[]) w:=by kernel_rfl
theorem zJ (w:World):(Instr.index 163 (.agg #[.func (.func 140) #[] #[],.func (.func 141) #[] #[],.func (.func 142) #[] #[]]) (.int .i64 2)).run prog w=.ok (.func (.func 142) #[] #[]) w:=by kernel_rfl
theorem nO (w:World):(binOp .neq 129 .nilFunc .nilFunc).run prog w=.ok (.bool false) w:=by kernel_rfl
theorem kU (F:FuncId) (cap:Array Value) (w:World):(binOp .neq 129 (.func (.func F) #[] cap) .nilFunc).run prog w=.ok (.bool true) w:=by rfl
theorem pK (s:ByteArray) (F:FuncId) (w:World) (h0:∀ W,Calls prog 140 #[.string s] W fun e w'=>e=.returned (.func (.func F) #[] #[])/\w'=W):Calls prog 95 #[.string s] w fun e w'=>e=.returned (.func (.func F) #[] #[])/\w'=w:=by
 have x0:=zH;have x1:=zI;have x2:=zJ;have y0:=nO;have y1:=kU
 go_enter func95,ntmps95
 go_wp2_with (go_at_call 140;refine (h0 _).mono ?_;rintro e w' ⟨rfl,hw'⟩;have hw':=hw'.symm;subst hw')
 refine wp_loop_rounds 1 ?_;rw [rounds_succ]
 go_wp2_with (go_at_call 140;refine (h0 _).mono ?_;rintro e w' ⟨rfl,hw'⟩;have hw':=hw'.symm;subst hw')
 go_ret;exact ⟨rfl,rfl⟩
theorem fE (s:ByteArray) (F:FuncId) (w:World) (h0:∀ W,Calls prog 140 #[.string s] W fun e w'=>e=.returned (.nilFunc)/\w'=W) (h1:∀ W,Calls prog 141 #[.string s] W fun e w'=>e=.returned (.func (.func F) #[] #[])/\w'=W):Calls prog 95 #[.string s] w fun e w'=>e=.returned (.func (.func F) #[] #[])/\w'=w:=by
 have x0:=zH;have x1:=zI;have x2:=zJ;have y0:=nO;have y1:=kU
 go_enter func95,ntmps95
 go_wp2_with first|(go_at_call 140;refine (h0 _).mono ?_;rintro e w' ⟨rfl,hw'⟩;have hw':=hw'.symm;subst hw')|(go_at_call 141;refine (h1 _).mono ?_;rintro e w' ⟨rfl,hw'⟩;have hw':=hw'.symm;subst hw')
 refine wp_loop_rounds 2 ?_;rw [rounds_succ]
 go_wp2_with first|(go_at_call 140;refine (h0 _).mono ?_;rintro e w' ⟨rfl,hw'⟩;have hw':=hw'.symm;subst hw')|(go_at_call 141;refine (h1 _).mono ?_;rintro e w' ⟨rfl,hw'⟩;have hw':=hw'.symm;subst hw')
 rw [rounds_succ]
 go_wp2_with first|(go_at_call 140;refine (h0 _).mono ?_;rintro e w' ⟨rfl,hw'⟩;have hw':=hw'.symm;subst hw')|(go_at_call 141;refine (h1 _).mono ?_;rintro e w' ⟨rfl,hw'⟩;have hw':=hw'.symm;subst hw')
 go_ret;exact ⟨rfl,rfl⟩
theorem iG (s:ByteArray) (F:FuncId) (w:World) (h0:∀ W,Calls prog 140 #[.string s] W fun e w'=>e=.returned (.nilFunc)/\w'=W) (h1:∀ W,Calls prog 141 #[.string s] W fun e w'=>e=.returned (.nilFunc)/\w'=W) (h2:∀ W,Calls prog 142 #[.string s] W fun e w'=>e=.returned (.func (.func F) #[] #[])/\w'=W):Calls prog 95 #[.string s] w fun e w'=>e=.returned (.func (.func F) #[] #[])/\w'=w:=by
 have x0:=zH;have x1:=zI;have x2:=zJ;have y0:=nO;have y1:=kU
 go_enter func95,ntmps95
 go_wp2_with first|(go_at_call 140;refine (h0 _).mono ?_;rintro e w' ⟨rfl,hw'⟩;have hw':=hw'.symm;subst hw')|(go_at_call 141;refine (h1 _).mono ?_;rintro e w' ⟨rfl,hw'⟩;have hw':=hw'.symm;subst hw')|(go_at_call 142;refine (h2 _).mono ?_;rintro e w' ⟨rfl,hw'⟩;have hw':=hw'.symm;subst hw')
 refine wp_loop_rounds 3 ?_;rw [rounds_succ]
 go_wp2_with first|(go_at_call 140;refine (h0 _).mono ?_;rintro e w' ⟨rfl,hw'⟩;have hw':=hw'.symm;subst hw')|(go_at_call 141;refine (h1 _).mono ?_;rintro e w' ⟨rfl,hw'⟩;have hw':=hw'.symm;subst hw')|(go_at_call 142;refine (h2 _).mono ?_;rintro e w' ⟨rfl,hw'⟩;have hw':=hw'.symm;subst hw')
 rw [rounds_succ]
 go_wp2_with first|(go_at_call 140;refine (h0 _).mono ?_;rintro e w' ⟨rfl,hw'⟩;have hw':=hw'.symm;subst hw')|(go_at_call 141;refine (h1 _).mono ?_;rintro e w' ⟨rfl,hw'⟩;have hw':=hw'.symm;subst hw')|(go_at_call 142;refine (h2 _).mono ?_;rintro e w' ⟨rfl,hw'⟩;have hw':=hw'.symm;subst hw')
 rw [rounds_succ]
 go_wp2_with first|(go_at_call 140;refine (h0 _).mono ?_;rintro e w' ⟨rfl,hw'⟩;have hw':=hw'.symm;subst hw')|(go_at_call 141;refine (h1 _).mono ?_;rintro e w' ⟨rfl,hw'⟩;have hw':=hw'.symm;subst hw')|(go_at_call 142;refine (h2 _).mono ?_;rintro e w' ⟨rfl,hw'⟩;have hw':=hw'.symm;subst hw')
 go_ret;exact ⟨rfl,rfl⟩
theorem aYW (s:ByteArray) (w:World) (h0:∀ W,Calls prog 140 #[.string s] W fun e w'=>e=.returned (.nilFunc)/\w'=W) (h1:∀ W,Calls prog 141 #[.string s] W fun e w'=>e=.returned (.nilFunc)/\w'=W) (h2:∀ W,Calls prog 142 #[.string s] W fun e w'=>e=.returned (.nilFunc)/\w'=W):Calls prog 95 #[.string s] w fun e w'=>e=.returned (.func (.func 143) #[] #[])/\w'=w:=by
 have x0:=zH;have x1:=zI;have x2:=zJ;have y0:=nO;have y1:=kU
 go_enter func95,ntmps95
 go_wp2_with first|(go_at_call 140;refine (h0 _).mono ?_;rintro e w' ⟨rfl,hw'⟩;have hw':=hw'.symm;subst hw')|(go_at_call 141;refine (h1 _).mono ?_;rintro e w' ⟨rfl,hw'⟩;have hw':=hw'.symm;subst hw')|(go_at_call 142;refine (h2 _).mono ?_;rintro e w' ⟨rfl,hw'⟩;have hw':=hw'.symm;subst hw')
 refine wp_loop_rounds 4 ?_;rw [rounds_succ]
 go_wp2_with first|(go_at_call 140;refine (h0 _).mono ?_;rintro e w' ⟨rfl,hw'⟩;have hw':=hw'.symm;subst hw')|(go_at_call 141;refine (h1 _).mono ?_;rintro e w' ⟨rfl,hw'⟩;have hw':=hw'.symm;subst hw')|(go_at_call 142;refine (h2 _).mono ?_;rintro e w' ⟨rfl,hw'⟩;have hw':=hw'.symm;subst hw')
 rw [rounds_succ]
 go_wp2_with first|(go_at_call 140;refine (h0 _).mono ?_;rintro e w' ⟨rfl,hw'⟩;have hw':=hw'.symm;subst hw')|(go_at_call 141;refine (h1 _).mono ?_;rintro e w' ⟨rfl,hw'⟩;have hw':=hw'.symm;subst hw')|(go_at_call 142;refine (h2 _).mono ?_;rintro e w' ⟨rfl,hw'⟩;have hw':=hw'.symm;subst hw')
 rw [rounds_succ]
 go_wp2_with first|(go_at_call 140;refine (h0 _).mono ?_;rintro e w' ⟨rfl,hw'⟩;have hw':=hw'.symm;subst hw')|(go_at_call 141;refine (h1 _).mono ?_;rintro e w' ⟨rfl,hw'⟩;have hw':=hw'.symm;subst hw')|(go_at_call 142;refine (h2 _).mono ?_;rintro e w' ⟨rfl,hw'⟩;have hw':=hw'.symm;subst hw')
 rw [rounds_succ]
 go_wp2_with first|(go_at_call 140;refine (h0 _).mono ?_;rintro e w' ⟨rfl,hw'⟩;have hw':=hw'.symm;subst hw')|(go_at_call 141;refine (h1 _).mono ?_;rintro e w' ⟨rfl,hw'⟩;have hw':=hw'.symm;subst hw')|(go_at_call 142;refine (h2 _).mono ?_;rintro e w' ⟨rfl,hw'⟩;have hw':=hw'.symm;subst hw')
 go_ret;exact ⟨rfl,rfl⟩
theorem pL (s:ByteArray) (F:FuncId) (v:Value) (w:World) (h0:∀ W,Calls prog 140 #[.string s] W fun e w'=>e=.returned (.func (.func F) #[] #[.pointer (some ⟨W.heap.size,0,none⟩)])/\w'=W.alloc (.cells #[v] 211)):Calls prog 95 #[.string s] w fun e w'=>e=.returned (.func (.func F) #[] #[.pointer (some ⟨w.heap.size,0,none⟩)])/\w'=w.alloc (.cells #[v] 211):=by
 have x0:=zH;have x1:=zI;have x2:=zJ;have y0:=nO;have y1:=kU
 go_enter func95,ntmps95
 go_wp2_with (go_at_call 140;refine (h0 _).mono ?_;rintro e w' ⟨rfl,rfl⟩)
 refine wp_loop_rounds 1 ?_;rw [rounds_succ]
 go_wp2_with (go_at_call 140;refine (h0 _).mono ?_;rintro e w' ⟨rfl,rfl⟩)
 go_ret;exact ⟨rfl,rfl⟩
end Stpd
end Go.Proofs.YteglcgnhhoenbaaGreatDoor
