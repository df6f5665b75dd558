/- For every slice of bytes the law FnFits answers true, that is, of the text drawn from them program and specification tell the same instruction, hole and expression, and alike whether it fits; what fits has a length, has an expression where it has a hole and none where it has none, and without a hole its instruction's text is the text; and the text of the drawn instruction, where that is right, is told as of its own code; the tables of the program and of the library hold what the row says. -/
import Derived.Test.YtbofcepdckpkkaaGreatDoorCards
import Derived.Test.YtbofcepdckpkkaaGreatDoorTie
import Derived.ChangeOld
import Derived.ChangeVars
import Derived.OpenVars
import Derived.Deep.DeepHandedRow
import Derived.Test.YtbofcepdckpkkaaGreatDoorP29
set_option linter.all false
set_option maxRecDepth 20000
set_option maxHeartbeats 8000000
open Go.ChangeShapes Go.WideShapes Go.ChangeAt Go.RowKit
open Go.Proofs.Tryz
namespace Go.Proofs.YtbofcepdckpkkaaGreatDoor.fnFits
open Go.ChangeMaps (open_string shut_string)
theorem own:ownKnob prog.godebug=none:=by kernel_rfl
theorem laidOut:laidOutB prog=true:=by kernel_rfl
theorem rowed:varsRowed prog Rows.fnFitsSpec.vars=true:=by kernel_rfl
def IsRow (k:IntKind) (w:World) (a:Option Addr) (len cap:Nat) (zs:List Int):Prop :=
 (a=none/\len=0/\cap=0/\zs=[]) \/
 ∃ x,a=some x/\len<=cap/\cap<=maxLen/\zs.length=cap/\(∀ i,i<zs.length->w.cell? (x.add i)=some (.int k (zs.getD i 0)))/\∀ n ∈ zs,(Lit.int k n).wf=true
theorem tables {W:World} (h:laidMetH prog Rows.fnFitsRow.laid W):PartN.Tables W:=by
 obtain ⟨q0,L0,_⟩ : laidMet prog Rows.fnFitsRow.laid W:=h
 obtain ⟨q1,L1⟩:=Laid.skip L0
 obtain ⟨q2,L2⟩:=Laid.skip L1
 obtain ⟨q3,L3⟩:=Laid.skip L2
 obtain ⟨q4,L4⟩:=Laid.skip L3
 have t4:=Laid.nums (P:=prog) (k:=.u8) (zs:=[48,49,50,51,52,53,54,55,56,57,65,66,67,68,69,70]) (show prog.globalNamed "loop.example/g00460/impl.hexDigits" = some 8 by kernel_rfl) (show (prog.globals[8]?).map (·.type)=some 113 by kernel_rfl) underlying113 underlying5 (by kernel_rfl) (by kernel_rfl) L4
 obtain ⟨q5,L5⟩:=Laid.skip L4
 have t5:=Laid.txts (P:=prog) (l:=[[98],[99],[100],[101],[104],[108],[91,104,108,93],[97]]) (show prog.globalNamed "loop.example/g00460/impl.regNames" = some 6 by kernel_rfl) (show (prog.globals[6]?).map (·.type)=some 107 by kernel_rfl) underlying107 underlying9 (by kernel_rfl) (by kernel_rfl) L5
 obtain ⟨q6,L6⟩:=Laid.skip L5
 have t6:=Laid.txts (P:=prog) (l:=[[98,99],[100,101],[104,108],[115,112]]) (show prog.globalNamed "loop.example/g00460/impl.pairNames" = some 4 by kernel_rfl) (show (prog.globals[4]?).map (·.type)=some 109 by kernel_rfl) underlying109 underlying9 (by kernel_rfl) (by kernel_rfl) L6
 obtain ⟨q7,L7⟩:=Laid.skip L6
 have t7:=Laid.txts (P:=prog) (l:=[[98,99],[100,101],[104,108],[97,102]]) (show prog.globalNamed "loop.example/g00460/impl.stackNames" = some 5 by kernel_rfl) (show (prog.globals[5]?).map (·.type)=some 109 by kernel_rfl) underlying109 underlying9 (by kernel_rfl) (by kernel_rfl) L7
 obtain ⟨q8,L8⟩:=Laid.skip L7
 have t8:=Laid.txts (P:=prog) (l:=[[91,98,99,93],[91,100,101,93],[91,104,108,43,93],[91,104,108,45,93]]) (show prog.globalNamed "loop.example/g00460/impl.placeNames" = some 3 by kernel_rfl) (show (prog.globals[3]?).map (·.type)=some 109 by kernel_rfl) underlying109 underlying9 (by kernel_rfl) (by kernel_rfl) L8
 obtain ⟨q9,L9⟩:=Laid.skip L8
 have t9:=Laid.txts (P:=prog) (l:=[[110,122],[122],[110,99],[99]]) (show prog.globalNamed "loop.example/g00460/impl.condNames" = some 2 by kernel_rfl) (show (prog.globals[2]?).map (·.type)=some 109 by kernel_rfl) underlying109 underlying9 (by kernel_rfl) (by kernel_rfl) L9
 obtain ⟨q10,L10⟩:=Laid.skip L9
 have t10:=Laid.txts (P:=prog) (l:=[[97,100,100],[97,100,99],[115,117,98],[115,98,99],[97,110,100],[120,111,114],[111,114],[99,112]]) (show prog.globalNamed "loop.example/g00460/impl.aluNames" = some 0 by kernel_rfl) (show (prog.globals[0]?).map (·.type)=some 107 by kernel_rfl) underlying107 underlying9 (by kernel_rfl) (by kernel_rfl) L10
 obtain ⟨q11,L11⟩:=Laid.skip L10
 have t11:=Laid.txts (P:=prog) (l:=[[114,108,99],[114,114,99],[114,108],[114,114],[115,108,97],[115,114,97],[115,119,97,112],[115,114,108]]) (show prog.globalNamed "loop.example/g00460/impl.turnNames" = some 7 by kernel_rfl) (show (prog.globals[7]?).map (·.type)=some 107 by kernel_rfl) underlying107 underlying9 (by kernel_rfl) (by kernel_rfl) L11
 obtain ⟨q12,L12⟩:=Laid.skip L11
 have t12:=Laid.txts (P:=prog) (l:=[[],[98,105,116],[114,101,115],[115,101,116]]) (show prog.globalNamed "loop.example/g00460/impl.bitNames" = some 1 by kernel_rfl) (show (prog.globals[1]?).map (·.type)=some 109 by kernel_rfl) underlying109 underlying9 (by kernel_rfl) (by kernel_rfl) L12
 obtain ⟨q13,L13⟩:=Laid.skip L12
 obtain ⟨q14,L14⟩:=Laid.skip L13
 exact ⟨fun i hi=>(t10 i hi).trans (by match i,hi with|0,_=>rfl|1,_=>rfl|2,_=>rfl|3,_=>rfl|4,_=>rfl|5,_=>rfl|6,_=>rfl|7,_=>rfl),fun i hi=>(t12 i hi).trans (by match i,hi with|0,_=>rfl|1,_=>rfl|2,_=>rfl|3,_=>rfl),fun i hi=>(t9 i hi).trans (by match i,hi with|0,_=>rfl|1,_=>rfl|2,_=>rfl|3,_=>rfl),fun i hi=>(t8 i hi).trans (by match i,hi with|0,_=>rfl|1,_=>rfl|2,_=>rfl|3,_=>rfl),fun i hi=>(t6 i hi).trans (by match i,hi with|0,_=>rfl|1,_=>rfl|2,_=>rfl|3,_=>rfl),fun i hi=>(t7 i hi).trans (by match i,hi with|0,_=>rfl|1,_=>rfl|2,_=>rfl|3,_=>rfl),fun i hi=>(t5 i hi).trans (by match i,hi with|0,_=>rfl|1,_=>rfl|2,_=>rfl|3,_=>rfl|4,_=>rfl|5,_=>rfl|6,_=>rfl|7,_=>rfl),fun i hi=>(t11 i hi).trans (by match i,hi with|0,_=>rfl|1,_=>rfl|2,_=>rfl|3,_=>rfl|4,_=>rfl|5,_=>rfl|6,_=>rfl|7,_=>rfl),fun i hi=>t4 i hi⟩
theorem pow {W:World} (h:laidMetH prog Rows.fnFitsRow.laid W):Texi.Pow W:=by
 obtain ⟨q0,L0,_⟩ : laidMet prog Rows.fnFitsRow.laid W:=h
 obtain ⟨q1,L1⟩:=Laid.skip L0
 obtain ⟨q2,L2⟩:=Laid.skip L1
 exact Laid.tab (P:=prog) (k:=.u64) (zs:=Lib.pow10Tab) (show prog.globalNamed "internal/strconv.uint64pow10" = some 12 by kernel_rfl) (show (prog.globals[12]?).map (·.type)=some 145 by kernel_rfl) underlying145 underlying114 (by kernel_rfl) (by kernel_rfl) L2
theorem toRow {k:IntKind} {w:World} {a:Option Addr} {len cap:Nat} {zs:List Int} (h:IsRow k w a len cap zs):Rdr.IsRow k w a len cap zs:=h
theorem walk (w:World) (a0:Option Addr) (len0 cap0:Nat) (z0:List Int) (w0:IsRow .u8 w a0 len0 cap0 z0) (hT:PartN.Tables w) (hP:Texi.Pow w) (hm:HolI.MaxL w) :
  Calls prog 3 #[.slice a0 len0 cap0] w fun e w'=>e=.returned (.bool true)/\Below w.heap.size w w':=by
 exact Fitm.law_any a0 len0 cap0 z0 w (toRow w0) ⟨hT,hT.hex,hm⟩ hP
set_option maxRecDepth 100000 in
theorem contract (H:Type) (enc:TypeId × Value->H) (W:World) (base:Nat) (args:Array Value) (ds gs:List (DataW H)) (before:List MemPlace)
  (hval:∀ (j:Nat) t v,Tryz.f3.params[j]? = some t->args[j]? = some v->Value.okWide prog W .any base t v)
  (hW:DataW.Whole enc prog Tryz.f3.params.toList Rows.fnFitsSpec.vars false W args.toList ds gs before) (hL:laidMetH prog Rows.fnFitsRow.laid W) (hsh:W.ShapedOpen prog) :
  Calls prog 3 args W fun e W'=>∃ v,e=.returned v/\Rows.fnFitsSpec.post enc prog Tryz.f3 false true false false W args v W':=by
 have hW':=hW
 obtain ⟨p,q,hA0,hV,hbef,hfz,hnd⟩:=hW
 have hA:DataW.TrodAll enc prog W 0 (fun _=>true) true Tryz.f3.params.toList args.toList ds p:=hA0
 have hVk:DataW.TrodVars enc prog W (fun _=>true) Rows.fnFitsSpec.vars gs q:=hV
 rw [Tryz.params3] at hA hval
 obtain ⟨v0,vs0,d0,ds0,p0,q0,hargs,rfl,rfl,h0,r0⟩:=trodAll_cons hA
 obtain ⟨rfl,rfl,rfl⟩:=trodAll_nil r0
 obtain rfl:args=#[v0]:=by cases args;simp_all
 obtain ⟨g1,g2,g3,g4,g5,g6,g7,g8,g9,rfl⟩ : ∃ g1 g2 g3 g4 g5 g6 g7 g8 g9,gs=[g1,g2,g3,g4,g5,g6,g7,g8,g9]:=by
  have hl:=Laid.vars_len hVk
  match gs,hl with
  | [g1,g2,g3,g4,g5,g6,g7,g8,g9],_=>exact ⟨_,_,_,_,_,_,_,_,_,rfl⟩
 obtain ⟨a0,len0,cap0,rfl⟩:=okWide_slice underlying22 (hval 0 22 v0 rfl rfl)
 have k0:=h0
 have lt0:∀ x ∈ p0,x.block<W.heap.size:=by obtain ⟨m,hm⟩:=k0;exact DataW.trod_lt m _ _ _ hm
 obtain ⟨z0,w0⟩ : ∃ zs,IsRow .u8 W a0 len0 cap0 zs:=by
  obtain ⟨fuel,hf⟩:=h0
  rcases open_ints underlying22 underlying5 (by kernel_rfl) hf with ⟨hcs,_⟩|⟨x,l,c,zs,hcs,_,hl,hm,hz,_,hcell,hwz⟩
  ·simp [Value.cells] at hcs
   obtain ⟨rfl,rfl,rfl⟩:=hcs
   exact ⟨[],.inl ⟨rfl,rfl,rfl,rfl⟩⟩
  ·simp [Value.cells] at hcs
   obtain ⟨rfl,rfl,rfl⟩:=hcs
   exact ⟨zs,.inr ⟨_,rfl,hl,hm,by simpa using hz,hcell,hwz⟩⟩
 clear hA0
 refine (walk W a0 len0 cap0 z0 w0 (tables hL) (pow hL) (Tryz.laysM144.s1_3 W hsh)).mono fun e W' ⟨he,bel⟩=>?_
 subst he
 exact ⟨_,rfl,_,_,_,[],_,q,hW',trodAll_mk1 (shut_bool underlying4 _),(trodAll_cons_mk (Below.trod laidOut (by kernel_rfl) (of_decide_eq_true (by kernel_rfl)) k0 bel lt0) trodAll_mk0),Below.trodVars laidOut bel rowed hVk,bel.frame _,fun h=>by cases h⟩
noncomputable def laidWorld (os:Os):World :=
 { World.holding prog os ⟨#[],#[],[]⟩ with heap:=(fun h=>h.modify 13 fun|.cells _ t frozen=>.cells #[.int .u8 0,.int .u8 1,.int .u8 28,.int .u8 2,.int .u8 29,.int .u8 14,.int .u8 24,.int .u8 3,.int .u8 30,.int .u8 22,.int .u8 20,.int .u8 15,.int .u8 25,.int .u8 17,.int .u8 4,.int .u8 8,.int .u8 31,.int .u8 27,.int .u8 13,.int .u8 23,.int .u8 21,.int .u8 19,.int .u8 16,.int .u8 7,.int .u8 26,.int .u8 12,.int .u8 18,.int .u8 6,.int .u8 11,.int .u8 5,.int .u8 10,.int .u8 9] t frozen|o=>o) <| (fun h=>h.modify 14 fun|.cells _ t frozen=>.cells #[.int .u8 0,.int .u8 1,.int .u8 56,.int .u8 2,.int .u8 57,.int .u8 49,.int .u8 28,.int .u8 3,.int .u8 61,.int .u8 58,.int .u8 42,.int .u8 50,.int .u8 38,.int .u8 29,.int .u8 17,.int .u8 4,.int .u8 62,.int .u8 47,.int .u8 59,.int .u8 36,.int .u8 45,.int .u8 43,.int .u8 51,.int .u8 22,.int .u8 53,.int .u8 39,.int .u8 33,.int .u8 30,.int .u8 24,.int .u8 18,.int .u8 12,.int .u8 5,.int .u8 63,.int .u8 55,.int .u8 48,.int .u8 27,.int .u8 60,.int .u8 41,.int .u8 37,.int .u8 16,.int .u8 46,.int .u8 35,.int .u8 44,.int .u8 21,.int .u8 52,.int .u8 32,.int .u8 23,.int .u8 11,.int .u8 54,.int .u8 26,.int .u8 40,.int .u8 15,.int .u8 34,.int .u8 20,.int .u8 31,.int .u8 10,.int .u8 25,.int .u8 14,.int .u8 19,.int .u8 9,.int .u8 13,.int .u8 8,.int .u8 7,.int .u8 6] t frozen|o=>o) <| (fun h=>h.modify 12 fun|.cells _ t frozen=>.cells #[.int .u64 1,.int .u64 10,.int .u64 100,.int .u64 1000,.int .u64 10000,.int .u64 100000,.int .u64 1000000,.int .u64 10000000,.int .u64 100000000,.int .u64 1000000000,.int .u64 10000000000,.int .u64 100000000000,.int .u64 1000000000000,.int .u64 10000000000000,.int .u64 100000000000000,.int .u64 1000000000000000,.int .u64 10000000000000000,.int .u64 100000000000000000,.int .u64 1000000000000000000,.int .u64 10000000000000000000] t frozen|o=>o) <| (fun h=>h.modify 11 fun|.cells _ t frozen=>.cells #[.int .u8 128,.int .u8 191,.int .u8 160,.int .u8 191,.int .u8 128,.int .u8 159,.int .u8 144,.int .u8 191,.int .u8 128,.int .u8 143,.int .u8 0,.int .u8 0,.int .u8 0,.int .u8 0,.int .u8 0,.int .u8 0,.int .u8 0,.int .u8 0,.int .u8 0,.int .u8 0,.int .u8 0,.int .u8 0,.int .u8 0,.int .u8 0,.int .u8 0,.int .u8 0,.int .u8 0,.int .u8 0,.int .u8 0,.int .u8 0,.int .u8 0,.int .u8 0] t frozen|o=>o) <| (fun h=>h.modify 8 fun|.cells _ t frozen=>.cells #[.int .u8 48,.int .u8 49,.int .u8 50,.int .u8 51,.int .u8 52,.int .u8 53,.int .u8 54,.int .u8 55,.int .u8 56,.int .u8 57,.int .u8 65,.int .u8 66,.int .u8 67,.int .u8 68,.int .u8 69,.int .u8 70] t frozen|o=>o) <| (fun h=>h.modify 6 fun|.cells _ t frozen=>.cells #[.string ⟨#[98]⟩,.string ⟨#[99]⟩,.string ⟨#[100]⟩,.string ⟨#[101]⟩,.string ⟨#[104]⟩,.string ⟨#[108]⟩,.string ⟨#[91,104,108,93]⟩,.string ⟨#[97]⟩] t frozen|o=>o) <| (fun h=>h.modify 4 fun|.cells _ t frozen=>.cells #[.string ⟨#[98,99]⟩,.string ⟨#[100,101]⟩,.string ⟨#[104,108]⟩,.string ⟨#[115,112]⟩] t frozen|o=>o) <| (fun h=>h.modify 5 fun|.cells _ t frozen=>.cells #[.string ⟨#[98,99]⟩,.string ⟨#[100,101]⟩,.string ⟨#[104,108]⟩,.string ⟨#[97,102]⟩] t frozen|o=>o) <| (fun h=>h.modify 3 fun|.cells _ t frozen=>.cells #[.string ⟨#[91,98,99,93]⟩,.string ⟨#[91,100,101,93]⟩,.string ⟨#[91,104,108,43,93]⟩,.string ⟨#[91,104,108,45,93]⟩] t frozen|o=>o) <| (fun h=>h.modify 2 fun|.cells _ t frozen=>.cells #[.string ⟨#[110,122]⟩,.string ⟨#[122]⟩,.string ⟨#[110,99]⟩,.string ⟨#[99]⟩] t frozen|o=>o) <| (fun h=>h.modify 0 fun|.cells _ t frozen=>.cells #[.string ⟨#[97,100,100]⟩,.string ⟨#[97,100,99]⟩,.string ⟨#[115,117,98]⟩,.string ⟨#[115,98,99]⟩,.string ⟨#[97,110,100]⟩,.string ⟨#[120,111,114]⟩,.string ⟨#[111,114]⟩,.string ⟨#[99,112]⟩] t frozen|o=>o) <| (fun h=>h.modify 7 fun|.cells _ t frozen=>.cells #[.string ⟨#[114,108,99]⟩,.string ⟨#[114,114,99]⟩,.string ⟨#[114,108]⟩,.string ⟨#[114,114]⟩,.string ⟨#[115,108,97]⟩,.string ⟨#[115,114,97]⟩,.string ⟨#[115,119,97,112]⟩,.string ⟨#[115,114,108]⟩] t frozen|o=>o) <| (fun h=>h.modify 1 fun|.cells _ t frozen=>.cells #[.string ⟨#[]⟩,.string ⟨#[98,105,116]⟩,.string ⟨#[114,101,115]⟩,.string ⟨#[115,101,116]⟩] t frozen|o=>o) <| (fun h=>h.modify 10 fun|.cells _ t frozen=>.cells ((Go.Pinned.utf8FirstZ).map fun n=>Value.int .u8 (n:Nat)).toArray t frozen|o=>o) <| (World.holding prog os ⟨#[],#[],[]⟩).heap }
theorem laid_met (os:Os):laidMet prog Rows.fnFitsRow.laid ((laidWorld os).forCall (fun _ _=>0) ⟨#[],#[.slice none 0 0],[]⟩).memory :=
 laidMet_of_run' 8 (by kernel_rfl) (by kernel_rfl)
theorem reads (os:Os) {H:Type} (enc:TypeId × Value->H):∃ places,DataW.whole enc prog ((laidWorld os).forCall (fun _ _=>0) ⟨#[],#[.slice none 0 0],[]⟩).memory Tryz.f3.params.toList Rows.fnFitsSpec.vars false [.slice none 0 0] 8=some ([.nil],[.agg [.lit (.string [97,100,100]),.lit (.string [97,100,99]),.lit (.string [115,117,98]),.lit (.string [115,98,99]),.lit (.string [97,110,100]),.lit (.string [120,111,114]),.lit (.string [111,114]),.lit (.string [99,112])],.agg [.lit (.string []),.lit (.string [98,105,116]),.lit (.string [114,101,115]),.lit (.string [115,101,116])],.agg [.lit (.string [110,122]),.lit (.string [122]),.lit (.string [110,99]),.lit (.string [99])],.agg [.lit (.string [91,98,99,93]),.lit (.string [91,100,101,93]),.lit (.string [91,104,108,43,93]),.lit (.string [91,104,108,45,93])],.agg [.lit (.string [98,99]),.lit (.string [100,101]),.lit (.string [104,108]),.lit (.string [115,112])],.agg [.lit (.string [98,99]),.lit (.string [100,101]),.lit (.string [104,108]),.lit (.string [97,102])],.agg [.lit (.string [98]),.lit (.string [99]),.lit (.string [100]),.lit (.string [101]),.lit (.string [104]),.lit (.string [108]),.lit (.string [91,104,108,93]),.lit (.string [97])],.agg [.lit (.string [114,108,99]),.lit (.string [114,114,99]),.lit (.string [114,108]),.lit (.string [114,114]),.lit (.string [115,108,97]),.lit (.string [115,114,97]),.lit (.string [115,119,97,112]),.lit (.string [115,114,108])],.agg [.lit (.int .u8 48),.lit (.int .u8 49),.lit (.int .u8 50),.lit (.int .u8 51),.lit (.int .u8 52),.lit (.int .u8 53),.lit (.int .u8 54),.lit (.int .u8 55),.lit (.int .u8 56),.lit (.int .u8 57),.lit (.int .u8 65),.lit (.int .u8 66),.lit (.int .u8 67),.lit (.int .u8 68),.lit (.int .u8 69),.lit (.int .u8 70)]],places) :=
 ⟨MemPlace.row ⟨0,0,none⟩ 8 ++ MemPlace.row ⟨1,0,none⟩ 4 ++ MemPlace.row ⟨2,0,none⟩ 4 ++ MemPlace.row ⟨3,0,none⟩ 4 ++ MemPlace.row ⟨4,0,none⟩ 4 ++ MemPlace.row ⟨5,0,none⟩ 4 ++ MemPlace.row ⟨6,0,none⟩ 8 ++ MemPlace.row ⟨7,0,none⟩ 8 ++ MemPlace.row ⟨8,0,none⟩ 16,by kernel_rfl⟩
set_option maxRecDepth 100000 in
theorem lifted (os:Os) (started:os.Started) (H:Type) (enc:TypeId × Value->H) (F:Stop.Interp) :
  ReturnsInHanded {} Tryz.checked os 3 .any ((OpenSpec.ofChange Rows.fnFitsSpec).preRow enc prog Tryz.f3 Rows.fnFitsRow.domain false Rows.fnFitsRow.laid) (((OpenSpec.ofChange Rows.fnFitsSpec).at F).post enc prog Tryz.f3 false true false false):=by
 obtain ⟨places,hx⟩:=reads os enc
 refine returnsInHanded_of_row (C:=Tryz.checked) (s:=OpenSpec.ofChange Rows.fnFitsSpec) own started (by kernel_rfl) func3
  (witness_row_at (enc:=enc) (C:=Tryz.checked) false (laidWorld os) #[.slice none 0 0] rfl (by kernel_rfl) (by kernel_rfl) (by kernel_rfl)
   (OpenSpec.preRow_of_cond 8 hx (by kernel_rfl) (fun k hk=>by cases hk) (by kernel_rfl) (laid_met os))) ?_
 intro W base args ds gs before hval hW _ _ _ hL hsh _
 exact contract H enc W base args ds gs before hval hW hL hsh
theorem said:Rows.FnFitsSaid :=
 OpenClaim.holds_of_cond 3 Tryz.f3 rfl rfl rfl rfl rfl rfl rfl ⟨rfl,rfl,rfl,rfl,rfl⟩ rfl rfl rfl rfl rfl (by kernel_rfl) func3 (by kernel_rfl)
  (of_decide_eq_true (by kernel_rfl)) (by unfold Func.isWrapper;first|(rw [if_pos (by decide +kernel)];kernel_rfl)|(rw [if_neg (by decide +kernel)];exact ⟨rfl,rfl⟩))
  (fun os started H enc _ F=>by rw [OpenClaim.pre_eq_preRow];exact lifted os started H enc F)
theorem plain (f:FuncId) (fn:Func) (hf:Tryz.pinned.checked.prog.funcNamed "loop.example/g00460/laws.FnFits" = some f) (hfn:Tryz.pinned.checked.prog.funcs[f]? = some fn) :
  false=Tryz.pinned.checked.prog.looks []/\∀ (j:Nat) t,fn.params[j]? = some t->Tryz.pinned.checked.prog.wantsStandIn t=false:=by
 obtain rfl:f=3:=Option.some.inj ((show prog.funcNamed "loop.example/g00460/laws.FnFits" = some 3 by kernel_rfl).symm.trans hf) |>.symm
 obtain rfl:fn=Tryz.f3:=(Option.some.inj (func3.symm.trans hfn)).symm
 refine ⟨by kernel_rfl,fun j t ht=>?_⟩
 rw [Tryz.params3] at ht
 have h:t=22:=by simpa using Array.mem_of_getElem? ht
 subst h
 exact (show prog.wantsStandIn 22=false by kernel_rfl)
theorem card:Rows.FnFitsCardSaid :=
 Claim7.holds_tied_plain_at .later [] _ _ _ _ said (fun _ h=>by cases h) (by kernel_rfl) (fun _ h=>by cases h) fnFits_row_tie rfl ⟨rfl,rfl⟩ (by kernel_rfl) rfl plain (by kernel_rfl)
end Go.Proofs.YtbofcepdckpkkaaGreatDoor.fnFits
namespace Go.Proofs.YtbofcepdckpkkaaGreatDoor
theorem fnFits_holds:Rows.FnFitsCardSaid:=fnFits.card
end Go.Proofs.YtbofcepdckpkkaaGreatDoor
