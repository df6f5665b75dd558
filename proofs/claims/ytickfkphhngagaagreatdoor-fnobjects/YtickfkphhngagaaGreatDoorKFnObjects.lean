/- For every slice of bytes the law FnObjects answers true, that is, for the object drawn from them program and specification write the same text and both say alike whether it is right, as of the drawn section; a right object comes back from its text; and what is read of a drawn text, program and specification agreeing that it can be read, written again, is that text; the tables of the ops' words, of the digits and of the powers of ten and the two errors of strconv hold what their initialisers lay when the call begins (tied to the program's text by the card), and are as they were. -/
import Derived.Test.YtickfkphhngagaaGreatDoorCards
import Derived.Test.YtickfkphhngagaaGreatDoorTie
import Derived.ChangeOld
import Derived.ChangeVars
import Derived.OpenVars
import Derived.Deep.DeepHandedRow
import Derived.Test.YtickfkphhngagaaGreatDoorP33
import Derived.HandedShaped
set_option linter.all false
set_option maxRecDepth 20000
set_option maxHeartbeats 8000000
open Go.ChangeShapes Go.WideShapes Go.ChangeAt Go.RowKit
open Go.Proofs.Tryz
namespace Go.Proofs.YtickfkphhngagaaGreatDoor.fnObjects
open Go.ChangeMaps (open_string shut_string)
theorem own:ownKnob prog.godebug=none:=by kernel_rfl
theorem laidOut:laidOutB prog=true:=by kernel_rfl
theorem rowed:varsRowed prog Rows.fnObjectsSpec.vars=true:=by kernel_rfl
def IsRow (k:IntKind) (w:World) (a:Option Addr) (len cap:Nat) (zs:List Int):Prop :=
 (a=none/\len=0/\cap=0/\zs=[]) \/
 ∃ x,a=some x/\len<=cap/\cap<=maxLen/\zs.length=cap/\(∀ i,i<zs.length->w.cell? (x.add i)=some (.int k (zs.getD i 0)))/\∀ n ∈ zs,(Lit.int k n).wf=true
theorem tables {W:World} (h:laidMetH prog Rows.fnObjectsRow.laid W):Optx.OpTab W/\Optx.Pow W/\Nums.Tab W/\Rima.Er W:=by
 obtain ⟨q0,L0,_⟩ : laidMet prog Rows.fnObjectsRow.laid W:=h
 obtain ⟨q1,L1⟩:=Laid.skip L0
 obtain ⟨q2,L2⟩:=Laid.skip L1
 have tp:=Laid.tab (P:=prog) (k:=.u64) (zs:=Lib.pow10Tab) (show prog.globalNamed "internal/strconv.uint64pow10" = some 3 by kernel_rfl) (show (prog.globals[3]?).map (·.type)=some 192 by kernel_rfl) underlying192 underlying165 (by kernel_rfl) (by kernel_rfl) L2
 obtain ⟨q3,L3⟩:=Laid.skip L2
 obtain ⟨q4,L4⟩:=Laid.skip L3
 have eErrRange:=Laie.iface (P:=prog) (show prog.globalNamed "strconv.ErrRange" = some 5 by kernel_rfl) (show (prog.globals[5]?).map (·.type)=some 99 by kernel_rfl) underlying99 L4
 obtain ⟨q5,L5⟩:=Laid.skip L4
 have eErrSyntax:=Laie.iface (P:=prog) (show prog.globalNamed "strconv.ErrSyntax" = some 4 by kernel_rfl) (show (prog.globals[4]?).map (·.type)=some 99 by kernel_rfl) underlying99 L5
 obtain ⟨q6,L6⟩:=Laid.skip L5
 have t6:=Laid.nums (P:=prog) (k:=.u8) (zs:=[48,49,50,51,52,53,54,55,56,57,65,66,67,68,69,70]) (show prog.globalNamed "loop.example/g00460/impl.hexDigits" = some 0 by kernel_rfl) (show (prog.globals[0]?).map (·.type)=some 135 by kernel_rfl) underlying135 underlying5 (by kernel_rfl) (by kernel_rfl) L6
 obtain ⟨q7,L7⟩:=Laid.skip L6
 have t7:=Laid.txts (P:=prog) (l:=[[110,101,103],[110,111,116],[104,105,103,104],[108,111,119],[43],[45],[42],[47],[37],[38],[94],[124],[60,60],[62,62]]) (show prog.globalNamed "loop.example/g00460/impl.opTexts" = some 1 by kernel_rfl) (show (prog.globals[1]?).map (·.type)=some 147 by kernel_rfl) underlying147 underlying9 (by kernel_rfl) (by kernel_rfl) L7
 obtain ⟨q8,L8⟩:=Laid.skip L7
 obtain ⟨q9,L9⟩:=Laid.skip L8
 exact ⟨fun i hi=>(t7 i hi).trans (by match i,hi with|0,_=>rfl|1,_=>rfl|2,_=>rfl|3,_=>rfl|4,_=>rfl|5,_=>rfl|6,_=>rfl|7,_=>rfl|8,_=>rfl|9,_=>rfl|10,_=>rfl|11,_=>rfl|12,_=>rfl|13,_=>rfl),tp,fun i hi=>t6 i hi,⟨eErrSyntax,eErrRange⟩⟩
theorem toRow {k:IntKind} {w:World} {a:Option Addr} {len cap:Nat} {zs:List Int} (h:IsRow k w a len cap zs):Rdr.IsRow k w a len cap zs:=h
theorem walk (w:World) (a0:Option Addr) (len0 cap0:Nat) (z0:List Int) (w0:IsRow .u8 w a0 len0 cap0 z0) (hT:Optx.OpTab w/\Optx.Pow w/\Nums.Tab w/\Rima.Er w) (hm:Wort.MaxL w) :
  Calls prog 4 #[.slice a0 len0 cap0] w fun e w'=>e=.returned (.bool true)/\Below w.heap.size w w':=by
 exact Robl.law_any a0 len0 cap0 z0 w (toRow w0) ⟨hT.1,hT.2.1,hT.2.2.1,hm,hT.2.2.2⟩
set_option maxRecDepth 100000 in
theorem contract (H:Type) (enc:TypeId × Value->H) (W:World) (base:Nat) (args:Array Value) (ds gs:List (DataW H)) (before:List MemPlace)
  (hval:∀ (j:Nat) t v,Tryz.f4.params[j]? = some t->args[j]? = some v->Value.okWide prog W .any base t v)
  (hW:DataW.Whole enc prog Tryz.f4.params.toList Rows.fnObjectsSpec.vars false W args.toList ds gs before) (hL:laidMetH prog Rows.fnObjectsRow.laid W) (hsh:W.ShapedOpen prog) :
  Calls prog 4 args W fun e W'=>∃ v,e=.returned v/\Rows.fnObjectsSpec.post enc prog Tryz.f4 false true false false W args v W':=by
 have hW':=hW
 obtain ⟨p,q,hA0,hV,hbef,hfz,hnd⟩:=hW
 have hA:DataW.TrodAll enc prog W 0 (fun _=>true) true Tryz.f4.params.toList args.toList ds p:=hA0
 have hVk:DataW.TrodVars enc prog W (fun _=>true) Rows.fnObjectsSpec.vars gs q:=hV
 rw [Tryz.params4] at hA hval
 obtain ⟨v0,vs0,d0,ds0,p0,q0,hargs,rfl,rfl,h0,r0⟩:=trodAll_cons hA
 obtain ⟨rfl,rfl,rfl⟩:=trodAll_nil r0
 obtain rfl:args=#[v0]:=by cases args;simp_all
 obtain ⟨g1,g2,rfl⟩ : ∃ g1 g2,gs=[g1,g2]:=by
  have hl:=Laid.vars_len hVk
  match gs,hl with
  | [g1,g2],_=>exact ⟨_,_,rfl⟩
 obtain ⟨a0,len0,cap0,rfl⟩:=okWide_slice underlying32 (hval 0 32 v0 rfl rfl)
 have k0:=h0
 have lt0:∀ x ∈ p0,x.block<W.heap.size:=by obtain ⟨m,hm⟩:=k0;exact DataW.trod_lt m _ _ _ hm
 obtain ⟨z0,w0⟩ : ∃ zs,IsRow .u8 W a0 len0 cap0 zs:=by
  obtain ⟨fuel,hf⟩:=h0
  rcases open_ints underlying32 underlying5 (by kernel_rfl) hf with ⟨hcs,_⟩|⟨x,l,c,zs,hcs,_,hl,hm,hz,_,hcell,hwz⟩
  ·simp [Value.cells] at hcs
   obtain ⟨rfl,rfl,rfl⟩:=hcs
   exact ⟨[],.inl ⟨rfl,rfl,rfl,rfl⟩⟩
  ·simp [Value.cells] at hcs
   obtain ⟨rfl,rfl,rfl⟩:=hcs
   exact ⟨zs,.inr ⟨_,rfl,hl,hm,by simpa using hz,hcell,hwz⟩⟩
 clear hA0
 refine (walk W a0 len0 cap0 z0 w0 (tables hL) (Tryz.laysM146.s1_3 W hsh)).mono fun e W' ⟨he,bel⟩=>?_
 subst he
 exact ⟨_,rfl,_,_,_,[],_,q,hW',trodAll_mk1 (shut_bool underlying4 _),(trodAll_cons_mk (Below.trod laidOut (by kernel_rfl) (of_decide_eq_true (by kernel_rfl)) k0 bel lt0) trodAll_mk0),Below.trodVars laidOut bel rowed hVk,bel.frame _,fun h=>by cases h⟩
noncomputable def low:Nat:=(World.holding prog default ⟨#[],#[],[]⟩).heap.size
noncomputable def laidWorld (os:Os):World :=
 { World.holding prog os ⟨#[.cells #[.string ⟨#[118,97,108,117,101,32,111,117,116,32,111,102,32,114,97,110,103,101]⟩] 221,.cells #[.string ⟨#[105,110,118,97,108,105,100,32,115,121,110,116,97,120]⟩] 221],#[],[]⟩ with heap:=(fun h=>h.modify 6 fun|.cells _ t frozen=>.cells #[.int .u8 0,.int .u8 1,.int .u8 28,.int .u8 2,.int .u8 29,.int .u8 14,.int .u8 24,.int .u8 3,.int .u8 30,.int .u8 22,.int .u8 20,.int .u8 15,.int .u8 25,.int .u8 17,.int .u8 4,.int .u8 8,.int .u8 31,.int .u8 27,.int .u8 13,.int .u8 23,.int .u8 21,.int .u8 19,.int .u8 16,.int .u8 7,.int .u8 26,.int .u8 12,.int .u8 18,.int .u8 6,.int .u8 11,.int .u8 5,.int .u8 10,.int .u8 9] t frozen|o=>o) <| (fun h=>h.modify 7 fun|.cells _ t frozen=>.cells #[.int .u8 0,.int .u8 1,.int .u8 56,.int .u8 2,.int .u8 57,.int .u8 49,.int .u8 28,.int .u8 3,.int .u8 61,.int .u8 58,.int .u8 42,.int .u8 50,.int .u8 38,.int .u8 29,.int .u8 17,.int .u8 4,.int .u8 62,.int .u8 47,.int .u8 59,.int .u8 36,.int .u8 45,.int .u8 43,.int .u8 51,.int .u8 22,.int .u8 53,.int .u8 39,.int .u8 33,.int .u8 30,.int .u8 24,.int .u8 18,.int .u8 12,.int .u8 5,.int .u8 63,.int .u8 55,.int .u8 48,.int .u8 27,.int .u8 60,.int .u8 41,.int .u8 37,.int .u8 16,.int .u8 46,.int .u8 35,.int .u8 44,.int .u8 21,.int .u8 52,.int .u8 32,.int .u8 23,.int .u8 11,.int .u8 54,.int .u8 26,.int .u8 40,.int .u8 15,.int .u8 34,.int .u8 20,.int .u8 31,.int .u8 10,.int .u8 25,.int .u8 14,.int .u8 19,.int .u8 9,.int .u8 13,.int .u8 8,.int .u8 7,.int .u8 6] t frozen|o=>o) <| (fun h=>h.modify 3 fun|.cells _ t frozen=>.cells #[.int .u64 1,.int .u64 10,.int .u64 100,.int .u64 1000,.int .u64 10000,.int .u64 100000,.int .u64 1000000,.int .u64 10000000,.int .u64 100000000,.int .u64 1000000000,.int .u64 10000000000,.int .u64 100000000000,.int .u64 1000000000000,.int .u64 10000000000000,.int .u64 100000000000000,.int .u64 1000000000000000,.int .u64 10000000000000000,.int .u64 100000000000000000,.int .u64 1000000000000000000,.int .u64 10000000000000000000] t frozen|o=>o) <| (fun h=>h.modify 9 fun|.cells _ t frozen=>.cells #[.int .u8 128,.int .u8 191,.int .u8 160,.int .u8 191,.int .u8 128,.int .u8 159,.int .u8 144,.int .u8 191,.int .u8 128,.int .u8 143,.int .u8 0,.int .u8 0,.int .u8 0,.int .u8 0,.int .u8 0,.int .u8 0,.int .u8 0,.int .u8 0,.int .u8 0,.int .u8 0,.int .u8 0,.int .u8 0,.int .u8 0,.int .u8 0,.int .u8 0,.int .u8 0,.int .u8 0,.int .u8 0,.int .u8 0,.int .u8 0,.int .u8 0,.int .u8 0] t frozen|o=>o) <| (fun h=>h.modify 5 fun|.cells _ t frozen=>.cells #[.iface 219 (.pointer (some ⟨low+0,0,none⟩))] t frozen|o=>o) <| (fun h=>h.modify 4 fun|.cells _ t frozen=>.cells #[.iface 219 (.pointer (some ⟨low+1,0,none⟩))] t frozen|o=>o) <| (fun h=>h.modify 0 fun|.cells _ t frozen=>.cells #[.int .u8 48,.int .u8 49,.int .u8 50,.int .u8 51,.int .u8 52,.int .u8 53,.int .u8 54,.int .u8 55,.int .u8 56,.int .u8 57,.int .u8 65,.int .u8 66,.int .u8 67,.int .u8 68,.int .u8 69,.int .u8 70] t frozen|o=>o) <| (fun h=>h.modify 1 fun|.cells _ t frozen=>.cells #[.string ⟨#[110,101,103]⟩,.string ⟨#[110,111,116]⟩,.string ⟨#[104,105,103,104]⟩,.string ⟨#[108,111,119]⟩,.string ⟨#[43]⟩,.string ⟨#[45]⟩,.string ⟨#[42]⟩,.string ⟨#[47]⟩,.string ⟨#[37]⟩,.string ⟨#[38]⟩,.string ⟨#[94]⟩,.string ⟨#[124]⟩,.string ⟨#[60,60]⟩,.string ⟨#[62,62]⟩] t frozen|o=>o) <| (fun h=>h.modify 8 fun|.cells _ t frozen=>.cells ((Go.Pinned.utf8FirstZ).map fun n=>Value.int .u8 (n:Nat)).toArray t frozen|o=>o) <| (World.holding prog os ⟨#[.cells #[.string ⟨#[118,97,108,117,101,32,111,117,116,32,111,102,32,114,97,110,103,101]⟩] 221,.cells #[.string ⟨#[105,110,118,97,108,105,100,32,115,121,110,116,97,120]⟩] 221],#[],[]⟩).heap }
theorem laid_met (os:Os):laidMet prog Rows.fnObjectsRow.laid ((laidWorld os).forCall (fun _ _=>0) ⟨#[],#[.slice none 0 0],[]⟩).memory :=
 laidMet_of_run' 8 (by kernel_rfl) (by kernel_rfl)
theorem reads (os:Os) {H:Type} (enc:TypeId × Value->H):∃ places,DataW.whole enc prog ((laidWorld os).forCall (fun _ _=>0) ⟨#[],#[.slice none 0 0],[]⟩).memory Tryz.f4.params.toList Rows.fnObjectsSpec.vars false [.slice none 0 0] 8=some ([.nil],[.agg [.lit (.int .u8 48),.lit (.int .u8 49),.lit (.int .u8 50),.lit (.int .u8 51),.lit (.int .u8 52),.lit (.int .u8 53),.lit (.int .u8 54),.lit (.int .u8 55),.lit (.int .u8 56),.lit (.int .u8 57),.lit (.int .u8 65),.lit (.int .u8 66),.lit (.int .u8 67),.lit (.int .u8 68),.lit (.int .u8 69),.lit (.int .u8 70)],.agg [.lit (.string [110,101,103]),.lit (.string [110,111,116]),.lit (.string [104,105,103,104]),.lit (.string [108,111,119]),.lit (.string [43]),.lit (.string [45]),.lit (.string [42]),.lit (.string [47]),.lit (.string [37]),.lit (.string [38]),.lit (.string [94]),.lit (.string [124]),.lit (.string [60,60]),.lit (.string [62,62])]],places) :=
 ⟨MemPlace.row ⟨0,0,none⟩ 16 ++ MemPlace.row ⟨1,0,none⟩ 14,by kernel_rfl⟩
set_option maxRecDepth 100000 in
theorem lifted (os:Os) (started:os.Started) (H:Type) (enc:TypeId × Value->H) (F:Stop.Interp) :
  ReturnsInHanded {} Tryz.checked os 4 .any ((OpenSpec.ofChange Rows.fnObjectsSpec).preRow enc prog Tryz.f4 Rows.fnObjectsRow.domain false Rows.fnObjectsRow.laid) (((OpenSpec.ofChange Rows.fnObjectsSpec).at F).post enc prog Tryz.f4 false true false false):=by
 obtain ⟨places,hx⟩:=reads os enc
 refine returnsInHanded_of_row (C:=Tryz.checked) (s:=OpenSpec.ofChange Rows.fnObjectsSpec) own started (by kernel_rfl) func4
  (witness_row_at (enc:=enc) (C:=Tryz.checked) false (laidWorld os) #[.slice none 0 0] rfl (by kernel_rfl) (by kernel_rfl) (by kernel_rfl)
   (OpenSpec.preRow_of_cond 8 hx (by kernel_rfl) (fun k hk=>by cases hk) (by kernel_rfl) (laid_met os))) ?_
 intro W base args ds gs before hval hW _ _ _ hL hsh _
 exact contract H enc W base args ds gs before hval hW hL hsh
theorem said:Rows.FnObjectsSaid :=
 OpenClaim.holds_of_cond 4 Tryz.f4 rfl rfl rfl rfl rfl rfl rfl ⟨rfl,rfl,rfl,rfl,rfl⟩ rfl rfl rfl rfl rfl (by kernel_rfl) func4 (by kernel_rfl)
  (of_decide_eq_true (by kernel_rfl)) (by unfold Func.isWrapper;first|(rw [if_pos (by decide +kernel)];kernel_rfl)|(rw [if_neg (by decide +kernel)];exact ⟨rfl,rfl⟩))
  (fun os started H enc _ F=>by rw [OpenClaim.pre_eq_preRow];exact lifted os started H enc F)
theorem plain (f:FuncId) (fn:Func) (hf:Tryz.pinned.checked.prog.funcNamed "loop.example/g00460/laws.FnObjects" = some f) (hfn:Tryz.pinned.checked.prog.funcs[f]? = some fn) :
  true=Tryz.pinned.checked.prog.looks []/\∀ (j:Nat) t,fn.params[j]? = some t->Tryz.pinned.checked.prog.wantsStandIn t=false:=by
 obtain rfl:f=4:=Option.some.inj ((show prog.funcNamed "loop.example/g00460/laws.FnObjects" = some 4 by kernel_rfl).symm.trans hf) |>.symm
 obtain rfl:fn=Tryz.f4:=(Option.some.inj (func4.symm.trans hfn)).symm
 refine ⟨by kernel_rfl,fun j t ht=>?_⟩
 rw [Tryz.params4] at ht
 have h:t=32:=by simpa using Array.mem_of_getElem? ht
 subst h
 exact (show prog.wantsStandIn 32=false by kernel_rfl)
theorem card:Rows.FnObjectsCardSaid :=
 Claim7.holds_tied_plain_at .later [] _ _ _ _ said (fun _ h=>by cases h) (by kernel_rfl) (fun _ h=>by cases h) fnObjects_row_tie rfl ⟨rfl,rfl⟩ (by kernel_rfl) rfl plain (by kernel_rfl)
end Go.Proofs.YtickfkphhngagaaGreatDoor.fnObjects
namespace Go.Proofs.YtickfkphhngagaaGreatDoor
theorem fnObjects_holds:Rows.FnObjectsCardSaid:=fnObjects.card
end Go.Proofs.YtickfkphhngagaaGreatDoor
