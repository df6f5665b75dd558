import Derived.Test.YtickfkphhngagaaGreatDoorP18
set_option linter.all false
set_option maxRecDepth 20000
set_option maxHeartbeats 8000000
open Go.ChangeShapes Go.WideShapes Go.ChangeAt Go.RowKit
open Go.Proofs.Tryz
namespace Go.Proofs.YtickfkphhngagaaGreatDoor
namespace Rliq
open Go.Deep
open Optx (decW wordB)
open Extx (exprT)
open Worr (W)
open Wors (outI outS)
open Rint (intS)
open Rbyt (byO)
open Rwor (wordsL)
open Otxa Otxb Otxt Otxp Otxq Obje Rlip
def gt (L:List ByteArray) (k:Nat):ByteArray:=L.getD k ⟨#[]⟩
def addP (S:List Secr.X) (p:Patr.X):List Secr.X:=match S.getLast? with
 | none=>S
 | some s=>S.dropLast ++ [⟨s.f0,s.f1,s.f2,s.f3,s.f4,s.f5 ++ [p]⟩]
theorem addP_on (S:List Secr.X) (s:Secr.X) (p:Patr.X):addP (S ++ [s]) p=S ++ [⟨s.f0,s.f1,s.f2,s.f3,s.f4,s.f5 ++ [p]⟩]:=by
 unfold addP;rw [List.getLast?_concat];simp
def oneB (s:ByteArray):Bool:=s.toList == [49]
def secI (o:Objr.X) (r:ByteArray):Option Objr.X :=
 if (W r).length=5 then
  match byO (gt (W r) 4).data.toList,numP (gt (W r) 1),numP (gt (W r) 2),numP (gt (W r) 3) with
  | some D,some k,some b,some a=>some ⟨o.f0 ++ [⟨gt (W r) 0,k,b,a,wB D,[]⟩],o.f1,o.f2⟩
  | _,_,_,_=>none
 else none
def patI (o:Objr.X) (r:ByteArray):Option Objr.X :=
 if o.f0.length=0 \/ ¬ (SN r).length=3 then none
 else match outI (gt (SN r) 2),numP (gt (SN r) 0),numP (gt (SN r) 1) with
  | some e,some a,some k=>some ⟨addP o.f0 ⟨a,k,e⟩,o.f1,o.f2⟩
  | _,_,_=>none
def symI (o:Objr.X) (r:ByteArray):Option Objr.X :=
 if (W r).length=4 then
  match numP (gt (W r) 1),numP (gt (W r) 2) with
  | some a,some b=>some ⟨o.f0,o.f1 ++ [⟨gt (W r) 0,a,b,oneB (gt (W r) 3)⟩],o.f2⟩
  | _,_=>none
 else none
def assI (o:Objr.X) (r:ByteArray):Option Objr.X:=match outI r with
 | some e=>some ⟨o.f0,o.f1,o.f2 ++ [⟨e⟩]⟩
 | none=>none
def lineI (o:Objr.X) (l:ByteArray):Option Objr.X :=
 if bA 32 l=wSection then secI o (bB 32 l)
 else if bA 32 l=wPatch then patI o (bB 32 l)
 else if bA 32 l=wSymbol then symI o (bB 32 l)
 else if bA 32 l=wAssert then assI o (bB 32 l)
 else none
def secS (o:Objr.X) (w:List ByteArray):Option Objr.X :=
 if w.length=6 then
  match intS w 2,intS w 3,intS w 4,byO (gt w 5).data.toList with
  | some k,some b,some a,some D=>some ⟨o.f0 ++ [⟨gt w 1,k,b,a,wB D,[]⟩],o.f1,o.f2⟩
  | _,_,_,_=>none
 else none
def patS (o:Objr.X) (w v:List ByteArray):Option Objr.X :=
 if o.f0.length=0 \/ v.length<4 then none
 else match intS v 1,intS w 2,outS (gt v 3) with
  | some a,some k,some e=>some ⟨addP o.f0 ⟨a,k,e⟩,o.f1,o.f2⟩
  | _,_,_=>none
def symS (o:Objr.X) (w:List ByteArray):Option Objr.X :=
 if w.length=5 then
  match intS w 2,intS w 3,intS w 4 with
  | some a,some b,some c=>some ⟨o.f0,o.f1 ++ [⟨gt w 1,a,b,decide (c=1)⟩],o.f2⟩
  | _,_,_=>none
 else none
def assS (o:Objr.X) (v:List ByteArray):Option Objr.X :=
 if v.length<2 then none
 else match outS (gt v 1) with
  | some e=>some ⟨o.f0,o.f1,o.f2 ++ [⟨e⟩]⟩
  | none=>none
def lineS (o:Objr.X) (l:ByteArray):Option Objr.X :=
 if gt (wordsL 6 l) 0=wSection then secS o (wordsL 6 l)
 else if gt (wordsL 6 l) 0=wPatch then patS o (wordsL 6 l) (wordsL 4 l)
 else if gt (wordsL 6 l) 0=wSymbol then symS o (wordsL 6 l)
 else if gt (wordsL 6 l) 0=wAssert then assS o (wordsL 2 l)
 else none
def goL (f:Objr.X->ByteArray->Option Objr.X) (need:Bool):Nat->ByteArray->Objr.X->Option Objr.X
 | 0,_,_=>none
 | n+1,r,o=>if r.size=0 then some o else if (need && !bF 10 r)=true then none else match f o (bA 10 r) with
  | none=>none
  | some o'=>goL f need n (bB 10 r) o'
theorem goL_end {f:Objr.X->ByteArray->Option Objr.X} {need:Bool} {n:Nat} {r:ByteArray} {o:Objr.X} (h:r.size=0):goL f need (n+1) r o=some o:=by rw [goL,if_pos h]
theorem goL_ended {f:Objr.X->ByteArray->Option Objr.X} {n:Nat} {r:ByteArray} {o:Objr.X} (h:¬ r.size=0) (hf:bF 10 r=false):goL f true (n+1) r o=none:=by rw [goL,if_neg h,if_pos (by rw [hf];rfl)]
theorem goL_bad {f:Objr.X->ByteArray->Option Objr.X} {need:Bool} {n:Nat} {r:ByteArray} {o:Objr.X} (h:¬ r.size=0) (h2:f o (bA 10 r)=none):goL f need (n+1) r o=none:=by
 rw [goL,if_neg h];split
 ·rfl
 ·rw [h2]
theorem goL_on {f:Objr.X->ByteArray->Option Objr.X} {need:Bool} {n:Nat} {r:ByteArray} {o o':Objr.X} (h:¬ r.size=0) (h3:need=true->bF 10 r=true) (h2:f o (bA 10 r)=some o'):goL f need (n+1) r o=goL f need n (bB 10 r) o':=by
 rw [goL,if_neg h,if_neg,h2]
 cases need with
 | false=>simp
 | true=>rw [h3 rfl];simp
def o0:Objr.X:=⟨[],[],[]⟩
noncomputable def fin9 (s:ByteArray):Option Objr.X->Option Objr.X
 | some o=>if objV o=s then some o else none
 | none=>none
noncomputable def out9 (f:Objr.X->ByteArray->Option Objr.X) (need:Bool) (s:ByteArray):Option Objr.X :=
 if 60000<s.size then none else fin9 s (goL f need (s.size+1) s o0)
theorem fin9_some {s:ByteArray} {a:Option Objr.X} {o:Objr.X} (h:fin9 s a=some o):a=some o/\objV o=s:=by
 cases a with
 | none=>cases h
 | some b =>
  unfold fin9 at h
  dsimp only at h
  split at h
  ·rename_i hq;cases h;exact ⟨rfl,hq⟩
  ·cases h
theorem fin9_of {s:ByteArray} {o:Objr.X} (h:objV o=s):fin9 s (some o)=some o:=by unfold fin9;dsimp only;rw [if_pos h]
theorem fin9_no {s:ByteArray} {o:Objr.X} (h:¬ objV o=s):fin9 s (some o)=none:=by unfold fin9;dsimp only;rw [if_neg h]
def Rd (e:List Stepx.Node):Prop:=outI (exprT e)=some e
theorem rd_of {t:ByteArray} {e:List Stepx.Node} (h:outS t=some e):Rd e:=by
 have hh:=h
 unfold outS at h
 split at h
 ·cases h
 ·rename_i hc
  have he:=Option.some.inj h
  have hx:exprT e=t:=by
   rw [<- he]
   exact Decidable.of_not_not fun q=>hc (.inr q)
  unfold Rd
  rw [hx,Woru.same];exact hh
theorem rd_ofI {t:ByteArray} {e:List Stepx.Node} (h:outI t=some e):Rd e:=rd_of (by rw [<- Woru.same];exact h)
def RdO (o:Objr.X):Prop:=(∀ s ∈ o.f0,∀ p ∈ s.f5,Rd p.f2)/\∀ a ∈ o.f2,Rd a.f0
theorem rd_snoc {o:Objr.X} (h:RdO o) (s:Secr.X) (hs:s.f5=[]):RdO ⟨o.f0 ++ [s],o.f1,o.f2⟩:=by
 refine ⟨fun x hx p hp=>?_,h.2⟩
 rcases List.mem_append.1 hx with hx|hx
 ·exact h.1 x hx p hp
 ·rw [List.mem_singleton.1 hx,hs] at hp;cases hp
theorem rd_addP {o:Objr.X} (h:RdO o) (p:Patr.X) (hp:Rd p.f2):RdO ⟨addP o.f0 p,o.f1,o.f2⟩:=by
 refine ⟨fun x hx q hq=>?_,h.2⟩
 have hx:x ∈ addP o.f0 p:=hx
 rcases List.eq_nil_or_concat o.f0 with e|⟨S,s,e⟩
 ·rw [e] at hx;cases hx
 ·rw [List.concat_eq_append] at e
  rw [e,addP_on] at hx
  have hS:∀ y,y ∈ S \/ y=s->∀ p ∈ y.f5,Rd p.f2:=fun y hy=>h.1 y (by rw [e];rcases hy with hy|rfl <;> simp [*])
  rcases List.mem_append.1 hx with hx|hx
  ·exact hS x (.inl hx) q hq
  ·rw [List.mem_singleton.1 hx] at hq
   rcases List.mem_append.1 hq with hq|hq
   ·exact hS s (.inr rfl) q hq
   ·rw [List.mem_singleton.1 hq];exact hp
theorem rd_ass {o:Objr.X} (h:RdO o) {e:List Stepx.Node} (he:Rd e):RdO ⟨o.f0,o.f1,o.f2 ++ [⟨e⟩]⟩:=by
 refine ⟨h.1,fun x hx=>?_⟩
 rcases List.mem_append.1 hx with hx|hx
 ·exact h.2 x hx
 ·rw [List.mem_singleton.1 hx];exact he
theorem rdI {o o':Objr.X} {l:ByteArray} (h:lineI o l=some o') (hr:RdO o):RdO o':=by
 unfold lineI at h
 split at h
 ·unfold secI at h
  split at h
  ·split at h
   ·cases h;exact rd_snoc hr _ rfl
   ·cases h
  ·cases h
 split at h
 ·unfold patI at h
  split at h
  ·cases h
  ·split at h
   ·rename_i he _ _
    cases h;exact rd_addP hr _ (rd_ofI he)
   ·cases h
 split at h
 ·unfold symI at h
  split at h
  ·split at h
   ·cases h;exact hr
   ·cases h
  ·cases h
 split at h
 ·unfold assI at h
  split at h
  ·rename_i he
   cases h;exact rd_ass hr (rd_ofI he)
  ·cases h
 ·cases h
theorem rdS {o o':Objr.X} {l:ByteArray} (h:lineS o l=some o') (hr:RdO o):RdO o':=by
 unfold lineS at h
 split at h
 ·unfold secS at h
  split at h
  ·split at h
   ·cases h;exact rd_snoc hr _ rfl
   ·cases h
  ·cases h
 split at h
 ·unfold patS at h
  split at h
  ·cases h
  ·split at h
   ·rename_i _ _ he
    cases h;exact rd_addP hr _ (rd_of he)
   ·cases h
 split at h
 ·unfold symS at h
  split at h
  ·split at h
   ·cases h;exact hr
   ·cases h
  ·cases h
 split at h
 ·unfold assS at h
  split at h
  ·cases h
  ·split at h
   ·rename_i he
    cases h;exact rd_ass hr (rd_of he)
   ·cases h
 ·cases h
theorem go_rd {f:Objr.X->ByteArray->Option Objr.X} {need:Bool} (hf:∀ o o' l,f o l=some o'->RdO o->RdO o'):∀ (n:Nat) (r:ByteArray) (o o':Objr.X),goL f need n r o=some o'->RdO o->RdO o'
 | 0,r,o,o',h,_=>by cases h
 | n+1,r,o,o',h,hr=>by
  rw [goL] at h
  split at h
  ·cases h;exact hr
  split at h
  ·cases h
  split at h
  ·cases h
  ·rename_i o1 h1
   exact go_rd hf n _ o1 o' h (hf _ _ _ h1 hr)
theorem rd0:RdO o0:=⟨fun s hs=>(by cases hs),fun a ha=>(by cases ha)⟩
def headL (s:Secr.X):ByteArray:=lnB [wSection,s.f0,decW s.f1,decW s.f2,decW s.f3,hexA s.f4]
def patL (p:Patr.X):ByteArray:=lnB [wPatch,decW p.f0,decW p.f1,exprT p.f2]
def symL (y:Osyr.X):ByteArray:=lnB [wSymbol,y.f0,decW y.f1,decW y.f2,decW (outN y.f3)]
def assL (a:Assr.X):ByteArray:=lnB [wAssert,exprT a.f0]
def secL (s:Secr.X):List ByteArray:=headL s :: s.f5.map patL
def objL (o:Objr.X):List ByteArray:=o.f0.flatMap secL ++ (o.f1.map symL ++ o.f2.map assL)
def flat (L:List ByteArray):List UInt8:=L.flatMap fun l=>l.data.toList ++ [10]
theorem flat_app (A B:List ByteArray):flat (A ++ B)=flat A ++ flat B:=by unfold flat;rw [List.flatMap_append]
theorem flat_map {α:Type} (f:α->ByteArray) (g:α->List UInt8) (h:∀ x,g x=(f x).data.toList ++ [10]) (L:List α):flat (L.map f)=L.flatMap g:=by
 unfold flat
 induction L with
 | nil=>rfl
 | cons x L ih=>rw [List.map_cons,List.flatMap_cons,List.flatMap_cons,ih,h]
theorem flat_sec (s:Secr.X):flat (secL s)=secT s:=by
 have e:secL s=[headL s] ++ s.f5.map patL:=rfl
 rw [e,flat_app,flat_map patL patT (fun p=>line_b _)]
 have e2:flat [headL s]=headT s:=by unfold flat headT;rw [line_b];simp [headL]
 rw [e2];rfl
theorem flat_secs (S:List Secr.X):flat (S.flatMap secL)=S.flatMap secT:=by
 induction S with
 | nil=>rfl
 | cons s S ih=>rw [List.flatMap_cons,List.flatMap_cons,flat_app,ih,flat_sec]
theorem flat_obj (o:Objr.X):flat (objL o)=objT o:=by
 unfold objL objT
 rw [flat_app,flat_app,flat_secs,flat_map symL Otxp.symT (fun y=>line_b _),flat_map assL assT (fun a=>line_b _),List.append_assoc]
def run (f:Objr.X->ByteArray->Option Objr.X):List ByteArray->Objr.X->Option Objr.X
 | [],o=>some o
 | l :: ls,o=>(f o l).bind (run f ls)
theorem run_app (f:Objr.X->ByteArray->Option Objr.X):∀ (A B:List ByteArray) (o o':Objr.X),run f A o=some o'->run f (A ++ B) o=run f B o'
 | [],B,o,o',h=>by cases h;rfl
 | l :: A,B,o,o',h=>by
  rw [List.cons_append]
  have h:(f o l).bind (run f A)=some o':=h
  show (f o l).bind (run f (A ++ B))=_
  cases hf:f o l with
  | none=>rw [hf] at h;cases h
  | some o1 =>
   rw [hf] at h
   exact run_app f A B o1 o' h
theorem go_lines (f:Objr.X->ByteArray->Option Objr.X) (need:Bool):∀ (ls:List ByteArray) (n:Nat) (o:Objr.X),(∀ l ∈ ls,Free 10 l)->ls.length<=n->goL f need (n+1) (wB (flat ls)) o=run f ls o
 | [],n,o,_,_=>by
  rw [goL_end (by rw [wB_size];rfl)];rfl
 | l :: ls,n,o,hf,hn=>by
  have hb:brk 10 (wB (flat (l :: ls))).data.toList=(l.data.toList,flat ls,true):=by
   rw [wB_list]
   have e:flat (l :: ls)=l.data.toList ++ 10 :: flat ls:=by unfold flat;rw [List.flatMap_cons];simp
   rw [e];exact brk_app _ _ (hf l (List.mem_cons_self ..))
  have hA:bA 10 (wB (flat (l :: ls)))=l:=by unfold bA;rw [hb];exact wB_of l
  have hB:bB 10 (wB (flat (l :: ls)))=wB (flat ls):=by unfold bB;rw [hb]
  have hF:bF 10 (wB (flat (l :: ls)))=true:=by unfold bF;rw [hb]
  have hz:¬ (wB (flat (l :: ls))).size=0:=by
   rw [wB_size];unfold flat;rw [List.flatMap_cons];simp
  unfold run
  cases h1:f o l with
  | none=>rw [goL_bad hz (by rw [hA];exact h1)];rfl
  | some o1 =>
   rw [goL_on hz (fun _=>hF) (by rw [hA];exact h1),hB]
   match n,hn with
   | n+1,hn=>exact go_lines f need ls n o1 (fun x hx=>hf x (List.mem_cons_of_mem _ hx)) (by simpa using hn)
structure HeadN (s:Secr.X):Prop where
 b:SecB s
 nm:Gr s.f0
structure PatN (p:Patr.X):Prop where
 a0:-4000000000<=p.f0
 a1:p.f0<=4000000000
 k0:-4000000000<=p.f1
 k1:p.f1<=4000000000
 rd:Rd p.f2
structure SymN (y:Osyr.X):Prop where
 b:SymB y
 nm:Gr y.f0
structure Reads (f:Objr.X->ByteArray->Option Objr.X):Prop where
 head:∀ (o:Objr.X) (s:Secr.X),HeadN s->f o (headL s)=some ⟨o.f0 ++ [⟨s.f0,s.f1,s.f2,s.f3,s.f4,[]⟩],o.f1,o.f2⟩
 pat:∀ (o:Objr.X) (p:Patr.X),o.f0 ≠ []->PatN p->f o (patL p)=some ⟨addP o.f0 p,o.f1,o.f2⟩
 sym:∀ (o:Objr.X) (y:Osyr.X),SymN y->f o (symL y)=some ⟨o.f0,o.f1 ++ [y],o.f2⟩
 ass:∀ (o:Objr.X) (a:Assr.X),Rd a.f0->f o (assL a)=some ⟨o.f0,o.f1,o.f2 ++ [a]⟩
theorem run_pats {f:Objr.X->ByteArray->Option Objr.X} (hf:Reads f):∀ (P:List Patr.X) (S:List Secr.X) (s:Secr.X) (Y:List Osyr.X) (A:List Assr.X),(∀ p ∈ P,PatN p)->run f (P.map patL) ⟨S ++ [s],Y,A⟩=some ⟨S ++ [⟨s.f0,s.f1,s.f2,s.f3,s.f4,s.f5 ++ P⟩],Y,A⟩
 | [],S,s,Y,A,_=>by rw [List.append_nil];rfl
 | p :: P,S,s,Y,A,h=>by
  rw [List.map_cons]
  unfold run
  rw [hf.pat ⟨S ++ [s],Y,A⟩ p (by simp) (h p (List.mem_cons_self ..))]
  show run f (P.map patL) ⟨addP (S ++ [s]) p,Y,A⟩=_
  rw [addP_on,run_pats hf P S _ Y A (fun q hq=>h q (List.mem_cons_of_mem _ hq))]
  simp
theorem run_secs {f:Objr.X->ByteArray->Option Objr.X} (hf:Reads f):∀ (T S:List Secr.X) (Y:List Osyr.X) (A:List Assr.X),(∀ s ∈ T,HeadN s/\∀ p ∈ s.f5,PatN p)->run f (T.flatMap secL) ⟨S,Y,A⟩=some ⟨S ++ T,Y,A⟩
 | [],S,Y,A,_=>by rw [List.append_nil];rfl
 | s :: T,S,Y,A,h=>by
  obtain ⟨h1,h2⟩:=h s (List.mem_cons_self ..)
  rw [List.flatMap_cons]
  have e:run f (secL s) ⟨S,Y,A⟩=some ⟨S ++ [s],Y,A⟩:=by
   unfold secL run
   rw [hf.head _ s h1]
   show run f (s.f5.map patL) ⟨S ++ [⟨s.f0,s.f1,s.f2,s.f3,s.f4,[]⟩],Y,A⟩=_
   rw [run_pats hf s.f5 S _ Y A h2]
   simp
  rw [run_app f _ _ _ _ e,run_secs hf T (S ++ [s]) Y A (fun x hx=>h x (List.mem_cons_of_mem _ hx))]
  simp
theorem run_syms {f:Objr.X->ByteArray->Option Objr.X} (hf:Reads f):∀ (T:List Osyr.X) (S:List Secr.X) (Y:List Osyr.X) (A:List Assr.X),(∀ s ∈ T,SymN s)->run f (T.map symL) ⟨S,Y,A⟩=some ⟨S,Y ++ T,A⟩
 | [],S,Y,A,_=>by rw [List.append_nil];rfl
 | y :: T,S,Y,A,h=>by
  rw [List.map_cons]
  unfold run
  rw [hf.sym _ y (h y (List.mem_cons_self ..))]
  show run f (T.map symL) ⟨S,Y ++ [y],A⟩=_
  rw [run_syms hf T S (Y ++ [y]) A (fun x hx=>h x (List.mem_cons_of_mem _ hx))]
  simp
theorem run_asss {f:Objr.X->ByteArray->Option Objr.X} (hf:Reads f):∀ (T:List Assr.X) (S:List Secr.X) (Y:List Osyr.X) (A:List Assr.X),(∀ s ∈ T,Rd s.f0)->run f (T.map assL) ⟨S,Y,A⟩=some ⟨S,Y,A ++ T⟩
 | [],S,Y,A,_=>by rw [List.append_nil];rfl
 | y :: T,S,Y,A,h=>by
  rw [List.map_cons]
  unfold run
  rw [hf.ass _ y (h y (List.mem_cons_self ..))]
  show run f (T.map assL) ⟨S,Y,A ++ [y]⟩=_
  rw [run_asss hf T S Y (A ++ [y]) (fun x hx=>h x (List.mem_cons_of_mem _ hx))]
  simp
structure OkO (o:Objr.X):Prop where
 s:∀ s ∈ o.f0,HeadN s/\∀ p ∈ s.f5,PatN p
 y:∀ y ∈ o.f1,SymN y
 a:∀ a ∈ o.f2,Rd a.f0
theorem run_obj {f:Objr.X->ByteArray->Option Objr.X} (hf:Reads f) {o:Objr.X} (h:OkO o):run f (objL o) o0=some o:=by
 unfold objL o0
 rw [run_app f _ _ _ _ (run_secs hf o.f0 [] [] [] h.s),run_app f _ _ _ _ (run_syms hf o.f1 _ _ _ h.y),run_asss hf o.f2 _ _ _ h.a]
 rfl
theorem name_sec {s:Secr.X} (h:Seco.secB s=true):Names.nameB s.f0=true:=by
 unfold Seco.secB at h
 simp only [Bool.and_eq_true] at h
 exact h.1.1.1.1.1
theorem okO_of {o:Objr.X} (h:objB o=true) (hr:RdO o):OkO o:=by
 have R:=right_of h
 refine ⟨fun s hs=>?_,fun y hy=>?_,hr.2⟩
 ·obtain ⟨i,hi,rfl⟩:=List.getElem_of_mem hs
  have sb:=R.sec i hi
  have b:=sec_b sb
  refine ⟨⟨b,gr_name (name_sec sb)⟩,fun p hp=>?_⟩
  have hrd:=hr.1 _ hs p hp
  obtain ⟨j,hj,rfl⟩:=List.getElem_of_mem hp
  obtain ⟨q0,q1,q2,q3,_⟩:=b.pb j hj
  exact ⟨q0,q1,q2,q3,hrd⟩
 ·obtain ⟨i,hi,rfl⟩:=List.getElem_of_mem hy
  have sy:=(R.sym i hi).sym
  refine ⟨sym_b R.l0 R.sec sy,gr_name ?_⟩
  unfold symB at sy
  exact (Bool.and_eq_true_iff.1 sy).1
theorem ge_gr {s:ByteArray} (h:Gr s):∀ c ∈ s.data.toList,32<=c.toNat:=fun c hc=>by have:=h c hc;omega
theorem gr_words:(Gr wSection/\Gr wPatch)/\Gr wSymbol/\Gr wAssert:=by
 refine ⟨⟨?_,?_⟩,?_,?_⟩ <;> (unfold Gr;decide)
theorem free_ten {o:Objr.X} (h:OkO o):∀ l ∈ objL o,Free 10 l:=fun l hl=>by
 obtain ⟨⟨g1,g2⟩,g3,g4⟩:=gr_words
 unfold objL at hl
 rcases List.mem_append.1 hl with hl|hl
 ·obtain ⟨s,hs,hl⟩:=List.mem_flatMap.1 hl
  obtain ⟨h1,h2⟩:=h.s s hs
  unfold secL at hl
  rcases List.mem_cons.1 hl with rfl|hl
  ·refine ln_ten fun x hx=>?_
   simp only [List.mem_cons,List.not_mem_nil,or_false] at hx
   rcases hx with rfl|rfl|rfl|rfl|rfl|rfl
   ·exact ge_gr g1
   ·exact ge_gr h1.nm
   ·exact ge_gr (gr_dec _)
   ·exact ge_gr (gr_dec _)
   ·exact ge_gr (gr_dec _)
   ·exact ge_gr (gr_hex _)
  ·obtain ⟨p,hp,rfl⟩:=List.mem_map.1 hl
   refine ln_ten fun x hx=>?_
   simp only [List.mem_cons,List.not_mem_nil,or_false] at hx
   rcases hx with rfl|rfl|rfl|rfl
   ·exact ge_gr g2
   ·exact ge_gr (gr_dec _)
   ·exact ge_gr (gr_dec _)
   ·exact gr_expr _
 ·rcases List.mem_append.1 hl with hl|hl
  ·obtain ⟨y,hy,rfl⟩:=List.mem_map.1 hl
   refine ln_ten fun x hx=>?_
   simp only [List.mem_cons,List.not_mem_nil,or_false] at hx
   rcases hx with rfl|rfl|rfl|rfl|rfl
   ·exact ge_gr g3
   ·exact ge_gr (h.y y hy).nm
   ·exact ge_gr (gr_dec _)
   ·exact ge_gr (gr_dec _)
   ·exact ge_gr (gr_dec _)
  ·obtain ⟨a,ha,rfl⟩:=List.mem_map.1 hl
   refine ln_ten fun x hx=>?_
   simp only [List.mem_cons,List.not_mem_nil,or_false] at hx
   rcases hx with rfl|rfl
   ·exact ge_gr g4
   ·exact gr_expr _
theorem flat_ge:∀ L:List ByteArray,L.length<=(flat L).length
 | []=>Nat.zero_le _
 | l :: L=>by
  have:=flat_ge L
  have e:flat (l :: L)=l.data.toList ++ 10 :: flat L:=by unfold flat;rw [List.flatMap_cons];simp
  rw [e];simp;omega
theorem back {f:Objr.X->ByteArray->Option Objr.X} (hf:Reads f) (need:Bool) {o:Objr.X} (h:objB o=true) (hr:RdO o):goL f need ((objV o).size+1) (objV o) o0=some o:=by
 have ok:=okO_of h hr
 have e:objV o=wB (flat (objL o)):=by rw [objV_yes h,flat_obj];rfl
 rw [e,wB_size,go_lines f need _ _ _ (free_ten ok) (flat_ge _),run_obj hf ok]
theorem half {f g:Objr.X->ByteArray->Option Objr.X} {a b:Bool} (hg:Reads g) (hf:∀ o o' l,f o l=some o'->RdO o->RdO o') {s:ByteArray} {o:Objr.X} (h:out9 f a s=some o):out9 g b s=some o:=by
 unfold out9 at h |-
 split at h
 ·cases h
 rename_i h6
 rw [if_neg h6]
 obtain ⟨h1,h2⟩:=fin9_some h
 have hr:=go_rd hf _ _ _ _ h1 rd0
 by_cases hz:s.size=0
 ·rw [goL_end hz] at h |-
  exact h
 ·have hb:objB o=true:=by
   cases hb:objB o with
   | true=>rfl
   | false=>rw [objV_no hb] at h2;exact absurd (by rw [<- h2];rfl) hz
  have:=back hg b hb hr
  rw [h2] at this
  rw [this]
  exact fin9_of h2
theorem free_gr {s:ByteArray} (h:Gr s):Free 32 s:=free_of h (by decide)
theorem readsI:Reads lineI:=by
 obtain ⟨⟨g1,g2⟩,g3,g4⟩:=gr_words
 refine ⟨fun o s h=>?_,fun o p h0 h=>?_,fun o y h=>?_,fun o a h=>?_⟩
 ·obtain ⟨c1,c2,_⟩:=ln_cut (x:=wSection) (ws:=[s.f0,decW s.f1,decW s.f2,decW s.f3,hexA s.f4]) (by simp) (free_gr g1)
  have w5:W (lnB [s.f0,decW s.f1,decW s.f2,decW s.f3,hexA s.f4])=[s.f0,decW s.f1,decW s.f2,decW s.f3,hexA s.f4]:=W_ln (by simp) (fun x hx=>by
   simp only [List.mem_cons,List.not_mem_nil,or_false] at hx
   rcases hx with rfl|rfl|rfl|rfl|rfl
   ·exact free_gr h.nm
   ·exact free_gr (gr_dec _)
   ·exact free_gr (gr_dec _)
   ·exact free_gr (gr_dec _)
   ·exact free_gr (gr_hex _))
  unfold lineI headL
  rw [c1,c2,if_pos rfl]
  unfold secI
  rw [w5,if_pos (show [s.f0,decW s.f1,decW s.f2,decW s.f3,hexA s.f4].length=5 from rfl)]
  have e0:gt [s.f0,decW s.f1,decW s.f2,decW s.f3,hexA s.f4] 0=s.f0:=rfl
  have e1:gt [s.f0,decW s.f1,decW s.f2,decW s.f3,hexA s.f4] 1=decW s.f1:=rfl
  have e2:gt [s.f0,decW s.f1,decW s.f2,decW s.f3,hexA s.f4] 2=decW s.f2:=rfl
  have e3:gt [s.f0,decW s.f1,decW s.f2,decW s.f3,hexA s.f4] 3=decW s.f3:=rfl
  have e4:gt [s.f0,decW s.f1,decW s.f2,decW s.f3,hexA s.f4] 4=hexA s.f4:=rfl
  rw [e0,e1,e2,e3,e4,by_hex,numP_dec h.b.k0 h.b.k1,numP_dec h.b.b0 h.b.b1,numP_dec h.b.a0 h.b.a1]
  dsimp only
  rw [wB_of]
 ·obtain ⟨c1,c2,_⟩:=ln_cut (x:=wPatch) (ws:=[decW p.f0,decW p.f1,exprT p.f2]) (by simp) (free_gr g2)
  have w3:SN (lnB [decW p.f0,decW p.f1,exprT p.f2])=[decW p.f0,decW p.f1,exprT p.f2]:=SN_ln (free_gr (gr_dec _)) (free_gr (gr_dec _))
  unfold lineI patL
  rw [c1,c2,if_neg (by decide),if_pos rfl]
  unfold patI
  rw [w3,if_neg (by rintro (q|q);exact h0 (List.eq_nil_of_length_eq_zero q);exact q rfl)]
  have e0:gt [decW p.f0,decW p.f1,exprT p.f2] 0=decW p.f0:=rfl
  have e1:gt [decW p.f0,decW p.f1,exprT p.f2] 1=decW p.f1:=rfl
  have e2:gt [decW p.f0,decW p.f1,exprT p.f2] 2=exprT p.f2:=rfl
  rw [e0,e1,e2,numP_dec h.a0 h.a1,numP_dec h.k0 h.k1,show outI (exprT p.f2)=some p.f2 from h.rd]
 ·obtain ⟨c1,c2,_⟩:=ln_cut (x:=wSymbol) (ws:=[y.f0,decW y.f1,decW y.f2,decW (outN y.f3)]) (by simp) (free_gr g3)
  have w4:W (lnB [y.f0,decW y.f1,decW y.f2,decW (outN y.f3)])=[y.f0,decW y.f1,decW y.f2,decW (outN y.f3)]:=W_ln (by simp) (fun x hx=>by
   simp only [List.mem_cons,List.not_mem_nil,or_false] at hx
   rcases hx with rfl|rfl|rfl|rfl
   ·exact free_gr h.nm
   ·exact free_gr (gr_dec _)
   ·exact free_gr (gr_dec _)
   ·exact free_gr (gr_dec _))
  unfold lineI symL
  rw [c1,c2,if_neg (by decide),if_neg (by decide),if_pos rfl]
  unfold symI
  rw [w4,if_pos (show [y.f0,decW y.f1,decW y.f2,decW (outN y.f3)].length=4 from rfl)]
  have e0:gt [y.f0,decW y.f1,decW y.f2,decW (outN y.f3)] 0=y.f0:=rfl
  have e1:gt [y.f0,decW y.f1,decW y.f2,decW (outN y.f3)] 1=decW y.f1:=rfl
  have e2:gt [y.f0,decW y.f1,decW y.f2,decW (outN y.f3)] 2=decW y.f2:=rfl
  have e3:gt [y.f0,decW y.f1,decW y.f2,decW (outN y.f3)] 3=decW (outN y.f3):=rfl
  rw [e0,e1,e2,e3,numP_dec h.b.s0 h.b.s1,numP_dec h.b.a0 h.b.a1]
  have eo:oneB (decW (outN y.f3))=y.f3:=by
   have hl:(decW (outN y.f3)).toList=Lib.itoa (outN y.f3):=by rw [ByteArray.toList_eq];unfold decW;simp
   unfold oneB
   rw [hl]
   cases y.f3 <;> decide +kernel
  dsimp only
  rw [eo]
 ·obtain ⟨c1,c2,_⟩:=ln_cut (x:=wAssert) (ws:=[exprT a.f0]) (by simp) (free_gr g4)
  unfold lineI assL
  rw [c1,c2,if_neg (by decide),if_neg (by decide),if_neg (by decide),if_pos rfl,ln_one]
  unfold assI
  rw [show outI (exprT a.f0)=some a.f0 from h]
theorem int_at {w:List ByteArray} {k:Nat} {n:Int} (hk:k<w.length) (h:gt w k=decW n) (h0:-4000000000<=n) (h1:n<=4000000000):intS w k=some n:=by
 unfold intS
 rw [if_pos hk]
 have h:w.getD k ⟨#[]⟩=decW n:=h
 rw [h,numS_dec h0 h1]
theorem readsS:Reads lineS:=by
 obtain ⟨⟨g1,g2⟩,g3,g4⟩:=gr_words
 refine ⟨fun o s h=>?_,fun o p h0 h=>?_,fun o y h=>?_,fun o a h=>?_⟩
 ·have w6:wordsL 6 (headL s)=[wSection,s.f0,decW s.f1,decW s.f2,decW s.f3,hexA s.f4]:=by
   unfold headL
   rw [words_on (by decide) (by simp) (free_gr g1),words_on (by decide) (by simp) (free_gr h.nm),words_on (by decide) (by simp) (free_gr (gr_dec _)),words_on (by decide) (by simp) (free_gr (gr_dec _)),words_on (by decide) (by simp) (free_gr (gr_dec _)),words_one (free_gr (gr_hex _))]
  unfold lineS
  rw [w6,if_pos (show gt [wSection,s.f0,decW s.f1,decW s.f2,decW s.f3,hexA s.f4] 0=wSection from rfl)]
  unfold secS
  rw [if_pos (show [wSection,s.f0,decW s.f1,decW s.f2,decW s.f3,hexA s.f4].length=6 from rfl),int_at (n:=s.f1) (by simp) rfl h.b.k0 h.b.k1,int_at (n:=s.f2) (by simp) rfl h.b.b0 h.b.b1,int_at (n:=s.f3) (by simp) rfl h.b.a0 h.b.a1]
  have e1:gt [wSection,s.f0,decW s.f1,decW s.f2,decW s.f3,hexA s.f4] 1=s.f0:=rfl
  have e5:gt [wSection,s.f0,decW s.f1,decW s.f2,decW s.f3,hexA s.f4] 5=hexA s.f4:=rfl
  rw [e1,e5,by_hex]
  dsimp only
  rw [wB_of]
 ·have w4:wordsL 4 (patL p)=[wPatch,decW p.f0,decW p.f1,exprT p.f2]:=by
   unfold patL
   rw [words_on (by decide) (by simp) (free_gr g2),words_on (by decide) (by simp) (free_gr (gr_dec _)),words_on (by decide) (by simp) (free_gr (gr_dec _)),ln_one,Rwor.words_last]
  obtain ⟨T,w6⟩ : ∃ T,wordsL 6 (patL p)=wPatch :: decW p.f0 :: decW p.f1 :: T:=by
   unfold patL
   exact ⟨_,by rw [words_on (by decide) (by simp) (free_gr g2),words_on (by decide) (by simp) (free_gr (gr_dec _)),words_on (by decide) (by simp) (free_gr (gr_dec _))]⟩
  unfold lineS
  rw [w4,w6]
  have e0:gt (wPatch :: decW p.f0 :: decW p.f1 :: T) 0=wPatch:=rfl
  rw [e0,if_neg (by decide),if_pos rfl]
  unfold patS
  rw [if_neg (by rintro (q|q);exact h0 (List.eq_nil_of_length_eq_zero q);exact absurd q (by simp)),int_at (n:=p.f0) (by simp) rfl h.a0 h.a1,int_at (n:=p.f1) (by simp) rfl h.k0 h.k1]
  have e3:gt [wPatch,decW p.f0,decW p.f1,exprT p.f2] 3=exprT p.f2:=rfl
  rw [e3,<- Woru.same,show outI (exprT p.f2)=some p.f2 from h.rd]
 ·have w5:wordsL 6 (symL y)=[wSymbol,y.f0,decW y.f1,decW y.f2,decW (outN y.f3)]:=by
   unfold symL
   rw [words_on (by decide) (by simp) (free_gr g3),words_on (by decide) (by simp) (free_gr h.nm),words_on (by decide) (by simp) (free_gr (gr_dec _)),words_on (by decide) (by simp) (free_gr (gr_dec _)),words_one (free_gr (gr_dec _))]
  unfold lineS
  rw [w5]
  have e0:gt [wSymbol,y.f0,decW y.f1,decW y.f2,decW (outN y.f3)] 0=wSymbol:=rfl
  rw [e0,if_neg (by decide),if_neg (by decide),if_pos rfl]
  unfold symS
  have hn:-4000000000<=outN y.f3/\outN y.f3<=4000000000:=by unfold outN;split <;> omega
  rw [if_pos (show [wSymbol,y.f0,decW y.f1,decW y.f2,decW (outN y.f3)].length=5 from rfl),int_at (n:=y.f1) (by simp) rfl h.b.s0 h.b.s1,int_at (n:=y.f2) (by simp) rfl h.b.a0 h.b.a1,int_at (n:=outN y.f3) (by simp) rfl hn.1 hn.2]
  have e1:gt [wSymbol,y.f0,decW y.f1,decW y.f2,decW (outN y.f3)] 1=y.f0:=rfl
  have e2:decide (outN y.f3=1)=y.f3:=by unfold outN;cases y.f3 <;> rfl
  dsimp only
  rw [e1,e2]
 ·have w2:wordsL 2 (assL a)=[wAssert,exprT a.f0]:=by
   unfold assL
   rw [words_on (by decide) (by simp) (free_gr g4),ln_one,Rwor.words_last]
  obtain ⟨T,w6⟩ : ∃ T,wordsL 6 (assL a)=wAssert :: T:=by
   unfold assL
   exact ⟨_,by rw [words_on (by decide) (by simp) (free_gr g4)]⟩
  unfold lineS
  rw [w2,w6]
  have e0:gt (wAssert :: T) 0=wAssert:=rfl
  rw [e0,if_neg (by decide),if_neg (by decide),if_neg (by decide),if_pos rfl]
  unfold assS
  rw [if_neg (by simp)]
  have e1:gt [wAssert,exprT a.f0] 1=exprT a.f0:=rfl
  rw [e1,<- Woru.same,show outI (exprT a.f0)=some a.f0 from h]
noncomputable def outI9 (s:ByteArray):Option Objr.X:=out9 lineI false s
noncomputable def outS9 (s:ByteArray):Option Objr.X:=out9 lineS true s
theorem same (s:ByteArray):outI9 s=outS9 s:=by
 cases hI:outI9 s with
 | some o=>exact (half (b:=true) readsS (fun _ _ _=>rdI) hI).symm
 | none =>
  cases hS:outS9 s with
  | none=>rfl
  | some o =>
   have:=half (b:=false) readsI (fun _ _ _=>rdS) hS
   unfold outI9 at hI
   rw [hI] at this
   cases this
theorem text_of {s:ByteArray} {o:Objr.X} (h:outI9 s=some o):objV o=s:=by
 unfold outI9 out9 at h
 split at h
 ·cases h
 ·exact (fin9_some h).2
theorem again {o:Objr.X} (h:objB o=true) (hr:RdO o) (hz:(objV o).size<=60000):outI9 (objV o)=some o:=by
 unfold outI9 out9
 rw [if_neg (by omega),back readsI false h hr]
 exact fin9_of rfl
end Rliq
end Go.Proofs.YtickfkphhngagaaGreatDoor
