import Derived.Test.YtickfkphhngagaaGreatDoorP21
import Derived.Deep.AppendLies
import Derived.Deep.RegionLaw
set_option linter.all false
set_option maxRecDepth 20000
set_option maxHeartbeats 8000000
open Go.ChangeShapes Go.WideShapes Go.ChangeAt Go.RowKit
open Go.Proofs.Tryz
namespace Go.Proofs.YtickfkphhngagaaGreatDoor
namespace Rlsb
open Go.Deep
open Rown Rowo Rliq Rlip Rlsa Otxp
open Rwor (wordsL)
open Rint (intS)
open Rbyt (byO)
open Wors (outS)
open Otxa (after)
theorem infoO:(prog.info? 26).map (·.size)=some 3:=by kernel_rfl
theorem info35:(prog.info? 38).map (·.size)=some 6:=by kernel_rfl
theorem ne_lit {x:ByteArray} {w:ByteArray} (h:¬ x=w):(x.toList == w.toList)=false:=by
 simp only [beq_eq_false_iff_ne,ne_eq]
 exact fun q=>h (ByteArray.ext (Array.toList_inj.1 (by rw [ByteArray.toList_eq,ByteArray.toList_eq] at q;exact q)))
theorem ws1:wSection.toList=[115,101,99,116,105,111,110]:=by rw [ByteArray.toList_eq];rfl
theorem ws2:wPatch.toList=[112,97,116,99,104]:=by rw [ByteArray.toList_eq];rfl
theorem ws3:wSymbol.toList=[115,121,109,98,111,108]:=by rw [ByteArray.toList_eq];rfl
theorem ws4:wAssert.toList=[97,115,115,101,114,116]:=by rw [ByteArray.toList_eq];rfl
theorem tests (x:ByteArray):∃ t1 t2 t3 t4:Bool,(x.toList == [115,101,99,116,105,111,110])=t1/\(x.toList == [112,97,116,99,104])=t2/\(x.toList == [115,121,109,98,111,108])=t3/\(x.toList == [97,115,115,101,114,116])=t4 /\
  ((t1=true/\t2=false/\t3=false/\t4=false/\x=wSection) \/ (t1=false/\t2=true/\t3=false/\t4=false/\x=wPatch) \/ (t1=false/\t2=false/\t3=true/\t4=false/\x=wSymbol) \/ (t1=false/\t2=false/\t3=false/\t4=true/\x=wAssert) \/ (t1=false/\t2=false/\t3=false/\t4=false/\¬ x=wSection/\¬ x=wPatch/\¬ x=wSymbol/\¬ x=wAssert)):=by
 refine ⟨_,_,_,_,rfl,rfl,rfl,rfl,?_⟩
 by_cases h1:x=wSection
 ·subst h1;rw [ws1];exact .inl ⟨rfl,rfl,rfl,rfl,rfl⟩
 by_cases h2:x=wPatch
 ·subst h2;rw [ws2];exact .inr (.inl ⟨rfl,rfl,rfl,rfl,rfl⟩)
 by_cases h3:x=wSymbol
 ·subst h3;rw [ws3];exact .inr (.inr (.inl ⟨rfl,rfl,rfl,rfl,rfl⟩))
 by_cases h4:x=wAssert
 ·subst h4;rw [ws4];exact .inr (.inr (.inr (.inl ⟨rfl,rfl,rfl,rfl,rfl⟩)))
 ·exact .inr (.inr (.inr (.inr ⟨by rw [<- ws1];exact ne_lit h1,by rw [<- ws2];exact ne_lit h2,by rw [<- ws3];exact ne_lit h3,by rw [<- ws4];exact ne_lit h4,h1,h2,h3,h4⟩)))
theorem line_sec {o:Objr.X} {l:ByteArray} (h:gt (wordsL 6 l) 0=wSection):lineS o l=secS o (wordsL 6 l):=by unfold lineS;rw [if_pos h]
theorem line_pat {o:Objr.X} {l:ByteArray} (h:gt (wordsL 6 l) 0=wPatch):lineS o l=patS o (wordsL 6 l) (wordsL 4 l):=by unfold lineS;rw [if_neg (by rw [h];decide),if_pos h]
theorem line_sym {o:Objr.X} {l:ByteArray} (h:gt (wordsL 6 l) 0=wSymbol):lineS o l=symS o (wordsL 6 l):=by unfold lineS;rw [if_neg (by rw [h];decide),if_neg (by rw [h];decide),if_pos h]
theorem line_ass {o:Objr.X} {l:ByteArray} (h:gt (wordsL 6 l) 0=wAssert):lineS o l=assS o (wordsL 2 l):=by unfold lineS;rw [if_neg (by rw [h];decide),if_neg (by rw [h];decide),if_neg (by rw [h];decide),if_pos h]
theorem line_no {o:Objr.X} {l:ByteArray} (h1:¬ gt (wordsL 6 l) 0=wSection) (h2:¬ gt (wordsL 6 l) 0=wPatch) (h3:¬ gt (wordsL 6 l) 0=wSymbol) (h4:¬ gt (wordsL 6 l) 0=wAssert):lineS o l=none:=by unfold lineS;rw [if_neg h1,if_neg h2,if_neg h3,if_neg h4]
theorem sec_len {o:Objr.X} {w:List ByteArray} (h:¬ w.length=6):secS o w=none:=by unfold secS;rw [if_neg h]
theorem sec_2 {o:Objr.X} {w:List ByteArray} (h:intS w 2=none):secS o w=none:=by unfold secS;split <;> simp [h]
theorem sec_3 {o:Objr.X} {w:List ByteArray} (h:intS w 3=none):secS o w=none:=by unfold secS;split <;> simp [h]
theorem sec_4 {o:Objr.X} {w:List ByteArray} (h:intS w 4=none):secS o w=none:=by unfold secS;split <;> simp [h]
theorem sec_5 {o:Objr.X} {w:List ByteArray} (h:byO (gt w 5).data.toList=none):secS o w=none:=by unfold secS;split <;> simp [h]
theorem sec_yes {o:Objr.X} {w:List ByteArray} {k b a:Int} {D:List UInt8} (h:w.length=6) (h2:intS w 2=some k) (h3:intS w 3=some b) (h4:intS w 4=some a) (h5:byO (gt w 5).data.toList=some D):secS o w=some ⟨o.f0 ++ [⟨gt w 1,k,b,a,wB D,[]⟩],o.f1,o.f2⟩:=by unfold secS;rw [if_pos h,h2,h3,h4,h5]
theorem sym_len {o:Objr.X} {w:List ByteArray} (h:¬ w.length=5):symS o w=none:=by unfold symS;rw [if_neg h]
theorem sym_2 {o:Objr.X} {w:List ByteArray} (h:intS w 2=none):symS o w=none:=by unfold symS;split <;> simp [h]
theorem sym_3 {o:Objr.X} {w:List ByteArray} (h:intS w 3=none):symS o w=none:=by unfold symS;split <;> simp [h]
theorem sym_4 {o:Objr.X} {w:List ByteArray} (h:intS w 4=none):symS o w=none:=by unfold symS;split <;> simp [h]
theorem sym_yes {o:Objr.X} {w:List ByteArray} {k b a:Int} (h:w.length=5) (h2:intS w 2=some k) (h3:intS w 3=some b) (h4:intS w 4=some a):symS o w=some ⟨o.f0,o.f1 ++ [⟨gt w 1,k,b,decide (a=1)⟩],o.f2⟩:=by unfold symS;rw [if_pos h,h2,h3,h4]
theorem pat_0 {o:Objr.X} {w v:List ByteArray} (h:o.f0.length=0):patS o w v=none:=by unfold patS;rw [if_pos (.inl h)]
theorem pat_len {o:Objr.X} {w v:List ByteArray} (h:v.length<4):patS o w v=none:=by unfold patS;rw [if_pos (.inr h)]
theorem pat_1 {o:Objr.X} {w v:List ByteArray} (h:intS v 1=none):patS o w v=none:=by unfold patS;split <;> simp [h]
theorem pat_2 {o:Objr.X} {w v:List ByteArray} (h:intS w 2=none):patS o w v=none:=by unfold patS;split <;> simp [h]
theorem pat_3 {o:Objr.X} {w v:List ByteArray} (h:outS (gt v 3)=none):patS o w v=none:=by unfold patS;split <;> simp [h]
theorem pat_yes {o:Objr.X} {w v:List ByteArray} {k a:Int} {e:List Stepx.Node} (h0:¬ o.f0.length=0) (h:¬ v.length<4) (h1:intS v 1=some a) (h2:intS w 2=some k) (h3:outS (gt v 3)=some e):patS o w v=some ⟨addP o.f0 ⟨a,k,e⟩,o.f1,o.f2⟩:=by unfold patS;rw [if_neg (fun q=>q.elim h0 h),h1,h2,h3]
theorem ass_len {o:Objr.X} {v:List ByteArray} (h:v.length<2):assS o v=none:=by unfold assS;rw [if_pos h]
theorem ass_1 {o:Objr.X} {v:List ByteArray} (h:outS (gt v 1)=none):assS o v=none:=by unfold assS;split <;> simp [h]
theorem ass_yes {o:Objr.X} {v:List ByteArray} {e:List Stepx.Node} (h:¬ v.length<2) (h1:outS (gt v 1)=some e):assS o v=some ⟨o.f0,o.f1,o.f2 ++ [⟨e⟩]⟩:=by unfold assS;rw [if_neg h,h1]
theorem l9Line_any (ss:List Sd) (ys:List Osyr.X) (aa:List Ad) (a0 a1 a2:Option Addr) (c0 c1 c2:Nat) (s:ByteArray) (bs m:Nat) (w:World) (hbs:bs<=w.heap.size) (hO:Ob w bs (.slice a0 ss.length c0) ss (.slice a1 ys.length c1) ys (.slice a2 aa.length c2) aa) (hm:m<=100000) (hS:Sm m (objX ss ys aa)) (hs:s.size<=1048576) :
  Calls prog 22 #[.agg #[.slice a0 ss.length c0,.slice a1 ys.length c1,.slice a2 aa.length c2],.string s] w (Post bs w (lineS (objX ss ys aa) s)):=by
 obtain ⟨R,hR⟩ : ∃ R,R=lineS (objX ss ys aa) s:=⟨_,rfl⟩
 rw [<- hR]
 have HR:Hid (R=lineS (objX ss ys aa) s):=hR
 clear hR
 have HS:Hid (Sm m (objX ss ys aa)):=hS
 have ls:ss.length<=100000:=by have:=hS.s;have e:(objX ss ys aa).f0.length=ss.length:=List.length_map ..;omega
 have ly:ys.length<=100000:=by have:=hS.y;have e:(objX ss ys aa).f1=ys:=rfl;rw [e] at this;omega
 have la:aa.length<=100000:=by have:=hS.a;have e:(objX ss ys aa).f2.length=aa.length:=List.length_map ..;omega
 have cw6:∀ w,Calls prog 58 #[.string s,.int .i64 6] w fun e w'=>(∃ g n cap,e=.returned (.slice (some ⟨g,0,none⟩) n cap)/\Wd w' g n cap (wordsL 6 s))/\Below w.heap.size w w':=fun w=>words_any 6 (by decide) (by decide) s w hs
 have cw4:∀ w,Calls prog 58 #[.string s,.int .i64 4] w fun e w'=>(∃ g n cap,e=.returned (.slice (some ⟨g,0,none⟩) n cap)/\Wd w' g n cap (wordsL 4 s))/\Below w.heap.size w w':=fun w=>words_any 4 (by decide) (by decide) s w hs
 have cw2:∀ w,Calls prog 58 #[.string s,.int .i64 2] w fun e w'=>(∃ g n cap,e=.returned (.slice (some ⟨g,0,none⟩) n cap)/\Wd w' g n cap (wordsL 2 s))/\Below w.heap.size w w':=fun w=>words_any 2 (by decide) (by decide) s w hs
 have l6:(wordsL 6 s).length<=6:=Rwor.words_len 5 s
 have l4:(wordsL 4 s).length<=4:=Rwor.words_len 3 s
 have l2:(wordsL 2 s).length<=2:=Rwor.words_len 1 s
 have p6:=words_ne 6 s
 have HZ:Hid (∀ M,∀ x ∈ wordsL M s,x.size<=1048576):=fun M x hx=>by have:=words_le M s x hx;omega
 have S0:=(show Hid _ from st_zero hbs hO)
 have HBS:Hid (bs<=w.heap.size):=hbs
 obtain ⟨nS,hnS⟩ : ∃ n,n=ss.length:=⟨_,rfl⟩
 obtain ⟨nY,hnY⟩ : ∃ n,n=ys.length:=⟨_,rfl⟩
 obtain ⟨nA,hnA⟩ : ∃ n,n=aa.length:=⟨_,rfl⟩
 have HL:Hid (nS=ss.length/\nY=ys.length/\nA=aa.length):=⟨hnS,hnY,hnA⟩
 rw [<- hnS] at S0 ls |-
 rw [<- hnY] at S0 ly |-
 rw [<- hnA] at S0 la |-
 have hmm:=hm
 clear hnS hnY hnA hO hS hs hbs hm
 go_enter func22,ntmps22
 go_wp2_with fail
 generalize (w.alloc (.cells #[.slice a0 nS c0,.slice a1 nY c1,.slice a2 nA c2] 26)).alloc (.cells #[.slice none 0 0,.slice none 0 0,.slice none 0 0] 26)=W0 at S0 |-
 refine (cw6 _).mono ?_
 rintro e w1 ⟨⟨g,n,cap,rfl,hw1⟩,b1⟩
 have S1:=(show Hid _ from S0.out.below HBS.out b1)
 have V1:Hid (Wd w1 g n cap (wordsL 6 s)):=hw1
 clear hw1 b1 S0 cw6
 go_wp2_with fail
 refine (int_any g n cap (wordsL 6 s) 2 w1 V1.out (by omega) (by decide) (HZ.out 6)).mono ?_
 rintro e w2 ⟨rfl,b2⟩
 have S2:=(show Hid _ from S1.out.below HBS.out b2)
 have V2:=zHd (V1.out.below b2)
 clear b2 S1 V1
 go_wp2_with fail
 refine (int_any g n cap (wordsL 6 s) 3 w2 V2.out (by omega) (by decide) (HZ.out 6)).mono ?_
 rintro e w3 ⟨rfl,b3⟩
 have S3:=(show Hid _ from S2.out.below HBS.out b3)
 have V3:=zHd (V2.out.below b3)
 clear b3 S2 V2
 go_wp2_with fail
 refine (int_any g n cap (wordsL 6 s) 4 w3 V3.out (by omega) (by decide) (HZ.out 6)).mono ?_
 rintro e w4 ⟨rfl,b4⟩
 have S4:=(show Hid _ from S3.out.below HBS.out b4)
 have V4:=zHd (V3.out.below b4)
 clear b4 S3 V3
 have hn:=V4.out.n
 have x0:=V4.out.c 0 p6
 have k0:w4.cell? ⟨w.heap.size,0,none⟩=some (.slice a0 nS c0):=by rw [cell_of_row _ _ _ _ _ _ S4.out.k1];rfl
 have k1:w4.cell? ⟨w.heap.size,1,none⟩=some (.slice a1 nY c1):=by rw [cell_of_row _ _ _ _ _ _ S4.out.k1];rfl
 have k2:w4.cell? ⟨w.heap.size,2,none⟩=some (.slice a2 nA c2):=by rw [cell_of_row _ _ _ _ _ _ S4.out.k1];rfl
 have X0:Hid (∀ X,gt (wordsL 6 s) 0=X->gt (wordsL 6 s) 0=X):=fun _ h=>h
 obtain ⟨X,hX⟩ : ∃ X,gt (wordsL 6 s) 0=X:=⟨_,rfl⟩
 have HX:Hid (gt (wordsL 6 s) 0=X):=hX
 rw [hX] at x0
 obtain ⟨q2,hq2⟩ : ∃ q,(intS (wordsL 6 s) 2).isSome=q:=⟨_,rfl⟩
 obtain ⟨i2,hi2⟩ : ∃ q,(intS (wordsL 6 s) 2).getD 0=q:=⟨_,rfl⟩
 have H2:Hid ((intS (wordsL 6 s) 2).isSome=q2/\(intS (wordsL 6 s) 2).getD 0=i2):=⟨hq2,hi2⟩
 obtain ⟨q3,hq3⟩ : ∃ q,(intS (wordsL 6 s) 3).isSome=q:=⟨_,rfl⟩
 obtain ⟨i3,hi3⟩ : ∃ q,(intS (wordsL 6 s) 3).getD 0=q:=⟨_,rfl⟩
 have H3:Hid ((intS (wordsL 6 s) 3).isSome=q3/\(intS (wordsL 6 s) 3).getD 0=i3):=⟨hq3,hi3⟩
 obtain ⟨q4,hq4⟩ : ∃ q,(intS (wordsL 6 s) 4).isSome=q:=⟨_,rfl⟩
 obtain ⟨i4,hi4⟩ : ∃ q,(intS (wordsL 6 s) 4).getD 0=q:=⟨_,rfl⟩
 have H4:Hid ((intS (wordsL 6 s) 4).isSome=q4/\(intS (wordsL 6 s) 4).getD 0=i4):=⟨hq4,hi4⟩
 rw [hq2,hq3,hq4,hi2,hi3,hi4]
 have n0:0<n:=by omega
 have n6:n<=6:=by omega
 have HN:Hid (n=(wordsL 6 s).length):=hn
 clear hX X0 hq2 hq3 hq4 hi2 hi3 hi4 hn p6 l6
 obtain ⟨t1,t2,t3,t4,e1,e2,e3,e4,hc⟩:=tests X
 rcases hc with ⟨rfl,rfl,rfl,rfl,hx⟩|⟨rfl,rfl,rfl,rfl,hx⟩|⟨rfl,rfl,rfl,rfl,hx⟩|⟨rfl,rfl,rfl,rfl,hx⟩|⟨rfl,rfl,rfl,rfl,hx1,hx2,hx3,hx4⟩
 ·rw [line_sec (by rw [HX.out];exact hx)] at HR
  clear hx
  by_cases hk:n=6
  ·have dk:decide ((n:Int)=6)=true:=decide_eq_true (by omega)
   have dk2:((n:Int) == 6)=true:=by simp;omega
   cases q2 with
   | false =>
    have HN0:Hid (R=none):=(show R=none from by rw [HR.out];exact sec_2 (opt_no H2.out.1))
    clear HR HX
    go_upto_region 30 with fail
    refine wp_region_list ?_
    refine wpList_load_row rfl 26 _ rfl w.heap.size rfl _ _ (0,0) _ S4.out.k1 underlying26 rfl infoO ?_
    refine wpList_store_row rfl 26 _ _ rfl (w.heap.size+1) #[.slice a0 nS c0,.slice a1 nY c1,.slice a2 nA c2] rfl rfl _ _ S4.out.k2 infoO rfl (by simp [Value.oneCell']) ?_
    go_wp2
    exact bodyPost_ret (v:=.tuple #[.agg #[.slice a0 nS c0,.slice a1 nY c1,.slice a2 nA c2],.bool false]) (Rlsa.results_two results22 _ _ (w.heap.size+1) _ _ (0,0) _ _ rfl rfl (setRow_heap _ _ _ _ _ _ S4.out.k2) underlying26 rfl infoO) rfl (post_no S4.out HBS.out HN0.out)
   | true =>
    cases q3 with
    | false =>
     have HN0:Hid (R=none):=(show R=none from by rw [HR.out];exact sec_3 (opt_no H3.out.1))
     clear HR HX
     go_upto_region 30 with fail
     refine wp_region_list ?_
     refine wpList_load_row rfl 26 _ rfl w.heap.size rfl _ _ (0,0) _ S4.out.k1 underlying26 rfl infoO ?_
     refine wpList_store_row rfl 26 _ _ rfl (w.heap.size+1) #[.slice a0 nS c0,.slice a1 nY c1,.slice a2 nA c2] rfl rfl _ _ S4.out.k2 infoO rfl (by simp [Value.oneCell']) ?_
     go_wp2
     exact bodyPost_ret (v:=.tuple #[.agg #[.slice a0 nS c0,.slice a1 nY c1,.slice a2 nA c2],.bool false]) (Rlsa.results_two results22 _ _ (w.heap.size+1) _ _ (0,0) _ _ rfl rfl (setRow_heap _ _ _ _ _ _ S4.out.k2) underlying26 rfl infoO) rfl (post_no S4.out HBS.out HN0.out)
    | true =>
     cases q4 with
     | false =>
      have HN0:Hid (R=none):=(show R=none from by rw [HR.out];exact sec_4 (opt_no H4.out.1))
      clear HR HX
      go_upto_region 30 with fail
      refine wp_region_list ?_
      refine wpList_load_row rfl 26 _ rfl w.heap.size rfl _ _ (0,0) _ S4.out.k1 underlying26 rfl infoO ?_
      refine wpList_store_row rfl 26 _ _ rfl (w.heap.size+1) #[.slice a0 nS c0,.slice a1 nY c1,.slice a2 nA c2] rfl rfl _ _ S4.out.k2 infoO rfl (by simp [Value.oneCell']) ?_
      go_wp2
      exact bodyPost_ret (v:=.tuple #[.agg #[.slice a0 nS c0,.slice a1 nY c1,.slice a2 nA c2],.bool false]) (Rlsa.results_two results22 _ _ (w.heap.size+1) _ _ (0,0) _ _ rfl rfl (setRow_heap _ _ _ _ _ _ S4.out.k2) underlying26 rfl infoO) rfl (post_no S4.out HBS.out HN0.out)
     | true =>
      have x5:=V4.out.c 5 (by rw [<- HN.out];omega)
      have z5:(gt (wordsL 6 s) 5).size<=1048576:=HZ.out 6 _ (by rw [gt_at (by rw [<- HN.out];omega)];exact List.getElem_mem _)
      have cb:=fun w=>Rbyt.specBytes_any (gt (wordsL 6 s) 5) w z5
      obtain ⟨q5,hq5⟩ : ∃ q,(byO (gt (wordsL 6 s) 5).data.toList).isSome=q:=⟨_,rfl⟩
      have H5:Hid ((byO (gt (wordsL 6 s) 5).data.toList).isSome=q5):=hq5
      have HB5:Hid (∀ w,Calls prog 60 #[.string (gt (wordsL 6 s) 5)] w fun e w'=>(∃ x:ByteArray,e=.returned (.tuple #[.string x,.bool q5])/\∀ l,byO (gt (wordsL 6 s) 5).data.toList=some l->x=⟨l.toArray⟩)/\Below w.heap.size w w'):=fun w=>by rw [<- hq5];exact cb w
      have k5:(5:Int)<(n:Int):=by omega
      clear hq5 cb
      generalize hg5:gt (wordsL 6 s) 5=X5 at x5 z5 HB5 H5
      have HG5:Hid (gt (wordsL 6 s) 5=X5):=hg5
      clear hg5
      go_upto_region 7 with fail
      go_wp2_with fail
      refine (HB5.out _).mono ?_
      rintro e w5 ⟨⟨dt,rfl,hdt⟩,b5⟩
      have HD:Hid (∀ l,byO X5.data.toList=some l->dt=⟨l.toArray⟩):=hdt
      have S5:=(show Hid _ from S4.out.below HBS.out b5)
      have V5:=zHd (V4.out.below b5)
      clear b5 hdt HB5 x5 x0 k0 k1 k2 S4 V4
      have x1:=V5.out.c 1 (by rw [<- HN.out];omega)
      have k0:w5.cell? ⟨w.heap.size,0,none⟩=some (.slice a0 nS c0):=by rw [cell_of_row _ _ _ _ _ _ S5.out.k1];rfl
      have k1n:(1:Int)<(n:Int):=by omega
      generalize hx1:gt (wordsL 6 s) 1=X1 at x1
      have HG1:Hid (gt (wordsL 6 s) 1=X1):=hx1
      clear hx1
      obtain ⟨i0,hi,hz0,hz1,hz2⟩:=info_parts infoS
      have GB:Hid (∀ o,Below w5.heap.size w5 ((w5.alloc o).drew)):=fun o=>(zAl _ _).drew
      have OWN:Hid (∀ o,((w5.alloc o).drew).ownsRow bs 38 6 (.slice a0 nS c0) nS (ss.flatMap Sd.cells)):=fun o=>by
       have h:=(S5.out.below HBS.out (GB.out o)).ob.sec
       rwa [<- HL.out.1] at h
      have FIN:Hid (∀ (o:Obj) (w6:World) (g' c':Nat),w6.ownsRow bs 38 6 (.slice (some ⟨g',0,none⟩) (nS+1) c') (nS+1) (ss.flatMap Sd.cells ++ [.string X1,.int .i64 i2,.int .i64 i3,.int .i64 i4,.string dt,.slice none 0 0])->((w5.alloc o).drew).grownBy w6 (Value.slice a0 nS c0).ownBlock ->
        St w bs #[.slice (some ⟨g',0,none⟩) (nS+1) c',.slice a1 nY c1,.slice a2 nA c2] (.slice (some ⟨g',0,none⟩) (nS+1) c') (ss ++ [⟨X1,i2,i3,i4,dt,.slice none 0 0,[]⟩]) (.slice a1 nY c1) ys (.slice a2 nA c2) aa (w6.setCell ⟨w.heap.size,0,none⟩ (.slice (some ⟨g',0,none⟩) (nS+1) c'))/\w6.cell? ⟨w.heap.size,0,none⟩=some (.slice a0 nS c0)/\w6.frozen? ⟨w.heap.size,0,none⟩=false):=fun o w6 g' c' ho hg=>by
       have hS:=S5.out.below HBS.out (GB.out o)
       have hr:=hS.row (OWN.out o) (by decide)
       have e1:=(hg.block _ (by have:=hS.z;omega) (fun e=>(hr _ e.symm).2.1 rfl)).trans hS.k1
       refine ⟨hS.store (i:=0) HBS.out hg hr (Rlsa.Ob.addS hS.ob X1 dt i2 i3 i4 _ (by rw [<- HL.out.1];exact ho) hg),?_,frozen_of_row _ _ _ _ _ e1⟩
       rw [cell_of_row _ _ _ _ _ _ e1];rfl
      have kA:∀ o,(w5.alloc o).cell? ⟨w.heap.size,0,none⟩=some (.slice a0 nS c0):=fun o=>(((Below.refl w5.heap.size w5).alloc (Nat.le_refl _) o).cell (p:=⟨w.heap.size,0,none⟩) (by have:=S5.out.z;show w.heap.size<_;omega)).trans k0
      have hl63:nS+1<=maxLen:=by unfold maxLen;omega
      have hbs6:Hid (∀ o,bs<=((w5.alloc o).drew).heap.size):=fun o=>by have:=HBS.out;have:=S5.out.z;have:=(GB.out o).size;omega
      clear GB
      go_wp2_with fail
      go_region_law (first
       | (refine step_append_lies _ rfl (.tmp 72) (.tmp 81) 22 rfl bs 38 i0 (.agg #[.string ⟨#[]⟩,.int .i64 0,.int .i64 0,.int .i64 0,.string ⟨#[]⟩,.slice none 0 0]) 6 80 underlying22 hi hz0 hz1 hz2 rfl (by decide) (.slice a0 nS c0) nS (ss.flatMap Sd.cells) rfl (OWN.out _) ⟨w5.heap.size,0,none⟩ 1 1 [.string X1,.int .i64 i2,.int .i64 i3,.int .i64 i4,.string dt,.slice none 0 0] rfl rfl (newN w5 [.string X1,.int .i64 i2,.int .i64 i3,.int .i64 i4,.string dt,.slice none 0 0] 38) (by intro u hu;simp at hu;rcases hu with rfl|rfl|rfl|rfl|rfl|rfl <;> rfl) (by decide) hl63 (by omega) (hbs6.out _) _ rfl ?_;intro g' c' w6 hown' hgrow hat hlt';obtain ⟨p6,d0,f0⟩:=FIN.out _ w6 g' c' hown' hgrow;have S6:=(show Hid _ from p6);clear p6 hown' hgrow hat hlt')
       | fail)
      all_goals
       cases q5 with
       | true =>
        have HN1:Hid (R=some (objX (ss ++ [⟨X1,i2,i3,i4,dt,.slice none 0 0,[]⟩]) ys aa)):=(show R=_ from by
         obtain ⟨D,hD⟩:=Option.isSome_iff_exists.1 H5.out
         rw [HR.out,sec_yes (by rw [<- HN.out];exact hk) (opt_yes H2.out.1 H2.out.2) (opt_yes H3.out.1 H3.out.2) (opt_yes H4.out.1 H4.out.2) (by rw [HG5.out];exact hD),HG1.out,HD.out D hD]
         unfold objX;rw [List.map_append];rfl)
        clear HR
        go_upto_region 9 with fail
        refine wp_region_list ?_
        refine wpList_load_row rfl 26 _ rfl w.heap.size rfl _ _ (0,0) _ S6.out.k1 underlying26 rfl infoO ?_
        refine wpList_plain rfl (fun K hK=>?_)
        go_simp
        refine hK _ _ ?_
        refine wpList_store_row rfl 26 _ _ rfl (w.heap.size+1) #[.slice (some ⟨g',0,none⟩) (nS+1) c',.slice a1 nY c1,.slice a2 nA c2] rfl rfl _ _ S6.out.k2 infoO rfl (by simp [Value.oneCell']) ?_
        go_wp2
        exact bodyPost_ret (v:=.tuple #[.agg #[.slice (some ⟨g',0,none⟩) (nS+1) c',.slice a1 nY c1,.slice a2 nA c2],.bool true]) (Rlsa.results_two results22 _ _ (w.heap.size+1) _ _ (0,0) _ _ rfl rfl (setRow_heap _ _ _ _ _ _ S6.out.k2) underlying26 rfl infoO) rfl (post_yes S6.out HBS.out (by rw [List.length_append,<- HL.out.1];rfl) HL.out.2.1 HL.out.2.2 HN1.out)
       | false =>
        have HN0:Hid (R=none):=(show R=none from by rw [HR.out];exact sec_5 (by rw [HG5.out];exact opt_no H5.out))
        clear HR
        go_upto_region 9 with fail
        refine wp_region_list ?_
        refine wpList_load_row rfl 26 _ rfl w.heap.size rfl _ _ (0,0) _ S6.out.k1 underlying26 rfl infoO ?_
        refine wpList_plain rfl (fun K hK=>?_)
        go_simp
        refine hK _ _ ?_
        refine wpList_store_row rfl 26 _ _ rfl (w.heap.size+1) #[.slice (some ⟨g',0,none⟩) (nS+1) c',.slice a1 nY c1,.slice a2 nA c2] rfl rfl _ _ S6.out.k2 infoO rfl (by simp [Value.oneCell']) ?_
        go_wp2
        exact bodyPost_ret (v:=.tuple #[.agg #[.slice (some ⟨g',0,none⟩) (nS+1) c',.slice a1 nY c1,.slice a2 nA c2],.bool false]) (Rlsa.results_two results22 _ _ (w.heap.size+1) _ _ (0,0) _ _ rfl rfl (setRow_heap _ _ _ _ _ _ S6.out.k2) underlying26 rfl infoO) rfl (post_no S6.out HBS.out HN0.out)
  ·have dk:decide ((n:Int)=6)=false:=decide_eq_false (by omega)
   have dk2:((n:Int) == 6)=false:=by simp;omega
   have HN0:Hid (R=none):=(show R=none from by rw [HR.out];exact sec_len (by rw [<- HN.out];exact hk))
   clear HR HX
   go_upto_region 30 with fail
   refine wp_region_list ?_
   refine wpList_load_row rfl 26 _ rfl w.heap.size rfl _ _ (0,0) _ S4.out.k1 underlying26 rfl infoO ?_
   refine wpList_store_row rfl 26 _ _ rfl (w.heap.size+1) #[.slice a0 nS c0,.slice a1 nY c1,.slice a2 nA c2] rfl rfl _ _ S4.out.k2 infoO rfl (by simp [Value.oneCell']) ?_
   go_wp2
   exact bodyPost_ret (v:=.tuple #[.agg #[.slice a0 nS c0,.slice a1 nY c1,.slice a2 nA c2],.bool false]) (Rlsa.results_two results22 _ _ (w.heap.size+1) _ _ (0,0) _ _ rfl rfl (setRow_heap _ _ _ _ _ _ S4.out.k2) underlying26 rfl infoO) rfl (post_no S4.out HBS.out HN0.out)
 ·rw [line_pat (by rw [HX.out];exact hx)] at HR
  clear hx
  have e30:Hid (∀ (h:¬ nS=0),∃ S s0,ss=S ++ [s0]/\nS=S.length+1):=fun h=>by
   rcases List.eq_nil_or_concat ss with e|⟨S,s0,e⟩
   ·exact absurd (by rw [HL.out.1,e];rfl) h
   ·rw [List.concat_eq_append] at e
    exact ⟨S,s0,e,by rw [HL.out.1,e];simp⟩
  by_cases hk:nS=0
  ·have dk:decide (0<(nS:Int))=false:=decide_eq_false (by omega)
   have dkn:decide (0<nS)=false:=decide_eq_false (by omega)
   have HN0:Hid (R=none):=(show R=none from by rw [HR.out];exact pat_0 (by show (ss.map Sd.x).length=0;rw [List.length_map,<- HL.out.1];exact hk))
   clear HR HX e30 hk
   go_upto_region 30 with fail
   refine wp_region_list ?_
   refine wpList_load_row rfl 26 _ rfl w.heap.size rfl _ _ (0,0) _ S4.out.k1 underlying26 rfl infoO ?_
   refine wpList_store_row rfl 26 _ _ rfl (w.heap.size+1) #[.slice a0 nS c0,.slice a1 nY c1,.slice a2 nA c2] rfl rfl _ _ S4.out.k2 infoO rfl (by simp [Value.oneCell']) ?_
   go_wp2
   exact bodyPost_ret (v:=.tuple #[.agg #[.slice a0 nS c0,.slice a1 nY c1,.slice a2 nA c2],.bool false]) (Rlsa.results_two results22 _ _ (w.heap.size+1) _ _ (0,0) _ _ rfl rfl (setRow_heap _ _ _ _ _ _ S4.out.k2) underlying26 rfl infoO) rfl (post_no S4.out HBS.out HN0.out)
  obtain ⟨S,s0,hss,hnS⟩:=e30.out hk
  obtain ⟨k,hkS⟩ : ∃ k,k=S.length:=⟨_,rfl⟩
  rw [<- hkS] at hnS
  subst hnS
  have HKS:Hid (S.length=k):=hkS.symm
  clear hkS e30 hk
  subst hss
  obtain ⟨g0,c0',hv0,hb0,hg0⟩:=World.ownsRow.form S4.out.ob.sec (by simp)
  injection hv0 with ha hb hc'
  subst ha
  clear hb hc' hb0 hg0
  obtain ⟨nm,sk,sb,sa,sd,pv,ps⟩:=s0
  obtain ⟨pa,pc,hpv⟩:=own_slice (S4.out.ob.rw.pat ⟨nm,sk,sb,sa,sd,pv,ps⟩ (by simp))
  have hpv:pv=.slice pa ps.length pc:=hpv
  subst hpv
  have lp:ps.length<=1000000:=by
   have h:=(HS.out.sx (Sd.x ⟨nm,sk,sb,sa,sd,.slice pa ps.length pc,ps⟩) (List.mem_map_of_mem (by simp))).2.2
   have e:(Sd.x ⟨nm,sk,sb,sa,sd,.slice pa ps.length pc,ps⟩).f5.length=ps.length:=List.length_map ..
   have:=hmm;omega
  have dk:decide (0<((k+1:Nat):Int))=true:=decide_eq_true (by omega)
  have dk2:decide (0<(k:Int)+1)=true:=decide_eq_true (by omega)
  have dkn:decide (0<k+1)=true:=decide_eq_true (by omega)
  go_upto_region 11 with fail
  go_wp2_with fail
  refine (cw4 _).mono ?_
  rintro e w5 ⟨⟨g4,n4,cap4,rfl,hw5⟩,b5⟩
  have S5:=(show Hid _ from S4.out.below HBS.out b5)
  have V5:Hid (Wd w5 g4 n4 cap4 (wordsL 4 s)):=hw5
  clear hw5 b5 x0 k0 k1 k2 cw4 cw2 V4 HN S4
  go_wp2_with fail
  refine (int_any g4 n4 cap4 (wordsL 4 s) 1 w5 V5.out (by omega) (by decide) (HZ.out 4)).mono ?_
  rintro e w6 ⟨rfl,b6⟩
  have S4:=(show Hid _ from S5.out.below HBS.out b6)
  have V6:=zHd (V5.out.below b6)
  have hn4:=V6.out.n
  have HN4:Hid (n4=(wordsL 4 s).length):=hn4
  obtain ⟨q1,hq1⟩ : ∃ q,(intS (wordsL 4 s) 1).isSome=q:=⟨_,rfl⟩
  obtain ⟨i1,hi1⟩ : ∃ q,(intS (wordsL 4 s) 1).getD 0=q:=⟨_,rfl⟩
  have H1:Hid ((intS (wordsL 4 s) 1).isSome=q1/\(intS (wordsL 4 s) 1).getD 0=i1):=⟨hq1,hi1⟩
  rw [hq1,hi1]
  clear b6 S5 V5 hq1 hi1
  cases q1 with
  | false =>
   have HN0:Hid (R=none):=(show R=none from by rw [HR.out];exact pat_1 (opt_no H1.out.1))
   clear HR HX hn4
   go_upto_region 14 with fail
   refine wp_region_list ?_
   refine wpList_load_row rfl 26 _ rfl w.heap.size rfl _ _ (0,0) _ S4.out.k1 underlying26 rfl infoO ?_
   refine wpList_store_row rfl 26 _ _ rfl (w.heap.size+1) #[.slice (some ⟨g0,0,none⟩) (k+1) c0,.slice a1 nY c1,.slice a2 nA c2] rfl rfl _ _ S4.out.k2 infoO rfl (by simp [Value.oneCell']) ?_
   go_wp2
   exact bodyPost_ret (v:=.tuple #[.agg #[.slice (some ⟨g0,0,none⟩) (k+1) c0,.slice a1 nY c1,.slice a2 nA c2],.bool false]) (Rlsa.results_two results22 _ _ (w.heap.size+1) _ _ (0,0) _ _ rfl rfl (setRow_heap _ _ _ _ _ _ S4.out.k2) underlying26 rfl infoO) rfl (post_no S4.out HBS.out HN0.out)
  | true =>
   by_cases h4:n4<4
   ·have d4:decide ((n4:Int)<4)=true:=decide_eq_true (by omega)
    have HN0:Hid (R=none):=(show R=none from by rw [HR.out];exact pat_len (by rw [<- HN4.out];exact h4))
    clear HR HX hn4
    go_upto_region 14 with fail
    refine wp_region_list ?_
    refine wpList_load_row rfl 26 _ rfl w.heap.size rfl _ _ (0,0) _ S4.out.k1 underlying26 rfl infoO ?_
    refine wpList_store_row rfl 26 _ _ rfl (w.heap.size+1) #[.slice (some ⟨g0,0,none⟩) (k+1) c0,.slice a1 nY c1,.slice a2 nA c2] rfl rfl _ _ S4.out.k2 infoO rfl (by simp [Value.oneCell']) ?_
    go_wp2
    exact bodyPost_ret (v:=.tuple #[.agg #[.slice (some ⟨g0,0,none⟩) (k+1) c0,.slice a1 nY c1,.slice a2 nA c2],.bool false]) (Rlsa.results_two results22 _ _ (w.heap.size+1) _ _ (0,0) _ _ rfl rfl (setRow_heap _ _ _ _ _ _ S4.out.k2) underlying26 rfl infoO) rfl (post_no S4.out HBS.out HN0.out)
   have d4:decide ((n4:Int)<4)=false:=decide_eq_false (by omega)
   cases q2 with
   | false =>
    have HN0:Hid (R=none):=(show R=none from by rw [HR.out];exact pat_2 (opt_no H2.out.1))
    clear HR HX hn4
    go_upto_region 14 with fail
    refine wp_region_list ?_
    refine wpList_load_row rfl 26 _ rfl w.heap.size rfl _ _ (0,0) _ S4.out.k1 underlying26 rfl infoO ?_
    refine wpList_store_row rfl 26 _ _ rfl (w.heap.size+1) #[.slice (some ⟨g0,0,none⟩) (k+1) c0,.slice a1 nY c1,.slice a2 nA c2] rfl rfl _ _ S4.out.k2 infoO rfl (by simp [Value.oneCell']) ?_
    go_wp2
    exact bodyPost_ret (v:=.tuple #[.agg #[.slice (some ⟨g0,0,none⟩) (k+1) c0,.slice a1 nY c1,.slice a2 nA c2],.bool false]) (Rlsa.results_two results22 _ _ (w.heap.size+1) _ _ (0,0) _ _ rfl rfl (setRow_heap _ _ _ _ _ _ S4.out.k2) underlying26 rfl infoO) rfl (post_no S4.out HBS.out HN0.out)
   | true =>
    have e4:n4=4:=by omega
    subst e4
    have x3:=V6.out.c 3 (by omega)
    have zx:(gt (wordsL 4 s) 3).size<=1048576:=HZ.out 4 _ (by rw [gt_at (by omega)];exact List.getElem_mem _)
    generalize hg3:gt (wordsL 4 s) 3=X3 at x3 zx
    have HG3:Hid (gt (wordsL 4 s) 3=X3):=hg3
    clear hg3 hn4
    obtain ⟨q5,hq5⟩ : ∃ q,(outS X3).isSome=q:=⟨_,rfl⟩
    obtain ⟨L,hL⟩ : ∃ L,Wors.lst (outS X3)=L:=⟨_,rfl⟩
    have H5:Hid ((outS X3).isSome=q5/\Wors.lst (outS X3)=L):=⟨hq5,hL⟩
    have ce:=fun w=>Wors.specRead_any X3 w zx
    unfold Wors.Left at ce
    rw [hq5,hL] at ce
    clear hq5 hL
    go_wp2_with fail
    refine (ce _).mono ?_
    rintro e w7 ⟨ae,ce',rfl,oe,ze,le,b7⟩
    have S7:=(show Hid _ from S4.out.below HBS.out b7)
    have HB6:Hid (bs<=w6.heap.size):=by have:=HBS.out;have:=S4.out.z;show bs<=_;omega
    have HE:Hid (ExOwn w7 bs (.slice ae L.length ce') L):=⟨own_mono HB6.out oe,ze⟩
    have HAP:=(show Hid _ from S4.out.ob.rw.fresh oe)
    clear oe ze le b7 ce S4 x3 V6
    obtain ⟨nE,hnE⟩ : ∃ n,n=L.length:=⟨_,rfl⟩
    have HE1:Hid (nE=L.length):=hnE
    rw [<- hnE] at HE HAP |-
    clear hnE
    have m0:w7.cell? ⟨w.heap.size,0,none⟩=some (.slice (some ⟨g0,0,none⟩) (k+1) c0):=by rw [cell_of_row _ _ _ _ _ _ S7.out.k1];rfl
    have hsec:=S7.out.ob.sec
    rw [cells_snoc,List.length_append,HKS.out] at hsec
    have hsec:w7.ownsRow bs 38 6 (.slice (some ⟨g0,0,none⟩) (k+1) c0) (k+1) (S.flatMap Sd.cells ++ Sd.cells ⟨nm,sk,sb,sa,sd,.slice pa ps.length pc,ps⟩):=hsec
    have lP:(S.flatMap Sd.cells).length=k*6:=by rw [Rowo.flat_len Sd.cells 6 (fun _=>rfl),HKS.out]
    have hcell:∀ (j:Nat) (u:Value),(Sd.cells ⟨nm,sk,sb,sa,sd,.slice pa ps.length pc,ps⟩)[j]? = some u->w7.cell? ⟨g0,k*6+j,none⟩=some u:=fun j u hu=>(row_cells hsec).2.2.2 _ _ (by rw [List.getElem?_append_right (by omega),lP,show k*6+j-k*6=j by omega];exact hu)
    have y0:w7.cell? ⟨g0,k*6,none⟩=some (.string nm):=hcell 0 _ rfl
    have y1:w7.cell? ⟨g0,k*6+1,none⟩=some (.int .i64 sk):=hcell 1 _ rfl
    have y2:w7.cell? ⟨g0,k*6+2,none⟩=some (.int .i64 sb):=hcell 2 _ rfl
    have y3:w7.cell? ⟨g0,k*6+3,none⟩=some (.int .i64 sa):=hcell 3 _ rfl
    have y4:w7.cell? ⟨g0,k*6+4,none⟩=some (.string sd):=hcell 4 _ rfl
    have y5:w7.cell? ⟨g0,k*6+5,none⟩=some (.slice pa ps.length pc):=hcell 5 _ rfl
    have p1:IntKind.i64.wrap ((k:Int)+1-1)=(k:Int):=by rw [IntKind.wrap_i64];omega
    have p2:IntKind.i64.wrap (((k+1:Nat):Int)-1)=(k:Int):=by rw [IntKind.wrap_i64];omega
    have p3:IntKind.i64.wrap (k:Int)=(k:Int):=by rw [IntKind.wrap_i64];omega
    have z0:(0:Int)<=(k:Int):=by omega
    have z1:(k:Int)<((k+1:Nat):Int):=by omega
    have z2:(k:Int)<(k:Int)+1:=by omega
    clear hsec lP hcell
    go_upto_region 17 with fail
    obtain ⟨W7,hW7⟩ : ∃ W,W=w7.alloc (.cells #[.string nm,.int .i64 sk,.int .i64 sb,.int .i64 sa,.string sd,.slice pa ps.length pc] 38):=⟨_,rfl⟩
    rw [<- hW7]
    have HW7:Hid (W7=w7.alloc (.cells #[.string nm,.int .i64 sk,.int .i64 sb,.int .i64 sa,.string sd,.slice pa ps.length pc] 38)):=hW7
    have t5:W7.cell? ⟨w7.heap.size,5,none⟩=some (.slice pa ps.length pc):=by rw [hW7,World.cell?_alloc_new];rfl
    have HB7:Hid (Below w7.heap.size w7 W7):=(show Below _ _ _ from by rw [hW7];exact zAl _ _)
    have lt7:w7.heap.size<W7.heap.size:=by rw [hW7];simp
    clear hW7 y0 y1 y2 y3 y4 y5 m0
    obtain ⟨i0,hi,hz0,hz1,hz2⟩:=info_parts infoP
    have GB:Hid (∀ o,Below w7.heap.size w7 (W7.alloc o)):=fun o=>HB7.out.alloc (Nat.le_of_lt lt7) _
    have OWN:Hid (∀ o,(W7.alloc o).ownsRow bs 80 3 (.slice pa ps.length pc) ps.length (ps.flatMap Pd.cells)):=fun o=>own_below (S7.out.ob.rw.pat ⟨nm,sk,sb,sa,sd,.slice pa ps.length pc,ps⟩ (by simp)) (GB.out o)
    have tA:∀ o,(W7.alloc o).cell? ⟨w7.heap.size,5,none⟩=some (.slice pa ps.length pc):=fun o=>(((Below.refl W7.heap.size W7).alloc (Nat.le_refl _) o).cell (p:=⟨w7.heap.size,5,none⟩) lt7).trans t5
    have hl63:ps.length+1<=maxLen:=by unfold maxLen;omega
    have hbs6:Hid (∀ o,bs<=(W7.alloc o).heap.size):=fun o=>by have:=HBS.out;have:=S7.out.z;have:=(GB.out o).size;omega
    have FIN:Hid (∀ (w8:World) (g' c':Nat) (o:Obj),w8.ownsRow bs 80 3 (.slice (some ⟨g',0,none⟩) (ps.length+1) c') (ps.length+1) (ps.flatMap Pd.cells ++ [.int .i64 i1,.int .i64 i2,.slice ae nE ce'])->(W7.alloc o).grownBy w8 (Value.slice pa ps.length pc).ownBlock->((Value.slice pa ps.length pc).ownBlock=some g' \/ g'=(W7.alloc o).heap.size)->_):=fun w8 g' c' o ho hg hv=>by
     rw [HW7.out] at hg hv
     exact St.addP S7.out HBS.out HKS.out ⟨i1,i2,L,.slice ae nE ce'⟩ HE.out HAP.out ho hg hv
    clear GB
    go_wp2_with (first|(at_builtin;refine wpList_append_lies _ rfl (.tmp 128) (.tmp 133) 36 rfl bs 80 i0 (.agg #[.int .i64 0,.int .i64 0,.slice none 0 0]) 3 40 underlying36 hi hz0 hz1 hz2 rfl (by decide) (.slice pa ps.length pc) ps.length (ps.flatMap Pd.cells) rfl (OWN.out _) ⟨W7.heap.size,0,none⟩ 1 1 [.int .i64 i1,.int .i64 i2,.slice ae nE ce'] rfl rfl (newP W7 [.int .i64 i1,.int .i64 i2,.slice ae nE ce'] 80) (by intro u hu;simp at hu;rcases hu with rfl|rfl|rfl <;> rfl) (by decide) hl63 (by omega) (hbs6.out _) _ rfl ?_)|fail)
    intro g' c' w8 hown' hgrow hat hlt'
    obtain ⟨c8,k8,zB,th,s9⟩:=FIN.out w8 g' c' _ hown' hgrow (by rw [World.size_alloc];exact hat)
    have S9:=(show Hid _ from s9)
    have TH:=(show Hid _ from th)
    have d5:w8.cell? ⟨w7.heap.size,5,none⟩=some (.slice pa ps.length pc):=by rw [cell_of_row _ _ _ _ _ _ c8];rfl
    have f5:=frozen_of_row w8 w7.heap.size 5 _ _ c8
    have C9:Hid ((w8.setCell ⟨w7.heap.size,5,none⟩ (.slice (some ⟨g',0,none⟩) (ps.length+1) c')).heap[w7.heap.size]? = some (.cells #[.string nm,.int .i64 sk,.int .i64 sb,.int .i64 sa,.string sd,.slice (some ⟨g',0,none⟩) (ps.length+1) c'] 38 (0,0))):=heap_setCell_same _ _ _ _ _ _ c8
    have m9:(w8.setCell ⟨w7.heap.size,5,none⟩ (.slice (some ⟨g',0,none⟩) (ps.length+1) c')).cell? ⟨w.heap.size,0,none⟩=some (.slice (some ⟨g0,0,none⟩) (k+1) c0):=by
     have e:=(Below.heap_setCell w8 ⟨w7.heap.size,5,none⟩ (.slice (some ⟨g',0,none⟩) (ps.length+1) c') w.heap.size (by show w.heap.size ≠ w7.heap.size;omega)).trans k8
     rw [cell_of_row _ _ _ _ _ _ e];rfl
    clear s9 th c8 k8 hown' hgrow hat hlt' FIN OWN tA t5 hbs6
    go_upto_region 18 with fail
    obtain ⟨W9,hW9⟩ : ∃ W,W=w8.setCell ⟨w7.heap.size,5,none⟩ (.slice (some ⟨g',0,none⟩) (ps.length+1) c'):=⟨_,rfl⟩
    rw [<- hW9] at S9 TH C9 m9 |-
    clear hW9 d5 f5
    refine wp_region_list ?_
    refine wpList_plain rfl (fun K hK=>?_)
    go_simp
    refine hK _ _ ?_
    refine wpList_plain rfl (fun K hK=>?_)
    go_simp
    refine hK _ _ ?_
    refine wpList_plain rfl (fun K hK=>?_)
    go_simp
    refine hK _ _ ?_
    refine wpList_plain rfl (fun K hK=>?_)
    go_simp
    refine hK _ _ ?_
    refine wpList_load_row rfl 38 _ rfl w7.heap.size rfl _ _ (0,0) _ C9.out underlying38 rfl info35 ?_
    refine wpList_plain rfl (fun K hK=>?_)
    go_simp
    refine hK _ _ ?_
    refine wpList_store_mid rfl 38 _ _ rfl g0 (k*6) #[.string nm,.int .i64 sk,.int .i64 sb,.int .i64 sa,.string sd,.slice (some ⟨g',0,none⟩) (ps.length+1) c'] rfl rfl TH.out info35 (by simp [Value.oneCell']) ?_
    refine wpList_nil ?_
    cases q5 with
    | true =>
     have HN1:Hid (R=some (objX (S ++ [⟨nm,sk,sb,sa,sd,.slice (some ⟨g',0,none⟩) (ps.length+1) c',ps ++ [⟨i1,i2,L,.slice ae nE ce'⟩]⟩]) ys aa)):=(show R=_ from by
      obtain ⟨D,hD⟩:=Option.isSome_iff_exists.1 H5.out.1
      have hDL:D=L:=by have h:=H5.out.2;rw [hD] at h;exact h
      rw [HR.out,pat_yes (by show ¬ ((S ++ [_]).map Sd.x).length=0;simp) (by rw [<- HN4.out];decide) (opt_yes H1.out.1 H1.out.2) (opt_yes H2.out.1 H2.out.2) (by rw [HG3.out];exact hD),hDL]
      unfold objX
      rw [List.map_append,List.map_append]
      show some (Objr.X.mk (addP (S.map Sd.x ++ [Sd.x ⟨nm,sk,sb,sa,sd,.slice pa ps.length pc,ps⟩]) _) _ _)=_
      rw [addP_on]
      show _=some (Objr.X.mk (S.map Sd.x ++ [Sd.x ⟨nm,sk,sb,sa,sd,.slice (some ⟨g',0,none⟩) (ps.length+1) c',ps ++ [⟨i1,i2,L,.slice ae nE ce'⟩]⟩]) _ _)
      unfold Sd.x
      simp only [List.map_append,List.map_cons,List.map_nil,Pd.x])
     clear HR
     go_upto_region 19 with fail
     refine wp_region_list ?_
     refine wpList_load_row rfl 26 _ rfl w.heap.size rfl _ _ (0,0) _ S9.out.k1 underlying26 rfl infoO ?_
     refine wpList_plain rfl (fun K hK=>?_)
     go_simp
     refine hK _ _ ?_
     refine wpList_store_row rfl 26 _ _ rfl (w.heap.size+1) #[.slice (some ⟨g0,0,none⟩) (k+1) c0,.slice a1 nY c1,.slice a2 nA c2] rfl rfl _ _ S9.out.k2 infoO rfl (by simp [Value.oneCell']) ?_
     go_wp2
     exact bodyPost_ret (v:=.tuple #[.agg #[.slice (some ⟨g0,0,none⟩) (k+1) c0,.slice a1 nY c1,.slice a2 nA c2],.bool true]) (Rlsa.results_two results22 _ _ (w.heap.size+1) _ _ (0,0) _ _ rfl rfl (setRow_heap _ _ _ _ _ _ S9.out.k2) underlying26 rfl infoO) rfl (post_yes S9.out HBS.out (by rw [List.length_append,HKS.out];rfl) HL.out.2.1 HL.out.2.2 HN1.out)
    | false =>
     have HN0:Hid (R=none):=(show R=none from by rw [HR.out];exact pat_3 (by rw [HG3.out];exact opt_no H5.out.1))
     clear HR
     go_upto_region 19 with fail
     refine wp_region_list ?_
     refine wpList_load_row rfl 26 _ rfl w.heap.size rfl _ _ (0,0) _ S9.out.k1 underlying26 rfl infoO ?_
     refine wpList_plain rfl (fun K hK=>?_)
     go_simp
     refine hK _ _ ?_
     refine wpList_store_row rfl 26 _ _ rfl (w.heap.size+1) #[.slice (some ⟨g0,0,none⟩) (k+1) c0,.slice a1 nY c1,.slice a2 nA c2] rfl rfl _ _ S9.out.k2 infoO rfl (by simp [Value.oneCell']) ?_
     go_wp2
     exact bodyPost_ret (v:=.tuple #[.agg #[.slice (some ⟨g0,0,none⟩) (k+1) c0,.slice a1 nY c1,.slice a2 nA c2],.bool false]) (Rlsa.results_two results22 _ _ (w.heap.size+1) _ _ (0,0) _ _ rfl rfl (setRow_heap _ _ _ _ _ _ S9.out.k2) underlying26 rfl infoO) rfl (post_no S9.out HBS.out HN0.out)
 ·rw [line_sym (by rw [HX.out];exact hx)] at HR
  clear hx
  by_cases hk:n=5
  ·have dk:decide ((n:Int)=5)=true:=decide_eq_true (by omega)
   have dk2:((n:Int) == 5)=true:=by simp;omega
   cases q2 with
   | false =>
    have HN0:Hid (R=none):=(show R=none from by rw [HR.out];exact sym_2 (opt_no H2.out.1))
    clear HR HX
    go_upto_region 30 with fail
    refine wp_region_list ?_
    refine wpList_load_row rfl 26 _ rfl w.heap.size rfl _ _ (0,0) _ S4.out.k1 underlying26 rfl infoO ?_
    refine wpList_store_row rfl 26 _ _ rfl (w.heap.size+1) #[.slice a0 nS c0,.slice a1 nY c1,.slice a2 nA c2] rfl rfl _ _ S4.out.k2 infoO rfl (by simp [Value.oneCell']) ?_
    go_wp2
    exact bodyPost_ret (v:=.tuple #[.agg #[.slice a0 nS c0,.slice a1 nY c1,.slice a2 nA c2],.bool false]) (Rlsa.results_two results22 _ _ (w.heap.size+1) _ _ (0,0) _ _ rfl rfl (setRow_heap _ _ _ _ _ _ S4.out.k2) underlying26 rfl infoO) rfl (post_no S4.out HBS.out HN0.out)
   | true =>
    cases q3 with
    | false =>
     have HN0:Hid (R=none):=(show R=none from by rw [HR.out];exact sym_3 (opt_no H3.out.1))
     clear HR HX
     go_upto_region 30 with fail
     refine wp_region_list ?_
     refine wpList_load_row rfl 26 _ rfl w.heap.size rfl _ _ (0,0) _ S4.out.k1 underlying26 rfl infoO ?_
     refine wpList_store_row rfl 26 _ _ rfl (w.heap.size+1) #[.slice a0 nS c0,.slice a1 nY c1,.slice a2 nA c2] rfl rfl _ _ S4.out.k2 infoO rfl (by simp [Value.oneCell']) ?_
     go_wp2
     exact bodyPost_ret (v:=.tuple #[.agg #[.slice a0 nS c0,.slice a1 nY c1,.slice a2 nA c2],.bool false]) (Rlsa.results_two results22 _ _ (w.heap.size+1) _ _ (0,0) _ _ rfl rfl (setRow_heap _ _ _ _ _ _ S4.out.k2) underlying26 rfl infoO) rfl (post_no S4.out HBS.out HN0.out)
    | true =>
     cases q4 with
     | false =>
      have HN0:Hid (R=none):=(show R=none from by rw [HR.out];exact sym_4 (opt_no H4.out.1))
      clear HR HX
      go_upto_region 30 with fail
      refine wp_region_list ?_
      refine wpList_load_row rfl 26 _ rfl w.heap.size rfl _ _ (0,0) _ S4.out.k1 underlying26 rfl infoO ?_
      refine wpList_store_row rfl 26 _ _ rfl (w.heap.size+1) #[.slice a0 nS c0,.slice a1 nY c1,.slice a2 nA c2] rfl rfl _ _ S4.out.k2 infoO rfl (by simp [Value.oneCell']) ?_
      go_wp2
      exact bodyPost_ret (v:=.tuple #[.agg #[.slice a0 nS c0,.slice a1 nY c1,.slice a2 nA c2],.bool false]) (Rlsa.results_two results22 _ _ (w.heap.size+1) _ _ (0,0) _ _ rfl rfl (setRow_heap _ _ _ _ _ _ S4.out.k2) underlying26 rfl infoO) rfl (post_no S4.out HBS.out HN0.out)
     | true =>
      have x1:=V4.out.c 1 (by rw [<- HN.out];omega)
      have k1n:(1:Int)<(n:Int):=by omega
      generalize hx1:gt (wordsL 6 s) 1=X1 at x1
      have HG1:Hid (gt (wordsL 6 s) 1=X1):=hx1
      obtain ⟨f4,hf4⟩ : ∃ f,decide (i4=1)=f:=⟨_,rfl⟩
      have HF:Hid (decide (i4=1)=f4):=hf4
      have hf4':(i4 == 1)=f4:=by rw [<- hf4];cases h:(i4 == 1) <;> simp_all
      clear hx1
      obtain ⟨i0,hi,hz0,hz1,hz2⟩:=info_parts infoYs
      have GB:Hid (∀ o,Below w4.heap.size w4 ((w4.alloc o).drew)):=fun o=>(zAl _ _).drew
      have OWN:Hid (∀ o,((w4.alloc o).drew).ownsRow bs 63 4 (.slice a1 nY c1) nY (ys.flatMap yCells)):=fun o=>by
       have h:=(S4.out.below HBS.out (GB.out o)).ob.rw.sym
       rwa [<- HL.out.2.1] at h
      have FIN:Hid (∀ (o:Obj) (w6:World) (g' c':Nat),w6.ownsRow bs 63 4 (.slice (some ⟨g',0,none⟩) (nY+1) c') (nY+1) (ys.flatMap yCells ++ [.string X1,.int .i64 i2,.int .i64 i3,.bool f4])->((w4.alloc o).drew).grownBy w6 (Value.slice a1 nY c1).ownBlock ->
        St w bs #[.slice a0 nS c0,.slice (some ⟨g',0,none⟩) (nY+1) c',.slice a2 nA c2] (.slice a0 nS c0) ss (.slice (some ⟨g',0,none⟩) (nY+1) c') (ys ++ [⟨X1,i2,i3,f4⟩]) (.slice a2 nA c2) aa (w6.setCell ⟨w.heap.size,1,none⟩ (.slice (some ⟨g',0,none⟩) (nY+1) c'))/\w6.cell? ⟨w.heap.size,1,none⟩=some (.slice a1 nY c1)/\w6.frozen? ⟨w.heap.size,1,none⟩=false):=fun o w6 g' c' ho hg=>by
       have hS:=S4.out.below HBS.out (GB.out o)
       have hr:=hS.row (OWN.out o) (by decide)
       have e1:=(hg.block _ (by have:=hS.z;omega) (fun e=>(hr _ e.symm).2.1 rfl)).trans hS.k1
       refine ⟨hS.store (i:=1) HBS.out hg hr (Rlsa.Ob.addY hS.ob ⟨X1,i2,i3,f4⟩ _ (by rw [<- HL.out.2.1];exact ho) hg),?_,frozen_of_row _ _ _ _ _ e1⟩
       rw [cell_of_row _ _ _ _ _ _ e1];rfl
      have kA:∀ o,(w4.alloc o).cell? ⟨w.heap.size,1,none⟩=some (.slice a1 nY c1):=fun o=>(((Below.refl w4.heap.size w4).alloc (Nat.le_refl _) o).cell (p:=⟨w.heap.size,1,none⟩) (by have:=S4.out.z;show w.heap.size<_;omega)).trans k1
      have hl63:nY+1<=maxLen:=by unfold maxLen;omega
      have hbs6:Hid (∀ o,bs<=((w4.alloc o).drew).heap.size):=fun o=>by have:=HBS.out;have:=S4.out.z;have:=(GB.out o).size;omega
      clear GB hf4
      go_wp2_with fail
      go_region_law (first
       | (refine step_append_lies _ rfl (.tmp 164) (.tmp 173) 23 rfl bs 63 i0 (.agg #[.string ⟨#[]⟩,.int .i64 0,.int .i64 0,.bool false]) 4 40 underlying23 hi hz0 hz1 hz2 rfl (by decide) (.slice a1 nY c1) nY (ys.flatMap yCells) rfl (OWN.out _) ⟨w4.heap.size,0,none⟩ 1 1 [.string X1,.int .i64 i2,.int .i64 i3,.bool f4] rfl rfl (newN w4 [.string X1,.int .i64 i2,.int .i64 i3,.bool f4] 63) (by intro u hu;simp at hu;rcases hu with rfl|rfl|rfl|rfl <;> rfl) (by decide) hl63 (by omega) (hbs6.out _) _ rfl ?_;intro g' c' w6 hown' hgrow hat hlt';obtain ⟨p6,d0,f0⟩:=FIN.out _ w6 g' c' hown' hgrow;have S6:=(show Hid _ from p6);clear p6 hown' hgrow hat hlt')
       | fail)
      all_goals
       have HN1:Hid (R=some (objX ss (ys ++ [⟨X1,i2,i3,f4⟩]) aa)):=(show R=_ from by
        rw [HR.out,sym_yes (by rw [<- HN.out];exact hk) (opt_yes H2.out.1 H2.out.2) (opt_yes H3.out.1 H3.out.2) (opt_yes H4.out.1 H4.out.2),HG1.out,HF.out]
        rfl)
       clear HR
       go_upto_region 22 with fail
       refine wp_region_list ?_
       refine wpList_load_row rfl 26 _ rfl w.heap.size rfl _ _ (0,0) _ S6.out.k1 underlying26 rfl infoO ?_
       refine wpList_store_row rfl 26 _ _ rfl (w.heap.size+1) #[.slice a0 nS c0,.slice (some ⟨g',0,none⟩) (nY+1) c',.slice a2 nA c2] rfl rfl _ _ S6.out.k2 infoO rfl (by simp [Value.oneCell']) ?_
       go_wp2
       exact bodyPost_ret (v:=.tuple #[.agg #[.slice a0 nS c0,.slice (some ⟨g',0,none⟩) (nY+1) c',.slice a2 nA c2],.bool true]) (Rlsa.results_two results22 _ _ (w.heap.size+1) _ _ (0,0) _ _ rfl rfl (setRow_heap _ _ _ _ _ _ S6.out.k2) underlying26 rfl infoO) rfl (post_yes S6.out HBS.out HL.out.1 (by rw [List.length_append,<- HL.out.2.1];rfl) HL.out.2.2 HN1.out)
  ·have dk:decide ((n:Int)=5)=false:=decide_eq_false (by omega)
   have dk2:((n:Int) == 5)=false:=by simp;omega
   have HN0:Hid (R=none):=(show R=none from by rw [HR.out];exact sym_len (by rw [<- HN.out];exact hk))
   clear HR HX
   go_upto_region 30 with fail
   refine wp_region_list ?_
   refine wpList_load_row rfl 26 _ rfl w.heap.size rfl _ _ (0,0) _ S4.out.k1 underlying26 rfl infoO ?_
   refine wpList_store_row rfl 26 _ _ rfl (w.heap.size+1) #[.slice a0 nS c0,.slice a1 nY c1,.slice a2 nA c2] rfl rfl _ _ S4.out.k2 infoO rfl (by simp [Value.oneCell']) ?_
   go_wp2
   exact bodyPost_ret (v:=.tuple #[.agg #[.slice a0 nS c0,.slice a1 nY c1,.slice a2 nA c2],.bool false]) (Rlsa.results_two results22 _ _ (w.heap.size+1) _ _ (0,0) _ _ rfl rfl (setRow_heap _ _ _ _ _ _ S4.out.k2) underlying26 rfl infoO) rfl (post_no S4.out HBS.out HN0.out)
 ·rw [line_ass (by rw [HX.out];exact hx)] at HR
  clear hx
  go_upto_region 24 with fail
  go_wp2_with fail
  refine (cw2 _).mono ?_
  rintro e w5 ⟨⟨g2,n2,cap2,rfl,hw5⟩,b5⟩
  have S5:=(show Hid _ from S4.out.below HBS.out b5)
  have V5:Hid (Wd w5 g2 n2 cap2 (wordsL 2 s)):=hw5
  have hn2:=hw5.n
  have HN2:Hid (n2=(wordsL 2 s).length):=hn2
  clear hw5 b5 S4 cw2 cw4 k0 k1 k2 x0 V4 HN
  by_cases h2:n2<2
  ·have d2:decide ((n2:Int)<2)=true:=decide_eq_true (by omega)
   have HN0:Hid (R=none):=(show R=none from by rw [HR.out];exact ass_len (by rw [<- HN2.out];exact h2))
   clear HR HX hn2
   go_upto_region 26 with fail
   refine wp_region_list ?_
   refine wpList_load_row rfl 26 _ rfl w.heap.size rfl _ _ (0,0) _ S5.out.k1 underlying26 rfl infoO ?_
   refine wpList_store_row rfl 26 _ _ rfl (w.heap.size+1) #[.slice a0 nS c0,.slice a1 nY c1,.slice a2 nA c2] rfl rfl _ _ S5.out.k2 infoO rfl (by simp [Value.oneCell']) ?_
   go_wp2
   exact bodyPost_ret (v:=.tuple #[.agg #[.slice a0 nS c0,.slice a1 nY c1,.slice a2 nA c2],.bool false]) (Rlsa.results_two results22 _ _ (w.heap.size+1) _ _ (0,0) _ _ rfl rfl (setRow_heap _ _ _ _ _ _ S5.out.k2) underlying26 rfl infoO) rfl (post_no S5.out HBS.out HN0.out)
  ·have d2:decide ((n2:Int)<2)=false:=decide_eq_false (by omega)
   have e2:n2=2:=by omega
   subst e2
   have x1:=V5.out.c 1 (by omega)
   have zx:(gt (wordsL 2 s) 1).size<=1048576:=HZ.out 2 _ (by rw [gt_at (by omega)];exact List.getElem_mem _)
   generalize hg1:gt (wordsL 2 s) 1=X1 at x1 zx
   have HG1:Hid (gt (wordsL 2 s) 1=X1):=hg1
   clear hg1 hn2
   obtain ⟨q5,hq5⟩ : ∃ q,(outS X1).isSome=q:=⟨_,rfl⟩
   obtain ⟨L,hL⟩ : ∃ L,Wors.lst (outS X1)=L:=⟨_,rfl⟩
   have H5:Hid ((outS X1).isSome=q5/\Wors.lst (outS X1)=L):=⟨hq5,hL⟩
   have ce:=fun w=>Wors.specRead_any X1 w zx
   unfold Wors.Left at ce
   rw [hq5,hL] at ce
   clear hq5 hL
   go_wp2_with fail
   refine (ce _).mono ?_
   rintro e w6 ⟨ae,ce',rfl,oe,ze,le,b6⟩
   have S6:=(show Hid _ from S5.out.below HBS.out b6)
   have HB5:Hid (bs<=w5.heap.size):=by have:=HBS.out;have:=S5.out.z;show bs<=_;omega
   have HE:Hid (ExOwn w6 bs (.slice ae L.length ce') L):=⟨own_mono HB5.out oe,ze⟩
   have HAP:=(show Hid _ from S5.out.ob.rw.fresh oe)
   clear oe ze le b6 ce S5 x1 V5
   obtain ⟨nE,hnE⟩ : ∃ n,n=L.length:=⟨_,rfl⟩
   have HE1:Hid (nE=L.length):=hnE
   rw [<- hnE] at HE HAP |-
   clear hnE
   have k2:w6.cell? ⟨w.heap.size,2,none⟩=some (.slice a2 nA c2):=by rw [cell_of_row _ _ _ _ _ _ S6.out.k1];rfl
   obtain ⟨i0,hi,hz0,hz1,hz2⟩:=info_parts infoE
   have GB:Hid (∀ o,Below w6.heap.size w6 (w6.alloc o)):=fun o=>zAl _ _
   have OWN:Hid (∀ o,(w6.alloc o).ownsRow bs 67 1 (.slice a2 nA c2) nA (aa.map (·.e))):=fun o=>by
    have h:=(S6.out.below HBS.out (GB.out o)).ob.rw.ass
    rwa [<- HL.out.2.2] at h
   have FIN:Hid (∀ (o:Obj) (w7:World) (g' c':Nat),w7.ownsRow bs 67 1 (.slice (some ⟨g',0,none⟩) (nA+1) c') (nA+1) (aa.map (·.e) ++ [.slice ae nE ce'])->(w6.alloc o).grownBy w7 (Value.slice a2 nA c2).ownBlock ->
     St w bs #[.slice a0 nS c0,.slice a1 nY c1,.slice (some ⟨g',0,none⟩) (nA+1) c'] (.slice a0 nS c0) ss (.slice a1 nY c1) ys (.slice (some ⟨g',0,none⟩) (nA+1) c') (aa ++ [⟨L,.slice ae nE ce'⟩]) (w7.setCell ⟨w.heap.size,2,none⟩ (.slice (some ⟨g',0,none⟩) (nA+1) c'))/\w7.cell? ⟨w.heap.size,2,none⟩=some (.slice a2 nA c2)/\w7.frozen? ⟨w.heap.size,2,none⟩=false):=fun o w7 g' c' ho hg=>by
    have hS:=S6.out.below HBS.out (GB.out o)
    have hr:=hS.row (OWN.out o) (by decide)
    have e1:=(hg.block _ (by have:=hS.z;omega) (fun e=>(hr _ e.symm).2.1 rfl)).trans hS.k1
    refine ⟨hS.store (i:=2) HBS.out hg hr (Rlsa.Ob.addA hS.ob ⟨L,.slice ae nE ce'⟩ _ ⟨own_below HE.out.1 (GB.out o),HE.out.2⟩ (fun u hu=>(HAP.out u hu).1) (by rw [<- HL.out.2.2];exact ho) hg),?_,frozen_of_row _ _ _ _ _ e1⟩
    rw [cell_of_row _ _ _ _ _ _ e1];rfl
   have kA:∀ o,(w6.alloc o).cell? ⟨w.heap.size,2,none⟩=some (.slice a2 nA c2):=fun o=>((GB.out o).cell (p:=⟨w.heap.size,2,none⟩) (by have:=S6.out.z;show w.heap.size<_;omega)).trans k2
   have hl63:nA+1<=maxLen:=by unfold maxLen;omega
   have hbs6:Hid (∀ o,bs<=(w6.alloc o).heap.size):=fun o=>by have:=HBS.out;have:=S6.out.z;have:=(GB.out o).size;omega
   clear GB
   go_wp2_with (first|(at_builtin;refine wpList_append_lies _ rfl (.tmp 196) (.tmp 198) 24 rfl bs 67 i0 (.slice none 0 0) 1 24 underlying24 hi hz0 hz1 hz2 rfl (by decide) (.slice a2 nA c2) nA (aa.map (·.e)) rfl (OWN.out _) ⟨w6.heap.size,0,none⟩ 1 1 [.slice ae nE ce'] rfl rfl (newP w6 [.slice ae nE ce'] 67) (by intro u hu;simp at hu;subst hu;rfl) (by decide) hl63 (by omega) (hbs6.out _) _ rfl ?_)|fail)
   intro g' c' w7 hown' hgrow hat hlt'
   obtain ⟨p7,d0,f0⟩:=FIN.out _ w7 g' c' hown' hgrow
   have S7:=(show Hid _ from p7)
   clear p7 hown' hgrow hat hlt'
   cases q5 with
   | true =>
    have HN1:Hid (R=some (objX ss ys (aa ++ [⟨L,.slice ae nE ce'⟩]))):=(show R=_ from by
     obtain ⟨D,hD⟩:=Option.isSome_iff_exists.1 H5.out.1
     have hDL:D=L:=by have h:=H5.out.2;rw [hD] at h;exact h
     rw [HR.out,ass_yes (by rw [<- HN2.out];decide) (by rw [HG1.out];exact hD),hDL]
     unfold objX;rw [List.map_append];rfl)
    clear HR
    go_upto_region 29 with fail
    refine wp_region_list ?_
    refine wpList_load_row rfl 26 _ rfl w.heap.size rfl _ _ (0,0) _ S7.out.k1 underlying26 rfl infoO ?_
    refine wpList_plain rfl (fun K hK=>?_)
    go_simp
    refine hK _ _ ?_
    refine wpList_store_row rfl 26 _ _ rfl (w.heap.size+1) #[.slice a0 nS c0,.slice a1 nY c1,.slice (some ⟨g',0,none⟩) (nA+1) c'] rfl rfl _ _ S7.out.k2 infoO rfl (by simp [Value.oneCell']) ?_
    go_wp2
    exact bodyPost_ret (v:=.tuple #[.agg #[.slice a0 nS c0,.slice a1 nY c1,.slice (some ⟨g',0,none⟩) (nA+1) c'],.bool true]) (Rlsa.results_two results22 _ _ (w.heap.size+1) _ _ (0,0) _ _ rfl rfl (setRow_heap _ _ _ _ _ _ S7.out.k2) underlying26 rfl infoO) rfl (post_yes S7.out HBS.out HL.out.1 HL.out.2.1 (by rw [List.length_append,<- HL.out.2.2];rfl) HN1.out)
   | false =>
    have HN0:Hid (R=none):=(show R=none from by rw [HR.out];exact ass_1 (by rw [HG1.out];exact opt_no H5.out.1))
    clear HR
    go_upto_region 29 with fail
    refine wp_region_list ?_
    refine wpList_load_row rfl 26 _ rfl w.heap.size rfl _ _ (0,0) _ S7.out.k1 underlying26 rfl infoO ?_
    refine wpList_plain rfl (fun K hK=>?_)
    go_simp
    refine hK _ _ ?_
    refine wpList_store_row rfl 26 _ _ rfl (w.heap.size+1) #[.slice a0 nS c0,.slice a1 nY c1,.slice (some ⟨g',0,none⟩) (nA+1) c'] rfl rfl _ _ S7.out.k2 infoO rfl (by simp [Value.oneCell']) ?_
    go_wp2
    exact bodyPost_ret (v:=.tuple #[.agg #[.slice a0 nS c0,.slice a1 nY c1,.slice (some ⟨g',0,none⟩) (nA+1) c'],.bool false]) (Rlsa.results_two results22 _ _ (w.heap.size+1) _ _ (0,0) _ _ rfl rfl (setRow_heap _ _ _ _ _ _ S7.out.k2) underlying26 rfl infoO) rfl (post_no S7.out HBS.out HN0.out)
 ·have HN0:Hid (R=none):=(show R=none from by rw [HR.out];exact line_no (by rw [HX.out];exact hx1) (by rw [HX.out];exact hx2) (by rw [HX.out];exact hx3) (by rw [HX.out];exact hx4))
  clear HR HX hx1 hx2 hx3 hx4
  go_upto_region 30 with fail
  refine wp_region_list ?_
  refine wpList_load_row rfl 26 _ rfl w.heap.size rfl _ _ (0,0) _ S4.out.k1 underlying26 rfl infoO ?_
  refine wpList_store_row rfl 26 _ _ rfl (w.heap.size+1) #[.slice a0 nS c0,.slice a1 nY c1,.slice a2 nA c2] rfl rfl _ _ S4.out.k2 infoO rfl (by simp [Value.oneCell']) ?_
  go_wp2
  exact bodyPost_ret (v:=.tuple #[.agg #[.slice a0 nS c0,.slice a1 nY c1,.slice a2 nA c2],.bool false]) (Rlsa.results_two results22 _ _ (w.heap.size+1) _ _ (0,0) _ _ rfl rfl (setRow_heap _ _ _ _ _ _ S4.out.k2) underlying26 rfl infoO) rfl (post_no S4.out HBS.out HN0.out)
end Rlsb
end Go.Proofs.YtickfkphhngagaaGreatDoor
