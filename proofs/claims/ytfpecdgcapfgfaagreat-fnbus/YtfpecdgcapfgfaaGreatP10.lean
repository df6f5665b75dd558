import Derived.Test.YtfpecdgcapfgfaaGreatP09
import Derived.Deep.WholeRow
set_option linter.all false
set_option maxRecDepth 20000
set_option maxHeartbeats 8000000
open Go.ChangeShapes Go.WideShapes Go.ChangeAt Go.RowKit
open Go.Proofs.Tryz
namespace Go.Proofs.YtfpecdgcapfgfaaGreat
namespace MachN
open Go.Deep
open CartL CartN Outs MachT
abbrev nr (rom:ByteArray) (kind:Int):Array Value:=#[.int .i64 0,.int .i64 0,.int .i64 0,.int .i64 0,.int .i64 0,.int .i64 0,.int .i64 0,.int .i64 0,.int .i64 65534,.int .i64 0,.bool false,.bool false,.string rom,.int .i64 kind,.int .i64 1,.string (Z 256),.int .i64 0,.bool false,.int .i64 0,.string (Z 256),.string (Z 127),.slice none 0 0,.int .i64 0]
theorem results_two {P:Program} {fn:Func} {p q:Tmp} {ty:TypeId} (h:fn.results=#[.cell p ty,.tmp q]) (tmps:Array Value) (w:World) (g:Nat) (t:TypeId) (cs:Array Value) (fr:Nat × Nat) (d:TypeDesc) (v:Value)
  (hp:tmps.getD p undef=.pointer (some ⟨g,0,none⟩)) (hq:tmps.getD q undef=v) (hg:w.heap[g]? = some (.cells cs t fr))
  (hu:P.underlying ty=some d) (hd:(match d with|.struct _|.array _ _=>true|_=>false)=true) (hi:(P.info? ty).map (·.size)=some cs.size) :
  (results fn tmps).run P w=.ok (.tuple #[.agg cs,v]) w:=by
 have hp':tmps[p]?.getD undef=.pointer (some ⟨g,0,none⟩):=by simpa using hp
 have hq':tmps[q]?.getD undef=v:=by simpa using hq
 simp [results,h,hp',hq',asAddr,run_loadVar_row w g t ty cs fr d hg hu hd hi]
theorem specNewB (rom:ByteArray) (kind:Int) (w:World) (hs:rom.size<=maxLen) (b:Bool) (h:newB rom kind=b) :
  Calls prog 52 #[.string rom,.int .i64 kind] w fun e w'=>e=.returned (.tuple #[if b=true then newCart rom kind else noCart,.bool b])/\Below w.heap.size w w':=by
 refine (specNew_any rom kind w hs b h).mono ?_
 rintro e w' ⟨rfl,o1,o2,o3,o4,rfl⟩
 exact ⟨rfl,by repeat (with_reducible first|exact zRf|refine zGr ?_ _|refine below_drewN ?_ _|refine Below.drew ?_)⟩
theorem specM_no (rom:ByteArray) (kind:Int) (w:World) (hs:rom.size<=maxLen) (h:newB rom kind=false) :
  Calls prog 33 #[.string rom,.int .i64 kind] w fun e w'=>e=.returned (.tuple #[.agg #[.int .i64 0,.int .i64 0,.int .i64 0,.int .i64 0,.int .i64 0,.int .i64 0,.int .i64 0,.int .i64 0,.int .i64 0,.int .i64 0,.bool false,.bool false,.string ⟨#[]⟩,.int .i64 0,.int .i64 0,.string ⟨#[]⟩,.int .i64 0,.bool false,.int .i64 0,.string ⟨#[]⟩,.string ⟨#[]⟩,.slice none 0 0,.int .i64 0],.bool false])/\Below w.heap.size w w':=by
 have c:=fun w=>specNewB rom kind w hs false h
 simp only [Bool.false_eq_true,if_false,noCart] at c
 have HI:Hid ((prog.info? 30).map (·.size)=some 23):=(by kernel_rfl:(prog.info? 30).map (·.size)=some 23)
 clear h hs
 go_enter func33,ntmps33
 go_wp2_with fail
 refine (c _).mono ?_
 rintro e w1 ⟨rfl,hb1⟩
 clear c
 have HK:Hid (w1.heap[w.heap.size]? = some (.cells #[.int .i64 0,.int .i64 0,.int .i64 0,.int .i64 0,.int .i64 0,.int .i64 0,.int .i64 0,.int .i64 0,.int .i64 0,.int .i64 0,.bool false,.bool false,.string ⟨#[]⟩,.int .i64 0,.int .i64 0,.string ⟨#[]⟩,.int .i64 0,.bool false,.int .i64 0,.string ⟨#[]⟩,.string ⟨#[]⟩,.slice none 0 0,.int .i64 0] 30)):=by
  have h:=hb1.block w.heap.size (by simp)
  exact h.trans (heap_alloc_last w _)
 have HB:Hid (Below w.heap.size w w1):=after (by repeat (with_reducible first|exact zRf|refine zGr ?_ _|refine below_drewN ?_ _|refine Below.drew ?_)) hb1
 have hlt:w.heap.size<w1.heap.size:=Nat.lt_of_lt_of_le (by simp) hb1.size
 clear hb1
 go_upto_region 3 with fail
 refine wp_region_list ?_
 refine wpList_plain rfl (fun K hK=>?_)
 go_simp
 refine hK _ _ ?_
 clear hK
 refine wpList_store_row rfl 30 _ _ rfl w.heap.size #[.int .i64 0,.int .i64 0,.int .i64 0,.int .i64 0,.int .i64 0,.int .i64 0,.int .i64 0,.int .i64 0,.int .i64 0,.int .i64 0,.bool false,.bool false,.string ⟨#[]⟩,.int .i64 0,.int .i64 0,.string ⟨#[]⟩,.int .i64 0,.bool false,.int .i64 0,.string ⟨#[]⟩,.string ⟨#[]⟩,.slice none 0 0,.int .i64 0] rfl rfl _ _ ((Below.heap_alloc w1 _ _ hlt).trans HK.out) HI.out rfl (by simp [Value.oneCell']) ?_
 have HF:=heap_row (cs:=#[.int .i64 0,.int .i64 0,.int .i64 0,.int .i64 0,.int .i64 0,.int .i64 0,.int .i64 0,.int .i64 0,.int .i64 0,.int .i64 0,.bool false,.bool false,.string ⟨#[]⟩,.int .i64 0,.int .i64 0,.string ⟨#[]⟩,.int .i64 0,.bool false,.int .i64 0,.string ⟨#[]⟩,.string ⟨#[]⟩,.slice none 0 0,.int .i64 0]) ((Below.heap_alloc w1 (.cells #[.string ⟨#[]⟩,.int .i64 0,.int .i64 0,.string ⟨#[]⟩,.int .i64 0,.bool false,.int .i64 0] 27) _ hlt).trans HK.out)
 have HFH:Hid (_=_):=HF
 clear HF
 go_wp2
 exact bodyPost_ret (v:=.tuple #[.agg #[.int .i64 0,.int .i64 0,.int .i64 0,.int .i64 0,.int .i64 0,.int .i64 0,.int .i64 0,.int .i64 0,.int .i64 0,.int .i64 0,.bool false,.bool false,.string ⟨#[]⟩,.int .i64 0,.int .i64 0,.string ⟨#[]⟩,.int .i64 0,.bool false,.int .i64 0,.string ⟨#[]⟩,.string ⟨#[]⟩,.slice none 0 0,.int .i64 0],.bool false]) (results_two results33 _ _ w.heap.size _ _ (0,0) _ _ rfl rfl HFH.out underlying30 rfl HI.out) rfl ⟨rfl,below_row (grow HB.out _) (Nat.le_refl _)⟩
theorem keep {W:World} {B:Nat} {x:Obj} (h:W.heap[B]? = some x) (o:Obj):(W.alloc o).heap[B]? = some x:=by
 have hlt:B<W.heap.size:=(zLo h)
 exact (Below.heap_alloc W o B hlt).trans h
theorem made2 (n:Nat) (hn:n<=1000):∃ o:Obj,(∀ u:World,(Instr.makeSlice 22 (.int .i64 (n:Int)) (.int .i64 (n:Int))).run prog u=.ok (.slice (some ⟨u.heap.size,0,none⟩) n n) (u.alloc o)) /\
  ∀ (W:World) (B:Nat),W.heap[B]? = some o->(convert 22 9 (.slice (some ⟨B,0,none⟩) n n)).run prog W=.ok (.string (Z n)) W:=by
 obtain ⟨i0,hi,hz0,hz1,hz2⟩:=info_parts infoB
 refine ⟨.cells (madeCells #[.int .u8 0] n) 5,fun u=>?_,fun W B hB=>?_⟩
 ·have h:=run_make (P:=prog) u 22 5 i0 (.int .u8 0) underlying22 hi hz0 .i64 .i64 (n:Int) (n:Int) (by omega) (Int.le_refl _) (by rw [hz2];omega) (by omega)
  simpa [hz1,Value.cells] using h
 ·have h:=run_convert_bytes_back (P:=prog) W 22 9 5 ⟨B,0,none⟩ n (List.replicate n 0) underlying22 underlying5 underlying9 (fun j hj=>by
   have hj':j<n:=by simpa using hj
   have ea:(⟨B,0,none⟩ : Addr).add j=⟨B,j,none⟩:=by unfold Addr.add;split <;> simp_all
   rw [ea]
   refine cel hB j _ ?_
   rw [<- Array.getElem?_toList,toList_madeCells_one]
   simp [hj'])
  simpa [Z] using h
theorem specM_yes (rom:ByteArray) (kind:Int) (w:World) (hs:rom.size<=maxLen) (h:newB rom kind=true) :
  Calls prog 33 #[.string rom,.int .i64 kind] w fun e w'=>e=.returned (.tuple #[.agg #[.int .i64 0,.int .i64 0,.int .i64 0,.int .i64 0,.int .i64 0,.int .i64 0,.int .i64 0,.int .i64 0,.int .i64 65534,.int .i64 0,.bool false,.bool false,.string rom,.int .i64 kind,.int .i64 1,.string (Z 256),.int .i64 0,.bool false,.int .i64 0,.string (Z 256),.string (Z 127),.slice none 0 0,.int .i64 0],.bool true])/\Below w.heap.size w w':=by
 have c:=fun w=>specNewB rom kind w hs true h
 simp only [if_true,newCart] at c
 have HI:Hid ((prog.info? 30).map (·.size)=some 23):=(by kernel_rfl:(prog.info? 30).map (·.size)=some 23)
 have HC:Hid ((prog.info? 27).map (·.size)=some 7):=(by kernel_rfl:(prog.info? 27).map (·.size)=some 7)
 clear h hs
 go_enter func33,ntmps33
 go_wp2_with fail
 refine (c _).mono ?_
 rintro e w1 ⟨rfl,hb1⟩
 clear c
 have hk0:w1.heap[w.heap.size]? = some (.cells #[.int .i64 0,.int .i64 0,.int .i64 0,.int .i64 0,.int .i64 0,.int .i64 0,.int .i64 0,.int .i64 0,.int .i64 0,.int .i64 0,.bool false,.bool false,.string ⟨#[]⟩,.int .i64 0,.int .i64 0,.string ⟨#[]⟩,.int .i64 0,.bool false,.int .i64 0,.string ⟨#[]⟩,.string ⟨#[]⟩,.slice none 0 0,.int .i64 0] 30):=by
  have h:=hb1.block w.heap.size (by simp)
  exact h.trans (heap_alloc_last w _)
 have HB:Hid (Below w.heap.size w w1):=after (by repeat (with_reducible first|exact zRf|refine zGr ?_ _|refine below_drewN ?_ _|refine Below.drew ?_)) hb1
 have HKR:Hid ((w1.alloc (.cells #[.string rom,.int .i64 kind,.int .i64 1,.string (Z 256),.int .i64 0,.bool false,.int .i64 0] 27)).drew.heap[w.heap.size]? = some (.cells #[.int .i64 0,.int .i64 0,.int .i64 0,.int .i64 0,.int .i64 0,.int .i64 0,.int .i64 0,.int .i64 0,.int .i64 0,.int .i64 0,.bool false,.bool false,.string ⟨#[]⟩,.int .i64 0,.int .i64 0,.string ⟨#[]⟩,.int .i64 0,.bool false,.int .i64 0,.string ⟨#[]⟩,.string ⟨#[]⟩,.slice none 0 0,.int .i64 0] 30)):=keep hk0 _
 have HKC:Hid ((w1.alloc (.cells #[.string rom,.int .i64 kind,.int .i64 1,.string (Z 256),.int .i64 0,.bool false,.int .i64 0] 27)).drew.heap[w1.heap.size]? = some (.cells #[.string rom,.int .i64 kind,.int .i64 1,.string (Z 256),.int .i64 0,.bool false,.int .i64 0] 27)):=heap_alloc_last w1 _
 have HBV:Hid (Below w.heap.size w (w1.alloc (.cells #[.string rom,.int .i64 kind,.int .i64 1,.string (Z 256),.int .i64 0,.bool false,.int .i64 0] 27)).drew):=(grow HB.out _).drew
 clear hb1 hk0
 go_upto_region 4 with fail
 obtain ⟨oa,ha1,ha2⟩:=made2 256 (by decide)
 obtain ⟨ob,hb1,hb2⟩:=made2 127 (by decide)
 have HM256:Hid (∀ u:World,(Instr.makeSlice 22 (.int .i64 256) (.int .i64 256)).run prog u=.ok (.slice (some ⟨u.heap.size,0,none⟩) 256 256) (u.alloc oa)):=ha1
 have HM127:Hid (∀ u:World,(Instr.makeSlice 22 (.int .i64 127) (.int .i64 127)).run prog u=.ok (.slice (some ⟨u.heap.size,0,none⟩) 127 127) (u.alloc ob)):=hb1
 have HV256:Hid (∀ (W:World) (B:Nat),W.heap[B]? = some oa->(convert 22 9 (.slice (some ⟨B,0,none⟩) 256 256)).run prog W=.ok (.string (Z 256)) W):=ha2
 have HV127:Hid (∀ (W:World) (B:Nat),W.heap[B]? = some ob->(convert 22 9 (.slice (some ⟨B,0,none⟩) 127 127)).run prog W=.ok (.string (Z 127)) W):=hb2
 have sz:(w1.alloc (.cells #[.string rom,.int .i64 kind,.int .i64 1,.string (Z 256),.int .i64 0,.bool false,.int .i64 0] 27)).drew.heap.size=w1.heap.size+1:=World.size_alloc w1 _
 have HS0:Hid (∀ o,((w1.alloc (.cells #[.string rom,.int .i64 kind,.int .i64 1,.string (Z 256),.int .i64 0,.bool false,.int .i64 0] 27)).alloc o).drew.heap[w1.heap.size+1]? = some o):=fun o=>by
  have h:=heap_alloc_last ((w1.alloc (.cells #[.string rom,.int .i64 kind,.int .i64 1,.string (Z 256),.int .i64 0,.bool false,.int .i64 0] 27)).drew) o
  rw [sz] at h
  exact h
 have HS1:Hid (∀ o o',(((w1.alloc (.cells #[.string rom,.int .i64 kind,.int .i64 1,.string (Z 256),.int .i64 0,.bool false,.int .i64 0] 27)).alloc o).alloc o').drew.heap[w1.heap.size+1+1]? = some o'):=fun o o'=>by
  have h:=heap_alloc_last ((w1.alloc (.cells #[.string rom,.int .i64 kind,.int .i64 1,.string (Z 256),.int .i64 0,.bool false,.int .i64 0] 27)).drew.alloc o) o'
  rw [World.size_alloc,sz] at h
  exact h
 have HS01:Hid (∀ o o',(((w1.alloc (.cells #[.string rom,.int .i64 kind,.int .i64 1,.string (Z 256),.int .i64 0,.bool false,.int .i64 0] 27)).alloc o).alloc o').drew.heap[w1.heap.size+1]? = some o):=fun o o'=>keep (HS0.out o) o'
 clear ha1 ha2 hb1 hb2 sz
 refine wp_region_any (by kernel_rfl) ?_
 try (change wpAny _ _ _ _ _ _ _ (World.drew _))
 refine wpAny_take (i:=0) (v:=?v) rfl (by kernel_rfl) (by kernel_rfl) (by kernel_rfl) (fun _ _ _ h=>h) (Or.inl ⟨by rfl,?hy⟩) ?rest
 case hy=>(intro w;go_simp;try with_reducible rfl)
 refine wpAny_ready (rs:=[1,2,4]) (by kernel_rfl) (by simp) ?_
 refine MachP.any_cons rfl rfl (fun K hK=>?_) (MachP.any_cons rfl rfl (fun K hK=>?_) (MachP.any_cons rfl rfl (fun K hK=>?_) AllReady.nil))
 ·refine wp_load_row 27 _ rfl w1.heap.size rfl _ _ (0,0) _ (HKC.out) underlying27 rfl HC.out ?_
  refine hK _ _ ?_
  clear hK
  refine wpAny_ready (rs:=[2,4]) (by kernel_rfl) (by simp) ?_
  refine MachP.any_cons rfl rfl (fun K hK=>?_) (MachP.any_cons rfl rfl (fun K hK=>?_) AllReady.nil)
  ·have hm:=HM256.out
   go_simp
   clear hm
   refine hK _ _ ?_
   clear hK
   refine wpAny_ready (rs:=[3,4]) (by kernel_rfl) (by simp) ?_
   refine MachP.any_cons rfl rfl (fun K hK=>?_) (MachP.any_cons rfl rfl (fun K hK=>?_) AllReady.nil)
   ·have hv:=HV256.out _ _ (HS0.out oa)
    go_simp
    clear hv
    refine hK _ _ ?_
    clear hK
    refine wpAny_ready (rs:=[4]) (by kernel_rfl) (by simp) ?_
    refine MachP.any_cons rfl rfl (fun K hK=>?_) AllReady.nil
    have hm:=HM127.out
    go_simp
    clear hm
    refine hK _ _ ?_
    clear hK
    refine wpAny_ready (rs:=[5]) (by kernel_rfl) (by simp) ?_
    refine MachP.any_cons rfl rfl (fun K hK=>?_) AllReady.nil
    have hv:=HV127.out _ _ (HS1.out oa ob)
    go_simp
    clear hv
    refine hK _ _ ?_
    clear hK
    refine wpAny_ready (rs:=[6]) (by kernel_rfl) (by simp) ?_
    refine MachP.any_cons rfl rfl (fun K hK=>?_) AllReady.nil
    go_simp
    refine hK _ _ ?_
    clear hK
    refine wpAny_ready (rs:=[7]) (by kernel_rfl) (by simp) ?_
    refine MachP.any_cons rfl rfl (fun K hK=>?_) AllReady.nil
    refine wp_store_row 30 _ _ rfl w.heap.size (nr rom kind) rfl rfl _ _ (keep (keep (HKR.out) _) _) HI.out rfl (by simp [Value.oneCell']) ?_
    refine hK _ _ ?_
    clear hK
    refine wpAny_ready (rs:=[8]) (by kernel_rfl) (by simp) ?_
    refine MachP.any_cons rfl rfl (fun K hK=>?_) AllReady.nil
    go_simp
    refine hK _ _ ?_
    clear hK
    refine wpAny_done (by kernel_rfl) ?_ _
    go_wp2
    exact bodyPost_ret (v:=.tuple #[.agg (nr rom kind),.bool true]) (results_two results33 _ _ w.heap.size _ _ (0,0) _ _ rfl rfl (heap_row (keep (keep (HKR.out) _) _)) underlying30 rfl HI.out) rfl ⟨rfl,below_row (((HBV.out |> (grow · _)) |> (grow · _))) (Nat.le_refl _)⟩
   ·have hm:=HM127.out
    go_simp
    clear hm
    refine hK _ _ ?_
    clear hK
    refine wpAny_ready (rs:=[3,5]) (by kernel_rfl) (by simp) ?_
    refine MachP.any_cons rfl rfl (fun K hK=>?_) (MachP.any_cons rfl rfl (fun K hK=>?_) AllReady.nil)
    ·have hv:=HV256.out _ _ (HS01.out oa ob)
     go_simp
     clear hv
     refine hK _ _ ?_
     clear hK
     refine wpAny_ready (rs:=[5]) (by kernel_rfl) (by simp) ?_
     refine MachP.any_cons rfl rfl (fun K hK=>?_) AllReady.nil
     have hv:=HV127.out _ _ (HS1.out oa ob)
     go_simp
     clear hv
     refine hK _ _ ?_
     clear hK
     refine wpAny_ready (rs:=[6]) (by kernel_rfl) (by simp) ?_
     refine MachP.any_cons rfl rfl (fun K hK=>?_) AllReady.nil
     go_simp
     refine hK _ _ ?_
     clear hK
     refine wpAny_ready (rs:=[7]) (by kernel_rfl) (by simp) ?_
     refine MachP.any_cons rfl rfl (fun K hK=>?_) AllReady.nil
     refine wp_store_row 30 _ _ rfl w.heap.size (nr rom kind) rfl rfl _ _ (keep (keep (HKR.out) _) _) HI.out rfl (by simp [Value.oneCell']) ?_
     refine hK _ _ ?_
     clear hK
     refine wpAny_ready (rs:=[8]) (by kernel_rfl) (by simp) ?_
     refine MachP.any_cons rfl rfl (fun K hK=>?_) AllReady.nil
     go_simp
     refine hK _ _ ?_
     clear hK
     refine wpAny_done (by kernel_rfl) ?_ _
     go_wp2
     exact bodyPost_ret (v:=.tuple #[.agg (nr rom kind),.bool true]) (results_two results33 _ _ w.heap.size _ _ (0,0) _ _ rfl rfl (heap_row (keep (keep (HKR.out) _) _)) underlying30 rfl HI.out) rfl ⟨rfl,below_row (((HBV.out |> (grow · _)) |> (grow · _))) (Nat.le_refl _)⟩
    ·have hv:=HV127.out _ _ (HS1.out oa ob)
     go_simp
     clear hv
     refine hK _ _ ?_
     clear hK
     refine wpAny_ready (rs:=[3]) (by kernel_rfl) (by simp) ?_
     refine MachP.any_cons rfl rfl (fun K hK=>?_) AllReady.nil
     have hv:=HV256.out _ _ (HS01.out oa ob)
     go_simp
     clear hv
     refine hK _ _ ?_
     clear hK
     refine wpAny_ready (rs:=[6]) (by kernel_rfl) (by simp) ?_
     refine MachP.any_cons rfl rfl (fun K hK=>?_) AllReady.nil
     go_simp
     refine hK _ _ ?_
     clear hK
     refine wpAny_ready (rs:=[7]) (by kernel_rfl) (by simp) ?_
     refine MachP.any_cons rfl rfl (fun K hK=>?_) AllReady.nil
     refine wp_store_row 30 _ _ rfl w.heap.size (nr rom kind) rfl rfl _ _ (keep (keep (HKR.out) _) _) HI.out rfl (by simp [Value.oneCell']) ?_
     refine hK _ _ ?_
     clear hK
     refine wpAny_ready (rs:=[8]) (by kernel_rfl) (by simp) ?_
     refine MachP.any_cons rfl rfl (fun K hK=>?_) AllReady.nil
     go_simp
     refine hK _ _ ?_
     clear hK
     refine wpAny_done (by kernel_rfl) ?_ _
     go_wp2
     exact bodyPost_ret (v:=.tuple #[.agg (nr rom kind),.bool true]) (results_two results33 _ _ w.heap.size _ _ (0,0) _ _ rfl rfl (heap_row (keep (keep (HKR.out) _) _)) underlying30 rfl HI.out) rfl ⟨rfl,below_row (((HBV.out |> (grow · _)) |> (grow · _))) (Nat.le_refl _)⟩
  ·have hm:=HM127.out
   go_simp
   clear hm
   refine hK _ _ ?_
   clear hK
   refine wpAny_ready (rs:=[2,5]) (by kernel_rfl) (by simp) ?_
   refine MachP.any_cons rfl rfl (fun K hK=>?_) (MachP.any_cons rfl rfl (fun K hK=>?_) AllReady.nil)
   ·have hm:=HM256.out
    go_simp
    clear hm
    refine hK _ _ ?_
    clear hK
    refine wpAny_ready (rs:=[3,5]) (by kernel_rfl) (by simp) ?_
    refine MachP.any_cons rfl rfl (fun K hK=>?_) (MachP.any_cons rfl rfl (fun K hK=>?_) AllReady.nil)
    ·have hv:=HV256.out _ _ (HS1.out ob oa)
     go_simp
     clear hv
     refine hK _ _ ?_
     clear hK
     refine wpAny_ready (rs:=[5]) (by kernel_rfl) (by simp) ?_
     refine MachP.any_cons rfl rfl (fun K hK=>?_) AllReady.nil
     have hv:=HV127.out _ _ (HS01.out ob oa)
     go_simp
     clear hv
     refine hK _ _ ?_
     clear hK
     refine wpAny_ready (rs:=[6]) (by kernel_rfl) (by simp) ?_
     refine MachP.any_cons rfl rfl (fun K hK=>?_) AllReady.nil
     go_simp
     refine hK _ _ ?_
     clear hK
     refine wpAny_ready (rs:=[7]) (by kernel_rfl) (by simp) ?_
     refine MachP.any_cons rfl rfl (fun K hK=>?_) AllReady.nil
     refine wp_store_row 30 _ _ rfl w.heap.size (nr rom kind) rfl rfl _ _ (keep (keep (HKR.out) _) _) HI.out rfl (by simp [Value.oneCell']) ?_
     refine hK _ _ ?_
     clear hK
     refine wpAny_ready (rs:=[8]) (by kernel_rfl) (by simp) ?_
     refine MachP.any_cons rfl rfl (fun K hK=>?_) AllReady.nil
     go_simp
     refine hK _ _ ?_
     clear hK
     refine wpAny_done (by kernel_rfl) ?_ _
     go_wp2
     exact bodyPost_ret (v:=.tuple #[.agg (nr rom kind),.bool true]) (results_two results33 _ _ w.heap.size _ _ (0,0) _ _ rfl rfl (heap_row (keep (keep (HKR.out) _) _)) underlying30 rfl HI.out) rfl ⟨rfl,below_row (((HBV.out |> (grow · _)) |> (grow · _))) (Nat.le_refl _)⟩
    ·have hv:=HV127.out _ _ (HS01.out ob oa)
     go_simp
     clear hv
     refine hK _ _ ?_
     clear hK
     refine wpAny_ready (rs:=[3]) (by kernel_rfl) (by simp) ?_
     refine MachP.any_cons rfl rfl (fun K hK=>?_) AllReady.nil
     have hv:=HV256.out _ _ (HS1.out ob oa)
     go_simp
     clear hv
     refine hK _ _ ?_
     clear hK
     refine wpAny_ready (rs:=[6]) (by kernel_rfl) (by simp) ?_
     refine MachP.any_cons rfl rfl (fun K hK=>?_) AllReady.nil
     go_simp
     refine hK _ _ ?_
     clear hK
     refine wpAny_ready (rs:=[7]) (by kernel_rfl) (by simp) ?_
     refine MachP.any_cons rfl rfl (fun K hK=>?_) AllReady.nil
     refine wp_store_row 30 _ _ rfl w.heap.size (nr rom kind) rfl rfl _ _ (keep (keep (HKR.out) _) _) HI.out rfl (by simp [Value.oneCell']) ?_
     refine hK _ _ ?_
     clear hK
     refine wpAny_ready (rs:=[8]) (by kernel_rfl) (by simp) ?_
     refine MachP.any_cons rfl rfl (fun K hK=>?_) AllReady.nil
     go_simp
     refine hK _ _ ?_
     clear hK
     refine wpAny_done (by kernel_rfl) ?_ _
     go_wp2
     exact bodyPost_ret (v:=.tuple #[.agg (nr rom kind),.bool true]) (results_two results33 _ _ w.heap.size _ _ (0,0) _ _ rfl rfl (heap_row (keep (keep (HKR.out) _) _)) underlying30 rfl HI.out) rfl ⟨rfl,below_row (((HBV.out |> (grow · _)) |> (grow · _))) (Nat.le_refl _)⟩
   ·have hv:=HV127.out _ _ (HS0.out ob)
    go_simp
    clear hv
    refine hK _ _ ?_
    clear hK
    refine wpAny_ready (rs:=[2]) (by kernel_rfl) (by simp) ?_
    refine MachP.any_cons rfl rfl (fun K hK=>?_) AllReady.nil
    have hm:=HM256.out
    go_simp
    clear hm
    refine hK _ _ ?_
    clear hK
    refine wpAny_ready (rs:=[3]) (by kernel_rfl) (by simp) ?_
    refine MachP.any_cons rfl rfl (fun K hK=>?_) AllReady.nil
    have hv:=HV256.out _ _ (HS1.out ob oa)
    go_simp
    clear hv
    refine hK _ _ ?_
    clear hK
    refine wpAny_ready (rs:=[6]) (by kernel_rfl) (by simp) ?_
    refine MachP.any_cons rfl rfl (fun K hK=>?_) AllReady.nil
    go_simp
    refine hK _ _ ?_
    clear hK
    refine wpAny_ready (rs:=[7]) (by kernel_rfl) (by simp) ?_
    refine MachP.any_cons rfl rfl (fun K hK=>?_) AllReady.nil
    refine wp_store_row 30 _ _ rfl w.heap.size (nr rom kind) rfl rfl _ _ (keep (keep (HKR.out) _) _) HI.out rfl (by simp [Value.oneCell']) ?_
    refine hK _ _ ?_
    clear hK
    refine wpAny_ready (rs:=[8]) (by kernel_rfl) (by simp) ?_
    refine MachP.any_cons rfl rfl (fun K hK=>?_) AllReady.nil
    go_simp
    refine hK _ _ ?_
    clear hK
    refine wpAny_done (by kernel_rfl) ?_ _
    go_wp2
    exact bodyPost_ret (v:=.tuple #[.agg (nr rom kind),.bool true]) (results_two results33 _ _ w.heap.size _ _ (0,0) _ _ rfl rfl (heap_row (keep (keep (HKR.out) _) _)) underlying30 rfl HI.out) rfl ⟨rfl,below_row (((HBV.out |> (grow · _)) |> (grow · _))) (Nat.le_refl _)⟩
 ·have hm:=HM256.out
  go_simp
  clear hm
  refine hK _ _ ?_
  clear hK
  refine wpAny_ready (rs:=[1,3,4]) (by kernel_rfl) (by simp) ?_
  refine MachP.any_cons rfl rfl (fun K hK=>?_) (MachP.any_cons rfl rfl (fun K hK=>?_) (MachP.any_cons rfl rfl (fun K hK=>?_) AllReady.nil))
  ·refine wp_load_row 27 _ rfl w1.heap.size rfl _ _ (0,0) _ (keep (HKC.out) _) underlying27 rfl HC.out ?_
   refine hK _ _ ?_
   clear hK
   refine wpAny_ready (rs:=[3,4]) (by kernel_rfl) (by simp) ?_
   refine MachP.any_cons rfl rfl (fun K hK=>?_) (MachP.any_cons rfl rfl (fun K hK=>?_) AllReady.nil)
   ·have hv:=HV256.out _ _ (HS0.out oa)
    go_simp
    clear hv
    refine hK _ _ ?_
    clear hK
    refine wpAny_ready (rs:=[4]) (by kernel_rfl) (by simp) ?_
    refine MachP.any_cons rfl rfl (fun K hK=>?_) AllReady.nil
    have hm:=HM127.out
    go_simp
    clear hm
    refine hK _ _ ?_
    clear hK
    refine wpAny_ready (rs:=[5]) (by kernel_rfl) (by simp) ?_
    refine MachP.any_cons rfl rfl (fun K hK=>?_) AllReady.nil
    have hv:=HV127.out _ _ (HS1.out oa ob)
    go_simp
    clear hv
    refine hK _ _ ?_
    clear hK
    refine wpAny_ready (rs:=[6]) (by kernel_rfl) (by simp) ?_
    refine MachP.any_cons rfl rfl (fun K hK=>?_) AllReady.nil
    go_simp
    refine hK _ _ ?_
    clear hK
    refine wpAny_ready (rs:=[7]) (by kernel_rfl) (by simp) ?_
    refine MachP.any_cons rfl rfl (fun K hK=>?_) AllReady.nil
    refine wp_store_row 30 _ _ rfl w.heap.size (nr rom kind) rfl rfl _ _ (keep (keep (HKR.out) _) _) HI.out rfl (by simp [Value.oneCell']) ?_
    refine hK _ _ ?_
    clear hK
    refine wpAny_ready (rs:=[8]) (by kernel_rfl) (by simp) ?_
    refine MachP.any_cons rfl rfl (fun K hK=>?_) AllReady.nil
    go_simp
    refine hK _ _ ?_
    clear hK
    refine wpAny_done (by kernel_rfl) ?_ _
    go_wp2
    exact bodyPost_ret (v:=.tuple #[.agg (nr rom kind),.bool true]) (results_two results33 _ _ w.heap.size _ _ (0,0) _ _ rfl rfl (heap_row (keep (keep (HKR.out) _) _)) underlying30 rfl HI.out) rfl ⟨rfl,below_row (((HBV.out |> (grow · _)) |> (grow · _))) (Nat.le_refl _)⟩
   ·have hm:=HM127.out
    go_simp
    clear hm
    refine hK _ _ ?_
    clear hK
    refine wpAny_ready (rs:=[3,5]) (by kernel_rfl) (by simp) ?_
    refine MachP.any_cons rfl rfl (fun K hK=>?_) (MachP.any_cons rfl rfl (fun K hK=>?_) AllReady.nil)
    ·have hv:=HV256.out _ _ (HS01.out oa ob)
     go_simp
     clear hv
     refine hK _ _ ?_
     clear hK
     refine wpAny_ready (rs:=[5]) (by kernel_rfl) (by simp) ?_
     refine MachP.any_cons rfl rfl (fun K hK=>?_) AllReady.nil
     have hv:=HV127.out _ _ (HS1.out oa ob)
     go_simp
     clear hv
     refine hK _ _ ?_
     clear hK
     refine wpAny_ready (rs:=[6]) (by kernel_rfl) (by simp) ?_
     refine MachP.any_cons rfl rfl (fun K hK=>?_) AllReady.nil
     go_simp
     refine hK _ _ ?_
     clear hK
     refine wpAny_ready (rs:=[7]) (by kernel_rfl) (by simp) ?_
     refine MachP.any_cons rfl rfl (fun K hK=>?_) AllReady.nil
     refine wp_store_row 30 _ _ rfl w.heap.size (nr rom kind) rfl rfl _ _ (keep (keep (HKR.out) _) _) HI.out rfl (by simp [Value.oneCell']) ?_
     refine hK _ _ ?_
     clear hK
     refine wpAny_ready (rs:=[8]) (by kernel_rfl) (by simp) ?_
     refine MachP.any_cons rfl rfl (fun K hK=>?_) AllReady.nil
     go_simp
     refine hK _ _ ?_
     clear hK
     refine wpAny_done (by kernel_rfl) ?_ _
     go_wp2
     exact bodyPost_ret (v:=.tuple #[.agg (nr rom kind),.bool true]) (results_two results33 _ _ w.heap.size _ _ (0,0) _ _ rfl rfl (heap_row (keep (keep (HKR.out) _) _)) underlying30 rfl HI.out) rfl ⟨rfl,below_row (((HBV.out |> (grow · _)) |> (grow · _))) (Nat.le_refl _)⟩
    ·have hv:=HV127.out _ _ (HS1.out oa ob)
     go_simp
     clear hv
     refine hK _ _ ?_
     clear hK
     refine wpAny_ready (rs:=[3]) (by kernel_rfl) (by simp) ?_
     refine MachP.any_cons rfl rfl (fun K hK=>?_) AllReady.nil
     have hv:=HV256.out _ _ (HS01.out oa ob)
     go_simp
     clear hv
     refine hK _ _ ?_
     clear hK
     refine wpAny_ready (rs:=[6]) (by kernel_rfl) (by simp) ?_
     refine MachP.any_cons rfl rfl (fun K hK=>?_) AllReady.nil
     go_simp
     refine hK _ _ ?_
     clear hK
     refine wpAny_ready (rs:=[7]) (by kernel_rfl) (by simp) ?_
     refine MachP.any_cons rfl rfl (fun K hK=>?_) AllReady.nil
     refine wp_store_row 30 _ _ rfl w.heap.size (nr rom kind) rfl rfl _ _ (keep (keep (HKR.out) _) _) HI.out rfl (by simp [Value.oneCell']) ?_
     refine hK _ _ ?_
     clear hK
     refine wpAny_ready (rs:=[8]) (by kernel_rfl) (by simp) ?_
     refine MachP.any_cons rfl rfl (fun K hK=>?_) AllReady.nil
     go_simp
     refine hK _ _ ?_
     clear hK
     refine wpAny_done (by kernel_rfl) ?_ _
     go_wp2
     exact bodyPost_ret (v:=.tuple #[.agg (nr rom kind),.bool true]) (results_two results33 _ _ w.heap.size _ _ (0,0) _ _ rfl rfl (heap_row (keep (keep (HKR.out) _) _)) underlying30 rfl HI.out) rfl ⟨rfl,below_row (((HBV.out |> (grow · _)) |> (grow · _))) (Nat.le_refl _)⟩
  ·have hv:=HV256.out _ _ (HS0.out oa)
   go_simp
   clear hv
   refine hK _ _ ?_
   clear hK
   refine wpAny_ready (rs:=[1,4]) (by kernel_rfl) (by simp) ?_
   refine MachP.any_cons rfl rfl (fun K hK=>?_) (MachP.any_cons rfl rfl (fun K hK=>?_) AllReady.nil)
   ·refine wp_load_row 27 _ rfl w1.heap.size rfl _ _ (0,0) _ (keep (HKC.out) _) underlying27 rfl HC.out ?_
    refine hK _ _ ?_
    clear hK
    refine wpAny_ready (rs:=[4]) (by kernel_rfl) (by simp) ?_
    refine MachP.any_cons rfl rfl (fun K hK=>?_) AllReady.nil
    have hm:=HM127.out
    go_simp
    clear hm
    refine hK _ _ ?_
    clear hK
    refine wpAny_ready (rs:=[5]) (by kernel_rfl) (by simp) ?_
    refine MachP.any_cons rfl rfl (fun K hK=>?_) AllReady.nil
    have hv:=HV127.out _ _ (HS1.out oa ob)
    go_simp
    clear hv
    refine hK _ _ ?_
    clear hK
    refine wpAny_ready (rs:=[6]) (by kernel_rfl) (by simp) ?_
    refine MachP.any_cons rfl rfl (fun K hK=>?_) AllReady.nil
    go_simp
    refine hK _ _ ?_
    clear hK
    refine wpAny_ready (rs:=[7]) (by kernel_rfl) (by simp) ?_
    refine MachP.any_cons rfl rfl (fun K hK=>?_) AllReady.nil
    refine wp_store_row 30 _ _ rfl w.heap.size (nr rom kind) rfl rfl _ _ (keep (keep (HKR.out) _) _) HI.out rfl (by simp [Value.oneCell']) ?_
    refine hK _ _ ?_
    clear hK
    refine wpAny_ready (rs:=[8]) (by kernel_rfl) (by simp) ?_
    refine MachP.any_cons rfl rfl (fun K hK=>?_) AllReady.nil
    go_simp
    refine hK _ _ ?_
    clear hK
    refine wpAny_done (by kernel_rfl) ?_ _
    go_wp2
    exact bodyPost_ret (v:=.tuple #[.agg (nr rom kind),.bool true]) (results_two results33 _ _ w.heap.size _ _ (0,0) _ _ rfl rfl (heap_row (keep (keep (HKR.out) _) _)) underlying30 rfl HI.out) rfl ⟨rfl,below_row (((HBV.out |> (grow · _)) |> (grow · _))) (Nat.le_refl _)⟩
   ·have hm:=HM127.out
    go_simp
    clear hm
    refine hK _ _ ?_
    clear hK
    refine wpAny_ready (rs:=[1,5]) (by kernel_rfl) (by simp) ?_
    refine MachP.any_cons rfl rfl (fun K hK=>?_) (MachP.any_cons rfl rfl (fun K hK=>?_) AllReady.nil)
    ·refine wp_load_row 27 _ rfl w1.heap.size rfl _ _ (0,0) _ (keep (keep (HKC.out) _) _) underlying27 rfl HC.out ?_
     refine hK _ _ ?_
     clear hK
     refine wpAny_ready (rs:=[5]) (by kernel_rfl) (by simp) ?_
     refine MachP.any_cons rfl rfl (fun K hK=>?_) AllReady.nil
     have hv:=HV127.out _ _ (HS1.out oa ob)
     go_simp
     clear hv
     refine hK _ _ ?_
     clear hK
     refine wpAny_ready (rs:=[6]) (by kernel_rfl) (by simp) ?_
     refine MachP.any_cons rfl rfl (fun K hK=>?_) AllReady.nil
     go_simp
     refine hK _ _ ?_
     clear hK
     refine wpAny_ready (rs:=[7]) (by kernel_rfl) (by simp) ?_
     refine MachP.any_cons rfl rfl (fun K hK=>?_) AllReady.nil
     refine wp_store_row 30 _ _ rfl w.heap.size (nr rom kind) rfl rfl _ _ (keep (keep (HKR.out) _) _) HI.out rfl (by simp [Value.oneCell']) ?_
     refine hK _ _ ?_
     clear hK
     refine wpAny_ready (rs:=[8]) (by kernel_rfl) (by simp) ?_
     refine MachP.any_cons rfl rfl (fun K hK=>?_) AllReady.nil
     go_simp
     refine hK _ _ ?_
     clear hK
     refine wpAny_done (by kernel_rfl) ?_ _
     go_wp2
     exact bodyPost_ret (v:=.tuple #[.agg (nr rom kind),.bool true]) (results_two results33 _ _ w.heap.size _ _ (0,0) _ _ rfl rfl (heap_row (keep (keep (HKR.out) _) _)) underlying30 rfl HI.out) rfl ⟨rfl,below_row (((HBV.out |> (grow · _)) |> (grow · _))) (Nat.le_refl _)⟩
    ·have hv:=HV127.out _ _ (HS1.out oa ob)
     go_simp
     clear hv
     refine hK _ _ ?_
     clear hK
     refine wpAny_ready (rs:=[1]) (by kernel_rfl) (by simp) ?_
     refine MachP.any_cons rfl rfl (fun K hK=>?_) AllReady.nil
     refine wp_load_row 27 _ rfl w1.heap.size rfl _ _ (0,0) _ (keep (keep (HKC.out) _) _) underlying27 rfl HC.out ?_
     refine hK _ _ ?_
     clear hK
     refine wpAny_ready (rs:=[6]) (by kernel_rfl) (by simp) ?_
     refine MachP.any_cons rfl rfl (fun K hK=>?_) AllReady.nil
     go_simp
     refine hK _ _ ?_
     clear hK
     refine wpAny_ready (rs:=[7]) (by kernel_rfl) (by simp) ?_
     refine MachP.any_cons rfl rfl (fun K hK=>?_) AllReady.nil
     refine wp_store_row 30 _ _ rfl w.heap.size (nr rom kind) rfl rfl _ _ (keep (keep (HKR.out) _) _) HI.out rfl (by simp [Value.oneCell']) ?_
     refine hK _ _ ?_
     clear hK
     refine wpAny_ready (rs:=[8]) (by kernel_rfl) (by simp) ?_
     refine MachP.any_cons rfl rfl (fun K hK=>?_) AllReady.nil
     go_simp
     refine hK _ _ ?_
     clear hK
     refine wpAny_done (by kernel_rfl) ?_ _
     go_wp2
     exact bodyPost_ret (v:=.tuple #[.agg (nr rom kind),.bool true]) (results_two results33 _ _ w.heap.size _ _ (0,0) _ _ rfl rfl (heap_row (keep (keep (HKR.out) _) _)) underlying30 rfl HI.out) rfl ⟨rfl,below_row (((HBV.out |> (grow · _)) |> (grow · _))) (Nat.le_refl _)⟩
  ·have hm:=HM127.out
   go_simp
   clear hm
   refine hK _ _ ?_
   clear hK
   refine wpAny_ready (rs:=[1,3,5]) (by kernel_rfl) (by simp) ?_
   refine MachP.any_cons rfl rfl (fun K hK=>?_) (MachP.any_cons rfl rfl (fun K hK=>?_) (MachP.any_cons rfl rfl (fun K hK=>?_) AllReady.nil))
   ·refine wp_load_row 27 _ rfl w1.heap.size rfl _ _ (0,0) _ (keep (keep (HKC.out) _) _) underlying27 rfl HC.out ?_
    refine hK _ _ ?_
    clear hK
    refine wpAny_ready (rs:=[3,5]) (by kernel_rfl) (by simp) ?_
    refine MachP.any_cons rfl rfl (fun K hK=>?_) (MachP.any_cons rfl rfl (fun K hK=>?_) AllReady.nil)
    ·have hv:=HV256.out _ _ (HS01.out oa ob)
     go_simp
     clear hv
     refine hK _ _ ?_
     clear hK
     refine wpAny_ready (rs:=[5]) (by kernel_rfl) (by simp) ?_
     refine MachP.any_cons rfl rfl (fun K hK=>?_) AllReady.nil
     have hv:=HV127.out _ _ (HS1.out oa ob)
     go_simp
     clear hv
     refine hK _ _ ?_
     clear hK
     refine wpAny_ready (rs:=[6]) (by kernel_rfl) (by simp) ?_
     refine MachP.any_cons rfl rfl (fun K hK=>?_) AllReady.nil
     go_simp
     refine hK _ _ ?_
     clear hK
     refine wpAny_ready (rs:=[7]) (by kernel_rfl) (by simp) ?_
     refine MachP.any_cons rfl rfl (fun K hK=>?_) AllReady.nil
     refine wp_store_row 30 _ _ rfl w.heap.size (nr rom kind) rfl rfl _ _ (keep (keep (HKR.out) _) _) HI.out rfl (by simp [Value.oneCell']) ?_
     refine hK _ _ ?_
     clear hK
     refine wpAny_ready (rs:=[8]) (by kernel_rfl) (by simp) ?_
     refine MachP.any_cons rfl rfl (fun K hK=>?_) AllReady.nil
     go_simp
     refine hK _ _ ?_
     clear hK
     refine wpAny_done (by kernel_rfl) ?_ _
     go_wp2
     exact bodyPost_ret (v:=.tuple #[.agg (nr rom kind),.bool true]) (results_two results33 _ _ w.heap.size _ _ (0,0) _ _ rfl rfl (heap_row (keep (keep (HKR.out) _) _)) underlying30 rfl HI.out) rfl ⟨rfl,below_row (((HBV.out |> (grow · _)) |> (grow · _))) (Nat.le_refl _)⟩
    ·have hv:=HV127.out _ _ (HS1.out oa ob)
     go_simp
     clear hv
     refine hK _ _ ?_
     clear hK
     refine wpAny_ready (rs:=[3]) (by kernel_rfl) (by simp) ?_
     refine MachP.any_cons rfl rfl (fun K hK=>?_) AllReady.nil
     have hv:=HV256.out _ _ (HS01.out oa ob)
     go_simp
     clear hv
     refine hK _ _ ?_
     clear hK
     refine wpAny_ready (rs:=[6]) (by kernel_rfl) (by simp) ?_
     refine MachP.any_cons rfl rfl (fun K hK=>?_) AllReady.nil
     go_simp
     refine hK _ _ ?_
     clear hK
     refine wpAny_ready (rs:=[7]) (by kernel_rfl) (by simp) ?_
     refine MachP.any_cons rfl rfl (fun K hK=>?_) AllReady.nil
     refine wp_store_row 30 _ _ rfl w.heap.size (nr rom kind) rfl rfl _ _ (keep (keep (HKR.out) _) _) HI.out rfl (by simp [Value.oneCell']) ?_
     refine hK _ _ ?_
     clear hK
     refine wpAny_ready (rs:=[8]) (by kernel_rfl) (by simp) ?_
     refine MachP.any_cons rfl rfl (fun K hK=>?_) AllReady.nil
     go_simp
     refine hK _ _ ?_
     clear hK
     refine wpAny_done (by kernel_rfl) ?_ _
     go_wp2
     exact bodyPost_ret (v:=.tuple #[.agg (nr rom kind),.bool true]) (results_two results33 _ _ w.heap.size _ _ (0,0) _ _ rfl rfl (heap_row (keep (keep (HKR.out) _) _)) underlying30 rfl HI.out) rfl ⟨rfl,below_row (((HBV.out |> (grow · _)) |> (grow · _))) (Nat.le_refl _)⟩
   ·have hv:=HV256.out _ _ (HS01.out oa ob)
    go_simp
    clear hv
    refine hK _ _ ?_
    clear hK
    refine wpAny_ready (rs:=[1,5]) (by kernel_rfl) (by simp) ?_
    refine MachP.any_cons rfl rfl (fun K hK=>?_) (MachP.any_cons rfl rfl (fun K hK=>?_) AllReady.nil)
    ·refine wp_load_row 27 _ rfl w1.heap.size rfl _ _ (0,0) _ (keep (keep (HKC.out) _) _) underlying27 rfl HC.out ?_
     refine hK _ _ ?_
     clear hK
     refine wpAny_ready (rs:=[5]) (by kernel_rfl) (by simp) ?_
     refine MachP.any_cons rfl rfl (fun K hK=>?_) AllReady.nil
     have hv:=HV127.out _ _ (HS1.out oa ob)
     go_simp
     clear hv
     refine hK _ _ ?_
     clear hK
     refine wpAny_ready (rs:=[6]) (by kernel_rfl) (by simp) ?_
     refine MachP.any_cons rfl rfl (fun K hK=>?_) AllReady.nil
     go_simp
     refine hK _ _ ?_
     clear hK
     refine wpAny_ready (rs:=[7]) (by kernel_rfl) (by simp) ?_
     refine MachP.any_cons rfl rfl (fun K hK=>?_) AllReady.nil
     refine wp_store_row 30 _ _ rfl w.heap.size (nr rom kind) rfl rfl _ _ (keep (keep (HKR.out) _) _) HI.out rfl (by simp [Value.oneCell']) ?_
     refine hK _ _ ?_
     clear hK
     refine wpAny_ready (rs:=[8]) (by kernel_rfl) (by simp) ?_
     refine MachP.any_cons rfl rfl (fun K hK=>?_) AllReady.nil
     go_simp
     refine hK _ _ ?_
     clear hK
     refine wpAny_done (by kernel_rfl) ?_ _
     go_wp2
     exact bodyPost_ret (v:=.tuple #[.agg (nr rom kind),.bool true]) (results_two results33 _ _ w.heap.size _ _ (0,0) _ _ rfl rfl (heap_row (keep (keep (HKR.out) _) _)) underlying30 rfl HI.out) rfl ⟨rfl,below_row (((HBV.out |> (grow · _)) |> (grow · _))) (Nat.le_refl _)⟩
    ·have hv:=HV127.out _ _ (HS1.out oa ob)
     go_simp
     clear hv
     refine hK _ _ ?_
     clear hK
     refine wpAny_ready (rs:=[1]) (by kernel_rfl) (by simp) ?_
     refine MachP.any_cons rfl rfl (fun K hK=>?_) AllReady.nil
     refine wp_load_row 27 _ rfl w1.heap.size rfl _ _ (0,0) _ (keep (keep (HKC.out) _) _) underlying27 rfl HC.out ?_
     refine hK _ _ ?_
     clear hK
     refine wpAny_ready (rs:=[6]) (by kernel_rfl) (by simp) ?_
     refine MachP.any_cons rfl rfl (fun K hK=>?_) AllReady.nil
     go_simp
     refine hK _ _ ?_
     clear hK
     refine wpAny_ready (rs:=[7]) (by kernel_rfl) (by simp) ?_
     refine MachP.any_cons rfl rfl (fun K hK=>?_) AllReady.nil
     refine wp_store_row 30 _ _ rfl w.heap.size (nr rom kind) rfl rfl _ _ (keep (keep (HKR.out) _) _) HI.out rfl (by simp [Value.oneCell']) ?_
     refine hK _ _ ?_
     clear hK
     refine wpAny_ready (rs:=[8]) (by kernel_rfl) (by simp) ?_
     refine MachP.any_cons rfl rfl (fun K hK=>?_) AllReady.nil
     go_simp
     refine hK _ _ ?_
     clear hK
     refine wpAny_done (by kernel_rfl) ?_ _
     go_wp2
     exact bodyPost_ret (v:=.tuple #[.agg (nr rom kind),.bool true]) (results_two results33 _ _ w.heap.size _ _ (0,0) _ _ rfl rfl (heap_row (keep (keep (HKR.out) _) _)) underlying30 rfl HI.out) rfl ⟨rfl,below_row (((HBV.out |> (grow · _)) |> (grow · _))) (Nat.le_refl _)⟩
   ·have hv:=HV127.out _ _ (HS1.out oa ob)
    go_simp
    clear hv
    refine hK _ _ ?_
    clear hK
    refine wpAny_ready (rs:=[1,3]) (by kernel_rfl) (by simp) ?_
    refine MachP.any_cons rfl rfl (fun K hK=>?_) (MachP.any_cons rfl rfl (fun K hK=>?_) AllReady.nil)
    ·refine wp_load_row 27 _ rfl w1.heap.size rfl _ _ (0,0) _ (keep (keep (HKC.out) _) _) underlying27 rfl HC.out ?_
     refine hK _ _ ?_
     clear hK
     refine wpAny_ready (rs:=[3]) (by kernel_rfl) (by simp) ?_
     refine MachP.any_cons rfl rfl (fun K hK=>?_) AllReady.nil
     have hv:=HV256.out _ _ (HS01.out oa ob)
     go_simp
     clear hv
     refine hK _ _ ?_
     clear hK
     refine wpAny_ready (rs:=[6]) (by kernel_rfl) (by simp) ?_
     refine MachP.any_cons rfl rfl (fun K hK=>?_) AllReady.nil
     go_simp
     refine hK _ _ ?_
     clear hK
     refine wpAny_ready (rs:=[7]) (by kernel_rfl) (by simp) ?_
     refine MachP.any_cons rfl rfl (fun K hK=>?_) AllReady.nil
     refine wp_store_row 30 _ _ rfl w.heap.size (nr rom kind) rfl rfl _ _ (keep (keep (HKR.out) _) _) HI.out rfl (by simp [Value.oneCell']) ?_
     refine hK _ _ ?_
     clear hK
     refine wpAny_ready (rs:=[8]) (by kernel_rfl) (by simp) ?_
     refine MachP.any_cons rfl rfl (fun K hK=>?_) AllReady.nil
     go_simp
     refine hK _ _ ?_
     clear hK
     refine wpAny_done (by kernel_rfl) ?_ _
     go_wp2
     exact bodyPost_ret (v:=.tuple #[.agg (nr rom kind),.bool true]) (results_two results33 _ _ w.heap.size _ _ (0,0) _ _ rfl rfl (heap_row (keep (keep (HKR.out) _) _)) underlying30 rfl HI.out) rfl ⟨rfl,below_row (((HBV.out |> (grow · _)) |> (grow · _))) (Nat.le_refl _)⟩
    ·have hv:=HV256.out _ _ (HS01.out oa ob)
     go_simp
     clear hv
     refine hK _ _ ?_
     clear hK
     refine wpAny_ready (rs:=[1]) (by kernel_rfl) (by simp) ?_
     refine MachP.any_cons rfl rfl (fun K hK=>?_) AllReady.nil
     refine wp_load_row 27 _ rfl w1.heap.size rfl _ _ (0,0) _ (keep (keep (HKC.out) _) _) underlying27 rfl HC.out ?_
     refine hK _ _ ?_
     clear hK
     refine wpAny_ready (rs:=[6]) (by kernel_rfl) (by simp) ?_
     refine MachP.any_cons rfl rfl (fun K hK=>?_) AllReady.nil
     go_simp
     refine hK _ _ ?_
     clear hK
     refine wpAny_ready (rs:=[7]) (by kernel_rfl) (by simp) ?_
     refine MachP.any_cons rfl rfl (fun K hK=>?_) AllReady.nil
     refine wp_store_row 30 _ _ rfl w.heap.size (nr rom kind) rfl rfl _ _ (keep (keep (HKR.out) _) _) HI.out rfl (by simp [Value.oneCell']) ?_
     refine hK _ _ ?_
     clear hK
     refine wpAny_ready (rs:=[8]) (by kernel_rfl) (by simp) ?_
     refine MachP.any_cons rfl rfl (fun K hK=>?_) AllReady.nil
     go_simp
     refine hK _ _ ?_
     clear hK
     refine wpAny_done (by kernel_rfl) ?_ _
     go_wp2
     exact bodyPost_ret (v:=.tuple #[.agg (nr rom kind),.bool true]) (results_two results33 _ _ w.heap.size _ _ (0,0) _ _ rfl rfl (heap_row (keep (keep (HKR.out) _) _)) underlying30 rfl HI.out) rfl ⟨rfl,below_row (((HBV.out |> (grow · _)) |> (grow · _))) (Nat.le_refl _)⟩
 ·have hm:=HM127.out
  go_simp
  clear hm
  refine hK _ _ ?_
  clear hK
  refine wpAny_ready (rs:=[1,2,5]) (by kernel_rfl) (by simp) ?_
  refine MachP.any_cons rfl rfl (fun K hK=>?_) (MachP.any_cons rfl rfl (fun K hK=>?_) (MachP.any_cons rfl rfl (fun K hK=>?_) AllReady.nil))
  ·refine wp_load_row 27 _ rfl w1.heap.size rfl _ _ (0,0) _ (keep (HKC.out) _) underlying27 rfl HC.out ?_
   refine hK _ _ ?_
   clear hK
   refine wpAny_ready (rs:=[2,5]) (by kernel_rfl) (by simp) ?_
   refine MachP.any_cons rfl rfl (fun K hK=>?_) (MachP.any_cons rfl rfl (fun K hK=>?_) AllReady.nil)
   ·have hm:=HM256.out
    go_simp
    clear hm
    refine hK _ _ ?_
    clear hK
    refine wpAny_ready (rs:=[3,5]) (by kernel_rfl) (by simp) ?_
    refine MachP.any_cons rfl rfl (fun K hK=>?_) (MachP.any_cons rfl rfl (fun K hK=>?_) AllReady.nil)
    ·have hv:=HV256.out _ _ (HS1.out ob oa)
     go_simp
     clear hv
     refine hK _ _ ?_
     clear hK
     refine wpAny_ready (rs:=[5]) (by kernel_rfl) (by simp) ?_
     refine MachP.any_cons rfl rfl (fun K hK=>?_) AllReady.nil
     have hv:=HV127.out _ _ (HS01.out ob oa)
     go_simp
     clear hv
     refine hK _ _ ?_
     clear hK
     refine wpAny_ready (rs:=[6]) (by kernel_rfl) (by simp) ?_
     refine MachP.any_cons rfl rfl (fun K hK=>?_) AllReady.nil
     go_simp
     refine hK _ _ ?_
     clear hK
     refine wpAny_ready (rs:=[7]) (by kernel_rfl) (by simp) ?_
     refine MachP.any_cons rfl rfl (fun K hK=>?_) AllReady.nil
     refine wp_store_row 30 _ _ rfl w.heap.size (nr rom kind) rfl rfl _ _ (keep (keep (HKR.out) _) _) HI.out rfl (by simp [Value.oneCell']) ?_
     refine hK _ _ ?_
     clear hK
     refine wpAny_ready (rs:=[8]) (by kernel_rfl) (by simp) ?_
     refine MachP.any_cons rfl rfl (fun K hK=>?_) AllReady.nil
     go_simp
     refine hK _ _ ?_
     clear hK
     refine wpAny_done (by kernel_rfl) ?_ _
     go_wp2
     exact bodyPost_ret (v:=.tuple #[.agg (nr rom kind),.bool true]) (results_two results33 _ _ w.heap.size _ _ (0,0) _ _ rfl rfl (heap_row (keep (keep (HKR.out) _) _)) underlying30 rfl HI.out) rfl ⟨rfl,below_row (((HBV.out |> (grow · _)) |> (grow · _))) (Nat.le_refl _)⟩
    ·have hv:=HV127.out _ _ (HS01.out ob oa)
     go_simp
     clear hv
     refine hK _ _ ?_
     clear hK
     refine wpAny_ready (rs:=[3]) (by kernel_rfl) (by simp) ?_
     refine MachP.any_cons rfl rfl (fun K hK=>?_) AllReady.nil
     have hv:=HV256.out _ _ (HS1.out ob oa)
     go_simp
     clear hv
     refine hK _ _ ?_
     clear hK
     refine wpAny_ready (rs:=[6]) (by kernel_rfl) (by simp) ?_
     refine MachP.any_cons rfl rfl (fun K hK=>?_) AllReady.nil
     go_simp
     refine hK _ _ ?_
     clear hK
     refine wpAny_ready (rs:=[7]) (by kernel_rfl) (by simp) ?_
     refine MachP.any_cons rfl rfl (fun K hK=>?_) AllReady.nil
     refine wp_store_row 30 _ _ rfl w.heap.size (nr rom kind) rfl rfl _ _ (keep (keep (HKR.out) _) _) HI.out rfl (by simp [Value.oneCell']) ?_
     refine hK _ _ ?_
     clear hK
     refine wpAny_ready (rs:=[8]) (by kernel_rfl) (by simp) ?_
     refine MachP.any_cons rfl rfl (fun K hK=>?_) AllReady.nil
     go_simp
     refine hK _ _ ?_
     clear hK
     refine wpAny_done (by kernel_rfl) ?_ _
     go_wp2
     exact bodyPost_ret (v:=.tuple #[.agg (nr rom kind),.bool true]) (results_two results33 _ _ w.heap.size _ _ (0,0) _ _ rfl rfl (heap_row (keep (keep (HKR.out) _) _)) underlying30 rfl HI.out) rfl ⟨rfl,below_row (((HBV.out |> (grow · _)) |> (grow · _))) (Nat.le_refl _)⟩
   ·have hv:=HV127.out _ _ (HS0.out ob)
    go_simp
    clear hv
    refine hK _ _ ?_
    clear hK
    refine wpAny_ready (rs:=[2]) (by kernel_rfl) (by simp) ?_
    refine MachP.any_cons rfl rfl (fun K hK=>?_) AllReady.nil
    have hm:=HM256.out
    go_simp
    clear hm
    refine hK _ _ ?_
    clear hK
    refine wpAny_ready (rs:=[3]) (by kernel_rfl) (by simp) ?_
    refine MachP.any_cons rfl rfl (fun K hK=>?_) AllReady.nil
    have hv:=HV256.out _ _ (HS1.out ob oa)
    go_simp
    clear hv
    refine hK _ _ ?_
    clear hK
    refine wpAny_ready (rs:=[6]) (by kernel_rfl) (by simp) ?_
    refine MachP.any_cons rfl rfl (fun K hK=>?_) AllReady.nil
    go_simp
    refine hK _ _ ?_
    clear hK
    refine wpAny_ready (rs:=[7]) (by kernel_rfl) (by simp) ?_
    refine MachP.any_cons rfl rfl (fun K hK=>?_) AllReady.nil
    refine wp_store_row 30 _ _ rfl w.heap.size (nr rom kind) rfl rfl _ _ (keep (keep (HKR.out) _) _) HI.out rfl (by simp [Value.oneCell']) ?_
    refine hK _ _ ?_
    clear hK
    refine wpAny_ready (rs:=[8]) (by kernel_rfl) (by simp) ?_
    refine MachP.any_cons rfl rfl (fun K hK=>?_) AllReady.nil
    go_simp
    refine hK _ _ ?_
    clear hK
    refine wpAny_done (by kernel_rfl) ?_ _
    go_wp2
    exact bodyPost_ret (v:=.tuple #[.agg (nr rom kind),.bool true]) (results_two results33 _ _ w.heap.size _ _ (0,0) _ _ rfl rfl (heap_row (keep (keep (HKR.out) _) _)) underlying30 rfl HI.out) rfl ⟨rfl,below_row (((HBV.out |> (grow · _)) |> (grow · _))) (Nat.le_refl _)⟩
  ·have hm:=HM256.out
   go_simp
   clear hm
   refine hK _ _ ?_
   clear hK
   refine wpAny_ready (rs:=[1,3,5]) (by kernel_rfl) (by simp) ?_
   refine MachP.any_cons rfl rfl (fun K hK=>?_) (MachP.any_cons rfl rfl (fun K hK=>?_) (MachP.any_cons rfl rfl (fun K hK=>?_) AllReady.nil))
   ·refine wp_load_row 27 _ rfl w1.heap.size rfl _ _ (0,0) _ (keep (keep (HKC.out) _) _) underlying27 rfl HC.out ?_
    refine hK _ _ ?_
    clear hK
    refine wpAny_ready (rs:=[3,5]) (by kernel_rfl) (by simp) ?_
    refine MachP.any_cons rfl rfl (fun K hK=>?_) (MachP.any_cons rfl rfl (fun K hK=>?_) AllReady.nil)
    ·have hv:=HV256.out _ _ (HS1.out ob oa)
     go_simp
     clear hv
     refine hK _ _ ?_
     clear hK
     refine wpAny_ready (rs:=[5]) (by kernel_rfl) (by simp) ?_
     refine MachP.any_cons rfl rfl (fun K hK=>?_) AllReady.nil
     have hv:=HV127.out _ _ (HS01.out ob oa)
     go_simp
     clear hv
     refine hK _ _ ?_
     clear hK
     refine wpAny_ready (rs:=[6]) (by kernel_rfl) (by simp) ?_
     refine MachP.any_cons rfl rfl (fun K hK=>?_) AllReady.nil
     go_simp
     refine hK _ _ ?_
     clear hK
     refine wpAny_ready (rs:=[7]) (by kernel_rfl) (by simp) ?_
     refine MachP.any_cons rfl rfl (fun K hK=>?_) AllReady.nil
     refine wp_store_row 30 _ _ rfl w.heap.size (nr rom kind) rfl rfl _ _ (keep (keep (HKR.out) _) _) HI.out rfl (by simp [Value.oneCell']) ?_
     refine hK _ _ ?_
     clear hK
     refine wpAny_ready (rs:=[8]) (by kernel_rfl) (by simp) ?_
     refine MachP.any_cons rfl rfl (fun K hK=>?_) AllReady.nil
     go_simp
     refine hK _ _ ?_
     clear hK
     refine wpAny_done (by kernel_rfl) ?_ _
     go_wp2
     exact bodyPost_ret (v:=.tuple #[.agg (nr rom kind),.bool true]) (results_two results33 _ _ w.heap.size _ _ (0,0) _ _ rfl rfl (heap_row (keep (keep (HKR.out) _) _)) underlying30 rfl HI.out) rfl ⟨rfl,below_row (((HBV.out |> (grow · _)) |> (grow · _))) (Nat.le_refl _)⟩
    ·have hv:=HV127.out _ _ (HS01.out ob oa)
     go_simp
     clear hv
     refine hK _ _ ?_
     clear hK
     refine wpAny_ready (rs:=[3]) (by kernel_rfl) (by simp) ?_
     refine MachP.any_cons rfl rfl (fun K hK=>?_) AllReady.nil
     have hv:=HV256.out _ _ (HS1.out ob oa)
     go_simp
     clear hv
     refine hK _ _ ?_
     clear hK
     refine wpAny_ready (rs:=[6]) (by kernel_rfl) (by simp) ?_
     refine MachP.any_cons rfl rfl (fun K hK=>?_) AllReady.nil
     go_simp
     refine hK _ _ ?_
     clear hK
     refine wpAny_ready (rs:=[7]) (by kernel_rfl) (by simp) ?_
     refine MachP.any_cons rfl rfl (fun K hK=>?_) AllReady.nil
     refine wp_store_row 30 _ _ rfl w.heap.size (nr rom kind) rfl rfl _ _ (keep (keep (HKR.out) _) _) HI.out rfl (by simp [Value.oneCell']) ?_
     refine hK _ _ ?_
     clear hK
     refine wpAny_ready (rs:=[8]) (by kernel_rfl) (by simp) ?_
     refine MachP.any_cons rfl rfl (fun K hK=>?_) AllReady.nil
     go_simp
     refine hK _ _ ?_
     clear hK
     refine wpAny_done (by kernel_rfl) ?_ _
     go_wp2
     exact bodyPost_ret (v:=.tuple #[.agg (nr rom kind),.bool true]) (results_two results33 _ _ w.heap.size _ _ (0,0) _ _ rfl rfl (heap_row (keep (keep (HKR.out) _) _)) underlying30 rfl HI.out) rfl ⟨rfl,below_row (((HBV.out |> (grow · _)) |> (grow · _))) (Nat.le_refl _)⟩
   ·have hv:=HV256.out _ _ (HS1.out ob oa)
    go_simp
    clear hv
    refine hK _ _ ?_
    clear hK
    refine wpAny_ready (rs:=[1,5]) (by kernel_rfl) (by simp) ?_
    refine MachP.any_cons rfl rfl (fun K hK=>?_) (MachP.any_cons rfl rfl (fun K hK=>?_) AllReady.nil)
    ·refine wp_load_row 27 _ rfl w1.heap.size rfl _ _ (0,0) _ (keep (keep (HKC.out) _) _) underlying27 rfl HC.out ?_
     refine hK _ _ ?_
     clear hK
     refine wpAny_ready (rs:=[5]) (by kernel_rfl) (by simp) ?_
     refine MachP.any_cons rfl rfl (fun K hK=>?_) AllReady.nil
     have hv:=HV127.out _ _ (HS01.out ob oa)
     go_simp
     clear hv
     refine hK _ _ ?_
     clear hK
     refine wpAny_ready (rs:=[6]) (by kernel_rfl) (by simp) ?_
     refine MachP.any_cons rfl rfl (fun K hK=>?_) AllReady.nil
     go_simp
     refine hK _ _ ?_
     clear hK
     refine wpAny_ready (rs:=[7]) (by kernel_rfl) (by simp) ?_
     refine MachP.any_cons rfl rfl (fun K hK=>?_) AllReady.nil
     refine wp_store_row 30 _ _ rfl w.heap.size (nr rom kind) rfl rfl _ _ (keep (keep (HKR.out) _) _) HI.out rfl (by simp [Value.oneCell']) ?_
     refine hK _ _ ?_
     clear hK
     refine wpAny_ready (rs:=[8]) (by kernel_rfl) (by simp) ?_
     refine MachP.any_cons rfl rfl (fun K hK=>?_) AllReady.nil
     go_simp
     refine hK _ _ ?_
     clear hK
     refine wpAny_done (by kernel_rfl) ?_ _
     go_wp2
     exact bodyPost_ret (v:=.tuple #[.agg (nr rom kind),.bool true]) (results_two results33 _ _ w.heap.size _ _ (0,0) _ _ rfl rfl (heap_row (keep (keep (HKR.out) _) _)) underlying30 rfl HI.out) rfl ⟨rfl,below_row (((HBV.out |> (grow · _)) |> (grow · _))) (Nat.le_refl _)⟩
    ·have hv:=HV127.out _ _ (HS01.out ob oa)
     go_simp
     clear hv
     refine hK _ _ ?_
     clear hK
     refine wpAny_ready (rs:=[1]) (by kernel_rfl) (by simp) ?_
     refine MachP.any_cons rfl rfl (fun K hK=>?_) AllReady.nil
     refine wp_load_row 27 _ rfl w1.heap.size rfl _ _ (0,0) _ (keep (keep (HKC.out) _) _) underlying27 rfl HC.out ?_
     refine hK _ _ ?_
     clear hK
     refine wpAny_ready (rs:=[6]) (by kernel_rfl) (by simp) ?_
     refine MachP.any_cons rfl rfl (fun K hK=>?_) AllReady.nil
     go_simp
     refine hK _ _ ?_
     clear hK
     refine wpAny_ready (rs:=[7]) (by kernel_rfl) (by simp) ?_
     refine MachP.any_cons rfl rfl (fun K hK=>?_) AllReady.nil
     refine wp_store_row 30 _ _ rfl w.heap.size (nr rom kind) rfl rfl _ _ (keep (keep (HKR.out) _) _) HI.out rfl (by simp [Value.oneCell']) ?_
     refine hK _ _ ?_
     clear hK
     refine wpAny_ready (rs:=[8]) (by kernel_rfl) (by simp) ?_
     refine MachP.any_cons rfl rfl (fun K hK=>?_) AllReady.nil
     go_simp
     refine hK _ _ ?_
     clear hK
     refine wpAny_done (by kernel_rfl) ?_ _
     go_wp2
     exact bodyPost_ret (v:=.tuple #[.agg (nr rom kind),.bool true]) (results_two results33 _ _ w.heap.size _ _ (0,0) _ _ rfl rfl (heap_row (keep (keep (HKR.out) _) _)) underlying30 rfl HI.out) rfl ⟨rfl,below_row (((HBV.out |> (grow · _)) |> (grow · _))) (Nat.le_refl _)⟩
   ·have hv:=HV127.out _ _ (HS01.out ob oa)
    go_simp
    clear hv
    refine hK _ _ ?_
    clear hK
    refine wpAny_ready (rs:=[1,3]) (by kernel_rfl) (by simp) ?_
    refine MachP.any_cons rfl rfl (fun K hK=>?_) (MachP.any_cons rfl rfl (fun K hK=>?_) AllReady.nil)
    ·refine wp_load_row 27 _ rfl w1.heap.size rfl _ _ (0,0) _ (keep (keep (HKC.out) _) _) underlying27 rfl HC.out ?_
     refine hK _ _ ?_
     clear hK
     refine wpAny_ready (rs:=[3]) (by kernel_rfl) (by simp) ?_
     refine MachP.any_cons rfl rfl (fun K hK=>?_) AllReady.nil
     have hv:=HV256.out _ _ (HS1.out ob oa)
     go_simp
     clear hv
     refine hK _ _ ?_
     clear hK
     refine wpAny_ready (rs:=[6]) (by kernel_rfl) (by simp) ?_
     refine MachP.any_cons rfl rfl (fun K hK=>?_) AllReady.nil
     go_simp
     refine hK _ _ ?_
     clear hK
     refine wpAny_ready (rs:=[7]) (by kernel_rfl) (by simp) ?_
     refine MachP.any_cons rfl rfl (fun K hK=>?_) AllReady.nil
     refine wp_store_row 30 _ _ rfl w.heap.size (nr rom kind) rfl rfl _ _ (keep (keep (HKR.out) _) _) HI.out rfl (by simp [Value.oneCell']) ?_
     refine hK _ _ ?_
     clear hK
     refine wpAny_ready (rs:=[8]) (by kernel_rfl) (by simp) ?_
     refine MachP.any_cons rfl rfl (fun K hK=>?_) AllReady.nil
     go_simp
     refine hK _ _ ?_
     clear hK
     refine wpAny_done (by kernel_rfl) ?_ _
     go_wp2
     exact bodyPost_ret (v:=.tuple #[.agg (nr rom kind),.bool true]) (results_two results33 _ _ w.heap.size _ _ (0,0) _ _ rfl rfl (heap_row (keep (keep (HKR.out) _) _)) underlying30 rfl HI.out) rfl ⟨rfl,below_row (((HBV.out |> (grow · _)) |> (grow · _))) (Nat.le_refl _)⟩
    ·have hv:=HV256.out _ _ (HS1.out ob oa)
     go_simp
     clear hv
     refine hK _ _ ?_
     clear hK
     refine wpAny_ready (rs:=[1]) (by kernel_rfl) (by simp) ?_
     refine MachP.any_cons rfl rfl (fun K hK=>?_) AllReady.nil
     refine wp_load_row 27 _ rfl w1.heap.size rfl _ _ (0,0) _ (keep (keep (HKC.out) _) _) underlying27 rfl HC.out ?_
     refine hK _ _ ?_
     clear hK
     refine wpAny_ready (rs:=[6]) (by kernel_rfl) (by simp) ?_
     refine MachP.any_cons rfl rfl (fun K hK=>?_) AllReady.nil
     go_simp
     refine hK _ _ ?_
     clear hK
     refine wpAny_ready (rs:=[7]) (by kernel_rfl) (by simp) ?_
     refine MachP.any_cons rfl rfl (fun K hK=>?_) AllReady.nil
     refine wp_store_row 30 _ _ rfl w.heap.size (nr rom kind) rfl rfl _ _ (keep (keep (HKR.out) _) _) HI.out rfl (by simp [Value.oneCell']) ?_
     refine hK _ _ ?_
     clear hK
     refine wpAny_ready (rs:=[8]) (by kernel_rfl) (by simp) ?_
     refine MachP.any_cons rfl rfl (fun K hK=>?_) AllReady.nil
     go_simp
     refine hK _ _ ?_
     clear hK
     refine wpAny_done (by kernel_rfl) ?_ _
     go_wp2
     exact bodyPost_ret (v:=.tuple #[.agg (nr rom kind),.bool true]) (results_two results33 _ _ w.heap.size _ _ (0,0) _ _ rfl rfl (heap_row (keep (keep (HKR.out) _) _)) underlying30 rfl HI.out) rfl ⟨rfl,below_row (((HBV.out |> (grow · _)) |> (grow · _))) (Nat.le_refl _)⟩
  ·have hv:=HV127.out _ _ (HS0.out ob)
   go_simp
   clear hv
   refine hK _ _ ?_
   clear hK
   refine wpAny_ready (rs:=[1,2]) (by kernel_rfl) (by simp) ?_
   refine MachP.any_cons rfl rfl (fun K hK=>?_) (MachP.any_cons rfl rfl (fun K hK=>?_) AllReady.nil)
   ·refine wp_load_row 27 _ rfl w1.heap.size rfl _ _ (0,0) _ (keep (HKC.out) _) underlying27 rfl HC.out ?_
    refine hK _ _ ?_
    clear hK
    refine wpAny_ready (rs:=[2]) (by kernel_rfl) (by simp) ?_
    refine MachP.any_cons rfl rfl (fun K hK=>?_) AllReady.nil
    have hm:=HM256.out
    go_simp
    clear hm
    refine hK _ _ ?_
    clear hK
    refine wpAny_ready (rs:=[3]) (by kernel_rfl) (by simp) ?_
    refine MachP.any_cons rfl rfl (fun K hK=>?_) AllReady.nil
    have hv:=HV256.out _ _ (HS1.out ob oa)
    go_simp
    clear hv
    refine hK _ _ ?_
    clear hK
    refine wpAny_ready (rs:=[6]) (by kernel_rfl) (by simp) ?_
    refine MachP.any_cons rfl rfl (fun K hK=>?_) AllReady.nil
    go_simp
    refine hK _ _ ?_
    clear hK
    refine wpAny_ready (rs:=[7]) (by kernel_rfl) (by simp) ?_
    refine MachP.any_cons rfl rfl (fun K hK=>?_) AllReady.nil
    refine wp_store_row 30 _ _ rfl w.heap.size (nr rom kind) rfl rfl _ _ (keep (keep (HKR.out) _) _) HI.out rfl (by simp [Value.oneCell']) ?_
    refine hK _ _ ?_
    clear hK
    refine wpAny_ready (rs:=[8]) (by kernel_rfl) (by simp) ?_
    refine MachP.any_cons rfl rfl (fun K hK=>?_) AllReady.nil
    go_simp
    refine hK _ _ ?_
    clear hK
    refine wpAny_done (by kernel_rfl) ?_ _
    go_wp2
    exact bodyPost_ret (v:=.tuple #[.agg (nr rom kind),.bool true]) (results_two results33 _ _ w.heap.size _ _ (0,0) _ _ rfl rfl (heap_row (keep (keep (HKR.out) _) _)) underlying30 rfl HI.out) rfl ⟨rfl,below_row (((HBV.out |> (grow · _)) |> (grow · _))) (Nat.le_refl _)⟩
   ·have hm:=HM256.out
    go_simp
    clear hm
    refine hK _ _ ?_
    clear hK
    refine wpAny_ready (rs:=[1,3]) (by kernel_rfl) (by simp) ?_
    refine MachP.any_cons rfl rfl (fun K hK=>?_) (MachP.any_cons rfl rfl (fun K hK=>?_) AllReady.nil)
    ·refine wp_load_row 27 _ rfl w1.heap.size rfl _ _ (0,0) _ (keep (keep (HKC.out) _) _) underlying27 rfl HC.out ?_
     refine hK _ _ ?_
     clear hK
     refine wpAny_ready (rs:=[3]) (by kernel_rfl) (by simp) ?_
     refine MachP.any_cons rfl rfl (fun K hK=>?_) AllReady.nil
     have hv:=HV256.out _ _ (HS1.out ob oa)
     go_simp
     clear hv
     refine hK _ _ ?_
     clear hK
     refine wpAny_ready (rs:=[6]) (by kernel_rfl) (by simp) ?_
     refine MachP.any_cons rfl rfl (fun K hK=>?_) AllReady.nil
     go_simp
     refine hK _ _ ?_
     clear hK
     refine wpAny_ready (rs:=[7]) (by kernel_rfl) (by simp) ?_
     refine MachP.any_cons rfl rfl (fun K hK=>?_) AllReady.nil
     refine wp_store_row 30 _ _ rfl w.heap.size (nr rom kind) rfl rfl _ _ (keep (keep (HKR.out) _) _) HI.out rfl (by simp [Value.oneCell']) ?_
     refine hK _ _ ?_
     clear hK
     refine wpAny_ready (rs:=[8]) (by kernel_rfl) (by simp) ?_
     refine MachP.any_cons rfl rfl (fun K hK=>?_) AllReady.nil
     go_simp
     refine hK _ _ ?_
     clear hK
     refine wpAny_done (by kernel_rfl) ?_ _
     go_wp2
     exact bodyPost_ret (v:=.tuple #[.agg (nr rom kind),.bool true]) (results_two results33 _ _ w.heap.size _ _ (0,0) _ _ rfl rfl (heap_row (keep (keep (HKR.out) _) _)) underlying30 rfl HI.out) rfl ⟨rfl,below_row (((HBV.out |> (grow · _)) |> (grow · _))) (Nat.le_refl _)⟩
    ·have hv:=HV256.out _ _ (HS1.out ob oa)
     go_simp
     clear hv
     refine hK _ _ ?_
     clear hK
     refine wpAny_ready (rs:=[1]) (by kernel_rfl) (by simp) ?_
     refine MachP.any_cons rfl rfl (fun K hK=>?_) AllReady.nil
     refine wp_load_row 27 _ rfl w1.heap.size rfl _ _ (0,0) _ (keep (keep (HKC.out) _) _) underlying27 rfl HC.out ?_
     refine hK _ _ ?_
     clear hK
     refine wpAny_ready (rs:=[6]) (by kernel_rfl) (by simp) ?_
     refine MachP.any_cons rfl rfl (fun K hK=>?_) AllReady.nil
     go_simp
     refine hK _ _ ?_
     clear hK
     refine wpAny_ready (rs:=[7]) (by kernel_rfl) (by simp) ?_
     refine MachP.any_cons rfl rfl (fun K hK=>?_) AllReady.nil
     refine wp_store_row 30 _ _ rfl w.heap.size (nr rom kind) rfl rfl _ _ (keep (keep (HKR.out) _) _) HI.out rfl (by simp [Value.oneCell']) ?_
     refine hK _ _ ?_
     clear hK
     refine wpAny_ready (rs:=[8]) (by kernel_rfl) (by simp) ?_
     refine MachP.any_cons rfl rfl (fun K hK=>?_) AllReady.nil
     go_simp
     refine hK _ _ ?_
     clear hK
     refine wpAny_done (by kernel_rfl) ?_ _
     go_wp2
     exact bodyPost_ret (v:=.tuple #[.agg (nr rom kind),.bool true]) (results_two results33 _ _ w.heap.size _ _ (0,0) _ _ rfl rfl (heap_row (keep (keep (HKR.out) _) _)) underlying30 rfl HI.out) rfl ⟨rfl,below_row (((HBV.out |> (grow · _)) |> (grow · _))) (Nat.le_refl _)⟩
end MachN
end Go.Proofs.YtfpecdgcapfgfaaGreat
