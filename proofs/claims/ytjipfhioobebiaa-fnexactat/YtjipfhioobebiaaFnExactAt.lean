/- For every machine the law FnExactAt answers true, that is, impl.At answers as spec.At does, both fields, and writes into no argument; the argument reads afterwards as it read before; no condition. -/
import Derived.Test.YtjipfhioobebiaaRows
import Derived.WalkKit
import Derived.ProofKit
import Derived.OpenShut
import Derived.ShutString
import Derived.ChangeOld
import Derived.Below
import Derived.Test.YtjipfhioobebiaaMachA
import Derived.Test.YtjipfhioobebiaaMachP
import Derived.Deep.WholeRow
namespace Go.Proofs.Ytjipfhioobebiaa.fnExactAt
open Go.ChangeShapes Go.WideShapes Go.ChangeAt Go.RowKit
open Go.ChangeMaps (open_string shut_string)
set_option linter.unusedVariables false

theorem own : ownKnob Try.prog.godebug = none := by kernel_rfl
theorem laidOut : laidOutB Try.prog = true := by kernel_rfl
theorem eqStop_any (a b : Int) (w : World) : Calls Try.prog 41 #[.agg #[.int .i64 a, .int .i64 b], .agg #[.int .i64 a, .int .i64 b]] w fun e w' => e = .returned (.bool true) ∧ Below w.heap.size w w' := by
  go_enter Try.func41, Try.ntmps41
  go_wp2
  go_ret
  exact ⟨rfl, by repeat (with_reducible first | exact Below.refl _ _ | refine CartL.grow ?_ _ | refine below_drewN ?_ _ | refine Below.drew ?_)⟩

set_option maxHeartbeats 2000000 in
theorem walk (w : World) (ra rf rB rC rD rE rH rL sp pc : Int) (ime hal : Bool) (rom : ByteArray) (kind bank : Int) (ram : ByteArray) (rb : Int) (on : Bool) (mode : Int) (work high : ByteArray) (po : Option Addr) (L : List Int) (cap : Nat) (cyc : Int) (z1 : rom.size ≤ maxLen) (z2 : ram.size ≤ maxLen) (z3 : work.size ≤ maxLen) (z4 : high.size ≤ maxLen) (z5 : L.length ≤ maxLen) (hN : Outs.Row w po L) :
    Calls Try.prog 12 #[.agg #[.int .i64 ra, .int .i64 rf, .int .i64 rB, .int .i64 rC, .int .i64 rD, .int .i64 rE, .int .i64 rH, .int .i64 rL, .int .i64 sp, .int .i64 pc, .bool ime, .bool hal, .string rom, .int .i64 kind, .int .i64 bank, .string ram, .int .i64 rb, .bool on, .int .i64 mode, .string work, .string high, .slice po L.length cap, .int .i64 cyc]] w fun e w' => e = .returned (.bool true) ∧ Below w.heap.size w w' := by
  have cz := fun w => Mach.szMachine_any ra rf rB rC rD rE rH rL sp pc ime hal rom kind bank ram rb on mode work high po L cap cyc w z1 z2 z3 z4 z5
  have H0 : Hid (Outs.Row w po L) := hN
  have hi42 : (Try.prog.info? 42).map (·.size) = some 23 := by kernel_rfl
  have hi47 : (Try.prog.info? 47).map (·.size) = some 23 := by kernel_rfl
  have HI : Hid ((Try.prog.info? 42).map (·.size) = some 23 ∧ (Try.prog.info? 47).map (·.size) = some 23) := ⟨hi42, hi47⟩
  clear hi42 hi47
  have HZ : Hid (rom.size ≤ maxLen ∧ ram.size ≤ maxLen) := ⟨z1, z2⟩
  clear hN z1 z2 z3 z4 z5
  go_enter Try.func12, Try.ntmps12
  go_upto_region 2 with fail
  have k0 : (w.alloc (.cells #[.int .i64 ra, .int .i64 rf, .int .i64 rB, .int .i64 rC, .int .i64 rD, .int .i64 rE, .int .i64 rH, .int .i64 rL, .int .i64 sp, .int .i64 pc, .bool ime, .bool hal, .string rom, .int .i64 kind, .int .i64 bank, .string ram, .int .i64 rb, .bool on, .int .i64 mode, .string work, .string high, .slice po L.length cap, .int .i64 cyc] 42)).heap[w.heap.size]? = some (.cells #[.int .i64 ra, .int .i64 rf, .int .i64 rB, .int .i64 rC, .int .i64 rD, .int .i64 rE, .int .i64 rH, .int .i64 rL, .int .i64 sp, .int .i64 pc, .bool ime, .bool hal, .string rom, .int .i64 kind, .int .i64 bank, .string ram, .int .i64 rb, .bool on, .int .i64 mode, .string work, .string high, .slice po L.length cap, .int .i64 cyc] 42) := heap_alloc_last w _
  have HA : Hid (∀ W', Below (w.alloc (.cells #[.int .i64 ra, .int .i64 rf, .int .i64 rB, .int .i64 rC, .int .i64 rD, .int .i64 rE, .int .i64 rH, .int .i64 rL, .int .i64 sp, .int .i64 pc, .bool ime, .bool hal, .string rom, .int .i64 kind, .int .i64 bank, .string ram, .int .i64 rb, .bool on, .int .i64 mode, .string work, .string high, .slice po L.length cap, .int .i64 cyc] 42)).heap.size (w.alloc (.cells #[.int .i64 ra, .int .i64 rf, .int .i64 rB, .int .i64 rC, .int .i64 rD, .int .i64 rE, .int .i64 rH, .int .i64 rL, .int .i64 sp, .int .i64 pc, .bool ime, .bool hal, .string rom, .int .i64 kind, .int .i64 bank, .string ram, .int .i64 rb, .bool on, .int .i64 mode, .string work, .string high, .slice po L.length cap, .int .i64 cyc] 42)) W' → W'.heap[w.heap.size]? = some (.cells #[.int .i64 ra, .int .i64 rf, .int .i64 rB, .int .i64 rC, .int .i64 rD, .int .i64 rE, .int .i64 rH, .int .i64 rL, .int .i64 sp, .int .i64 pc, .bool ime, .bool hal, .string rom, .int .i64 kind, .int .i64 bank, .string ram, .int .i64 rb, .bool on, .int .i64 mode, .string work, .string high, .slice po L.length cap, .int .i64 cyc] 42)) := fun W' h => by
    rw [h.block _ (by simp)]
    exact k0
  refine wp_region_list ?_
  refine wpList_load_row rfl 42 _ rfl w.heap.size rfl _ _ (0, 0) _ k0 Try.underlying42 rfl HI.out.1 ?_
  clear k0
  go_wp2_with fail
  refine (cz _).mono ?_
  rintro e w1 ⟨⟨q, rfl, q0, q1, hq⟩, o1, o2, hw1⟩
  clear cz
  have hb1 : Below (w.alloc (.cells #[.int .i64 ra, .int .i64 rf, .int .i64 rB, .int .i64 rC, .int .i64 rD, .int .i64 rE, .int .i64 rH, .int .i64 rL, .int .i64 sp, .int .i64 pc, .bool ime, .bool hal, .string rom, .int .i64 kind, .int .i64 bank, .string ram, .int .i64 rb, .bool on, .int .i64 mode, .string work, .string high, .slice po L.length cap, .int .i64 cyc] 42)).heap.size (w.alloc (.cells #[.int .i64 ra, .int .i64 rf, .int .i64 rB, .int .i64 rC, .int .i64 rD, .int .i64 rE, .int .i64 rH, .int .i64 rL, .int .i64 sp, .int .i64 pc, .bool ime, .bool hal, .string rom, .int .i64 kind, .int .i64 bank, .string ram, .int .i64 rb, .bool on, .int .i64 mode, .string work, .string high, .slice po L.length cap, .int .i64 cyc] 42)) w1 := by
    rw [hw1]
    exact (by repeat (with_reducible first | exact Below.refl _ _ | refine CartL.grow ?_ _ | refine below_drewN ?_ _ | refine Below.drew ?_))
  have HB1 : Hid (Below (w.alloc (.cells #[.int .i64 ra, .int .i64 rf, .int .i64 rB, .int .i64 rC, .int .i64 rD, .int .i64 rE, .int .i64 rH, .int .i64 rL, .int .i64 sp, .int .i64 pc, .bool ime, .bool hal, .string rom, .int .i64 kind, .int .i64 bank, .string ram, .int .i64 rb, .bool on, .int .i64 mode, .string work, .string high, .slice po L.length cap, .int .i64 cyc] 42)).heap.size (w.alloc (.cells #[.int .i64 ra, .int .i64 rf, .int .i64 rB, .int .i64 rC, .int .i64 rD, .int .i64 rE, .int .i64 rH, .int .i64 rL, .int .i64 sp, .int .i64 pc, .bool ime, .bool hal, .string rom, .int .i64 kind, .int .i64 bank, .string ram, .int .i64 rb, .bool on, .int .i64 mode, .string work, .string high, .slice po L.length cap, .int .i64 cyc] 42)) w1) := hb1
  clear hb1
  clear hw1
  by_cases hneg : q < 0
  · go_wp2
    go_ret
    exact ⟨rfl, CartL.after ((Below.refl _ _).alloc (Nat.le_refl _) _) HB1.out⟩
  obtain ⟨s1, s2, s3, s4, s5⟩ := hq (by omega)
  clear hq q1
  obtain ⟨ba, hbE⟩ : ∃ b, ∀ (p : Option Addr) (c : Nat), MachA.bankA (MachA.okA ra rf rB rC rD rE rH rL sp pc ime hal rom kind bank ram rb on mode work high p L c cyc) pc bank (Carts.banks rom.size) = b := ⟨MachA.bankA (MachA.okA ra rf rB rC rD rE rH rL sp pc ime hal rom kind bank ram rb on mode work high none L 0 cyc) pc bank (Carts.banks rom.size), fun _ _ => rfl⟩
  obtain ⟨aa, haE⟩ : ∃ b, ∀ (p : Option Addr) (c : Nat), MachA.addrA (MachA.okA ra rf rB rC rD rE rH rL sp pc ime hal rom kind bank ram rb on mode work high p L c cyc) pc = b := ⟨MachA.addrA (MachA.okA ra rf rB rC rD rE rH rL sp pc ime hal rom kind bank ram rb on mode work high none L 0 cyc) pc, fun _ _ => rfl⟩
  have cs := fun (p : Option Addr) (c : Nat) (W : World) (h : Outs.Row W p L) => MachA.specA_any ra rf rB rC rD rE rH rL sp pc ime hal rom kind bank ram rb on mode work high p L c cyc W HZ.out.1 HZ.out.2 s3 s4 h s5
  have ci := fun (p : Option Addr) (c : Nat) (W : World) (h : Outs.Row W p L) => MachA.implA_any ra rf rB rC rD rE rH rL sp pc ime hal rom kind bank ram rb on mode work high p L c cyc W HZ.out.1 HZ.out.2 s3 s4 h s5
  have ct := fun (W : World) (h : Outs.Row W po L) => MachT.toMachine_any ra rf rB rC rD rE rH rL sp pc ime hal rom kind bank ram rb on mode work high po L cap cyc W h s5
  have ce := fun (p p' : Option Addr) (c c' : Nat) (W : World) (h : Outs.Row W p L) (h' : Outs.Row W p' L) => MachT.eqMachine_any ra rf rB rC rD rE rH rL sp pc ime hal rom kind bank ram rb on mode work high p L c cyc p' c' W h h' s5
  simp only [hbE, haE] at cs ci
  have HR1 : Hid (∀ W', Below (w.alloc (.cells #[.int .i64 ra, .int .i64 rf, .int .i64 rB, .int .i64 rC, .int .i64 rD, .int .i64 rE, .int .i64 rH, .int .i64 rL, .int .i64 sp, .int .i64 pc, .bool ime, .bool hal, .string rom, .int .i64 kind, .int .i64 bank, .string ram, .int .i64 rb, .bool on, .int .i64 mode, .string work, .string high, .slice po L.length cap, .int .i64 cyc] 42)).heap.size (w.alloc (.cells #[.int .i64 ra, .int .i64 rf, .int .i64 rB, .int .i64 rC, .int .i64 rD, .int .i64 rE, .int .i64 rH, .int .i64 rL, .int .i64 sp, .int .i64 pc, .bool ime, .bool hal, .string rom, .int .i64 kind, .int .i64 bank, .string ram, .int .i64 rb, .bool on, .int .i64 mode, .string work, .string high, .slice po L.length cap, .int .i64 cyc] 42)) W' → Outs.Row W' po L) := fun W' h => Outs.Row.below H0.out (CartL.after ((Below.refl _ _).alloc (Nat.le_refl _) _) h)
  clear hbE haE s1 s2 s3 s4 s5 HZ
  go_upto_region 5 with fail
  refine wp_region_list ?_
  refine wpList_load_row rfl 42 _ rfl w.heap.size rfl _ _ (0, 0) _ (HA.out _ HB1.out) Try.underlying42 rfl HI.out.1 ?_
  go_wp2_with fail
  refine Calls.mono (ct _ (HR1.out _ HB1.out)) ?_
  rintro e w2 ⟨rfl, hR2, hb2⟩
  have HB2 : Hid (Below (w.alloc (.cells #[.int .i64 ra, .int .i64 rf, .int .i64 rB, .int .i64 rC, .int .i64 rD, .int .i64 rE, .int .i64 rH, .int .i64 rL, .int .i64 sp, .int .i64 pc, .bool ime, .bool hal, .string rom, .int .i64 kind, .int .i64 bank, .string ram, .int .i64 rb, .bool on, .int .i64 mode, .string work, .string high, .slice po L.length cap, .int .i64 cyc] 42)).heap.size (w.alloc (.cells #[.int .i64 ra, .int .i64 rf, .int .i64 rB, .int .i64 rC, .int .i64 rD, .int .i64 rE, .int .i64 rH, .int .i64 rL, .int .i64 sp, .int .i64 pc, .bool ime, .bool hal, .string rom, .int .i64 kind, .int .i64 bank, .string ram, .int .i64 rb, .bool on, .int .i64 mode, .string work, .string high, .slice po L.length cap, .int .i64 cyc] 42)) w2) := CartL.after HB1.out hb2
  generalize (some ⟨w1.heap.size + 1 + 1 + 1 + 1 + 1 + 1 + 1 + 1 + 1, 0, none⟩ : Option Addr) = p2 at hR2 ⊢
  clear hb2 HB1
  go_wp2_with fail
  refine Calls.mono (cs _ _ _ hR2) ?_
  rintro e w3 ⟨rfl, hb3⟩
  have HB3 : Hid (Below (w.alloc (.cells #[.int .i64 ra, .int .i64 rf, .int .i64 rB, .int .i64 rC, .int .i64 rD, .int .i64 rE, .int .i64 rH, .int .i64 rL, .int .i64 sp, .int .i64 pc, .bool ime, .bool hal, .string rom, .int .i64 kind, .int .i64 bank, .string ram, .int .i64 rb, .bool on, .int .i64 mode, .string work, .string high, .slice po L.length cap, .int .i64 cyc] 42)).heap.size (w.alloc (.cells #[.int .i64 ra, .int .i64 rf, .int .i64 rB, .int .i64 rC, .int .i64 rD, .int .i64 rE, .int .i64 rH, .int .i64 rL, .int .i64 sp, .int .i64 pc, .bool ime, .bool hal, .string rom, .int .i64 kind, .int .i64 bank, .string ram, .int .i64 rb, .bool on, .int .i64 mode, .string work, .string high, .slice po L.length cap, .int .i64 cyc] 42)) w3) := CartL.after HB2.out hb3
  clear hb3 hR2 HB2 cs
  obtain ⟨u3, hu3⟩ : ∃ u, u = w3.alloc (.cells #[.int .i64 ba, .int .i64 aa] 59) := ⟨_, rfl⟩
  obtain ⟨sb, hsb⟩ : ∃ sb, sb = w3.heap.size := ⟨_, rfl⟩
  have HBu : Hid (Below (w.alloc (.cells #[.int .i64 ra, .int .i64 rf, .int .i64 rB, .int .i64 rC, .int .i64 rD, .int .i64 rE, .int .i64 rH, .int .i64 rL, .int .i64 sp, .int .i64 pc, .bool ime, .bool hal, .string rom, .int .i64 kind, .int .i64 bank, .string ram, .int .i64 rb, .bool on, .int .i64 mode, .string work, .string high, .slice po L.length cap, .int .i64 cyc] 42)).heap.size (w.alloc (.cells #[.int .i64 ra, .int .i64 rf, .int .i64 rB, .int .i64 rC, .int .i64 rD, .int .i64 rE, .int .i64 rH, .int .i64 rL, .int .i64 sp, .int .i64 pc, .bool ime, .bool hal, .string rom, .int .i64 kind, .int .i64 bank, .string ram, .int .i64 rb, .bool on, .int .i64 mode, .string work, .string high, .slice po L.length cap, .int .i64 cyc] 42)) u3) := by rw [hu3]; exact CartL.grow HB3.out _
  have HS3 : Hid (∀ W', Below u3.heap.size u3 W' → W'.heap[sb]? = some (.cells #[.int .i64 ba, .int .i64 aa] 59)) := fun W' h => by
    rw [h.block _ (by rw [hu3, hsb]; simp), hu3, hsb]; exact heap_alloc_last w3 _
  go_upto_region 6 with fail
  rw [← hu3, ← hsb]
  clear hu3 hsb HB3
  refine wp_region_list ?_
  refine wpList_load_row rfl 42 _ rfl w.heap.size rfl _ _ (0, 0) _ (HA.out _ HBu.out) Try.underlying42 rfl HI.out.1 ?_
  go_wp2_with fail
  refine Calls.mono (ct _ (HR1.out _ HBu.out)) ?_
  rintro e w4 ⟨rfl, hR4, hb4⟩
  have HB4 : Hid (Below (w.alloc (.cells #[.int .i64 ra, .int .i64 rf, .int .i64 rB, .int .i64 rC, .int .i64 rD, .int .i64 rE, .int .i64 rH, .int .i64 rL, .int .i64 sp, .int .i64 pc, .bool ime, .bool hal, .string rom, .int .i64 kind, .int .i64 bank, .string ram, .int .i64 rb, .bool on, .int .i64 mode, .string work, .string high, .slice po L.length cap, .int .i64 cyc] 42)).heap.size (w.alloc (.cells #[.int .i64 ra, .int .i64 rf, .int .i64 rB, .int .i64 rC, .int .i64 rD, .int .i64 rE, .int .i64 rH, .int .i64 rL, .int .i64 sp, .int .i64 pc, .bool ime, .bool hal, .string rom, .int .i64 kind, .int .i64 bank, .string ram, .int .i64 rb, .bool on, .int .i64 mode, .string work, .string high, .slice po L.length cap, .int .i64 cyc] 42)) w4) := CartL.after HBu.out hb4
  generalize (some ⟨u3.heap.size + 1 + 1 + 1 + 1 + 1 + 1 + 1 + 1 + 1, 0, none⟩ : Option Addr) = p4 at hR4 ⊢
  have KB4 : Hid (Below u3.heap.size u3 w4) := hb4
  clear hb4 HBu
  rename_i hK
  refine hK _ _ ?_
  clear hK
  refine wpList_plain rfl (fun K hK => ?_)
  go_simp
  refine hK _ _ ?_
  clear hK
  refine wpList_store_row rfl 47 _ _ rfl w4.heap.size #[.int .i64 ra, .int .i64 rf, .int .i64 rB, .int .i64 rC, .int .i64 rD, .int .i64 rE, .int .i64 rH, .int .i64 rL, .int .i64 sp, .int .i64 pc, .bool ime, .bool hal, .string rom, .int .i64 kind, .int .i64 bank, .string ram, .int .i64 rb, .bool on, .int .i64 mode, .string work, .string high, .slice p4 L.length L.length, .int .i64 cyc] rfl rfl _ _ (heap_alloc_last w4 _) HI.out.2 rfl (by simp [Value.oneCell']) ?_
  rw [World.setRow_alloc_new]
  refine wpList_nil ?_
  go_upto_region 7 with fail
  refine wp_region_list ?_
  refine wpList_load_row rfl 47 _ rfl w4.heap.size rfl _ _ (0, 0) _ (heap_alloc_last w4 _) Try.underlying47 rfl HI.out.2 ?_
  go_wp2_with fail
  refine Calls.mono (ci _ _ _ (Outs.Row.below hR4 ((Below.refl _ _).alloc (Nat.le_refl _) _))) ?_
  rintro e w5a ⟨rfl, hb5a⟩
  have S4 : Hid (Below u3.heap.size u3 w5a) := CartL.after (CartL.grow KB4.out _) hb5a
  obtain ⟨u5, hu5⟩ : ∃ u, u = w5a.alloc (.cells #[.int .i64 ba, .int .i64 aa] 59) := ⟨_, rfl⟩
  obtain ⟨tb, htb⟩ : ∃ tb, tb = w5a.heap.size := ⟨_, rfl⟩
  have HT5 : u5.heap[tb]? = some (.cells #[.int .i64 ba, .int .i64 aa] 59) := by rw [hu5, htb]; exact heap_alloc_last w5a _
  have HS5 : u5.heap[sb]? = some (.cells #[.int .i64 ba, .int .i64 aa] 59) := HS3.out _ (by rw [hu5]; exact CartL.grow S4.out _)
  have q0 := MachT.cel HT5 0 _ rfl
  have q1 := MachT.cel HT5 1 _ rfl
  have q2 := MachT.cel HS5 0 _ rfl
  have q3 := MachT.cel HS5 1 _ rfl
  have hbu : Below (w4.alloc (.cells #[.int .i64 ra, .int .i64 rf, .int .i64 rB, .int .i64 rC, .int .i64 rD, .int .i64 rE, .int .i64 rH, .int .i64 rL, .int .i64 sp, .int .i64 pc, .bool ime, .bool hal, .string rom, .int .i64 kind, .int .i64 bank, .string ram, .int .i64 rb, .bool on, .int .i64 mode, .string work, .string high, .slice p4 L.length L.length, .int .i64 cyc] 47)).heap.size (w4.alloc (.cells #[.int .i64 ra, .int .i64 rf, .int .i64 rB, .int .i64 rC, .int .i64 rD, .int .i64 rE, .int .i64 rH, .int .i64 rL, .int .i64 sp, .int .i64 pc, .bool ime, .bool hal, .string rom, .int .i64 kind, .int .i64 bank, .string ram, .int .i64 rb, .bool on, .int .i64 mode, .string work, .string high, .slice p4 L.length L.length, .int .i64 cyc] 47)) u5 := by rw [hu5]; exact CartL.grow hb5a _
  have HBU : Hid (Below (w4.alloc (.cells #[.int .i64 ra, .int .i64 rf, .int .i64 rB, .int .i64 rC, .int .i64 rD, .int .i64 rE, .int .i64 rH, .int .i64 rL, .int .i64 sp, .int .i64 pc, .bool ime, .bool hal, .string rom, .int .i64 kind, .int .i64 bank, .string ram, .int .i64 rb, .bool on, .int .i64 mode, .string work, .string high, .slice p4 L.length L.length, .int .i64 cyc] 47)).heap.size (w4.alloc (.cells #[.int .i64 ra, .int .i64 rf, .int .i64 rB, .int .i64 rC, .int .i64 rD, .int .i64 rE, .int .i64 rH, .int .i64 rL, .int .i64 sp, .int .i64 pc, .bool ime, .bool hal, .string rom, .int .i64 kind, .int .i64 bank, .string ram, .int .i64 rb, .bool on, .int .i64 mode, .string work, .string high, .slice p4 L.length L.length, .int .i64 cyc] 47)) u5) := hbu
  go_upto_region 8 with fail
  rw [← hu5, ← htb]
  clear hu5 htb HT5 HS5 hb5a hbu S4 HS3
  go_wp2_with fail
  refine (eqStop_any ba aa _).mono ?_
  rintro e w5 ⟨rfl, hb5b⟩
  have hb5 : Below (w4.alloc (.cells #[.int .i64 ra, .int .i64 rf, .int .i64 rB, .int .i64 rC, .int .i64 rD, .int .i64 rE, .int .i64 rH, .int .i64 rL, .int .i64 sp, .int .i64 pc, .bool ime, .bool hal, .string rom, .int .i64 kind, .int .i64 bank, .string ram, .int .i64 rb, .bool on, .int .i64 mode, .string work, .string high, .slice p4 L.length L.length, .int .i64 cyc] 47)).heap.size (w4.alloc (.cells #[.int .i64 ra, .int .i64 rf, .int .i64 rB, .int .i64 rC, .int .i64 rD, .int .i64 rE, .int .i64 rH, .int .i64 rL, .int .i64 sp, .int .i64 pc, .bool ime, .bool hal, .string rom, .int .i64 kind, .int .i64 bank, .string ram, .int .i64 rb, .bool on, .int .i64 mode, .string work, .string high, .slice p4 L.length L.length, .int .i64 cyc] 47)) w5 := CartL.after HBU.out hb5b
  clear hb5b q0 q1 q2 q3 HBU
  have HB5 : Hid (Below (w.alloc (.cells #[.int .i64 ra, .int .i64 rf, .int .i64 rB, .int .i64 rC, .int .i64 rD, .int .i64 rE, .int .i64 rH, .int .i64 rL, .int .i64 sp, .int .i64 pc, .bool ime, .bool hal, .string rom, .int .i64 kind, .int .i64 bank, .string ram, .int .i64 rb, .bool on, .int .i64 mode, .string work, .string high, .slice po L.length cap, .int .i64 cyc] 42)).heap.size (w.alloc (.cells #[.int .i64 ra, .int .i64 rf, .int .i64 rB, .int .i64 rC, .int .i64 rD, .int .i64 rE, .int .i64 rH, .int .i64 rL, .int .i64 sp, .int .i64 pc, .bool ime, .bool hal, .string rom, .int .i64 kind, .int .i64 bank, .string ram, .int .i64 rb, .bool on, .int .i64 mode, .string work, .string high, .slice po L.length cap, .int .i64 cyc] 42)) w5) := CartL.after (CartL.grow HB4.out _) hb5
  have HX : Hid (∀ W', Below w5.heap.size w5 W' → W'.heap[w4.heap.size]? = some (.cells #[.int .i64 ra, .int .i64 rf, .int .i64 rB, .int .i64 rC, .int .i64 rD, .int .i64 rE, .int .i64 rH, .int .i64 rL, .int .i64 sp, .int .i64 pc, .bool ime, .bool hal, .string rom, .int .i64 kind, .int .i64 bank, .string ram, .int .i64 rb, .bool on, .int .i64 mode, .string work, .string high, .slice p4 L.length L.length, .int .i64 cyc] 47)) := fun W' h => by
    rw [h.block _ (Nat.lt_of_lt_of_le (by simp) hb5.size), hb5.block _ (by simp)]
    exact heap_alloc_last w4 _
  have HR5 : Hid (∀ W', Below w5.heap.size w5 W' → Outs.Row W' p4 L) := fun W' h => Outs.Row.below (Outs.Row.below (Outs.Row.below hR4 ((Below.refl _ _).alloc (Nat.le_refl _) _)) hb5) h
  clear hb5 hR4 HB4 ci
  go_upto_region 10 with fail
  have HD : Hid (Below w5.heap.size w5 w5.drew) := (Below.refl _ _).drew
  have HD5 : Hid (Below (w.alloc (.cells #[.int .i64 ra, .int .i64 rf, .int .i64 rB, .int .i64 rC, .int .i64 rD, .int .i64 rE, .int .i64 rH, .int .i64 rL, .int .i64 sp, .int .i64 pc, .bool ime, .bool hal, .string rom, .int .i64 kind, .int .i64 bank, .string ram, .int .i64 rb, .bool on, .int .i64 mode, .string work, .string high, .slice po L.length cap, .int .i64 cyc] 42)).heap.size (w.alloc (.cells #[.int .i64 ra, .int .i64 rf, .int .i64 rB, .int .i64 rC, .int .i64 rD, .int .i64 rE, .int .i64 rH, .int .i64 rL, .int .i64 sp, .int .i64 pc, .bool ime, .bool hal, .string rom, .int .i64 kind, .int .i64 bank, .string ram, .int .i64 rb, .bool on, .int .i64 mode, .string work, .string high, .slice po L.length cap, .int .i64 cyc] 42)) w5.drew) := HB5.out.drew
  refine wp_region_any (by kernel_rfl) ?_
  try (change wpAny _ _ _ _ _ _ _ (World.drew _))
  refine wpAny_ready (rs := [0, 1]) (by kernel_rfl) (by simp) ?_
  refine MachP.any_cons rfl rfl (fun K hK => ?_) (MachP.any_cons rfl rfl (fun K hK => ?_) AllReady.nil)
  · refine wp_load_row 47 _ rfl w4.heap.size rfl _ _ (0, 0) _ (HX.out _ HD.out) Try.underlying47 rfl HI.out.2 ?_
    refine hK _ _ ?_
    clear hK
    refine wpAny_ready (rs := [1]) (by kernel_rfl) (by simp) ?_
    refine MachP.any_cons rfl rfl (fun K hK => ?_) AllReady.nil
    refine wp_load_row 42 _ rfl w.heap.size rfl _ _ (0, 0) _ (HA.out _ HD5.out) Try.underlying42 rfl HI.out.1 ?_
    refine hK _ _ ?_
    clear hK
    refine wpAny_ready (rs := [2]) (by kernel_rfl) (by simp) ?_
    refine MachP.any_cons rfl rfl (fun K hK => ?_) AllReady.nil
    go_wp2_with fail
    refine Calls.mono (ct _ (HR1.out _ HD5.out)) ?_
    rintro e w6 ⟨rfl, hR6, hb6⟩
    have HB6 : Hid (Below w5.heap.size w5 w6) := HD.out.trans (hb6.mono HD.out.size)
    generalize (some ⟨w5.drew.heap.size + 1 + 1 + 1 + 1 + 1 + 1 + 1 + 1 + 1, 0, none⟩ : Option Addr) = p6 at hR6 ⊢
    clear hb6
    refine hK _ _ ?_
    clear hK
    refine wpAny_ready (rs := [3]) (by kernel_rfl) (by simp) ?_
    refine MachP.any_cons rfl rfl (fun K hK => ?_) AllReady.nil
    go_wp2_with fail
    refine Calls.mono (ce _ _ _ _ _ (HR5.out _ HB6.out) hR6) ?_
    rintro e w7 ⟨rfl, o3, o4, o5, o6, o7, o8, n, hw7⟩
    have hb7 : Below w6.heap.size w6 w7 := by
      rw [hw7]
      exact (by repeat (with_reducible first | exact Below.refl _ _ | refine CartL.grow ?_ _ | refine below_drewN ?_ _ | refine Below.drew ?_))
    have HB7 : Hid (Below w.heap.size w w7) := CartL.after (CartL.after ((Below.refl _ _).alloc (Nat.le_refl _) _) HB5.out) (CartL.after HB6.out hb7)
    clear hb7 hw7 hR6 HB6
    refine hK _ _ ?_
    clear hK
    refine wpAny_ready (rs := [4]) (by kernel_rfl) (by simp) ?_
    refine MachP.any_cons rfl rfl (fun K hK => ?_) AllReady.nil
    go_simp
    refine hK _ _ ?_
    clear hK
    refine wpAny_done (by kernel_rfl) ?_ _
    go_wp2
    go_ret
    exact ⟨rfl, HB7.out⟩
  · refine wp_load_row 42 _ rfl w.heap.size rfl _ _ (0, 0) _ (HA.out _ HD5.out) Try.underlying42 rfl HI.out.1 ?_
    refine hK _ _ ?_
    clear hK
    refine wpAny_ready (rs := [0, 2]) (by kernel_rfl) (by simp) ?_
    refine MachP.any_cons rfl rfl (fun K hK => ?_) (MachP.any_cons rfl rfl (fun K hK => ?_) AllReady.nil)
    · refine wp_load_row 47 _ rfl w4.heap.size rfl _ _ (0, 0) _ (HX.out _ HD.out) Try.underlying47 rfl HI.out.2 ?_
      refine hK _ _ ?_
      clear hK
      refine wpAny_ready (rs := [2]) (by kernel_rfl) (by simp) ?_
      refine MachP.any_cons rfl rfl (fun K hK => ?_) AllReady.nil
      go_wp2_with fail
      refine Calls.mono (ct _ (HR1.out _ HD5.out)) ?_
      rintro e w6 ⟨rfl, hR6, hb6⟩
      have HB6 : Hid (Below w5.heap.size w5 w6) := HD.out.trans (hb6.mono HD.out.size)
      generalize (some ⟨w5.drew.heap.size + 1 + 1 + 1 + 1 + 1 + 1 + 1 + 1 + 1, 0, none⟩ : Option Addr) = p6 at hR6 ⊢
      clear hb6
      refine hK _ _ ?_
      clear hK
      refine wpAny_ready (rs := [3]) (by kernel_rfl) (by simp) ?_
      refine MachP.any_cons rfl rfl (fun K hK => ?_) AllReady.nil
      go_wp2_with fail
      refine Calls.mono (ce _ _ _ _ _ (HR5.out _ HB6.out) hR6) ?_
      rintro e w7 ⟨rfl, o3, o4, o5, o6, o7, o8, n, hw7⟩
      have hb7 : Below w6.heap.size w6 w7 := by
        rw [hw7]
        exact (by repeat (with_reducible first | exact Below.refl _ _ | refine CartL.grow ?_ _ | refine below_drewN ?_ _ | refine Below.drew ?_))
      have HB7 : Hid (Below w.heap.size w w7) := CartL.after (CartL.after ((Below.refl _ _).alloc (Nat.le_refl _) _) HB5.out) (CartL.after HB6.out hb7)
      clear hb7 hw7 hR6 HB6
      refine hK _ _ ?_
      clear hK
      refine wpAny_ready (rs := [4]) (by kernel_rfl) (by simp) ?_
      refine MachP.any_cons rfl rfl (fun K hK => ?_) AllReady.nil
      go_simp
      refine hK _ _ ?_
      clear hK
      refine wpAny_done (by kernel_rfl) ?_ _
      go_wp2
      go_ret
      exact ⟨rfl, HB7.out⟩
    · go_wp2_with fail
      refine Calls.mono (ct _ (HR1.out _ HD5.out)) ?_
      rintro e w6 ⟨rfl, hR6, hb6⟩
      have HB6 : Hid (Below w5.heap.size w5 w6) := HD.out.trans (hb6.mono HD.out.size)
      generalize (some ⟨w5.drew.heap.size + 1 + 1 + 1 + 1 + 1 + 1 + 1 + 1 + 1, 0, none⟩ : Option Addr) = p6 at hR6 ⊢
      clear hb6
      refine hK _ _ ?_
      clear hK
      refine wpAny_ready (rs := [0]) (by kernel_rfl) (by simp) ?_
      refine MachP.any_cons rfl rfl (fun K hK => ?_) AllReady.nil
      refine wp_load_row 47 _ rfl w4.heap.size rfl _ _ (0, 0) _ (HX.out _ HB6.out) Try.underlying47 rfl HI.out.2 ?_
      refine hK _ _ ?_
      clear hK
      refine wpAny_ready (rs := [3]) (by kernel_rfl) (by simp) ?_
      refine MachP.any_cons rfl rfl (fun K hK => ?_) AllReady.nil
      go_wp2_with fail
      refine Calls.mono (ce _ _ _ _ _ (HR5.out _ HB6.out) hR6) ?_
      rintro e w7 ⟨rfl, o3, o4, o5, o6, o7, o8, n, hw7⟩
      have hb7 : Below w6.heap.size w6 w7 := by
        rw [hw7]
        exact (by repeat (with_reducible first | exact Below.refl _ _ | refine CartL.grow ?_ _ | refine below_drewN ?_ _ | refine Below.drew ?_))
      have HB7 : Hid (Below w.heap.size w w7) := CartL.after (CartL.after ((Below.refl _ _).alloc (Nat.le_refl _) _) HB5.out) (CartL.after HB6.out hb7)
      clear hb7 hw7 hR6 HB6
      refine hK _ _ ?_
      clear hK
      refine wpAny_ready (rs := [4]) (by kernel_rfl) (by simp) ?_
      refine MachP.any_cons rfl rfl (fun K hK => ?_) AllReady.nil
      go_simp
      refine hK _ _ ?_
      clear hK
      refine wpAny_done (by kernel_rfl) ?_ _
      go_wp2
      go_ret
      exact ⟨rfl, HB7.out⟩

set_option maxRecDepth 100000 in
theorem lifted (os : Os) (started : os.Started) (H : Type) (enc : TypeId × Value → H) :
    ReturnsInHanded {} Try.checked os 12 .any (Rows.fnExactAtSpec.pre6 enc Try.prog Try.f12 Rows.fnExactAtRow.domain false) (Rows.fnExactAtSpec.post enc Try.prog Try.f12 false true false false) := by
  refine returnsInHanded_of_change (C := Try.checked) own started (by kernel_rfl) Try.func12
    (ChangeSpec.witness6 (enc := enc) (C := Try.checked) false ⟨#[], #[.agg #[.int .i64 0, .int .i64 0, .int .i64 0, .int .i64 0, .int .i64 0, .int .i64 0, .int .i64 0, .int .i64 0, .int .i64 0, .int .i64 0, .bool false, .bool false, .string ByteArray.empty, .int .i64 0, .int .i64 0, .string ByteArray.empty, .int .i64 0, .bool false, .int .i64 0, .string ByteArray.empty, .string ByteArray.empty, .slice none 0 0, .int .i64 0]], []⟩ 8 (by kernel_rfl) (by kernel_rfl) (by kernel_rfl) (by kernel_rfl)) ?_
  intro W base args ds gs before hval0 hW hcnd _
  have hval : ∀ (j : Nat) t v, Try.f12.params[j]? = some t → args[j]? = some v → Value.okWide Try.prog W .any base t v := hval0
  have hW' := hW
  obtain ⟨p, q, hA0, hV, rfl, hfz, hnd⟩ := hW
  have hA : DataW.TrodAll enc Try.prog W 0 (fun _ => true) true Try.f12.params.toList args.toList ds p := hA0
  rw [Try.params12] at hA hval
  obtain ⟨v0, vs0, d0, ds0, p0, q0, hargs, rfl, rfl, h0, r0⟩ := trodAll_cons hA
  obtain ⟨rfl, rfl, rfl⟩ := trodAll_nil r0
  obtain rfl : args = #[v0] := by cases args; simp_all
  obtain ⟨rfl, rfl⟩ := trodVars_none hV
  obtain ⟨cs0, rfl, _⟩ := okWide_struct Try.underlying42 (hval 0 42 v0 rfl rfl)
  have kk0 := h0
  have lt0 : ∀ x ∈ p0, x.block < W.heap.size := by obtain ⟨m, hm⟩ := kk0; exact DataW.trod_lt m _ _ _ hm
  obtain ⟨ra, rf, rB, rC, rD, rE, rH, rL, sp, pc, ime, hal, rom, kind, bank, ram, rb, on, mode, work, high, po, L, cap, cyc, e0, z1, z2, z3, z4, z5, hN⟩ : ∃ (ra rf rB rC rD rE rH rL sp pc : Int) (ime hal : Bool) (rom : ByteArray) (kind bank : Int) (ram : ByteArray) (rb : Int) (on : Bool) (mode : Int) (work high : ByteArray) (po : Option Addr) (L : List Int) (cap : Nat) (cyc : Int), cs0 = #[.int .i64 ra, .int .i64 rf, .int .i64 rB, .int .i64 rC, .int .i64 rD, .int .i64 rE, .int .i64 rH, .int .i64 rL, .int .i64 sp, .int .i64 pc, .bool ime, .bool hal, .string rom, .int .i64 kind, .int .i64 bank, .string ram, .int .i64 rb, .bool on, .int .i64 mode, .string work, .string high, .slice po L.length cap, .int .i64 cyc] ∧ rom.size ≤ maxLen ∧ ram.size ≤ maxLen ∧ work.size ≤ maxLen ∧ high.size ≤ maxLen ∧ L.length ≤ maxLen ∧ Outs.Row W po L := by
    obtain ⟨fuel, hf⟩ := h0
    obtain ⟨ra, rf, rB, rC, rD, rE, rH, rL, sp, pc, ime, hal, rom, kind, bank, ram, rb, on, mode, work, high, po, L, cap, cyc, hcs, q1, q2, q3, q4, q5, q6⟩ := MachP.machine_of hf
    simp [Value.cells] at hcs
    exact ⟨ra, rf, rB, rC, rD, rE, rH, rL, sp, pc, ime, hal, rom, kind, bank, ram, rb, on, mode, work, high, po, L, cap, cyc, by cases cs0; simp_all, q1, q2, q3, q4, q5, q6⟩
  subst e0
  clear hA0 hval0
  refine (walk W ra rf rB rC rD rE rH rL sp pc ime hal rom kind bank ram rb on mode work high po L cap cyc z1 z2 z3 z4 z5 hN).mono fun e W' ⟨he, bel⟩ => ?_
  subst he
  exact ⟨_, rfl, _, _, _, [], _, [], hW', trodAll_mk1 (shut_bool Try.underlying4 _), (trodAll_cons_mk (Below.trod laidOut (by kernel_rfl) (of_decide_eq_true (by kernel_rfl)) kk0 bel lt0) trodAll_mk0), rfl, bel.frame _, fun h => by cases h⟩

theorem over : Rows.fnExactAtRow.holds Try.pinned (OpenSpec.ofChange Rows.fnExactAtSpec) :=
  OpenClaim.holds_of_wide 12 Try.f12 rfl rfl rfl rfl rfl rfl rfl ⟨rfl, rfl, rfl, rfl, rfl⟩ rfl rfl rfl rfl rfl (by kernel_rfl) Try.func12 (by kernel_rfl)
    (of_decide_eq_true (by kernel_rfl)) (by unfold Func.isWrapper; first | (rw [if_pos (by decide +kernel)]; kernel_rfl) | (rw [if_neg (by decide +kernel)]; exact ⟨rfl, rfl⟩))
    (fun os started H enc _ => lifted os started H enc)
end Go.Proofs.Ytjipfhioobebiaa.fnExactAt
namespace Go.Proofs.Ytjipfhioobebiaa
theorem fnExactAt_holds : Rows.FnExactAtSaid := fnExactAt.over
end Go.Proofs.Ytjipfhioobebiaa
