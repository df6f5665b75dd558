/-
  What the draws of carts can answer (chapter 5): some cart, its texts not too long; and nothing old is written.
-/
import Derived.Test.YtllpkidfldmbnaaCartZ
import Derived.Deep.Cut
namespace Go.Proofs.Ytllpkidfldmbnaa.CartD
open Go.ChangeShapes Go.WideShapes Go.ChangeAt Go.RowKit Go.Deep
open Rdr (Rd Post)
open DrawI (postB postSet)
open Carts CartK CartL CartM CartN CartS CartZ
set_option linter.unusedVariables false
set_option maxRecDepth 20000

theorem any_cons {P : Program} {ops : Array Oper} {Q : Exit → Act → World → Prop} {md : Region.Mode} {fuel : Nat} {listed : Array Bool} {a : Act} {w : World} {i : Nat} {o : Oper} {rs : List Nat} (ho : ops[i]? = some o) (hg : Region.wanted o (yielded ops a.tmps) = true)
    (h : ∀ K' : Act → World → Prop, (∀ a w, wpAny P md ops Q fuel (listed.setIfInBounds i true) a w → K' a w) → Oper.wp P o a w K' Q) (hs : AllReady P md ops Q fuel listed a w rs) : AllReady P md ops Q fuel listed a w (i :: rs) :=
  AllReady.cons ho (fun K hK => by simp only [hg, if_true]; exact h K hK) hs
theorem set_cells {w : World} {B : Nat} {a : Array Value} {T : TypeId} (h : w.heap[B]? = some (.cells a T (0, 0))) (i : Nat) (v : Value) : (w.setCell ⟨B, i, none⟩ v).heap[B]? = some (.cells (a.setIfInBounds i v) T (0, 0)) := by
  have hlt := lt_of_block h
  have h' : w.heap[B] = .cells a T (0, 0) := by simpa [Array.getElem?_eq_getElem hlt] using h
  show (w.heap.modify B _)[B]? = _
  rw [Array.getElem?_eq_getElem (by simpa using hlt), Array.getElem_modify_self, h']
  rfl
theorem Ct.set0 {w : World} {B : Nat} {rom : ByteArray} {kind bank : Int} {ram : ByteArray} {rb : Int} {on : Bool} {mode : Int} (x : Ct w B rom kind bank ram rb on mode) (y : ByteArray) : Ct (w.setCell ⟨B, 0, none⟩ (.string y)) B y kind bank ram rb on mode := set_cells x 0 _
theorem Ct.set1 {w : World} {B : Nat} {rom : ByteArray} {kind bank : Int} {ram : ByteArray} {rb : Int} {on : Bool} {mode : Int} (x : Ct w B rom kind bank ram rb on mode) (y : Int) : Ct (w.setCell ⟨B, 1, none⟩ (.int .i64 y)) B rom y bank ram rb on mode := set_cells x 1 _
theorem Ct.set2 {w : World} {B : Nat} {rom : ByteArray} {kind bank : Int} {ram : ByteArray} {rb : Int} {on : Bool} {mode : Int} (x : Ct w B rom kind bank ram rb on mode) (y : Int) : Ct (w.setCell ⟨B, 2, none⟩ (.int .i64 y)) B rom kind y ram rb on mode := set_cells x 2 _
theorem Ct.set3 {w : World} {B : Nat} {rom : ByteArray} {kind bank : Int} {ram : ByteArray} {rb : Int} {on : Bool} {mode : Int} (x : Ct w B rom kind bank ram rb on mode) (y : ByteArray) : Ct (w.setCell ⟨B, 3, none⟩ (.string y)) B rom kind bank y rb on mode := set_cells x 3 _
theorem Ct.set4 {w : World} {B : Nat} {rom : ByteArray} {kind bank : Int} {ram : ByteArray} {rb : Int} {on : Bool} {mode : Int} (x : Ct w B rom kind bank ram rb on mode) (y : Int) : Ct (w.setCell ⟨B, 4, none⟩ (.int .i64 y)) B rom kind bank ram y on mode := set_cells x 4 _
theorem Ct.set5 {w : World} {B : Nat} {rom : ByteArray} {kind bank : Int} {ram : ByteArray} {rb : Int} {on : Bool} {mode : Int} (x : Ct w B rom kind bank ram rb on mode) (y : Bool) : Ct (w.setCell ⟨B, 5, none⟩ (.bool y)) B rom kind bank ram rb y mode := set_cells x 5 _
theorem Ct.set6 {w : World} {B : Nat} {rom : ByteArray} {kind bank : Int} {ram : ByteArray} {rb : Int} {on : Bool} {mode : Int} (x : Ct w B rom kind bank ram rb on mode) (y : Int) : Ct (w.setCell ⟨B, 6, none⟩ (.int .i64 y)) B rom kind bank ram rb on y := set_cells x 6 _
/-- A cart that another is stored over. -/
theorem Ct.over {w : World} {B : Nat} {rom : ByteArray} {kind bank : Int} {ram : ByteArray} {rb : Int} {on : Bool} {mode : Int} (x : Ct w B rom kind bank ram rb on mode) (rom' : ByteArray) (kind' bank' : Int) (ram' : ByteArray) (rb' : Int) (on' : Bool) (mode' : Int) :
    Ct (((((((w.setCell ⟨B, 0, none⟩ (.string rom')).setCell ⟨B, 1, none⟩ (.int .i64 kind')).setCell ⟨B, 2, none⟩ (.int .i64 bank')).setCell ⟨B, 3, none⟩ (.string ram')).setCell ⟨B, 4, none⟩ (.int .i64 rb')).setCell ⟨B, 5, none⟩ (.bool on')).setCell ⟨B, 6, none⟩ (.int .i64 mode')) B rom' kind' bank' ram' rb' on' mode' :=
  Ct.set6 (Ct.set5 (Ct.set4 (Ct.set3 (Ct.set2 (Ct.set1 (Ct.set0 x _) _) _) _) _) _) _
theorem Ct.bank {w : World} {B : Nat} {rom : ByteArray} {kind bank : Int} {ram : ByteArray} {rb : Int} {on : Bool} {mode : Int} (x : Ct w B rom kind bank ram rb on mode) (b : Int) : Ct (w.setCell ⟨B, 2, none⟩ (.int .i64 b)) B rom kind b ram rb on mode := set_cells x 2 _
theorem Ct.other {w : World} {B C i : Nat} {rom : ByteArray} {kind bank : Int} {ram : ByteArray} {rb : Int} {on : Bool} {mode : Int} (x : Ct w B rom kind bank ram rb on mode) (hne : B ≠ C) (v : Value) : Ct (w.setCell ⟨C, i, none⟩ v) B rom kind bank ram rb on mode := x.kept (Below.heap_setCell _ _ _ _ hne)
theorem Ct.other7 {w : World} {B C : Nat} {rom : ByteArray} {kind bank : Int} {ram : ByteArray} {rb : Int} {on : Bool} {mode : Int} (x : Ct w B rom kind bank ram rb on mode) (hne : B ≠ C) (v0 v1 v2 v3 v4 v5 v6 : Value) :
    Ct (((((((w.setCell ⟨C, 0, none⟩ v0).setCell ⟨C, 1, none⟩ v1).setCell ⟨C, 2, none⟩ v2).setCell ⟨C, 3, none⟩ v3).setCell ⟨C, 4, none⟩ v4).setCell ⟨C, 5, none⟩ v5).setCell ⟨C, 6, none⟩ v6) B rom kind bank ram rb on mode :=
  Ct.other (Ct.other (Ct.other (Ct.other (Ct.other (Ct.other (Ct.other x hne _) hne _) hne _) hne _) hne _) hne _) hne _
theorem post7 {w w' : World} {rd C : Nat} (h : Post w rd w') (hr : rd < w.heap.size) (hC : w.heap.size ≤ C) (v0 v1 v2 v3 v4 v5 v6 : Value) :
    Post w rd (((((((w'.setCell ⟨C, 0, none⟩ v0).setCell ⟨C, 1, none⟩ v1).setCell ⟨C, 2, none⟩ v2).setCell ⟨C, 3, none⟩ v3).setCell ⟨C, 4, none⟩ v4).setCell ⟨C, 5, none⟩ v5).setCell ⟨C, 6, none⟩ v6) :=
  postSet (postSet (postSet (postSet (postSet (postSet (postSet h hr (p := ⟨C, 0, none⟩) hC _) hr (p := ⟨C, 1, none⟩) hC _) hr (p := ⟨C, 2, none⟩) hC _) hr (p := ⟨C, 3, none⟩) hC _) hr (p := ⟨C, 4, none⟩) hC _) hr (p := ⟨C, 5, none⟩) hC _) hr (p := ⟨C, 6, none⟩) hC _
theorem new_shape (s : ByteArray) (k : Int) (hs : s.size ≤ 1024) : ∃ (rom : ByteArray) (kind bank : Int) (ram : ByteArray) (rb : Int) (on : Bool) (mode : Int) (f : Bool), rom.size ≤ 1024 ∧ ram.size ≤ 256 ∧
    Value.tuple #[if newB s k = true then newCart s k else noCart, .bool (newB s k)] = .tuple #[.agg #[.string rom, .int .i64 kind, .int .i64 bank, .string ram, .int .i64 rb, .bool on, .int .i64 mode], .bool f] := by
  cases newB s k with
  | true => exact ⟨s, k, 1, Z 256, 0, false, 0, true, hs, by rw [Z_size]; omega, rfl⟩
  | false => exact ⟨⟨#[]⟩, 0, 0, ⟨#[]⟩, 0, false, 0, false, by decide, by decide, rfl⟩
theorem back_shape (rom : ByteArray) (kind bank : Int) (ram : ByteArray) (rb : Int) (on : Bool) (mode : Int) (addr v : Int) (h1 : rom.size ≤ 1024) (h2 : ram.size ≤ 256) : ∃ (rom' : ByteArray) (kind' bank' : Int) (ram' : ByteArray) (rb' : Int) (on' : Bool) (mode' : Int) (f : Bool), rom'.size ≤ 1024 ∧ ram'.size ≤ 256 ∧
    CartY.back rom kind bank ram rb on mode addr v = .tuple #[.agg #[.string rom', .int .i64 kind', .int .i64 bank', .string ram', .int .i64 rb', .bool on', .int .i64 mode'], .bool f] := by
  unfold CartY.back
  split
  · refine ⟨rom, kind, _, CartY.wRam kind ram rb on mode addr v, _, _, _, true, h1, ?_, rfl⟩
    unfold CartY.wRam
    repeat' split
    all_goals first | exact h2 | (rw [CartP.putB_size]; exact h2)
  · exact ⟨⟨#[]⟩, 0, 0, ⟨#[]⟩, 0, false, 0, false, by decide, by decide, rfl⟩
theorem addr_any (rd : Nat) (w : World) (h : Rd w rd) :
    Calls Try.prog 32 #[.pointer (some ⟨rd, 0, none⟩)] w fun e w' => (∃ x : Int, e = .returned (.int .i64 x)) ∧ Post w rd w' := by
  have PW : Hid (Post w rd w) := Post.refl h
  clear h
  go_enter Try.func32, Try.ntmps32
  go_wp2_with fail
  refine (Rdr.once_any _ _ _ PW.out.1 (by decide) (by decide)).mono ?_
  rintro e w1 ⟨⟨q, rfl⟩, p⟩
  have PW : Hid (Post w rd w1) := PW.out.trans p
  clear p
  cases q with
  | true =>
    go_wp2_with fail
    refine (Rdr.off_any _ _ _ _ PW.out.1 (by decide) (by decide) (by decide)).mono ?_
    rintro e w2 ⟨⟨x, hx, rfl⟩, p⟩
    have PW : Hid (Post w rd w2) := PW.out.trans p
    clear p
    go_wp2
    go_ret
    exact ⟨⟨x, rfl⟩, PW.out⟩
  | false =>
    go_wp2_with fail
    refine (Rdr.below_any _ _ _ PW.out.1 (by decide) (by decide)).mono ?_
    rintro e w2 ⟨⟨x, x0, x1, rfl⟩, p⟩
    have PW : Hid (Post w rd w2) := PW.out.trans p
    clear p
    go_wp2_with fail
    refine (Rdr.below_any _ _ _ PW.out.1 (by decide) (by decide)).mono ?_
    rintro e w3 ⟨⟨y, y0, y1, rfl⟩, p⟩
    have PW : Hid (Post w rd w3) := PW.out.trans p
    clear p
    go_wp2_with fail
    refine (Rdr.below_any _ _ _ PW.out.1 (by decide) (by decide)).mono ?_
    rintro e w4 ⟨⟨z, z0, z1, rfl⟩, p⟩
    have PW : Hid (Post w rd w4) := PW.out.trans p
    clear p
    go_wp2_with fail
    refine (Rdr.below_any _ _ _ (PW.out.alloc _).1 (by decide) (by decide)).mono ?_
    rintro e w5 ⟨⟨q, q0, q1, rfl⟩, p⟩
    obtain ⟨u, hc⟩ : ∃ u : Int, w5.cell? ⟨w4.heap.size, q.toNat, none⟩ = some (.int .i64 u) := by
      have hl := PW.out.1.lt
      have e : ∀ i : Nat, w5.cell? ⟨w4.heap.size, i, none⟩ = #[Value.int .i64 0, .int .i64 100, .int .i64 130, .int .i64 200, .int .i64 255, .int .i64 256, .int .i64 300, .int .i64 400, .int .i64 511, .int .i64 (40960 + x), .int .i64 (49152 + y), .int .i64 (65408 + z), .int .i64 65281][i]? := fun i =>
        (World.cell?_of_block (a := ⟨w4.heap.size, i, none⟩) (p.2.block _ (by simp) (fun e => by have : w4.heap.size = rd := Option.some.inj e; omega))).trans (World.cell?_alloc_new _ _ _ _)
      rcases (show q = 0 ∨ q = 1 ∨ q = 2 ∨ q = 3 ∨ q = 4 ∨ q = 5 ∨ q = 6 ∨ q = 7 ∨ q = 8 ∨ q = 9 ∨ q = 10 ∨ q = 11 ∨ q = 12 from by omega) with rfl | rfl | rfl | rfl | rfl | rfl | rfl | rfl | rfl | rfl | rfl | rfl | rfl
      · exact ⟨_, e 0⟩
      · exact ⟨_, e 1⟩
      · exact ⟨_, e 2⟩
      · exact ⟨_, e 3⟩
      · exact ⟨_, e 4⟩
      · exact ⟨_, e 5⟩
      · exact ⟨_, e 6⟩
      · exact ⟨_, e 7⟩
      · exact ⟨_, e 8⟩
      · exact ⟨_, e 9⟩
      · exact ⟨_, e 10⟩
      · exact ⟨_, e 11⟩
      · exact ⟨_, e 12⟩
    have PW : Hid (Post w rd w5) := (PW.out.alloc _).trans p
    clear p
    go_wp2
    go_ret
    exact ⟨⟨u, rfl⟩, PW.out⟩
/-- A cart is answered. -/
def Cart7 (e : Ending) : Prop := ∃ (rom : ByteArray) (kind bank : Int) (ram : ByteArray) (rb : Int) (on : Bool) (mode : Int), rom.size ≤ 1024 ∧ ram.size ≤ 256 ∧ e = .returned (.agg #[.string rom, .int .i64 kind, .int .i64 bank, .string ram, .int .i64 rb, .bool on, .int .i64 mode])
set_option maxHeartbeats 4000000 in
theorem cart_any (rd : Nat) (w : World) (h : Rd w rd) :
    Calls Try.prog 31 #[.pointer (some ⟨rd, 0, none⟩)] w fun e w' => Cart7 e ∧ Post w rd w' := by
  have PW : Hid (Post w rd w) := Post.refl h
  have hlt := h.lt
  clear h
  go_enter Try.func31, Try.ntmps31
  go_wp2_with fail
  have HZ : Hid (Ct (w.alloc (.cells #[.string ⟨#[]⟩, .int .i64 0, .int .i64 0, .string ⟨#[]⟩, .int .i64 0, .bool false, .int .i64 0] 27)) w.heap.size ⟨#[]⟩ 0 0 ⟨#[]⟩ 0 false 0) := Ct.new _ _ _ _ _ _ _ _
  have PW : Hid (Post w rd (w.alloc (.cells #[.string ⟨#[]⟩, .int .i64 0, .int .i64 0, .string ⟨#[]⟩, .int .i64 0, .bool false, .int .i64 0] 27))) := PW.out.alloc _
  generalize w.alloc (.cells #[.string ⟨#[]⟩, .int .i64 0, .int .i64 0, .string ⟨#[]⟩, .int .i64 0, .bool false, .int .i64 0] 27) = w0 at HZ PW ⊢
  have HN0 : Hid (w.heap.size ≠ rd) := by show _ ≠ _; omega
  refine (DrawP.rom_any _ _ PW.out.1).mono ?_
  rintro e w1 ⟨⟨s, hs, rfl⟩, p⟩
  have HZ : Hid (Ct w1 w.heap.size ⟨#[]⟩ 0 0 ⟨#[]⟩ 0 false 0) := HZ.out.post p HN0.out
  have PW : Hid (Post w rd w1) := PW.out.trans p
  clear p
  go_wp2_with fail
  refine (Rdr.below_any _ _ _ PW.out.1 (by decide) (by decide)).mono ?_
  rintro e w2 ⟨⟨k, k0, k1, rfl⟩, p⟩
  have HZ : Hid (Ct w2 w.heap.size ⟨#[]⟩ 0 0 ⟨#[]⟩ 0 false 0) := HZ.out.post p HN0.out
  have PW : Hid (Post w rd w2) := PW.out.trans p
  clear p
  have cn := fun w => specNew s k w (by unfold maxLen; omega)
  obtain ⟨rom, kind, bank, ram, rb, on, mode, f, hz1, hz2, hsh⟩ := new_shape s k hs
  rw [hsh] at cn
  clear hsh
  have hwk : IntKind.i64.wrap k = k := by rw [IntKind.wrap_i64]; omega
  go_wp2_with fail
  refine (cn _).mono ?_
  rintro e w3 ⟨rfl, b⟩
  have HZ : Hid (Ct w3 w.heap.size ⟨#[]⟩ 0 0 ⟨#[]⟩ 0 false 0) := HZ.out.below b
  have PW : Hid (Post w rd w3) := PW.out.trans (postB PW.out.1 b)
  clear b cn
  go_upto_region 2 with fail
  have HC : Hid (Ct (w3.alloc (.cells #[.string rom, .int .i64 kind, .int .i64 bank, .string ram, .int .i64 rb, .bool on, .int .i64 mode] 27)) w3.heap.size rom kind bank ram rb on mode) := Ct.new _ _ _ _ _ _ _ _
  have HN : Hid (w.heap.size ≠ rd ∧ w3.heap.size ≠ rd ∧ w.heap.size ≠ w3.heap.size ∧ rd < w.heap.size ∧ w.heap.size ≤ w3.heap.size) := by
    have h1 := PW.out.2.size
    have h2 := HZ.out.lt
    exact ⟨by omega, by omega, by omega, hlt, h1⟩
  have HZ : Hid (Ct (w3.alloc (.cells #[.string rom, .int .i64 kind, .int .i64 bank, .string ram, .int .i64 rb, .bool on, .int .i64 mode] 27)) w.heap.size ⟨#[]⟩ 0 0 ⟨#[]⟩ 0 false 0) := HZ.out.alloc _
  have PW : Hid (Post w rd (w3.alloc (.cells #[.string rom, .int .i64 kind, .int .i64 bank, .string ram, .int .i64 rb, .bool on, .int .i64 mode] 27))) := PW.out.alloc _
  generalize w3.alloc (.cells #[.string rom, .int .i64 kind, .int .i64 bank, .string ram, .int .i64 rb, .bool on, .int .i64 mode] 27) = w4 at HZ HC PW ⊢
  generalize w3.heap.size = cb at HC HN ⊢
  clear HN0 hlt
  go_wp2_with fail
  refine (Rdr.below_any _ _ _ PW.out.1 (by decide) (by decide)).mono ?_
  rintro e w5 ⟨⟨y, y0, y1, rfl⟩, p⟩
  have HC : Hid (Ct w5 cb rom kind bank ram rb on mode) := HC.out.post p HN.out.2.1
  have HZ : Hid (Ct w5 w.heap.size ⟨#[]⟩ 0 0 ⟨#[]⟩ 0 false 0) := HZ.out.post p HN.out.1
  have PW : Hid (Post w rd w5) := PW.out.trans p
  clear p
  go_wp2_with fail
  go_loopw [4, 5] (fun ok i wr => ∃ (rom : ByteArray) (kind bank : Int) (ram : ByteArray) (rb : Int) (on : Bool) (mode : Int) (f : Bool) (i' : Int), rom.size ≤ 1024 ∧ ram.size ≤ 256 ∧ 0 ≤ i' ∧ i' ≤ 5 ∧ ok = .bool f ∧ i = .int .i64 i' ∧ Hid (Ct wr cb rom kind bank ram rb on mode) ∧ Hid (Ct wr w.heap.size ⟨#[]⟩ 0 0 ⟨#[]⟩ 0 false 0) ∧ Hid (Post w rd wr)) (fun _ i _ => (intOf i).toNat)
  case atStart => exact ⟨rom, kind, bank, ram, rb, on, mode, f, y, hz1, hz2, y0, by omega, rfl, rfl, HC, HZ, PW⟩
  case round =>
  clear HC HZ PW hz1 hz2
  obtain ⟨rom, kind, bank, ram, rb, on, mode, f, i, hz1, hz2, i0, i1, rfl, rfl, HC, HZ, PW⟩ := hrel
  by_cases hgo : 0 < i ∧ f = true
  · obtain ⟨hi, rfl⟩ := hgo
    have hid : decide (0 < i) = true := decide_eq_true hi
    go_upto_region 5 with fail
    obtain ⟨c0, c1, c2, c3, c4, c5, c6⟩ := HC.out.cells
    have cf0 := HC.out.free 0
    have cf1 := HC.out.free 1
    have cf2 := HC.out.free 2
    have cf3 := HC.out.free 3
    have cf4 := HC.out.free 4
    have cf5 := HC.out.free 5
    have cf6 := HC.out.free 6
    refine wp_region_any (by kernel_rfl) ?_
    try (change wpAny _ _ _ _ _ _ _ (World.drew _))
    have HC : Hid (Ct wr.drew cb rom kind bank ram rb on mode) := HC.out
    have HZ : Hid (Ct wr.drew w.heap.size ⟨#[]⟩ 0 0 ⟨#[]⟩ 0 false 0) := HZ.out
    have PW : Hid (Post w rd wr.drew) := PW.out.trans (Post.of PW.out.1 rfl rfl rfl rfl)
    clear c0 c1 c2 c3 c4 c5 c6 cf0 cf1 cf2 cf3 cf4 cf5 cf6
    generalize wr.drew = wd at HC HZ PW ⊢
    obtain ⟨c0, c1, c2, c3, c4, c5, c6⟩ := HC.out.cells
    have cf0 := HC.out.free 0
    have cf1 := HC.out.free 1
    have cf2 := HC.out.free 2
    have cf3 := HC.out.free 3
    have cf4 := HC.out.free 4
    have cf5 := HC.out.free 5
    have cf6 := HC.out.free 6
    refine wpAny_take (i := 1) (v := ?vd1) rfl (by kernel_rfl) (by kernel_rfl) (by kernel_rfl) (fun _ _ _ h => h) (Or.inl ⟨by rfl, ?hyd1⟩) ?restd1
    case hyd1 => (intro w; go_simp; try with_reducible rfl)
    refine wpAny_take (i := 3) (v := ?vd2) rfl (by kernel_rfl) (by kernel_rfl) (by kernel_rfl) (fun _ _ _ h => h) (Or.inl ⟨by rfl, ?hyd2⟩) ?restd2
    case hyd2 => (intro w; go_simp; try with_reducible rfl)
    refine wpAny_ready (rs := [0, 2]) (by kernel_rfl) (by simp) ?_
    refine any_cons rfl (by rfl) (fun K hK => ?_) (any_cons rfl (by rfl) (fun K hK => ?_) AllReady.nil)
    · go_simp
      refine hK _ _ ?_
      clear hK
      refine wpAny_ready (rs := [2]) (by kernel_rfl) (by simp) ?_
      refine any_cons rfl (by rfl) (fun K hK => ?_) AllReady.nil
      go_wp2_with fail
      refine (addr_any _ _ PW.out.1).mono ?_
      rintro e v02 ⟨⟨ad, rfl⟩, p⟩
      clear c0 c1 c2 c3 c4 c5 c6 cf0 cf1 cf2 cf3 cf4 cf5 cf6
      have HC : Hid (Ct v02 cb rom kind bank ram rb on mode) := HC.out.post p HN.out.2.1
      have HZ : Hid (Ct v02 w.heap.size ⟨#[]⟩ 0 0 ⟨#[]⟩ 0 false 0) := HZ.out.post p HN.out.1
      have PW : Hid (Post w rd v02) := PW.out.trans p
      clear p
      obtain ⟨c0, c1, c2, c3, c4, c5, c6⟩ := HC.out.cells
      have cf0 := HC.out.free 0
      have cf1 := HC.out.free 1
      have cf2 := HC.out.free 2
      have cf3 := HC.out.free 3
      have cf4 := HC.out.free 4
      have cf5 := HC.out.free 5
      have cf6 := HC.out.free 6
      refine hK _ _ ?_
      clear hK
      refine wpAny_ready (rs := [4]) (by kernel_rfl) (by simp) ?_
      refine any_cons rfl (by rfl) (fun K hK => ?_) AllReady.nil
      go_wp2_with fail
      refine (Rdr.byte_any _ _ PW.out.1).mono ?_
      rintro e v024 ⟨⟨by_, y0, y1, rfl⟩, p⟩
      clear c0 c1 c2 c3 c4 c5 c6 cf0 cf1 cf2 cf3 cf4 cf5 cf6
      have HC : Hid (Ct v024 cb rom kind bank ram rb on mode) := HC.out.post p HN.out.2.1
      have HZ : Hid (Ct v024 w.heap.size ⟨#[]⟩ 0 0 ⟨#[]⟩ 0 false 0) := HZ.out.post p HN.out.1
      have PW : Hid (Post w rd v024) := PW.out.trans p
      clear p
      obtain ⟨c0, c1, c2, c3, c4, c5, c6⟩ := HC.out.cells
      have cf0 := HC.out.free 0
      have cf1 := HC.out.free 1
      have cf2 := HC.out.free 2
      have cf3 := HC.out.free 3
      have cf4 := HC.out.free 4
      have cf5 := HC.out.free 5
      have cf6 := HC.out.free 6
      refine hK _ _ ?_
      clear hK
      clear c0 c1 c2 c3 c4 c5 c6 cf0 cf1 cf2 cf3 cf4 cf5 cf6
      obtain ⟨rom', kind', bank', ram', rb', on', mode', f', z1, z2, hbk⟩ := back_shape rom kind bank ram rb on mode ad by_ hz1 hz2
      have cw := fun w => CartY.specWrite_any rom kind bank ram rb on mode ad by_ w (by unfold maxLen; omega) (by unfold maxLen; omega)
      rw [hbk] at cw
      clear hbk
      refine wpAny_ready (rs := [5]) (by kernel_rfl) (by simp) ?_
      refine any_cons rfl (by rfl) (fun K hK => ?_) AllReady.nil
      go_wp2_with fail
      refine (cw _).mono ?_
      rintro e wk ⟨rfl, bk⟩
      have HC : Hid (Ct wk cb rom kind bank ram rb on mode) := HC.out.below bk
      have HZ : Hid (Ct wk w.heap.size ⟨#[]⟩ 0 0 ⟨#[]⟩ 0 false 0) := HZ.out.below bk
      have PW : Hid (Post w rd wk) := PW.out.trans (postB PW.out.1 bk)
      clear bk cw
      refine hK _ _ ?_
      clear hK
      refine wpAny_take (i := 6) (v := ?vd3) rfl (by kernel_rfl) (by kernel_rfl) (by kernel_rfl) (fun _ _ _ h => h) (Or.inl ⟨by rfl, ?hyd3⟩) ?restd3
      case hyd3 => (intro w; go_simp; try with_reducible rfl)
      refine wpAny_take (i := 7) (v := ?vd4) rfl (by kernel_rfl) (by kernel_rfl) (by kernel_rfl) (fun _ _ _ h => h) (Or.inl ⟨by rfl, ?hyd4⟩) ?restd4
      case hyd4 => (intro w; go_simp; try with_reducible rfl)
      refine wpAny_take (i := 8) (v := ?vd5) rfl (by kernel_rfl) (by kernel_rfl) (by kernel_rfl) (fun _ _ _ h => h) (Or.inl ⟨by rfl, ?hyd5⟩) ?restd5
      case hyd5 => (intro w; go_simp; try with_reducible rfl)
      refine wpAny_ready (rs := [9]) (by kernel_rfl) (by simp) ?_
      refine any_cons rfl (by rfl) (fun K hK => ?_) AllReady.nil
      obtain ⟨c0, c1, c2, c3, c4, c5, c6⟩ := HC.out.cells
      have cf0 := HC.out.free 0
      have cf1 := HC.out.free 1
      have cf2 := HC.out.free 2
      have cf3 := HC.out.free 3
      have cf4 := HC.out.free 4
      have cf5 := HC.out.free 5
      have cf6 := HC.out.free 6
      go_simp
      refine hK _ _ ?_
      clear hK
      clear c0 c1 c2 c3 c4 c5 c6 cf0 cf1 cf2 cf3 cf4 cf5 cf6
      have HZ := Ct.other7 HZ.out HN.out.2.2.1 (.string rom') (.int .i64 kind') (.int .i64 bank') (.string ram') (.int .i64 rb') (.bool on') (.int .i64 mode')
      have PW := post7 PW.out HN.out.2.2.2.1 HN.out.2.2.2.2 (.string rom') (.int .i64 kind') (.int .i64 bank') (.string ram') (.int .i64 rb') (.bool on') (.int .i64 mode')
      have HC := Ct.over HC.out rom' kind' bank' ram' rb' on' mode'
      refine wpAny_take (i := 10) (v := ?vd6) rfl (by kernel_rfl) (by kernel_rfl) (by kernel_rfl) (fun _ _ _ h => h) (Or.inl ⟨by rfl, ?hyd6⟩) ?restd6
      case hyd6 => (intro w; go_simp; try with_reducible rfl)
      refine wpAny_done (by kernel_rfl) ?_ _
      go_wp2_with fail
      go_roundw
      case rel => exact ⟨rom', kind', bank', ram', rb', on', mode', f', i - 1, z1, z2, by omega, by omega, rfl, by first | rfl | (congr 1; omega), HC, HZ, PW⟩
      case measure => simp [intOf]; omega
    · go_wp2_with fail
      refine (addr_any _ _ PW.out.1).mono ?_
      rintro e v2 ⟨⟨ad, rfl⟩, p⟩
      clear c0 c1 c2 c3 c4 c5 c6 cf0 cf1 cf2 cf3 cf4 cf5 cf6
      have HC : Hid (Ct v2 cb rom kind bank ram rb on mode) := HC.out.post p HN.out.2.1
      have HZ : Hid (Ct v2 w.heap.size ⟨#[]⟩ 0 0 ⟨#[]⟩ 0 false 0) := HZ.out.post p HN.out.1
      have PW : Hid (Post w rd v2) := PW.out.trans p
      clear p
      obtain ⟨c0, c1, c2, c3, c4, c5, c6⟩ := HC.out.cells
      have cf0 := HC.out.free 0
      have cf1 := HC.out.free 1
      have cf2 := HC.out.free 2
      have cf3 := HC.out.free 3
      have cf4 := HC.out.free 4
      have cf5 := HC.out.free 5
      have cf6 := HC.out.free 6
      refine hK _ _ ?_
      clear hK
      refine wpAny_ready (rs := [0, 4]) (by kernel_rfl) (by simp) ?_
      refine any_cons rfl (by rfl) (fun K hK => ?_) (any_cons rfl (by rfl) (fun K hK => ?_) AllReady.nil)
      · go_simp
        refine hK _ _ ?_
        clear hK
        refine wpAny_ready (rs := [4]) (by kernel_rfl) (by simp) ?_
        refine any_cons rfl (by rfl) (fun K hK => ?_) AllReady.nil
        go_wp2_with fail
        refine (Rdr.byte_any _ _ PW.out.1).mono ?_
        rintro e v204 ⟨⟨by_, y0, y1, rfl⟩, p⟩
        clear c0 c1 c2 c3 c4 c5 c6 cf0 cf1 cf2 cf3 cf4 cf5 cf6
        have HC : Hid (Ct v204 cb rom kind bank ram rb on mode) := HC.out.post p HN.out.2.1
        have HZ : Hid (Ct v204 w.heap.size ⟨#[]⟩ 0 0 ⟨#[]⟩ 0 false 0) := HZ.out.post p HN.out.1
        have PW : Hid (Post w rd v204) := PW.out.trans p
        clear p
        obtain ⟨c0, c1, c2, c3, c4, c5, c6⟩ := HC.out.cells
        have cf0 := HC.out.free 0
        have cf1 := HC.out.free 1
        have cf2 := HC.out.free 2
        have cf3 := HC.out.free 3
        have cf4 := HC.out.free 4
        have cf5 := HC.out.free 5
        have cf6 := HC.out.free 6
        refine hK _ _ ?_
        clear hK
        clear c0 c1 c2 c3 c4 c5 c6 cf0 cf1 cf2 cf3 cf4 cf5 cf6
        obtain ⟨rom', kind', bank', ram', rb', on', mode', f', z1, z2, hbk⟩ := back_shape rom kind bank ram rb on mode ad by_ hz1 hz2
        have cw := fun w => CartY.specWrite_any rom kind bank ram rb on mode ad by_ w (by unfold maxLen; omega) (by unfold maxLen; omega)
        rw [hbk] at cw
        clear hbk
        refine wpAny_ready (rs := [5]) (by kernel_rfl) (by simp) ?_
        refine any_cons rfl (by rfl) (fun K hK => ?_) AllReady.nil
        go_wp2_with fail
        refine (cw _).mono ?_
        rintro e wk ⟨rfl, bk⟩
        have HC : Hid (Ct wk cb rom kind bank ram rb on mode) := HC.out.below bk
        have HZ : Hid (Ct wk w.heap.size ⟨#[]⟩ 0 0 ⟨#[]⟩ 0 false 0) := HZ.out.below bk
        have PW : Hid (Post w rd wk) := PW.out.trans (postB PW.out.1 bk)
        clear bk cw
        refine hK _ _ ?_
        clear hK
        refine wpAny_take (i := 6) (v := ?vd7) rfl (by kernel_rfl) (by kernel_rfl) (by kernel_rfl) (fun _ _ _ h => h) (Or.inl ⟨by rfl, ?hyd7⟩) ?restd7
        case hyd7 => (intro w; go_simp; try with_reducible rfl)
        refine wpAny_take (i := 7) (v := ?vd8) rfl (by kernel_rfl) (by kernel_rfl) (by kernel_rfl) (fun _ _ _ h => h) (Or.inl ⟨by rfl, ?hyd8⟩) ?restd8
        case hyd8 => (intro w; go_simp; try with_reducible rfl)
        refine wpAny_take (i := 8) (v := ?vd9) rfl (by kernel_rfl) (by kernel_rfl) (by kernel_rfl) (fun _ _ _ h => h) (Or.inl ⟨by rfl, ?hyd9⟩) ?restd9
        case hyd9 => (intro w; go_simp; try with_reducible rfl)
        refine wpAny_ready (rs := [9]) (by kernel_rfl) (by simp) ?_
        refine any_cons rfl (by rfl) (fun K hK => ?_) AllReady.nil
        obtain ⟨c0, c1, c2, c3, c4, c5, c6⟩ := HC.out.cells
        have cf0 := HC.out.free 0
        have cf1 := HC.out.free 1
        have cf2 := HC.out.free 2
        have cf3 := HC.out.free 3
        have cf4 := HC.out.free 4
        have cf5 := HC.out.free 5
        have cf6 := HC.out.free 6
        go_simp
        refine hK _ _ ?_
        clear hK
        clear c0 c1 c2 c3 c4 c5 c6 cf0 cf1 cf2 cf3 cf4 cf5 cf6
        have HZ := Ct.other7 HZ.out HN.out.2.2.1 (.string rom') (.int .i64 kind') (.int .i64 bank') (.string ram') (.int .i64 rb') (.bool on') (.int .i64 mode')
        have PW := post7 PW.out HN.out.2.2.2.1 HN.out.2.2.2.2 (.string rom') (.int .i64 kind') (.int .i64 bank') (.string ram') (.int .i64 rb') (.bool on') (.int .i64 mode')
        have HC := Ct.over HC.out rom' kind' bank' ram' rb' on' mode'
        refine wpAny_take (i := 10) (v := ?vd10) rfl (by kernel_rfl) (by kernel_rfl) (by kernel_rfl) (fun _ _ _ h => h) (Or.inl ⟨by rfl, ?hyd10⟩) ?restd10
        case hyd10 => (intro w; go_simp; try with_reducible rfl)
        refine wpAny_done (by kernel_rfl) ?_ _
        go_wp2_with fail
        go_roundw
        case rel => exact ⟨rom', kind', bank', ram', rb', on', mode', f', i - 1, z1, z2, by omega, by omega, rfl, by first | rfl | (congr 1; omega), HC, HZ, PW⟩
        case measure => simp [intOf]; omega
      · go_wp2_with fail
        refine (Rdr.byte_any _ _ PW.out.1).mono ?_
        rintro e v24 ⟨⟨by_, y0, y1, rfl⟩, p⟩
        clear c0 c1 c2 c3 c4 c5 c6 cf0 cf1 cf2 cf3 cf4 cf5 cf6
        have HC : Hid (Ct v24 cb rom kind bank ram rb on mode) := HC.out.post p HN.out.2.1
        have HZ : Hid (Ct v24 w.heap.size ⟨#[]⟩ 0 0 ⟨#[]⟩ 0 false 0) := HZ.out.post p HN.out.1
        have PW : Hid (Post w rd v24) := PW.out.trans p
        clear p
        obtain ⟨c0, c1, c2, c3, c4, c5, c6⟩ := HC.out.cells
        have cf0 := HC.out.free 0
        have cf1 := HC.out.free 1
        have cf2 := HC.out.free 2
        have cf3 := HC.out.free 3
        have cf4 := HC.out.free 4
        have cf5 := HC.out.free 5
        have cf6 := HC.out.free 6
        refine hK _ _ ?_
        clear hK
        refine wpAny_ready (rs := [0]) (by kernel_rfl) (by simp) ?_
        refine any_cons rfl (by rfl) (fun K hK => ?_) AllReady.nil
        go_simp
        refine hK _ _ ?_
        clear hK
        clear c0 c1 c2 c3 c4 c5 c6 cf0 cf1 cf2 cf3 cf4 cf5 cf6
        obtain ⟨rom', kind', bank', ram', rb', on', mode', f', z1, z2, hbk⟩ := back_shape rom kind bank ram rb on mode ad by_ hz1 hz2
        have cw := fun w => CartY.specWrite_any rom kind bank ram rb on mode ad by_ w (by unfold maxLen; omega) (by unfold maxLen; omega)
        rw [hbk] at cw
        clear hbk
        refine wpAny_ready (rs := [5]) (by kernel_rfl) (by simp) ?_
        refine any_cons rfl (by rfl) (fun K hK => ?_) AllReady.nil
        go_wp2_with fail
        refine (cw _).mono ?_
        rintro e wk ⟨rfl, bk⟩
        have HC : Hid (Ct wk cb rom kind bank ram rb on mode) := HC.out.below bk
        have HZ : Hid (Ct wk w.heap.size ⟨#[]⟩ 0 0 ⟨#[]⟩ 0 false 0) := HZ.out.below bk
        have PW : Hid (Post w rd wk) := PW.out.trans (postB PW.out.1 bk)
        clear bk cw
        refine hK _ _ ?_
        clear hK
        refine wpAny_take (i := 6) (v := ?vd11) rfl (by kernel_rfl) (by kernel_rfl) (by kernel_rfl) (fun _ _ _ h => h) (Or.inl ⟨by rfl, ?hyd11⟩) ?restd11
        case hyd11 => (intro w; go_simp; try with_reducible rfl)
        refine wpAny_take (i := 7) (v := ?vd12) rfl (by kernel_rfl) (by kernel_rfl) (by kernel_rfl) (fun _ _ _ h => h) (Or.inl ⟨by rfl, ?hyd12⟩) ?restd12
        case hyd12 => (intro w; go_simp; try with_reducible rfl)
        refine wpAny_take (i := 8) (v := ?vd13) rfl (by kernel_rfl) (by kernel_rfl) (by kernel_rfl) (fun _ _ _ h => h) (Or.inl ⟨by rfl, ?hyd13⟩) ?restd13
        case hyd13 => (intro w; go_simp; try with_reducible rfl)
        refine wpAny_ready (rs := [9]) (by kernel_rfl) (by simp) ?_
        refine any_cons rfl (by rfl) (fun K hK => ?_) AllReady.nil
        obtain ⟨c0, c1, c2, c3, c4, c5, c6⟩ := HC.out.cells
        have cf0 := HC.out.free 0
        have cf1 := HC.out.free 1
        have cf2 := HC.out.free 2
        have cf3 := HC.out.free 3
        have cf4 := HC.out.free 4
        have cf5 := HC.out.free 5
        have cf6 := HC.out.free 6
        go_simp
        refine hK _ _ ?_
        clear hK
        clear c0 c1 c2 c3 c4 c5 c6 cf0 cf1 cf2 cf3 cf4 cf5 cf6
        have HZ := Ct.other7 HZ.out HN.out.2.2.1 (.string rom') (.int .i64 kind') (.int .i64 bank') (.string ram') (.int .i64 rb') (.bool on') (.int .i64 mode')
        have PW := post7 PW.out HN.out.2.2.2.1 HN.out.2.2.2.2 (.string rom') (.int .i64 kind') (.int .i64 bank') (.string ram') (.int .i64 rb') (.bool on') (.int .i64 mode')
        have HC := Ct.over HC.out rom' kind' bank' ram' rb' on' mode'
        refine wpAny_take (i := 10) (v := ?vd14) rfl (by kernel_rfl) (by kernel_rfl) (by kernel_rfl) (fun _ _ _ h => h) (Or.inl ⟨by rfl, ?hyd14⟩) ?restd14
        case hyd14 => (intro w; go_simp; try with_reducible rfl)
        refine wpAny_done (by kernel_rfl) ?_ _
        go_wp2_with fail
        go_roundw
        case rel => exact ⟨rom', kind', bank', ram', rb', on', mode', f', i - 1, z1, z2, by omega, by omega, rfl, by first | rfl | (congr 1; omega), HC, HZ, PW⟩
        case measure => simp [intOf]; omega
  by_cases hi : 0 < i
  · have hf : f = false := by cases f with | false => rfl | true => exact absurd ⟨hi, rfl⟩ hgo
    subst hf
    have hid : decide (0 < i) = true := decide_eq_true hi
    go_wp2_with fail
    refine (Rdr.once_any _ _ _ PW.out.1 (by decide) (by decide)).mono ?_
    rintro e w6 ⟨⟨q, rfl⟩, p⟩
    have HC : Hid (Ct w6 cb rom kind bank ram rb on mode) := HC.out.post p HN.out.2.1
    have HZ : Hid (Ct w6 w.heap.size ⟨#[]⟩ 0 0 ⟨#[]⟩ 0 false 0) := HZ.out.post p HN.out.1
    have PW : Hid (Post w rd w6) := PW.out.trans p
    clear p
    cases q with
    | false =>
      obtain ⟨c0, c1, c2, c3, c4, c5, c6⟩ := HC.out.cells
      have cf0 := HC.out.free 0
      have cf1 := HC.out.free 1
      have cf2 := HC.out.free 2
      have cf3 := HC.out.free 3
      have cf4 := HC.out.free 4
      have cf5 := HC.out.free 5
      have cf6 := HC.out.free 6
      obtain ⟨r0, r1, r2, r3, r4, r5, r6⟩ := HZ.out.cells
      have rf0 := HZ.out.free 0
      have rf1 := HZ.out.free 1
      have rf2 := HZ.out.free 2
      have rf3 := HZ.out.free 3
      have rf4 := HZ.out.free 4
      have rf5 := HZ.out.free 5
      have rf6 := HZ.out.free 6
      have hne := HN.out.2.2.1
      have hne2 : ¬ cb = w.heap.size := fun e => hne e.symm
      go_wp2
      exact bodyPost_ret (v := .agg #[.string rom, .int .i64 kind, .int .i64 bank, .string ram, .int .i64 rb, .bool on, .int .i64 mode]) (by simp [results, Try.results31, go_sem, r0, r1, r2, r3, r4, r5, r6]) rfl ⟨⟨_, _, _, _, _, _, _, hz1, hz2, rfl⟩, post7 PW.out HN.out.2.2.2.1 (Nat.le_refl _) _ _ _ _ _ _ _⟩
    | true =>
      go_wp2_with fail
      refine (Rdr.off_any _ _ _ _ PW.out.1 (by decide) (by decide) (by decide)).mono ?_
      rintro e w7 ⟨⟨bk, hbk, rfl⟩, p⟩
      have HC : Hid (Ct w7 cb rom kind bank ram rb on mode) := HC.out.post p HN.out.2.1
      have HZ : Hid (Ct w7 w.heap.size ⟨#[]⟩ 0 0 ⟨#[]⟩ 0 false 0) := HZ.out.post p HN.out.1
      have PW : Hid (Post w rd w7) := PW.out.trans p
      clear p
      obtain ⟨c0, c1, c2, c3, c4, c5, c6⟩ := HC.out.cells
      have cf0 := HC.out.free 0
      have cf1 := HC.out.free 1
      have cf2 := HC.out.free 2
      have cf3 := HC.out.free 3
      have cf4 := HC.out.free 4
      have cf5 := HC.out.free 5
      have cf6 := HC.out.free 6
      go_upto_region 8 with fail
      have HC : Hid (Ct (w7.setCell ⟨cb, 2, none⟩ (.int .i64 bk)) cb rom kind bk ram rb on mode) := Ct.bank HC.out bk
      have HZ : Hid (Ct (w7.setCell ⟨cb, 2, none⟩ (.int .i64 bk)) w.heap.size ⟨#[]⟩ 0 0 ⟨#[]⟩ 0 false 0) := Ct.other HZ.out HN.out.2.2.1 _
      have PW : Hid (Post w rd (w7.setCell ⟨cb, 2, none⟩ (.int .i64 bk))) := postSet PW.out HN.out.2.2.2.1 (p := ⟨cb, 2, none⟩) HN.out.2.2.2.2 _
      clear c0 c1 c2 c3 c4 c5 c6 cf0 cf1 cf2 cf3 cf4 cf5 cf6
      generalize w7.setCell ⟨cb, 2, none⟩ (.int .i64 bk) = w8 at HC HZ PW ⊢
      obtain ⟨c0, c1, c2, c3, c4, c5, c6⟩ := HC.out.cells
      have cf0 := HC.out.free 0
      have cf1 := HC.out.free 1
      have cf2 := HC.out.free 2
      have cf3 := HC.out.free 3
      have cf4 := HC.out.free 4
      have cf5 := HC.out.free 5
      have cf6 := HC.out.free 6
      obtain ⟨r0, r1, r2, r3, r4, r5, r6⟩ := HZ.out.cells
      have rf0 := HZ.out.free 0
      have rf1 := HZ.out.free 1
      have rf2 := HZ.out.free 2
      have rf3 := HZ.out.free 3
      have rf4 := HZ.out.free 4
      have rf5 := HZ.out.free 5
      have rf6 := HZ.out.free 6
      have hne := HN.out.2.2.1
      have hne2 : ¬ cb = w.heap.size := fun e => hne e.symm
      go_wp2
      exact bodyPost_ret (v := .agg #[.string rom, .int .i64 kind, .int .i64 bk, .string ram, .int .i64 rb, .bool on, .int .i64 mode]) (by simp [results, Try.results31, go_sem, r0, r1, r2, r3, r4, r5, r6]) rfl ⟨⟨_, _, _, _, _, _, _, hz1, hz2, rfl⟩, post7 PW.out HN.out.2.2.2.1 (Nat.le_refl _) _ _ _ _ _ _ _⟩
  · have hid : decide (0 < i) = false := decide_eq_false hi
    go_wp2_with fail
    refine (Rdr.once_any _ _ _ PW.out.1 (by decide) (by decide)).mono ?_
    rintro e w6 ⟨⟨q, rfl⟩, p⟩
    have HC : Hid (Ct w6 cb rom kind bank ram rb on mode) := HC.out.post p HN.out.2.1
    have HZ : Hid (Ct w6 w.heap.size ⟨#[]⟩ 0 0 ⟨#[]⟩ 0 false 0) := HZ.out.post p HN.out.1
    have PW : Hid (Post w rd w6) := PW.out.trans p
    clear p
    cases q with
    | false =>
      obtain ⟨c0, c1, c2, c3, c4, c5, c6⟩ := HC.out.cells
      have cf0 := HC.out.free 0
      have cf1 := HC.out.free 1
      have cf2 := HC.out.free 2
      have cf3 := HC.out.free 3
      have cf4 := HC.out.free 4
      have cf5 := HC.out.free 5
      have cf6 := HC.out.free 6
      obtain ⟨r0, r1, r2, r3, r4, r5, r6⟩ := HZ.out.cells
      have rf0 := HZ.out.free 0
      have rf1 := HZ.out.free 1
      have rf2 := HZ.out.free 2
      have rf3 := HZ.out.free 3
      have rf4 := HZ.out.free 4
      have rf5 := HZ.out.free 5
      have rf6 := HZ.out.free 6
      have hne := HN.out.2.2.1
      have hne2 : ¬ cb = w.heap.size := fun e => hne e.symm
      go_wp2
      exact bodyPost_ret (v := .agg #[.string rom, .int .i64 kind, .int .i64 bank, .string ram, .int .i64 rb, .bool on, .int .i64 mode]) (by simp [results, Try.results31, go_sem, r0, r1, r2, r3, r4, r5, r6]) rfl ⟨⟨_, _, _, _, _, _, _, hz1, hz2, rfl⟩, post7 PW.out HN.out.2.2.2.1 (Nat.le_refl _) _ _ _ _ _ _ _⟩
    | true =>
      go_wp2_with fail
      refine (Rdr.off_any _ _ _ _ PW.out.1 (by decide) (by decide) (by decide)).mono ?_
      rintro e w7 ⟨⟨bk, hbk, rfl⟩, p⟩
      have HC : Hid (Ct w7 cb rom kind bank ram rb on mode) := HC.out.post p HN.out.2.1
      have HZ : Hid (Ct w7 w.heap.size ⟨#[]⟩ 0 0 ⟨#[]⟩ 0 false 0) := HZ.out.post p HN.out.1
      have PW : Hid (Post w rd w7) := PW.out.trans p
      clear p
      obtain ⟨c0, c1, c2, c3, c4, c5, c6⟩ := HC.out.cells
      have cf0 := HC.out.free 0
      have cf1 := HC.out.free 1
      have cf2 := HC.out.free 2
      have cf3 := HC.out.free 3
      have cf4 := HC.out.free 4
      have cf5 := HC.out.free 5
      have cf6 := HC.out.free 6
      go_upto_region 8 with fail
      have HC : Hid (Ct (w7.setCell ⟨cb, 2, none⟩ (.int .i64 bk)) cb rom kind bk ram rb on mode) := Ct.bank HC.out bk
      have HZ : Hid (Ct (w7.setCell ⟨cb, 2, none⟩ (.int .i64 bk)) w.heap.size ⟨#[]⟩ 0 0 ⟨#[]⟩ 0 false 0) := Ct.other HZ.out HN.out.2.2.1 _
      have PW : Hid (Post w rd (w7.setCell ⟨cb, 2, none⟩ (.int .i64 bk))) := postSet PW.out HN.out.2.2.2.1 (p := ⟨cb, 2, none⟩) HN.out.2.2.2.2 _
      clear c0 c1 c2 c3 c4 c5 c6 cf0 cf1 cf2 cf3 cf4 cf5 cf6
      generalize w7.setCell ⟨cb, 2, none⟩ (.int .i64 bk) = w8 at HC HZ PW ⊢
      obtain ⟨c0, c1, c2, c3, c4, c5, c6⟩ := HC.out.cells
      have cf0 := HC.out.free 0
      have cf1 := HC.out.free 1
      have cf2 := HC.out.free 2
      have cf3 := HC.out.free 3
      have cf4 := HC.out.free 4
      have cf5 := HC.out.free 5
      have cf6 := HC.out.free 6
      obtain ⟨r0, r1, r2, r3, r4, r5, r6⟩ := HZ.out.cells
      have rf0 := HZ.out.free 0
      have rf1 := HZ.out.free 1
      have rf2 := HZ.out.free 2
      have rf3 := HZ.out.free 3
      have rf4 := HZ.out.free 4
      have rf5 := HZ.out.free 5
      have rf6 := HZ.out.free 6
      have hne := HN.out.2.2.1
      have hne2 : ¬ cb = w.heap.size := fun e => hne e.symm
      go_wp2
      exact bodyPost_ret (v := .agg #[.string rom, .int .i64 kind, .int .i64 bk, .string ram, .int .i64 rb, .bool on, .int .i64 mode]) (by simp [results, Try.results31, go_sem, r0, r1, r2, r3, r4, r5, r6]) rfl ⟨⟨_, _, _, _, _, _, _, hz1, hz2, rfl⟩, post7 PW.out HN.out.2.2.2.1 (Nat.le_refl _) _ _ _ _ _ _ _⟩
end Go.Proofs.Ytllpkidfldmbnaa.CartD
