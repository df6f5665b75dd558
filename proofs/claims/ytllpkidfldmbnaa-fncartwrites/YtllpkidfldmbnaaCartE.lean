/-
  What spec's DrawCartRead and DrawCartWrite can answer: some cart, its texts not too long, and numbers; and nothing old is written.
-/
import Derived.Test.YtllpkidfldmbnaaCartD
namespace Go.Proofs.Ytllpkidfldmbnaa.CartE
open Go.ChangeShapes Go.WideShapes Go.ChangeAt Go.RowKit Go.Deep
open Rdr (Rd Post)
open DrawI (postB postSet)
open Carts CartK CartL CartM CartN CartS CartZ CartD
set_option linter.unusedVariables false
set_option linter.unusedSimpArgs false
set_option maxRecDepth 20000

theorem below7 {w w' : World} {C : Nat} (h : Below w.heap.size w w') (hC : w.heap.size ≤ C) (v0 v1 v2 v3 v4 v5 v6 : Value) :
    Below w.heap.size w (((((((w'.setCell ⟨C, 0, none⟩ v0).setCell ⟨C, 1, none⟩ v1).setCell ⟨C, 2, none⟩ v2).setCell ⟨C, 3, none⟩ v3).setCell ⟨C, 4, none⟩ v4).setCell ⟨C, 5, none⟩ v5).setCell ⟨C, 6, none⟩ v6) :=
  ((((((h.setCell (p := ⟨C, 0, none⟩) hC _).setCell (p := ⟨C, 1, none⟩) hC _).setCell (p := ⟨C, 2, none⟩) hC _).setCell (p := ⟨C, 3, none⟩) hC _).setCell (p := ⟨C, 4, none⟩) hC _).setCell (p := ⟨C, 5, none⟩) hC _).setCell (p := ⟨C, 6, none⟩) hC _
def CartInt (e : Ending) : Prop := ∃ (rom : ByteArray) (kind bank : Int) (ram : ByteArray) (rb : Int) (on : Bool) (mode : Int) (x : Int), rom.size ≤ 1024 ∧ ram.size ≤ 256 ∧ e = .returned (.tuple #[.agg #[.string rom, .int .i64 kind, .int .i64 bank, .string ram, .int .i64 rb, .bool on, .int .i64 mode], .int .i64 x])
def CartInt2 (e : Ending) : Prop := ∃ (rom : ByteArray) (kind bank : Int) (ram : ByteArray) (rb : Int) (on : Bool) (mode : Int) (x y : Int), rom.size ≤ 1024 ∧ ram.size ≤ 256 ∧ e = .returned (.tuple #[.agg #[.string rom, .int .i64 kind, .int .i64 bank, .string ram, .int .i64 rb, .bool on, .int .i64 mode], .int .i64 x, .int .i64 y])
set_option maxHeartbeats 4000000 in
theorem drawCartRead_any (a : Option Addr) (len cap : Nat) (zs : List Int) (w : World) (h : Rdr.IsRow .u8 w a len cap zs) :
    Calls Try.prog 15 #[.slice a len cap] w fun e w' => CartInt e ∧ Below w.heap.size w w' := by
  have H : Hid (Rdr.IsRow .u8 w a len cap zs) := h
  clear h
  go_enter Try.func15, Try.ntmps15
  go_wp2_with fail
  have HZ : Hid (Ct (w.alloc (.cells #[.string ⟨#[]⟩, .int .i64 0, .int .i64 0, .string ⟨#[]⟩, .int .i64 0, .bool false, .int .i64 0] 27)) w.heap.size ⟨#[]⟩ 0 0 ⟨#[]⟩ 0 false 0) := Ct.new _ _ _ _ _ _ _ _
  have B0 : Hid (Below w.heap.size w (w.alloc (.cells #[.string ⟨#[]⟩, .int .i64 0, .int .i64 0, .string ⟨#[]⟩, .int .i64 0, .bool false, .int .i64 0] 27))) := (Below.refl _ _).alloc (Nat.le_refl _) _
  have HS : Hid ((w.alloc (.cells #[.string ⟨#[]⟩, .int .i64 0, .int .i64 0, .string ⟨#[]⟩, .int .i64 0, .bool false, .int .i64 0] 27)).heap.size = w.heap.size + 1) := by show _ = _; simp
  have H : Hid (Rdr.IsRow .u8 (w.alloc (.cells #[.string ⟨#[]⟩, .int .i64 0, .int .i64 0, .string ⟨#[]⟩, .int .i64 0, .bool false, .int .i64 0] 27)) a len cap zs) := H.out.below B0.out
  generalize w.alloc (.cells #[.string ⟨#[]⟩, .int .i64 0, .int .i64 0, .string ⟨#[]⟩, .int .i64 0, .bool false, .int .i64 0] 27) = wz at HZ B0 HS H ⊢
  refine (Rdr.open_any _ _ _ _ _ H.out).mono ?_
  rintro e w1 ⟨rfl, hr, hb⟩
  have HZ : Hid (Ct w1 w.heap.size ⟨#[]⟩ 0 0 ⟨#[]⟩ 0 false 0) := HZ.out.below hb
  have BW : Hid (Below w.heap.size w w1) := B0.out.trans (hb.mono (by rw [HS.out]; omega))
  have HR : Hid (Rd w1 wz.heap.size) := hr
  have HN : Hid (w.heap.size ≠ wz.heap.size ∧ w.heap.size ≤ wz.heap.size) := by have := HS.out; exact ⟨by omega, by omega⟩
  clear hr hb H B0 HS
  generalize wz.heap.size = rd at HR HN ⊢
  go_wp2_with fail
  refine (CartD.cart_any _ _ HR.out).mono ?_
  rintro e w2 ⟨⟨rom, kind, bank, ram, rb, on, mode, z1, z2, rfl⟩, p⟩
  have HZ : Hid (Ct w2 w.heap.size ⟨#[]⟩ 0 0 ⟨#[]⟩ 0 false 0) := HZ.out.post p HN.out.1
  have BW : Hid (Below w.heap.size w w2) := BW.out.trans (p.below HN.out.2 (Nat.le_of_lt HR.out.lt))
  have HR : Hid (Rd w2 rd) := p.1
  clear p
  go_upto_region 3 with fail
  have HC : Hid (Ct (w2.alloc (.cells #[.string rom, .int .i64 kind, .int .i64 bank, .string ram, .int .i64 rb, .bool on, .int .i64 mode] 27)) w2.heap.size rom kind bank ram rb on mode) := Ct.new _ _ _ _ _ _ _ _
  have HNC : Hid (w.heap.size ≠ w2.heap.size ∧ w2.heap.size ≠ rd) := by have h1 := HZ.out.lt; have h2 := HR.out.lt; exact ⟨by omega, by omega⟩
  have HZ : Hid (Ct (w2.alloc (.cells #[.string rom, .int .i64 kind, .int .i64 bank, .string ram, .int .i64 rb, .bool on, .int .i64 mode] 27)) w.heap.size ⟨#[]⟩ 0 0 ⟨#[]⟩ 0 false 0) := HZ.out.alloc _
  have BW : Hid (Below w.heap.size w (w2.alloc (.cells #[.string rom, .int .i64 kind, .int .i64 bank, .string ram, .int .i64 rb, .bool on, .int .i64 mode] 27))) := BW.out.alloc BW.out.size _
  have HR : Hid (Rd (w2.alloc (.cells #[.string rom, .int .i64 kind, .int .i64 bank, .string ram, .int .i64 rb, .bool on, .int .i64 mode] 27)) rd) := ((Post.refl HR.out).alloc _).1
  generalize w2.alloc (.cells #[.string rom, .int .i64 kind, .int .i64 bank, .string ram, .int .i64 rb, .bool on, .int .i64 mode] 27) = w3 at HZ HC BW HR ⊢
  generalize w2.heap.size = cb at HC HNC ⊢
  refine wp_region_any (by kernel_rfl) ?_
  try (change wpAny _ _ _ _ _ _ _ (World.drew _))
  have HZ : Hid (Ct w3.drew w.heap.size ⟨#[]⟩ 0 0 ⟨#[]⟩ 0 false 0) := HZ.out
  have HC : Hid (Ct w3.drew cb rom kind bank ram rb on mode) := HC.out
  have BW : Hid (Below w.heap.size w w3.drew) := BW.out.drew
  have HR : Hid (Rd w3.drew rd) := (Post.of HR.out rfl rfl rfl rfl).1
  generalize w3.drew = w9 at HZ HC BW HR ⊢
  refine wpAny_take (i := 1) (v := ?ve1) rfl (by kernel_rfl) (by kernel_rfl) (by kernel_rfl) (fun _ _ _ h => h) (Or.inl ⟨by rfl, ?hye1⟩) ?reste1
  case hye1 => (intro w; go_simp; try with_reducible rfl)
  refine wpAny_ready (rs := [0, 2]) (by kernel_rfl) (by simp) ?_
  refine any_cons rfl (by rfl) (fun K hK => ?_) (any_cons rfl (by rfl) (fun K hK => ?_) AllReady.nil)
  · obtain ⟨c0, c1, c2, c3, c4, c5, c6⟩ := HC.out.cells
    have cf0 := HC.out.free 0
    have cf1 := HC.out.free 1
    have cf2 := HC.out.free 2
    have cf3 := HC.out.free 3
    have cf4 := HC.out.free 4
    have cf5 := HC.out.free 5
    have cf6 := HC.out.free 6
    go_simp
    refine hK _ _ ?_
    clear hK
    clear c0 c1 c2 c3 c4 c5 c6 cf0 cf1 cf2 cf3 cf4 cf5 cf6
    refine wpAny_ready (rs := [2]) (by kernel_rfl) (by simp) ?_
    refine any_cons rfl (by rfl) (fun K hK => ?_) AllReady.nil
    go_wp2_with fail
    refine (addr_any _ _ HR.out).mono ?_
    rintro e wk ⟨⟨ad, rfl⟩, p⟩
    have HZ : Hid (Ct wk w.heap.size ⟨#[]⟩ 0 0 ⟨#[]⟩ 0 false 0) := HZ.out.post p HN.out.1
    have HC : Hid (Ct wk cb rom kind bank ram rb on mode) := HC.out.post p HNC.out.2
    have BW : Hid (Below w.heap.size w wk) := BW.out.trans (p.below HN.out.2 (Nat.le_of_lt HR.out.lt))
    have HR : Hid (Rd wk rd) := p.1
    clear p
    refine hK _ _ ?_
    clear hK
    refine wpAny_ready (rs := [3]) (by kernel_rfl) (by simp) ?_
    refine any_cons rfl (by rfl) (fun K hK => ?_) AllReady.nil
    obtain ⟨r0, r1, r2, r3, r4, r5, r6⟩ := HZ.out.cells
    have rf0 := HZ.out.free 0
    have rf1 := HZ.out.free 1
    have rf2 := HZ.out.free 2
    have rf3 := HZ.out.free 3
    have rf4 := HZ.out.free 4
    have rf5 := HZ.out.free 5
    have rf6 := HZ.out.free 6
    have hne := HNC.out.1
    have hne2 : ¬ cb = w.heap.size := fun e => hne e.symm
    go_simp
    refine hK _ _ ?_
    clear hK
    refine wpAny_take (i := 4) (v := ?ve2) rfl (by kernel_rfl) (by kernel_rfl) (by kernel_rfl) (fun _ _ _ h => h) (Or.inl ⟨by rfl, ?hye2⟩) ?reste2
    case hye2 => (intro w; go_simp; try with_reducible rfl)
    refine wpAny_done (by kernel_rfl) ?_ _
    go_wp2
    exact bodyPost_ret (v := .tuple #[.agg #[.string rom, .int .i64 kind, .int .i64 bank, .string ram, .int .i64 rb, .bool on, .int .i64 mode], .int .i64 ad]) (by simp [results, Try.results15, go_sem, r0, r1, r2, r3, r4, r5, r6]) rfl ⟨⟨_, _, _, _, _, _, _, _, z1, z2, rfl⟩, below7 BW.out (Nat.le_refl _) _ _ _ _ _ _ _⟩
  · go_wp2_with fail
    refine (addr_any _ _ HR.out).mono ?_
    rintro e wk ⟨⟨ad, rfl⟩, p⟩
    have HZ : Hid (Ct wk w.heap.size ⟨#[]⟩ 0 0 ⟨#[]⟩ 0 false 0) := HZ.out.post p HN.out.1
    have HC : Hid (Ct wk cb rom kind bank ram rb on mode) := HC.out.post p HNC.out.2
    have BW : Hid (Below w.heap.size w wk) := BW.out.trans (p.below HN.out.2 (Nat.le_of_lt HR.out.lt))
    have HR : Hid (Rd wk rd) := p.1
    clear p
    refine hK _ _ ?_
    clear hK
    refine wpAny_ready (rs := [0]) (by kernel_rfl) (by simp) ?_
    refine any_cons rfl (by rfl) (fun K hK => ?_) AllReady.nil
    obtain ⟨c0, c1, c2, c3, c4, c5, c6⟩ := HC.out.cells
    have cf0 := HC.out.free 0
    have cf1 := HC.out.free 1
    have cf2 := HC.out.free 2
    have cf3 := HC.out.free 3
    have cf4 := HC.out.free 4
    have cf5 := HC.out.free 5
    have cf6 := HC.out.free 6
    go_simp
    refine hK _ _ ?_
    clear hK
    clear c0 c1 c2 c3 c4 c5 c6 cf0 cf1 cf2 cf3 cf4 cf5 cf6
    refine wpAny_ready (rs := [3]) (by kernel_rfl) (by simp) ?_
    refine any_cons rfl (by rfl) (fun K hK => ?_) AllReady.nil
    obtain ⟨r0, r1, r2, r3, r4, r5, r6⟩ := HZ.out.cells
    have rf0 := HZ.out.free 0
    have rf1 := HZ.out.free 1
    have rf2 := HZ.out.free 2
    have rf3 := HZ.out.free 3
    have rf4 := HZ.out.free 4
    have rf5 := HZ.out.free 5
    have rf6 := HZ.out.free 6
    have hne := HNC.out.1
    have hne2 : ¬ cb = w.heap.size := fun e => hne e.symm
    go_simp
    refine hK _ _ ?_
    clear hK
    refine wpAny_take (i := 4) (v := ?ve3) rfl (by kernel_rfl) (by kernel_rfl) (by kernel_rfl) (fun _ _ _ h => h) (Or.inl ⟨by rfl, ?hye3⟩) ?reste3
    case hye3 => (intro w; go_simp; try with_reducible rfl)
    refine wpAny_done (by kernel_rfl) ?_ _
    go_wp2
    exact bodyPost_ret (v := .tuple #[.agg #[.string rom, .int .i64 kind, .int .i64 bank, .string ram, .int .i64 rb, .bool on, .int .i64 mode], .int .i64 ad]) (by simp [results, Try.results15, go_sem, r0, r1, r2, r3, r4, r5, r6]) rfl ⟨⟨_, _, _, _, _, _, _, _, z1, z2, rfl⟩, below7 BW.out (Nat.le_refl _) _ _ _ _ _ _ _⟩
set_option maxHeartbeats 4000000 in
theorem drawCartWrite_any (a : Option Addr) (len cap : Nat) (zs : List Int) (w : World) (h : Rdr.IsRow .u8 w a len cap zs) :
    Calls Try.prog 19 #[.slice a len cap] w fun e w' => CartInt2 e ∧ Below w.heap.size w w' := by
  have H : Hid (Rdr.IsRow .u8 w a len cap zs) := h
  clear h
  go_enter Try.func19, Try.ntmps19
  go_wp2_with fail
  have HZ : Hid (Ct (w.alloc (.cells #[.string ⟨#[]⟩, .int .i64 0, .int .i64 0, .string ⟨#[]⟩, .int .i64 0, .bool false, .int .i64 0] 27)) w.heap.size ⟨#[]⟩ 0 0 ⟨#[]⟩ 0 false 0) := Ct.new _ _ _ _ _ _ _ _
  have B0 : Hid (Below w.heap.size w (w.alloc (.cells #[.string ⟨#[]⟩, .int .i64 0, .int .i64 0, .string ⟨#[]⟩, .int .i64 0, .bool false, .int .i64 0] 27))) := (Below.refl _ _).alloc (Nat.le_refl _) _
  have HS : Hid ((w.alloc (.cells #[.string ⟨#[]⟩, .int .i64 0, .int .i64 0, .string ⟨#[]⟩, .int .i64 0, .bool false, .int .i64 0] 27)).heap.size = w.heap.size + 1) := by show _ = _; simp
  have H : Hid (Rdr.IsRow .u8 (w.alloc (.cells #[.string ⟨#[]⟩, .int .i64 0, .int .i64 0, .string ⟨#[]⟩, .int .i64 0, .bool false, .int .i64 0] 27)) a len cap zs) := H.out.below B0.out
  generalize w.alloc (.cells #[.string ⟨#[]⟩, .int .i64 0, .int .i64 0, .string ⟨#[]⟩, .int .i64 0, .bool false, .int .i64 0] 27) = wz at HZ B0 HS H ⊢
  refine (Rdr.open_any _ _ _ _ _ H.out).mono ?_
  rintro e w1 ⟨rfl, hr, hb⟩
  have HZ : Hid (Ct w1 w.heap.size ⟨#[]⟩ 0 0 ⟨#[]⟩ 0 false 0) := HZ.out.below hb
  have BW : Hid (Below w.heap.size w w1) := B0.out.trans (hb.mono (by rw [HS.out]; omega))
  have HR : Hid (Rd w1 wz.heap.size) := hr
  have HN : Hid (w.heap.size ≠ wz.heap.size ∧ w.heap.size ≤ wz.heap.size) := by have := HS.out; exact ⟨by omega, by omega⟩
  clear hr hb H B0 HS
  generalize wz.heap.size = rd at HR HN ⊢
  go_wp2_with fail
  refine (CartD.cart_any _ _ HR.out).mono ?_
  rintro e w2 ⟨⟨rom, kind, bank, ram, rb, on, mode, z1, z2, rfl⟩, p⟩
  have HZ : Hid (Ct w2 w.heap.size ⟨#[]⟩ 0 0 ⟨#[]⟩ 0 false 0) := HZ.out.post p HN.out.1
  have BW : Hid (Below w.heap.size w w2) := BW.out.trans (p.below HN.out.2 (Nat.le_of_lt HR.out.lt))
  have HR : Hid (Rd w2 rd) := p.1
  clear p
  go_upto_region 3 with fail
  have HC : Hid (Ct (w2.alloc (.cells #[.string rom, .int .i64 kind, .int .i64 bank, .string ram, .int .i64 rb, .bool on, .int .i64 mode] 27)) w2.heap.size rom kind bank ram rb on mode) := Ct.new _ _ _ _ _ _ _ _
  have HNC : Hid (w.heap.size ≠ w2.heap.size ∧ w2.heap.size ≠ rd) := by have h1 := HZ.out.lt; have h2 := HR.out.lt; exact ⟨by omega, by omega⟩
  have HZ : Hid (Ct (w2.alloc (.cells #[.string rom, .int .i64 kind, .int .i64 bank, .string ram, .int .i64 rb, .bool on, .int .i64 mode] 27)) w.heap.size ⟨#[]⟩ 0 0 ⟨#[]⟩ 0 false 0) := HZ.out.alloc _
  have BW : Hid (Below w.heap.size w (w2.alloc (.cells #[.string rom, .int .i64 kind, .int .i64 bank, .string ram, .int .i64 rb, .bool on, .int .i64 mode] 27))) := BW.out.alloc BW.out.size _
  have HR : Hid (Rd (w2.alloc (.cells #[.string rom, .int .i64 kind, .int .i64 bank, .string ram, .int .i64 rb, .bool on, .int .i64 mode] 27)) rd) := ((Post.refl HR.out).alloc _).1
  generalize w2.alloc (.cells #[.string rom, .int .i64 kind, .int .i64 bank, .string ram, .int .i64 rb, .bool on, .int .i64 mode] 27) = w3 at HZ HC BW HR ⊢
  generalize w2.heap.size = cb at HC HNC ⊢
  go_wp2_with fail
  refine (addr_any _ _ HR.out).mono ?_
  rintro e w4 ⟨⟨ad, rfl⟩, p⟩
  have HZ : Hid (Ct w4 w.heap.size ⟨#[]⟩ 0 0 ⟨#[]⟩ 0 false 0) := HZ.out.post p HN.out.1
  have HC : Hid (Ct w4 cb rom kind bank ram rb on mode) := HC.out.post p HNC.out.2
  have BW : Hid (Below w.heap.size w w4) := BW.out.trans (p.below HN.out.2 (Nat.le_of_lt HR.out.lt))
  have HR : Hid (Rd w4 rd) := p.1
  clear p
  go_wp2_with fail
  refine (Rdr.once_any _ _ _ HR.out (by decide) (by decide)).mono ?_
  rintro e w5 ⟨⟨q, rfl⟩, p⟩
  have HZ : Hid (Ct w5 w.heap.size ⟨#[]⟩ 0 0 ⟨#[]⟩ 0 false 0) := HZ.out.post p HN.out.1
  have HC : Hid (Ct w5 cb rom kind bank ram rb on mode) := HC.out.post p HNC.out.2
  have BW : Hid (Below w.heap.size w w5) := BW.out.trans (p.below HN.out.2 (Nat.le_of_lt HR.out.lt))
  have HR : Hid (Rd w5 rd) := p.1
  clear p
  cases q with
  | true =>
    go_upto_region 5 with fail
    refine wp_region_any (by kernel_rfl) ?_
    try (change wpAny _ _ _ _ _ _ _ (World.drew _))
    have HZ : Hid (Ct w5.drew w.heap.size ⟨#[]⟩ 0 0 ⟨#[]⟩ 0 false 0) := HZ.out
    have HC : Hid (Ct w5.drew cb rom kind bank ram rb on mode) := HC.out
    have BW : Hid (Below w.heap.size w w5.drew) := BW.out.drew
    have HR : Hid (Rd w5.drew rd) := (Post.of HR.out rfl rfl rfl rfl).1
    generalize w5.drew = w9 at HZ HC BW HR ⊢
    refine wpAny_take (i := 1) (v := ?ve4) rfl (by kernel_rfl) (by kernel_rfl) (by kernel_rfl) (fun _ _ _ h => h) (Or.inl ⟨by rfl, ?hye4⟩) ?reste4
    case hye4 => (intro w; go_simp; try with_reducible rfl)
    refine wpAny_take (i := 2) (v := ?ve5) rfl (by kernel_rfl) (by kernel_rfl) (by kernel_rfl) (fun _ _ _ h => h) (Or.inl ⟨by rfl, ?hye5⟩) ?reste5
    case hye5 => (intro w; go_simp; try with_reducible rfl)
    refine wpAny_ready (rs := [0, 3]) (by kernel_rfl) (by simp) ?_
    refine any_cons rfl (by rfl) (fun K hK => ?_) (any_cons rfl (by rfl) (fun K hK => ?_) AllReady.nil)
    · obtain ⟨c0, c1, c2, c3, c4, c5, c6⟩ := HC.out.cells
      have cf0 := HC.out.free 0
      have cf1 := HC.out.free 1
      have cf2 := HC.out.free 2
      have cf3 := HC.out.free 3
      have cf4 := HC.out.free 4
      have cf5 := HC.out.free 5
      have cf6 := HC.out.free 6
      go_simp
      refine hK _ _ ?_
      clear hK
      clear c0 c1 c2 c3 c4 c5 c6 cf0 cf1 cf2 cf3 cf4 cf5 cf6
      refine wpAny_ready (rs := [3]) (by kernel_rfl) (by simp) ?_
      refine any_cons rfl (by rfl) (fun K hK => ?_) AllReady.nil
      go_wp2_with fail
      refine (Rdr.off_any _ _ _ _ HR.out (by decide) (by decide) (by decide)).mono ?_
      rintro e wk ⟨⟨y, hy, rfl⟩, p⟩
      have HZ : Hid (Ct wk w.heap.size ⟨#[]⟩ 0 0 ⟨#[]⟩ 0 false 0) := HZ.out.post p HN.out.1
      have HC : Hid (Ct wk cb rom kind bank ram rb on mode) := HC.out.post p HNC.out.2
      have BW : Hid (Below w.heap.size w wk) := BW.out.trans (p.below HN.out.2 (Nat.le_of_lt HR.out.lt))
      have HR : Hid (Rd wk rd) := p.1
      clear p
      refine hK _ _ ?_
      clear hK
      refine wpAny_ready (rs := [4]) (by kernel_rfl) (by simp) ?_
      refine any_cons rfl (by rfl) (fun K hK => ?_) AllReady.nil
      obtain ⟨r0, r1, r2, r3, r4, r5, r6⟩ := HZ.out.cells
      have rf0 := HZ.out.free 0
      have rf1 := HZ.out.free 1
      have rf2 := HZ.out.free 2
      have rf3 := HZ.out.free 3
      have rf4 := HZ.out.free 4
      have rf5 := HZ.out.free 5
      have rf6 := HZ.out.free 6
      have hne := HNC.out.1
      have hne2 : ¬ cb = w.heap.size := fun e => hne e.symm
      go_simp
      refine hK _ _ ?_
      clear hK
      refine wpAny_take (i := 5) (v := ?ve6) rfl (by kernel_rfl) (by kernel_rfl) (by kernel_rfl) (fun _ _ _ h => h) (Or.inl ⟨by rfl, ?hye6⟩) ?reste6
      case hye6 => (intro w; go_simp; try with_reducible rfl)
      refine wpAny_take (i := 6) (v := ?ve7) rfl (by kernel_rfl) (by kernel_rfl) (by kernel_rfl) (fun _ _ _ h => h) (Or.inl ⟨by rfl, ?hye7⟩) ?reste7
      case hye7 => (intro w; go_simp; try with_reducible rfl)
      refine wpAny_done (by kernel_rfl) ?_ _
      go_wp2
      exact bodyPost_ret (v := .tuple #[.agg #[.string rom, .int .i64 kind, .int .i64 bank, .string ram, .int .i64 rb, .bool on, .int .i64 mode], .int .i64 ad, .int .i64 y]) (by simp [results, Try.results19, go_sem, r0, r1, r2, r3, r4, r5, r6]) rfl ⟨⟨_, _, _, _, _, _, _, _, _, z1, z2, rfl⟩, below7 BW.out (Nat.le_refl _) _ _ _ _ _ _ _⟩
    · go_wp2_with fail
      refine (Rdr.off_any _ _ _ _ HR.out (by decide) (by decide) (by decide)).mono ?_
      rintro e wk ⟨⟨y, hy, rfl⟩, p⟩
      have HZ : Hid (Ct wk w.heap.size ⟨#[]⟩ 0 0 ⟨#[]⟩ 0 false 0) := HZ.out.post p HN.out.1
      have HC : Hid (Ct wk cb rom kind bank ram rb on mode) := HC.out.post p HNC.out.2
      have BW : Hid (Below w.heap.size w wk) := BW.out.trans (p.below HN.out.2 (Nat.le_of_lt HR.out.lt))
      have HR : Hid (Rd wk rd) := p.1
      clear p
      refine hK _ _ ?_
      clear hK
      refine wpAny_ready (rs := [0]) (by kernel_rfl) (by simp) ?_
      refine any_cons rfl (by rfl) (fun K hK => ?_) AllReady.nil
      obtain ⟨c0, c1, c2, c3, c4, c5, c6⟩ := HC.out.cells
      have cf0 := HC.out.free 0
      have cf1 := HC.out.free 1
      have cf2 := HC.out.free 2
      have cf3 := HC.out.free 3
      have cf4 := HC.out.free 4
      have cf5 := HC.out.free 5
      have cf6 := HC.out.free 6
      go_simp
      refine hK _ _ ?_
      clear hK
      clear c0 c1 c2 c3 c4 c5 c6 cf0 cf1 cf2 cf3 cf4 cf5 cf6
      refine wpAny_ready (rs := [4]) (by kernel_rfl) (by simp) ?_
      refine any_cons rfl (by rfl) (fun K hK => ?_) AllReady.nil
      obtain ⟨r0, r1, r2, r3, r4, r5, r6⟩ := HZ.out.cells
      have rf0 := HZ.out.free 0
      have rf1 := HZ.out.free 1
      have rf2 := HZ.out.free 2
      have rf3 := HZ.out.free 3
      have rf4 := HZ.out.free 4
      have rf5 := HZ.out.free 5
      have rf6 := HZ.out.free 6
      have hne := HNC.out.1
      have hne2 : ¬ cb = w.heap.size := fun e => hne e.symm
      go_simp
      refine hK _ _ ?_
      clear hK
      refine wpAny_take (i := 5) (v := ?ve8) rfl (by kernel_rfl) (by kernel_rfl) (by kernel_rfl) (fun _ _ _ h => h) (Or.inl ⟨by rfl, ?hye8⟩) ?reste8
      case hye8 => (intro w; go_simp; try with_reducible rfl)
      refine wpAny_take (i := 6) (v := ?ve9) rfl (by kernel_rfl) (by kernel_rfl) (by kernel_rfl) (fun _ _ _ h => h) (Or.inl ⟨by rfl, ?hye9⟩) ?reste9
      case hye9 => (intro w; go_simp; try with_reducible rfl)
      refine wpAny_done (by kernel_rfl) ?_ _
      go_wp2
      exact bodyPost_ret (v := .tuple #[.agg #[.string rom, .int .i64 kind, .int .i64 bank, .string ram, .int .i64 rb, .bool on, .int .i64 mode], .int .i64 ad, .int .i64 y]) (by simp [results, Try.results19, go_sem, r0, r1, r2, r3, r4, r5, r6]) rfl ⟨⟨_, _, _, _, _, _, _, _, _, z1, z2, rfl⟩, below7 BW.out (Nat.le_refl _) _ _ _ _ _ _ _⟩
  | false =>
    go_upto_region 6 with fail
    refine wp_region_any (by kernel_rfl) ?_
    try (change wpAny _ _ _ _ _ _ _ (World.drew _))
    have HZ : Hid (Ct w5.drew w.heap.size ⟨#[]⟩ 0 0 ⟨#[]⟩ 0 false 0) := HZ.out
    have HC : Hid (Ct w5.drew cb rom kind bank ram rb on mode) := HC.out
    have BW : Hid (Below w.heap.size w w5.drew) := BW.out.drew
    have HR : Hid (Rd w5.drew rd) := (Post.of HR.out rfl rfl rfl rfl).1
    generalize w5.drew = w9 at HZ HC BW HR ⊢
    refine wpAny_take (i := 1) (v := ?ve10) rfl (by kernel_rfl) (by kernel_rfl) (by kernel_rfl) (fun _ _ _ h => h) (Or.inl ⟨by rfl, ?hye10⟩) ?reste10
    case hye10 => (intro w; go_simp; try with_reducible rfl)
    refine wpAny_take (i := 2) (v := ?ve11) rfl (by kernel_rfl) (by kernel_rfl) (by kernel_rfl) (fun _ _ _ h => h) (Or.inl ⟨by rfl, ?hye11⟩) ?reste11
    case hye11 => (intro w; go_simp; try with_reducible rfl)
    refine wpAny_ready (rs := [0, 3]) (by kernel_rfl) (by simp) ?_
    refine any_cons rfl (by rfl) (fun K hK => ?_) (any_cons rfl (by rfl) (fun K hK => ?_) AllReady.nil)
    · obtain ⟨c0, c1, c2, c3, c4, c5, c6⟩ := HC.out.cells
      have cf0 := HC.out.free 0
      have cf1 := HC.out.free 1
      have cf2 := HC.out.free 2
      have cf3 := HC.out.free 3
      have cf4 := HC.out.free 4
      have cf5 := HC.out.free 5
      have cf6 := HC.out.free 6
      go_simp
      refine hK _ _ ?_
      clear hK
      clear c0 c1 c2 c3 c4 c5 c6 cf0 cf1 cf2 cf3 cf4 cf5 cf6
      refine wpAny_ready (rs := [3]) (by kernel_rfl) (by simp) ?_
      refine any_cons rfl (by rfl) (fun K hK => ?_) AllReady.nil
      go_wp2_with fail
      refine (Rdr.byte_any _ _ HR.out).mono ?_
      rintro e wk ⟨⟨y, y0, y1, rfl⟩, p⟩
      have HZ : Hid (Ct wk w.heap.size ⟨#[]⟩ 0 0 ⟨#[]⟩ 0 false 0) := HZ.out.post p HN.out.1
      have HC : Hid (Ct wk cb rom kind bank ram rb on mode) := HC.out.post p HNC.out.2
      have BW : Hid (Below w.heap.size w wk) := BW.out.trans (p.below HN.out.2 (Nat.le_of_lt HR.out.lt))
      have HR : Hid (Rd wk rd) := p.1
      clear p
      refine hK _ _ ?_
      clear hK
      refine wpAny_ready (rs := [4]) (by kernel_rfl) (by simp) ?_
      refine any_cons rfl (by rfl) (fun K hK => ?_) AllReady.nil
      obtain ⟨r0, r1, r2, r3, r4, r5, r6⟩ := HZ.out.cells
      have rf0 := HZ.out.free 0
      have rf1 := HZ.out.free 1
      have rf2 := HZ.out.free 2
      have rf3 := HZ.out.free 3
      have rf4 := HZ.out.free 4
      have rf5 := HZ.out.free 5
      have rf6 := HZ.out.free 6
      have hne := HNC.out.1
      have hne2 : ¬ cb = w.heap.size := fun e => hne e.symm
      go_simp
      refine hK _ _ ?_
      clear hK
      refine wpAny_take (i := 5) (v := ?ve12) rfl (by kernel_rfl) (by kernel_rfl) (by kernel_rfl) (fun _ _ _ h => h) (Or.inl ⟨by rfl, ?hye12⟩) ?reste12
      case hye12 => (intro w; go_simp; try with_reducible rfl)
      refine wpAny_take (i := 6) (v := ?ve13) rfl (by kernel_rfl) (by kernel_rfl) (by kernel_rfl) (fun _ _ _ h => h) (Or.inl ⟨by rfl, ?hye13⟩) ?reste13
      case hye13 => (intro w; go_simp; try with_reducible rfl)
      refine wpAny_done (by kernel_rfl) ?_ _
      go_wp2
      exact bodyPost_ret (v := .tuple #[.agg #[.string rom, .int .i64 kind, .int .i64 bank, .string ram, .int .i64 rb, .bool on, .int .i64 mode], .int .i64 ad, .int .i64 y]) (by simp [results, Try.results19, go_sem, r0, r1, r2, r3, r4, r5, r6]) rfl ⟨⟨_, _, _, _, _, _, _, _, _, z1, z2, rfl⟩, below7 BW.out (Nat.le_refl _) _ _ _ _ _ _ _⟩
    · go_wp2_with fail
      refine (Rdr.byte_any _ _ HR.out).mono ?_
      rintro e wk ⟨⟨y, y0, y1, rfl⟩, p⟩
      have HZ : Hid (Ct wk w.heap.size ⟨#[]⟩ 0 0 ⟨#[]⟩ 0 false 0) := HZ.out.post p HN.out.1
      have HC : Hid (Ct wk cb rom kind bank ram rb on mode) := HC.out.post p HNC.out.2
      have BW : Hid (Below w.heap.size w wk) := BW.out.trans (p.below HN.out.2 (Nat.le_of_lt HR.out.lt))
      have HR : Hid (Rd wk rd) := p.1
      clear p
      refine hK _ _ ?_
      clear hK
      refine wpAny_ready (rs := [0]) (by kernel_rfl) (by simp) ?_
      refine any_cons rfl (by rfl) (fun K hK => ?_) AllReady.nil
      obtain ⟨c0, c1, c2, c3, c4, c5, c6⟩ := HC.out.cells
      have cf0 := HC.out.free 0
      have cf1 := HC.out.free 1
      have cf2 := HC.out.free 2
      have cf3 := HC.out.free 3
      have cf4 := HC.out.free 4
      have cf5 := HC.out.free 5
      have cf6 := HC.out.free 6
      go_simp
      refine hK _ _ ?_
      clear hK
      clear c0 c1 c2 c3 c4 c5 c6 cf0 cf1 cf2 cf3 cf4 cf5 cf6
      refine wpAny_ready (rs := [4]) (by kernel_rfl) (by simp) ?_
      refine any_cons rfl (by rfl) (fun K hK => ?_) AllReady.nil
      obtain ⟨r0, r1, r2, r3, r4, r5, r6⟩ := HZ.out.cells
      have rf0 := HZ.out.free 0
      have rf1 := HZ.out.free 1
      have rf2 := HZ.out.free 2
      have rf3 := HZ.out.free 3
      have rf4 := HZ.out.free 4
      have rf5 := HZ.out.free 5
      have rf6 := HZ.out.free 6
      have hne := HNC.out.1
      have hne2 : ¬ cb = w.heap.size := fun e => hne e.symm
      go_simp
      refine hK _ _ ?_
      clear hK
      refine wpAny_take (i := 5) (v := ?ve14) rfl (by kernel_rfl) (by kernel_rfl) (by kernel_rfl) (fun _ _ _ h => h) (Or.inl ⟨by rfl, ?hye14⟩) ?reste14
      case hye14 => (intro w; go_simp; try with_reducible rfl)
      refine wpAny_take (i := 6) (v := ?ve15) rfl (by kernel_rfl) (by kernel_rfl) (by kernel_rfl) (fun _ _ _ h => h) (Or.inl ⟨by rfl, ?hye15⟩) ?reste15
      case hye15 => (intro w; go_simp; try with_reducible rfl)
      refine wpAny_done (by kernel_rfl) ?_ _
      go_wp2
      exact bodyPost_ret (v := .tuple #[.agg #[.string rom, .int .i64 kind, .int .i64 bank, .string ram, .int .i64 rb, .bool on, .int .i64 mode], .int .i64 ad, .int .i64 y]) (by simp [results, Try.results19, go_sem, r0, r1, r2, r3, r4, r5, r6]) rfl ⟨⟨_, _, _, _, _, _, _, _, _, z1, z2, rfl⟩, below7 BW.out (Nat.le_refl _) _ _ _ _ _ _ _⟩
end Go.Proofs.Ytllpkidfldmbnaa.CartE
