/-
  Of ours: a cart in a block, read on; the laws' sameCart; what the draws of carts can answer (chapter 5).
-/
import Derived.Test.YtllpkidfldmbnaaCartY
import Derived.Test.YtllpkidfldmbnaaCartS
import Derived.Test.YtllpkidfldmbnaaDrawP
namespace Go.Proofs.Ytllpkidfldmbnaa.CartZ
open Go.ChangeShapes Go.WideShapes Go.ChangeAt Go.RowKit Go.Deep
open Rdr (Rd Post)
open Signed (inB)
open Carts CartK CartL CartM CartN CartS
set_option linter.unusedVariables false
set_option maxRecDepth 20000

/-- The block B is such a cart. -/
def Ct (w : World) (B : Nat) (rom : ByteArray) (kind bank : Int) (ram : ByteArray) (rb : Int) (on : Bool) (mode : Int) : Prop := w.heap[B]? = some (.cells #[.string rom, .int .i64 kind, .int .i64 bank, .string ram, .int .i64 rb, .bool on, .int .i64 mode] 27 (0, 0))
theorem Ct.lt {w : World} {B : Nat} {rom : ByteArray} {kind bank : Int} {ram : ByteArray} {rb : Int} {on : Bool} {mode : Int} (x : Ct w B rom kind bank ram rb on mode) : B < w.heap.size := lt_of_block x
theorem Ct.cells {w : World} {B : Nat} {rom : ByteArray} {kind bank : Int} {ram : ByteArray} {rb : Int} {on : Bool} {mode : Int} (x : Ct w B rom kind bank ram rb on mode) : w.cell? ⟨B, 0, none⟩ = some (.string rom) ∧ w.cell? ⟨B, 1, none⟩ = some (.int .i64 kind) ∧ w.cell? ⟨B, 2, none⟩ = some (.int .i64 bank) ∧ w.cell? ⟨B, 3, none⟩ = some (.string ram) ∧ w.cell? ⟨B, 4, none⟩ = some (.int .i64 rb) ∧ w.cell? ⟨B, 5, none⟩ = some (.bool on) ∧ w.cell? ⟨B, 6, none⟩ = some (.int .i64 mode) := by
  unfold Ct at x
  unfold World.cell?
  simp only [x]
  exact ⟨rfl, rfl, rfl, rfl, rfl, rfl, rfl⟩
theorem Ct.free {w : World} {B : Nat} {rom : ByteArray} {kind bank : Int} {ram : ByteArray} {rb : Int} {on : Bool} {mode : Int} (x : Ct w B rom kind bank ram rb on mode) (i : Nat) : w.frozen? ⟨B, i, none⟩ = false := by
  unfold Ct at x
  unfold World.frozen?
  simp only [x]
  simp
theorem Ct.kept {w w' : World} {B : Nat} {rom : ByteArray} {kind bank : Int} {ram : ByteArray} {rb : Int} {on : Bool} {mode : Int} (x : Ct w B rom kind bank ram rb on mode) (hk : w'.heap[B]? = w.heap[B]?) : Ct w' B rom kind bank ram rb on mode := hk.trans x
theorem Ct.below {w w' : World} {B : Nat} {rom : ByteArray} {kind bank : Int} {ram : ByteArray} {rb : Int} {on : Bool} {mode : Int} (x : Ct w B rom kind bank ram rb on mode) (b : Below w.heap.size w w') : Ct w' B rom kind bank ram rb on mode := x.kept (b.block B x.lt)
theorem Ct.alloc {w : World} {B : Nat} {rom : ByteArray} {kind bank : Int} {ram : ByteArray} {rb : Int} {on : Bool} {mode : Int} (x : Ct w B rom kind bank ram rb on mode) (o : Obj) : Ct (w.alloc o) B rom kind bank ram rb on mode := x.kept (Below.heap_alloc _ _ _ x.lt)
theorem Ct.new (w : World) (rom : ByteArray) (kind bank : Int) (ram : ByteArray) (rb : Int) (on : Bool) (mode : Int) : Ct (w.alloc (.cells #[.string rom, .int .i64 kind, .int .i64 bank, .string ram, .int .i64 rb, .bool on, .int .i64 mode] 27)) w.heap.size rom kind bank ram rb on mode := heap_alloc_new _ _
theorem Ct.post {w w' : World} {rd B : Nat} {rom : ByteArray} {kind bank : Int} {ram : ByteArray} {rb : Int} {on : Bool} {mode : Int} (x : Ct w B rom kind bank ram rb on mode) (p : Post w rd w') (hne : B ≠ rd) : Ct w' B rom kind bank ram rb on mode := x.kept (p.2.block B x.lt (fun e => hne (Option.some.inj e)))
theorem sameCart_any (rom : ByteArray) (kind bank : Int) (ram : ByteArray) (rb : Int) (on : Bool) (mode : Int) (w : World) : Calls Try.prog 11 #[.agg #[.string rom, .int .i64 kind, .int .i64 bank, .string ram, .int .i64 rb, .bool on, .int .i64 mode], .agg #[.string rom, .int .i64 kind, .int .i64 bank, .string ram, .int .i64 rb, .bool on, .int .i64 mode]] w fun e w' => e = .returned (.bool true) ∧ Below w.heap.size w w' := by
  go_enter Try.func11, Try.ntmps11
  go_wp2
  go_ret
  exact ⟨rfl, ((Below.refl _ _).alloc (Nat.le_refl _) _).alloc (by simp) _⟩
theorem implNew (rom : ByteArray) (kind : Int) (w : World) (hs : rom.size ≤ maxLen) : Calls Try.prog 9 #[.string rom, .int .i64 kind] w fun e w' => e = .returned (.tuple #[if newB rom kind = true then newCart rom kind else noCart, .bool (newB rom kind)]) ∧ Below w.heap.size w w' :=
  (implNew_any rom kind w hs _ rfl).mono (by
    rintro e w' ⟨rfl, o1, o2, o3, o4, rfl | ⟨o5, o6, rfl⟩⟩
    · exact ⟨rfl, by repeat (with_reducible first | exact Below.refl _ _ | refine CartL.grow ?_ _ | refine below_drewN ?_ _ | refine Below.drew ?_)⟩
    · exact ⟨rfl, by repeat (with_reducible first | exact Below.refl _ _ | refine CartL.grow ?_ _ | refine below_drewN ?_ _ | refine Below.drew ?_)⟩)
theorem specNew (rom : ByteArray) (kind : Int) (w : World) (hs : rom.size ≤ maxLen) : Calls Try.prog 10 #[.string rom, .int .i64 kind] w fun e w' => e = .returned (.tuple #[if newB rom kind = true then newCart rom kind else noCart, .bool (newB rom kind)]) ∧ Below w.heap.size w w' :=
  (specNew_any rom kind w hs _ rfl).mono (by
    rintro e w' ⟨rfl, o1, o2, o3, o4, rfl⟩
    exact ⟨rfl, by repeat (with_reducible first | exact Below.refl _ _ | refine CartL.grow ?_ _ | refine below_drewN ?_ _ | refine Below.drew ?_)⟩)
/-- What a new cart reads. -/
theorem new_reads (rom : ByteArray) (kind : Int) (h : newB rom kind = true) : (∀ i : Nat, i < 512 → ∃ hi : i < rom.size, readV rom kind 1 (Z 256) 0 false 0 i = (rom[i].toNat : Int)) ∧ readV rom kind 1 (Z 256) 0 false 0 40960 = 255 ∧ mappedV rom kind 1 (Z 256) 0 false 0 = 1 ∧ okB rom kind 1 (Z 256) 0 false 0 = true := by
  have h' : okB rom kind 1 (Z 256) 0 false 0 = true := h
  obtain ⟨n, n0, n1, hn, hb, _⟩ := right _ _ _ _ _ _ _ h'
  have hm : (1 : Int) % banks rom.size = 1 := by rw [hb]; exact Int.emod_eq_of_lt (by omega) (by omega)
  refine ⟨fun i hi => ⟨by omega, ?_⟩, ?_, ?_, h'⟩
  · unfold readV
    rw [if_pos ⟨h', decide_eq_true (by omega)⟩, hm]
    unfold CartR.rdV
    by_cases h2 : i < 256
    · rw [if_pos (by omega)]
      have := CartR.byteAt_eq (s := rom) (i := (i : Int)) (by omega)
      rw [← this]; simp
    · rw [if_neg (by omega), if_pos (by omega), show (1 : Int) * 256 + (i : Int) - 256 = (i : Int) by omega]
      have := CartR.byteAt_eq (s := rom) (i := (i : Int)) (by omega)
      rw [← this]; simp
  · unfold readV
    rw [if_pos ⟨h', by decide⟩]
    unfold CartR.rdV
    rw [if_neg (by decide), if_neg (by decide), if_neg (by simp)]
  · unfold mappedV
    rw [if_pos h', hm]
def TwoN (e : Ending) : Prop := ∃ (s : ByteArray) (k : Int), s.size ≤ 1024 ∧ e = .returned (.tuple #[.string s, .int .i64 k])
theorem drawCartNew_any (a : Option Addr) (len cap : Nat) (zs : List Int) (w : World) (h : Rdr.IsRow .u8 w a len cap zs) :
    Calls Try.prog 8 #[.slice a len cap] w fun e w' => TwoN e ∧ Below w.heap.size w w' := by
  have H : Hid (Rdr.IsRow .u8 w a len cap zs) := h
  clear h
  go_enter Try.func8, Try.ntmps8
  go_wp2_with fail
  refine (Rdr.open_any _ _ _ _ _ H.out).mono ?_
  rintro e w1 ⟨rfl, hr, hb⟩
  have HR : Hid (Rd w1 w.heap.size) := hr
  have B1 : Hid (Below w.heap.size w w1) := hb
  have hlt := hr.lt
  clear hr hb
  generalize hB : w.heap.size = rb at HR B1 hlt ⊢
  go_wp2_with fail
  refine (DrawP.rom_any _ _ HR.out).mono ?_
  rintro e w2 ⟨⟨s, hs, rfl⟩, p2⟩
  have HP : Hid (Post w1 rb w2) := p2
  clear p2
  go_wp2_with fail
  refine (Rdr.off_any _ _ _ _ HP.out.1 (by decide) (by decide) (by decide)).mono ?_
  rintro e w3 ⟨⟨k, hk, rfl⟩, p3⟩
  have HP : Hid (Post w1 rb w3) := HP.out.trans p3
  clear p3
  go_wp2
  go_ret2
  exact ⟨⟨s, k, hs, rfl⟩, by rw [hB]; exact B1.out.trans (HP.out.below (Nat.le_refl _) (Nat.le_of_lt hlt))⟩
end Go.Proofs.Ytllpkidfldmbnaa.CartZ
