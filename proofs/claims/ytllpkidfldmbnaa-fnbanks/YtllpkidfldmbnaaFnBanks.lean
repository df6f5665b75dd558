/- For every code the law FnBanks answers true: a byte written at 130 into the drawn cart is taken by impl.CartWrite just where spec.CartWrite takes it, and the bank that impl.MappedBank tells afterwards is the one that the cart's kind asks; the code reads afterwards as it read before; no condition. -/
import Derived.Test.YtllpkidfldmbnaaRows
import Derived.WalkKit
import Derived.ProofKit
import Derived.OpenShut
import Derived.ShutString
import Derived.ChangeOld
import Derived.Below
import Derived.Test.YtllpkidfldmbnaaCartE
import Derived.Deep.Cut
namespace Go.Proofs.Ytllpkidfldmbnaa.fnBanks
open Go.ChangeShapes Go.WideShapes Go.ChangeAt Go.RowKit
open Go.ChangeMaps (open_string shut_string)
set_option linter.unusedVariables false

theorem own : ownKnob Try.prog.godebug = none := by kernel_rfl
theorem laidOut : laidOutB Try.prog = true := by kernel_rfl
/-- What the walk is told of a slice of bytes that came in: it is nil; or it leads to a row of cells, the numbers zs, each fitting its kind. -/
def IsRow (k : IntKind) (w : World) (a : Option Addr) (len cap : Nat) (zs : List Int) : Prop :=
  (a = none ∧ len = 0 ∧ cap = 0 ∧ zs = []) ∨
  ∃ x, a = some x ∧ len ≤ cap ∧ cap ≤ maxLen ∧ zs.length = cap ∧ (∀ i, i < zs.length → w.cell? (x.add i) = some (.int k (zs.getD i 0))) ∧ ∀ n ∈ zs, (Lit.int k n).wf = true
set_option maxRecDepth 20000
open CartZ CartE
open Signed (inB)
theorem toRow {k : IntKind} {w : World} {a : Option Addr} {len cap : Nat} {zs : List Int} (h : IsRow k w a len cap zs) : Rdr.IsRow k w a len cap zs := h
theorem after {a w w' : World} (h : Below a.heap.size a w) (k : Below w.heap.size w w') : Below a.heap.size a w' := h.trans (k.mono h.size)
theorem bank_fact (rom : ByteArray) (kind bank : Int) (ram : ByteArray) (rb : Int) (on : Bool) (mode v : Int) (h : Carts.okB rom kind bank ram rb on mode = true) (v0 : 0 ≤ v) (v1 : v ≤ 255) :
    ∃ (n : Nat) (b M : Int), 2 ≤ n ∧ n ≤ 16 ∧ rom.size = 256 * n ∧ CartY.wrote rom kind bank ram rb on mode 130 v = .agg #[.string rom, .int .i64 kind, .int .i64 b, .string ram, .int .i64 rb, .bool on, .int .i64 mode] ∧ CartM.mappedV rom kind b ram rb on mode = M ∧ 0 ≤ M ∧ M ≤ 255 ∧
      (kind = 0 ∧ M = 1 ∨ kind = 2 ∧ M = v % n ∨ kind = 1 ∧ v % 32 = 0 ∧ M = 1 % n ∨ kind = 1 ∧ ¬ v % 32 = 0 ∧ M = (v % 32) % n) := by
  obtain ⟨n, n0, n1, hn, hbk, hm, b0, b1, r0, r1, m0, m1, hk⟩ := CartM.right rom kind bank ram rb on mode h
  have e1 : CartY.wRam kind ram rb on mode 130 v = ram := by unfold CartY.wRam; rw [if_neg (by omega)]
  have e2 : CartY.wRb kind rb 130 v = rb := by unfold CartY.wRb; rw [if_neg (by omega)]
  have e3 : CartY.wOn kind on 130 v = on := by unfold CartY.wOn; rw [if_neg (by omega)]
  have e4 : CartY.wMode kind mode 130 v = mode := by unfold CartY.wMode; rw [if_neg (by omega)]
  have hmod : ∀ x : Int, 0 ≤ x % (n : Int) ∧ x % (n : Int) ≤ 255 := fun x => by
    have h1 := Int.emod_nonneg x (by omega : (n : Int) ≠ 0)
    have h2 := Int.emod_lt_of_pos x (by omega : (0 : Int) < n)
    omega
  have hold : ∀ b : Int, Carts.heldB kind b rb on mode = true → CartM.mappedV rom kind b ram rb on mode = b % n := fun b hb => by
    unfold CartM.mappedV
    have h' := h
    simp only [Carts.okB, Bool.and_eq_true, beq_iff_eq] at h'
    rw [if_pos (by simp only [Carts.okB, Bool.and_eq_true, beq_iff_eq]; exact ⟨⟨hb, h'.1.2⟩, h'.2⟩), hbk]
  have hh : Carts.heldB kind bank rb on mode = true := by
    have h' := h
    simp only [Carts.okB, Bool.and_eq_true] at h'
    exact h'.1.1
  have one : (1 : Int) % (n : Int) = 1 := Int.emod_eq_of_lt (by omega) (by omega)
  refine ⟨n, CartY.wBank kind bank 130 v, CartM.mappedV rom kind (CartY.wBank kind bank 130 v) ram rb on mode, n0, n1, hn, by unfold CartY.wrote; rw [e1, e2, e3, e4], rfl, ?_⟩
  rcases hk with ⟨rfl, hon⟩ | rfl | ⟨rfl, hmode⟩
  · have hb : CartY.wBank 0 bank 130 v = bank := by unfold CartY.wBank; rw [if_pos (by omega), if_neg (by omega), if_neg (by omega)]
    have b1' : bank = 1 := by
      unfold Carts.heldB at hh
      rw [if_pos rfl] at hh
      exact (of_decide_eq_true hh).1
    rw [hb, hold bank hh, b1', one]
    exact ⟨by omega, by omega, .inl ⟨rfl, rfl⟩⟩
  · have hb : CartY.wBank 1 bank 130 v = CartW.bank1 v := by unfold CartY.wBank; rw [if_pos (by omega), if_pos rfl]
    have hh2 : Carts.heldB 1 (CartW.bank1 v) rb on mode = true := by
      unfold Carts.heldB at hh ⊢
      rw [if_neg (by omega), if_pos rfl] at hh ⊢
      simp only [Bool.and_eq_true] at hh ⊢
      refine ⟨⟨?_, hh.1.2⟩, hh.2⟩
      unfold CartW.bank1 inB
      split <;> exact decide_eq_true (by omega)
    rw [hb, hold _ hh2]
    refine ⟨(hmod _).1, (hmod _).2, ?_⟩
    unfold CartW.bank1
    by_cases hz : v % 32 = 0
    · exact .inr (.inr (.inl ⟨rfl, hz, by rw [if_pos (by omega)]⟩))
    · exact .inr (.inr (.inr ⟨rfl, hz, by rw [if_neg (by omega)]⟩))
  · have hb : CartY.wBank 2 bank 130 v = v := by unfold CartY.wBank; rw [if_pos (by omega), if_neg (by omega), if_pos rfl]
    have hh2 : Carts.heldB 2 v rb on mode = true := by
      unfold Carts.heldB at hh ⊢
      rw [if_neg (by omega), if_neg (by omega), if_pos rfl] at hh ⊢
      simp only [Bool.and_eq_true] at hh ⊢
      exact ⟨⟨decide_eq_true ⟨v0, v1⟩, hh.1.2⟩, hh.2⟩
    rw [hb, hold _ hh2]
    exact ⟨(hmod _).1, (hmod _).2, .inr (.inl ⟨rfl, rfl⟩)⟩

set_option maxHeartbeats 2000000 in
theorem walk (w : World) (a0 : Option Addr) (len0 cap0 : Nat) (z0 : List Int) (w0 : IsRow .u8 w a0 len0 cap0 z0) :
    Calls Try.prog 6 #[.slice a0 len0 cap0] w fun e w' => e = .returned (.bool true) ∧ Below w.heap.size w w' := by
  have H : Hid (Rdr.IsRow .u8 w a0 len0 cap0 z0) := toRow w0
  clear w0
  have cb := Rdr.big_any a0 len0 cap0 w H.out.len
  by_cases hbig : Rdr.bigB len0 = true
  · rw [hbig] at cb
    go_enter Try.func6, Try.ntmps6
    go_wp2_with (go_at_call 7; refine cb.mono ?_; rintro e w' ⟨rfl, rfl⟩)
    go_ret
    exact ⟨rfl, Below.refl _ _⟩
  have hbig : Rdr.bigB len0 = false := by simpa using hbig
  rw [hbig] at cb
  go_enter Try.func6, Try.ntmps6
  go_wp2_with fail
  refine cb.mono ?_
  rintro e wa ⟨rfl, rfl⟩
  go_wp2_with fail
  refine (drawCartWrite_any _ _ _ _ _ H.out).mono ?_
  rintro e w1 ⟨⟨rom, kind, bank, ram, rb, on, mode, ad, v, hs, hr, rfl⟩, b1⟩
  have B1 : Hid (Below wa.heap.size wa w1) := b1
  clear b1 H cb
  have hz : rom.size ≤ maxLen := by unfold maxLen; omega
  have hzr : ram.size ≤ maxLen := by unfold maxLen; omega
  have ci := fun w => CartY.implWrite_any rom kind bank ram rb on mode 130 v w hz hzr
  have cs := fun w => CartY.specWrite_any rom kind bank ram rb on mode 130 v w hz hzr
  go_upto_region 4 with fail
  have HC : Hid (Ct (w1.alloc (.cells #[.string rom, .int .i64 kind, .int .i64 bank, .string ram, .int .i64 rb, .bool on, .int .i64 mode] 27)) w1.heap.size rom kind bank ram rb on mode) := Ct.new _ _ _ _ _ _ _ _
  have BW : Hid (Below wa.heap.size wa (w1.alloc (.cells #[.string rom, .int .i64 kind, .int .i64 bank, .string ram, .int .i64 rb, .bool on, .int .i64 mode] 27))) := B1.out.alloc B1.out.size _
  clear B1
  generalize w1.alloc (.cells #[.string rom, .int .i64 kind, .int .i64 bank, .string ram, .int .i64 rb, .bool on, .int .i64 mode] 27) = w2 at HC BW ⊢
  generalize w1.heap.size = B at HC ⊢
  obtain ⟨c0, c1, c2, c3, c4, c5, c6⟩ := HC.out.cells
  by_cases hc : Carts.okB rom kind bank ram rb on mode = true ∧ inB 130 0 65535 = true ∧ inB v 0 255 = true
  rotate_left
  · have e : CartY.back rom kind bank ram rb on mode 130 v = .tuple #[.agg #[.string ⟨#[]⟩, .int .i64 0, .int .i64 0, .string ⟨#[]⟩, .int .i64 0, .bool false, .int .i64 0], .bool false] := by unfold CartY.back; rw [if_neg hc]; rfl
    rw [e] at ci cs
    clear e hc
    go_wp2_with fail
    refine (ci _).mono ?_
    rintro e w3 ⟨rfl, b3⟩
    have HC := HC.out.below b3
    have BW : Hid (Below wa.heap.size wa w3) := after BW.out b3
    have HC : Hid (Ct _ _ _ _ _ _ _ _ _) := HC
    clear b3 c0 c1 c2 c3 c4 c5 c6
    have HC := HC.out.alloc (.cells #[.string ⟨#[]⟩, .int .i64 0, .int .i64 0, .string ⟨#[]⟩, .int .i64 0, .bool false, .int .i64 0] 27)
    have BW : Hid (Below wa.heap.size wa (w3.alloc (.cells #[.string ⟨#[]⟩, .int .i64 0, .int .i64 0, .string ⟨#[]⟩, .int .i64 0, .bool false, .int .i64 0] 27))) := BW.out.alloc BW.out.size _
    go_upto_region 5 with fail
    generalize w3.alloc (.cells #[.string ⟨#[]⟩, .int .i64 0, .int .i64 0, .string ⟨#[]⟩, .int .i64 0, .bool false, .int .i64 0] 27) = w4 at HC BW ⊢
    obtain ⟨c0, c1, c2, c3, c4, c5, c6⟩ := HC.cells
    go_wp2_with fail
    refine (cs _).mono ?_
    rintro e w5 ⟨rfl, b5⟩
    have BW : Hid (Below wa.heap.size wa w5) := after BW.out b5
    clear b5 c0 c1 c2 c3 c4 c5 c6
    go_wp2
    go_ret
    exact ⟨rfl, BW.out.alloc BW.out.size _⟩
  have e0 : CartY.back rom kind bank ram rb on mode 130 v = .tuple #[CartY.wrote rom kind bank ram rb on mode 130 v, .bool true] := by unfold CartY.back; rw [if_pos hc]
  obtain ⟨v0, v1⟩ := of_decide_eq_true hc.2.2
  obtain ⟨n, b, M, n0, n1, hn, ew, hM, M0, M1, hcase⟩ := bank_fact rom kind bank ram rb on mode v hc.1 v0 v1
  rw [ew] at e0
  rw [e0] at ci cs
  have cm := fun w => CartM.implMapped_any rom kind b ram rb on mode w hz hzr
  rw [hM] at cm
  clear e0 ew hM hc
  go_wp2_with fail
  refine (ci _).mono ?_
  rintro e w3 ⟨rfl, b3⟩
  have HC : Hid (Ct w3 B rom kind bank ram rb on mode) := HC.out.below b3
  have BW : Hid (Below wa.heap.size wa w3) := after BW.out b3
  clear b3 c0 c1 c2 c3 c4 c5 c6
  have HC : Hid (Ct (w3.alloc (.cells #[.string rom, .int .i64 kind, .int .i64 b, .string ram, .int .i64 rb, .bool on, .int .i64 mode] 27)) B rom kind bank ram rb on mode) := HC.out.alloc _
  have HD : Hid (Ct (w3.alloc (.cells #[.string rom, .int .i64 kind, .int .i64 b, .string ram, .int .i64 rb, .bool on, .int .i64 mode] 27)) w3.heap.size rom kind b ram rb on mode) := Ct.new _ _ _ _ _ _ _ _
  have BW : Hid (Below wa.heap.size wa (w3.alloc (.cells #[.string rom, .int .i64 kind, .int .i64 b, .string ram, .int .i64 rb, .bool on, .int .i64 mode] 27))) := BW.out.alloc BW.out.size _
  go_upto_region 5 with fail
  generalize w3.alloc (.cells #[.string rom, .int .i64 kind, .int .i64 b, .string ram, .int .i64 rb, .bool on, .int .i64 mode] 27) = w4 at HC HD BW ⊢
  generalize w3.heap.size = D at HD ⊢
  obtain ⟨c0, c1, c2, c3, c4, c5, c6⟩ := HC.out.cells
  go_wp2_with fail
  refine (cs _).mono ?_
  rintro e w5 ⟨rfl, b5⟩
  have HC : Hid (Ct w5 B rom kind bank ram rb on mode) := HC.out.below b5
  have HD : Hid (Ct w5 D rom kind b ram rb on mode) := HD.out.below b5
  have BW : Hid (Below wa.heap.size wa w5) := after BW.out b5
  clear b5 c0 c1 c2 c3 c4 c5 c6 ci cs
  have HC : Hid (Ct (w5.alloc (.cells #[.string rom, .int .i64 kind, .int .i64 b, .string ram, .int .i64 rb, .bool on, .int .i64 mode] 27)) B rom kind bank ram rb on mode) := HC.out.alloc _
  have HD : Hid (Ct (w5.alloc (.cells #[.string rom, .int .i64 kind, .int .i64 b, .string ram, .int .i64 rb, .bool on, .int .i64 mode] 27)) D rom kind b ram rb on mode) := HD.out.alloc _
  have BW : Hid (Below wa.heap.size wa (w5.alloc (.cells #[.string rom, .int .i64 kind, .int .i64 b, .string ram, .int .i64 rb, .bool on, .int .i64 mode] 27))) := BW.out.alloc BW.out.size _
  go_upto_region 6 with fail
  generalize w5.alloc (.cells #[.string rom, .int .i64 kind, .int .i64 b, .string ram, .int .i64 rb, .bool on, .int .i64 mode] 27) = w6 at HC HD BW ⊢
  obtain ⟨c0, c1, c2, c3, c4, c5, c6⟩ := HC.out.cells
  obtain ⟨d0, d1, d2, d3, d4, d5, d6⟩ := HD.out.cells
  have hq : Int.tdiv (rom.size : Int) 256 = (n : Int) := by rw [Int.tdiv_eq_ediv_of_nonneg (by omega)]; omega
  have hnz : ¬ (n : Int) = 0 := by omega
  have wn : IntKind.i64.wrap (n : Int) = (n : Int) := by rw [IntKind.wrap_i64]; omega
  have wM : IntKind.i64.wrap M = M := by rw [IntKind.wrap_i64]; omega
  clear hs hn
  go_wp2_with fail
  refine (cm _).mono ?_
  rintro e w7 ⟨rfl, b7⟩
  have HC : Hid (Ct w7 B rom kind bank ram rb on mode) := HC.out.below b7
  have BW : Hid (Below wa.heap.size wa w7) := after BW.out b7
  clear b7 cm c0 c1 c2 c3 c4 c5 c6 d0 d1 d2 d3 d4 d5 d6 HD
  obtain ⟨c0, c1, c2, c3, c4, c5, c6⟩ := HC.out.cells
  rcases hcase with ⟨rfl, hM⟩ | ⟨rfl, hM⟩ | ⟨rfl, hz, hM⟩ | ⟨rfl, hz, hM⟩
  · subst hM
    go_wp2
    go_ret
    exact ⟨rfl, BW.out⟩
  · have ht : Int.tmod v (n : Int) = M := by rw [Int.tmod_eq_emod_of_nonneg v0, hM]
    clear hM
    go_wp2
    go_ret
    exact ⟨by first | rfl | simp, BW.out⟩
  · have h32 : Int.tmod v 32 = 0 := by rw [Int.tmod_eq_emod_of_nonneg v0, hz]
    have ht : Int.tmod 1 (n : Int) = M := by rw [Int.tmod_eq_emod_of_nonneg (by decide), hM]
    clear hM
    go_wp2
    go_ret
    exact ⟨by first | rfl | simp, BW.out⟩
  · have h32 : Int.tmod v 32 = v % 32 := by rw [Int.tmod_eq_emod_of_nonneg v0]
    have c32 : 0 ≤ v % 32 ∧ v % 32 < 32 := by omega
    generalize v % 32 = c at *
    have ht : Int.tmod c (n : Int) = M := by rw [Int.tmod_eq_emod_of_nonneg c32.1, hM]
    have wc : IntKind.i64.wrap c = c := by rw [IntKind.wrap_i64]; omega
    clear hM
    go_wp2
    go_ret
    exact ⟨by first | rfl | simp, BW.out⟩

set_option maxRecDepth 100000 in
theorem lifted (os : Os) (started : os.Started) (H : Type) (enc : TypeId × Value → H) :
    ReturnsInHanded {} Try.checked os 6 .any (Rows.fnBanksSpec.pre6 enc Try.prog Try.f6 Rows.fnBanksRow.domain false) (Rows.fnBanksSpec.post enc Try.prog Try.f6 false true false false) := by
  refine returnsInHanded_of_change (C := Try.checked) own started (by kernel_rfl) Try.func6
    (ChangeSpec.witness6 (enc := enc) (C := Try.checked) false ⟨#[], #[.slice none 0 0], []⟩ 8 (by kernel_rfl) (by kernel_rfl) (by kernel_rfl) (by kernel_rfl)) ?_
  intro W base args ds gs before hval0 hW hcnd _
  have hval : ∀ (j : Nat) t v, Try.f6.params[j]? = some t → args[j]? = some v → Value.okWide Try.prog W .any base t v := hval0
  have hW' := hW
  obtain ⟨p, q, hA0, hV, rfl, hfz, hnd⟩ := hW
  have hA : DataW.TrodAll enc Try.prog W 0 (fun _ => true) true Try.f6.params.toList args.toList ds p := hA0
  rw [Try.params6] at hA hval
  obtain ⟨v0, vs0, d0, ds0, p0, q0, hargs, rfl, rfl, h0, r0⟩ := trodAll_cons hA
  obtain ⟨rfl, rfl, rfl⟩ := trodAll_nil r0
  obtain rfl : args = #[v0] := by cases args; simp_all
  obtain ⟨rfl, rfl⟩ := trodVars_none hV
  obtain ⟨a0, len0, cap0, rfl⟩ := okWide_slice Try.underlying22 (hval 0 22 v0 rfl rfl)
  have k0 := h0
  have lt0 : ∀ x ∈ p0, x.block < W.heap.size := by obtain ⟨m, hm⟩ := k0; exact DataW.trod_lt m _ _ _ hm
  obtain ⟨z0, w0⟩ : ∃ zs, IsRow .u8 W a0 len0 cap0 zs := by
    obtain ⟨fuel, hf⟩ := h0
    rcases open_ints Try.underlying22 Try.underlying5 (by kernel_rfl) hf with ⟨hcs, _⟩ | ⟨x, l, c, zs, hcs, _, hl, hm, hz, _, hcell, hwz⟩
    · simp [Value.cells] at hcs
      obtain ⟨rfl, rfl, rfl⟩ := hcs
      exact ⟨[], .inl ⟨rfl, rfl, rfl, rfl⟩⟩
    · simp [Value.cells] at hcs
      obtain ⟨rfl, rfl, rfl⟩ := hcs
      exact ⟨zs, .inr ⟨_, rfl, hl, hm, by simpa using hz, hcell, hwz⟩⟩
  clear hA0 hval0
  refine (walk W a0 len0 cap0 z0 w0).mono fun e W' ⟨he, bel⟩ => ?_
  subst he
  exact ⟨_, rfl, _, _, _, [], _, [], hW', trodAll_mk1 (shut_bool Try.underlying4 _), (trodAll_cons_mk (Below.trod laidOut (by kernel_rfl) (of_decide_eq_true (by kernel_rfl)) k0 bel lt0) trodAll_mk0), rfl, bel.frame _, fun h => by cases h⟩

theorem over : Rows.fnBanksRow.holds Try.pinned (OpenSpec.ofChange Rows.fnBanksSpec) :=
  OpenClaim.holds_of_wide 6 Try.f6 rfl rfl rfl rfl rfl rfl rfl ⟨rfl, rfl, rfl, rfl, rfl⟩ rfl rfl rfl rfl rfl (by kernel_rfl) Try.func6 (by kernel_rfl)
    (of_decide_eq_true (by kernel_rfl)) (by unfold Func.isWrapper; first | (rw [if_pos (by decide +kernel)]; kernel_rfl) | (rw [if_neg (by decide +kernel)]; exact ⟨rfl, rfl⟩))
    (fun os started H enc _ => lifted os started H enc)
end Go.Proofs.Ytllpkidfldmbnaa.fnBanks
namespace Go.Proofs.Ytllpkidfldmbnaa
theorem fnBanks_holds : Rows.FnBanksSaid := fnBanks.over
end Go.Proofs.Ytllpkidfldmbnaa
