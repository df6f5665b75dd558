/- For every code the law FnCartWrites answers true: of the drawn cart, address and byte impl.CartWrite answers as spec.CartWrite does; a cart that was written is right, its rom is as it was, its ram too but for the one byte that was written, and a plain cart never changes; the code reads afterwards as it read before; no condition. -/
import Derived.Test.YtllpkidfldmbnaaRows
import Derived.WalkKit
import Derived.ProofKit
import Derived.OpenShut
import Derived.ShutString
import Derived.ChangeOld
import Derived.Below
import Derived.Test.YtllpkidfldmbnaaCartE
import Derived.Deep.Cut
namespace Go.Proofs.Ytllpkidfldmbnaa.fnCartWrites
open Go.ChangeShapes Go.WideShapes Go.ChangeAt Go.RowKit
open Go.ChangeMaps (open_string shut_string)
set_option linter.unusedVariables false

theorem own : ownKnob Try.prog.godebug = none := by kernel_rfl
theorem laidOut : laidOutB Try.prog = true := by kernel_rfl
/-- What the walk is told of a slice of bytes that came in: it is nil; or it leads to a row of cells, the numbers zs, each fitting its kind. -/
def IsRow (k : IntKind) (w : World) (a : Option Addr) (len cap : Nat) (zs : List Int) : Prop :=
  (a = none ∧ len = 0 ∧ cap = 0 ∧ zs = []) ∨
  ∃ x, a = some x ∧ len ≤ cap ∧ cap ≤ maxLen ∧ zs.length = cap ∧ (∀ i, i < zs.length → w.cell? (x.add i) = some (.int k (zs.getD i 0))) ∧ ∀ n ∈ zs, (Lit.int k n).wf = true
set_option maxRecDepth 20000
open CartZ CartE
open Signed (inB)
theorem toRow {k : IntKind} {w : World} {a : Option Addr} {len cap : Nat} {zs : List Int} (h : IsRow k w a len cap zs) : Rdr.IsRow k w a len cap zs := h
theorem after {a w w' : World} (h : Below a.heap.size a w) (k : Below w.heap.size w w') : Below a.heap.size a w' := h.trans (k.mono h.size)
theorem put_at (s : ByteArray) (i k v : Int) (hi : i.toNat < s.size) (i0 : 0 ≤ i) (k0 : 0 ≤ k) (v0 : 0 ≤ v) (v1 : v ≤ 255) : CartR.byteAt (CartP.putB s i v) k = if k = i then v else CartR.byteAt s k := by
  unfold CartR.byteAt
  have hsz := CartP.putB_size s i v
  by_cases e : k = i
  · subst e
    rw [if_pos rfl, dif_pos (by rw [hsz]; exact hi)]
    have hl : k.toNat < s.data.toList.length := by simpa using hi
    have : ((CartP.putB s k v)[k.toNat]'(by rw [hsz]; exact hi)) = UInt8.ofNat v.toNat := by
      simp [CartP.putB, ByteArray.getElem_eq_getElem_data]
    rw [this]
    simp
    omega
  · rw [if_neg e]
    by_cases hk : k.toNat < s.size
    · rw [dif_pos (by rw [hsz]; exact hk), dif_pos hk]
      have : ((CartP.putB s i v)[k.toNat]'(by rw [hsz]; exact hk)) = s[k.toNat] := by
        have hne : ¬ i.toNat = k.toNat := by omega
        simp [CartP.putB, ByteArray.getElem_eq_getElem_data, hne]
      rw [this]
    · rw [dif_neg (by rw [hsz]; exact hk), dif_neg hk]
theorem write_fact (rom : ByteArray) (kind bank : Int) (ram : ByteArray) (rb : Int) (on : Bool) (mode ad v : Int) (h : Carts.okB rom kind bank ram rb on mode = true) (a0 : 0 ≤ ad) (a1 : ad ≤ 65535) (v0 : 0 ≤ v) (v1 : v ≤ 255) :
    ∃ (b : Int) (m : ByteArray) (r : Int) (o : Bool) (md : Int), CartY.wrote rom kind bank ram rb on mode ad v = .agg #[.string rom, .int .i64 kind, .int .i64 b, .string m, .int .i64 r, .bool o, .int .i64 md] ∧ m.size = 256 ∧ Carts.okB rom kind b m r o md = true ∧
      (kind = 0 → b = bank ∧ m = ram ∧ r = rb ∧ o = on ∧ md = mode ∧ on = false) ∧ (¬ (on = true ∧ 40960 ≤ ad ∧ ad < 41024) → m = ram) ∧
      (on = true ∧ 40960 ≤ ad ∧ ad < 41024 → ∀ j : Int, 40960 ≤ j → j < 41024 → CartS.readV rom kind b m r o md j = if j = ad then v else CartS.readV rom kind bank ram rb on mode j) := by
  obtain ⟨n, n0, n1, hn, hbk, hm, b0, b1, r0, r1, m0, m1, hk⟩ := CartM.right rom kind bank ram rb on mode h
  have hms : (CartY.wRam kind ram rb on mode ad v).size = 256 := by
    unfold CartY.wRam
    repeat' split
    all_goals first | exact hm | (rw [CartP.putB_size]; exact hm)
  have hh : Carts.heldB kind bank rb on mode = true ∧ Carts.romB rom.size = true := by
    have h' := h
    simp only [Carts.okB, Bool.and_eq_true] at h'
    exact h'.1
  have hok : Carts.okB rom kind (CartY.wBank kind bank ad v) (CartY.wRam kind ram rb on mode ad v) (CartY.wRb kind rb ad v) (CartY.wOn kind on ad v) (CartY.wMode kind mode ad v) = true := by
    simp only [Carts.okB, Bool.and_eq_true, beq_iff_eq]
    refine ⟨⟨?_, hh.2⟩, hms⟩
    have g := hh.1
    unfold Carts.heldB at g ⊢
    rcases hk with ⟨rfl, hon⟩ | rfl | ⟨rfl, hmode⟩
    · rw [if_pos rfl] at g ⊢
      have g := of_decide_eq_true g
      refine decide_eq_true ⟨?_, ?_, ?_, ?_⟩
      · unfold CartY.wBank; split
        · rw [if_neg (by omega), if_neg (by omega)]; exact g.1
        · exact g.1
      · unfold CartY.wRb; rw [if_neg (by omega)]; exact g.2.1
      · unfold CartY.wMode; rw [if_neg (by omega)]; exact g.2.2.1
      · unfold CartY.wOn; rw [if_neg (by omega)]; exact g.2.2.2
    · rw [if_neg (by omega), if_pos rfl] at g ⊢
      simp only [Bool.and_eq_true] at g ⊢
      have g1 := of_decide_eq_true g.1.1
      have g2 := of_decide_eq_true g.1.2
      have g3 := of_decide_eq_true g.2
      refine ⟨⟨decide_eq_true ?_, decide_eq_true ?_⟩, decide_eq_true ?_⟩
      · unfold CartY.wBank; split
        · rw [if_pos rfl]; unfold CartW.bank1; split <;> omega
        · exact g1
      · unfold CartY.wRb; split
        · omega
        · exact g2
      · unfold CartY.wMode; split
        · omega
        · exact g3
    · rw [if_neg (by omega), if_neg (by omega), if_pos rfl] at g ⊢
      simp only [Bool.and_eq_true, beq_iff_eq] at g ⊢
      have g1 := of_decide_eq_true g.1.1
      have g2 := of_decide_eq_true g.1.2
      refine ⟨⟨decide_eq_true ?_, decide_eq_true ?_⟩, ?_⟩
      · unfold CartY.wBank; split
        · rw [if_neg (by omega), if_pos rfl]; omega
        · exact g1
      · unfold CartY.wRb; split
        · omega
        · exact g2
      · unfold CartY.wMode; rw [if_neg (by omega)]; exact g.2
  refine ⟨CartY.wBank kind bank ad v, CartY.wRam kind ram rb on mode ad v, CartY.wRb kind rb ad v, CartY.wOn kind on ad v, CartY.wMode kind mode ad v, rfl, hms, hok, ?_, ?_, ?_⟩
  · rintro rfl
    have hon : on = false := by
      rcases hk with ⟨_, hon⟩ | hk | ⟨hk, _⟩
      · exact hon
      · exact absurd hk (by decide)
      · exact absurd hk (by decide)
    subst hon
    refine ⟨?_, ?_, ?_, ?_, ?_, rfl⟩
    · unfold CartY.wBank; split
      · rw [if_neg (by omega), if_neg (by omega)]
      · rfl
    · unfold CartY.wRam; split
      · rw [if_neg (by simp)]
      · rfl
    · unfold CartY.wRb; rw [if_neg (by omega)]
    · unfold CartY.wOn; rw [if_neg (by omega)]
    · unfold CartY.wMode; rw [if_neg (by omega)]
  · intro hno
    unfold CartY.wRam
    by_cases h1 : 40960 ≤ ad ∧ ad < 41024
    · rw [if_pos h1, if_neg (fun e => hno ⟨e, h1.1, h1.2⟩)]
    · rw [if_neg h1]
  · rintro ⟨rfl, y0, y1⟩ j j0 j1
    have e1 : CartY.wBank kind bank ad v = bank := by unfold CartY.wBank; rw [if_neg (by omega)]
    have e2 : CartY.wRb kind rb ad v = rb := by unfold CartY.wRb; rw [if_neg (by omega)]
    have e3 : CartY.wOn kind true ad v = true := by unfold CartY.wOn; rw [if_neg (by omega)]
    have e4 : CartY.wMode kind mode ad v = mode := by unfold CartY.wMode; rw [if_neg (by omega)]
    have e5 : CartY.wRam kind ram rb true mode ad v = CartP.putB ram (CartR.ramQ kind rb mode * 64 + ad - 40960) v := by unfold CartY.wRam; rw [if_pos ⟨y0, y1⟩, if_pos rfl]
    rw [e1, e2, e3, e4, e5] at hok ⊢
    have hj : inB j 0 65535 = true := decide_eq_true (by omega)
    obtain ⟨q0, q1⟩ := CartR.ramQ_bd (kind := kind) (mode := mode) r0 r1
    have hD : CartS.readV rom kind bank (CartP.putB ram (CartR.ramQ kind rb mode * 64 + ad - 40960) v) rb true mode j = CartR.byteAt (CartP.putB ram (CartR.ramQ kind rb mode * 64 + ad - 40960) v) (CartR.ramQ kind rb mode * 64 + j - 40960) := by
      unfold CartS.readV
      rw [if_pos ⟨hok, hj⟩]
      unfold CartR.rdV
      rw [if_neg (by omega), if_neg (by omega), if_pos ⟨rfl, j0, j1⟩]
    have hC : CartS.readV rom kind bank ram rb true mode j = CartR.byteAt ram (CartR.ramQ kind rb mode * 64 + j - 40960) := by
      unfold CartS.readV
      rw [if_pos ⟨h, hj⟩]
      unfold CartR.rdV
      rw [if_neg (by omega), if_neg (by omega), if_pos ⟨rfl, j0, j1⟩]
    rw [hD, hC, put_at ram _ _ v (by omega) (by omega) (by omega) v0 v1]
    by_cases e : j = ad
    · rw [if_pos (by omega), if_pos e]
    · rw [if_neg (by omega), if_neg e]

set_option maxHeartbeats 2000000 in
theorem walk (w : World) (a0 : Option Addr) (len0 cap0 : Nat) (z0 : List Int) (w0 : IsRow .u8 w a0 len0 cap0 z0) :
    Calls Try.prog 5 #[.slice a0 len0 cap0] w fun e w' => e = .returned (.bool true) ∧ Below w.heap.size w w' := by
  have H : Hid (Rdr.IsRow .u8 w a0 len0 cap0 z0) := toRow w0
  clear w0
  have cb := Rdr.big_any a0 len0 cap0 w H.out.len
  by_cases hbig : Rdr.bigB len0 = true
  · rw [hbig] at cb
    go_enter Try.func5, Try.ntmps5
    go_wp2_with (go_at_call 7; refine cb.mono ?_; rintro e w' ⟨rfl, rfl⟩)
    go_ret
    exact ⟨rfl, Below.refl _ _⟩
  have hbig : Rdr.bigB len0 = false := by simpa using hbig
  rw [hbig] at cb
  go_enter Try.func5, Try.ntmps5
  go_wp2_with fail
  refine cb.mono ?_
  rintro e wa ⟨rfl, rfl⟩
  go_wp2_with fail
  refine (drawCartWrite_any _ _ _ _ _ H.out).mono ?_
  rintro e w1 ⟨⟨rom, kind, bank, ram, rb, on, mode, ad, v, hs, hr, rfl⟩, b1⟩
  have B1 : Hid (Below wa.heap.size wa w1) := b1
  clear b1 H cb
  have hz : rom.size ≤ maxLen := by unfold maxLen; omega
  have hzr : ram.size ≤ maxLen := by unfold maxLen; omega
  have ci := fun w => CartY.implWrite_any rom kind bank ram rb on mode ad v w hz hzr
  have cs := fun w => CartY.specWrite_any rom kind bank ram rb on mode ad v w hz hzr
  go_upto_region 4 with fail
  have HC : Hid (Ct (w1.alloc (.cells #[.string rom, .int .i64 kind, .int .i64 bank, .string ram, .int .i64 rb, .bool on, .int .i64 mode] 27)) w1.heap.size rom kind bank ram rb on mode) := Ct.new _ _ _ _ _ _ _ _
  have BW : Hid (Below wa.heap.size wa (w1.alloc (.cells #[.string rom, .int .i64 kind, .int .i64 bank, .string ram, .int .i64 rb, .bool on, .int .i64 mode] 27))) := B1.out.alloc B1.out.size _
  clear B1
  generalize w1.alloc (.cells #[.string rom, .int .i64 kind, .int .i64 bank, .string ram, .int .i64 rb, .bool on, .int .i64 mode] 27) = w2 at HC BW ⊢
  generalize w1.heap.size = B at HC ⊢
  obtain ⟨c0, c1, c2, c3, c4, c5, c6⟩ := HC.out.cells
  by_cases hc : Carts.okB rom kind bank ram rb on mode = true ∧ inB ad 0 65535 = true ∧ inB v 0 255 = true
  rotate_left
  · have e : CartY.back rom kind bank ram rb on mode ad v = .tuple #[.agg #[.string ⟨#[]⟩, .int .i64 0, .int .i64 0, .string ⟨#[]⟩, .int .i64 0, .bool false, .int .i64 0], .bool false] := by unfold CartY.back; rw [if_neg hc]; rfl
    rw [e] at ci cs
    clear e hc
    have ce := fun w => sameCart_any ⟨#[]⟩ 0 0 ⟨#[]⟩ 0 false 0 w
    go_wp2_with fail
    refine (ci _).mono ?_
    rintro e w3 ⟨rfl, b3⟩
    have HC : Hid (Ct w3 B rom kind bank ram rb on mode) := HC.out.below b3
    have BW : Hid (Below wa.heap.size wa w3) := after BW.out b3
    clear b3 c0 c1 c2 c3 c4 c5 c6
    have HC : Hid (Ct (w3.alloc (.cells #[.string ⟨#[]⟩, .int .i64 0, .int .i64 0, .string ⟨#[]⟩, .int .i64 0, .bool false, .int .i64 0] 27)) B rom kind bank ram rb on mode) := HC.out.alloc _
    have HD : Hid (Ct (w3.alloc (.cells #[.string ⟨#[]⟩, .int .i64 0, .int .i64 0, .string ⟨#[]⟩, .int .i64 0, .bool false, .int .i64 0] 27)) w3.heap.size ⟨#[]⟩ 0 0 ⟨#[]⟩ 0 false 0) := Ct.new _ _ _ _ _ _ _ _
    have BW : Hid (Below wa.heap.size wa (w3.alloc (.cells #[.string ⟨#[]⟩, .int .i64 0, .int .i64 0, .string ⟨#[]⟩, .int .i64 0, .bool false, .int .i64 0] 27))) := BW.out.alloc BW.out.size _
    go_upto_region 5 with fail
    generalize w3.alloc (.cells #[.string ⟨#[]⟩, .int .i64 0, .int .i64 0, .string ⟨#[]⟩, .int .i64 0, .bool false, .int .i64 0] 27) = w4 at HC HD BW ⊢
    generalize w3.heap.size = D at HD ⊢
    obtain ⟨c0, c1, c2, c3, c4, c5, c6⟩ := HC.out.cells
    go_wp2_with fail
    refine (cs _).mono ?_
    rintro e w5 ⟨rfl, b5⟩
    have HD : Hid (Ct w5 D ⟨#[]⟩ 0 0 ⟨#[]⟩ 0 false 0) := HD.out.below b5
    have BW : Hid (Below wa.heap.size wa w5) := after BW.out b5
    clear b5 c0 c1 c2 c3 c4 c5 c6
    have HE : Hid (Ct (w5.alloc (.cells #[.string ⟨#[]⟩, .int .i64 0, .int .i64 0, .string ⟨#[]⟩, .int .i64 0, .bool false, .int .i64 0] 27)) w5.heap.size ⟨#[]⟩ 0 0 ⟨#[]⟩ 0 false 0) := Ct.new _ _ _ _ _ _ _ _
    have HD : Hid (Ct (w5.alloc (.cells #[.string ⟨#[]⟩, .int .i64 0, .int .i64 0, .string ⟨#[]⟩, .int .i64 0, .bool false, .int .i64 0] 27)) D ⟨#[]⟩ 0 0 ⟨#[]⟩ 0 false 0) := HD.out.alloc _
    have BW : Hid (Below wa.heap.size wa (w5.alloc (.cells #[.string ⟨#[]⟩, .int .i64 0, .int .i64 0, .string ⟨#[]⟩, .int .i64 0, .bool false, .int .i64 0] 27))) := BW.out.alloc BW.out.size _
    go_upto_region 6 with fail
    generalize w5.alloc (.cells #[.string ⟨#[]⟩, .int .i64 0, .int .i64 0, .string ⟨#[]⟩, .int .i64 0, .bool false, .int .i64 0] 27) = w6 at HD HE BW ⊢
    generalize w5.heap.size = E at HE ⊢
    obtain ⟨d0, d1, d2, d3, d4, d5, d6⟩ := HD.out.cells
    obtain ⟨e0, e1, e2, e3, e4, e5, e6⟩ := HE.out.cells
    go_wp2_with fail
    refine (ce _).mono ?_
    rintro e w7 ⟨rfl, b7⟩
    have HD : Hid (Ct w7 D ⟨#[]⟩ 0 0 ⟨#[]⟩ 0 false 0) := HD.out.below b7
    have HE : Hid (Ct w7 E ⟨#[]⟩ 0 0 ⟨#[]⟩ 0 false 0) := HE.out.below b7
    have BW : Hid (Below wa.heap.size wa w7) := after BW.out b7
    clear b7 d0 d1 d2 d3 d4 d5 d6 e0 e1 e2 e3 e4 e5 e6
    obtain ⟨d0, d1, d2, d3, d4, d5, d6⟩ := HD.out.cells
    obtain ⟨e0, e1, e2, e3, e4, e5, e6⟩ := HE.out.cells
    go_wp2_with fail
    refine (ce _).mono ?_
    rintro e w8 ⟨rfl, b8⟩
    have BW : Hid (Below wa.heap.size wa w8) := after BW.out b8
    clear b8 d0 d1 d2 d3 d4 d5 d6 e0 e1 e2 e3 e4 e5 e6
    go_wp2
    go_ret
    exact ⟨rfl, BW.out⟩
  have e0 : CartY.back rom kind bank ram rb on mode ad v = .tuple #[CartY.wrote rom kind bank ram rb on mode ad v, .bool true] := by unfold CartY.back; rw [if_pos hc]
  obtain ⟨v0, v1⟩ := of_decide_eq_true hc.2.2
  obtain ⟨a0, a1⟩ := of_decide_eq_true hc.2.1
  obtain ⟨b, m, r, o, md, ew, hms, hok, f1, f2, f3⟩ := write_fact rom kind bank ram rb on mode ad v hc.1 a0 a1 v0 v1
  rw [ew] at e0
  rw [e0] at ci cs
  have ce := fun w => sameCart_any rom kind b m r o md w
  have hzm : m.size ≤ maxLen := by unfold maxLen; omega
  have co := fun w => CartL.implOk_any rom kind b m r o md w hz hzm
  rw [hok] at co
  have rC := fun j w => CartS.implRead_any rom kind bank ram rb on mode j w hz hzr
  have rD := fun j w => CartS.implRead_any rom kind b m r o md j w hz hzm
  have F1 : Hid (kind = 0 → b = bank ∧ m = ram ∧ r = rb ∧ o = on ∧ md = mode ∧ on = false) := f1
  have F2 : Hid (¬ (on = true ∧ 40960 ≤ ad ∧ ad < 41024) → m = ram) := f2
  have F3 : Hid (on = true ∧ 40960 ≤ ad ∧ ad < 41024 → ∀ j : Int, 40960 ≤ j → j < 41024 → CartS.readV rom kind b m r o md j = if j = ad then v else CartS.readV rom kind bank ram rb on mode j) := f3
  clear e0 ew hc hok f1 f2 f3 hs hr hms
  go_wp2_with fail
  refine (ci _).mono ?_
  rintro e w3 ⟨rfl, b3⟩
  have HC : Hid (Ct w3 B rom kind bank ram rb on mode) := HC.out.below b3
  have BW : Hid (Below wa.heap.size wa w3) := after BW.out b3
  clear b3 c0 c1 c2 c3 c4 c5 c6
  have HC : Hid (Ct (w3.alloc (.cells #[.string rom, .int .i64 kind, .int .i64 b, .string m, .int .i64 r, .bool o, .int .i64 md] 27)) B rom kind bank ram rb on mode) := HC.out.alloc _
  have HD : Hid (Ct (w3.alloc (.cells #[.string rom, .int .i64 kind, .int .i64 b, .string m, .int .i64 r, .bool o, .int .i64 md] 27)) w3.heap.size rom kind b m r o md) := Ct.new _ _ _ _ _ _ _ _
  have BW : Hid (Below wa.heap.size wa (w3.alloc (.cells #[.string rom, .int .i64 kind, .int .i64 b, .string m, .int .i64 r, .bool o, .int .i64 md] 27))) := BW.out.alloc BW.out.size _
  go_upto_region 5 with fail
  generalize w3.alloc (.cells #[.string rom, .int .i64 kind, .int .i64 b, .string m, .int .i64 r, .bool o, .int .i64 md] 27) = w4 at HC HD BW ⊢
  generalize w3.heap.size = D at HD ⊢
  obtain ⟨c0, c1, c2, c3, c4, c5, c6⟩ := HC.out.cells
  go_wp2_with fail
  refine (cs _).mono ?_
  rintro e w5 ⟨rfl, b5⟩
  have HC : Hid (Ct w5 B rom kind bank ram rb on mode) := HC.out.below b5
  have HD : Hid (Ct w5 D rom kind b m r o md) := HD.out.below b5
  have BW : Hid (Below wa.heap.size wa w5) := after BW.out b5
  clear b5 c0 c1 c2 c3 c4 c5 c6 ci cs
  have HE : Hid (Ct (w5.alloc (.cells #[.string rom, .int .i64 kind, .int .i64 b, .string m, .int .i64 r, .bool o, .int .i64 md] 27)) w5.heap.size rom kind b m r o md) := Ct.new _ _ _ _ _ _ _ _
  have HC : Hid (Ct (w5.alloc (.cells #[.string rom, .int .i64 kind, .int .i64 b, .string m, .int .i64 r, .bool o, .int .i64 md] 27)) B rom kind bank ram rb on mode) := HC.out.alloc _
  have HD : Hid (Ct (w5.alloc (.cells #[.string rom, .int .i64 kind, .int .i64 b, .string m, .int .i64 r, .bool o, .int .i64 md] 27)) D rom kind b m r o md) := HD.out.alloc _
  have BW : Hid (Below wa.heap.size wa (w5.alloc (.cells #[.string rom, .int .i64 kind, .int .i64 b, .string m, .int .i64 r, .bool o, .int .i64 md] 27))) := BW.out.alloc BW.out.size _
  go_upto_region 6 with fail
  generalize w5.alloc (.cells #[.string rom, .int .i64 kind, .int .i64 b, .string m, .int .i64 r, .bool o, .int .i64 md] 27) = w6 at HC HD HE BW ⊢
  generalize w5.heap.size = E at HE ⊢
  obtain ⟨d0, d1, d2, d3, d4, d5, d6⟩ := HD.out.cells
  obtain ⟨e0, e1, e2, e3, e4, e5, e6⟩ := HE.out.cells
  go_wp2_with fail
  refine (ce _).mono ?_
  rintro e w7 ⟨rfl, b7⟩
  have HC : Hid (Ct w7 B rom kind bank ram rb on mode) := HC.out.below b7
  have HD : Hid (Ct w7 D rom kind b m r o md) := HD.out.below b7
  have BW : Hid (Below wa.heap.size wa w7) := after BW.out b7
  clear b7 d0 d1 d2 d3 d4 d5 d6 e0 e1 e2 e3 e4 e5 e6 HE
  go_upto_region 8 with fail
  by_cases hR : on = true ∧ 40960 ≤ ad ∧ ad < 41024
  · have G3 : Hid (∀ j : Int, 40960 ≤ j → j < 41024 → CartS.readV rom kind b m r o md j = if j = ad then v else CartS.readV rom kind bank ram rb on mode j) := F3.out hR
    clear F3
    obtain ⟨rfl, y0, y1⟩ := hR
    have hk : ¬ kind = 0 := fun e => absurd (F1.out e).2.2.2.2.2 (by decide)
    have y0d : decide (40960 ≤ ad) = true := decide_eq_true y0
    have y1d : decide (ad < 41024) = true := decide_eq_true y1
    have hkd : (kind != 0) = true := by simpa using hk
    clear F1 F2
    obtain ⟨c0, c1, c2, c3, c4, c5, c6⟩ := HC.out.cells
    go_upto_region 9 with fail
    clear c0 c1 c2 c3 c4 c5 c6
    go_wp2_with fail
    go_loopw [11] (fun i wr => ∃ j : Int, 40960 ≤ j ∧ j ≤ 41024 ∧ i = .int .i64 j ∧ Hid (Ct wr B rom kind bank ram rb true mode) ∧ Hid (Ct wr D rom kind b m r o md) ∧ Hid (Below wa.heap.size wa wr)) (fun i _ => (41024 - intOf i).toNat)
    case atStart => exact ⟨40960, by omega, by omega, rfl, HC, HD, BW⟩
    case round =>
    clear HC HD BW
    obtain ⟨j, j0, j1, rfl, HC, HD, BW⟩ := hrel
    rename World => wl
    obtain ⟨c0, c1, c2, c3, c4, c5, c6⟩ := HC.out.cells
    obtain ⟨d0, d1, d2, d3, d4, d5, d6⟩ := HD.out.cells
    by_cases hj : j < 41024
    · have hjd : decide (j < 41024) = true := decide_eq_true hj
      have f := G3.out j j0 hj
      have r1 := fun w => rC j w
      have r2 := fun w => rD j w
      generalize CartS.readV rom kind bank ram rb true mode j = x1 at *
      generalize CartS.readV rom kind b m r o md j = x2 at *
      go_wp2_with fail
      refine (r1 _).mono ?_
      rintro e wm ⟨rfl, bm⟩
      have HC : Hid (Ct wm B rom kind bank ram rb true mode) := HC.out.below bm
      have HD : Hid (Ct wm D rom kind b m r o md) := HD.out.below bm
      have BW : Hid (Below wa.heap.size wa wm) := after BW.out bm
      clear bm c0 c1 c2 c3 c4 c5 c6 d0 d1 d2 d3 d4 d5 d6 r1
      obtain ⟨d0, d1, d2, d3, d4, d5, d6⟩ := HD.out.cells
      have hwj : IntKind.i64.wrap (j + 1) = j + 1 := by rw [IntKind.wrap_i64]; omega
      by_cases hja : j = ad
      · have hjb : (j == ad) = true := by simpa using hja
        rw [if_pos hja] at f
        subst f
        clear hja
        go_wp2_with fail
        refine (r2 _).mono ?_
        rintro e wn ⟨rfl, bn⟩
        have HC : Hid (Ct wn B rom kind bank ram rb true mode) := HC.out.below bn
        have HD : Hid (Ct wn D rom kind b m r o md) := HD.out.below bn
        have BW : Hid (Below wa.heap.size wa wn) := after BW.out bn
        clear bn d0 d1 d2 d3 d4 d5 d6 r2
        go_wp2
        go_roundw
        case rel => exact ⟨j + 1, by omega, by omega, by first | rfl | go_num, HC, HD, BW⟩
        case measure => simp [intOf]; omega
      · have hjb : (j == ad) = false := by simpa using hja
        rw [if_neg hja] at f
        subst f
        clear hja
        go_wp2_with fail
        refine (r2 _).mono ?_
        rintro e wn ⟨rfl, bn⟩
        have HC : Hid (Ct wn B rom kind bank ram rb true mode) := HC.out.below bn
        have HD : Hid (Ct wn D rom kind b m r o md) := HD.out.below bn
        have BW : Hid (Below wa.heap.size wa wn) := after BW.out bn
        clear bn d0 d1 d2 d3 d4 d5 d6 r2
        go_wp2
        go_roundw
        case rel => exact ⟨j + 1, by omega, by omega, by first | rfl | go_num, HC, HD, BW⟩
        case measure => simp [intOf]; omega
    · have hjd : decide (j < 41024) = false := decide_eq_false hj
      clear rC rD G3
      go_wp2_with fail
      refine (co _).mono ?_
      rintro e wm ⟨rfl, bm⟩
      have HC : Hid (Ct wm B rom kind bank ram rb true mode) := HC.out.below bm
      have HD : Hid (Ct wm D rom kind b m r o md) := HD.out.below bm
      have BW : Hid (Below wa.heap.size wa wm) := after BW.out bm
      clear bm c0 c1 c2 c3 c4 c5 c6 d0 d1 d2 d3 d4 d5 d6
      obtain ⟨c0, c1, c2, c3, c4, c5, c6⟩ := HC.out.cells
      obtain ⟨d0, d1, d2, d3, d4, d5, d6⟩ := HD.out.cells
      go_wp2
      go_ret
      exact ⟨by first | rfl | simp, BW.out⟩
  have hm := F2.out hR
  subst hm
  clear F2 F3 rC rD
  have hR3 : on = false ∨ ad < 40960 ∨ 41024 ≤ ad := by cases on <;> simp at hR ⊢; omega
  clear hR
  by_cases hk : kind = 0
  · obtain ⟨rfl, _, rfl, rfl, rfl, hon⟩ := F1.out hk
    subst hk
    subst hon
    clear F1 hR3
    rcases (show ad < 40960 ∨ 41024 ≤ ad ∨ (40960 ≤ ad ∧ ad < 41024) by omega) with h | h | h
    · have hd1 : decide (40960 ≤ ad) = false := decide_eq_false (by omega)
      obtain ⟨c0, c1, c2, c3, c4, c5, c6⟩ := HC.out.cells
      obtain ⟨d0, d1, d2, d3, d4, d5, d6⟩ := HD.out.cells
      go_wp2_with fail
      go_loopw [11] (fun i wr => i = .int .i64 40960 ∧ wr = w7) (fun _ _ => 0)
      case atStart => exact ⟨rfl, rfl⟩
      case round =>
      obtain ⟨rfl, rfl⟩ := hrel
      go_wp2_with fail
      refine (co _).mono ?_
      rintro e wm ⟨rfl, bm⟩
      have HC : Hid (Ct wm B rom 0 b m r false md) := HC.out.below bm
      have HD : Hid (Ct wm D rom 0 b m r false md) := HD.out.below bm
      have BW : Hid (Below wa.heap.size wa wm) := after BW.out bm
      clear bm c0 c1 c2 c3 c4 c5 c6 d0 d1 d2 d3 d4 d5 d6
      obtain ⟨c0, c1, c2, c3, c4, c5, c6⟩ := HC.out.cells
      obtain ⟨d0, d1, d2, d3, d4, d5, d6⟩ := HD.out.cells
      go_wp2_with fail
      refine (ce _).mono ?_
      rintro e wn ⟨rfl, bm⟩
      have BW : Hid (Below wa.heap.size wa wn) := after BW.out bm
      go_wp2
      go_ret
      exact ⟨by first | rfl | simp, BW.out⟩
    · have hd1 : decide (40960 ≤ ad) = true := decide_eq_true (by omega)
      have hd2 : decide (ad < 41024) = false := decide_eq_false (by omega)
      obtain ⟨c0, c1, c2, c3, c4, c5, c6⟩ := HC.out.cells
      obtain ⟨d0, d1, d2, d3, d4, d5, d6⟩ := HD.out.cells
      go_wp2_with fail
      go_loopw [11] (fun i wr => i = .int .i64 40960 ∧ wr = w7) (fun _ _ => 0)
      case atStart => exact ⟨rfl, rfl⟩
      case round =>
      obtain ⟨rfl, rfl⟩ := hrel
      go_wp2_with fail
      refine (co _).mono ?_
      rintro e wm ⟨rfl, bm⟩
      have HC : Hid (Ct wm B rom 0 b m r false md) := HC.out.below bm
      have HD : Hid (Ct wm D rom 0 b m r false md) := HD.out.below bm
      have BW : Hid (Below wa.heap.size wa wm) := after BW.out bm
      clear bm c0 c1 c2 c3 c4 c5 c6 d0 d1 d2 d3 d4 d5 d6
      obtain ⟨c0, c1, c2, c3, c4, c5, c6⟩ := HC.out.cells
      obtain ⟨d0, d1, d2, d3, d4, d5, d6⟩ := HD.out.cells
      go_wp2_with fail
      refine (ce _).mono ?_
      rintro e wn ⟨rfl, bm⟩
      have BW : Hid (Below wa.heap.size wa wn) := after BW.out bm
      go_wp2
      go_ret
      exact ⟨by first | rfl | simp, BW.out⟩
    · have hd1 : decide (40960 ≤ ad) = true := decide_eq_true (by omega)
      have hd2 : decide (ad < 41024) = true := decide_eq_true (by omega)
      obtain ⟨c0, c1, c2, c3, c4, c5, c6⟩ := HC.out.cells
      obtain ⟨d0, d1, d2, d3, d4, d5, d6⟩ := HD.out.cells
      go_wp2_with fail
      go_loopw [11] (fun i wr => i = .int .i64 40960 ∧ wr = w7) (fun _ _ => 0)
      case atStart => exact ⟨rfl, rfl⟩
      case round =>
      obtain ⟨rfl, rfl⟩ := hrel
      go_wp2_with fail
      refine (co _).mono ?_
      rintro e wm ⟨rfl, bm⟩
      have HC : Hid (Ct wm B rom 0 b m r false md) := HC.out.below bm
      have HD : Hid (Ct wm D rom 0 b m r false md) := HD.out.below bm
      have BW : Hid (Below wa.heap.size wa wm) := after BW.out bm
      clear bm c0 c1 c2 c3 c4 c5 c6 d0 d1 d2 d3 d4 d5 d6
      obtain ⟨c0, c1, c2, c3, c4, c5, c6⟩ := HC.out.cells
      obtain ⟨d0, d1, d2, d3, d4, d5, d6⟩ := HD.out.cells
      go_wp2_with fail
      refine (ce _).mono ?_
      rintro e wn ⟨rfl, bm⟩
      have BW : Hid (Below wa.heap.size wa wn) := after BW.out bm
      go_wp2
      go_ret
      exact ⟨by first | rfl | simp, BW.out⟩
  · have hkd : (kind != 0) = true := by simpa using hk
    clear F1
    rcases hR3 with rfl | h | h
    · rcases (show ad < 40960 ∨ 41024 ≤ ad ∨ (40960 ≤ ad ∧ ad < 41024) by omega) with h | h | h
      · have hd1 : decide (40960 ≤ ad) = false := decide_eq_false (by omega)
        obtain ⟨c0, c1, c2, c3, c4, c5, c6⟩ := HC.out.cells
        obtain ⟨d0, d1, d2, d3, d4, d5, d6⟩ := HD.out.cells
        go_wp2_with fail
        go_loopw [11] (fun i wr => i = .int .i64 40960 ∧ wr = w7) (fun _ _ => 0)
        case atStart => exact ⟨rfl, rfl⟩
        case round =>
        obtain ⟨rfl, rfl⟩ := hrel
        go_wp2_with fail
        refine (co _).mono ?_
        rintro e wm ⟨rfl, bm⟩
        have HC : Hid (Ct wm B rom kind bank m rb false mode) := HC.out.below bm
        have HD : Hid (Ct wm D rom kind b m r o md) := HD.out.below bm
        have BW : Hid (Below wa.heap.size wa wm) := after BW.out bm
        clear bm c0 c1 c2 c3 c4 c5 c6 d0 d1 d2 d3 d4 d5 d6
        obtain ⟨c0, c1, c2, c3, c4, c5, c6⟩ := HC.out.cells
        obtain ⟨d0, d1, d2, d3, d4, d5, d6⟩ := HD.out.cells
        go_wp2
        go_ret
        exact ⟨by first | rfl | simp, BW.out⟩
      · have hd1 : decide (40960 ≤ ad) = true := decide_eq_true (by omega)
        have hd2 : decide (ad < 41024) = false := decide_eq_false (by omega)
        obtain ⟨c0, c1, c2, c3, c4, c5, c6⟩ := HC.out.cells
        obtain ⟨d0, d1, d2, d3, d4, d5, d6⟩ := HD.out.cells
        go_wp2_with fail
        go_loopw [11] (fun i wr => i = .int .i64 40960 ∧ wr = w7) (fun _ _ => 0)
        case atStart => exact ⟨rfl, rfl⟩
        case round =>
        obtain ⟨rfl, rfl⟩ := hrel
        go_wp2_with fail
        refine (co _).mono ?_
        rintro e wm ⟨rfl, bm⟩
        have HC : Hid (Ct wm B rom kind bank m rb false mode) := HC.out.below bm
        have HD : Hid (Ct wm D rom kind b m r o md) := HD.out.below bm
        have BW : Hid (Below wa.heap.size wa wm) := after BW.out bm
        clear bm c0 c1 c2 c3 c4 c5 c6 d0 d1 d2 d3 d4 d5 d6
        obtain ⟨c0, c1, c2, c3, c4, c5, c6⟩ := HC.out.cells
        obtain ⟨d0, d1, d2, d3, d4, d5, d6⟩ := HD.out.cells
        go_wp2
        go_ret
        exact ⟨by first | rfl | simp, BW.out⟩
      · have hd1 : decide (40960 ≤ ad) = true := decide_eq_true (by omega)
        have hd2 : decide (ad < 41024) = true := decide_eq_true (by omega)
        obtain ⟨c0, c1, c2, c3, c4, c5, c6⟩ := HC.out.cells
        obtain ⟨d0, d1, d2, d3, d4, d5, d6⟩ := HD.out.cells
        go_wp2_with fail
        go_loopw [11] (fun i wr => i = .int .i64 40960 ∧ wr = w7) (fun _ _ => 0)
        case atStart => exact ⟨rfl, rfl⟩
        case round =>
        obtain ⟨rfl, rfl⟩ := hrel
        go_wp2_with fail
        refine (co _).mono ?_
        rintro e wm ⟨rfl, bm⟩
        have HC : Hid (Ct wm B rom kind bank m rb false mode) := HC.out.below bm
        have HD : Hid (Ct wm D rom kind b m r o md) := HD.out.below bm
        have BW : Hid (Below wa.heap.size wa wm) := after BW.out bm
        clear bm c0 c1 c2 c3 c4 c5 c6 d0 d1 d2 d3 d4 d5 d6
        obtain ⟨c0, c1, c2, c3, c4, c5, c6⟩ := HC.out.cells
        obtain ⟨d0, d1, d2, d3, d4, d5, d6⟩ := HD.out.cells
        go_wp2
        go_ret
        exact ⟨by first | rfl | simp, BW.out⟩
    · have hd1 : decide (40960 ≤ ad) = false := decide_eq_false (by omega)
      obtain ⟨c0, c1, c2, c3, c4, c5, c6⟩ := HC.out.cells
      obtain ⟨d0, d1, d2, d3, d4, d5, d6⟩ := HD.out.cells
      go_wp2_with fail
      go_loopw [11] (fun i wr => i = .int .i64 40960 ∧ wr = w7) (fun _ _ => 0)
      case atStart => exact ⟨rfl, rfl⟩
      case round =>
      obtain ⟨rfl, rfl⟩ := hrel
      go_wp2_with fail
      refine (co _).mono ?_
      rintro e wm ⟨rfl, bm⟩
      have HC : Hid (Ct wm B rom kind bank m rb on mode) := HC.out.below bm
      have HD : Hid (Ct wm D rom kind b m r o md) := HD.out.below bm
      have BW : Hid (Below wa.heap.size wa wm) := after BW.out bm
      clear bm c0 c1 c2 c3 c4 c5 c6 d0 d1 d2 d3 d4 d5 d6
      obtain ⟨c0, c1, c2, c3, c4, c5, c6⟩ := HC.out.cells
      obtain ⟨d0, d1, d2, d3, d4, d5, d6⟩ := HD.out.cells
      go_wp2
      go_ret
      exact ⟨by first | rfl | simp, BW.out⟩
    · have hd1 : decide (40960 ≤ ad) = true := decide_eq_true (by omega)
      have hd2 : decide (ad < 41024) = false := decide_eq_false (by omega)
      obtain ⟨c0, c1, c2, c3, c4, c5, c6⟩ := HC.out.cells
      obtain ⟨d0, d1, d2, d3, d4, d5, d6⟩ := HD.out.cells
      go_wp2_with fail
      go_loopw [11] (fun i wr => i = .int .i64 40960 ∧ wr = w7) (fun _ _ => 0)
      case atStart => exact ⟨rfl, rfl⟩
      case round =>
      obtain ⟨rfl, rfl⟩ := hrel
      go_wp2_with fail
      refine (co _).mono ?_
      rintro e wm ⟨rfl, bm⟩
      have HC : Hid (Ct wm B rom kind bank m rb on mode) := HC.out.below bm
      have HD : Hid (Ct wm D rom kind b m r o md) := HD.out.below bm
      have BW : Hid (Below wa.heap.size wa wm) := after BW.out bm
      clear bm c0 c1 c2 c3 c4 c5 c6 d0 d1 d2 d3 d4 d5 d6
      obtain ⟨c0, c1, c2, c3, c4, c5, c6⟩ := HC.out.cells
      obtain ⟨d0, d1, d2, d3, d4, d5, d6⟩ := HD.out.cells
      go_wp2
      go_ret
      exact ⟨by first | rfl | simp, BW.out⟩

set_option maxRecDepth 100000 in
theorem lifted (os : Os) (started : os.Started) (H : Type) (enc : TypeId × Value → H) :
    ReturnsInHanded {} Try.checked os 5 .any (Rows.fnCartWritesSpec.pre6 enc Try.prog Try.f5 Rows.fnCartWritesRow.domain false) (Rows.fnCartWritesSpec.post enc Try.prog Try.f5 false true false false) := by
  refine returnsInHanded_of_change (C := Try.checked) own started (by kernel_rfl) Try.func5
    (ChangeSpec.witness6 (enc := enc) (C := Try.checked) false ⟨#[], #[.slice none 0 0], []⟩ 8 (by kernel_rfl) (by kernel_rfl) (by kernel_rfl) (by kernel_rfl)) ?_
  intro W base args ds gs before hval0 hW hcnd _
  have hval : ∀ (j : Nat) t v, Try.f5.params[j]? = some t → args[j]? = some v → Value.okWide Try.prog W .any base t v := hval0
  have hW' := hW
  obtain ⟨p, q, hA0, hV, rfl, hfz, hnd⟩ := hW
  have hA : DataW.TrodAll enc Try.prog W 0 (fun _ => true) true Try.f5.params.toList args.toList ds p := hA0
  rw [Try.params5] at hA hval
  obtain ⟨v0, vs0, d0, ds0, p0, q0, hargs, rfl, rfl, h0, r0⟩ := trodAll_cons hA
  obtain ⟨rfl, rfl, rfl⟩ := trodAll_nil r0
  obtain rfl : args = #[v0] := by cases args; simp_all
  obtain ⟨rfl, rfl⟩ := trodVars_none hV
  obtain ⟨a0, len0, cap0, rfl⟩ := okWide_slice Try.underlying22 (hval 0 22 v0 rfl rfl)
  have k0 := h0
  have lt0 : ∀ x ∈ p0, x.block < W.heap.size := by obtain ⟨m, hm⟩ := k0; exact DataW.trod_lt m _ _ _ hm
  obtain ⟨z0, w0⟩ : ∃ zs, IsRow .u8 W a0 len0 cap0 zs := by
    obtain ⟨fuel, hf⟩ := h0
    rcases open_ints Try.underlying22 Try.underlying5 (by kernel_rfl) hf with ⟨hcs, _⟩ | ⟨x, l, c, zs, hcs, _, hl, hm, hz, _, hcell, hwz⟩
    · simp [Value.cells] at hcs
      obtain ⟨rfl, rfl, rfl⟩ := hcs
      exact ⟨[], .inl ⟨rfl, rfl, rfl, rfl⟩⟩
    · simp [Value.cells] at hcs
      obtain ⟨rfl, rfl, rfl⟩ := hcs
      exact ⟨zs, .inr ⟨_, rfl, hl, hm, by simpa using hz, hcell, hwz⟩⟩
  clear hA0 hval0
  refine (walk W a0 len0 cap0 z0 w0).mono fun e W' ⟨he, bel⟩ => ?_
  subst he
  exact ⟨_, rfl, _, _, _, [], _, [], hW', trodAll_mk1 (shut_bool Try.underlying4 _), (trodAll_cons_mk (Below.trod laidOut (by kernel_rfl) (of_decide_eq_true (by kernel_rfl)) k0 bel lt0) trodAll_mk0), rfl, bel.frame _, fun h => by cases h⟩

theorem over : Rows.fnCartWritesRow.holds Try.pinned (OpenSpec.ofChange Rows.fnCartWritesSpec) :=
  OpenClaim.holds_of_wide 5 Try.f5 rfl rfl rfl rfl rfl rfl rfl ⟨rfl, rfl, rfl, rfl, rfl⟩ rfl rfl rfl rfl rfl (by kernel_rfl) Try.func5 (by kernel_rfl)
    (of_decide_eq_true (by kernel_rfl)) (by unfold Func.isWrapper; first | (rw [if_pos (by decide +kernel)]; kernel_rfl) | (rw [if_neg (by decide +kernel)]; exact ⟨rfl, rfl⟩))
    (fun os started H enc _ => lifted os started H enc)
end Go.Proofs.Ytllpkidfldmbnaa.fnCartWrites
namespace Go.Proofs.Ytllpkidfldmbnaa
theorem fnCartWrites_holds : Rows.FnCartWritesSaid := fnCartWrites.over
end Go.Proofs.Ytllpkidfldmbnaa
