/- For every slice of bytes the law FnMapped answers true, that is, what impl.Mapped makes of a list and a text drawn from them is what spec.Mapped makes, both CharsOk agree on the list, and where something is made, each of its bytes is one of the list's, it is no longer than the text, and nothing is made of nothing; the bytes read afterwards as they read before; no condition. -/
import Derived.Test.YtpkecefjoooebaaRows
import Derived.WalkKit
import Derived.ProofKit
import Derived.OpenShut
import Derived.ShutString
import Derived.ChangeOld
import Derived.Below
import Derived.Test.YtpkecefjoooebaaDrawM
import Derived.Test.YtpkecefjoooebaaMaps
import Derived.Test.YtpkecefjoooebaaMapq
namespace Go.Proofs.Ytpkecefjoooebaa.fnMapped
open Go.ChangeShapes Go.WideShapes Go.ChangeAt Go.RowKit
open Go.ChangeMaps (open_string shut_string)
set_option linter.unusedVariables false

theorem own : ownKnob Try.prog.godebug = none := by kernel_rfl
theorem laidOut : laidOutB Try.prog = true := by kernel_rfl
/-- What the walk is told of a slice of bytes that came in: it is nil; or it leads to a row of cells, the numbers zs, each fitting its kind. -/
def IsRow (k : IntKind) (w : World) (a : Option Addr) (len cap : Nat) (zs : List Int) : Prop :=
  (a = none ∧ len = 0 ∧ cap = 0 ∧ zs = []) ∨
  ∃ x, a = some x ∧ len ≤ cap ∧ cap ≤ maxLen ∧ zs.length = cap ∧ (∀ i, i < zs.length → w.cell? (x.add i) = some (.int k (zs.getD i 0))) ∧ ∀ n ∈ zs, (Lit.int k n).wf = true
open Pairr (Pairs)
theorem toRow {k : IntKind} {w : World} {a : Option Addr} {len cap : Nat} {zs : List Int} (h : IsRow k w a len cap zs) : Rdr.IsRow k w a len cap zs := h

set_option maxHeartbeats 2000000 in
theorem walk (w : World) (a0 : Option Addr) (len0 cap0 : Nat) (z0 : List Int) (w0 : IsRow .u8 w a0 len0 cap0 z0) :
    Calls Try.prog 6 #[.slice a0 len0 cap0] w fun e w' => e = .returned (.bool true) ∧ Below w.heap.size w w' := by
  have H : Hid (Rdr.IsRow .u8 w a0 len0 cap0 z0) := toRow w0
  clear w0
  have cb := Rdr.big_any a0 len0 cap0 w H.out.len
  by_cases hbig : Rdr.bigB len0 = true
  · rw [hbig] at cb
    go_enter Try.func6, Try.ntmps6
    go_wp2_with (go_at_call 17; refine cb.mono ?_; rintro e w' ⟨rfl, rfl⟩)
    go_ret
    exact ⟨rfl, Below.refl _ _⟩
  have hbig : Rdr.bigB len0 = false := by simpa using hbig
  rw [hbig] at cb
  go_enter Try.func6, Try.ntmps6
  go_wp2_with fail
  refine cb.mono ?_
  rintro e w' ⟨rfl, rfl⟩
  go_wp2_with fail
  refine (DrawM.drawMapped_any _ _ _ _ _ H.out).mono ?_
  rintro e v1 ⟨⟨L, ao, c, s, rfl, hL, hs, hP⟩, hb1⟩
  have B1 : Hid (Below w'.heap.size w' v1) := hb1
  have P1 : Hid (Pairs v1 ao L) := hP
  clear hb1 hP
  have ci := fun w h => Mapk.mapped_any ao c L s w h (by omega) (by omega)
  have cs := fun w h => Mapss.mapped_any ao c L s w h (by omega) (by omega)
  have cx := fun w h => Mapk.mapped_any ao c L ⟨#[]⟩ w h (by omega) (by decide)
  have ko := fun w h => Chok.implOk_any ao c L w h (by omega)
  have so := fun w h => Chok.specOk_any ao c L w h (by omega)
  rcases Mapq.facts L s with ⟨o1, o2⟩ | ⟨o1, hR, o3, o4, o5⟩
  · rw [o1, o2] at ci cs
    generalize Chok.okV L = kk at *
    generalize L.length = n at *
    go_wp2_with fail
    refine (ci _ P1.out).mono ?_
    rintro e v2 ⟨rfl, hb2⟩
    have B2 : Hid (Below v1.heap.size v1 v2) := hb2
    clear hb2 ci
    go_wp2_with fail
    refine (cs _ (P1.out.below B2.out)).mono ?_
    rintro e v3 ⟨rfl, hb3⟩
    have B3 : Hid (Below v1.heap.size v1 v3) := B2.out.trans (hb3.mono B2.out.size)
    clear hb3 cs B2
    go_wp2_with fail
    refine (ko _ (P1.out.below B3.out)).mono ?_
    rintro e v4 ⟨rfl, hb4⟩
    have B4 : Hid (Below v1.heap.size v1 v4) := B3.out.trans (hb4.mono B3.out.size)
    clear hb4 B3
    go_wp2_with fail
    refine (so _ (P1.out.below B4.out)).mono ?_
    rintro e v5 ⟨rfl, hb5⟩
    have B5 : Hid (Below v1.heap.size v1 v5) := B4.out.trans (hb5.mono B4.out.size)
    clear hb5 B4
    cases kk <;> (
      go_wp2_with fail
      refine (ko _ (P1.out.below B5.out)).mono ?_
      rintro e v6 ⟨rfl, hb6⟩
      have B6 : Hid (Below v1.heap.size v1 v6) := B5.out.trans (hb6.mono B5.out.size)
      clear hb6
      go_wp2_with fail
      refine (so _ (P1.out.below B6.out)).mono ?_
      rintro e v7 ⟨rfl, hb7⟩
      have B7 : Hid (Below v1.heap.size v1 v7) := B6.out.trans (hb7.mono B6.out.size)
      clear hb7
      go_wp2
      go_ret
      exact ⟨rfl, B1.out.trans (B7.out.mono B1.out.size)⟩)
  rw [o1] at ci cs
  have nx := Mapq.nothing hR
  rw [nx.1, nx.2] at cx
  rw [Chok.okV_yes hR] at ko so
  clear nx hR o1
  generalize Mapp.outV L s = m at *
  have HO : Hid (∀ i (h : i < m.size), ∃ k, ∃ hk : k < L.length, L[k].2 = ((m[i]).toNat : Int)) := o5
  have m3 : (m.size : Int) ≤ (s.size : Int) := by omega
  have m3' : decide ((m.size : Int) ≤ (s.size : Int)) = true := decide_eq_true m3
  have m5 : s.toList.isEmpty = m.toList.isEmpty := by
    by_cases h0 : s.size = 0
    · rw [Chok.empty_yes h0, Chok.empty_yes (o4.2 h0)]
    · rw [Chok.empty_no h0, Chok.empty_no (fun h => h0 (o4.1 h))]
  clear o3 o4 o5
  obtain ⟨n, hn⟩ : ∃ n, n = L.length := ⟨_, rfl⟩
  have HL : Hid (n = L.length) := hn
  rw [← hn] at ci cs cx ko so hL ⊢
  clear hn
  go_wp2_with fail
  refine (ci _ P1.out).mono ?_
  rintro e v2 ⟨rfl, hb2⟩
  have B2 : Hid (Below v1.heap.size v1 v2) := hb2
  clear hb2 ci
  go_wp2_with fail
  refine (cs _ (P1.out.below B2.out)).mono ?_
  rintro e v3 ⟨rfl, hb3⟩
  have B3 : Hid (Below v1.heap.size v1 v3) := B2.out.trans (hb3.mono B2.out.size)
  clear hb3 cs B2
  go_wp2_with fail
  refine (ko _ (P1.out.below B3.out)).mono ?_
  rintro e v4 ⟨rfl, hb4⟩
  have B4 : Hid (Below v1.heap.size v1 v4) := B3.out.trans (hb4.mono B3.out.size)
  clear hb4 B3 ko
  go_wp2_with fail
  refine (so _ (P1.out.below B4.out)).mono ?_
  rintro e v5 ⟨rfl, hb5⟩
  have B5 : Hid (Below v1.heap.size v1 v5) := B4.out.trans (hb5.mono B4.out.size)
  clear hb5 B4 so
  go_wp2_with fail
  go_loopw [9] (fun x wr => ∃ (i : Nat), i ≤ m.size ∧ x = .int .i64 i ∧ Hid (Below v1.heap.size v1 wr)) (fun x _ => m.size - (intOf x).toNat)
  case atStart => exact ⟨0, Nat.zero_le _, rfl, B5.out⟩
  case round =>
    clear B5
    obtain ⟨i, hi, rfl, hbel⟩ := hrel
    by_cases hlt : i < m.size
    · have hlt' : (i : Int) < (m.size : Int) := by omega
      have i0 : (0 : Int) ≤ (i : Int) := by omega
      obtain ⟨q, hq⟩ : ∃ q : Nat, q = m[i].toNat := ⟨_, rfl⟩
      have HQ : Hid (∃ k, ∃ hk : k < L.length, L[k].2 = (q : Int)) := by
        obtain ⟨k, hk, he⟩ := HO.out i hlt
        exact ⟨k, hk, by rw [he, hq]⟩
      have hq5 : q < 256 := by rw [hq]; exact m[i].toNat_lt
      have eq : (m[i].toNat : Int) = (q : Int) := by omega
      have ewq : IntKind.i64.wrap (q : Int) = (q : Int) := by rw [IntKind.wrap_i64]; omega
      have ewq' : wrap64 (q : Int) = (q : Int) := by unfold wrap64; omega
      clear hq
      go_wp2_with fail
      go_loopw [10, 11] (fun th x wq => ∃ (j : Nat) (tb : Bool), j ≤ n ∧ x = .int .i64 j ∧ th = .bool tb ∧ Hid (tb = true ↔ ∃ k, ∃ hk : k < L.length, k < j ∧ L[k].2 = (q : Int)) ∧ Hid (Below v1.heap.size v1 wq)) (fun _ x _ => n - (intOf x).toNat)
      case atStart => exact ⟨0, false, Nat.zero_le _, rfl, rfl, ⟨(fun h => by cases h), (fun ⟨k, _, h, _⟩ => absurd h (Nat.not_lt_zero _))⟩, hbel.out⟩
      case round =>
        clear hbel
        obtain ⟨j, tb, hj, rfl, rfl, htb, hbel⟩ := hrel
        by_cases hjl : j < n
        · have hjl' : (j : Int) < (n : Int) := by omega
          have j0 : (0 : Int) ≤ (j : Int) := by omega
          have hjL : j < L.length := by have := HL.out; omega
          obtain ⟨b, off, rfl, c1⟩ : ∃ b off, ao = some ⟨b, off, none⟩ ∧ wr.cell? ⟨b, off + j * 2 + 1, none⟩ = some (.int .i64 L[j].2) := by
            rcases P1.out.below hbel.out with hnil | ⟨b, off, rfl, hb, hc⟩
            · exfalso; rw [hnil] at hjL; exact absurd hjL (by simp)
            · exact ⟨b, off, rfl, (hc j hjL).2.1⟩
          cases tb with
          | true =>
            have HT : Hid (true = true ↔ ∃ k, ∃ hk : k < L.length, k < j + 1 ∧ L[k].2 = (q : Int)) := ⟨fun h => by obtain ⟨k, hk, h1, h2⟩ := htb.out.1 h; exact ⟨k, hk, by omega, h2⟩, fun _ => rfl⟩
            clear htb
            generalize L[j].2 = y at *
            go_wp2_with fail
            go_quiet (fail)
            go_wp2_with fail
            go_roundw
            case rel => exact ⟨j + 1, true, by omega, by go_num, rfl, by first | exact HT.out | exact ⟨fun _ => HT.out.1 trivial, fun _ => rfl⟩, Chok.drewN_below hbel.out _⟩
            case measure => simp [intOf]; omega
          | false =>
            have NO : ∀ k (hk : k < L.length), k < j → ¬ L[k].2 = (q : Int) := fun k hk h1 h2 => by have := htb.out.2 ⟨k, hk, h1, h2⟩; cases this
            by_cases g : L[j].2 = (q : Int)
            · have HT : Hid (true = true ↔ ∃ k, ∃ hk : k < L.length, k < j + 1 ∧ L[k].2 = (q : Int)) := ⟨fun _ => ⟨j, hjL, by omega, g⟩, fun _ => rfl⟩
              have g' : (L[j].2 == (q : Int)) = true := by rw [g]; simp
              clear htb NO
              rw [g] at c1 g'
              clear g
              go_wp2_with fail
              go_quiet (fail)
              go_wp2_with fail
              go_roundw
              case rel => exact ⟨j + 1, true, by omega, by go_num, rfl, by first | exact HT.out | exact ⟨fun _ => HT.out.1 trivial, fun _ => rfl⟩, Chok.drewN_below hbel.out _⟩
              case measure => simp [intOf]; omega
            · have HT : Hid (false = true ↔ ∃ k, ∃ hk : k < L.length, k < j + 1 ∧ L[k].2 = (q : Int)) := ⟨(fun h => by cases h), (fun ⟨k, hk, h1, h2⟩ => by
                rcases Nat.lt_or_ge k j with c | c
                · exact absurd h2 (NO k hk c)
                · obtain rfl : k = j := by omega
                  exact absurd h2 g)⟩
              have g' : (L[j].2 == (q : Int)) = false := by simp [g]
              clear htb NO
              generalize L[j].2 = y at *
              go_wp2_with fail
              go_quiet (fail)
              go_wp2_with fail
              go_roundw
              case rel => exact ⟨j + 1, false, by omega, by go_num, rfl, by first | exact HT.out | exact ⟨fun _ => HT.out.1 trivial, fun _ => rfl⟩, Chok.drewN_below hbel.out _⟩
              case measure => simp [intOf]; omega
        · have hjl' : ¬ (j : Int) < (n : Int) := by omega
          obtain rfl : tb = true := htb.out.2 (by obtain ⟨k, hk, h⟩ := HQ.out; exact ⟨k, hk, by have := HL.out; omega, h⟩)
          clear htb
          go_wp2_with fail
          go_roundw
          case rel => exact ⟨i + 1, by omega, by go_num, hbel.out⟩
          case measure => simp [intOf]; omega
    · have hlt' : ¬ (i : Int) < (m.size : Int) := by omega
      go_wp2_with fail
      refine (cx _ (P1.out.below hbel.out)).mono ?_
      rintro e v6 ⟨rfl, hb6⟩
      have B6 : Hid (Below v1.heap.size v1 v6) := hbel.out.trans (hb6.mono hbel.out.size)
      clear hb6 cx
      go_wp2
      go_ret
      exact ⟨rfl, B1.out.trans (B6.out.mono B1.out.size)⟩

set_option maxRecDepth 100000 in
theorem lifted (os : Os) (started : os.Started) (H : Type) (enc : TypeId × Value → H) :
    ReturnsInHanded {} Try.checked os 6 .any (Rows.fnMappedSpec.pre6 enc Try.prog Try.f6 Rows.fnMappedRow.domain false) (Rows.fnMappedSpec.post enc Try.prog Try.f6 false true false false) := by
  refine returnsInHanded_of_change (C := Try.checked) own started (by kernel_rfl) Try.func6
    (ChangeSpec.witness6 (enc := enc) (C := Try.checked) false ⟨#[], #[.slice none 0 0], []⟩ 8 (by kernel_rfl) (by kernel_rfl) (by kernel_rfl) (by kernel_rfl)) ?_
  intro W base args ds gs before hval0 hW hcnd _
  have hval : ∀ (j : Nat) t v, Try.f6.params[j]? = some t → args[j]? = some v → Value.okWide Try.prog W .any base t v := hval0
  have hW' := hW
  obtain ⟨p, q, hA0, hV, rfl, hfz, hnd⟩ := hW
  have hA : DataW.TrodAll enc Try.prog W 0 (fun _ => true) true Try.f6.params.toList args.toList ds p := hA0
  rw [Try.params6] at hA hval
  obtain ⟨v0, vs0, d0, ds0, p0, q0, hargs, rfl, rfl, h0, r0⟩ := trodAll_cons hA
  obtain ⟨rfl, rfl, rfl⟩ := trodAll_nil r0
  obtain rfl : args = #[v0] := by cases args; simp_all
  obtain ⟨rfl, rfl⟩ := trodVars_none hV
  obtain ⟨a0, len0, cap0, rfl⟩ := okWide_slice Try.underlying32 (hval 0 32 v0 rfl rfl)
  have k0 := h0
  have lt0 : ∀ x ∈ p0, x.block < W.heap.size := by obtain ⟨m, hm⟩ := k0; exact DataW.trod_lt m _ _ _ hm
  obtain ⟨z0, w0⟩ : ∃ zs, IsRow .u8 W a0 len0 cap0 zs := by
    obtain ⟨fuel, hf⟩ := h0
    rcases open_ints Try.underlying32 Try.underlying5 (by kernel_rfl) hf with ⟨hcs, _⟩ | ⟨x, l, c, zs, hcs, _, hl, hm, hz, _, hcell, hwz⟩
    · simp [Value.cells] at hcs
      obtain ⟨rfl, rfl, rfl⟩ := hcs
      exact ⟨[], .inl ⟨rfl, rfl, rfl, rfl⟩⟩
    · simp [Value.cells] at hcs
      obtain ⟨rfl, rfl, rfl⟩ := hcs
      exact ⟨zs, .inr ⟨_, rfl, hl, hm, by simpa using hz, hcell, hwz⟩⟩
  clear hA0 hval0
  refine (walk W a0 len0 cap0 z0 w0).mono fun e W' ⟨he, bel⟩ => ?_
  subst he
  exact ⟨_, rfl, _, _, _, [], _, [], hW', trodAll_mk1 (shut_bool Try.underlying4 _), (trodAll_cons_mk (Below.trod laidOut (by kernel_rfl) (of_decide_eq_true (by kernel_rfl)) k0 bel lt0) trodAll_mk0), rfl, bel.frame _, fun h => by cases h⟩

theorem over : Rows.fnMappedRow.holds Try.pinned (OpenSpec.ofChange Rows.fnMappedSpec) :=
  OpenClaim.holds_of_wide 6 Try.f6 rfl rfl rfl rfl rfl rfl rfl ⟨rfl, rfl, rfl, rfl, rfl⟩ rfl rfl rfl rfl rfl (by kernel_rfl) Try.func6 (by kernel_rfl)
    (of_decide_eq_true (by kernel_rfl)) (by unfold Func.isWrapper; first | (rw [if_pos (by decide +kernel)]; kernel_rfl) | (rw [if_neg (by decide +kernel)]; exact ⟨rfl, rfl⟩))
    (fun os started H enc _ => lifted os started H enc)
end Go.Proofs.Ytpkecefjoooebaa.fnMapped
namespace Go.Proofs.Ytpkecefjoooebaa
theorem fnMapped_holds : Rows.FnMappedSaid := fnMapped.over
end Go.Proofs.Ytpkecefjoooebaa
