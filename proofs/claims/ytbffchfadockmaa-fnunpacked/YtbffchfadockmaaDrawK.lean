/-
  What can be drawn of chapter 15: a contract of ours for spec.DrawPackedOf and spec.DrawUnpacked.
-/
import Derived.Test.YtbffchfadockmaaUnps
import Derived.Test.YtbffchfadockmaaPakq
import Derived.Test.YtbffchfadockmaaDraw
import Derived.Maps.AppendAt
namespace Go.Proofs.Ytbffchfadockmaa.DrawK
open Go.ChangeShapes Go.WideShapes Go.ChangeAt Go.RowKit Go.Deep
open Rdr Obuf
open Unps (tO)
set_option linter.unusedVariables false
set_option maxRecDepth 20000
/-- While it is drawn: the reader, what was there, the row. -/
def St (w1 : World) (rb : Nat) (W : World) (v : Value) (L : List UInt8) : Prop :=
  Rd W rb ∧ w1.grownBy W (some rb) ∧ rb < w1.heap.size ∧ W.ownsRow w1.heap.size 5 1 v L.length (Lib.byteCells L)
theorem St.post {w1 : World} {rb : Nat} {W W' : World} {v : Value} {L : List UInt8} (h : St w1 rb W v L) (hp : Post W rb W') : St w1 rb W' v L := by
  obtain ⟨h1, h2, h3, h6⟩ := h
  refine ⟨hp.1, h2.trans hp.2, h3, h6.kept hp.2 ?_⟩
  cases hv : v.ownBlock with
  | none => exact .inl rfl
  | some g => exact .inr fun e => by cases e; have := (h6.lt _ hv).1; omega
theorem St.alloc {w1 : World} {rb : Nat} {W : World} {v : Value} {L : List UInt8} (h : St w1 rb W v L) (o : Obj) : St w1 rb (W.alloc o) v L := h.post ((Post.refl h.1).alloc o)
theorem St.drew {w1 : World} {rb : Nat} {W : World} {v : Value} {L : List UInt8} (h : St w1 rb W v L) : St w1 rb W.drew v L := h.post (Post.of h.1 rfl rfl rfl rfl)
theorem St.push {w1 : World} {rb : Nat} {W W' : World} {v v' : Value} {L : List UInt8} {b : UInt8} {n : Nat} {o : Obj} (h : St w1 rb W v L) (hn : n = L.length) (ho : W'.ownsRow w1.heap.size 5 1 v' (n + 1) (Lib.byteCells L ++ [.int .u8 b.toNat])) (hg : (W.alloc o).grownBy W' v.ownBlock) : St w1 rb W' v' (L ++ [b]) := by
  subst hn
  obtain ⟨h1, h2, h3, h6⟩ := h.alloc o
  have hr := h1.lt
  have hz := h2.size
  have e : Lib.byteCells (L ++ [b]) = Lib.byteCells L ++ [.int .u8 b.toNat] := by simp [Lib.byteCells]
  refine ⟨h1.kept fun k hk => hg.block k (by omega) fun e => ?_, ⟨hg.os.trans h2.os, hg.tape.trans h2.tape, hg.output.trans h2.output, Nat.le_trans h2.size hg.size, fun k hk hne => (hg.block k (by omega) fun e => ?_).trans (h2.block k hk hne)⟩, h3, by rw [List.length_append, e]; exact ho⟩
  · have := (h6.lt k e.symm).1; omega
  · have := (h6.lt k e.symm).1; omega
theorem St.row {w1 : World} {rb : Nat} {W : World} {v : Value} {L : List UInt8} {len : Nat} (h : St w1 rb W v L) (hl : len = L.length) : W.ownsRow w1.heap.size 5 1 v len (Lib.byteCells L) := by
  rw [hl]; exact h.2.2.2
theorem St.new {w1 : World} {rb : Nat} (h : Rd w1 rb) : St w1 rb (w1.alloc (.cells #[] 5)) (.slice (some ⟨w1.heap.size, 0, none⟩) 0 0) [] := by
  have hp := (Post.refl h).alloc (.cells #[] 5)
  exact ⟨hp.1, hp.2, h.lt, World.ownsRow_lit w1 #[] 0 (Nat.le_refl _) (Nat.zero_le _) rfl⟩
theorem St.below {w w1 : World} {W : World} {v : Value} {L : List UInt8} (h : St w1 w.heap.size W v L) (hb : Below w.heap.size w w1) : Below w.heap.size w W :=
  hb.trans (Post.below (w := w1) ⟨h.1, h.2.1⟩ (Nat.le_refl _) (Nat.le_of_lt h.2.2.1))
set_option maxHeartbeats 2000000 in
theorem drawPacked_any (a : Option Addr) (len cap : Nat) (zs : List Int) (w : World) (h : Rdr.IsRow .u8 w a len cap zs) :
    Calls Try.prog 12 #[.slice a len cap] w fun e w' => (∃ s : ByteArray, e = .returned (.string s) ∧ s.size ≤ 1100) ∧ Below w.heap.size w w' := by
  obtain ⟨i0, hi, hz0, hz1, hz2⟩ := info_parts info5
  have H : Hid (Rdr.IsRow .u8 w a len cap zs) := h
  clear h
  go_enter Try.func12, Try.ntmps12
  go_wp2_with fail
  refine (Rdr.open_any _ _ _ _ _ H.out).mono ?_
  rintro e w1 ⟨rfl, hr, hb⟩
  have S0 : Hid (St w1 w.heap.size (w1.alloc (.cells #[] 5)) (.slice (some ⟨w1.heap.size, 0, none⟩) 0 0) []) := St.new hr
  have B1 : Hid (Below w.heap.size w w1) := hb
  clear hr hb H
  go_wp2_with fail
  refine (Rdr.below_any _ _ _ S0.out.1 (by decide) (by decide)).mono ?_
  rintro e w2 ⟨⟨x, x0, x1, rfl⟩, hp2⟩
  have S2 : Hid (St w1 w.heap.size w2 (.slice (some ⟨w1.heap.size, 0, none⟩) 0 0) []) := S0.out.post hp2
  clear hp2 S0
  obtain ⟨rb, hrb⟩ : ∃ rb, rb = w.heap.size := ⟨_, rfl⟩
  have HR : Hid (rb = w.heap.size) := hrb
  rw [← hrb] at S2 ⊢
  clear hrb
  obtain ⟨k0, rfl⟩ := Int.eq_ofNat_of_zero_le x0
  go_wp2_with fail
  go_loopw [4, 5] (fun v i wr => ∃ (k : Nat) (a : Option Addr) (n c : Nat) (L : List UInt8), k ≤ 8 ∧ i = .int .i64 k ∧ v = .slice a n c ∧ n + 130 * k ≤ 1100 ∧ Hid (n = L.length) ∧ Hid (St w1 rb wr (.slice a n c) L)) (fun _ i _ => (intOf i).toNat)
  case atStart => exact ⟨k0, _, _, _, [], by omega, rfl, rfl, by omega, rfl, S2.out⟩
  case round =>
    clear S2
    obtain ⟨k, ao, n, c, L, hk, rfl, rfl, hn, HN, hst⟩ := hrel
    by_cases hlt : 0 < k
    · have hlt' : (0 : Int) < (k : Int) := by omega
      go_wp2_with fail
      refine (Rdr.below_any _ _ _ hst.out.1 (by decide) (by decide)).mono ?_
      rintro e w3 ⟨⟨x, y0, y1, rfl⟩, hp3⟩
      have S3 : Hid (St w1 rb w3 (.slice ao n c) L) := hst.out.post hp3
      clear hp3 hst
      obtain ⟨b, hb⟩ : ∃ b : UInt8, (b.toNat : Int) = x := ⟨UInt8.ofNat x.toNat, by rw [UInt8.toNat_ofNat']; omega⟩
      subst hb
      have hb4 : b.toNat < 256 := b.toNat_lt
      have eu : IntKind.u8.wrap (b.toNat : Int) = (b.toNat : Int) := by rw [IntKind.wrap_u8]; omega
      go_wp2_with fail
      have hl := S3.out.1.lt
      refine (Rdr.below_any _ _ _ (S3.out.alloc _).1 (by decide) (by decide)).mono ?_
      rintro e w4 ⟨⟨y, z0, z1, rfl⟩, hp4⟩
      have S4 : Hid (St w1 rb w4 (.slice ao n c) L) := (S3.out.alloc _).post hp4
      obtain ⟨q, q0, q1, hc⟩ : ∃ q : Nat, 0 ≤ q ∧ q ≤ 130 ∧ w4.cell? ⟨w3.heap.size, y.toNat, none⟩ = some (.int .i64 (q : Int)) := by
        have := Draw.row_cell (rb := rb) hp4 rfl hl y.toNat
        obtain ⟨j, rfl⟩ := Int.eq_ofNat_of_zero_le z0
        rw [this]
        have hj : j < 8 := by omega
        rw [Int.toNat_natCast]
        match j, hj with
        | 0, _ => exact ⟨1, by omega, by omega, rfl⟩
        | 1, _ => exact ⟨2, by omega, by omega, rfl⟩
        | 2, _ => exact ⟨3, by omega, by omega, rfl⟩
        | 3, _ => exact ⟨4, by omega, by omega, rfl⟩
        | 4, _ => exact ⟨127, by omega, by omega, rfl⟩
        | 5, _ => exact ⟨128, by omega, by omega, rfl⟩
        | 6, _ => exact ⟨129, by omega, by omega, rfl⟩
        | 7, _ => exact ⟨130, by omega, by omega, rfl⟩
      clear hp4 S3
      go_wp2_with fail
      refine (Rdr.once_any _ _ _ S4.out.1 (by decide) (by decide)).mono ?_
      rintro e w5 ⟨⟨o, rfl⟩, hp5⟩
      have S5 : Hid (St w1 rb w5 (.slice ao n c) L) := S4.out.post hp5
      clear hp5 S4 hc
      cases o with
      | false =>
        have SX := S5
        clear S5
        go_wp2_with fail
        go_loopw [4, 8] (fun v i wr => ∃ (m : Nat) (a : Option Addr) (n' c : Nat) (L' : List UInt8), m ≤ q ∧ i = .int .i64 m ∧ v = .slice a n' c ∧ n' ≤ n + m ∧ Hid (n' = L'.length) ∧ Hid (St w1 rb wr (.slice a n' c) L')) (fun _ i _ => q - (intOf i).toNat)
        case atStart => exact ⟨0, ao, n, c, L, by omega, rfl, rfl, by omega, HN.out, SX.out⟩
        case round =>
          clear SX HN
          obtain ⟨m, ao, n', c, L, hm, rfl, rfl, hn', HN, hst⟩ := hrel
          by_cases c5 : m < q
          · have d5 : (m : Int) < (q : Int) := by omega
            have hrow := hst.out.row HN.out
            have hbs := hst.out.2.1.size
            go_wp2_with (at_builtin; refine wpList_append_own _ rfl _ _ tO rfl w1.heap.size 5 i0 (.int .u8 0) 1 1 Try.underlying25 hi hz0 hz1 hz2 rfl (by decide) _ _ _ rfl (hrow.alloc _) ⟨wr.heap.size, 0, none⟩ 1 1 [.int .u8 b.toNat] rfl rfl ?c1 ?c2 ?c3 ?c4 ?c5 ?_)
            case c1 =>
              intro j u hj
              match j, hj with
              | 0, hj => simp at hj; subst hj; simp [Addr.add]
            case c2 => intro u hu; simp at hu; subst hu; rfl
            case c3 => unfold maxLen; omega
            case c4 => omega
            case c5 => simp; omega
            intro v' w6 hown' hgrow _
            have S6 : Hid (St w1 rb w6 v' (L ++ [b])) := hst.out.push HN.out hown' hgrow
            obtain ⟨g', cap', rfl⟩ := ownsRow_succ hown'
            have HN6 : Hid (n' + 1 = (L ++ [b]).length) := by show _ = _; rw [List.length_append, HN.out]; rfl
            clear hown' hgrow hrow
            go_wp2
            go_roundw
            case rel => exact ⟨m + 1, _, _, _, _, by omega, by go_num, rfl, by omega, HN6.out, S6.out⟩
            case measure => simp [intOf]; omega
          · have d5 : ¬ (m : Int) < (q : Int) := by omega
            go_wp2
            go_roundw
            case rel => exact ⟨k - 1, _, _, _, L, by omega, by congr 1; omega, rfl, by omega, HN.out, hst.out⟩
            case measure => simp [intOf]; omega
      | true =>
        go_wp2_with fail
        refine (Rdr.below_any _ _ _ S5.out.1 (by decide) (by decide)).mono ?_
        rintro e wx ⟨⟨x, u0, u1, rfl⟩, hpx⟩
        have SX : Hid (St w1 rb wx (.slice ao n c) L) := S5.out.post hpx
        clear hpx S5
        obtain ⟨p, hq⟩ : ∃ p : Nat, 1 + x = (p : Int) := ⟨(1 + x).toNat, by omega⟩
        have p1 : p ≤ 130 := by omega
        have ew : IntKind.i64.wrap (p : Int) = (p : Int) := by rw [IntKind.wrap_i64]; omega
        go_wp2_with fail
        go_loopw [4, 8] (fun v i wr => ∃ (m : Nat) (a : Option Addr) (n' c : Nat) (L' : List UInt8), m ≤ p ∧ i = .int .i64 m ∧ v = .slice a n' c ∧ n' ≤ n + m ∧ Hid (n' = L'.length) ∧ Hid (St w1 rb wr (.slice a n' c) L')) (fun _ i _ => p - (intOf i).toNat)
        case atStart => exact ⟨0, ao, n, c, L, by omega, rfl, rfl, by omega, HN.out, SX.out⟩
        case round =>
          clear SX HN
          obtain ⟨m, ao, n', c, L, hm, rfl, rfl, hn', HN, hst⟩ := hrel
          by_cases c5 : m < p
          · have d5 : (m : Int) < (p : Int) := by omega
            have hrow := hst.out.row HN.out
            have hbs := hst.out.2.1.size
            go_wp2_with (at_builtin; refine wpList_append_own _ rfl _ _ tO rfl w1.heap.size 5 i0 (.int .u8 0) 1 1 Try.underlying25 hi hz0 hz1 hz2 rfl (by decide) _ _ _ rfl (hrow.alloc _) ⟨wr.heap.size, 0, none⟩ 1 1 [.int .u8 b.toNat] rfl rfl ?c1 ?c2 ?c3 ?c4 ?c5 ?_)
            case c1 =>
              intro j u hj
              match j, hj with
              | 0, hj => simp at hj; subst hj; simp [Addr.add]
            case c2 => intro u hu; simp at hu; subst hu; rfl
            case c3 => unfold maxLen; omega
            case c4 => omega
            case c5 => simp; omega
            intro v' w6 hown' hgrow _
            have S6 : Hid (St w1 rb w6 v' (L ++ [b])) := hst.out.push HN.out hown' hgrow
            obtain ⟨g', cap', rfl⟩ := ownsRow_succ hown'
            have HN6 : Hid (n' + 1 = (L ++ [b]).length) := by show _ = _; rw [List.length_append, HN.out]; rfl
            clear hown' hgrow hrow
            go_wp2
            go_roundw
            case rel => exact ⟨m + 1, _, _, _, _, by omega, by go_num, rfl, by omega, HN6.out, S6.out⟩
            case measure => simp [intOf]; omega
          · have d5 : ¬ (m : Int) < (p : Int) := by omega
            go_wp2
            go_roundw
            case rel => exact ⟨k - 1, _, _, _, L, by omega, by congr 1; omega, rfl, by omega, HN.out, hst.out⟩
            case measure => simp [intOf]; omega
    · have e0 : k = 0 := by omega
      subst e0
      have hcv := str_own hst.out.2.2.2
      have hlt' : ¬ (0 : Int) < ((0 : Nat) : Int) := by omega
      go_wp2
      go_ret
      refine ⟨⟨⟨L.toArray⟩, rfl, ?_⟩, ?_⟩
      · show L.toArray.size ≤ _; rw [List.size_toArray, ← HN.out]; omega
      · have := hst.out; rw [HR.out] at this; exact this.below B1.out
set_option maxHeartbeats 2000000 in
theorem drawUnpacked_any (a : Option Addr) (len cap : Nat) (zs : List Int) (w : World) (h : Rdr.IsRow .u8 w a len cap zs) :
    Calls Try.prog 13 #[.slice a len cap] w fun e w' => (∃ s : ByteArray, e = .returned (.string s) ∧ s.size ≤ 4000) ∧ Below w.heap.size w w' := by
  have H : Hid (Rdr.IsRow .u8 w a len cap zs) := h
  clear h
  go_enter Try.func13, Try.ntmps13
  go_wp2_with fail
  refine (Rdr.open_any _ _ _ _ _ H.out).mono ?_
  rintro e w1 ⟨rfl, hr, hb⟩
  have R1 : Hid (Rd w1 w.heap.size) := hr
  have B1 : Hid (Below w.heap.size w w1) := hb
  have H1 : Hid (Rdr.IsRow .u8 w1 a len cap zs) := H.out.below hb
  clear hr hb H
  go_wp2_with fail
  refine (drawPacked_any _ _ _ _ _ H1.out).mono ?_
  rintro e w2 ⟨⟨s, rfl, hs⟩, hb2⟩
  have R2 : Hid (Rd w2 w.heap.size) := R1.out.kept (fun k hk => hb2.block k (by have := R1.out.lt; omega))
  have B2 : Hid (Below w.heap.size w w2) := B1.out.trans (hb2.mono B1.out.size)
  clear hb2 R1 B1 H1
  go_wp2_with fail
  refine (Paks.specPacked_any s _ (by omega)).mono ?_
  rintro e w3 ⟨rfl, hb3⟩
  have R3 : Hid (Rd w3 w.heap.size) := R2.out.kept (fun k hk => hb3.block k (by have := R2.out.lt; omega))
  have B3 : Hid (Below w.heap.size w w3) := B2.out.trans (hb3.mono B2.out.size)
  clear hb3 R2 B2
  have hz : (Paks.packV s).size ≤ 3000 := by
    unfold Paks.packV
    split
    · show (Pakp.pack (Paks.D s 0)).toArray.size ≤ _
      rw [List.size_toArray]
      have := (Pakq.small _ (Paks.D s 0) rfl).1
      rw [Paks.D_len] at this
      omega
    · exact Nat.zero_le _
  generalize Paks.packV s = t at *
  generalize Paks.packB s = pb at *
  go_wp2_with fail
  refine (Rdr.once_any _ _ _ R3.out (by decide) (by decide)).mono ?_
  rintro e w4 ⟨⟨o, rfl⟩, hp4⟩
  have B4 : Hid (Below w.heap.size w w4) := B3.out.trans (hp4.below (Nat.le_refl _) (Nat.le_of_lt R3.out.lt))
  have R4 : Hid (Rd w4 w.heap.size) := hp4.1
  clear hp4 B3 R3
  cases o with
  | false =>
    go_wp2
    go_ret
    exact ⟨⟨t, rfl, by omega⟩, B4.out⟩
  | true =>
    go_wp2_with fail
    refine (Draw.hurt_any _ _ _ R4.out (by omega)).mono ?_
    rintro e w5 ⟨⟨u, hu, rfl⟩, hp5⟩
    have B5 : Hid (Below w.heap.size w w5) := B4.out.trans (hp5.below (Nat.le_refl _) (Nat.le_of_lt R4.out.lt))
    clear hp5
    go_wp2
    go_ret
    exact ⟨⟨u, rfl, by omega⟩, B5.out⟩
end Go.Proofs.Ytbffchfadockmaa.DrawK
